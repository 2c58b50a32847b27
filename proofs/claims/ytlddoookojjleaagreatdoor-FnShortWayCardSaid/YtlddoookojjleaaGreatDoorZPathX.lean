/-
  The program's search of paths.
-/
import Derived.Test.YtlddoookojjleaaGreatDoorZBits
import Derived.Test.YtlddoookojjleaaGreatDoorZMem
import Derived.Test.YtlddoookojjleaaGreatDoorZBase
namespace Go.Proofs.YtlddoookojjleaaGreatDoor
open Go.RowKit Go.Deep
set_option linter.unusedVariables false

set_option maxRecDepth 100000 in
set_option maxHeartbeats 4000000 in
theorem pathsFrom_any (C a : Nat) (sets : Nat → Nat) (hs : ∀ k, sets k < 18446744073709551616) (hm : ∀ k, ∀ x ∈ bitsOf (sets k), x < 61) (ha : a < 61) (w : World) (hC : C < w.heap.size) (hS : SetsAt w C sets)
    (hT : TabAt 0 Lib.deBruijn64tab w) (hg : 0 < w.heap.size) :
    Calls Tryz.prog 19 #[.pointer (some ⟨C, 0, none⟩), .int .i64 a] w fun E w' => ∃ y : Nat, E = .returned (.int .u64 y) ∧ y < 18446744073709551616 ∧ (∀ x, (x < 64 ∧ y.testBit x = true) ↔ Reach (fun k => bitsOf (sets k)) a x) ∧ Below w.heap.size w w' := by
  have hsa := hS a ha
  have h1 := setList_any (sets a) (hs a) w hT hg
  have hst : Hid (FoundB (fun k => bitsOf (sets k)) a (fun x => x < 64 ∧ (sets a).testBit x = true) (bitsOf (sets a))) := FoundB.start (fun x => (mem_bitsOf (sets a) x).symm) (fun x => Iff.rfl)
  have HT := Lib.hid hT
  have HS := Lib.hid hS
  have HM := Lib.hid hm
  have HSL := Lib.hid hs
  have hsl := hs a
  clear hT hS hm hs
  go_enter Tryz.func19, Tryz.ntmps19
  go_wp2_with fail
  refine h1.mono ?_
  rintro E w1 ⟨v, rfl, hrow, hb1⟩
  have HR := Lib.hid hrow
  clear h1 hrow hsa
  go_wp2_with fail
  go_loopw [5, 6] (fun f p wr => ∃ (y : Nat) (W : List Nat), f = .int .u64 y ∧ y < 18446744073709551616 ∧ lenW p = W.length ∧ W.length ≤ (bitsOf y).length ∧ Hid (∀ x ∈ W, x < 61) ∧ Hid (FoundB (fun k => bitsOf (sets k)) a (fun x => x < 64 ∧ y.testBit x = true) W) ∧ Hid (RowI wr w.heap.size p (intsW W)) ∧ Below w.heap.size w wr) (fun f p _ => 2 * (64 - (bitsOf (intOf f).toNat).length) + lenW p)
  case atStart =>
    obtain ⟨A, c, hv⟩ := HR.out.slice
    refine ⟨sets a, bitsOf (sets a), rfl, hsl, ?_, Nat.le_refl _, HM.out a, hst, HR.out, hb1⟩
    rw [hv]
    simp [lenW, intsOf]
  case round =>
    clear hst HR hb1
    obtain ⟨y, W, rfl, hy, hlw, hWle, hW61, hF, hrow, hb⟩ := hrel
    have hbz := hb.size
    by_cases hW : W = []
    · subst hW
      obtain ⟨A, c, hv⟩ := hrow.out.slice
      have hl0 : (intsW []).length = 0 := rfl
      rw [hl0] at hv
      subst hv
      go_wp2_with fail
      go_ret
      exact ⟨y, rfl, hy, hF.out.last, hb⟩
    · obtain ⟨V, b, rfl⟩ := snoc_of hW
      obtain ⟨A, c, hv⟩ := hrow.out.slice
      have hrow2 : RowI wr w.heap.size (.slice A ((intsW V).length + 1) c) (intsW V ++ [(b : Int)]) := by
        have := hrow.out
        rw [hv, intsW_snoc] at this
        simpa using this
      have hv2 : u6 = .slice A (V.length + 1) c := by
        rw [hv, intsW_length, List.length_append]
        rfl
      obtain ⟨hshort, g, hA, hlc, hcm, hcell⟩ := RowI.short hrow2
      subst hA
      rw [intsW_length] at hshort hlc hcell
      unfold maxLen at hcm
      rw [List.length_append, List.length_cons, List.length_nil] at hWle
      have hy64 := bitsOf_length y
      have hb61 : b < 61 := hW61.out b (by simp)
      have hset := HS.out.below hC hb b hb61
      obtain ⟨z, hz, hzl, hzb⟩ := bits_andNot_u64 (sets b) y (HSL.out b) hy
      have hor := bits_or_u64_nat y (sets b) hy (HSL.out b)
      have hlist := setList_any z hzl wr (tab_below HT.out hg hb) (by omega)
      have hslc : ∀ W, (Instr.sliceAt 23 (.slice (some ⟨g, 0, none⟩) (V.length + 1) c) none (some (.int .i64 (V.length : Int))) none).run Tryz.prog W = .ok (.slice (some ⟨g, 0, none⟩) V.length c) W := by
        intro W
        have he : Tryz.prog.elem 23 = 3 := by kernel_rfl
        have hz : (sizeOf 3).run Tryz.prog W = .ok 1 W := by first | exact Tryz.sizeOf3 W | simp [Tryz.sizeOf3] | kernel_rfl
        rw [run_sliceAt_slice W 23 _ _ _ _ (by kernel_rfl), run_slice_h W 23 (some ⟨g, 0, none⟩) (V.length + 1) c (by kernel_rfl) .i64 (V.length : Int) (by omega) (by omega), he, hz]
        simp [sliced, Addr.add]
      have HSH := Lib.hid hshort
      have HZB := Lib.hid hzb
      have hl1 : ((V.length : Int) + 1 - 1) = (V.length : Int) := by omega
      clear hshort hzb hrow hrow2 hv hW hlw
      subst hv2
      go_wp2_with fail
      refine hlist.mono ?_
      rintro E w2 ⟨v2, rfl, hrow2, hb2⟩
      have HS2 := Lib.hid (HSH.out.below' hb2)
      have HR2 := Lib.hid hrow2
      have hbB := hb.trans (hb2.mono hbz)
      have hzB := hbB.size
      clear hlist hrow2 hb2 hset hcell
      go_wp2_with (at_builtin; refine wpList_append_rows rfl _ _ rfl w.heap.size wr.heap.size _ _ (intsW V) (intsOf z) (by rfl) rfl HS2.out HR2.out ?ra1 ?ra2 ?_)
      try (case ra1 => have := intsOf_length z; rw [intsW_length]; omega)
      try (case ra2 => omega)
      intro v' w' hown' hgr
      have hb' := hbB.grown hgr (by omega) (fun g hg' => ((RowI.own HS2.out).lt g hg').1)
      have HR' := Lib.hid hown'
      have hset := HS.out.below hC hb' b hb61
      clear hown' hgr
      go_wp2_with fail
      have hlen := bitsOf_or y (sets b) z HZB.out
      have hl64 := bitsOf_length (y ||| sets b)
      obtain ⟨A', c', hv'⟩ := HR'.out.slice
      have hlw' : lenW v' = (V ++ bitsOf z).length := by
        rw [hv']
        simp [lenW, intsW, intsOf]
      have hr := HR'.out
      refine ⟨⟨y ||| sets b, V ++ bitsOf z, rfl, ?_, hlw', ?_, ?_, ?_, ?_, hb'⟩, ?_⟩
      · have : y ||| sets b < 2 ^ 64 := Nat.or_lt_two_pow (by omega) (by have := HSL.out b; omega)
        omega
      · rw [List.length_append, hlen]
        omega
      · intro x hx
        rcases List.mem_append.mp hx with hx | hx
        · exact hW61.out x (List.mem_append.mpr (.inl hx))
        · have hx2 := (mem_bitsOf z x).mp hx
          have hx3 := HZB.out x hx2.1
          rw [hx2.2] at hx3
          have hx4 : (sets b).testBit x = true := by
            cases h : (sets b).testBit x
            · rw [h] at hx3; simp at hx3
            · rfl
          exact HM.out b x ((mem_bitsOf _ _).mpr ⟨hx2.1, hx4⟩)
      · refine FoundB.more hF.out (fun x => ?_) (fun x => ?_)
        · rw [mem_bitsOf, Nat.testBit_or, Bool.or_eq_true]
          constructor
          · rintro ⟨h1, h2 | h2⟩
            · exact .inl ⟨h1, h2⟩
            · exact .inr ⟨h1, h2⟩
          · rintro (⟨h1, h2⟩ | ⟨h1, h2⟩)
            · exact ⟨h1, .inl h2⟩
            · exact ⟨h1, .inr h2⟩
        · rw [mem_bitsOf, mem_bitsOf]
          constructor
          · rintro ⟨h1, h2⟩
            have h3 := HZB.out x h1
            rw [h2] at h3
            cases h4 : (sets b).testBit x <;> cases h5 : y.testBit x <;> rw [h4, h5] at h3 <;> simp at h3
            exact ⟨⟨h1, rfl⟩, fun h => by simp at h⟩
          · rintro ⟨⟨h1, h2⟩, h3⟩
            refine ⟨h1, ?_⟩
            rw [HZB.out x h1, h2]
            cases h5 : y.testBit x
            · rfl
            · exact absurd ⟨h1, h5⟩ h3
      · rw [intsW_append]
        exact HR'.out
      · rw [hlw', List.length_append]
        simp only [intOf, lenW, Int.toNat_natCast]
        rw [hlen]
        rw [hlen] at hl64
        omega

end Go.Proofs.YtlddoookojjleaaGreatDoor
