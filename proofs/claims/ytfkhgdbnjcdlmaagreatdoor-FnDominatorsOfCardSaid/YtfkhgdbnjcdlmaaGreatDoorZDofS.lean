/-
  The model's DominatorsOf.
-/
import Derived.Test.YtfkhgdbnjcdlmaaGreatDoorZL12D
import Derived.Test.YtfkhgdbnjcdlmaaGreatDoorZUpL
import Derived.Test.YtfkhgdbnjcdlmaaGreatDoorZDofI
namespace Go.Proofs.YtfkhgdbnjcdlmaaGreatDoor
open Go.RowKit Go.Deep
set_option linter.unusedVariables false

theorem domAB_iff {nx : Nat → List Nat} {a b : Nat} : domAB nx a b = true ↔ DomP nx a b := by
  unfold domAB
  simp

set_option maxRecDepth 100000 in
set_option maxHeartbeats 1000000 in
theorem specDominatorsOf_any (ts : List Int) (s : Sts) (At As : Option Addr) (ct cs : Nat) (a : Int) (w : World) (hsz : s.size ≤ 1048576) (hT : IntsV w 0 w.heap.size ts At ct) (hR : RepV w 0 w.heap.size s As cs) :
    Calls Tryz.prog 20 #[.agg #[.slice At ts.length ct, .slice As s.len cs], .int .i64 a] w fun E w' => ∃ v l, E = .returned v ∧ RowI w' w.heap.size v l ∧ AnsDm (validB ts s) s a l ∧ Below w.heap.size w w' := by
  have hb0 := (((Below.refl w.heap.size w).alloc (Nat.le_refl _) (.cells #[.slice At ts.length ct, .slice As s.len cs] 26)).alloc (by simp) (.cells #[] 3))
  have hT1 := hT.below hb0 (by simp; omega : w.heap.size ≤ ((w.alloc (.cells #[.slice At ts.length ct, .slice As s.len cs] 26)).alloc (.cells #[] 3)).heap.size)
  have hR1 := hR.below hb0 (by simp; omega : w.heap.size ≤ ((w.alloc (.cells #[.slice At ts.length ct, .slice As s.len cs] 26)).alloc (.cells #[] 3)).heap.size)
  have hz0 : ((w.alloc (.cells #[.slice At ts.length ct, .slice As s.len cs] 26)).alloc (.cells #[] 3)).heap.size = w.heap.size + 2 := by simp
  have hc0 : ((w.alloc (.cells #[.slice At ts.length ct, .slice As s.len cs] 26)).alloc (.cells #[] 3)).heap[w.heap.size]? = some (.cells #[.slice At ts.length ct, .slice As s.len cs] 26 (0, 0)) := ((Below.refl (w.alloc (.cells #[.slice At ts.length ct, .slice As s.len cs] 26)).heap.size (w.alloc (.cells #[.slice At ts.length ct, .slice As s.len cs] 26))).alloc (Nat.le_refl _) (.cells #[] 3)).block w.heap.size (by simp) |>.trans (heap_alloc_new w _)
  have HC := Lib.hid hc0
  have hS := l12Has_any ts s At As ct cs a a _ hsz hT1 hR1
  have hrow0 : RowI ((w.alloc (.cells #[.slice At ts.length ct, .slice As s.len cs] 26)).alloc (.cells #[] 3)) w.heap.size (.slice (some ⟨w.heap.size + 1, 0, none⟩) 0 0) [] := by
    have := World.ownsRow_lit (base := w.heap.size) (e := 3) (size := 1) (w.alloc (.cells #[.slice At ts.length ct, .slice As s.len cs] 26)) #[] 0 (by simp) (by simp [maxLen]) rfl
    have hz : (w.alloc (.cells #[.slice At ts.length ct, .slice As s.len cs] 26)).heap.size = w.heap.size + 1 := by simp
    rw [hz] at this
    exact this
  have HROW0 := Lib.hid hrow0
  have HZ := Lib.hid hz0
  clear hz0 hrow0 hT1 hR1 hc0
  cases hh : hasB (pointsB (validB ts s) s) a a
  · rw [hh] at hS
    have hans : Hid (AnsDm (validB ts s) s a []) := by
      refine .inr ⟨?_, rfl⟩
      rintro ⟨h1, h2, h3⟩
      have : hasB (pointsB (validB ts s) s) a a = true := by
        rw [h1]
        exact decide_eq_true (by simp only [pointsB, if_true]; exact ⟨h2, h3, h2, h3⟩)
      rw [hh] at this
      cases this
    clear hh
    go_enter Tryz.func20, Tryz.ntmps20
    go_wp2_with fail
    refine hS.mono ?_
    rintro E w1 ⟨rfl, hb1⟩
    rw [HZ.out] at hb1
    have hbw : Below w.heap.size w w1 := hb0.trans (hb1.mono (by omega))
    have HR0 : Hid (RowI w1 w.heap.size (.slice (some ⟨w.heap.size + 1, 0, none⟩) 0 0) []) := HROW0.out.below (by rw [HZ.out]; exact hb1)
    clear hb1 hS HROW0
    go_wp2_with fail
    go_ret
    exact ⟨_, [], rfl, HR0.out, hans.out, hbw⟩
  rw [hh] at hS
  have hin := hh
  simp only [hasB, decide_eq_true_eq] at hin
  obtain ⟨hv, hpb⟩ : validB ts s = true ∧ pointsB (validB ts s) s = progPts s := by
    cases hv : validB ts s
    · rw [hv] at hin
      simp [pointsB] at hin
      omega
    · exact ⟨rfl, by simp [pointsB]⟩
  rw [hpb] at hin
  have hD := progPts_ok s (valid_ok hv).2.1
  have hle := progPts_61 hv
  have h30 := valid_size hv
  have hA := progPts_asc s
  have hans : Hid (∀ l, IsPathsB (fun x => DomP (nextN (progPts s)) x a.toNat) l → AnsDm (validB ts s) s a l) := fun l h => .inl ⟨hv, hin.1, hin.2.1, h⟩
  obtain ⟨a, rfl⟩ : ∃ n : Nat, a = (n : Int) := ⟨a.toNat, by omega⟩
  have ha : a < (progPts s).length := by omega
  rw [Int.toNat_natCast] at hans
  have hL9 : Hid (∀ w1 : World, Below w.heap.size w w1 → Calls Tryz.prog 39 #[.agg #[.slice At ts.length ct, .slice As s.len cs]] w1 fun E w' => ∃ v, E = .returned v ∧ PRow w' w1.heap.size v (progPts s) ∧ Below w1.heap.size w1 w') := fun w1 hbw => l2Points_any ts s At As ct cs w1 (by omega) (hR.below hbw hbw.size)
  generalize progPts s = ds at hD hle ha hA hans hL9
  generalize s.npts = q at hD
  have HD := Lib.hid hD
  have HA := Lib.hid hA
  obtain ⟨i0, hi, hzz0, hzz1, hzz2⟩ := info_parts Tryz.infoInt
  have HI := Lib.hid hi
  have HZ0 := Lib.hid hzz0
  have HZ1 := Lib.hid hzz1
  have HZ2 := Lib.hid hzz2
  clear hi hzz0 hzz1 hzz2 hh hpb hv hD hA hin
  go_enter Tryz.func20, Tryz.ntmps20
  go_wp2_with fail
  refine hS.mono ?_
  rintro E w0 ⟨rfl, hb1⟩
  have hb1' := hb1.block w.heap.size (by simp; omega)
  rw [HC.out] at hb1'
  have d0 : w0.cell? ⟨w.heap.size, 0, none⟩ = some (.slice At ts.length ct) := (cell_of_block hb1' 0).trans rfl
  have d1 : w0.cell? ⟨w.heap.size, 1, none⟩ = some (.slice As s.len cs) := (cell_of_block hb1' 1).trans rfl
  rw [HZ.out] at hb1
  have hs0 := hb1.size
  rw [HZ.out] at hs0
  have hbw0 : Below w.heap.size w w0 := hb0.trans (hb1.mono (by omega))
  have HR00 : Hid (RowI w0 w.heap.size (.slice (some ⟨w.heap.size + 1, 0, none⟩) 0 0) []) := HROW0.out.below (by rw [HZ.out]; exact hb1)
  have hL := hL9.out w0 hbw0
  clear hb1 hS HROW0 hb1' hL9
  go_wp2_with fail
  refine hL.mono ?_
  rintro E w1 ⟨v, rfl, hP, hb2⟩
  have hbw := hbw0.trans (hb2.mono hbw0.size)
  have hs1 : w.heap.size + 2 ≤ w1.heap.size := by have := hb2.size; omega
  obtain ⟨g, cap, hv, hgB, hgl, -, -⟩ := hP.form (by omega)
  subst hv
  have HP := Lib.hid hP
  have HR0 : Hid (RowI w1 w.heap.size (.slice (some ⟨w.heap.size + 1, 0, none⟩) 0 0) []) := HR00.out.below hb2
  clear hP hb2 hL HR00 d0 d1
  have HOWN0 : Hid (∀ k, (Value.slice (some ⟨w.heap.size + 1, 0, none⟩) 0 0).ownBlock = some k → k = w.heap.size + 1) := by
    intro k hk
    have : w.heap.size + 1 = k := by simpa [Value.ownBlock] using hk
    exact this.symm
  have hB0 : w.heap.size + 2 ≤ w0.heap.size := hs0
  go_wp2_with fail
  have hgl1 : g < w1.heap.size := hgl
  go_loopw [5, 7] (fun o i wr => ∃ (k : Nat) (l : List Int), i = .int .i64 k ∧ k ≤ ds.length ∧ Hid (RowI wr w.heap.size o l) ∧ Hid (UpTo (fun x => DomP (nextN ds) x a) k l) ∧ Onto w1 wr (.slice (some ⟨w.heap.size + 1, 0, none⟩) 0 0) o) (fun _ i _ => ds.length - (intOf i).toNat)
  case atStart => exact ⟨0, [], rfl, Nat.zero_le _, HR0, UpTo.zero _, Onto.refl _ _⟩
  case round =>
    clear HR0
    obtain ⟨k, l, rfl, hk, hrow, hup, hO⟩ := hrel
    obtain ⟨Ao, co, ho⟩ := hrow.out.slice
    subst ho
    have hzr := hO.size
    have hbr : Below w.heap.size w1 wr := hO.belowV (by omega) (fun k hk => by have := HOWN0.out k hk; omega)
    have hbW := hbw.trans hbr
    have hPr := HP.out.ontoV hO (fun k hk => by have := HOWN0.out k hk; omega)
    by_cases hlt : k < ds.length
    · have hd3 : decide ((k : Int) < (ds.length : Int)) = true := decide_eq_true (by omega)
      have hl2 := l12Dominates_any q k a g cap w0.heap.size ds wr HD.out hle hlt ha (by omega) hPr
      have hll := hup.out.length
      clear hPr
      go_wp2_with fail
      refine hl2.mono ?_
      rintro E w2 ⟨rfl, hb2⟩
      have hs2 := hb2.size
      have hRW := Lib.hid (hrow.out.below hb2)
      have hO2 := hO.trans (Onto.of_below hb2 (Value.slice Ao l.length co))
      clear hl2 hrow hO
      cases hdk : domAB (nextN ds) k a
      · have hno : ¬ DomP (nextN ds) k a := fun h => by
          have := domAB_iff.mpr h
          rw [hdk] at this
          cases this
        clear hdk
        go_wp2_with fail
        refine ⟨⟨k + 1, l, by simp, by omega, hRW, hup.out.no hno, hO2⟩, ?_⟩
        simp only [intOf]
        omega
      · have hyes : DomP (nextN ds) k a := domAB_iff.mp hdk
        clear hdk
        go_wp2_with (at_builtin; refine wpList_append_lies _ rfl _ _ 23 rfl w.heap.size 3 i0 (.int .i64 0) 1 8 Tryz.underlying23 HI.out HZ0.out HZ1.out HZ2.out rfl (by decide) _ _ _ rfl ((RowI.own hRW.out).alloc _) ⟨_, 0, none⟩ 1 1 [.int .i64 (k : Int)] rfl rfl ?sa1 ?sa2 (by decide) ?sa3 ?sa4 ?sa5 _ rfl ?_)
        try (case sa1 => exact news1 (by simp) rfl)
        try (case sa2 => rfl)
        try (case sa2 => intro u hu; simp only [List.mem_cons, List.not_mem_nil, or_false] at hu; subst hu; rfl)
        try (case sa3 => unfold maxLen; omega)
        try (case sa4 => omega)
        try (case sa5 => first | omega | (simp; omega) | (simp only [World.heap_size_alloc]; omega) | (have := hb2.size; have := hbW.size; simp; omega))
        intro g2 cap2 w' hown' hg hat hlt'
        have hbA := (Below.refl w2.heap.size w2).alloc (Nat.le_refl _) (.cells #[Value.int .i64 (k : Int)] 3)
        have hO3 := (Onto.of_below hbA (Value.slice Ao l.length co)).trans (ontoV_of (n := l.length + 1) (cap := cap2) hg (hat.imp id fun e => e.trans (by simp)))
        have HO' := Lib.hid (hO2.trans hO3)
        have HR' : Hid (RowI w' w.heap.size (.slice (some ⟨g2, 0, none⟩) (l.length + 1) cap2) (l ++ [(k : Int)])) := RowI.snoc hown'
        clear hown' hg hat hbA hO2 hO3
        go_wp2_with fail
        refine ⟨⟨k + 1, l ++ [(k : Int)], by simp, by omega, HR', hup.out.yes hyes, HO'.out⟩, ?_⟩
        simp only [intOf]
        omega
    · have hke : k = ds.length := by omega
      subst hke
      have hd4 : decide ((ds.length : Int) < (ds.length : Int)) = false := decide_eq_false (by omega)
      clear hPr
      go_wp2_with fail
      go_ret
      exact ⟨_, l, rfl, hrow.out, hans.out _ (hup.out.toB (by omega) (fun x hx => by have := hx.le HA.out ha; omega)), hbW⟩

end Go.Proofs.YtfkhgdbnjcdlmaaGreatDoor
