/-
  Whatever the bytes: only whether choices are even matters for a run, one more choice for a way out of a loop does not, and runs are the model's. Conditions: none.
-/

import Derived.Test.YtcaklhempmlpgaaDrG
import Derived.Test.YtcaklhempmlpgaaRuG
import Derived.Test.YtcaklhempmlpgaaMuG
import Derived.WalkKit
import Derived.ProofKit
import Derived.OpenShut
import Derived.Lib.SmallJoins
namespace Go.Proofs.Ytcaklhempmlpgaa.fnRunEven
open Go.ChangeShapes Go.WideShapes Go.ChangeAt Go.RowKit Go.Deep Go.Joins
set_option linter.unusedVariables false

theorem rowI_form {w : World} {B : Nat} {v : Value} {xs : List Int} (h : RowI w B v xs) : ∃ A c, v = .slice A xs.length c ∧ xs.length ≤ c ∧ c ≤ maxLen := by
  obtain ⟨A, c, h1, h2, h3, _⟩ := own_form h.own
  exact ⟨A, c, h1, h2, h3⟩

theorem rowI_formN {w : World} {B n : Nat} {v : Value} {xs : List Int} (h : RowI w B v xs) (hn : xs.length = n) : ∃ A c, v = .slice A n c ∧ n ≤ c ∧ c ≤ maxLen := by
  obtain ⟨A, c, h1, h2, h3⟩ := rowI_form h
  subst hn
  exact ⟨A, c, h1, h2, h3⟩

theorem take_map_snoc {xs : List Int} {k : Nat} {v : Int} (h : xs[k]? = some v) : (xs.take (k + 1)).map (fun c : Int => c.tmod 2) = (xs.take k).map (fun c : Int => c.tmod 2) ++ [v.tmod 2] := by
  rw [List.take_add_one, h, List.map_append]
  rfl

abbrev PbK (PB : Nat) (u0 u1 : Value) (w : World) : Prop := w.cell? ⟨PB, 0, none⟩ = some u0 ∧ w.cell? ⟨PB, 1, none⟩ = some u1

theorem pbK_mk {PB : Nat} {u0 u1 : Value} {w : World} {t : TypeId} (h : w.heap[PB]? = some (.cells #[u0, u1] t (0, 0))) : PbK PB u0 u1 w := ⟨(cell_of_block h 0).trans rfl, (cell_of_block h 1).trans rfl⟩

set_option maxRecDepth 100000 in
set_option maxHeartbeats 2000000 in
theorem walk (n0 c0 : Nat) (A0 : Option Addr) (W : World) (hB : ByteV W W.heap.size n0 A0 c0) :
    Calls Try.prog 5 #[.slice A0 n0 c0] W fun e w' => e = .returned (.bool true) ∧ Below W.heap.size W w' := by
  have hnc := hB.1
  have hcm := hB.2.1
  unfold maxLen at hcm
  by_cases hn : 1048576 < n0
  · go_enter Try.func5, Try.ntmps5
    go_wp2_with fail
    go_ret
    exact ⟨rfl, Below.refl _ _⟩
  have e1 : decide (1048576 < (n0 : Int)) = false := decide_eq_false (by omega)
  have HD := Lib.hid (drawRunPath_any n0 c0 A0 W hB)
  clear hB
  go_enter Try.func5, Try.ntmps5
  go_wp2_with fail
  refine HD.out.mono ?_
  rintro E w1 ⟨ts, s, At, As, ct, cs, xs, A, c, q, rfl, hr1, ht1, hs1, hx1, hx8, hb1⟩
  have h1s := hb1.size
  obtain ⟨n, hn⟩ : ∃ n, ts.length = n := ⟨_, rfl⟩
  obtain ⟨m, hm⟩ : ∃ m, s.len = m := ⟨_, rfl⟩
  obtain ⟨l, hl⟩ : ∃ l, xs.length = l := ⟨_, rfl⟩
  rw [hn, hm, hl]
  rw [hl] at hx8
  have HN := Lib.hid hn
  have HM := Lib.hid hm
  have HL := Lib.hid hl
  have HSZ := Lib.hid hs1
  have hba := (Below.refl w1.heap.size w1).alloc (Nat.le_refl _) (.cells #[.slice At n ct, .slice As m cs] 26)
  have h2n := heap_alloc_new w1 (.cells #[.slice At n ct, .slice As m cs] 26)
  have h2z : w1.heap.size + 1 ≤ (w1.alloc (.cells #[.slice At n ct, .slice As m cs] 26)).heap.size := Nat.le_of_eq (by simp)
  obtain ⟨w2, hw2⟩ : ∃ w2, w1.alloc (.cells #[.slice At n ct, .slice As m cs] 26) = w2 := ⟨_, rfl⟩
  have T2 := Lib.hid (hr1.1.below hba (Nat.le_trans (Nat.le_refl _) hba.size))
  have R2 := Lib.hid (hr1.2.below hba (Nat.le_trans (Nat.le_refl _) hba.size))
  have X2 := Lib.hid (hx1.below hba (Nat.le_trans (Nat.le_refl _) hba.size))
  have B2 := Lib.hid (hb1.trans (hba.mono h1s))
  rw [hw2] at T2 R2 X2 B2 h2n h2z
  have P2 := Lib.hid h2n
  clear hn hm hl hba hr1 hx1 ht1 hs1 hb1 h2n HD
  obtain ⟨PB, hPB⟩ : ∃ PB, w1.heap.size = PB := ⟨_, rfl⟩
  rw [hPB] at P2 h2z h1s
  have hZl := runI_len_le (validB ts s) s xs q
  have HEV := Lib.hid (runI_even (validB ts s) s xs q)
  obtain ⟨⟨ys, b⟩, hZ⟩ : ∃ Z, runI (validB ts s) s xs q = Z := ⟨_, rfl⟩
  rw [hZ] at hZl HEV
  have HZ := Lib.hid hZ
  clear hZ
  simp only at hZl
  obtain ⟨p, hp⟩ : ∃ p, ys.length = p := ⟨_, rfl⟩
  have HP := Lib.hid hp
  rw [hp] at hZl
  clear hp
  have HC := implRunPath_any ts s At As ct cs xs A c q w2 T2.out R2.out X2.out
  rw [HN.out, HM.out, HL.out, HZ.out] at HC
  replace HC := Lib.hid HC
  have p0 : w2.cell? ⟨PB, 0, none⟩ = some (.slice At n ct) := (cell_of_block P2.out 0).trans rfl
  have p1 : w2.cell? ⟨PB, 1, none⟩ = some (.slice As m cs) := (cell_of_block P2.out 1).trans rfl
  go_upto_region 4 with (fail)
  clear hw2 hPB
  go_wp2_with fail
  refine HC.out.mono ?_
  rintro E w3 ⟨v3, rfl, hrow3, hb3⟩
  obtain ⟨A3, c3, hv3, hle3, hmx3⟩ := rowI_form hrow3
  subst hv3
  unfold maxLen at hmx3
  have hz3 := hb3.size
  have G3 := Lib.hid hrow3
  have T3 := Lib.hid (T2.out.below hb3 hz3)
  have R3 := Lib.hid (R2.out.below hb3 hz3)
  have X3 := Lib.hid (X2.out.below hb3 hz3)
  have P3 := Lib.hid ((hb3.block PB (by omega)).trans P2.out)
  have B3 := Lib.hid (B2.out.trans (hb3.mono (by omega)))
  try simp only at hrow3 hle3 hmx3 G3
  rw [HP.out] at hle3 G3 ⊢
  clear hrow3 hb3 HC p0 p1
  have HC := specRunPath_any ts s At As ct cs xs A c q w3 (by have := HSZ.out; omega) T3.out R3.out X3.out
  rw [HN.out, HM.out, HL.out, HZ.out] at HC
  replace HC := Lib.hid HC
  have p0 : w3.cell? ⟨PB, 0, none⟩ = some (.slice At n ct) := (cell_of_block P3.out 0).trans rfl
  have p1 : w3.cell? ⟨PB, 1, none⟩ = some (.slice As m cs) := (cell_of_block P3.out 1).trans rfl
  go_wp2_with fail
  refine HC.out.mono ?_
  rintro E w4 ⟨v4, rfl, hrow4, hb4⟩
  obtain ⟨A4, c4, hv4, hle4, hmx4⟩ := rowI_form hrow4
  subst hv4
  unfold maxLen at hmx4
  have hz4 := hb4.size
  have G4 := Lib.hid hrow4
  have T4 := Lib.hid (T3.out.below hb4 hz4)
  have R4 := Lib.hid (R3.out.below hb4 hz4)
  have X4 := Lib.hid (X3.out.below hb4 hz4)
  have P4 := Lib.hid ((hb4.block PB (by omega)).trans P3.out)
  have B4 := Lib.hid (B3.out.trans (hb4.mono (by omega)))
  try simp only at hrow4 hle4 hmx4 G4
  rw [HP.out] at hle4 G4 ⊢
  have G3 := Lib.hid (G3.out.below hb4)
  clear hrow4 hb4 HC p0 p1
  have eb2 : (b == b) = true := by simp
  obtain ⟨i0, hi, hi0, hi1, hi2⟩ := info_parts Try.infoInt
  have HI := Lib.hid hi
  have HZ0 := Lib.hid hi0
  have HZ1 := Lib.hid hi1
  have HZ2 := Lib.hid hi2
  have HR0 := Lib.hid (RowI.lit0 w4 w4.heap.size (Nat.le_refl _))
  have HB0 := Lib.hid ((Below.refl w4.heap.size w4).alloc (Nat.le_refl _) (.cells #[] 3))
  have hlc := X4.out.1
  have hlm := X4.out.2.1
  unfold maxLen at hlm
  rw [HL.out] at hlc
  clear hi hi0 hi1 hi2
  go_wp2_with fail
  go_loopw [10, 11] (fun o i wr => ∃ (k : Nat) (cur : List Int) (Ao : Option Addr) (co : Nat), i = .int .i64 (k : Int) ∧ o = .slice Ao cur.length co ∧ k ≤ l ∧ Hid (cur = (xs.take k).map (fun c : Int => c.tmod 2)) ∧ Hid (RowI wr w4.heap.size (.slice Ao cur.length co) cur) ∧ Hid (cur.length = k) ∧ Below w4.heap.size w4 wr) (fun _ i _ => l - (intOf i).toNat)
  case atStart => exact ⟨0, [], _, _, rfl, rfl, Nat.zero_le _, by unfold Hid; simp, HR0, rfl, HB0.out⟩
  case round =>
    obtain ⟨k, cur, Ao, co, rfl, rfl, hk, hcur, hR, hcl, hb⟩ := hrel
    clear HR0 HB0
    have hbz := hb.size
    have hcl8 : cur.length ≤ 8 := by rw [hcl.out]; omega
    obtain ⟨g, hg⟩ : ∃ g, cur.length = g := ⟨_, rfl⟩
    have HG := Lib.hid hg
    rw [hg] at hR hcl8 ⊢
    clear hg
    by_cases hlt : k < l
    · obtain ⟨bx, v, rfl, -, hbb, hx, hc⟩ := (X4.out.below hb hbz).elem (k := k) (by rw [HL.out]; exact hlt)
      have HT := Lib.hid (take_map_snoc hx)
      have HOWN : Hid (wr.ownsRow w4.heap.size 3 1 (.slice Ao g co) g (cur.map (Value.int .i64))) := by
        have := hR.out.own
        rwa [HG.out] at this
      clear hx
      go_wp2_with (at_builtin; refine wpList_append_lies _ rfl _ _ 23 rfl w4.heap.size 3 i0 (.int .i64 0) 1 8 Try.underlying23 HI.out HZ0.out HZ1.out HZ2.out rfl (by decide) _ _ _ rfl (HOWN.out.alloc _) ⟨_, 0, none⟩ 1 1 [.int .i64 (v.tmod 2)] rfl rfl ?la1 ?la2 (by decide) ?la3 ?la4 ?la5 _ rfl ?_)
      try (case la1 => exact news1 (by simp) rfl)
      try (case la2 => intro u hu; simp only [List.mem_cons, List.not_mem_nil, or_false] at hu; subst hu; rfl)
      try (case la3 => unfold maxLen; omega)
      try (case la4 => omega)
      try (case la5 => first | omega | (simp; omega))
      intro g2 cap2 w' hown' hgr hat hlt'
      have hR' : RowI w' w4.heap.size (.slice (some ⟨g2, 0, none⟩) (g + 1) cap2) (cur ++ [v.tmod 2]) := by
        refine RowI.snoc ?_
        rw [HG.out]
        exact hown'
      have HR' := Lib.hid hR'
      have hb' : Below w4.heap.size w4 w' := (hb.alloc hbz _).grown hgr (by simp; omega) (fun k hk => (HOWN.out.lt k hk).1)
      clear hown' hgr hat hR' HOWN
      go_wp2_with fail
      go_roundw
      case rel => exact ⟨k + 1, cur ++ [v.tmod 2], _, cap2, by go_num, by rw [List.length_append, HG.out]; rfl, by omega, by unfold Hid; rw [HT.out, hcur.out], by unfold Hid; rw [List.length_append, HG.out]; exact HR'.out, by unfold Hid; rw [List.length_append, hcl.out]; rfl, hb'⟩
      case measure => simp [intOf]; omega
    · obtain rfl : k = l := by omega
      have HCU : Hid (cur = xs.map (fun c : Int => c.tmod 2)) := by
        unfold Hid
        rw [hcur.out, List.take_of_length_le (by rw [HL.out]; exact Nat.le_refl _)]
      have T5 := T4.out.below hb hbz
      have R5 := R4.out.below hb hbz
      have P5 := (hb.block PB (by omega)).trans P4.out
      have B5 := Lib.hid (B4.out.trans (hb.mono (by omega)))
      have G5 := Lib.hid (G3.out.below hb)
      have H5 := Lib.hid (G4.out.below hb)
      have hK0 : PbK PB (.slice At n ct) (.slice As m cs) wr := pbK_mk P5
      have hK1 : PbK PB (.slice At n ct) (.slice As m cs) wr.drew := hK0
      have hba := (Below.refl wr.heap.size wr).alloc (Nat.le_refl _) (.cells #[.int .i64 1] 3)
      have hbad := hba.drew
      have hK2 : PbK PB (.slice At n ct) (.slice As m cs) (wr.alloc (.cells #[.int .i64 1] 3)).drew := pbK_mk ((hbad.block PB (heap_lt P5)).trans P5)
      have P5a := (hbad.block PB (heap_lt P5)).trans P5
      have HOWN := Lib.hid (hR.out.below hbad)
      have HIN : Hid (IntsV (wr.alloc (.cells #[.int .i64 1] 3)).drew 0 (wr.alloc (.cells #[.int .i64 1] 3)).drew.heap.size [1] (some ⟨wr.heap.size, 0, none⟩) 1) := by
        refine ⟨Nat.le_refl _, by unfold maxLen; omega, fun _ => ⟨_, rfl, Nat.zero_le _, by show wr.heap.size < (wr.alloc _).heap.size; simp, fun j v hv => ?_⟩⟩
        rw [add_block, Nat.zero_add]
        refine (cell_of_block (w := (wr.alloc (.cells #[.int .i64 1] 3)).drew) (heap_alloc_new wr _) j).trans ?_
        match j, hv with
        | 0, hv => simp at hv; subst hv; rfl
        | j + 1, hv => simp at hv
      have T5a := Lib.hid (T5.below hbad hbad.size)
      have R5a := Lib.hid (R5.below hbad hbad.size)
      have HB5a := Lib.hid hbad
      have HLL : Hid (cur.length + [(1 : Int)].length ≤ 2000000) := by
        unfold Hid; rw [HG.out]; simp; omega
      have HBB : Hid (w4.heap.size ≤ (wr.alloc (.cells #[.int .i64 1] 3)).drew.heap.size) := by
        unfold Hid; have := hbad.size; omega
      have HRUN : Hid (∀ (wa : World) (Av : Option Addr) (cv : Nat), Below w4.heap.size w4 wa → RowI wa w4.heap.size (.slice Av (g + 1) cv) (cur ++ [1]) → Calls Try.prog 9 #[.agg #[.slice At n ct, .slice As m cs], .slice Av (g + 1) cv, .int .i64 q] wa fun E w' => ∃ v, E = .returned (.tuple #[v, .bool b]) ∧ RowI w' wa.heap.size v ys ∧ Below wa.heap.size wa w') := by
        intro wa Av cv hb6 hown
        have HC := implRunPath_any ts s At As ct cs (cur ++ [1]) Av cv q wa (T4.out.below hb6 hb6.size) (R4.out.below hb6 hb6.size) hown.intsV
        have hlen : (cur ++ [1]).length = g + 1 := by rw [List.length_append, HG.out]; rfl
        rw [HN.out, HM.out, hlen, HCU.out, HEV.out] at HC
        exact HC
      clear hba hbad
      go_upto_region 11 with (fail)
      go_region_held3 (PbK PB (.slice At n ct) (.slice As m cs))
        (first | with_reducible exact hK0 | with_reducible exact hK1 | with_reducible exact hK2 | with_reducible exact hK3 | with_reducible exact hK4)
        (first
          | (refine step_append_ints rfl _ _ rfl rfl w4.heap.size (.slice Ao g co) cur (some ⟨wr.heap.size, 0, none⟩) 1 [1] 1 rfl (by simp [Act.eval]) (by simp [Act.eval]) HOWN.out HIN.out HLL.out HBB.out ?_; intro v' wa hown hgr hat; have hrow := hown; obtain ⟨Av, cv, hv⟩ := hrow.slice; rw [List.length_append, HG.out] at hv; have hv9 : v' = .slice Av (g + 1) cv := hv; clear hv; subst hv9; have hro : ∀ k, (Value.slice Ao g co).ownBlock = some k → w4.heap.size ≤ k := fun k hk => (HOWN.out.own.lt k hk).1; have hb6 := (hb.trans (HB5a.out.mono hbz)).grown hgr (by have := HB5a.out.size; omega) hro; have P6 := (hb6.block PB (heap_lt P4.out)).trans P4.out; have hK3 : PbK PB (.slice At n ct) (.slice As m cs) wa := pbK_mk P6; have hB6 := Lib.hid hb6; have HC := Lib.hid (HRUN.out wa Av cv hb6 hown); have G6 := Lib.hid (G3.out.below hb6); have H6 := Lib.hid (G4.out.below hb6); clear hown hrow hgr hro hb6)
          | (go_at_call 9; refine HC.out.mono ?_; rintro E w7 ⟨v7, rfl, hrow7, hb7⟩; have P7 := (hb7.block PB (heap_lt P6)).trans P6; have hK4 : PbK PB (.slice At n ct) (.slice As m cs) w7 := pbK_mk P7; obtain ⟨A7, c7, hv7, hle7, hmx7⟩ := rowI_formN hrow7 HP.out; subst hv7; have G7 := Lib.hid (G6.out.below hb7); have H7 := Lib.hid (H6.out.below hb7); have Q7 := Lib.hid hrow7; have HB7 := Lib.hid (B4.out.trans ((hB6.out.trans (hb7.mono (by have := hB6.out.size; omega))).mono (by omega))); clear hrow7 hb7))
      unfold maxLen at hmx7
      clear P7 hK0 hK1 hK2 hK3 hK4 HC HRUN T5 R5 P5 P5a P6
      have HBC := bcInts_any ys ys A3 A4 c3 c4 w7 G7.out.intsV H7.out.intsV
      rw [HP.out, decide_eq_true rfl] at HBC
      replace HBC := Lib.hid HBC
      go_wp2_with fail
      refine HBC.out.mono ?_
      rintro E w8 ⟨rfl, hb8⟩
      have G8 := Lib.hid (G7.out.below hb8)
      have Q8 := Lib.hid (Q7.out.below hb8)
      have B8 := Lib.hid (HB7.out.trans (hb8.mono (by have := HB7.out.size; omega)))
      clear hb8 HBC
      have HBC := bcInts_any ys ys A7 A3 c7 c3 w8 Q8.out.intsV G8.out.intsV
      rw [HP.out, decide_eq_true rfl] at HBC
      replace HBC := Lib.hid HBC
      go_wp2_with fail
      refine HBC.out.mono ?_
      rintro E w9 ⟨rfl, hb9⟩
      have B9 := Lib.hid (B8.out.trans (hb9.mono (by have := B8.out.size; omega)))
      clear hb9 HBC
      go_wp2_with fail
      go_ret
      exact ⟨rfl, B9.out⟩

theorem cellsByte : Try.prog.cellsOf 5 = 1 := by kernel_rfl

theorem read_bytes {H : Type} {enc : TypeId × Value → H} {W : World} {spare : Nat → Bool} {held : Bool} {fuel : Nat} {v : Value} {x : DataW H × List MemPlace} (h : DataW.trod enc Try.prog W 0 spare held fuel 22 [v] = some x) :
    ∃ (n : Nat) (A : Option Addr) (c : Nat), v = .slice A n c ∧ ByteV W W.heap.size n A c := by
  rcases DataW.trod_slice Try.underlying22 h with ⟨hcs, _⟩ | ⟨a, len, cap, elems, rest, n, _, hcs, _, _, hl, hm, hlen, hel, _⟩
  · injection hcs with hcs _
    exact ⟨0, none, 0, hcs, by simp, by simp [maxLen], fun h => absurd h (by simp)⟩
  · injection hcs with hcs _
    have hex : ∀ i, i < len → ∃ z : Int, W.cell? (a.add i) = some (.int .u8 z) ∧ 0 ≤ z ∧ z ≤ 255 := by
      intro i hi
      have h1 := hel i hi
      rw [cellsByte, Nat.mul_one, List.getElem?_eq_getElem (by omega)] at h1
      obtain ⟨cs', hc, ht⟩ := Option.bind_eq_some_iff.1 h1
      obtain ⟨_, _, hat⟩ := World.cells?_some hc
      obtain ⟨z, rfl, _, hwf⟩ := DataW.trod_int Try.underlying5 ht
      have hz : 0 ≤ z ∧ z ≤ 255 := by simpa [Lit.wf, IntKind.min, IntKind.max, IntKind.signed, IntKind.bits] using hwf
      exact ⟨z, by simpa [Addr.add] using hat 0 (by omega), hz.1, hz.2⟩
    refine ⟨len, some a, cap, hcs, hl, hm, fun h0 => ⟨a, rfl, ?_, hex⟩⟩
    obtain ⟨z, hz, _⟩ := hex 0 h0
    have := World.block_lt_of_cell? W _ hz
    rwa [block_add] at this

theorem own : ownKnob Try.prog.godebug = none := by kernel_rfl
theorem laidOut : laidOutB Try.prog = true := by kernel_rfl

set_option maxRecDepth 100000 in
theorem lifted (os : Os) (started : os.Started) (H : Type) (enc : TypeId × Value → H) :
    ReturnsInHanded {} Try.checked os 5 .any (Rows.fnRunEvenSpec.pre6 enc Try.prog Try.f5 Rows.fnRunEvenRow.domain false) (Rows.fnRunEvenSpec.post enc Try.prog Try.f5 false true false false) := by
  refine returnsInHanded_of_change (C := Try.checked) own started (by kernel_rfl) Try.func5
    (ChangeSpec.witness6 (enc := enc) (C := Try.checked) false ⟨#[], #[.slice none 0 0], []⟩ 8 (by kernel_rfl) (by kernel_rfl) (by kernel_rfl) (by kernel_rfl)) ?_
  intro W base args ds gs before hval0 hW hcnd _
  have hval : ∀ (j : Nat) t v, Try.f5.params[j]? = some t → args[j]? = some v → Value.okWide Try.prog W .any base t v := hval0
  have hW' := hW
  obtain ⟨p, q, hA0, hV, rfl, hfz, hnd⟩ := hW
  have hA : DataW.TrodAll enc Try.prog W 0 (fun _ => true) true Try.f5.params.toList args.toList ds p := hA0
  rw [Try.params5] at hA hval
  obtain ⟨v0, vs0, d0, ds0, p0, q0, hargs, rfl, rfl, h0, r0⟩ := trodAll_cons hA
  obtain ⟨rfl, rfl, rfl⟩ := trodAll_nil r0
  obtain rfl : args = #[v0] := by cases args; simp_all
  obtain ⟨rfl, rfl⟩ := trodVars_none hV
  have k0 := h0
  have lt0 : ∀ x ∈ p0, x.block < W.heap.size := by obtain ⟨m, hm⟩ := k0; exact DataW.trod_lt m _ _ _ hm
  obtain ⟨a0, len0, cap0, rfl⟩ := okWide_slice Try.underlying22 (hval 0 22 v0 rfl rfl)
  obtain ⟨fu0, hf0⟩ := h0
  obtain ⟨nb0, At0, ct0, hv0, hT0⟩ := read_bytes hf0
  injection hv0 with hv0 hv0' hv0''
  subst hv0 hv0' hv0''
  clear hA0 hval0
  simp only [List.append_nil] at hW'
  refine (walk _ _ _ W hT0).mono fun e W' ⟨he, bel⟩ => ?_
  subst he
  exact ⟨_, rfl, _, _, _, [], _, [], hW', trodAll_mk1 (shut_bool Try.underlying4 _), (trodAll_cons_mk (Below.trod laidOut (by kernel_rfl) (of_decide_eq_true (by kernel_rfl)) k0 bel lt0) trodAll_mk0), rfl, bel.frame _, fun h => by cases h⟩

theorem over : Rows.fnRunEvenRow.holds Try.pinned (OpenSpec.ofChange Rows.fnRunEvenSpec) :=
  OpenClaim.holds_of_wide 5 Try.f5 rfl rfl rfl rfl rfl rfl rfl ⟨rfl, rfl, rfl, rfl, rfl⟩ rfl rfl rfl rfl rfl (by kernel_rfl) Try.func5 (by kernel_rfl)
    (of_decide_eq_true (by kernel_rfl)) (by unfold Func.isWrapper; first | (rw [if_pos (by decide +kernel)]; kernel_rfl) | (rw [if_neg (by decide +kernel)]; exact ⟨rfl, rfl⟩))
    (fun os started H enc _ => lifted os started H enc)

theorem proved : Rows.FnRunEvenSaid :=
  over
#print axioms proved
end Go.Proofs.Ytcaklhempmlpgaa.fnRunEven
