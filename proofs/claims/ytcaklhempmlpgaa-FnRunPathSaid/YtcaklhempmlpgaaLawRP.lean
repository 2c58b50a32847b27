/-
  Whatever the bytes: a run leads from point to point, from the first to the last or until it is cut off, and runs are the model's. Conditions: none.
-/

import Derived.Test.YtcaklhempmlpgaaDrG
import Derived.Test.YtcaklhempmlpgaaPoG
import Derived.WalkKit
import Derived.ProofKit
import Derived.OpenShut
import Derived.Lib.SmallJoins
namespace Go.Proofs.Ytcaklhempmlpgaa.fnRunPath
open Go.ChangeShapes Go.WideShapes Go.ChangeAt Go.RowKit Go.Deep Go.Joins
set_option linter.unusedVariables false

theorem rowI_formN {w : World} {B n : Nat} {v : Value} {xs : List Int} (h : RowI w B v xs) (hn : xs.length = n) : ∃ A c, v = .slice A n c ∧ n ≤ c ∧ c ≤ maxLen := by
  obtain ⟨A, c, h1, h2, h3, _⟩ := own_form h.own
  subst hn
  exact ⟨A, c, h1, h2, h3⟩

theorem rowI_form {w : World} {B : Nat} {v : Value} {xs : List Int} (h : RowI w B v xs) : ∃ A c, v = .slice A xs.length c ∧ xs.length ≤ c ∧ c ≤ maxLen := rowI_formN h rfl

/-- Two cells of a run, and the list of a point. -/
abbrev PtK (b1 : Nat) (g k j : Nat) (u : Value) (a2 : Int) (w : World) : Prop := w.cell? ⟨b1, k, none⟩ = some (.int .i64 (j : Int)) ∧ w.cell? ⟨b1, k + 1, none⟩ = some (.int .i64 a2) ∧ w.cell? ⟨g, j * 5 + 4, none⟩ = some u

theorem PtK.below {b1 : Nat} {g k j : Nat} {u : Value} {a2 : Int} {w w' : World} (h : PtK b1 g k j u a2 w) (hb : Below w.heap.size w w') (h1 : b1 < w.heap.size) (h2 : g < w.heap.size) : PtK b1 g k j u a2 w' :=
  ⟨(hb.cell h1).trans h.1, (hb.cell h1).trans h.2.1, (hb.cell h2).trans h.2.2⟩

theorem run_fact {ts : List Int} {s : Sts} {xs : List Int} {q : Int} {ys : List Int} {b : Bool} (h : runI (validB ts s) s xs q = (ys, b)) (hne : ys ≠ []) :
    ∃ Q : Nat, pointsB (validB ts s) s = progPts s ∧ (progPts s).length = Q + 1 ∧ Q ≤ 1000 ∧ 0 ≤ q ∧ RunFact (progPts s) Q (ys, b) 0 q.toNat := by
  unfold runI at h
  by_cases hc : validB ts s = true ∧ 0 ≤ q ∧ q ≤ 1000
  · rw [if_pos hc] at h
    obtain ⟨hv, h0, h1⟩ := hc
    obtain ⟨hk1, hok, hsz⟩ := valid_ok hv
    have hP := progPts_ok s hok
    have hn := s.npts_le
    refine ⟨s.npts, by simp [pointsB, hv], hP.1, by omega, h0, ?_⟩
    have := runP_fact hP q.toNat 0 xs (Nat.zero_le _)
    rw [h] at this
    exact this
  · rw [if_neg hc] at h
    injection h with h1 h2
    exact absurd h1.symm hne

set_option maxRecDepth 100000 in
set_option maxHeartbeats 2000000 in
theorem walk (n0 c0 : Nat) (A0 : Option Addr) (W : World) (hB : ByteV W W.heap.size n0 A0 c0) :
    Calls Try.prog 3 #[.slice A0 n0 c0] W fun e w' => e = .returned (.bool true) ∧ Below W.heap.size W w' := by
  have hnc := hB.1
  have hcm := hB.2.1
  unfold maxLen at hcm
  by_cases hn : 1048576 < n0
  · go_enter Try.func3, Try.ntmps3
    go_wp2_with fail
    go_ret
    exact ⟨rfl, Below.refl _ _⟩
  have e1 : decide (1048576 < (n0 : Int)) = false := decide_eq_false (by omega)
  have HD := Lib.hid (drawRunPath_any n0 c0 A0 W hB)
  clear hB
  go_enter Try.func3, Try.ntmps3
  go_wp2_with fail
  refine HD.out.mono ?_
  rintro E w1 ⟨ts, s, At, As, ct, cs, xs, A, c, q, rfl, hr1, ht1, hs1, hx1, hx8, hb1⟩
  have h1s := hb1.size
  obtain ⟨n, hn⟩ : ∃ n, ts.length = n := ⟨_, rfl⟩
  obtain ⟨m, hm⟩ : ∃ m, s.len = m := ⟨_, rfl⟩
  obtain ⟨l, hl⟩ : ∃ l, xs.length = l := ⟨_, rfl⟩
  rw [hn, hm, hl]
  rw [hl] at hx8
  have HN := Lib.hid hn
  have HM := Lib.hid hm
  have HL := Lib.hid hl
  have HSZ := Lib.hid hs1
  have hba := (Below.refl w1.heap.size w1).alloc (Nat.le_refl _) (.cells #[.slice At n ct, .slice As m cs] 26)
  have h2n := heap_alloc_new w1 (.cells #[.slice At n ct, .slice As m cs] 26)
  have h2z : w1.heap.size + 1 ≤ (w1.alloc (.cells #[.slice At n ct, .slice As m cs] 26)).heap.size := Nat.le_of_eq (by simp)
  obtain ⟨w2, hw2⟩ : ∃ w2, w1.alloc (.cells #[.slice At n ct, .slice As m cs] 26) = w2 := ⟨_, rfl⟩
  have T2 := Lib.hid (hr1.1.below hba (Nat.le_trans (Nat.le_refl _) hba.size))
  have R2 := Lib.hid (hr1.2.below hba (Nat.le_trans (Nat.le_refl _) hba.size))
  have X2 := Lib.hid (hx1.below hba (Nat.le_trans (Nat.le_refl _) hba.size))
  have B2 := Lib.hid (hb1.trans (hba.mono h1s))
  rw [hw2] at T2 R2 X2 B2 h2n h2z
  have P2 := Lib.hid h2n
  clear hn hm hl hba hr1 hx1 ht1 hs1 hb1 h2n HD
  obtain ⟨PB, hPB⟩ : ∃ PB, w1.heap.size = PB := ⟨_, rfl⟩
  rw [hPB] at P2 h2z h1s
  have hZl := runI_len_le (validB ts s) s xs q
  have HF : Hid (∀ ys b, runI (validB ts s) s xs q = (ys, b) → ys ≠ [] → ∃ Q : Nat, pointsB (validB ts s) s = progPts s ∧ (progPts s).length = Q + 1 ∧ Q ≤ 1000 ∧ 0 ≤ q ∧ RunFact (progPts s) Q (ys, b) 0 q.toNat) := fun ys b h1 h2 => run_fact h1 h2
  obtain ⟨⟨ys, b⟩, hZ⟩ : ∃ Z, runI (validB ts s) s xs q = Z := ⟨_, rfl⟩
  rw [hZ] at hZl
  have HZ := Lib.hid hZ
  clear hZ
  simp only at hZl
  obtain ⟨p, hp⟩ : ∃ p, ys.length = p := ⟨_, rfl⟩
  have HP := Lib.hid hp
  rw [hp] at hZl
  clear hp
  have HC := implRunPath_any ts s At As ct cs xs A c q w2 T2.out R2.out X2.out
  rw [HN.out, HM.out, HL.out, HZ.out] at HC
  replace HC := Lib.hid HC
  have p0 : w2.cell? ⟨PB, 0, none⟩ = some (.slice At n ct) := (cell_of_block P2.out 0).trans rfl
  have p1 : w2.cell? ⟨PB, 1, none⟩ = some (.slice As m cs) := (cell_of_block P2.out 1).trans rfl
  go_upto_region 4 with (fail)
  clear hw2 hPB
  go_wp2_with fail
  refine HC.out.mono ?_
  rintro E w3 ⟨v3, rfl, hrow3, hb3⟩
  obtain ⟨A3, c3, hv3, hle3, hmx3⟩ := rowI_form hrow3
  subst hv3
  unfold maxLen at hmx3
  have hz3 := hb3.size
  have G3 := Lib.hid hrow3
  have T3 := Lib.hid (T2.out.below hb3 hz3)
  have R3 := Lib.hid (R2.out.below hb3 hz3)
  have X3 := Lib.hid (X2.out.below hb3 hz3)
  have P3 := Lib.hid ((hb3.block PB (by omega)).trans P2.out)
  have B3 := Lib.hid (B2.out.trans (hb3.mono (by omega)))
  try simp only at hrow3 hle3 hmx3 G3
  rw [HP.out] at hle3 G3 ⊢
  clear hrow3 hb3 HC p0 p1
  have HC := specRunPath_any ts s At As ct cs xs A c q w3 (by have := HSZ.out; omega) T3.out R3.out X3.out
  rw [HN.out, HM.out, HL.out, HZ.out] at HC
  replace HC := Lib.hid HC
  have p0 : w3.cell? ⟨PB, 0, none⟩ = some (.slice At n ct) := (cell_of_block P3.out 0).trans rfl
  have p1 : w3.cell? ⟨PB, 1, none⟩ = some (.slice As m cs) := (cell_of_block P3.out 1).trans rfl
  go_wp2_with fail
  refine HC.out.mono ?_
  rintro E w4 ⟨v4, rfl, hrow4, hb4⟩
  obtain ⟨A4, c4, hv4, hle4, hmx4⟩ := rowI_form hrow4
  subst hv4
  unfold maxLen at hmx4
  have hz4 := hb4.size
  have G4 := Lib.hid hrow4
  have T4 := Lib.hid (T3.out.below hb4 hz4)
  have R4 := Lib.hid (R3.out.below hb4 hz4)
  have X4 := Lib.hid (X3.out.below hb4 hz4)
  have P4 := Lib.hid ((hb4.block PB (by omega)).trans P3.out)
  have B4 := Lib.hid (B3.out.trans (hb4.mono (by omega)))
  try simp only at hrow4 hle4 hmx4 G4
  rw [HP.out] at hle4 G4 ⊢
  have G3 := Lib.hid (G3.out.below hb4)
  clear hrow4 hb4 HC p0 p1
  have eb : (b != b) = false := by simp
  have eb2 : (b == b) = true := by simp
  have HBC := bcInts_any ys ys A3 A4 c3 c4 w4 G3.out.intsV G4.out.intsV
  rw [HP.out, decide_eq_true rfl] at HBC
  replace HBC := Lib.hid HBC
  go_wp2_with fail
  refine HBC.out.mono ?_
  rintro E w5 ⟨rfl, hb5⟩
  have hz5 := hb5.size
  have G3 := Lib.hid (G3.out.below hb5)
  have G4 := Lib.hid (G4.out.below hb5)
  have T5 := Lib.hid (T4.out.below hb5 hz5)
  have R5 := Lib.hid (R4.out.below hb5 hz5)
  have P5 := Lib.hid ((hb5.block PB (by omega)).trans P4.out)
  have B5 := Lib.hid (B4.out.trans (hb5.mono (by omega)))
  clear hb5 HBC
  by_cases hp0 : p = 0
  · subst hp0
    have HBC := bcInts_any ys ys A3 A4 c3 c4 w5 G3.out.intsV G4.out.intsV
    rw [HP.out, decide_eq_true rfl] at HBC
    replace HBC := Lib.hid HBC
    go_wp2_with fail
    refine HBC.out.mono ?_
    rintro E w7 ⟨rfl, hb7⟩
    have B7 := Lib.hid (B5.out.trans (hb7.mono (by omega)))
    clear hb7 HBC
    go_wp2_with fail
    go_ret
    exact ⟨rfl, B7.out⟩
  obtain ⟨p', rfl⟩ : ∃ p', p = p' + 1 := ⟨p - 1, by omega⟩
  clear hp0
  obtain ⟨Q, hpt, hQ, hQ1, hq0, hfact⟩ := HF.out ys b HZ.out (by intro e; have := HP.out; rw [e] at this; simp at this)
  obtain ⟨b1, hb1A, hb1l⟩ : ∃ b1, A3 = some ⟨b1, 0, none⟩ ∧ b1 < w5.heap.size := by
    obtain ⟨A', c', hv', -, -, hz'⟩ := own_form G3.out.own
    obtain ⟨g', hg', -, hl'⟩ := hz' (by rw [HP.out]; omega)
    injection hv' with e1 e2 e3
    exact ⟨g', e1.trans hg', hl'⟩
  subst hb1A
  have HFA := Lib.hid hfact
  have HQ := Lib.hid hQ
  have HC := implPointsOf_any ts s At As ct cs w5 T5.out R5.out
  rw [HN.out, HM.out, hpt] at HC
  replace HC := Lib.hid HC
  clear hfact hQ hpt HF
  have p0 : w5.cell? ⟨PB, 0, none⟩ = some (.slice At n ct) := (cell_of_block P5.out 0).trans rfl
  have p1 : w5.cell? ⟨PB, 1, none⟩ = some (.slice As m cs) := (cell_of_block P5.out 1).trans rfl
  have npe : ((p' : Int) + 1 == 0) = false := by simp; omega
  go_wp2_with fail
  refine HC.out.mono ?_
  rintro E w6 ⟨v, us, rfl, hrow, hb6⟩
  have hul := hrow.1
  obtain ⟨g, cap, rfl, hg1, hg2, hcap1, hcap2, -, -, hcells⟩ := hrow.form (by rw [HQ.out]; omega)
  rw [HQ.out] at hul hcap1
  have hz6 := hb6.size
  have HUL := Lib.hid hul
  have HCE := Lib.hid hcells
  have I3 := Lib.hid (G3.out.below hb6).intsV
  have B6 := Lib.hid (B5.out.trans (hb6.mono (by omega)))
  unfold maxLen at hcap2
  clear hrow hcells HC p0 p1 hul hb6
  rw [HQ.out]
  go_wp2_with fail
  go_loopw [11] (fun i wr => ∃ k : Nat, i = .int .i64 ((k : Int) + 1) ∧ k ≤ p' ∧ Below w6.heap.size w6 wr) (fun i _ => p' + 1 - (intOf i).toNat)
  case atStart => exact ⟨0, rfl, Nat.zero_le _, Below.refl _ _⟩
  case round =>
    obtain ⟨k, rfl, hk, hb⟩ := hrel
    have hbz := hb.size
    by_cases hlt : k < p'
    · obtain ⟨b0, a, heq0, -, hbb, hx, hc⟩ := (I3.out.below hb hbz).elem (k := k) (by rw [HP.out]; omega)
      obtain ⟨b1', a2, heq, -, -, hx2, hc2⟩ := (I3.out.below hb hbz).elem (k := k + 1) (by rw [HP.out]; omega)
      have heq' := Option.some.inj heq
      subst heq'
      have heq0' := Option.some.inj heq0
      subst heq0'
      rw [add_block, Nat.zero_add] at hc hc2
      have h01 : (0 : Int) ≤ (k : Int) + 1 := by omega
      have h02 : (k : Int) + 1 < (p' : Int) + 1 := by omega
      have h03 : (k : Int) < (p' : Int) := by omega
      obtain ⟨d, ha0, hd, hmem⟩ := HFA.out.link k a a2 hx hx2
      obtain ⟨j, rfl⟩ := Int.eq_ofNat_of_zero_le ha0
      rw [Int.toNat_natCast] at hd
      have hj : j < Q + 1 := by rw [← HQ.out]; exact (List.getElem?_eq_some_iff.1 hd).1
      obtain ⟨u, hu⟩ : ∃ u, us[j]? = some u := ⟨us[j]'(by rw [HUL.out]; exact hj), List.getElem?_eq_getElem _⟩
      obtain ⟨⟨-, -, -, -, c4⟩, hr⟩ := HCE.out j d u hd hu
      obtain ⟨Au, cu, hue, -, -⟩ := rowI_form hr
      subst hue
      have c4' := (hb.cell hg2).trans c4
      have hbd : Below wr.heap.size wr wr.drew := (Below.refl wr.heap.size wr).drew
      have HCI := bcIn_any d.next a2 Au cu wr.drew ((hr.below hb).below hbd).intsV
      rw [decide_eq_true hmem] at HCI
      replace HCI := Lib.hid HCI
      obtain ⟨dl, hdl⟩ : ∃ dl, d.next.length = dl := ⟨_, rfl⟩
      rw [hdl] at HCI c4 c4'
      have f1 : IntKind.i64.wrap ((k : Int) + 1 - 1) = (k : Int) := by rw [Int.add_sub_cancel]; exact IntWalk.i64_in _ (by omega)
      have f2 : IntKind.i64.wrap (k : Int) = (k : Int) := IntWalk.i64_in _ (by omega)
      have f3 : IntKind.i64.wrap ((k : Int) + 1 + 1) = (k : Int) + 1 + 1 := IntWalk.i64_in _ (by omega)
      have hj' : (j : Int) < (Q : Int) + 1 := by omega
      have hk1 : k < p' + 1 := by omega
      have hk2 : (k : Int) < (p' : Int) + 1 := by omega
      have hS0 : PtK b1 g k j (.slice Au dl cu) a2 wr := ⟨hc, hc2, c4'⟩
      have hSd : PtK b1 g k j (.slice Au dl cu) a2 wr.drew := hS0
      clear hx hx2 hd hmem hu hr hdl heq heq0 ha0 c4 c4' hc hc2
      go_upto_region 12 with (fail)
      go_region_held3 (PtK b1 g k j (.slice Au dl cu) a2)
        (first | with_reducible exact hS0 | with_reducible exact hSd | with_reducible exact hS7)
        ((go_at_call 13; (with_reducible refine HCI.out.mono ?_); rintro E w7 ⟨rfl, hb7⟩; have hS7 : PtK b1 g k j (.slice Au dl cu) a2 w7 := PtK.below hSd hb7 (by show _ < wr.heap.size; omega) (by show _ < wr.heap.size; exact Nat.lt_of_lt_of_le hg2 hbz); have HB7 := Lib.hid (hb.trans ((hbd.trans (hb7.mono (Nat.le_refl _))).mono hbz))))
      clear hS0 hSd hS7 HCI hbd
      go_wp2_with fail
      go_roundw
      case rel => exact ⟨k + 1, by go_num, by omega, HB7.out⟩
      case measure => simp [intOf]; omega
    · obtain rfl : k = p' := by omega
      obtain ⟨b0, a0, heq0, -, -, hx0, hc0⟩ := (I3.out.below hb hbz).elem (k := 0) (by rw [HP.out]; omega)
      obtain ⟨b0', a, heq, -, -, hx, hc⟩ := (I3.out.below hb hbz).elem (k := k) (by rw [HP.out]; omega)
      have heq' := Option.some.inj heq
      subst heq'
      have heq0' := Option.some.inj heq0
      subst heq0'
      rw [add_block, Nat.zero_add] at hc hc0
      have ha0 : a0 = 0 := by
        rcases HFA.out.head with e | e
        · simp only at e; rw [e] at hx0; simp at hx0
        · simp only at e; rw [e] at hx0; injection hx0 with hx0; exact hx0.symm
      subst ha0
      have hlast := HFA.out.last a (by show ys[ys.length - 1]? = _; rw [HP.out, Nat.add_sub_cancel]; exact hx)
      have hlen := HFA.out.len
      simp only at hlast hlen
      rw [HP.out] at hlen
      have hrng := HFA.out.rng a (List.mem_of_getElem? hx)
      have f1 : IntKind.i64.wrap ((k : Int) + 1 - 1) = (k : Int) := by rw [Int.add_sub_cancel]; exact IntWalk.i64_in _ (by omega)
      have f2 : IntKind.i64.wrap (k : Int) = (k : Int) := IntWalk.i64_in _ (by omega)
      have f3 : IntKind.i64.wrap ((Q : Int) + 1 - 1) = (Q : Int) := by rw [Int.add_sub_cancel]; exact IntWalk.i64_in _ (by omega)
      have f4 : IntKind.i64.wrap (Q : Int) = (Q : Int) := IntWalk.i64_in _ (by omega)
      have h01 : (0 : Int) < (k : Int) + 1 := by omega
      have h02 : (k : Int) < (k : Int) + 1 := by omega
      have B7 := Lib.hid (B6.out.trans (hb.mono (by have := B6.out.size; omega)))
      clear hx hx0 heq heq0 hb hbz HP I3 HCE HFA npe
      cases b
      · have hq : q = (k : Int) + 1 := by
          rcases hlen with e | e
          · cases e
          · omega
        subst hq
        have hne : (a == (Q : Int)) = false := by
          simp
          intro e
          have := hlast.2 e
          cases this
        clear hlen hlast
        go_wp2_with fail
        go_ret
        exact ⟨rfl, B7.out⟩
      · have hae : a = (Q : Int) := hlast.1 rfl
        subst hae
        clear hlen hlast
        go_wp2_with fail
        go_ret
        exact ⟨rfl, B7.out⟩

theorem cellsByte : Try.prog.cellsOf 5 = 1 := by kernel_rfl

theorem read_bytes {H : Type} {enc : TypeId × Value → H} {W : World} {spare : Nat → Bool} {held : Bool} {fuel : Nat} {v : Value} {x : DataW H × List MemPlace} (h : DataW.trod enc Try.prog W 0 spare held fuel 22 [v] = some x) :
    ∃ (n : Nat) (A : Option Addr) (c : Nat), v = .slice A n c ∧ ByteV W W.heap.size n A c := by
  rcases DataW.trod_slice Try.underlying22 h with ⟨hcs, _⟩ | ⟨a, len, cap, elems, rest, n, _, hcs, _, _, hl, hm, hlen, hel, _⟩
  · injection hcs with hcs _
    exact ⟨0, none, 0, hcs, by simp, by simp [maxLen], fun h => absurd h (by simp)⟩
  · injection hcs with hcs _
    have hex : ∀ i, i < len → ∃ z : Int, W.cell? (a.add i) = some (.int .u8 z) ∧ 0 ≤ z ∧ z ≤ 255 := by
      intro i hi
      have h1 := hel i hi
      rw [cellsByte, Nat.mul_one, List.getElem?_eq_getElem (by omega)] at h1
      obtain ⟨cs', hc, ht⟩ := Option.bind_eq_some_iff.1 h1
      obtain ⟨_, _, hat⟩ := World.cells?_some hc
      obtain ⟨z, rfl, _, hwf⟩ := DataW.trod_int Try.underlying5 ht
      have hz : 0 ≤ z ∧ z ≤ 255 := by simpa [Lit.wf, IntKind.min, IntKind.max, IntKind.signed, IntKind.bits] using hwf
      exact ⟨z, by simpa [Addr.add] using hat 0 (by omega), hz.1, hz.2⟩
    refine ⟨len, some a, cap, hcs, hl, hm, fun h0 => ⟨a, rfl, ?_, hex⟩⟩
    obtain ⟨z, hz, _⟩ := hex 0 h0
    have := World.block_lt_of_cell? W _ hz
    rwa [block_add] at this

theorem own : ownKnob Try.prog.godebug = none := by kernel_rfl
theorem laidOut : laidOutB Try.prog = true := by kernel_rfl

set_option maxRecDepth 100000 in
theorem lifted (os : Os) (started : os.Started) (H : Type) (enc : TypeId × Value → H) :
    ReturnsInHanded {} Try.checked os 3 .any (Rows.fnRunPathSpec.pre6 enc Try.prog Try.f3 Rows.fnRunPathRow.domain false) (Rows.fnRunPathSpec.post enc Try.prog Try.f3 false true false false) := by
  refine returnsInHanded_of_change (C := Try.checked) own started (by kernel_rfl) Try.func3
    (ChangeSpec.witness6 (enc := enc) (C := Try.checked) false ⟨#[], #[.slice none 0 0], []⟩ 8 (by kernel_rfl) (by kernel_rfl) (by kernel_rfl) (by kernel_rfl)) ?_
  intro W base args ds gs before hval0 hW hcnd _
  have hval : ∀ (j : Nat) t v, Try.f3.params[j]? = some t → args[j]? = some v → Value.okWide Try.prog W .any base t v := hval0
  have hW' := hW
  obtain ⟨p, q, hA0, hV, rfl, hfz, hnd⟩ := hW
  have hA : DataW.TrodAll enc Try.prog W 0 (fun _ => true) true Try.f3.params.toList args.toList ds p := hA0
  rw [Try.params3] at hA hval
  obtain ⟨v0, vs0, d0, ds0, p0, q0, hargs, rfl, rfl, h0, r0⟩ := trodAll_cons hA
  obtain ⟨rfl, rfl, rfl⟩ := trodAll_nil r0
  obtain rfl : args = #[v0] := by cases args; simp_all
  obtain ⟨rfl, rfl⟩ := trodVars_none hV
  have k0 := h0
  have lt0 : ∀ x ∈ p0, x.block < W.heap.size := by obtain ⟨m, hm⟩ := k0; exact DataW.trod_lt m _ _ _ hm
  obtain ⟨a0, len0, cap0, rfl⟩ := okWide_slice Try.underlying22 (hval 0 22 v0 rfl rfl)
  obtain ⟨fu0, hf0⟩ := h0
  obtain ⟨nb0, At0, ct0, hv0, hT0⟩ := read_bytes hf0
  injection hv0 with hv0 hv0' hv0''
  subst hv0 hv0' hv0''
  clear hA0 hval0
  simp only [List.append_nil] at hW'
  refine (walk _ _ _ W hT0).mono fun e W' ⟨he, bel⟩ => ?_
  subst he
  exact ⟨_, rfl, _, _, _, [], _, [], hW', trodAll_mk1 (shut_bool Try.underlying4 _), (trodAll_cons_mk (Below.trod laidOut (by kernel_rfl) (of_decide_eq_true (by kernel_rfl)) k0 bel lt0) trodAll_mk0), rfl, bel.frame _, fun h => by cases h⟩

theorem over : Rows.fnRunPathRow.holds Try.pinned (OpenSpec.ofChange Rows.fnRunPathSpec) :=
  OpenClaim.holds_of_wide 3 Try.f3 rfl rfl rfl rfl rfl rfl rfl ⟨rfl, rfl, rfl, rfl, rfl⟩ rfl rfl rfl rfl rfl (by kernel_rfl) Try.func3 (by kernel_rfl)
    (of_decide_eq_true (by kernel_rfl)) (by unfold Func.isWrapper; first | (rw [if_pos (by decide +kernel)]; kernel_rfl) | (rw [if_neg (by decide +kernel)]; exact ⟨rfl, rfl⟩))
    (fun os started H enc _ => lifted os started H enc)

theorem proved : Rows.FnRunPathSaid :=
  over
#print axioms proved
end Go.Proofs.Ytcaklhempmlpgaa.fnRunPath
