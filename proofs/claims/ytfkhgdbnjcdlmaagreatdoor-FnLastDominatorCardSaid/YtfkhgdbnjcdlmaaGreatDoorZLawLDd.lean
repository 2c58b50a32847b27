/-
  Whatever the bytes: all others that dominate a point dominate the last one that does, this is one of them, and LastDominator answers as its model does. Conditions: none.
-/
import Derived.Test.YtfkhgdbnjcdlmaaGreatDoorZDrDom
import Derived.Test.YtfkhgdbnjcdlmaaGreatDoorZBcG
import Derived.Test.YtfkhgdbnjcdlmaaGreatDoorZImD
import Derived.Test.YtfkhgdbnjcdlmaaGreatDoorZLdS
import Derived.Test.YtfkhgdbnjcdlmaaGreatDoorZTab
import Derived.Test.YtfkhgdbnjcdlmaaGreatDoorRows
import Derived.Test.YtfkhgdbnjcdlmaaGreatDoorCards
import Derived.Test.YtfkhgdbnjcdlmaaGreatDoorTie
import Derived.LaidMore
import Derived.SevenTiedAt
import Derived.WalkKit
import Derived.ProofKit
import Derived.OpenShut
import Derived.Lib.SmallJoins
import Derived.Deep.RegionHeld3
import Derived.Deep.DeepCutAuto
import Derived.Deep.QuietTactic
namespace Go.Proofs.YtfkhgdbnjcdlmaaGreatDoor.fnLastDominator
open Go.ChangeShapes Go.WideShapes Go.ChangeAt Go.RowKit Go.Deep Go.Joins
set_option linter.unusedVariables false

theorem rowI_formN {w : World} {B n : Nat} {v : Value} {xs : List Int} (h : RowI w B v xs) (hn : xs.length = n) : ∃ A c, v = .slice A n c ∧ n ≤ c ∧ c ≤ maxLen := by
  obtain ⟨A, c, h1, h2, h3, _⟩ := own_form h.own
  subst hn
  exact ⟨A, c, h1, h2, h3⟩

theorem rowI_form {w : World} {B : Nat} {v : Value} {xs : List Int} (h : RowI w B v xs) : ∃ A c, v = .slice A xs.length c ∧ xs.length ≤ c ∧ c ≤ maxLen := rowI_formN h rfl

theorem domI_iff {ok : Bool} {s : Sts} {a b : Int} : domI ok s a b = true ↔ ok = true ∧ ∃ x y : Nat, a = (x : Int) ∧ b = (y : Int) ∧ x < (progPts s).length ∧ y < (progPts s).length ∧ DomP (nextN (progPts s)) x y := by
  unfold domI
  rw [Bool.and_eq_true]
  unfold hasB domAB
  simp only [decide_eq_true_eq]
  cases ok
  · simp only [pointsB]
    constructor
    · rintro ⟨h, _⟩
      simp at h
      omega
    · rintro ⟨h, _⟩
      cases h
  · simp only [pointsB, if_true]
    constructor
    · rintro ⟨h, hd⟩
      exact ⟨trivial, a.toNat, b.toNat, by omega, by omega, by omega, by omega, hd⟩
    · rintro ⟨_, x, y, rfl, rfl, h1, h2, h3⟩
      exact ⟨by omega, by rw [Int.toNat_natCast, Int.toNat_natCast]; exact h3⟩

theorem rchI_iff {ok : Bool} {s : Sts} {a b : Int} : rchI ok s a b = true ↔ ok = true ∧ ∃ x y : Nat, a = (x : Int) ∧ b = (y : Int) ∧ x < (progPts s).length ∧ y < (progPts s).length ∧ RchP (nextN (progPts s)) (progPts s).length x y := by
  unfold rchI
  rw [Bool.and_eq_true]
  unfold hasB rchAB
  simp only [decide_eq_true_eq]
  cases ok
  · simp only [pointsB]
    constructor
    · rintro ⟨h, _⟩
      simp at h
      omega
    · rintro ⟨h, _⟩
      cases h
  · simp only [pointsB, if_true]
    constructor
    · rintro ⟨h, hd⟩
      exact ⟨trivial, a.toNat, b.toNat, by omega, by omega, by omega, by omega, hd⟩
    · rintro ⟨_, x, y, rfl, rfl, h1, h2, h3⟩
      exact ⟨by omega, by rw [Int.toNat_natCast, Int.toNat_natCast]; exact h3⟩

theorem bool_false {b : Bool} (h : ¬ b = true) : b = false := by
  cases b
  · rfl
  · exact absurd rfl h

theorem last_yes {ts : List Int} {s : Sts} {a : Int} {l : List Int} (hk : lastOk (validB ts s) s a = true) (hl : AnsDm (validB ts s) s a l) :
    lastI (validB ts s) s a ≠ a ∧ decide (lastI (validB ts s) s a ∈ l) = true ∧ ∀ z ∈ l, z ≠ a → domI (validB ts s) s z (lastI (validB ts s) s a) = true := by
  rcases sel_fact hl with ⟨_, par, e, hm, hs, _⟩ | ⟨h, _⟩
  · rw [e]
    refine ⟨hs.1, decide_eq_true hm, fun z hz hne => ?_⟩
    obtain ⟨hv, h0, h1, k, rfl, hd⟩ := (hl.mem z).mp hz
    obtain ⟨_, _, _, p', e2, hd2⟩ := (hl.mem _).mp hm
    have e3 : par = p' := by omega
    subst e3
    obtain ⟨j, hj⟩ := List.getElem?_of_mem hz
    have hA := progPts_asc s
    have l1 := hd.le hA (b := a.toNat) (by omega)
    have l2 := hd2.le hA (b := a.toNat) (by omega)
    rcases hs.2 j k hj with h | h
    · exact absurd h hne
    · exact domI_iff.mpr ⟨hv, k, par, rfl, rfl, by omega, by omega, h⟩
  · rw [hk] at h
    cases h

theorem last_short {ts : List Int} {s : Sts} {a : Int} {l : List Int} (hk : lastOk (validB ts s) s a = false) (hl : AnsDm (validB ts s) s a l) : l.length ≤ 1 := by
  rcases hl with ⟨hv, h0, h1, hp⟩ | ⟨_, rfl⟩
  · have ha : a = 0 := by
      unfold lastOk at hk
      rw [hv, Bool.true_and] at hk
      have := of_decide_eq_false hk
      omega
    subst ha
    have h2 : IsPathsB (fun x => DomP (nextN (progPts s)) x (0 : Int).toNat) [0] := by
      refine ⟨fun k => k == 0, by decide, fun x => ?_⟩
      constructor
      · rintro ⟨_, h⟩
        have : x = 0 := by simpa using h
        subst this
        exact DomP.self _ _
      · intro h
        have := DomP.of_zero h
        subst this
        exact ⟨by decide, rfl⟩
    rw [hp.unique h2]
    simp
  · simp

set_option maxRecDepth 100000 in
set_option maxHeartbeats 2000000 in
theorem walk (n0 c0 : Nat) (A0 : Option Addr) (W : World) (hB : ByteV W W.heap.size n0 A0 c0) (hTab : TabAt 0 Lib.deBruijn64tab W) (hg : 0 < W.heap.size) :
    Calls Tryz.prog 5 #[.slice A0 n0 c0] W fun e w' => e = .returned (.bool true) ∧ Below W.heap.size W w' := by
  have hnc := hB.1
  have hcm := hB.2.1
  unfold maxLen at hcm
  by_cases hn : 1048576 < n0
  · go_enter Tryz.func5, Tryz.ntmps5
    go_wp2_with fail
    go_ret
    exact ⟨rfl, Below.refl _ _⟩
  have e1 : decide (1048576 < (n0 : Int)) = false := decide_eq_false (by omega)
  have HD := Lib.hid (drawLastDominator_any n0 c0 A0 W hB)
  clear hB
  go_enter Tryz.func5, Tryz.ntmps5
  go_wp2_with fail
  refine HD.out.mono ?_
  rintro E w1 ⟨ts, s, At, As, ct, cs, a, rfl, hr1, ht1, hs1, hq, hb1⟩
  have h1s := hb1.size
  obtain ⟨n, hn⟩ : ∃ n, ts.length = n := ⟨_, rfl⟩
  obtain ⟨m, hm⟩ : ∃ m, s.len = m := ⟨_, rfl⟩
  rw [hn, hm]
  have hn9 : n ≤ 1000 := by omega
  have HN := Lib.hid hn
  have HM := Lib.hid hm
  have HSZ := Lib.hid hs1
  have hba := (Below.refl w1.heap.size w1).alloc (Nat.le_refl _) (.cells #[.slice At n ct, .slice As m cs] 26)
  have h2n := heap_alloc_new w1 (.cells #[.slice At n ct, .slice As m cs] 26)
  have h2z : w1.heap.size + 1 ≤ (w1.alloc (.cells #[.slice At n ct, .slice As m cs] 26)).heap.size := Nat.le_of_eq (by simp)
  obtain ⟨w2, hw2⟩ : ∃ w2, w1.alloc (.cells #[.slice At n ct, .slice As m cs] 26) = w2 := ⟨_, rfl⟩
  have T2 := Lib.hid (hr1.1.below hba (Nat.le_trans (Nat.le_refl _) hba.size))
  have R2 := Lib.hid (hr1.2.below hba (Nat.le_trans (Nat.le_refl _) hba.size))
  have B2 := Lib.hid (hb1.trans (hba.mono h1s))
  rw [hw2] at T2 R2 B2 h2n h2z
  have P2 := Lib.hid h2n
  clear hn hm hba hr1 ht1 hs1 hb1 h2n HD
  obtain ⟨PB, hPB⟩ : ∃ PB, w1.heap.size = PB := ⟨_, rfl⟩
  rw [hPB] at P2 h2z h1s
  have hPW : W.heap.size ≤ PB := h1s
  have hP2 : PB < w2.heap.size := h2z
  obtain ⟨d0, d0h⟩ : ∃ d, lastOk (validB ts s) s a = d := ⟨_, rfl⟩
  obtain ⟨x0, x0h⟩ : ∃ x, lastI (validB ts s) s a = x := ⟨_, rfl⟩
  have HD0 := Lib.hid d0h
  have HX0 := Lib.hid x0h
  clear d0h x0h
  have HC := implLastDominator_any ts s At As ct cs a w2 T2.out R2.out (tab_below hTab hg B2.out) (by have := B2.out.size; omega)
  rw [HN.out, HM.out, HX0.out, HD0.out] at HC
  replace HC := Lib.hid HC
  have p0 : w2.cell? ⟨PB, 0, none⟩ = some (.slice At n ct) := (cell_of_block P2.out 0).trans rfl
  have p1 : w2.cell? ⟨PB, 1, none⟩ = some (.slice As m cs) := (cell_of_block P2.out 1).trans rfl
  go_upto_region 4 with (fail)
  clear hw2 hPB
  go_wp2_with fail
  refine HC.out.mono ?_
  rintro E w3 ⟨rfl, hb3⟩
  have hz3 := hb3.size
  have T3 := Lib.hid (T2.out.below hb3 hz3)
  have R3 := Lib.hid (R2.out.below hb3 hz3)
  have P3 := Lib.hid ((hb3.block PB (by omega)).trans P2.out)
  have B3 := Lib.hid (B2.out.trans (hb3.mono (by omega)))
  have hP3 : PB < w3.heap.size := by omega
  clear hb3 HC p0 p1
  have HC := specLastDominator_any ts s At As ct cs a w3 (by have := HSZ.out; omega) T3.out R3.out
  rw [HN.out, HM.out, HX0.out, HD0.out] at HC
  replace HC := Lib.hid HC
  have p0 : w3.cell? ⟨PB, 0, none⟩ = some (.slice At n ct) := (cell_of_block P3.out 0).trans rfl
  have p1 : w3.cell? ⟨PB, 1, none⟩ = some (.slice As m cs) := (cell_of_block P3.out 1).trans rfl
  go_wp2_with fail
  refine HC.out.mono ?_
  rintro E w4 ⟨rfl, hb4⟩
  have hz4 := hb4.size
  have T4 := Lib.hid (T3.out.below hb4 hz4)
  have R4 := Lib.hid (R3.out.below hb4 hz4)
  have P4 := Lib.hid ((hb4.block PB (by omega)).trans P3.out)
  have B4 := Lib.hid (B3.out.trans (hb4.mono (by omega)))
  have hP4 : PB < w4.heap.size := by omega
  clear hb4 HC p0 p1
  have HC := implDominatorsOf_any ts s At As ct cs a w4 T4.out R4.out (tab_below hTab hg B4.out) (by have := B4.out.size; omega)
  rw [HN.out, HM.out] at HC
  replace HC := Lib.hid HC
  have p0 : w4.cell? ⟨PB, 0, none⟩ = some (.slice At n ct) := (cell_of_block P4.out 0).trans rfl
  have p1 : w4.cell? ⟨PB, 1, none⟩ = some (.slice As m cs) := (cell_of_block P4.out 1).trans rfl
  go_wp2_with fail
  refine HC.out.mono ?_
  rintro E w5 ⟨v5, l5, rfl, hrow5, hans5, hb5⟩
  obtain ⟨q5, hl5⟩ : ∃ q, l5.length = q := ⟨_, rfl⟩
  obtain ⟨A5, c5, hv5, hle5, hmx5⟩ := rowI_formN hrow5 hl5
  have hq5 : q5 ≤ 64 := by rw [← hl5]; exact hans5.length
  have HL5 := Lib.hid hl5
  have HA5 := Lib.hid hans5
  clear hl5 hans5
  subst hv5
  unfold maxLen at hmx5
  have G5 := Lib.hid hrow5.intsV
  have hz5 := hb5.size
  have T5 := Lib.hid (T4.out.below hb5 hz5)
  have R5 := Lib.hid (R4.out.below hb5 hz5)
  have P5 := Lib.hid ((hb5.block PB (by omega)).trans P4.out)
  have B5 := Lib.hid (B4.out.trans (hb5.mono (by omega)))
  have hP5 : PB < w5.heap.size := by omega
  clear hrow5 hb5 HC p0 p1
  have exx : (x0 != x0) = false := by simp
  have exy : (x0 == x0) = true := by simp
  have exz : decide (x0 = x0) = true := by simp
  cases d0
  · have ebb : (false != false) = false := rfl
    have ebc : (false == false) = true := rfl
    have hsh : q5 ≤ 1 := by rw [← HL5.out]; exact last_short HD0.out HA5.out
    have hd1 : decide ((q5 : Int) ≤ 1) = true := decide_eq_true (by omega)
    have B7 := Lib.hid B5.out
    go_wp2_with fail
    go_ret
    exact ⟨rfl, B7.out⟩
  have ebb : (true != true) = false := rfl
  have HYES := Lib.hid (last_yes HD0.out HA5.out)
  rw [HX0.out] at HYES
  go_wp2_with fail
  go_loopw [10] (fun i wr => ∃ k : Nat, k ≤ q5 ∧ i = .int .i64 k ∧ Below w5.heap.size w5 wr) (fun i _ => q5 - (intOf i).toNat)
  case atStart => exact ⟨0, Nat.zero_le _, rfl, Below.refl _ _⟩
  case round =>
    obtain ⟨k, hk, rfl, hb⟩ := hrel
    have hbs := hb
    have G5s := G5
    have hzr := hb.size
    have Tr := Lib.hid (T5.out.below hb hzr)
    have Rr := Lib.hid (R5.out.below hb hzr)
    have Pr := Lib.hid ((hb.block PB (by omega)).trans P5.out)
    have Br := Lib.hid (B5.out.trans (hb.mono (by omega)))
    have hPr : PB < wr.heap.size := by omega
    have G5 := Lib.hid (G5.out.below hb hzr)
    by_cases hlt : k < q5
    · have hdk : decide ((k : Int) < (q5 : Int)) = true := decide_eq_true (by omega)
      have f1 : IntKind.i64.wrap ((k : Int) + 1) = (k : Int) + 1 := IntWalk.i64_in _ (by omega)
      obtain ⟨bl, z, hbA, -, hbl, hz, hcell⟩ := G5s.out.elem (k := k) (by rw [HL5.out]; exact hlt)
      subst hbA
      have hcr : wr.cell? (bl.add k) = some (.int .i64 z) := (hbs.cell (by rw [block_add]; exact hbl)).trans hcell
      have hzl : bl.block < wr.heap.size := by omega
      have HZM := Lib.hid (List.mem_of_getElem? hz)
      clear hz hcell
      by_cases hza : z = a
      · have hz1 : (z != a) = false := by simp [hza]
        have hz2 : decide (z = a) = true := decide_eq_true hza
        clear hza
        go_upto_region 12 with (fail)
        go_quiet (fail)
        generalize hwd : World.drewN wr _ = wd
        have hq : Below wr.heap.size wr wd := by rw [← hwd]; exact ⟨rfl, rfl, rfl, Nat.le_refl _, fun _ _ => rfl⟩
        have B9 := hb.trans (hq.mono hzr)
        clear hwd
        go_wp2_with fail
        go_roundw
        case rel => exact ⟨k + 1, by omega, by go_num, B9⟩
        case measure => simp [intOf]; omega
      · have hz1 : (z != a) = true := by simpa using hza
        have hz2 : decide (z = a) = false := decide_eq_false hza
        have HZB := Lib.hid (HYES.out.2.2 z HZM.out hza)
        clear hza
        have HDI : Hid (∀ w', Below wr.heap.size wr w' → Calls Tryz.prog 12 #[.agg #[.slice At n ct, .slice As m cs], .int .i64 z, .int .i64 x0] w' fun E w'' => E = .returned (.bool true) ∧ Below w'.heap.size w' w'') := fun w' hb => by
          have h := implDominates_any ts s At As ct cs z x0 w' (Tr.out.below hb hb.size) (Rr.out.below hb hb.size) (tab_below hTab hg (Br.out.trans (hb.mono (by have := Br.out.size; omega)))) (by have := Br.out.size; have := hb.size; omega)
          rw [HN.out, HM.out, HZB.out] at h
          exact h
        have p0 : wr.cell? ⟨PB, 0, none⟩ = some (.slice At n ct) := (cell_of_block Pr.out 0).trans rfl
        have p1 : wr.cell? ⟨PB, 1, none⟩ = some (.slice As m cs) := (cell_of_block Pr.out 1).trans rfl
        have HS : Hid (∀ w', Below wr.heap.size wr w' → (Below wr.heap.size wr w' ∧ w'.cell? ⟨PB, 0, none⟩ = some (.slice At n ct) ∧ w'.cell? ⟨PB, 1, none⟩ = some (.slice As m cs) ∧ w'.cell? (bl.add k) = some (.int .i64 z))) := fun w' hb => ⟨hb, (hb.cell (by have := Br.out.size; omega)).trans p0, (hb.cell (by have := Br.out.size; omega)).trans p1, (hb.cell (by rw [block_add]; omega)).trans hcr⟩
        go_upto_region 12 with (fail)
        go_region_held3 (fun w' => Below wr.heap.size wr w' ∧ w'.cell? ⟨PB, 0, none⟩ = some (.slice At n ct) ∧ w'.cell? ⟨PB, 1, none⟩ = some (.slice As m cs) ∧ w'.cell? (bl.add k) = some (.int .i64 z))
          (first | with_reducible exact HS.out _ ((Below.refl wr.heap.size wr).drew) | with_reducible exact HS.out _ (Below.refl wr.heap.size wr) | with_reducible exact HS.out _ ((And.left ‹Below wr.heap.size wr _ ∧ _›).trans (hbn.mono (And.left ‹Below wr.heap.size wr _ ∧ _›).size)) | fail)
          (first
            | (go_at_call 12; (with_reducible refine (HDI.out _ (And.left ‹Below wr.heap.size wr _ ∧ _›)).mono ?_); rintro E w' ⟨rfl, hbn⟩)
            | fail)
        all_goals
          have hbl9 := And.left ‹Below wr.heap.size wr _ ∧ _›
          have B9 := hb.trans (hbl9.mono hzr)
          go_wp2_with fail
          go_roundw
          case rel => exact ⟨k + 1, by omega, by go_num, B9⟩
          case measure => simp [intOf]; omega
    · have hk' : k = q5 := by omega
      have hkq : decide ((k : Int) < (q5 : Int)) = false := decide_eq_false (by omega)
      have hxa : (x0 != a) = true := by simpa using HYES.out.1
      have hxb : decide (x0 = a) = false := decide_eq_false HYES.out.1
      have HB8 := bcIn_any l5 x0 A5 c5 wr G5.out
      rw [HL5.out, HYES.out.2.1] at HB8
      replace HB8 := Lib.hid HB8
      go_wp2_with fail
      refine HB8.out.mono ?_
      rintro E w9 ⟨rfl, hb9⟩
      have hz9 := hb9.size
      have T9 := Lib.hid (Tr.out.below hb9 hz9)
      have R9 := Lib.hid (Rr.out.below hb9 hz9)
      have P9 := Lib.hid ((hb9.block PB (by omega)).trans Pr.out)
      have B9 := Lib.hid (Br.out.trans (hb9.mono (by omega)))
      have hP9 : PB < w9.heap.size := by omega
      clear hb9 HB8
      have B7 := Lib.hid B9.out
      go_wp2_with fail
      go_ret
      exact ⟨rfl, B7.out⟩

theorem cellsByte : Tryz.prog.cellsOf 5 = 1 := by kernel_rfl

theorem read_bytes {H : Type} {enc : TypeId × Value → H} {W : World} {spare : Nat → Bool} {held : Bool} {fuel : Nat} {v : Value} {x : DataW H × List MemPlace} (h : DataW.trod enc Tryz.prog W 0 spare held fuel 22 [v] = some x) :
    ∃ (n : Nat) (A : Option Addr) (c : Nat), v = .slice A n c ∧ ByteV W W.heap.size n A c := by
  rcases DataW.trod_slice Tryz.underlying22 h with ⟨hcs, _⟩ | ⟨a, len, cap, elems, rest, n, _, hcs, _, _, hl, hm, hlen, hel, _⟩
  · injection hcs with hcs _
    exact ⟨0, none, 0, hcs, by simp, by simp [maxLen], fun h => absurd h (by simp)⟩
  · injection hcs with hcs _
    have hex : ∀ i, i < len → ∃ z : Int, W.cell? (a.add i) = some (.int .u8 z) ∧ 0 ≤ z ∧ z ≤ 255 := by
      intro i hi
      have h1 := hel i hi
      rw [cellsByte, Nat.mul_one, List.getElem?_eq_getElem (by omega)] at h1
      obtain ⟨cs', hc, ht⟩ := Option.bind_eq_some_iff.1 h1
      obtain ⟨_, _, hat⟩ := World.cells?_some hc
      obtain ⟨z, rfl, _, hwf⟩ := DataW.trod_int Tryz.underlying5 ht
      have hz : 0 ≤ z ∧ z ≤ 255 := by simpa [Lit.wf, IntKind.min, IntKind.max, IntKind.signed, IntKind.bits] using hwf
      exact ⟨z, by simpa [Addr.add] using hat 0 (by omega), hz.1, hz.2⟩
    refine ⟨len, some a, cap, hcs, hl, hm, fun h0 => ⟨a, rfl, ?_, hex⟩⟩
    obtain ⟨z, hz, _⟩ := hex 0 h0
    have := World.block_lt_of_cell? W _ hz
    rwa [block_add] at this

theorem own : ownKnob Tryz.prog.godebug = none := by kernel_rfl
theorem laidOut : laidOutB Tryz.prog = true := by kernel_rfl

set_option maxRecDepth 100000 in
theorem lifted (os : Os) (started : os.Started) (H : Type) (enc : TypeId × Value → H) :
    ReturnsInHanded {} Tryz.checked os 5 .any (fun w args => (Rows.fnLastDominatorSpec.pre enc Tryz.prog Tryz.f5 [] false w args ∧ laidMetH Tryz.prog listed w) ∧ sizedMet enc Tryz.prog Tryz.f5 (OpenSpec.ofChange Rows.fnLastDominatorSpec) false w args)
      (Rows.fnLastDominatorSpec.post enc Tryz.prog Tryz.f5 false true false false) := by
  refine returnsInHanded_of_change_and (C := Tryz.checked) (X := fun w _ => laidMetH Tryz.prog listed w) (fun _ _ _ hh h => h.of_heap hh) own started (by kernel_rfl) Tryz.func5
    (ChangeSpec.witness_shaped (enc := enc) (C := Tryz.checked) (os := os) (X := fun w _ => laidMetH Tryz.prog listed w) false (World.doorLaid Tryz.prog 400 os) #[.slice none 0 0] 8 rfl (World.shaped_of_RefB (by kernel_rfl) (by kernel_rfl)) (by kernel_rfl) (by kernel_rfl) (by kernel_rfl) (door_met os _)) ?_
  intro W base args ds gs before hval0 hW _ _ hL _
  have hval : ∀ (j : Nat) t v, Tryz.f5.params[j]? = some t → args[j]? = some v → Value.okWide Tryz.prog W .any base t v := hval0
  have hW' := hW
  obtain ⟨p, q, hA0, hV, rfl, hfz, hnd⟩ := hW
  have hA : DataW.TrodAll enc Tryz.prog W 0 (fun _ => true) true Tryz.f5.params.toList args.toList ds p := hA0
  rw [Tryz.params5] at hA hval
  obtain ⟨v0, vs0, d0, ds0, p0, q0, hargs, rfl, rfl, h0, r0⟩ := trodAll_cons hA
  obtain ⟨rfl, rfl, rfl⟩ := trodAll_nil r0
  obtain rfl : args = #[v0] := by cases args; simp_all
  obtain ⟨rfl, rfl⟩ := trodVars_none hV
  have k0 := h0
  have lt0 : ∀ x ∈ p0, x.block < W.heap.size := by obtain ⟨m, hm⟩ := k0; exact DataW.trod_lt m _ _ _ hm
  obtain ⟨a0, len0, cap0, rfl⟩ := okWide_slice Tryz.underlying22 (hval 0 22 v0 rfl rfl)
  obtain ⟨fu0, hf0⟩ := h0
  obtain ⟨nb0, At0, ct0, hv0, hT0⟩ := read_bytes hf0
  injection hv0 with hv0 hv0' hv0''
  subst hv0 hv0' hv0''
  obtain ⟨hTab, hTabLt⟩ := tab_of_laid hL
  clear hA0 hval0
  simp only [List.append_nil] at hW'
  refine (walk _ _ _ W hT0 hTab hTabLt).mono fun e W' ⟨he, bel⟩ => ?_
  subst he
  exact ⟨_, rfl, _, _, _, [], _, [], hW', trodAll_mk1 (shut_bool Tryz.underlying4 _), (trodAll_cons_mk (Below.trod laidOut (by kernel_rfl) (of_decide_eq_true (by kernel_rfl)) k0 bel lt0) trodAll_mk0), rfl, bel.frame _, fun h => by cases h⟩

theorem over : Rows.fnLastDominatorRow.holds Tryz.pinned (OpenSpec.ofChange Rows.fnLastDominatorSpec) :=
  OpenClaim.holds_of_wide 5 Tryz.f5 rfl rfl rfl rfl rfl rfl rfl ⟨rfl, rfl, rfl, rfl, rfl⟩ rfl rfl rfl rfl rfl (by kernel_rfl) Tryz.func5 (by kernel_rfl)
    (of_decide_eq_true (by kernel_rfl)) (by unfold Func.isWrapper; first | (rw [if_pos (by decide +kernel)]; kernel_rfl) | (rw [if_neg (by decide +kernel)]; exact ⟨rfl, rfl⟩))
    (fun os started H enc _ => lifted os started H enc)

set_option maxRecDepth 100000 in
theorem proved : Rows.FnLastDominatorCardSaid :=
  Claim7.holds_tied_plain_at .later [] [.data] true (true, "70c01f2bfcc204bc4de513bb5534ac2ab9a5304d11017bf1ae724bf30b413d5a") false
    over (fun _ h => by cases h) (by kernel_rfl) (fun _ h => by cases h) fnLastDominator_row_tie rfl ⟨rfl, rfl⟩ (by kernel_rfl) rfl
    (fun f fn hf hfn => by
      obtain rfl : f = 5 := Option.some.inj ((show Tryz.prog.funcNamed "loop.example/borrowcheck/laws.FnLastDominator" = some 5 by kernel_rfl).symm.trans hf) |>.symm
      obtain rfl : fn = Tryz.f5 := (Option.some.inj (Tryz.func5.symm.trans hfn)).symm
      exact ⟨by kernel_rfl, fun j t ht => by
        rw [Tryz.params5] at ht
        have hm : t ∈ [22] := by simpa using Array.mem_of_getElem? ht
        have hall : ([22].all fun u => !Tryz.prog.wantsStandIn u) = true := by kernel_rfl
        exact (show Tryz.prog.wantsStandIn t = false by simpa using List.all_eq_true.1 hall t hm)⟩)
    (by kernel_rfl)
#print axioms proved
end Go.Proofs.YtfkhgdbnjcdlmaaGreatDoor.fnLastDominator
