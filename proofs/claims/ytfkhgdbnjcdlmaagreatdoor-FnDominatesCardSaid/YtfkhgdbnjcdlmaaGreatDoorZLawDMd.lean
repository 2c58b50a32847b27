/-
  Whatever the bytes: runs that come to a point have passed what dominates it, and Dominates answers as its model does. Conditions: none.
-/
import Derived.Test.YtfkhgdbnjcdlmaaGreatDoorZPuG
import Derived.Test.YtfkhgdbnjcdlmaaGreatDoorZDrDom
import Derived.Test.YtfkhgdbnjcdlmaaGreatDoorZDrRn
import Derived.Test.YtfkhgdbnjcdlmaaGreatDoorZBcG
import Derived.Test.YtfkhgdbnjcdlmaaGreatDoorZImD
import Derived.Test.YtfkhgdbnjcdlmaaGreatDoorZRunG
import Derived.Test.YtfkhgdbnjcdlmaaGreatDoorZRunC
import Derived.Test.YtfkhgdbnjcdlmaaGreatDoorZRunM
import Derived.Test.YtfkhgdbnjcdlmaaGreatDoorZTab
import Derived.Test.YtfkhgdbnjcdlmaaGreatDoorRows
import Derived.Test.YtfkhgdbnjcdlmaaGreatDoorCards
import Derived.Test.YtfkhgdbnjcdlmaaGreatDoorTie
import Derived.LaidMore
import Derived.SevenTiedAt
import Derived.WalkKit
import Derived.ProofKit
import Derived.OpenShut
import Derived.Lib.SmallJoins
import Derived.Deep.RegionHeld3
import Derived.Deep.DeepCutAuto
import Derived.Deep.QuietTactic
namespace Go.Proofs.YtfkhgdbnjcdlmaaGreatDoor.fnDominates
open Go.ChangeShapes Go.WideShapes Go.ChangeAt Go.RowKit Go.Deep Go.Joins
set_option linter.unusedVariables false

theorem rowI_formN {w : World} {B n : Nat} {v : Value} {xs : List Int} (h : RowI w B v xs) (hn : xs.length = n) : ∃ A c, v = .slice A n c ∧ n ≤ c ∧ c ≤ maxLen := by
  obtain ⟨A, c, h1, h2, h3, _⟩ := own_form h.own
  subst hn
  exact ⟨A, c, h1, h2, h3⟩

theorem rowI_form {w : World} {B : Nat} {v : Value} {xs : List Int} (h : RowI w B v xs) : ∃ A c, v = .slice A xs.length c ∧ xs.length ≤ c ∧ c ≤ maxLen := rowI_formN h rfl

theorem domI_iff {ok : Bool} {s : Sts} {a b : Int} : domI ok s a b = true ↔ ok = true ∧ ∃ x y : Nat, a = (x : Int) ∧ b = (y : Int) ∧ x < (progPts s).length ∧ y < (progPts s).length ∧ DomP (nextN (progPts s)) x y := by
  unfold domI
  rw [Bool.and_eq_true]
  unfold hasB domAB
  simp only [decide_eq_true_eq]
  cases ok
  · simp only [pointsB]
    constructor
    · rintro ⟨h, _⟩
      simp at h
      omega
    · rintro ⟨h, _⟩
      cases h
  · simp only [pointsB, if_true]
    constructor
    · rintro ⟨h, hd⟩
      exact ⟨trivial, a.toNat, b.toNat, by omega, by omega, by omega, by omega, hd⟩
    · rintro ⟨_, x, y, rfl, rfl, h1, h2, h3⟩
      exact ⟨by omega, by rw [Int.toNat_natCast, Int.toNat_natCast]; exact h3⟩

theorem rchI_iff {ok : Bool} {s : Sts} {a b : Int} : rchI ok s a b = true ↔ ok = true ∧ ∃ x y : Nat, a = (x : Int) ∧ b = (y : Int) ∧ x < (progPts s).length ∧ y < (progPts s).length ∧ RchP (nextN (progPts s)) (progPts s).length x y := by
  unfold rchI
  rw [Bool.and_eq_true]
  unfold hasB rchAB
  simp only [decide_eq_true_eq]
  cases ok
  · simp only [pointsB]
    constructor
    · rintro ⟨h, _⟩
      simp at h
      omega
    · rintro ⟨h, _⟩
      cases h
  · simp only [pointsB, if_true]
    constructor
    · rintro ⟨h, hd⟩
      exact ⟨trivial, a.toNat, b.toNat, by omega, by omega, by omega, by omega, hd⟩
    · rintro ⟨_, x, y, rfl, rfl, h1, h2, h3⟩
      exact ⟨by omega, by rw [Int.toNat_natCast, Int.toNat_natCast]; exact h3⟩

theorem bool_false {b : Bool} (h : ¬ b = true) : b = false := by
  cases b
  · rfl
  · exact absurd rfl h

theorem way_run {s : Sts} {ys : List Int} {o a i0 : Nat} (h0 : ys[i0]? = some (a : Int)) (hk : ∀ (i : Nat) (a : Int), ys[i]? = some a → ∃ k : Nat, a = (k : Int) ∧ k < (progPts s).length) (hlink : ∀ (i a b : Nat), ys[i]? = some (a : Int) → ys[i + 1]? = some (b : Int) → ∃ d, (progPts s)[a]? = some d ∧ (b : Int) ∈ d.next) :
    ∀ m k : Nat, ys[i0 + m]? = some (k : Int) → (∀ j, i0 ≤ j → j ≤ i0 + m → ys[j]? ≠ some (o : Int)) → WayW (nextN (progPts s)) o a k := by
  intro m
  induction m with
  | zero =>
    intro k hm hn
    rw [Nat.add_zero, h0] at hm
    injection hm with hm
    have e : a = k := by omega
    subst e
    exact ⟨fun e => hn i0 (Nat.le_refl _) (by omega) (by rw [h0, e]), .inl rfl⟩
  | succ m ih =>
    intro k hm hn
    have hlt := (List.getElem?_eq_some_iff.mp hm).1
    have hd := List.getElem?_eq_getElem (l := ys) (i := i0 + m) (by omega)
    obtain ⟨u, hu, _⟩ := hk _ _ hd
    rw [hu] at hd
    have hw := ih u hd (fun j h1 h2 => hn j h1 (by omega))
    obtain ⟨d, hdd, hmem⟩ := hlink (i0 + m) u k hd hm
    exact hw.step (mem_nextN_at hdd hmem) (fun e => hn (i0 + (m + 1)) (by omega) (Nat.le_refl _) (by rw [hm, e]))

theorem dom_seen {ts : List Int} {s : Sts} {a b : Int} {ys : List Int} {x : Nat} (h : domI (validB ts s) s a b = true) (h0 : ∀ a : Int, ys[0]? = some a → a = 0) (hk : ∀ (i : Nat) (a : Int), ys[i]? = some a → ∃ k : Nat, a = (k : Int) ∧ k < (progPts s).length) (hlink : ∀ (i a b : Nat), ys[i]? = some (a : Int) → ys[i + 1]? = some (b : Int) → ∃ d, (progPts s)[a]? = some d ∧ (b : Int) ∈ d.next)
    (hx : ys[x]? = some b) : a ∈ ys.take (x + 1) := by
  obtain ⟨hv, u, v, rfl, rfl, hu, hvl, hd⟩ := domI_iff.mp h
  refine Classical.byContradiction fun hn => ?_
  have hlt := (List.getElem?_eq_some_iff.mp hx).1
  have hz := List.getElem?_eq_getElem (l := ys) (i := 0) (by omega)
  have e0 := h0 _ hz
  rw [e0] at hz
  refine hd (way_run (i0 := 0) (a := 0) hz hk hlink x v (by rw [Nat.zero_add]; exact hx) (fun j _ hj e => hn ?_))
  rw [List.mem_iff_getElem?]
  exact ⟨j, by rw [List.getElem?_take_of_lt (by omega)]; exact e⟩

set_option maxRecDepth 100000 in
set_option maxHeartbeats 2000000 in
theorem walk (n0 c0 : Nat) (A0 : Option Addr) (n1 c1 : Nat) (A1 : Option Addr) (W : World) (hB : ByteV W W.heap.size n0 A0 c0) (hB1 : ByteV W W.heap.size n1 A1 c1) (hTab : TabAt 0 Lib.deBruijn64tab W) (hg : 0 < W.heap.size) :
    Calls Tryz.prog 3 #[.slice A0 n0 c0, .slice A1 n1 c1] W fun e w' => e = .returned (.bool true) ∧ Below W.heap.size W w' := by
  have hnc := hB.1
  have hcm := hB.2.1
  have hnc1 := hB1.1
  have hcm1 := hB1.2.1
  unfold maxLen at hcm hcm1
  have HB1 := Lib.hid hB1
  clear hB1
  by_cases hn : 1048576 < n0
  · go_enter Tryz.func3, Tryz.ntmps3
    go_wp2_with fail
    go_ret
    exact ⟨rfl, Below.refl _ _⟩
  have e1 : decide (1048576 < (n0 : Int)) = false := decide_eq_false (by omega)
  by_cases hn1 : 1048576 < n1
  · have e2 : decide (1048576 < (n1 : Int)) = true := decide_eq_true (by omega)
    go_enter Tryz.func3, Tryz.ntmps3
    go_wp2_with fail
    go_ret
    exact ⟨rfl, Below.refl _ _⟩
  have e2 : decide (1048576 < (n1 : Int)) = false := decide_eq_false (by omega)
  have HD := Lib.hid (drawDominates_any n0 c0 A0 W hB)
  clear hB
  go_enter Tryz.func3, Tryz.ntmps3
  go_wp2_with fail
  refine HD.out.mono ?_
  rintro E w1 ⟨ts, s, At, As, ct, cs, a, b, rfl, hr1, ht1, hs1, hq, hb1⟩
  have h1s := hb1.size
  obtain ⟨n, hn⟩ : ∃ n, ts.length = n := ⟨_, rfl⟩
  obtain ⟨m, hm⟩ : ∃ m, s.len = m := ⟨_, rfl⟩
  rw [hn, hm]
  have hn9 : n ≤ 1000 := by omega
  have HN := Lib.hid hn
  have HM := Lib.hid hm
  have HSZ := Lib.hid hs1
  have hba := (Below.refl w1.heap.size w1).alloc (Nat.le_refl _) (.cells #[.slice At n ct, .slice As m cs] 26)
  have h2n := heap_alloc_new w1 (.cells #[.slice At n ct, .slice As m cs] 26)
  have h2z : w1.heap.size + 1 ≤ (w1.alloc (.cells #[.slice At n ct, .slice As m cs] 26)).heap.size := Nat.le_of_eq (by simp)
  obtain ⟨w2, hw2⟩ : ∃ w2, w1.alloc (.cells #[.slice At n ct, .slice As m cs] 26) = w2 := ⟨_, rfl⟩
  have T2 := Lib.hid (hr1.1.below hba (Nat.le_trans (Nat.le_refl _) hba.size))
  have R2 := Lib.hid (hr1.2.below hba (Nat.le_trans (Nat.le_refl _) hba.size))
  have B2 := Lib.hid (hb1.trans (hba.mono h1s))
  rw [hw2] at T2 R2 B2 h2n h2z
  have P2 := Lib.hid h2n
  clear hn hm hba hr1 ht1 hs1 hb1 h2n HD
  obtain ⟨PB, hPB⟩ : ∃ PB, w1.heap.size = PB := ⟨_, rfl⟩
  rw [hPB] at P2 h2z h1s
  have hPW : W.heap.size ≤ PB := h1s
  have hP2 : PB < w2.heap.size := h2z
  obtain ⟨d0, d0h⟩ : ∃ d, domI (validB ts s) s a b = d := ⟨_, rfl⟩
  have HD0 := Lib.hid d0h
  clear d0h
  have HC := implDominates_any ts s At As ct cs a b w2 T2.out R2.out (tab_below hTab hg B2.out) (by have := B2.out.size; omega)
  rw [HN.out, HM.out, HD0.out] at HC
  replace HC := Lib.hid HC
  have p0 : w2.cell? ⟨PB, 0, none⟩ = some (.slice At n ct) := (cell_of_block P2.out 0).trans rfl
  have p1 : w2.cell? ⟨PB, 1, none⟩ = some (.slice As m cs) := (cell_of_block P2.out 1).trans rfl
  go_upto_region 4 with (fail)
  clear hw2 hPB
  go_wp2_with fail
  refine HC.out.mono ?_
  rintro E w3 ⟨rfl, hb3⟩
  have hz3 := hb3.size
  have T3 := Lib.hid (T2.out.below hb3 hz3)
  have R3 := Lib.hid (R2.out.below hb3 hz3)
  have P3 := Lib.hid ((hb3.block PB (by omega)).trans P2.out)
  have B3 := Lib.hid (B2.out.trans (hb3.mono (by omega)))
  have hP3 : PB < w3.heap.size := by omega
  clear hb3 HC p0 p1
  have HC := specDominates_any ts s At As ct cs a b w3 (by have := HSZ.out; omega) T3.out R3.out
  rw [HN.out, HM.out, HD0.out] at HC
  replace HC := Lib.hid HC
  have p0 : w3.cell? ⟨PB, 0, none⟩ = some (.slice At n ct) := (cell_of_block P3.out 0).trans rfl
  have p1 : w3.cell? ⟨PB, 1, none⟩ = some (.slice As m cs) := (cell_of_block P3.out 1).trans rfl
  cases d0
  · have ebb : (false != false) = false := rfl
    go_wp2_with fail
    refine HC.out.mono ?_
    rintro E w4 ⟨rfl, hb4⟩
    have hz4 := hb4.size
    have T4 := Lib.hid (T3.out.below hb4 hz4)
    have R4 := Lib.hid (R3.out.below hb4 hz4)
    have P4 := Lib.hid ((hb4.block PB (by omega)).trans P3.out)
    have B4 := Lib.hid (B3.out.trans (hb4.mono (by omega)))
    have hP4 : PB < w4.heap.size := by omega
    clear hb4 HC p0 p1
    have HC := specDominates_any ts s At As ct cs a b w4 (by have := HSZ.out; omega) T4.out R4.out
    rw [HN.out, HM.out, HD0.out] at HC
    replace HC := Lib.hid HC
    have p0 : w4.cell? ⟨PB, 0, none⟩ = some (.slice At n ct) := (cell_of_block P4.out 0).trans rfl
    have p1 : w4.cell? ⟨PB, 1, none⟩ = some (.slice As m cs) := (cell_of_block P4.out 1).trans rfl
    go_wp2_with fail
    refine HC.out.mono ?_
    rintro E w5 ⟨rfl, hb5⟩
    have hz5 := hb5.size
    have T5 := Lib.hid (T4.out.below hb5 hz5)
    have R5 := Lib.hid (R4.out.below hb5 hz5)
    have P5 := Lib.hid ((hb5.block PB (by omega)).trans P4.out)
    have B5 := Lib.hid (B4.out.trans (hb5.mono (by omega)))
    have hP5 : PB < w5.heap.size := by omega
    clear hb5 HC p0 p1
    have B7 := Lib.hid B5.out
    go_wp2_with fail
    go_ret
    exact ⟨rfl, B7.out⟩
  have ebb : (true != true) = false := rfl
  go_wp2_with fail
  refine HC.out.mono ?_
  rintro E w4 ⟨rfl, hb4⟩
  have hz4 := hb4.size
  have T4 := Lib.hid (T3.out.below hb4 hz4)
  have R4 := Lib.hid (R3.out.below hb4 hz4)
  have P4 := Lib.hid ((hb4.block PB (by omega)).trans P3.out)
  have B4 := Lib.hid (B3.out.trans (hb4.mono (by omega)))
  have hP4 : PB < w4.heap.size := by omega
  clear hb4 HC p0 p1
  have HDR := Lib.hid (drawRunPath_any n1 c1 A1 w4 (HB1.out.below B4.out B4.out.size))
  go_wp2_with fail
  refine HDR.out.mono ?_
  rintro E w5 ⟨ts9, s9, At9, As9, ct9, cs9, xs, AX, cX, qX, rfl, -, -, -, hx, hx8, hb9⟩
  obtain ⟨n9, hn9'⟩ : ∃ n, ts9.length = n := ⟨_, rfl⟩
  obtain ⟨m9, hm9'⟩ : ∃ m, s9.len = m := ⟨_, rfl⟩
  obtain ⟨lx, hlx⟩ : ∃ l, xs.length = l := ⟨_, rfl⟩
  rw [hn9', hm9', hlx]
  have HLX := Lib.hid hlx
  have GX := Lib.hid hx
  have hz5 := hb9.size
  have T5 := Lib.hid (T4.out.below hb9 hz5)
  have R5 := Lib.hid (R4.out.below hb9 hz5)
  have P5 := Lib.hid ((hb9.block PB (by omega)).trans P4.out)
  have B5 := Lib.hid (B4.out.trans (hb9.mono (by omega)))
  have hP5 : PB < w5.heap.size := by omega
  clear hn9' hm9' hlx hx hx8 hb9 HDR
  have hbZ := (Below.refl w5.heap.size w5).alloc (Nat.le_refl _) (.cells #[.slice At9 n9 ct9, .slice As9 m9 cs9] 26)
  obtain ⟨wz, hwz⟩ : ∃ wz, w5.alloc (.cells #[.slice At9 n9 ct9, .slice As9 m9 cs9] 26) = wz := ⟨_, rfl⟩
  rw [hwz] at hbZ
  have hzz := hbZ.size
  have Tz := Lib.hid (T5.out.below hbZ hzz)
  have Rz := Lib.hid (R5.out.below hbZ hzz)
  have Pz := Lib.hid ((hbZ.block PB (by omega)).trans P5.out)
  have Bz := Lib.hid (B5.out.trans (hbZ.mono (by omega)))
  have hPz : PB < wz.heap.size := by omega
  have GX := Lib.hid (GX.out.below hbZ hbZ.size)
  clear hbZ
  have HRS : Hid (∀ ys b, runI (validB ts s) s xs 60 = (ys, b) → ((ys ≠ [] → validB ts s = true) ∧ (∀ a : Int, ys[0]? = some a → a = 0) ∧ (∀ (i : Nat) (a : Int), ys[i]? = some a → ∃ k : Nat, a = (k : Int) ∧ k < (progPts s).length) ∧ (∀ (i a b : Nat), ys[i]? = some (a : Int) → ys[i + 1]? = some (b : Int) → ∃ d, (progPts s)[a]? = some d ∧ (b : Int) ∈ d.next))) := fun ys b h => run_steps h
  have hZl := runI_len_le (validB ts s) s xs 60
  obtain ⟨⟨ys, db⟩, hZ⟩ : ∃ Z, runI (validB ts s) s xs 60 = Z := ⟨_, rfl⟩
  rw [hZ] at hZl
  have RUN := Lib.hid (HRS.out ys db hZ)
  have HZ := Lib.hid hZ
  clear hZ HRS
  simp only at hZl
  obtain ⟨p, hp⟩ : ∃ p, ys.length = p := ⟨_, rfl⟩
  have HP := Lib.hid hp
  rw [hp] at hZl
  clear hp
  have HC := implRunPath_any ts s At As ct cs xs AX cX 60 wz Tz.out Rz.out GX.out
  rw [HN.out, HM.out, HLX.out, HZ.out] at HC
  replace HC := Lib.hid HC
  have p0 : wz.cell? ⟨PB, 0, none⟩ = some (.slice At n ct) := (cell_of_block Pz.out 0).trans rfl
  have p1 : wz.cell? ⟨PB, 1, none⟩ = some (.slice As m cs) := (cell_of_block Pz.out 1).trans rfl
  go_upto_region 8 with (fail)
  clear hwz
  go_wp2_with fail
  refine HC.out.mono ?_
  rintro E w7 ⟨vY, rfl, hrowY, hbY⟩
  obtain ⟨AY, cY, hvY, hleY, hmxY⟩ := rowI_form hrowY
  subst hvY
  unfold maxLen at hmxY
  try simp only at hrowY hleY hmxY
  rw [HP.out] at hleY ⊢
  have GY := Lib.hid hrowY.intsV
  try simp only at GY
  have hz7 := hbY.size
  have T7 := Lib.hid (Tz.out.below hbY hz7)
  have R7 := Lib.hid (Rz.out.below hbY hz7)
  have P7 := Lib.hid ((hbY.block PB (by omega)).trans Pz.out)
  have B7 := Lib.hid (Bz.out.trans (hbY.mono (by omega)))
  have hP7 : PB < w7.heap.size := by omega
  clear hrowY hbY HC p0 p1 GX
  go_wp2_with fail
  go_loopw [14, 15] (fun ov i wr => ∃ (x : Nat) (op : Bool), x ≤ p ∧ ov = .bool op ∧ i = .int .i64 x ∧ Hid (op = decide (a ∈ ys.take x)) ∧ Below w7.heap.size w7 wr) (fun _ i _ => p - (intOf i).toNat)
  case atStart => exact ⟨0, false, Nat.zero_le _, rfl, rfl, rfl, Below.refl _ _⟩
  case round =>
    obtain ⟨x, op, hx, rfl, rfl, hop, hb2⟩ := hrel
    have hzr := hb2.size
    have Tr := Lib.hid (T7.out.below hb2 hzr)
    have Rr := Lib.hid (R7.out.below hb2 hzr)
    have Pr := Lib.hid ((hb2.block PB (by omega)).trans P7.out)
    have Br := Lib.hid (B7.out.trans (hb2.mono (by omega)))
    have hPr : PB < wr.heap.size := by omega
    have GY := Lib.hid (GY.out.below hb2 hzr)
    by_cases hxp : x < p
    · have hdx : decide ((x : Int) < (p : Int)) = true := decide_eq_true (by omega)
      have f2 : IntKind.i64.wrap ((x : Int) + 1) = (x : Int) + 1 := IntWalk.i64_in _ (by omega)
      obtain ⟨b0, y, rfl, -, hbb, hyx, hc⟩ := GY.out.elem (k := x) (by rw [HP.out]; exact hxp)
      obtain ⟨b1, hb1⟩ : ∃ b1, (y == a) = b1 := ⟨_, rfl⟩
      obtain ⟨bb2, hb2'⟩ : ∃ b2, (y == b) = b2 := ⟨_, rfl⟩
      have hd1 : decide (y = a) = b1 := by rw [← hb1]; rfl
      have hd2 : decide (y = b) = bb2 := by rw [← hb2']; rfl
      have HNX : Hid ((op || b1) = decide (a ∈ ys.take (x + 1))) := by
        unfold Hid
        rw [hop.out, ← hd1, List.take_add_one, hyx]
        apply Bool.eq_iff_iff.mpr
        simp only [Bool.or_eq_true, decide_eq_true_eq, Option.toList, List.mem_append, List.mem_cons, List.not_mem_nil, or_false]
        exact or_congr Iff.rfl eq_comm
      have HSEEN : bb2 = true → (op || b1) = true := by
        intro h
        rw [HNX.out]
        refine decide_eq_true (dom_seen HD0.out RUN.out.2.1 RUN.out.2.2.1 RUN.out.2.2.2 ?_)
        rw [hyx]
        congr 1
        rw [← hd2] at h
        exact of_decide_eq_true h
      clear hyx hop
      cases op <;> cases b1 <;> cases bb2
      all_goals
        first
        | (exact absurd (HSEEN rfl) (by decide))
        | (go_wp2_with fail
           go_roundw
           case rel => exact ⟨x + 1, _, by omega, rfl, by go_num, HNX, hb2⟩
           case measure => simp [intOf]; omega)
    · have hxe : x = p := by omega
      have hdx : decide ((x : Int) < (p : Int)) = false := decide_eq_false (by omega)
      have B9 := Lib.hid Br.out
      go_wp2_with fail
      go_ret
      exact ⟨rfl, B9.out⟩

theorem cellsByte : Tryz.prog.cellsOf 5 = 1 := by kernel_rfl

theorem read_bytes {H : Type} {enc : TypeId × Value → H} {W : World} {spare : Nat → Bool} {held : Bool} {fuel : Nat} {v : Value} {x : DataW H × List MemPlace} (h : DataW.trod enc Tryz.prog W 0 spare held fuel 22 [v] = some x) :
    ∃ (n : Nat) (A : Option Addr) (c : Nat), v = .slice A n c ∧ ByteV W W.heap.size n A c := by
  rcases DataW.trod_slice Tryz.underlying22 h with ⟨hcs, _⟩ | ⟨a, len, cap, elems, rest, n, _, hcs, _, _, hl, hm, hlen, hel, _⟩
  · injection hcs with hcs _
    exact ⟨0, none, 0, hcs, by simp, by simp [maxLen], fun h => absurd h (by simp)⟩
  · injection hcs with hcs _
    have hex : ∀ i, i < len → ∃ z : Int, W.cell? (a.add i) = some (.int .u8 z) ∧ 0 ≤ z ∧ z ≤ 255 := by
      intro i hi
      have h1 := hel i hi
      rw [cellsByte, Nat.mul_one, List.getElem?_eq_getElem (by omega)] at h1
      obtain ⟨cs', hc, ht⟩ := Option.bind_eq_some_iff.1 h1
      obtain ⟨_, _, hat⟩ := World.cells?_some hc
      obtain ⟨z, rfl, _, hwf⟩ := DataW.trod_int Tryz.underlying5 ht
      have hz : 0 ≤ z ∧ z ≤ 255 := by simpa [Lit.wf, IntKind.min, IntKind.max, IntKind.signed, IntKind.bits] using hwf
      exact ⟨z, by simpa [Addr.add] using hat 0 (by omega), hz.1, hz.2⟩
    refine ⟨len, some a, cap, hcs, hl, hm, fun h0 => ⟨a, rfl, ?_, hex⟩⟩
    obtain ⟨z, hz, _⟩ := hex 0 h0
    have := World.block_lt_of_cell? W _ hz
    rwa [block_add] at this

theorem own : ownKnob Tryz.prog.godebug = none := by kernel_rfl
theorem laidOut : laidOutB Tryz.prog = true := by kernel_rfl

set_option maxRecDepth 100000 in
theorem lifted (os : Os) (started : os.Started) (H : Type) (enc : TypeId × Value → H) :
    ReturnsInHanded {} Tryz.checked os 3 .any (fun w args => (Rows.fnDominatesSpec.pre enc Tryz.prog Tryz.f3 [] false w args ∧ laidMetH Tryz.prog listed w) ∧ sizedMet enc Tryz.prog Tryz.f3 (OpenSpec.ofChange Rows.fnDominatesSpec) false w args)
      (Rows.fnDominatesSpec.post enc Tryz.prog Tryz.f3 false true false false) := by
  refine returnsInHanded_of_change_and (C := Tryz.checked) (X := fun w _ => laidMetH Tryz.prog listed w) (fun _ _ _ hh h => h.of_heap hh) own started (by kernel_rfl) Tryz.func3
    (ChangeSpec.witness_shaped (enc := enc) (C := Tryz.checked) (os := os) (X := fun w _ => laidMetH Tryz.prog listed w) false (World.doorLaid Tryz.prog 400 os) #[.slice none 0 0, .slice none 0 0] 8 rfl (World.shaped_of_RefB (by kernel_rfl) (by kernel_rfl)) (by kernel_rfl) (by kernel_rfl) (by kernel_rfl) (door_met os _)) ?_
  intro W base args ds gs before hval0 hW _ _ hL _
  have hval : ∀ (j : Nat) t v, Tryz.f3.params[j]? = some t → args[j]? = some v → Value.okWide Tryz.prog W .any base t v := hval0
  have hW' := hW
  obtain ⟨p, q, hA0, hV, rfl, hfz, hnd⟩ := hW
  have hA : DataW.TrodAll enc Tryz.prog W 0 (fun _ => true) true Tryz.f3.params.toList args.toList ds p := hA0
  rw [Tryz.params3] at hA hval
  obtain ⟨v0, vs0, d0, ds0, p0, q0, hargs, rfl, rfl, h0, r0⟩ := trodAll_cons hA
  obtain ⟨v1, vs1, d1, ds1, p1, q1, rfl, rfl, rfl, h1, r1⟩ := trodAll_cons r0
  obtain ⟨rfl, rfl, rfl⟩ := trodAll_nil r1
  obtain rfl : args = #[v0, v1] := by cases args; simp_all
  obtain ⟨rfl, rfl⟩ := trodVars_none hV
  have k0 := h0
  have lt0 : ∀ x ∈ p0, x.block < W.heap.size := by obtain ⟨m, hm⟩ := k0; exact DataW.trod_lt m _ _ _ hm
  obtain ⟨a0, len0, cap0, rfl⟩ := okWide_slice Tryz.underlying22 (hval 0 22 v0 rfl rfl)
  obtain ⟨fu0, hf0⟩ := h0
  obtain ⟨nb0, At0, ct0, hv0, hT0⟩ := read_bytes hf0
  injection hv0 with hv0 hv0' hv0''
  subst hv0 hv0' hv0''
  have k1 := h1
  have lt1 : ∀ x ∈ p1, x.block < W.heap.size := by obtain ⟨m, hm⟩ := k1; exact DataW.trod_lt m _ _ _ hm
  obtain ⟨a1, len1, cap1, rfl⟩ := okWide_slice Tryz.underlying22 (hval 1 22 v1 rfl rfl)
  obtain ⟨fu1, hf1⟩ := h1
  obtain ⟨nb1, At1, ct1, hv1, hT1⟩ := read_bytes hf1
  injection hv1 with hv1 hv1' hv1''
  subst hv1 hv1' hv1''
  obtain ⟨hTab, hTabLt⟩ := tab_of_laid hL
  clear hA0 hval0
  simp only [List.append_nil] at hW'
  refine (walk _ _ _ _ _ _ W hT0 hT1 hTab hTabLt).mono fun e W' ⟨he, bel⟩ => ?_
  subst he
  exact ⟨_, rfl, _, _, _, [], _, [], hW', trodAll_mk1 (shut_bool Tryz.underlying4 _), (trodAll_cons_mk (Below.trod laidOut (by kernel_rfl) (of_decide_eq_true (by kernel_rfl)) k0 bel lt0) (trodAll_cons_mk (Below.trod laidOut (by kernel_rfl) (of_decide_eq_true (by kernel_rfl)) k1 bel lt1) trodAll_mk0)), rfl, bel.frame _, fun h => by cases h⟩

theorem over : Rows.fnDominatesRow.holds Tryz.pinned (OpenSpec.ofChange Rows.fnDominatesSpec) :=
  OpenClaim.holds_of_wide 3 Tryz.f3 rfl rfl rfl rfl rfl rfl rfl ⟨rfl, rfl, rfl, rfl, rfl⟩ rfl rfl rfl rfl rfl (by kernel_rfl) Tryz.func3 (by kernel_rfl)
    (of_decide_eq_true (by kernel_rfl)) (by unfold Func.isWrapper; first | (rw [if_pos (by decide +kernel)]; kernel_rfl) | (rw [if_neg (by decide +kernel)]; exact ⟨rfl, rfl⟩))
    (fun os started H enc _ => lifted os started H enc)

set_option maxRecDepth 100000 in
theorem proved : Rows.FnDominatesCardSaid :=
  Claim7.holds_tied_plain_at .later [] [.data] true (true, "70c01f2bfcc204bc4de513bb5534ac2ab9a5304d11017bf1ae724bf30b413d5a") false
    over (fun _ h => by cases h) (by kernel_rfl) (fun _ h => by cases h) fnDominates_row_tie rfl ⟨rfl, rfl⟩ (by kernel_rfl) rfl
    (fun f fn hf hfn => by
      obtain rfl : f = 3 := Option.some.inj ((show Tryz.prog.funcNamed "loop.example/borrowcheck/laws.FnDominates" = some 3 by kernel_rfl).symm.trans hf) |>.symm
      obtain rfl : fn = Tryz.f3 := (Option.some.inj (Tryz.func3.symm.trans hfn)).symm
      exact ⟨by kernel_rfl, fun j t ht => by
        rw [Tryz.params3] at ht
        have hm : t ∈ [22, 22] := by simpa using Array.mem_of_getElem? ht
        have hall : ([22, 22].all fun u => !Tryz.prog.wantsStandIn u) = true := by kernel_rfl
        exact (show Tryz.prog.wantsStandIn t = false by simpa using List.all_eq_true.1 hall t hm)⟩)
    (by kernel_rfl)
#print axioms proved
end Go.Proofs.YtfkhgdbnjcdlmaaGreatDoor.fnDominates
