/-
  Whatever the bytes: what always has a value can have one, and what a run has set and not taken is between both; and both are the model's. Conditions: none.
-/
import Derived.Test.YtcdidoapbbbkdaaGreatDoorZPuG
import Derived.Test.YtcdidoapbbbkdaaGreatDoorZDrAlwaysSet2
import Derived.Test.YtcdidoapbbbkdaaGreatDoorZDrRn
import Derived.Test.YtcdidoapbbbkdaaGreatDoorZBcG
import Derived.Test.YtcdidoapbbbkdaaGreatDoorZUsG
import Derived.Test.YtcdidoapbbbkdaaGreatDoorZAlwaysI
import Derived.Test.YtcdidoapbbbkdaaGreatDoorZAlwaysA
import Derived.Test.YtcdidoapbbbkdaaGreatDoorZMaybeI
import Derived.Test.YtcdidoapbbbkdaaGreatDoorZMaybeA
import Derived.Test.YtcdidoapbbbkdaaGreatDoorZRunC
import Derived.Test.YtcdidoapbbbkdaaGreatDoorZRunG
import Derived.Test.YtcdidoapbbbkdaaGreatDoorZTab
import Derived.Test.YtcdidoapbbbkdaaGreatDoorRows
import Derived.Test.YtcdidoapbbbkdaaGreatDoorCards
import Derived.Test.YtcdidoapbbbkdaaGreatDoorTie
import Derived.LaidMore
import Derived.SevenTiedAt
import Derived.WalkKit
import Derived.ProofKit
import Derived.OpenShut
import Derived.Lib.SmallJoins
import Derived.Deep.RegionHeld3
namespace Go.Proofs.YtcdidoapbbbkdaaGreatDoor.fnAlwaysSet
open Go.ChangeShapes Go.WideShapes Go.ChangeAt Go.RowKit Go.Deep Go.Joins
set_option linter.unusedVariables false

theorem rowI_formN {w : World} {B n : Nat} {v : Value} {xs : List Int} (h : RowI w B v xs) (hn : xs.length = n) : ∃ A c, v = .slice A n c ∧ n ≤ c ∧ c ≤ maxLen := by
  obtain ⟨A, c, h1, h2, h3, _⟩ := own_form h.own
  subst hn
  exact ⟨A, c, h1, h2, h3⟩

theorem rowI_form {w : World} {B : Nat} {v : Value} {xs : List Int} (h : RowI w B v xs) : ∃ A c, v = .slice A xs.length c ∧ xs.length ≤ c ∧ c ≤ maxLen := rowI_formN h rfl

theorem flAt_made (w : World) (n : Nat) : FlAt (w.alloc (.cells (madeCells #[.bool false] n) 4)) w.heap.size n (fun _ => false) := by
  refine ⟨_, heap_alloc_new w _, by simp [madeCells], fun i hi => ?_⟩
  simp [madeCells, hi, Nat.mod_one]

theorem flAt_congr {w : World} {F n : Nat} {f g : Nat → Bool} (h : FlAt w F n f) (he : ∀ i, i < n → f i = g i) : FlAt w F n g := by
  obtain ⟨cs, h1, h2, h3⟩ := h
  exact ⟨cs, h1, h2, fun i hi => by rw [← he i hi]; exact h3 i hi⟩

theorem flAt_put {w : World} {F n : Nat} {f : Nat → Bool} (h : FlAt w F n f) (b : Nat) (z : Bool) : FlAt (w.setCell ⟨F, b, none⟩ (.bool z)) F n (fun i => if i = b then z else f i) := by
  obtain ⟨cs, h1, h2, h3⟩ := h
  refine ⟨cs.set! b (.bool z), ?_, by simp [h2], fun i hi => ?_⟩
  · simp [World.setCell, Array.getElem?_modify, h1]
  · by_cases e : i = b
    · subst e
      simp [h2, hi]
    · simp only [e, if_false]
      rw [← h3 i hi]
      simp [Ne.symm e]

theorem may_or_miss {ts : List Int} {s : Sts} (hv : validB ts s = true) (v : Nat) : ∀ k, k < (progPts s).length → MayB ts (progPts s) k v ∨ MissB ts (progPts s) k v := by
  intro k
  induction k using Nat.strongRecOn with
  | ind k ih =>
    intro hk
    by_cases h0 : k = 0
    · subst h0; exact .inr (Flo.start trivial)
    · obtain ⟨j, hj, hjk⟩ := progPts_leads hv k hk h0
      by_cases hs : setsN (progPts s) j v
      · exact .inl (Flo.gen hjk hs)
      · by_cases ht : usesN ts (progPts s) j v 2
        · exact .inr (Flo.gen hjk ⟨ht, hs⟩)
        · rcases ih j hj (by omega) with h | h
          · exact .inl (Flo.keep hjk h ht)
          · exact .inr (Flo.keep hjk h hs)

theorem all_some {ts : List Int} {s : Sts} {a z : Int} {l3 l4 : List Int} (h3 : AnsAt (flowAll.Rel ts) (validB ts s) s a l3) (h4 : AnsAt (flowSome.Rel ts) (validB ts s) s a l4) (hz : z ∈ l3) : z ∈ l4 := by
  obtain ⟨hv, h0, h1, k, rfl, hk⟩ := (h3.mem z).1 hz
  rw [h4.mem]
  refine ⟨hv, h0, h1, k, rfl, ?_⟩
  rcases may_or_miss hv k a.toNat (by omega) with h | h
  · exact h
  · exact absurd h hk.2

/-- The flags ahead of a point of a run are between both flows. -/
def InvF (ts : List Int) (s : Sts) (ys : List Int) (x : Nat) (f : Nat → Bool) : Prop := ∀ k : Nat, ys[x]? = some (k : Int) → ∀ v, v < ts.length → (f v = true → MayB ts (progPts s) k v) ∧ (f v = false → MissB ts (progPts s) k v)

/-- The flags behind a point. -/
def nextF (ts : List Int) (s : Sts) (k : Int) (f : Nat → Bool) (v : Nat) : Bool := if setByI (validB ts s) s k = (v : Int) then true else if useOfI (validB ts s) ts s k v = 2 then false else f v

/-- The flags while the first y variables have been looked at. -/
def stF (u : Nat → Int) (f : Nat → Bool) (y v : Nat) : Bool := if v < y ∧ u v = 2 then false else f v

theorem stF_zero (u : Nat → Int) (f : Nat → Bool) (v : Nat) : f v = stF u f 0 v := by simp [stF]

theorem stF_take {u : Nat → Int} {f : Nat → Bool} {y : Nat} (h : u y = 2) (i : Nat) : (if i = y then false else stF u f y i) = stF u f (y + 1) i := by
  unfold stF
  by_cases e : i = y
  · subst e; simp [h]
  · have : (i < y + 1) ↔ i < y := by omega
    simp [e, this]

theorem stF_keep {u : Nat → Int} {f : Nat → Bool} {y : Nat} (h : u y ≠ 2) (i : Nat) : stF u f y i = stF u f (y + 1) i := by
  unfold stF
  by_cases e : i = y
  · subst e; simp [h]
  · have : (i < y + 1) ↔ i < y := by omega
    simp [this]

theorem stF_set {ts : List Int} {s : Sts} {k : Int} {u : Nat → Int} {f : Nat → Bool} {n m : Nat} (hu : ∀ v : Nat, useOfI (validB ts s) ts s k v = u v) (hs : setByI (validB ts s) s k = (m : Int)) (i : Nat) (hi : i < n) : (if i = m then true else stF u f n i) = nextF ts s k f i := by
  unfold stF nextF
  rw [hs, hu]
  by_cases e : i = m
  · subst e; simp
  · have : ¬ ((m : Int) = (i : Int)) := by omega
    simp [e, this, hi]

theorem stF_none {ts : List Int} {s : Sts} {k e : Int} {u : Nat → Int} {f : Nat → Bool} {n : Nat} (hu : ∀ v : Nat, useOfI (validB ts s) ts s k v = u v) (hs : setByI (validB ts s) s k = e) (he : e < 0) (i : Nat) (hi : i < n) : stF u f n i = nextF ts s k f i := by
  unfold stF nextF
  rw [hs, hu]
  have : ¬ (e = (i : Int)) := by omega
  simp [this, hi]

theorem set_lt {ts : List Int} {s : Sts} {k m : Nat} (hv : validB ts s = true) (hkl : k < (progPts s).length) (hs : setByI (validB ts s) s k = (m : Int)) : m < ts.length := by
  have hd := List.getElem?_eq_getElem hkl
  rw [hv, setByI_yes hd] at hs
  have := typed_set ((progPts_allTyped hv).2 k _ hd) (m : Int) (by omega) hs
  omega

theorem inv_zero {ts : List Int} {s : Sts} {ys : List Int} (h : ∀ a : Int, ys[0]? = some a → a = 0) : InvF ts s ys 0 (fun _ => false) := by
  intro k hk v hvt
  have := h _ hk
  obtain rfl : k = 0 := by omega
  exact ⟨fun e => (by cases e), fun _ => Flo.start trivial⟩

theorem inv_next {ts : List Int} {s : Sts} {ys : List Int} {x k : Nat} {f : Nat → Bool} (hv : validB ts s = true) (hk : ys[x]? = some (k : Int)) (hlink : ∀ (i a b : Nat), ys[i]? = some (a : Int) → ys[i + 1]? = some (b : Int) → ∃ d, (progPts s)[a]? = some d ∧ (b : Int) ∈ d.next) (hI : InvF ts s ys x f) : InvF ts s ys (x + 1) (nextF ts s k f) := by
  intro k' hk' v hvt
  obtain ⟨d, hd, hm⟩ := hlink x k k' hk hk'
  have he : eN (progPts s) k k' := mem_nextN_at hd hm
  obtain ⟨h1, h2⟩ := hI k hk v hvt
  unfold nextF
  rw [hv, setByI_yes hd, useOfI_yes hd hvt]
  by_cases hs : setI d = (v : Int)
  · rw [if_pos hs]
    exact ⟨fun _ => Flo.gen he ((setsN_at hd v).2 hs), fun e => (by cases e)⟩
  · rw [if_neg hs]
    have hs' : ¬ setsN (progPts s) k v := fun e => hs ((setsN_at hd v).1 e)
    by_cases hu : useI ts d v = 2
    · rw [if_pos hu]
      exact ⟨fun e => (by cases e), fun _ => Flo.gen he ⟨(usesN_at hd v 2).2 hu, hs'⟩⟩
    · rw [if_neg hu]
      exact ⟨fun e => Flo.keep he (h1 e) (fun e' => hu ((usesN_at hd v 2).1 e')), fun e => Flo.keep he (h2 e) hs'⟩

theorem inv_in {ts : List Int} {s : Sts} {ys l3 l4 : List Int} {a : Int} {x k v : Nat} {f : Nat → Bool} (hk : ys[x]? = some (k : Int)) (hka : (k : Int) = a) (hkl : k < (progPts s).length) (hv : validB ts s = true) (hvt : v < ts.length) (hI : InvF ts s ys x f)
    (h3 : AnsAt (flowAll.Rel ts) (validB ts s) s a l3) (h4 : AnsAt (flowSome.Rel ts) (validB ts s) s a l4) : (f v = true → decide ((v : Int) ∈ l4) = true) ∧ (f v = false → decide ((v : Int) ∈ l3) = false) := by
  subst hka
  obtain ⟨h1, h2⟩ := hI k hk v hvt
  refine ⟨fun e => decide_eq_true ?_, fun e => decide_eq_false fun hm => ?_⟩
  · rw [h4.mem]
    exact ⟨hv, by omega, by omega, v, rfl, by rw [Int.toNat_natCast]; exact h1 e⟩
  · obtain ⟨-, -, -, y, hy, hr⟩ := (h3.mem _).1 hm
    obtain rfl : v = y := by omega
    rw [Int.toNat_natCast] at hr
    exact hr.2 (h2 e)

set_option maxRecDepth 100000 in
set_option maxHeartbeats 2000000 in
theorem walk (n0 c0 : Nat) (A0 : Option Addr) (n1 c1 : Nat) (A1 : Option Addr) (W : World) (hB : ByteV W W.heap.size n0 A0 c0) (hB1 : ByteV W W.heap.size n1 A1 c1) (hTab : TabAt 0 Lib.deBruijn64tab W) (hg : 0 < W.heap.size) :
    Calls Tryz.prog 3 #[.slice A0 n0 c0, .slice A1 n1 c1] W fun e w' => e = .returned (.bool true) ∧ Below W.heap.size W w' := by
  have hnc := hB.1
  have hcm := hB.2.1
  have hnc1 := hB1.1
  have hcm1 := hB1.2.1
  unfold maxLen at hcm hcm1
  have HB1 := Lib.hid hB1
  clear hB1
  by_cases hn : 1048576 < n0
  · go_enter Tryz.func3, Tryz.ntmps3
    go_wp2_with fail
    go_ret
    exact ⟨rfl, Below.refl _ _⟩
  have e1 : decide (1048576 < (n0 : Int)) = false := decide_eq_false (by omega)
  by_cases hn1 : 1048576 < n1
  · have e2 : decide (1048576 < (n1 : Int)) = true := decide_eq_true (by omega)
    go_enter Tryz.func3, Tryz.ntmps3
    go_wp2_with fail
    go_ret
    exact ⟨rfl, Below.refl _ _⟩
  have e2 : decide (1048576 < (n1 : Int)) = false := decide_eq_false (by omega)
  have HD := Lib.hid (drawAlwaysSet_any n0 c0 A0 W hB)
  clear hB
  go_enter Tryz.func3, Tryz.ntmps3
  go_wp2_with fail
  refine HD.out.mono ?_
  rintro E w1 ⟨ts, s, At, As, ct, cs, a, rfl, hr1, ht1, hs1, hq, hb1⟩
  have h1s := hb1.size
  obtain ⟨n, hn⟩ : ∃ n, ts.length = n := ⟨_, rfl⟩
  obtain ⟨m, hm⟩ : ∃ m, s.len = m := ⟨_, rfl⟩
  rw [hn, hm]
  have hn9 : n ≤ 1000 := by omega
  have HN := Lib.hid hn
  have HM := Lib.hid hm
  have HSZ := Lib.hid hs1
  have hba := (Below.refl w1.heap.size w1).alloc (Nat.le_refl _) (.cells #[.slice At n ct, .slice As m cs] 26)
  have h2n := heap_alloc_new w1 (.cells #[.slice At n ct, .slice As m cs] 26)
  have h2z : w1.heap.size + 1 ≤ (w1.alloc (.cells #[.slice At n ct, .slice As m cs] 26)).heap.size := Nat.le_of_eq (by simp)
  obtain ⟨w2, hw2⟩ : ∃ w2, w1.alloc (.cells #[.slice At n ct, .slice As m cs] 26) = w2 := ⟨_, rfl⟩
  have T2 := Lib.hid (hr1.1.below hba (Nat.le_trans (Nat.le_refl _) hba.size))
  have R2 := Lib.hid (hr1.2.below hba (Nat.le_trans (Nat.le_refl _) hba.size))
  have B2 := Lib.hid (hb1.trans (hba.mono h1s))
  rw [hw2] at T2 R2 B2 h2n h2z
  have P2 := Lib.hid h2n
  clear hn hm hba hr1 ht1 hs1 hb1 h2n HD
  obtain ⟨PB, hPB⟩ : ∃ PB, w1.heap.size = PB := ⟨_, rfl⟩
  rw [hPB] at P2 h2z h1s
  have hPW : W.heap.size ≤ PB := h1s
  have hP2 : PB < w2.heap.size := h2z
  have HC := flowAll.implAlwaysSet_any ts s At As ct cs a w2 T2.out R2.out (tab_below hTab hg B2.out) (by have := B2.out.size; omega)
  rw [HN.out, HM.out] at HC
  replace HC := Lib.hid HC
  have p0 : w2.cell? ⟨PB, 0, none⟩ = some (.slice At n ct) := (cell_of_block P2.out 0).trans rfl
  have p1 : w2.cell? ⟨PB, 1, none⟩ = some (.slice As m cs) := (cell_of_block P2.out 1).trans rfl
  go_upto_region 4 with (fail)
  clear hw2 hPB
  go_wp2_with fail
  refine HC.out.mono ?_
  rintro E w3 ⟨v3, l3, rfl, hrow3, hans3, hb3⟩
  obtain ⟨q3, hl3⟩ : ∃ q, l3.length = q := ⟨_, rfl⟩
  obtain ⟨A3, c3, hv3, hle3, hmx3⟩ := rowI_formN hrow3 hl3
  have hq3 : q3 ≤ 64 := by rw [← hl3]; exact hans3.length
  have HL3 := Lib.hid hl3
  have HA3 := Lib.hid hans3
  clear hl3 hans3
  subst hv3
  unfold maxLen at hmx3
  have G3 := Lib.hid hrow3.intsV
  have hz3 := hb3.size
  have T3 := Lib.hid (T2.out.below hb3 hz3)
  have R3 := Lib.hid (R2.out.below hb3 hz3)
  have P3 := Lib.hid ((hb3.block PB (by omega)).trans P2.out)
  have B3 := Lib.hid (B2.out.trans (hb3.mono (by omega)))
  have hP3 : PB < w3.heap.size := by omega
  clear hrow3 hb3 HC p0 p1
  have HC := flowSome.implMaybeSet_any ts s At As ct cs a w3 T3.out R3.out (tab_below hTab hg B3.out) (by have := B3.out.size; omega)
  rw [HN.out, HM.out] at HC
  replace HC := Lib.hid HC
  have p0 : w3.cell? ⟨PB, 0, none⟩ = some (.slice At n ct) := (cell_of_block P3.out 0).trans rfl
  have p1 : w3.cell? ⟨PB, 1, none⟩ = some (.slice As m cs) := (cell_of_block P3.out 1).trans rfl
  go_wp2_with fail
  refine HC.out.mono ?_
  rintro E w4 ⟨v4, l4, rfl, hrow4, hans4, hb4⟩
  obtain ⟨q4, hl4⟩ : ∃ q, l4.length = q := ⟨_, rfl⟩
  obtain ⟨A4, c4, hv4, hle4, hmx4⟩ := rowI_formN hrow4 hl4
  have hq4 : q4 ≤ 64 := by rw [← hl4]; exact hans4.length
  have HL4 := Lib.hid hl4
  have HA4 := Lib.hid hans4
  clear hl4 hans4
  subst hv4
  unfold maxLen at hmx4
  have G4 := Lib.hid hrow4.intsV
  have hz4 := hb4.size
  have T4 := Lib.hid (T3.out.below hb4 hz4)
  have R4 := Lib.hid (R3.out.below hb4 hz4)
  have P4 := Lib.hid ((hb4.block PB (by omega)).trans P3.out)
  have B4 := Lib.hid (B3.out.trans (hb4.mono (by omega)))
  have hP4 : PB < w4.heap.size := by omega
  have G3 := Lib.hid (G3.out.below hb4 hz4)
  clear hrow4 hb4 HC p0 p1
  have HC := specAlwaysSet_any ts s At As ct cs a w4 (by have := HSZ.out; omega) T4.out R4.out
  rw [HN.out, HM.out] at HC
  replace HC := Lib.hid HC
  have p0 : w4.cell? ⟨PB, 0, none⟩ = some (.slice At n ct) := (cell_of_block P4.out 0).trans rfl
  have p1 : w4.cell? ⟨PB, 1, none⟩ = some (.slice As m cs) := (cell_of_block P4.out 1).trans rfl
  go_wp2_with fail
  refine HC.out.mono ?_
  rintro E w5 ⟨v5, l5, rfl, hrow5, hans5, hb5⟩
  rw [hans5.unique HA3.out] at hrow5
  clear hans5
  obtain ⟨A5, c5, hv5, hle5, hmx5⟩ := rowI_formN hrow5 HL3.out
  subst hv5
  unfold maxLen at hmx5
  have G5 := Lib.hid hrow5.intsV
  have hz5 := hb5.size
  have T5 := Lib.hid (T4.out.below hb5 hz5)
  have R5 := Lib.hid (R4.out.below hb5 hz5)
  have P5 := Lib.hid ((hb5.block PB (by omega)).trans P4.out)
  have B5 := Lib.hid (B4.out.trans (hb5.mono (by omega)))
  have hP5 : PB < w5.heap.size := by omega
  have G3 := Lib.hid (G3.out.below hb5 hz5)
  have G4 := Lib.hid (G4.out.below hb5 hz5)
  clear hrow5 hb5 HC p0 p1
  have HBC := bcInts_any l3 l3 A3 A5 c3 c5 w5 G3.out G5.out
  rw [HL3.out, decide_eq_true rfl] at HBC
  replace HBC := Lib.hid HBC
  go_wp2_with fail
  refine HBC.out.mono ?_
  rintro E w6 ⟨rfl, hb6⟩
  have hz6 := hb6.size
  have T6 := Lib.hid (T5.out.below hb6 hz6)
  have R6 := Lib.hid (R5.out.below hb6 hz6)
  have P6 := Lib.hid ((hb6.block PB (by omega)).trans P5.out)
  have B6 := Lib.hid (B5.out.trans (hb6.mono (by omega)))
  have hP6 : PB < w6.heap.size := by omega
  have G3 := Lib.hid (G3.out.below hb6 hz6)
  have G4 := Lib.hid (G4.out.below hb6 hz6)
  clear hb6 HBC
  have HC := specMaybeSet_any ts s At As ct cs a w6 (by have := HSZ.out; omega) T6.out R6.out
  rw [HN.out, HM.out] at HC
  replace HC := Lib.hid HC
  have p0 : w6.cell? ⟨PB, 0, none⟩ = some (.slice At n ct) := (cell_of_block P6.out 0).trans rfl
  have p1 : w6.cell? ⟨PB, 1, none⟩ = some (.slice As m cs) := (cell_of_block P6.out 1).trans rfl
  go_wp2_with fail
  refine HC.out.mono ?_
  rintro E w7 ⟨v7, l7, rfl, hrow7, hans7, hb7⟩
  rw [hans7.unique HA4.out] at hrow7
  clear hans7
  obtain ⟨A7, c7, hv7, hle7, hmx7⟩ := rowI_formN hrow7 HL4.out
  subst hv7
  unfold maxLen at hmx7
  have G7 := Lib.hid hrow7.intsV
  have hz7 := hb7.size
  have T7 := Lib.hid (T6.out.below hb7 hz7)
  have R7 := Lib.hid (R6.out.below hb7 hz7)
  have P7 := Lib.hid ((hb7.block PB (by omega)).trans P6.out)
  have B7 := Lib.hid (B6.out.trans (hb7.mono (by omega)))
  have hP7 : PB < w7.heap.size := by omega
  have G3 := Lib.hid (G3.out.below hb7 hz7)
  have G4 := Lib.hid (G4.out.below hb7 hz7)
  clear hrow7 hb7 HC p0 p1
  have HBC := bcInts_any l4 l4 A4 A7 c4 c7 w7 G4.out G7.out
  rw [HL4.out, decide_eq_true rfl] at HBC
  replace HBC := Lib.hid HBC
  go_wp2_with fail
  refine HBC.out.mono ?_
  rintro E w8 ⟨rfl, hb8⟩
  have hz8 := hb8.size
  have T8 := Lib.hid (T7.out.below hb8 hz8)
  have R8 := Lib.hid (R7.out.below hb8 hz8)
  have P8 := Lib.hid ((hb8.block PB (by omega)).trans P7.out)
  have B8 := Lib.hid (B7.out.trans (hb8.mono (by omega)))
  have hP8 : PB < w8.heap.size := by omega
  have G3 := Lib.hid (G3.out.below hb8 hz8)
  have G4 := Lib.hid (G4.out.below hb8 hz8)
  clear hb8 HBC
  have HAS : Hid (∀ z, z ∈ l3 → decide (z ∈ l4) = true) := fun z hz => decide_eq_true (all_some HA3.out HA4.out hz)
  go_wp2_with fail
  go_loopw [9] (fun i wr => ∃ k : Nat, k ≤ q3 ∧ i = .int .i64 k ∧ Below w8.heap.size w8 wr) (fun i _ => q3 - (intOf i).toNat)
  case atStart => exact ⟨0, Nat.zero_le _, rfl, Below.refl _ _⟩
  case round =>
    obtain ⟨k, hk, rfl, hb⟩ := hrel
    obtain ⟨w9, rfl⟩ : ∃ z, z = wr := ⟨_, rfl⟩
    have hz9 := hb.size
    have T9 := Lib.hid (T8.out.below hb hz9)
    have R9 := Lib.hid (R8.out.below hb hz9)
    have P9 := Lib.hid ((hb.block PB (by omega)).trans P8.out)
    have B9 := Lib.hid (B8.out.trans (hb.mono (by omega)))
    have hP9 : PB < w9.heap.size := by omega
    have G3 := Lib.hid (G3.out.below hb hz9)
    have G4 := Lib.hid (G4.out.below hb hz9)
    by_cases hlt : k < q3
    · have f1 : IntKind.i64.wrap ((k : Int) + 1) = (k : Int) + 1 := IntWalk.i64_in _ (by omega)
      obtain ⟨b0, z, rfl, -, hbb, hx, hc⟩ := G3.out.elem (k := k) (by rw [HL3.out]; exact hlt)
      have HCI := bcIn_any l4 z A4 c4 w9 G4.out
      rw [HL4.out, HAS.out z (List.mem_of_getElem? hx)] at HCI
      replace HCI := Lib.hid HCI
      clear hx
      go_wp2_with fail
      refine HCI.out.mono ?_
      rintro E w10 ⟨rfl, hb10⟩
      have hB10 : Below w8.heap.size w8 w10 := hb.trans (hb10.mono hz9)
      clear hb10 HCI
      go_wp2_with fail
      go_roundw
      case rel => exact ⟨k + 1, by omega, by go_num, hB10⟩
      case measure => simp [intOf]; omega
    · have hkq : decide ((k : Int) < (q3 : Int)) = false := decide_eq_false (by omega)
      have HDR := Lib.hid (drawRunPath_any n1 c1 A1 w9 (HB1.out.below B9.out B9.out.size))
      go_wp2_with fail
      refine HDR.out.mono ?_
      rintro E w10 ⟨ts9, s9, At9, As9, ct9, cs9, xs, AX, cX, qX, rfl, -, -, -, hx, hx8, hb9⟩
      obtain ⟨n9, hn9'⟩ : ∃ n, ts9.length = n := ⟨_, rfl⟩
      obtain ⟨m9, hm9'⟩ : ∃ m, s9.len = m := ⟨_, rfl⟩
      obtain ⟨lx, hlx⟩ : ∃ l, xs.length = l := ⟨_, rfl⟩
      rw [hn9', hm9', hlx]
      have HLX := Lib.hid hlx
      have GX := Lib.hid hx
      have hz10 := hb9.size
      have T10 := Lib.hid (T9.out.below hb9 hz10)
      have R10 := Lib.hid (R9.out.below hb9 hz10)
      have P10 := Lib.hid ((hb9.block PB (by omega)).trans P9.out)
      have B10 := Lib.hid (B9.out.trans (hb9.mono (by omega)))
      have hP10 : PB < w10.heap.size := by omega
      have G3 := Lib.hid (G3.out.below hb9 hz10)
      have G4 := Lib.hid (G4.out.below hb9 hz10)
      clear hn9' hm9' hlx hx hx8 hb9 HDR
      have hbZ := (Below.refl w10.heap.size w10).alloc (Nat.le_refl _) (.cells #[.slice At9 n9 ct9, .slice As9 m9 cs9] 26)
      obtain ⟨wz, hwz⟩ : ∃ wz, w10.alloc (.cells #[.slice At9 n9 ct9, .slice As9 m9 cs9] 26) = wz := ⟨_, rfl⟩
      rw [hwz] at hbZ
      have hzz := hbZ.size
      have Tz := Lib.hid (T10.out.below hbZ hzz)
      have Rz := Lib.hid (R10.out.below hbZ hzz)
      have Pz := Lib.hid ((hbZ.block PB (by omega)).trans P10.out)
      have Bz := Lib.hid (B10.out.trans (hbZ.mono (by omega)))
      have hPz : PB < wz.heap.size := by omega
      have G3 := Lib.hid (G3.out.below hbZ hzz)
      have G4 := Lib.hid (G4.out.below hbZ hzz)
      have GX := Lib.hid (GX.out.below hbZ hbZ.size)
      clear hbZ
      have HRS : Hid (∀ ys b, runI (validB ts s) s xs 60 = (ys, b) → ((ys ≠ [] → validB ts s = true) ∧ (∀ a : Int, ys[0]? = some a → a = 0) ∧ (∀ (i : Nat) (a : Int), ys[i]? = some a → ∃ k : Nat, a = (k : Int) ∧ k < (progPts s).length) ∧ (∀ (i a b : Nat), ys[i]? = some (a : Int) → ys[i + 1]? = some (b : Int) → ∃ d, (progPts s)[a]? = some d ∧ (b : Int) ∈ d.next))) := fun ys b h => run_steps h
      have hZl := runI_len_le (validB ts s) s xs 60
      obtain ⟨⟨ys, b⟩, hZ⟩ : ∃ Z, runI (validB ts s) s xs 60 = Z := ⟨_, rfl⟩
      rw [hZ] at hZl
      have RUN := Lib.hid (HRS.out ys b hZ)
      have HZ := Lib.hid hZ
      clear hZ HRS
      simp only at hZl
      obtain ⟨p, hp⟩ : ∃ p, ys.length = p := ⟨_, rfl⟩
      have HP := Lib.hid hp
      rw [hp] at hZl
      clear hp
      have HC := implRunPath_any ts s At As ct cs xs AX cX 60 wz Tz.out Rz.out GX.out
      rw [HN.out, HM.out, HLX.out, HZ.out] at HC
      replace HC := Lib.hid HC
      have p0 : wz.cell? ⟨PB, 0, none⟩ = some (.slice At n ct) := (cell_of_block Pz.out 0).trans rfl
      have p1 : wz.cell? ⟨PB, 1, none⟩ = some (.slice As m cs) := (cell_of_block Pz.out 1).trans rfl
      go_upto_region 14 with (fail)
      clear hwz
      go_wp2_with fail
      refine HC.out.mono ?_
      rintro E w11 ⟨vY, rfl, hrowY, hbY⟩
      obtain ⟨AY, cY, hvY, hleY, hmxY⟩ := rowI_form hrowY
      subst hvY
      unfold maxLen at hmxY
      try simp only at hrowY hleY hmxY
      rw [HP.out] at hleY ⊢
      have GY := Lib.hid hrowY.intsV
      try simp only at GY
      have hz11 := hbY.size
      have T11 := Lib.hid (Tz.out.below hbY hz11)
      have R11 := Lib.hid (Rz.out.below hbY hz11)
      have P11 := Lib.hid ((hbY.block PB (by omega)).trans Pz.out)
      have B11 := Lib.hid (Bz.out.trans (hbY.mono (by omega)))
      have hP11 : PB < w11.heap.size := by omega
      have G3 := Lib.hid (G3.out.below hbY hz11)
      have G4 := Lib.hid (G4.out.below hbY hz11)
      clear hrowY hbY HC p0 p1 GX
      have hmk := run_make_row' (P := Tryz.prog) 36 4 (.bool false) 1 Tryz.underlying36 Tryz.infoBool rfl .i64 .i64 n (by omega) (by omega) w11
      have hfl := flAt_made w11 n
      have hbM := (Below.refl w11.heap.size w11).alloc (Nat.le_refl _) (.cells (madeCells #[.bool false] n) 4)
      have hzM : w11.heap.size + 1 ≤ (w11.alloc (.cells (madeCells #[.bool false] n) 4)).heap.size := Nat.le_of_eq (by simp)
      generalize w11.alloc (.cells (madeCells #[.bool false] n) 4) = w12 at hmk hfl hbM hzM
      have HFL := Lib.hid hfl
      clear hfl
      have p0 : w11.cell? ⟨PB, 0, none⟩ = some (.slice At n ct) := (cell_of_block P11.out 0).trans rfl
      go_wp2_with fail
      clear p0 hmk
      go_loopw [16] (fun i wr => ∃ (x : Nat) (f : Nat → Bool), x ≤ p ∧ i = .int .i64 x ∧ Hid (InvF ts s ys x f) ∧ Hid (FlAt wr w11.heap.size n f) ∧ w11.heap.size < wr.heap.size ∧ Below w11.heap.size w11 wr) (fun i _ => p - (intOf i).toNat)
      case atStart => exact ⟨0, _, Nat.zero_le _, rfl, Lib.hid (inv_zero RUN.out.2.1), HFL, hzM, hbM⟩
      case round =>
        obtain ⟨x, f, hx, rfl, hI, hF, hSz, hb2⟩ := hrel
        obtain ⟨wo, rfl⟩ : ∃ z, z = wr := ⟨_, rfl⟩
        have hzo := hb2.size
        have To := Lib.hid (T11.out.below hb2 hzo)
        have Ro := Lib.hid (R11.out.below hb2 hzo)
        have Po := Lib.hid ((hb2.block PB (by omega)).trans P11.out)
        have Bo := Lib.hid (B11.out.trans (hb2.mono (by omega)))
        have hPo : PB < wo.heap.size := by omega
        have G3 := Lib.hid (G3.out.below hb2 hzo)
        have G4 := Lib.hid (G4.out.below hb2 hzo)
        by_cases hxp : x < p
        · have f2 : IntKind.i64.wrap ((x : Int) + 1) = (x : Int) + 1 := IntWalk.i64_in _ (by omega)
          obtain ⟨b0, y, rfl, -, hbb, hyx, hc⟩ := GY.out.elem (k := x) (by rw [HP.out]; exact hxp)
          obtain ⟨k, rfl, hkl⟩ := RUN.out.2.2.1 x y hyx
          have hv : validB ts s = true := RUN.out.1 (by intro e; rw [e] at hyx; simp at hyx)
          have HIN : Hid ((k : Int) = a → ∀ v, v < n → (f v = true → decide ((v : Int) ∈ l4) = true) ∧ (f v = false → decide ((v : Int) ∈ l3) = false)) := fun e v hvn => inv_in hyx e hkl hv (by rw [HN.out]; exact hvn) hI.out HA3.out HA4.out
          have HNX := Lib.hid (inv_next hv hyx RUN.out.2.2.2 hI.out)
          have HSL : Hid (∀ m : Nat, setByI (validB ts s) s (k : Int) = (m : Int) → m < n) := fun m hm => by rw [← HN.out]; exact set_lt hv hkl hm
          have HC11 := Lib.hid hc
          have HBB := Lib.hid hbb
          have hBo : Below w11.heap.size w11 wo := hb2
          have hco := (hBo.cell (p := b0.add x) (by rw [block_add]; exact HBB.out)).trans HC11.out
          obtain ⟨uf, huf⟩ : ∃ uf : Nat → Int, (fun v : Nat => useOfI (validB ts s) ts s (k : Int) v) = uf := ⟨_, rfl⟩
          have HUF : Hid (∀ v : Nat, useOfI (validB ts s) ts s (k : Int) v = uf v) := fun v => by rw [← huf]
          clear hyx hkl hv hI hc hbb huf
          go_wp2_with fail
          clear hco
          go_loopw [17] (fun i wr => ∃ v : Nat, v ≤ n ∧ i = .int .i64 v ∧ Below wo.heap.size wo wr) (fun i _ => n - (intOf i).toNat)
          case atStart => exact ⟨0, Nat.zero_le _, rfl, Below.refl _ _⟩
          case round =>
            obtain ⟨v, hvn, rfl, hb3⟩ := hrel
            have hz3 := hb3.size
            have hB3 : Below w11.heap.size w11 wr := hb2.trans (hb3.mono hzo)
            have hF3 := hF.out.keep (hb3.block w11.heap.size hSz)
            have hc := (hB3.cell (p := b0.add x) (by rw [block_add]; exact HBB.out)).trans HC11.out
            by_cases hin : v < n ∧ (k : Int) = a
            · obtain ⟨hvl, hka⟩ := hin
              have f3 : IntKind.i64.wrap ((v : Int) + 1) = (v : Int) + 1 := IntWalk.i64_in _ (by omega)
              have h2 : ((k : Int) == a) = true := by simpa using hka
              obtain ⟨hin1, hin2⟩ := HIN.out hka v hvl
              obtain ⟨bv, hbv⟩ : ∃ bv, f v = bv := ⟨_, rfl⟩
              have hcf := hF3.cell hvl
              rw [hbv] at hcf hin1 hin2
              clear hF3 hbv hka
              cases bv
              · have HCI := bcIn_any l3 v A3 c3 wr (G3.out.below hb3 hz3)
                rw [HL3.out, hin2 rfl] at HCI
                replace HCI := Lib.hid HCI
                clear hin1 hin2
                go_wp2_with fail
                refine HCI.out.mono ?_
                rintro E w14 ⟨rfl, hb14⟩
                have hB14 : Below wo.heap.size wo w14 := hb3.trans (hb14.mono hz3)
                clear hb14 HCI
                go_wp2_with fail
                go_roundw
                case rel => exact ⟨v + 1, by omega, by go_num, hB14⟩
                case measure => simp [intOf]; omega
              · have HCI := bcIn_any l4 v A4 c4 wr (G4.out.below hb3 hz3)
                rw [HL4.out, hin1 rfl] at HCI
                replace HCI := Lib.hid HCI
                clear hin1 hin2
                go_wp2_with fail
                refine HCI.out.mono ?_
                rintro E w14 ⟨rfl, hb14⟩
                have hB14 : Below wo.heap.size wo w14 := hb3.trans (hb14.mono hz3)
                have hcf := (hb14.cell (show w11.heap.size < wr.heap.size by omega)).trans hcf
                clear hb14 HCI
                go_wp2_with fail
                go_roundw
                case rel => exact ⟨v + 1, by omega, by go_num, hB14⟩
                case measure => simp [intOf]; omega
            · have hex : (¬ v < n ∧ decide ((v : Int) < (n : Int)) = false) ∨ (v < n ∧ decide ((v : Int) < (n : Int)) = true ∧ ((k : Int) == a) = false) := by
                by_cases h1 : v < n
                · exact .inr ⟨h1, decide_eq_true (by omega), by simp; intro e; exact hin ⟨h1, e⟩⟩
                · exact .inl ⟨h1, decide_eq_false (by omega)⟩
              clear hin
              obtain ⟨wp, rfl⟩ : ∃ z, z = wr := ⟨_, rfl⟩
              have HFP := Lib.hid (flAt_congr hF3 (fun i _ => stF_zero uf f i))
              have hSp : w11.heap.size < wp.heap.size := by omega
              clear hF3
              rcases hex with ⟨h0, h1⟩ | ⟨h0, h1, h2⟩
              all_goals
                go_wp2_with fail
                clear hc
                go_loopw [18] (fun i wr => ∃ y : Nat, y ≤ n ∧ i = .int .i64 y ∧ Hid (FlAt wr w11.heap.size n (stF uf f y)) ∧ w11.heap.size < wr.heap.size ∧ Below w11.heap.size w11 wr) (fun i _ => n - (intOf i).toNat)
                case atStart => exact ⟨0, Nat.zero_le _, rfl, HFP, hSp, hB3⟩
                case round =>
                  obtain ⟨y, hyn, rfl, hF5, hS5, hb5⟩ := hrel
                  have hzr := hb5.size
                  have Tr := Lib.hid (T11.out.below hb5 hzr)
                  have Rr := Lib.hid (R11.out.below hb5 hzr)
                  have Pr := Lib.hid ((hb5.block PB (by omega)).trans P11.out)
                  have Br := Lib.hid (B11.out.trans (hb5.mono (by omega)))
                  have hPr : PB < wr.heap.size := by omega
                  have hc := (hb5.cell (p := b0.add x) (by rw [block_add]; exact HBB.out)).trans HC11.out
                  have p0 : wr.cell? ⟨PB, 0, none⟩ = some (.slice At n ct) := (cell_of_block Pr.out 0).trans rfl
                  have p1 : wr.cell? ⟨PB, 1, none⟩ = some (.slice As m cs) := (cell_of_block Pr.out 1).trans rfl
                  have HS : Hid (∀ w', Below wr.heap.size wr w' → (Below wr.heap.size wr w' ∧ w'.cell? ⟨PB, 0, none⟩ = some (.slice At n ct) ∧ w'.cell? ⟨PB, 1, none⟩ = some (.slice As m cs) ∧ w'.cell? (b0.add x) = some (.int .i64 k))) := fun w' hb => ⟨hb, (hb.cell hPr).trans p0, (hb.cell hPr).trans p1, (hb.cell (show (b0.add x).block < wr.heap.size by rw [block_add]; exact Nat.lt_of_lt_of_le HBB.out hzr)).trans hc⟩
                  by_cases hyl : y < n
                  · have f4 : IntKind.i64.wrap ((y : Int) + 1) = (y : Int) + 1 := IntWalk.i64_in _ (by omega)
                    obtain ⟨u, hu⟩ : ∃ u, uf y = u := ⟨_, rfl⟩
                    have HU := Lib.hid hu
                    clear hu
                    have HUE : Hid (∀ w', Below wr.heap.size wr w' → Calls Tryz.prog 14 #[.agg #[.slice At n ct, .slice As m cs], .int .i64 k, .int .i64 y] w' fun E w'' => E = .returned (.int .i64 u) ∧ Below w'.heap.size w' w'') := fun w' hb => by
                      have h := implUseOf_any ts s At As ct cs k y w' (Tr.out.below hb hb.size) (Rr.out.below hb hb.size)
                      rw [HN.out, HM.out, HUF.out, HU.out] at h
                      exact h
                    go_upto_region 27 with (fail)
                    go_region_held3 (fun w' => Below wr.heap.size wr w' ∧ w'.cell? ⟨PB, 0, none⟩ = some (.slice At n ct) ∧ w'.cell? ⟨PB, 1, none⟩ = some (.slice As m cs) ∧ w'.cell? (b0.add x) = some (.int .i64 k))
                      (first | with_reducible exact HS.out _ ((Below.refl wr.heap.size wr).drew) | with_reducible exact HS.out _ (Below.refl wr.heap.size wr) | with_reducible exact HS.out _ ((And.left ‹Below wr.heap.size wr _ ∧ _›).trans (hbn.mono (And.left ‹Below wr.heap.size wr _ ∧ _›).size)))
                      ((go_at_call 14; (with_reducible refine (HUE.out _ (And.left ‹Below wr.heap.size wr _ ∧ _›)).mono ?_); rintro E w' ⟨rfl, hbn⟩))
                    all_goals
                      obtain ⟨hq, -⟩ := ‹Below wr.heap.size wr _ ∧ _›
                      have hq1 := hq.size
                      have hb6 : Below w11.heap.size w11 _ := hb5.trans (hq.mono hzr)
                      have hF6 := hF5.out.keep (hq.block w11.heap.size hS5)
                      clear HS HUE hq
                      by_cases hu2 : u = 2
                      · subst hu2
                        have hcf := hF6.cell hyl
                        have hcs := hF6.soft y
                        have HF7 := Lib.hid (flAt_congr (flAt_put hF6 y false) (fun i _ => stF_take HU.out i))
                        have HB7 := Lib.hid (hb6.setCell (p := ⟨w11.heap.size, y, none⟩) (Nat.le_refl _) (.bool false))
                        clear hF6 hb6
                        go_wp2_with fail
                        go_roundw
                        case rel => exact ⟨y + 1, by omega, by go_num, HF7, by show _ < _; simp [World.setCell]; omega, HB7.out⟩
                        case measure => simp [intOf]; omega
                      · have hu3 : (u == 2) = false := by simpa using hu2
                        have HF7 := Lib.hid (flAt_congr hF6 (fun i _ => stF_keep (by rw [HU.out]; exact hu2) i))
                        clear hF6
                        go_wp2_with fail
                        go_roundw
                        case rel => exact ⟨y + 1, by omega, by go_num, HF7, by omega, hb6⟩
                        case measure => simp [intOf]; omega
                  · have hye : y = n := by omega
                    have hyd : decide ((y : Int) < (n : Int)) = false := decide_eq_false (by omega)
                    have HF8 : Hid (FlAt wr w11.heap.size n (stF uf f n)) := Lib.hid (flAt_congr hF5.out (fun i _ => by rw [hye]))
                    clear hye
                    obtain ⟨e, he⟩ : ∃ e, setByI (validB ts s) s (k : Int) = e := ⟨_, rfl⟩
                    have HE := Lib.hid he
                    clear he
                    have HSE : Hid (∀ w', Below wr.heap.size wr w' → Calls Tryz.prog 15 #[.agg #[.slice At n ct, .slice As m cs], .int .i64 k] w' fun E w'' => E = .returned (.int .i64 e) ∧ Below w'.heap.size w' w'') := fun w' hb => by
                      have h := implSetBy_any ts s At As ct cs k w' (Tr.out.below hb hb.size) (Rr.out.below hb hb.size) (tab_below hTab hg (Br.out.trans (hb.mono (by have := Br.out.size; omega)))) (by have := Br.out.size; have := hb.size; omega)
                      rw [HN.out, HM.out, HE.out] at h
                      exact h
                    go_upto_region 29 with (fail)
                    go_region_held3 (fun w' => Below wr.heap.size wr w' ∧ w'.cell? ⟨PB, 0, none⟩ = some (.slice At n ct) ∧ w'.cell? ⟨PB, 1, none⟩ = some (.slice As m cs) ∧ w'.cell? (b0.add x) = some (.int .i64 k))
                      (first | with_reducible exact HS.out _ ((Below.refl wr.heap.size wr).drew) | with_reducible exact HS.out _ (Below.refl wr.heap.size wr) | with_reducible exact HS.out _ ((And.left ‹Below wr.heap.size wr _ ∧ _›).trans (hbn.mono (And.left ‹Below wr.heap.size wr _ ∧ _›).size)))
                      ((go_at_call 15; (with_reducible refine (HSE.out _ (And.left ‹Below wr.heap.size wr _ ∧ _›)).mono ?_); rintro E w' ⟨rfl, hbn⟩))
                    all_goals
                      obtain ⟨hq, -⟩ := ‹Below wr.heap.size wr _ ∧ _›
                      have hq1 := hq.size
                      have hb6 : Below w11.heap.size w11 _ := hb5.trans (hq.mono hzr)
                      have hF6 := HF8.out.keep (hq.block w11.heap.size hS5)
                      clear HS HSE hq
                      by_cases he0 : 0 ≤ e
                      · obtain ⟨m', rfl⟩ := Int.eq_ofNat_of_zero_le he0
                        have hml := HSL.out m' HE.out
                        have g3 : decide ((0 : Int) ≤ (m' : Int)) = true := decide_eq_true (by omega)
                        have hcf := hF6.cell hml
                        have hcs := hF6.soft m'
                        have HF7 := Lib.hid (flAt_congr (flAt_put hF6 m' true) (fun i hi => stF_set HUF.out HE.out i hi))
                        have HB7 := Lib.hid (hb6.setCell (p := ⟨w11.heap.size, m', none⟩) (Nat.le_refl _) (.bool true))
                        clear hF6 hb6
                        go_wp2_with fail
                        go_roundw
                        case rel => exact ⟨x + 1, _, by omega, by go_num, HNX, HF7, by show _ < _; simp [World.setCell]; omega, HB7.out⟩
                        case measure => simp [intOf]; omega
                      · have g3 : decide ((0 : Int) ≤ e) = false := decide_eq_false he0
                        have HF7 := Lib.hid (flAt_congr hF6 (fun i hi => stF_none HUF.out HE.out (by omega) i hi))
                        clear hF6
                        go_wp2_with fail
                        go_roundw
                        case rel => exact ⟨x + 1, _, by omega, by go_num, HNX, HF7, by omega, hb6⟩
                        case measure => simp [intOf]; omega
        · have hxe : x = p := by omega
          have hxn' : decide ((x : Int) < (p : Int)) = false := decide_eq_false (by omega)
          have B9 := Lib.hid Bo.out
          go_wp2_with fail
          go_ret
          exact ⟨rfl, B9.out⟩

theorem cellsByte : Tryz.prog.cellsOf 5 = 1 := by kernel_rfl

theorem read_bytes {H : Type} {enc : TypeId × Value → H} {W : World} {spare : Nat → Bool} {held : Bool} {fuel : Nat} {v : Value} {x : DataW H × List MemPlace} (h : DataW.trod enc Tryz.prog W 0 spare held fuel 22 [v] = some x) :
    ∃ (n : Nat) (A : Option Addr) (c : Nat), v = .slice A n c ∧ ByteV W W.heap.size n A c := by
  rcases DataW.trod_slice Tryz.underlying22 h with ⟨hcs, _⟩ | ⟨a, len, cap, elems, rest, n, _, hcs, _, _, hl, hm, hlen, hel, _⟩
  · injection hcs with hcs _
    exact ⟨0, none, 0, hcs, by simp, by simp [maxLen], fun h => absurd h (by simp)⟩
  · injection hcs with hcs _
    have hex : ∀ i, i < len → ∃ z : Int, W.cell? (a.add i) = some (.int .u8 z) ∧ 0 ≤ z ∧ z ≤ 255 := by
      intro i hi
      have h1 := hel i hi
      rw [cellsByte, Nat.mul_one, List.getElem?_eq_getElem (by omega)] at h1
      obtain ⟨cs', hc, ht⟩ := Option.bind_eq_some_iff.1 h1
      obtain ⟨_, _, hat⟩ := World.cells?_some hc
      obtain ⟨z, rfl, _, hwf⟩ := DataW.trod_int Tryz.underlying5 ht
      have hz : 0 ≤ z ∧ z ≤ 255 := by simpa [Lit.wf, IntKind.min, IntKind.max, IntKind.signed, IntKind.bits] using hwf
      exact ⟨z, by simpa [Addr.add] using hat 0 (by omega), hz.1, hz.2⟩
    refine ⟨len, some a, cap, hcs, hl, hm, fun h0 => ⟨a, rfl, ?_, hex⟩⟩
    obtain ⟨z, hz, _⟩ := hex 0 h0
    have := World.block_lt_of_cell? W _ hz
    rwa [block_add] at this

theorem own : ownKnob Tryz.prog.godebug = none := by kernel_rfl
theorem laidOut : laidOutB Tryz.prog = true := by kernel_rfl

set_option maxRecDepth 100000 in
theorem lifted (os : Os) (started : os.Started) (H : Type) (enc : TypeId × Value → H) :
    ReturnsInHanded {} Tryz.checked os 3 .any (fun w args => (Rows.fnAlwaysSetSpec.pre enc Tryz.prog Tryz.f3 [] false w args ∧ laidMetH Tryz.prog listed w) ∧ sizedMet enc Tryz.prog Tryz.f3 (OpenSpec.ofChange Rows.fnAlwaysSetSpec) false w args)
      (Rows.fnAlwaysSetSpec.post enc Tryz.prog Tryz.f3 false true false false) := by
  refine returnsInHanded_of_change_and (C := Tryz.checked) (X := fun w _ => laidMetH Tryz.prog listed w) (fun _ _ _ hh h => h.of_heap hh) own started (by kernel_rfl) Tryz.func3
    (ChangeSpec.witness_shaped (enc := enc) (C := Tryz.checked) (os := os) (X := fun w _ => laidMetH Tryz.prog listed w) false (World.doorLaid Tryz.prog 400 os) #[.slice none 0 0, .slice none 0 0] 8 rfl (World.shaped_of_RefB (by kernel_rfl) (by kernel_rfl)) (by kernel_rfl) (by kernel_rfl) (by kernel_rfl) (door_met os _)) ?_
  intro W base args ds gs before hval0 hW _ _ hL _
  have hval : ∀ (j : Nat) t v, Tryz.f3.params[j]? = some t → args[j]? = some v → Value.okWide Tryz.prog W .any base t v := hval0
  have hW' := hW
  obtain ⟨p, q, hA0, hV, rfl, hfz, hnd⟩ := hW
  have hA : DataW.TrodAll enc Tryz.prog W 0 (fun _ => true) true Tryz.f3.params.toList args.toList ds p := hA0
  rw [Tryz.params3] at hA hval
  obtain ⟨v0, vs0, d0, ds0, p0, q0, hargs, rfl, rfl, h0, r0⟩ := trodAll_cons hA
  obtain ⟨v1, vs1, d1, ds1, p1, q1, rfl, rfl, rfl, h1, r1⟩ := trodAll_cons r0
  obtain ⟨rfl, rfl, rfl⟩ := trodAll_nil r1
  obtain rfl : args = #[v0, v1] := by cases args; simp_all
  obtain ⟨rfl, rfl⟩ := trodVars_none hV
  have k0 := h0
  have lt0 : ∀ x ∈ p0, x.block < W.heap.size := by obtain ⟨m, hm⟩ := k0; exact DataW.trod_lt m _ _ _ hm
  obtain ⟨a0, len0, cap0, rfl⟩ := okWide_slice Tryz.underlying22 (hval 0 22 v0 rfl rfl)
  obtain ⟨fu0, hf0⟩ := h0
  obtain ⟨nb0, At0, ct0, hv0, hT0⟩ := read_bytes hf0
  injection hv0 with hv0 hv0' hv0''
  subst hv0 hv0' hv0''
  have k1 := h1
  have lt1 : ∀ x ∈ p1, x.block < W.heap.size := by obtain ⟨m, hm⟩ := k1; exact DataW.trod_lt m _ _ _ hm
  obtain ⟨a1, len1, cap1, rfl⟩ := okWide_slice Tryz.underlying22 (hval 1 22 v1 rfl rfl)
  obtain ⟨fu1, hf1⟩ := h1
  obtain ⟨nb1, At1, ct1, hv1, hT1⟩ := read_bytes hf1
  injection hv1 with hv1 hv1' hv1''
  subst hv1 hv1' hv1''
  obtain ⟨hTab, hTabLt⟩ := tab_of_laid hL
  clear hA0 hval0
  simp only [List.append_nil] at hW'
  refine (walk _ _ _ _ _ _ W hT0 hT1 hTab hTabLt).mono fun e W' ⟨he, bel⟩ => ?_
  subst he
  exact ⟨_, rfl, _, _, _, [], _, [], hW', trodAll_mk1 (shut_bool Tryz.underlying4 _), (trodAll_cons_mk (Below.trod laidOut (by kernel_rfl) (of_decide_eq_true (by kernel_rfl)) k0 bel lt0) (trodAll_cons_mk (Below.trod laidOut (by kernel_rfl) (of_decide_eq_true (by kernel_rfl)) k1 bel lt1) trodAll_mk0)), rfl, bel.frame _, fun h => by cases h⟩

theorem over : Rows.fnAlwaysSetRow.holds Tryz.pinned (OpenSpec.ofChange Rows.fnAlwaysSetSpec) :=
  OpenClaim.holds_of_wide 3 Tryz.f3 rfl rfl rfl rfl rfl rfl rfl ⟨rfl, rfl, rfl, rfl, rfl⟩ rfl rfl rfl rfl rfl (by kernel_rfl) Tryz.func3 (by kernel_rfl)
    (of_decide_eq_true (by kernel_rfl)) (by unfold Func.isWrapper; first | (rw [if_pos (by decide +kernel)]; kernel_rfl) | (rw [if_neg (by decide +kernel)]; exact ⟨rfl, rfl⟩))
    (fun os started H enc _ => lifted os started H enc)

set_option maxRecDepth 100000 in
theorem proved : Rows.FnAlwaysSetCardSaid :=
  Claim7.holds_tied_plain_at .later [] [.data] true (true, "385fa4c2d0f729267aafa0182a9fadf578cf2c37f381376e54bc9b79c8758c79") false
    over (fun _ h => by cases h) (by kernel_rfl) (fun _ h => by cases h) fnAlwaysSet_row_tie rfl ⟨rfl, rfl⟩ (by kernel_rfl) rfl
    (fun f fn hf hfn => by
      obtain rfl : f = 3 := Option.some.inj ((show Tryz.prog.funcNamed "loop.example/borrowcheck/laws.FnAlwaysSet" = some 3 by kernel_rfl).symm.trans hf) |>.symm
      obtain rfl : fn = Tryz.f3 := (Option.some.inj (Tryz.func3.symm.trans hfn)).symm
      exact ⟨by kernel_rfl, fun j t ht => by
        rw [Tryz.params3] at ht
        have hm : t ∈ [22, 22] := by simpa using Array.mem_of_getElem? ht
        have hall : ([22, 22].all fun u => !Tryz.prog.wantsStandIn u) = true := by kernel_rfl
        exact (show Tryz.prog.wantsStandIn t = false by simpa using List.all_eq_true.1 hall t hm)⟩)
    (by kernel_rfl)
#print axioms proved
end Go.Proofs.YtcdidoapbbbkdaaGreatDoor.fnAlwaysSet
