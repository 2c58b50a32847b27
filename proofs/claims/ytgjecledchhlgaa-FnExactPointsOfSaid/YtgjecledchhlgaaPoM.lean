/-
  What the laws write over a row of points, and how they read it again.
-/
import Derived.Test.YtgjecledchhlgaaMarkC
namespace Go.Proofs.Ytgjecledchhlgaa
open Go.RowKit Go.Deep
set_option linter.unusedVariables false

/-- How a row of points lies, whatever its numbers are: the lists of next points in blocks of their own. -/
structure PSh (w : World) (g n B : Nat) (l f cc : Nat → Nat) (Av : Nat → Option Addr) : Prop where
  rowi : ∀ j, j < n → ∀ i, i < 4 → ∃ v, w.cell? ⟨g, j * 5 + i, none⟩ = some (.int .i64 v)
  rows : ∀ j, j < n → w.cell? ⟨g, j * 5 + 4, none⟩ = some (.slice (Av j) (l j) (cc j))
  some_ : ∀ j, j < n → 0 < l j → Av j = some ⟨f j, 0, none⟩ ∧ l j ≤ cc j ∧ cc j ≤ maxLen ∧ B ≤ f j ∧ f j < w.heap.size ∧ (∀ i, i < l j → ∃ v, w.cell? ⟨f j, i, none⟩ = some (.int .i64 v)) ∧ ∀ o, w.frozen? ⟨f j, o, none⟩ = false
  ne : ∀ j, j < n → 0 < l j → f j ≠ g
  apart : ∀ i j, i < j → j < n → 0 < l i → 0 < l j → f i ≠ f j
  own : B ≤ g ∧ g < w.heap.size
  frz : ∀ o, w.frozen? ⟨g, o, none⟩ = false
  two : ∀ j, l j ≤ 2

theorem PSh.marked {lo hi : Nat} {a b : World} {g n B : Nat} {l f cc : Nat → Nat} {Av : Nat → Option Addr} (h : PSh a g n B l f cc Av) (hM : MarkRel lo hi a b) : PSh b g n B l f cc Av :=
  ⟨fun j hj i hi => hM.isInt (h.rowi j hj i hi), fun j hj => hM.isSlice (h.rows j hj), fun j hj h0 => by
    obtain ⟨h1, h2, h3, h4, h5, h6, h7⟩ := h.some_ j hj h0
    exact ⟨h1, h2, h3, h4, by rw [hM.size]; exact h5, fun i hi => hM.isInt (h6 i hi), fun o => (hM.frozen _).trans (h7 o)⟩, h.ne, h.apart, ⟨h.own.1, by rw [hM.size]; exact h.own.2⟩, fun o => (hM.frozen _).trans (h.frz o), h.two⟩

theorem PSh.below {a b : World} {g n B : Nat} {l f cc : Nat → Nat} {Av : Nat → Option Addr} (h : PSh a g n B l f cc Av) (hb : Below a.heap.size a b) : PSh b g n B l f cc Av :=
  ⟨fun j hj i hi => by obtain ⟨v, hv⟩ := h.rowi j hj i hi; exact ⟨v, (hb.cell h.own.2).trans hv⟩, fun j hj => (hb.cell h.own.2).trans (h.rows j hj), fun j hj h0 => by
    obtain ⟨h1, h2, h3, h4, h5, h6, h7⟩ := h.some_ j hj h0
    exact ⟨h1, h2, h3, h4, Nat.lt_of_lt_of_le h5 hb.size, fun i hi => by obtain ⟨v, hv⟩ := h6 i hi; exact ⟨v, (hb.cell h5).trans hv⟩, fun o => (World.frozen?_of_block (hb.block _ h5)).trans (h7 o)⟩, h.ne, h.apart, ⟨h.own.1, Nat.lt_of_lt_of_le h.own.2 hb.size⟩, fun o => (World.frozen?_of_block (hb.block _ h.own.2)).trans (h.frz o), h.two⟩

/-- The number that the j-th point's first cell gets. -/
def baseM (k : Int) (l : Nat → Nat) : Nat → Int
  | 0 => k
  | j + 1 => baseM k l j + 4 + l j

theorem baseM_le (k : Int) (l : Nat → Nat) (h2 : ∀ j, l j ≤ 2) (n : Nat) : k ≤ baseM k l n ∧ baseM k l n ≤ k + 6 * n := by
  induction n with
  | zero => exact ⟨Int.le_refl _, by simp [baseM]⟩
  | succ n ih =>
    have := h2 n
    simp only [baseM]
    omega

/-- The first m points hold the numbers that were written over them. -/
def MkP (w : World) (g m : Nat) (l f : Nat → Nat) (k : Int) : Prop :=
  ∀ j, j < m → (∀ i, i < 4 → w.cell? ⟨g, j * 5 + i, none⟩ = some (.int .i64 (baseM k l j + i))) ∧ ∀ i, i < l j → w.cell? ⟨f j, i, none⟩ = some (.int .i64 (baseM k l j + 4 + i))

theorem MkP.below {w w' : World} {g n B : Nat} {l f cc : Nat → Nat} {Av : Nat → Option Addr} {k : Int} (h : MkP w g n l f k) (hP : PSh w g n B l f cc Av) (hb : Below w.heap.size w w') : MkP w' g n l f k :=
  fun j hj => ⟨fun i hi => (hb.cell hP.own.2).trans ((h j hj).1 i hi), fun i hi => (hb.cell (hP.some_ j hj (by omega)).2.2.2.2.1).trans ((h j hj).2 i hi)⟩

set_option maxRecDepth 100000 in
set_option maxHeartbeats 4000000 in
theorem markPointS_any (g n c B : Nat) (l f cc : Nat → Nat) (Av : Nat → Option Addr) (k : Int) (w : World) (hn : n ≤ c) (hc : c ≤ maxLen) (hn2 : n ≤ 1000) (hk : 0 ≤ k) (hk2 : k ≤ 1000) (hP : PSh w g n B l f cc Av) :
    Calls Try.prog 26 #[.slice (some ⟨g, 0, none⟩) n c, .int .i64 k] w fun E w' => E = .returned (.int .i64 (baseM k l n)) ∧ MarkRel B w.heap.size w w' ∧ MkP w' g n l f k := by
  unfold maxLen at hc
  have HP := Lib.hid hP
  clear hP
  go_enter Try.func26, Try.ntmps26
  go_wp2_with fail
  go_loopw [1, 5] (fun q i wr => ∃ (j : Nat) (z : Int), j ≤ n ∧ i = .int .i64 j ∧ q = .int .i64 z ∧ Hid (z = baseM k l j) ∧ MarkRel B w.heap.size w wr ∧ Hid (MkP wr g j l f k)) (fun _ i _ => n - (intOf i).toNat)
  case atStart => exact ⟨0, k, Nat.zero_le _, rfl, rfl, rfl, MarkRel.refl _ _ _, fun j hj => absurd hj (by omega)⟩
  case round =>
    obtain ⟨j, z, hj, rfl, rfl, hz, hM, hmk⟩ := hrel
    have hPr := HP.out.marked hM
    by_cases hlt : j < n
    · obtain ⟨v0, h0⟩ := hPr.rowi j hlt 0 (by omega)
      obtain ⟨v1, h1⟩ := hPr.rowi j hlt 1 (by omega)
      obtain ⟨v2, h2⟩ := hPr.rowi j hlt 2 (by omega)
      obtain ⟨v3, h3⟩ := hPr.rowi j hlt 3 (by omega)
      have h4 := hPr.rows j hlt
      rw [Nat.add_zero] at h0
      have hfz := hPr.frz
      have hg2 : g < g + 1 := by omega
      have hzb := baseM_le k l HP.out.two j
      rw [← hz.out] at hzb
      obtain ⟨hzb1, hzb2⟩ := hzb
      have hl2 := HP.out.two j
      have m1 := (MarkRel.refl g (g + 1) wr).set (p := ⟨g, j * 5, none⟩) z (Nat.le_refl _) hg2 h0
      have n1 := (World.cell?_setCell_other wr ⟨g, j * 5, none⟩ ⟨g, j * 5 + 1, none⟩ (.int .i64 z) (fun e => by injection e with _ e; omega)).trans h1
      have m2 := m1.set (p := ⟨g, j * 5 + 1, none⟩) (z + 1) (Nat.le_refl _) hg2 n1
      have n2 := (World.cell?_setCell_other _ ⟨g, j * 5 + 1, none⟩ ⟨g, j * 5 + 2, none⟩ (.int .i64 (z + 1)) (fun e => by injection e with _ e; omega)).trans ((World.cell?_setCell_other wr ⟨g, j * 5, none⟩ ⟨g, j * 5 + 2, none⟩ (.int .i64 z) (fun e => by injection e with _ e; omega)).trans h2)
      have m3 := m2.set (p := ⟨g, j * 5 + 2, none⟩) (z + 1 + 1) (Nat.le_refl _) hg2 n2
      have n3 := (World.cell?_setCell_other _ ⟨g, j * 5 + 2, none⟩ ⟨g, j * 5 + 3, none⟩ (.int .i64 (z + 1 + 1)) (fun e => by injection e with _ e; omega)).trans ((World.cell?_setCell_other _ ⟨g, j * 5 + 1, none⟩ ⟨g, j * 5 + 3, none⟩ (.int .i64 (z + 1)) (fun e => by injection e with _ e; omega)).trans ((World.cell?_setCell_other wr ⟨g, j * 5, none⟩ ⟨g, j * 5 + 3, none⟩ (.int .i64 z) (fun e => by injection e with _ e; omega)).trans h3))
      have m4 := m3.set (p := ⟨g, j * 5 + 3, none⟩) (z + 1 + 1 + 1) (Nat.le_refl _) hg2 n3
      have HPr := Lib.hid (hPr.marked m4)
      have hrow : ∀ i, i < 4 → ((((wr.setCell ⟨g, j * 5, none⟩ (.int .i64 z)).setCell ⟨g, j * 5 + 1, none⟩ (.int .i64 (z + 1))).setCell ⟨g, j * 5 + 2, none⟩ (.int .i64 (z + 1 + 1))).setCell ⟨g, j * 5 + 3, none⟩ (.int .i64 (z + 1 + 1 + 1))).cell? ⟨g, j * 5 + i, none⟩ = some (.int .i64 (z + i)) := by
        intro i hi
        match i, hi with
        | 0, _ =>
          rw [World.cell?_setCell_other _ _ _ _ (fun e => by injection e with _ e; omega), World.cell?_setCell_other _ _ _ _ (fun e => by injection e with _ e; omega), World.cell?_setCell_other _ _ _ _ (fun e => by injection e with _ e; omega)]
          rw [Nat.add_zero, World.cell?_setCell_same _ _ _ h0]
          simp
        | 1, _ =>
          rw [World.cell?_setCell_other _ _ _ _ (fun e => by injection e with _ e; omega), World.cell?_setCell_other _ _ _ _ (fun e => by injection e with _ e; omega), World.cell?_setCell_same _ _ _ n1]
          simp
        | 2, _ =>
          rw [World.cell?_setCell_other _ _ _ _ (fun e => by injection e with _ e; omega), World.cell?_setCell_same _ _ _ n2]
          congr 2
          omega
        | 3, _ =>
          rw [World.cell?_setCell_same _ _ _ n3]
          congr 2
          omega
      have hold : MkP ((((wr.setCell ⟨g, j * 5, none⟩ (.int .i64 z)).setCell ⟨g, j * 5 + 1, none⟩ (.int .i64 (z + 1))).setCell ⟨g, j * 5 + 2, none⟩ (.int .i64 (z + 1 + 1))).setCell ⟨g, j * 5 + 3, none⟩ (.int .i64 (z + 1 + 1 + 1))) g j l f k := by
        intro i hi
        obtain ⟨r1, r2⟩ := hmk.out i hi
        refine ⟨fun a ha => ?_, fun a ha => ?_⟩
        · rw [World.cell?_setCell_other _ _ _ _ (fun e => by injection e with _ e; omega), World.cell?_setCell_other _ _ _ _ (fun e => by injection e with _ e; omega), World.cell?_setCell_other _ _ _ _ (fun e => by injection e with _ e; omega), World.cell?_setCell_other _ _ _ _ (fun e => by injection e with _ e; omega)]
          exact r1 a ha
        · rw [m4.cell (p := ⟨f i, a, none⟩) (by
            have : f i ≠ g := HP.out.ne i (by omega) (by omega)
            show f i < g ∨ g + 1 ≤ f i
            omega)]
          exact r2 a ha
      have HROW := Lib.hid hrow
      have HOLD := Lib.hid hold
      have HM4 := Lib.hid (hM.trans (m4.wide HP.out.own.1 (by have := HP.out.own.2; omega)))
      have h0' : wr.cell? ⟨g, j * 5, none⟩ = some (.int .i64 v0) := h0
      have f0 := hfz (j * 5)
      have f1 := hfz (j * 5 + 1)
      have f2 := hfz (j * 5 + 2)
      have f3 := hfz (j * 5 + 3)
      obtain ⟨w4, hw4⟩ : ∃ w4, w4 = (((wr.setCell ⟨g, j * 5, none⟩ (.int .i64 z)).setCell ⟨g, j * 5 + 1, none⟩ (.int .i64 (z + 1))).setCell ⟨g, j * 5 + 2, none⟩ (.int .i64 (z + 1 + 1))).setCell ⟨g, j * 5 + 3, none⟩ (.int .i64 (z + 1 + 1 + 1)) := ⟨_, rfl⟩
      rw [← hw4] at HROW HOLD HM4 HPr
      have HW4 := Lib.hid hw4
      clear hrow hold m1 m2 m3 m4 n1 n2 n3 hfz hmk hPr hM hw4 h0
      by_cases hl0 : l j = 0
      · rw [hl0] at h4
        have hni := markIntS_nil (Av j) (cc j) (z + 1 + 1 + 1 + 1) w4
        have hb2 : Hid (z + 1 + 1 + 1 + 1 = baseM k l (j + 1)) := by
          unfold Hid
          simp only [baseM]
          rw [← hz.out, hl0]
          omega
        have hmk2 : Hid (MkP w4 g (j + 1) l f k) := by
          intro i hi
          by_cases e : i = j
          · subst e
            exact ⟨fun a ha => by rw [← hz.out]; exact HROW.out a ha, fun a ha => by omega⟩
          · exact HOLD.out i (by omega)
        clear HROW HOLD hl0
        rw [HW4.out] at hni
        go_wp2_with fail
        refine hni.mono ?_
        rintro E w' ⟨rfl, rfl⟩
        go_wp2_with fail
        go_roundw
        case rel => exact ⟨j + 1, _, by omega, by go_num, rfl, hb2, by rw [← HW4.out]; exact HM4.out, by rw [← HW4.out]; exact hmk2⟩
        case measure => simp [intOf]; omega
      · obtain ⟨hA, hlc, hcm, hBf, hfw, hfi, hff⟩ := HPr.out.some_ j hlt (by omega)
        rw [hA] at h4
        have hfg := HP.out.ne j hlt (by omega)
        have hni := markIntS_row (l j) (cc j) (f j) (z + 1 + 1 + 1 + 1) w4 hlc (by omega) hcm (by omega) (by omega) hfi hff
        have hb2 : Hid (z + 1 + 1 + 1 + 1 + l j = baseM k l (j + 1)) := by
          unfold Hid
          simp only [baseM]
          rw [← hz.out]
          omega
        have hz4 : Hid (z + 1 + 1 + 1 + 1 = baseM k l j + 4) := by
          unfold Hid
          rw [← hz.out]
          omega
        have hlj : 0 < l j := by omega
        have hfw2 : f j < w.heap.size := by rw [HM4.out.size] at hfw; exact hfw
        clear hl0 hA hfi hff
        rw [HW4.out] at hni
        go_wp2_with fail
        refine hni.mono ?_
        rintro E w' ⟨rfl, hMn, hcn⟩
        rw [← HW4.out] at hMn
        have hmk2 : Hid (MkP w' g (j + 1) l f k) := by
          intro i hi
          by_cases e : i = j
          · subst e
            refine ⟨fun a ha => ?_, fun a ha => ?_⟩
            · rw [← hz.out, hMn.cell (p := ⟨g, i * 5 + a, none⟩) (by show g < f i ∨ f i + 1 ≤ g; omega)]
              exact HROW.out a ha
            · rw [← hz4.out]
              exact hcn a ha
          · obtain ⟨r1, r2⟩ := HOLD.out i (by omega)
            refine ⟨fun a ha => ?_, fun a ha => ?_⟩
            · rw [hMn.cell (p := ⟨g, i * 5 + a, none⟩) (by show g < f j ∨ f j + 1 ≤ g; omega)]
              exact r1 a ha
            · rw [hMn.cell (p := ⟨f i, a, none⟩) (by
                have := HP.out.apart i j (by omega) hlt (by omega) hlj
                show f i < f j ∨ f j + 1 ≤ f i
                omega)]
              exact r2 a ha
        have HM5 := Lib.hid (HM4.out.trans (hMn.wide hBf (by omega)))
        clear hMn hcn hni HROW HOLD hz4
        go_wp2_with fail
        go_roundw
        case rel => exact ⟨j + 1, _, by omega, by go_num, rfl, hb2, HM5.out, hmk2⟩
        case measure => simp [intOf]; omega
    · have hj' : j = n := by omega
      subst hj'
      go_wp2_with fail
      go_ret
      exact ⟨by rw [← hz.out]; rfl, hM, hmk.out⟩

set_option maxRecDepth 100000 in
set_option maxHeartbeats 4000000 in
theorem heldPointS_any (g n c B : Nat) (l f cc : Nat → Nat) (Av : Nat → Option Addr) (k : Int) (w : World) (hn : n ≤ c) (hc : c ≤ maxLen) (hn2 : n ≤ 1000) (hk : 0 ≤ k) (hk2 : k ≤ 1000) (hP : PSh w g n B l f cc Av) (hM : MkP w g n l f k) :
    Calls Try.prog 27 #[.slice (some ⟨g, 0, none⟩) n c, .int .i64 k] w fun E w' => E = .returned (.int .i64 (baseM k l n)) ∧ w = w' := by
  unfold maxLen at hc
  have HP := Lib.hid hP
  have HM := Lib.hid hM
  clear hP hM
  go_enter Try.func27, Try.ntmps27
  go_wp2_with fail
  go_loop [1, 5] (fun q i => ∃ (j : Nat) (z : Int), j ≤ n ∧ i = .int .i64 j ∧ q = .int .i64 z ∧ Hid (z = baseM k l j)) (fun _ i => n - (intOf i).toNat)
  case atStart => exact ⟨0, k, Nat.zero_le _, rfl, rfl, rfl⟩
  case round =>
    obtain ⟨j, z, hj, rfl, rfl, hz⟩ := hrel
    by_cases hlt : j < n
    · obtain ⟨r1, r2⟩ := HM.out j hlt
      have hzb := baseM_le k l HP.out.two j
      rw [← hz.out] at hzb r1 r2
      obtain ⟨hzb1, hzb2⟩ := hzb
      have hl2 := HP.out.two j
      have c0 := r1 0 (by omega)
      have c1 := r1 1 (by omega)
      have c2 := r1 2 (by omega)
      have c3 := r1 3 (by omega)
      have h4 := HP.out.rows j hlt
      rw [Nat.add_zero] at c0
      have c0' : w.cell? ⟨g, j * 5, none⟩ = some (.int .i64 z) := by simpa using c0
      have c1' : w.cell? ⟨g, j * 5 + 1, none⟩ = some (.int .i64 (z + 1)) := by simpa using c1
      have c2' : w.cell? ⟨g, j * 5 + 2, none⟩ = some (.int .i64 (z + 1 + 1)) := by rw [c2]; congr 2; omega
      have c3' : w.cell? ⟨g, j * 5 + 3, none⟩ = some (.int .i64 (z + 1 + 1 + 1)) := by rw [c3]; congr 2; omega
      have hb2 : Hid (z + 1 + 1 + 1 + 1 + l j = baseM k l (j + 1)) := by
        unfold Hid
        simp only [baseM]
        rw [← hz.out]
        omega
      have hh : Calls Try.prog 33 #[.slice (Av j) (l j) (cc j), .int .i64 (z + 1 + 1 + 1 + 1)] w fun E w' => E = .returned (.int .i64 (z + 1 + 1 + 1 + 1 + l j)) ∧ w = w' := by
        by_cases hl0 : l j = 0
        · rw [hl0]
          refine (heldIntS_nil (Av j) (cc j) (z + 1 + 1 + 1 + 1) w).mono ?_
          rintro E w' ⟨rfl, rfl⟩
          exact ⟨by simp, rfl⟩
        · obtain ⟨hA, hlc, hcm, hBf, hfw, hfi, hff⟩ := HP.out.some_ j hlt (by omega)
          rw [hA]
          exact heldIntS_row (l j) (cc j) (f j) (z + 1 + 1 + 1 + 1) w hlc (by omega) hcm (by omega) (by omega) (fun i hi => by rw [r2 i hi]; congr 2; omega)
      have hpos : ¬ z + 1 + 1 + 1 + 1 + (l j : Int) < 0 := by omega
      clear c0 c1 c2 c3 r1 r2
      go_wp2_with fail
      refine hh.mono ?_
      rintro E w' ⟨rfl, rfl⟩
      clear hh
      go_wp2_with fail
      go_round
      case rel => exact ⟨j + 1, _, by omega, by go_num, rfl, hb2⟩
      case measure => simp [intOf]; omega
    · have hj' : j = n := by omega
      subst hj'
      go_wp2_with fail
      go_ret
      exact ⟨by rw [← hz.out]; rfl, rfl⟩

end Go.Proofs.Ytgjecledchhlgaa
