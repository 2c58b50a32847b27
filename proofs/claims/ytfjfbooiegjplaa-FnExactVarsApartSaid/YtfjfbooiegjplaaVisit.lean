/-
  The variables of statements: what a visit of one statement marks.
-/
import Derived.Test.YtfjfbooiegjplaaAddP
namespace Go.Proofs.Ytfjfbooiegjplaa
open Go.RowKit Go.Deep
set_option linter.unusedVariables false

/-- A statement's own variables. -/
def ownB (op x y : Int) (v : Nat) : Bool := (decide (op < 9) && decide (x = v)) || (decide (3 ≤ op) && decide (op ≤ 7) && decide (y = v))

def flagsA (F : Nat → Bool) : Array Value := #[.bool (F 0), .bool (F 1), .bool (F 2), .bool (F 3), .bool (F 4), .bool (F 5)]

theorem flagsA_set (F : Nat → Bool) (X : Nat) (hX : X < 6) : (flagsA F).setIfInBounds X (.bool true) = flagsA fun v => F v || decide (X = v) := by
  unfold flagsA
  rcases X with _ | _ | _ | _ | _ | _ | X
  · simp
  · simp
  · simp
  · simp
  · simp
  · simp
  · omega

theorem flagsA_congr {F G : Nat → Bool} (h : ∀ v, v < 6 → F v = G v) : flagsA F = flagsA G := by
  unfold flagsA
  rw [h 0 (by omega), h 1 (by omega), h 2 (by omega), h 3 (by omega), h 4 (by omega), h 5 (by omega)]

theorem flagsA_get (F : Nat → Bool) (X : Nat) (hX : X < 6) : (flagsA F)[X]? = some (.bool (F X)) := by
  unfold flagsA
  rcases X with _ | _ | _ | _ | _ | _ | X <;> first | rfl | omega

/-- The flags of six variables lie in block H. -/
def FlagsAt (w : World) (H : Nat) (t : TypeId) (F : Nat → Bool) : Prop := w.heap[H]? = some (.cells (flagsA F) t (0, 0))

theorem FlagsAt.set {w : World} {H : Nat} {t : TypeId} {F : Nat → Bool} (h : FlagsAt w H t F) {X : Nat} (hX : X < 6) : FlagsAt (w.setCell ⟨H, X, none⟩ (.bool true)) H t (fun v => F v || decide (X = v)) := by
  unfold FlagsAt
  rw [← flagsA_set F X hX]
  exact block_set h X _

theorem FlagsAt.cell {w : World} {H : Nat} {t : TypeId} {F : Nat → Bool} (h : FlagsAt w H t F) {X : Nat} (hX : X < 6) : w.cell? ⟨H, X, none⟩ = some (.bool (F X)) := (cell_of_block h X).trans (flagsA_get F X hX)

theorem FlagsAt.congr {w : World} {H : Nat} {t : TypeId} {F G : Nat → Bool} (h : FlagsAt w H t F) (hG : ∀ v, v < 6 → F v = G v) : FlagsAt w H t G := by
  unfold FlagsAt
  rw [← flagsA_congr hG]
  exact h

theorem keeps_set (H : Nat) (w : World) (o : Nat) (u : Value) : Keeps (fun k => k ≠ H) w (w.setCell ⟨H, o, none⟩ u) := ⟨rfl, rfl, rfl, by simp [World.setCell], fun k hk => Below.heap_setCell _ _ _ _ (by show k ≠ H; exact hk)⟩

theorem isVar_any (x : Int) (w : World) : Calls Try.prog 37 #[.int .i64 x] w fun E w' => E = .returned (.bool (decide (0 ≤ x) && decide (x < 6))) ∧ w = w' := by
  by_cases h1 : 0 ≤ x
  · by_cases h2 : x < 6
    · have e : (decide (0 ≤ x) && decide (x < 6)) = true := by simp; omega
      rw [e]
      go_enter Try.func37, Try.ntmps37
      go_wp2_with fail
      go_ret
      exact ⟨rfl, rfl⟩
    · have e : (decide (0 ≤ x) && decide (x < 6)) = false := by simp; omega
      rw [e]
      go_enter Try.func37, Try.ntmps37
      go_wp2_with fail
      go_ret
      exact ⟨rfl, rfl⟩
  · have e : (decide (0 ≤ x) && decide (x < 6)) = false := by simp; omega
    rw [e]
    go_enter Try.func37, Try.ntmps37
    go_wp2_with fail
    go_ret
    exact ⟨rfl, rfl⟩

theorem hasX_any (x : Int) (w : World) : Calls Try.prog 36 #[.int .i64 x] w fun E w' => E = .returned (.bool (decide (x < 9))) ∧ w = w' := by
  go_enter Try.func36, Try.ntmps36
  go_wp2_with fail
  go_ret
  exact ⟨rfl, rfl⟩

theorem hasY_any (x : Int) (w : World) : Calls Try.prog 38 #[.int .i64 x] w fun E w' => E = .returned (.bool (decide (3 ≤ x) && decide (x ≤ 7))) ∧ w = w' := by
  by_cases h1 : 3 ≤ x
  · by_cases h2 : x ≤ 7
    · have e : (decide (3 ≤ x) && decide (x ≤ 7)) = true := by simp; omega
      rw [e]
      go_enter Try.func38, Try.ntmps38
      go_wp2_with fail
      go_ret
      exact ⟨rfl, rfl⟩
    · have e : (decide (3 ≤ x) && decide (x ≤ 7)) = false := by simp; omega
      rw [e]
      go_enter Try.func38, Try.ntmps38
      go_wp2_with fail
      go_ret
      exact ⟨rfl, rfl⟩
  · have e : (decide (3 ≤ x) && decide (x ≤ 7)) = false := by simp; omega
    rw [e]
    go_enter Try.func38, Try.ntmps38
    go_wp2_with fail
    go_ret
    exact ⟨rfl, rfl⟩

theorem isV_true {X : Nat} (h : X < 6) : (decide ((0 : Int) ≤ (X : Int)) && decide ((X : Int) < 6)) = true := by simp; omega

theorem nonV {x : Int} (h : (decide (0 ≤ x) && decide (x < 6)) = false) {v : Nat} (hv : v < 6) : decide (x = (v : Int)) = false := by
  simp at h ⊢
  omega

theorem arms (op x : Int) (m : Int) : (op < m ∧ ∃ X : Nat, x = (X : Int) ∧ X < 6) ∨ (op < m ∧ (decide (0 ≤ x) && decide (x < 6)) = false) ∨ ¬ op < m := by
  by_cases h : op < m
  · by_cases h1 : 0 ≤ x ∧ x < 6
    · exact .inl ⟨h, x.toNat, by omega, by omega⟩
    · exact .inr (.inl ⟨h, by simp; omega⟩)
  · exact .inr (.inr h)

theorem arms2 (op x : Int) : ((decide (3 ≤ op) && decide (op ≤ 7)) = true ∧ ∃ X : Nat, x = (X : Int) ∧ X < 6) ∨ ((decide (3 ≤ op) && decide (op ≤ 7)) = true ∧ (decide (0 ≤ x) && decide (x < 6)) = false) ∨ (decide (3 ≤ op) && decide (op ≤ 7)) = false := by
  cases h : (decide (3 ≤ op) && decide (op ≤ 7))
  · exact .inr (.inr rfl)
  · by_cases h1 : 0 ≤ x ∧ x < 6
    · exact .inl ⟨rfl, x.toNat, by omega, by omega⟩
    · exact .inr (.inl ⟨rfl, by simp; omega⟩)

theorem ownB_of {op x y : Int} {b : Bool} (h1 : op < 9) (h2 : (decide (3 ≤ op) && decide (op ≤ 7)) = b) {v : Nat} : ownB op x y v = (decide (x = (v : Int)) || (b && decide (y = (v : Int)))) := by
  unfold ownB
  rw [decide_eq_true h1, h2, Bool.true_and]

theorem ownB_of2 {op x y : Int} {b : Bool} (h1 : 9 ≤ op) (h2 : (decide (3 ≤ op) && decide (op ≤ 7)) = b) {v : Nat} : ownB op x y v = (b && decide (y = (v : Int))) := by
  unfold ownB
  rw [decide_eq_false (by omega), h2, Bool.false_and, Bool.false_or]

set_option maxRecDepth 100000 in
set_option maxHeartbeats 4000000 in
theorem visit_any (op x y : Int) (p : Addr) (H : Nat) (t : TypeId) (F : Nat → Bool) (w : World) (h0 : w.cell? p = some (.int .i64 op)) (h1 : w.cell? ⟨p.block, p.off + 1, none⟩ = some (.int .i64 x)) (h2 : w.cell? ⟨p.block, p.off + 2, none⟩ = some (.int .i64 y))
    (hF : FlagsAt w H t F) (hp : p.block ≠ H) :
    Calls Try.prog 35 #[.pointer (some p), .pointer (some ⟨H, 0, none⟩)] w fun E w' => E = .returned (.tuple #[]) ∧ FlagsAt w' H t (fun v => F v || ownB op x y v) ∧ Keeps (fun k => k ≠ H) w w' := by
  have HF := Lib.hid hF
  have hfz := fun i => frozen_of_block hF i
  clear hF
  have cX := hasX_any op w
  have cY := fun w => hasY_any op w
  have vX := isVar_any x w
  have vY := fun w => isVar_any y w
  have HP := Lib.hid hp
  clear hp
  rcases arms op x 9 with ⟨hx1, X, rfl, hX6⟩ | ⟨hx1, hxn⟩ | hx1
  · rw [decide_eq_true hx1] at cX
    rw [isV_true hX6] at vX
    have hcx := HF.out.cell hX6
    have HF2 := Lib.hid (HF.out.set hX6)
    have g0 : (w.setCell ⟨H, X, none⟩ (.bool true)).cell? p = some (.int .i64 op) := (World.cell?_setCell_other _ _ _ _ (fun e => HP.out (by rw [← e]))).trans h0
    have g2 : (w.setCell ⟨H, X, none⟩ (.bool true)).cell? ⟨p.block, p.off + 2, none⟩ = some (.int .i64 y) := (World.cell?_setCell_other _ _ _ _ (fun e => HP.out (by have := congrArg Addr.block e; simpa using this.symm))).trans h2
    have hfz2 : ∀ i, (w.setCell ⟨H, X, none⟩ (.bool true)).frozen? ⟨H, i, none⟩ = false := fun i => by rw [World.frozen?_setCell]; exact hfz i
    go_enter Try.func35, Try.ntmps35
    go_wp2_with fail
    refine cX.mono ?_
    rintro E w' ⟨rfl, hw⟩
    subst hw
    go_wp2_with fail
    refine vX.mono ?_
    rintro E w' ⟨rfl, hw⟩
    subst hw
    rcases arms2 op y with ⟨hy1, Y, rfl, hY6⟩ | ⟨hy1, hyn⟩ | hy1
    · have cy := cY (w.setCell ⟨H, X, none⟩ (.bool true))
      rw [hy1] at cy
      have vy := vY (w.setCell ⟨H, X, none⟩ (.bool true))
      rw [isV_true hY6] at vy
      have hcy := HF2.out.cell hY6
      have HG := Lib.hid (HF2.out.set hY6)
      go_wp2_with fail
      refine cy.mono ?_
      rintro E w' ⟨rfl, hw⟩
      subst hw
      go_wp2_with fail
      refine vy.mono ?_
      rintro E w' ⟨rfl, hw⟩
      subst hw
      go_wp2_with fail
      go_end0
      exact ⟨rfl, HG.out.congr fun v hv => by rw [ownB_of hx1 hy1]; simp [Int.natCast_inj, Bool.or_assoc], Keeps.trans (keeps_set H w X (.bool true)) (keeps_set H _ _ _) (fun _ h => h) fun _ h => h⟩
    · have cy := cY (w.setCell ⟨H, X, none⟩ (.bool true))
      rw [hy1] at cy
      have vy := vY (w.setCell ⟨H, X, none⟩ (.bool true))
      rw [hyn] at vy
      go_wp2_with fail
      refine cy.mono ?_
      rintro E w' ⟨rfl, hw⟩
      subst hw
      go_wp2_with fail
      refine vy.mono ?_
      rintro E w' ⟨rfl, hw⟩
      subst hw
      go_wp2_with fail
      go_end0
      exact ⟨rfl, HF2.out.congr fun v hv => by rw [ownB_of hx1 hy1, nonV hyn hv]; simp [Int.natCast_inj], (keeps_set H w X (.bool true))⟩
    · have cy := cY (w.setCell ⟨H, X, none⟩ (.bool true))
      rw [hy1] at cy
      go_wp2_with fail
      refine cy.mono ?_
      rintro E w' ⟨rfl, hw⟩
      subst hw
      go_wp2_with fail
      go_end0
      exact ⟨rfl, HF2.out.congr fun v hv => by rw [ownB_of hx1 hy1]; simp [Int.natCast_inj], (keeps_set H w X (.bool true))⟩
  · rw [decide_eq_true hx1] at cX
    rw [hxn] at vX
    go_enter Try.func35, Try.ntmps35
    go_wp2_with fail
    refine cX.mono ?_
    rintro E w' ⟨rfl, hw⟩
    subst hw
    go_wp2_with fail
    refine vX.mono ?_
    rintro E w' ⟨rfl, hw⟩
    subst hw
    rcases arms2 op y with ⟨hy1, Y, rfl, hY6⟩ | ⟨hy1, hyn⟩ | hy1
    · have cy := cY w
      rw [hy1] at cy
      have vy := vY w
      rw [isV_true hY6] at vy
      have hcy := HF.out.cell hY6
      have HG := Lib.hid (HF.out.set hY6)
      go_wp2_with fail
      refine cy.mono ?_
      rintro E w' ⟨rfl, hw⟩
      subst hw
      go_wp2_with fail
      refine vy.mono ?_
      rintro E w' ⟨rfl, hw⟩
      subst hw
      go_wp2_with fail
      go_end0
      exact ⟨rfl, HG.out.congr fun v hv => by rw [ownB_of hx1 hy1, nonV hxn hv]; simp [Int.natCast_inj], Keeps.trans (Keeps.refl _ w) (keeps_set H _ _ _) (fun _ h => h) fun _ h => h⟩
    · have cy := cY w
      rw [hy1] at cy
      have vy := vY w
      rw [hyn] at vy
      go_wp2_with fail
      refine cy.mono ?_
      rintro E w' ⟨rfl, hw⟩
      subst hw
      go_wp2_with fail
      refine vy.mono ?_
      rintro E w' ⟨rfl, hw⟩
      subst hw
      go_wp2_with fail
      go_end0
      exact ⟨rfl, HF.out.congr fun v hv => by rw [ownB_of hx1 hy1, nonV hxn hv, nonV hyn hv]; simp, (Keeps.refl _ w)⟩
    · have cy := cY w
      rw [hy1] at cy
      go_wp2_with fail
      refine cy.mono ?_
      rintro E w' ⟨rfl, hw⟩
      subst hw
      go_wp2_with fail
      go_end0
      exact ⟨rfl, HF.out.congr fun v hv => by rw [ownB_of hx1 hy1, nonV hxn hv]; simp, (Keeps.refl _ w)⟩
  · rw [decide_eq_false hx1] at cX
    go_enter Try.func35, Try.ntmps35
    go_wp2_with fail
    refine cX.mono ?_
    rintro E w' ⟨rfl, hw⟩
    subst hw
    rcases arms2 op y with ⟨hy1, Y, rfl, hY6⟩ | ⟨hy1, hyn⟩ | hy1
    · have cy := cY w
      rw [hy1] at cy
      have vy := vY w
      rw [isV_true hY6] at vy
      have hcy := HF.out.cell hY6
      have HG := Lib.hid (HF.out.set hY6)
      go_wp2_with fail
      refine cy.mono ?_
      rintro E w' ⟨rfl, hw⟩
      subst hw
      go_wp2_with fail
      refine vy.mono ?_
      rintro E w' ⟨rfl, hw⟩
      subst hw
      go_wp2_with fail
      go_end0
      exact ⟨rfl, HG.out.congr fun v hv => by rw [ownB_of2 hx1 hy1]; simp [Int.natCast_inj], Keeps.trans (Keeps.refl _ w) (keeps_set H _ _ _) (fun _ h => h) fun _ h => h⟩
    · have cy := cY w
      rw [hy1] at cy
      have vy := vY w
      rw [hyn] at vy
      go_wp2_with fail
      refine cy.mono ?_
      rintro E w' ⟨rfl, hw⟩
      subst hw
      go_wp2_with fail
      refine vy.mono ?_
      rintro E w' ⟨rfl, hw⟩
      subst hw
      go_wp2_with fail
      go_end0
      exact ⟨rfl, HF.out.congr fun v hv => by rw [ownB_of2 hx1 hy1, nonV hyn hv]; simp, (Keeps.refl _ w)⟩
    · have cy := cY w
      rw [hy1] at cy
      go_wp2_with fail
      refine cy.mono ?_
      rintro E w' ⟨rfl, hw⟩
      subst hw
      go_wp2_with fail
      go_end0
      exact ⟨rfl, HF.out.congr fun v hv => by rw [ownB_of2 hx1 hy1]; simp, (Keeps.refl _ w)⟩

end Go.Proofs.Ytfjfbooiegjplaa
