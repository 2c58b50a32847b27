/-
  Whether two statements have a variable in common: the program, and its model.
-/
import Derived.Test.YtfjfbooiegjplaaVarsS2
import Derived.Test.YtfjfbooiegjplaaEqual
namespace Go.Proofs.Ytfjfbooiegjplaa
open Go.RowKit Go.Deep
set_option linter.unusedVariables false

/-- Where a number is first, or -1. -/
def idxI : List Int → Int → Nat → Int
  | [], _, _ => -1
  | y :: ys, x, k => if y = x then (k : Int) else idxI ys x (k + 1)

theorem idxI_ge (ys : List Int) (x : Int) : ∀ k, (0 ≤ idxI ys x k) ↔ x ∈ ys := by
  induction ys with
  | nil => intro k; simp [idxI]
  | cons y ys ih =>
    intro k
    unfold idxI
    by_cases h : y = x
    · simp [h]
    · rw [if_neg h, ih (k + 1)]
      simp [Ne.symm h]

theorem drop_get {α : Type} {l : List α} {k : Nat} {v : α} (h : l[k]? = some v) : l.drop k = v :: l.drop (k + 1) := by
  have hk := (List.getElem?_eq_some_iff.1 h).1
  have := List.drop_eq_getElem_cons hk
  rw [this, (List.getElem?_eq_some_iff.1 h).2]

set_option maxHeartbeats 1000000 in
theorem index_any (xs : List Int) (x : Int) (A : Option Addr) (c : Nat) (w : World) (hl : xs.length ≤ 100) (hT : IntsV w 0 w.heap.size xs A c) :
    Calls Try.prog 58 #[.slice A xs.length c, .int .i64 x] w fun E w' => E = .returned (.int .i64 (idxI xs x 0)) ∧ w = w' := by
  have hlc := hT.1
  have hcm := hT.2.1
  unfold maxLen at hcm
  have HT := Lib.hid hT
  obtain ⟨n, hn⟩ : ∃ n, xs.length = n := ⟨_, rfl⟩
  have HN := Lib.hid hn
  obtain ⟨R, hR⟩ : ∃ R, idxI xs x 0 = R := ⟨_, rfl⟩
  have h0 : Hid (idxI (xs.drop 0) x 0 = R) := hR
  rw [hn] at hlc hl ⊢
  rw [hR]
  clear hT hn hR
  go_enter Try.func58, Try.ntmps58
  go_wp2_with fail
  go_loop [8] (fun i => ∃ j : Nat, j ≤ n ∧ i = .int .i64 j ∧ Hid (idxI (xs.drop j) x j = R)) (fun i => n - (intOf i).toNat)
  case atStart => exact ⟨0, Nat.zero_le _, rfl, h0⟩
  case round =>
    clear h0
    obtain ⟨j, hj, rfl, hI⟩ := hrel
    by_cases hlt : j < n
    · obtain ⟨b, v, rfl, -, hbb, hx, hc⟩ := HT.out.elem (k := j) (by rw [HN.out]; exact hlt)
      have hI2 := hI.out
      rw [drop_get hx] at hI2
      unfold idxI at hI2
      have HX := Lib.hid hx
      clear hx hI
      by_cases hv : v = x
      · rw [if_pos hv] at hI2
        subst hv
        have HI2 := Lib.hid hI2
        clear hI2
        go_wp2_with fail
        go_ret
        exact ⟨by rw [← HI2.out]; rfl, rfl⟩
      · rw [if_neg hv] at hI2
        have HI2 := Lib.hid hI2
        have hv2 : ¬ x = v := fun e => hv e.symm
        clear hI2
        go_wp2_with fail
        go_round
        case rel => exact ⟨j + 1, by omega, by go_num, HI2⟩
        case measure => simp [intOf]; omega
    · obtain rfl : j = n := by omega
      have hI2 : Hid (R = -1) := by
        unfold Hid
        have h := hI.out
        rw [← HN.out, List.drop_length] at h
        exact h.symm
      clear hI
      go_wp2_with fail
      go_ret
      exact ⟨by rw [hI2.out]; rfl, rfl⟩

theorem contains_any (xs : List Int) (x : Int) (A : Option Addr) (c : Nat) (w : World) (hl : xs.length ≤ 100) (hT : IntsV w 0 w.heap.size xs A c) :
    Calls Try.prog 44 #[.slice A xs.length c, .int .i64 x] w fun E w' => E = .returned (.bool (decide (x ∈ xs))) ∧ w = w' := by
  have hI := index_any xs x A c w hl hT
  have hge := idxI_ge xs x 0
  obtain ⟨R, hR⟩ : ∃ R, idxI xs x 0 = R := ⟨_, rfl⟩
  rw [hR] at hI hge
  have HG : Hid (decide (0 ≤ R) = decide (x ∈ xs)) := by unfold Hid; rw [decide_eq_decide]; exact hge
  clear hge hT
  go_enter Try.func44, Try.ntmps44
  go_wp2_with fail
  refine hI.mono ?_
  rintro E w' ⟨rfl, rfl⟩
  go_wp2_with fail
  go_ret
  exact ⟨by rw [← HG.out]; rfl, rfl⟩

/-- Asking whether a number is among those in a box. -/
theorem isIn_any (ys : List Int) (x : Int) (A : Option Addr) (c g : Nat) (w : World) (hl : ys.length ≤ 100) (hT : IntsV w 0 w.heap.size ys A c) (hg : w.cell? ⟨g, 0, none⟩ = some (.slice A ys.length c)) :
    Calls Try.prog 43 #[.int .i64 x, .pointer (some ⟨g, 0, none⟩)] w fun E w' => E = .returned (.bool (decide (x ∈ ys))) ∧ w = w' := by
  have hC := contains_any ys x A c w hl hT
  clear hT
  go_enter Try.func43, Try.ntmps43
  go_wp2_with fail
  refine hC.mono ?_
  rintro E w' ⟨rfl, rfl⟩
  go_wp2_with fail
  go_ret
  exact ⟨rfl, rfl⟩

/-- Where the first common one is, or -1. -/
def idxF : List Int → List Int → Nat → Int
  | [], _, _ => -1
  | y :: ys, zs, k => if y ∈ zs then (k : Int) else idxF ys zs (k + 1)

theorem idxF_ge (ys zs : List Int) : ∀ k, (0 ≤ idxF ys zs k) ↔ ∃ x ∈ ys, x ∈ zs := by
  induction ys with
  | nil => intro k; simp [idxF]
  | cons y ys ih =>
    intro k
    unfold idxF
    by_cases h : y ∈ zs
    · simp [h]
    · rw [if_neg h, ih (k + 1)]
      simp [h]

set_option maxHeartbeats 1000000 in
theorem indexFunc_any (xs ys : List Int) (A B : Option Addr) (c cb g : Nat) (w : World) (hl : xs.length ≤ 100) (hT : IntsV w 0 w.heap.size xs A c) (hly : ys.length ≤ 100) (hY : IntsV w 0 w.heap.size ys B cb) (hg : w.cell? ⟨g, 0, none⟩ = some (.slice B ys.length cb)) :
    Calls Try.prog 57 #[.slice A xs.length c, .func (.func 43) #[] #[.pointer (some ⟨g, 0, none⟩)]] w fun E w' => E = .returned (.int .i64 (idxF xs ys 0)) ∧ w = w' := by
  have hlc := hT.1
  have hcm := hT.2.1
  unfold maxLen at hcm
  have HT := Lib.hid hT
  have HC := Lib.hid (fun x => isIn_any ys x B cb g w hly hY hg)
  obtain ⟨n, hn⟩ : ∃ n, xs.length = n := ⟨_, rfl⟩
  have HN := Lib.hid hn
  obtain ⟨R, hR⟩ : ∃ R, idxF xs ys 0 = R := ⟨_, rfl⟩
  have h0 : Hid (idxF (xs.drop 0) ys 0 = R) := hR
  rw [hn] at hlc hl ⊢
  rw [hR]
  clear hT hn hR hY hg
  go_enter Try.func57, Try.ntmps57
  go_wp2_with fail
  go_loop [8] (fun i => ∃ j : Nat, j ≤ n ∧ i = .int .i64 j ∧ Hid (idxF (xs.drop j) ys j = R)) (fun i => n - (intOf i).toNat)
  case atStart => exact ⟨0, Nat.zero_le _, rfl, h0⟩
  case round =>
    clear h0
    obtain ⟨j, hj, rfl, hI⟩ := hrel
    by_cases hlt : j < n
    · obtain ⟨b, v, rfl, -, hbb, hx, hc⟩ := HT.out.elem (k := j) (by rw [HN.out]; exact hlt)
      have hI2 := hI.out
      rw [drop_get hx] at hI2
      unfold idxF at hI2
      have HX := Lib.hid hx
      have hC := HC.out v
      clear hx hI
      by_cases hv : v ∈ ys
      · rw [if_pos hv] at hI2
        rw [decide_eq_true hv] at hC
        have HI2 := Lib.hid hI2
        clear hI2
        go_wp2_with fail
        refine hC.mono ?_
        rintro E w' ⟨rfl, rfl⟩
        go_wp2_with fail
        go_ret
        exact ⟨by rw [← HI2.out]; rfl, rfl⟩
      · rw [if_neg hv] at hI2
        rw [decide_eq_false hv] at hC
        have HI2 := Lib.hid hI2
        clear hI2
        go_wp2_with fail
        refine hC.mono ?_
        rintro E w' ⟨rfl, rfl⟩
        go_wp2_with fail
        go_round
        case rel => exact ⟨j + 1, by omega, by go_num, HI2⟩
        case measure => simp [intOf]; omega
    · obtain rfl : j = n := by omega
      have hI2 : Hid (R = -1) := by
        unfold Hid
        have h := hI.out
        rw [← HN.out, List.drop_length] at h
        exact h.symm
      clear hI
      go_wp2_with fail
      go_ret
      exact ⟨by rw [hI2.out]; rfl, rfl⟩

theorem containsFunc_any (xs ys : List Int) (A B : Option Addr) (c cb g : Nat) (w : World) (hl : xs.length ≤ 100) (hT : IntsV w 0 w.heap.size xs A c) (hly : ys.length ≤ 100) (hY : IntsV w 0 w.heap.size ys B cb) (hg : w.cell? ⟨g, 0, none⟩ = some (.slice B ys.length cb)) :
    Calls Try.prog 42 #[.slice A xs.length c, .func (.func 43) #[] #[.pointer (some ⟨g, 0, none⟩)]] w fun E w' => E = .returned (.bool (decide (∃ x ∈ xs, x ∈ ys))) ∧ w = w' := by
  have hI := indexFunc_any xs ys A B c cb g w hl hT hly hY hg
  have hge := idxF_ge xs ys 0
  obtain ⟨R, hR⟩ : ∃ R, idxF xs ys 0 = R := ⟨_, rfl⟩
  rw [hR] at hI hge
  have HG : Hid (decide (0 ≤ R) = decide (∃ x ∈ xs, x ∈ ys)) := by unfold Hid; rw [decide_eq_decide]; exact hge
  clear hge hT hY
  go_enter Try.func42, Try.ntmps42
  go_wp2_with fail
  refine hI.mono ?_
  rintro E w' ⟨rfl, rfl⟩
  go_wp2_with fail
  go_ret
  exact ⟨by rw [← HG.out]; rfl, rfl⟩

end Go.Proofs.Ytfjfbooiegjplaa
