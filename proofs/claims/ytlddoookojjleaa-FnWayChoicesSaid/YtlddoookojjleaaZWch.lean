/-
  The choices of a way: plain.
-/
import Derived.Test.YtlddoookojjleaaZBase
import Derived.Test.YtlddoookojjleaaZMem
import Derived.Test.YtlddoookojjleaaZPtsX
import Derived.Test.YtlddoookojjleaaZIdx
namespace Go.Proofs.Ytlddoookojjleaa
open Go.RowKit Go.Deep
set_option linter.unusedVariables false

/-- What a step to b chooses. -/
def chc (nx : List Int) (b : Int) : List Int := if nx.length = 2 then [if nx[0]? = some b then 0 else 1] else []

/-- The choices of a way that goes on from a point. -/
def wchP (ds : List Nd) : Nat → List Int → Option (List Int)
  | _, [] => some []
  | a, b :: l => if b ∈ nextP ds a then (wchP ds b.toNat l).map (chc (nextP ds a) b ++ ·) else none

/-- What WayChoices answers. -/
def wchI (ok : Bool) (s : Sts) : List Int → List Int × Bool
  | [] => ([], false)
  | x :: l => if ok = true ∧ x = 0 then (match wchP (progPts s) 0 l with | some r => (r, true) | none => ([], false)) else ([], false)

theorem wchP_len (ds : List Nd) : ∀ (l : List Int) (a : Nat) (r : List Int), wchP ds a l = some r → r.length ≤ l.length
  | [], a, r, h => by
    simp only [wchP, Option.some.injEq] at h
    subst h
    exact Nat.le_refl _
  | b :: l, a, r, h => by
    unfold wchP at h
    split at h
    · cases hr : wchP ds b.toNat l with
      | none => rw [hr] at h; cases h
      | some r' =>
        rw [hr] at h
        simp only [Option.map_some, Option.some.injEq] at h
        subst h
        have h1 := wchP_len ds l b.toNat r' hr
        have h2 : (chc (nextP ds a) b).length ≤ 1 := by unfold chc; split <;> simp
        rw [List.length_append, List.length_cons]
        omega
    · cases h

theorem wchI_len (ok : Bool) (s : Sts) (xs : List Int) : (wchI ok s xs).1.length ≤ xs.length := by
  cases xs with
  | nil => simp [wchI]
  | cons x l =>
    show (if ok = true ∧ x = 0 then (match wchP (progPts s) 0 l with | some r => (r, true) | none => ([], false)) else ([], false)).1.length ≤ _
    by_cases h : ok = true ∧ x = 0
    · rw [if_pos h]
      cases hr : wchP (progPts s) 0 l with
      | none => exact Nat.zero_le _
      | some r =>
        have := wchP_len _ _ _ _ hr
        simp only [List.length_cons]
        omega
    · rw [if_neg h]
      exact Nat.zero_le _

theorem wchI_no {ok : Bool} {s : Sts} {xs : List Int} (h : ¬ (ok = true ∧ ∃ l, xs = 0 :: l)) : wchI ok s xs = ([], false) := by
  cases xs with
  | nil => rfl
  | cons x l =>
    show (if ok = true ∧ x = 0 then (match wchP (progPts s) 0 l with | some r => (r, true) | none => ([], false)) else ([], false)) = _
    rw [if_neg (fun e => h ⟨e.1, l, by rw [e.2]⟩)]

theorem wchI_yes {s : Sts} {l : List Int} : wchI true s (0 :: l) = (match wchP (progPts s) 0 l with | some r => (r, true) | none => ([], false)) := by
  show (if true = true ∧ (0 : Int) = 0 then (match wchP (progPts s) 0 l with | some r => (r, true) | none => ([], false)) else ([], false)) = _
  rw [if_pos ⟨rfl, rfl⟩]

/-- Where a way's choices are read: those found, and the rest. -/
def WchAt (ds : List Nd) (all : Option (List Int)) (cur : List Int) (a : Nat) (rest : List Int) : Prop := all = (wchP ds a rest).map (cur ++ ·)

theorem WchAt.start (ds : List Nd) (a : Nat) (l : List Int) : WchAt ds (wchP ds a l) [] a l := by
  unfold WchAt
  cases wchP ds a l <;> simp

theorem WchAt.step {ds : List Nd} {all : Option (List Int)} {cur l : List Int} {a : Nat} {b : Int} (h : WchAt ds all cur a (b :: l)) (hb : b ∈ nextP ds a) : WchAt ds all (cur ++ chc (nextP ds a) b) b.toNat l := by
  unfold WchAt at h ⊢
  rw [h]
  simp only [wchP, if_pos hb]
  cases wchP ds b.toNat l <;> simp

theorem WchAt.bad {ds : List Nd} {all : Option (List Int)} {cur l : List Int} {a : Nat} {b : Int} (h : WchAt ds all cur a (b :: l)) (hb : b ∉ nextP ds a) : all = none := by
  unfold WchAt at h
  rw [h]
  simp [wchP, hb]

theorem WchAt.last {ds : List Nd} {all : Option (List Int)} {cur : List Int} {a : Nat} (h : WchAt ds all cur a []) : all = some cur := by
  unfold WchAt at h
  rw [h]
  simp [wchP]

/-- A next point is a point. -/
theorem next_nat {q : Nat} {ds : List Nd} (hD : PtsOk q ds) {a : Nat} {d : Nd} (hd : ds[a]? = some d) {b : Int} (hb : b ∈ d.next) : ∃ n : Nat, b = (n : Int) ∧ n < ds.length := by
  have h1 := nextN_ints hD hd
  rw [← h1.1] at hb
  obtain ⟨n, hn, rfl⟩ := List.mem_map.mp hb
  exact ⟨n, rfl, h1.2 n hn⟩

theorem nextV_ints {w : World} {B : Nat} {u : Value} {next : List Int} (h : NextV w B u next) (hl : next.length ≤ 2) : ∃ A c, u = .slice A next.length c ∧ IntsV w 0 w.heap.size next A c := by
  rcases h with ⟨rfl, rfl⟩ | ⟨g, rfl, h2, h3⟩
  · exact ⟨none, 0, rfl, by simp, by simp [maxLen], fun h => absurd h (by simp)⟩
  · refine ⟨_, _, rfl, Nat.le_refl _, by unfold maxLen; omega, fun _ => ⟨_, rfl, Nat.zero_le _, heap_lt h3, fun j v hv => ?_⟩⟩
    rw [add_block, Nat.zero_add, cell_of_block h3]
    simp [hv]

/-- What is asked of a way: those found, or nothing. -/
def WchPost (all : Option (List Int)) (w : World) (E : Ending) (w' : World) : Prop :=
  ∃ v, ((∃ r, all = some r ∧ E = .returned (.tuple #[v, .bool true]) ∧ RowI w' w.heap.size v r) ∨ (all = none ∧ E = .returned (.tuple #[v, .bool false]) ∧ RowI w' w.heap.size v [])) ∧ Below w.heap.size w w'

theorem WchPost.ans {s : Sts} {l : List Int} {w w' : World} {E : Ending} (h : WchPost (wchP (progPts s) 0 l) w E w') : ∃ v, E = .returned (.tuple #[v, .bool (wchI true s (0 :: l)).2]) ∧ RowI w' w.heap.size v (wchI true s (0 :: l)).1 ∧ Below w.heap.size w w' := by
  rw [wchI_yes]
  obtain ⟨v, ⟨r, h1, h2, h3⟩ | ⟨h1, h2, h3⟩, hb⟩ := h
  · rw [h1]
    exact ⟨v, h2, h3, hb⟩
  · rw [h1]
    exact ⟨v, h2, h3, hb⟩

theorem add_zero13 (b : Addr) : b.add 0 = b := by cases b; rfl

theorem valid_size13 {ts : List Int} {s : Sts} (h : validB ts s = true) : s.size ≤ 30 := by
  simp only [validB, Bool.and_eq_true, decide_eq_true_eq] at h
  omega

theorem chc_index {nx : List Int} {b : Int} (hl : nx.length ≤ 2) (hb : b ∈ nx) : (1 < nx.length → chc nx b = [idxI nx b 0]) ∧ (¬ 1 < nx.length → chc nx b = []) := by
  refine ⟨fun h => ?_, fun h => ?_⟩
  · obtain ⟨x, y, rfl⟩ : ∃ x y, nx = [x, y] := by
      match nx, hl, h with
      | [x, y], _, _ => exact ⟨x, y, rfl⟩
    by_cases h1 : x = b
    · simp [chc, idxI, h1]
    · have h2 : y = b := by
        simp only [List.mem_cons, List.not_mem_nil, or_false] at hb
        rcases hb with rfl | rfl
        · exact absurd rfl h1
        · rfl
      simp [chc, idxI, h1, h2]
  · unfold chc
    rw [if_neg (by omega)]

end Go.Proofs.Ytlddoookojjleaa
