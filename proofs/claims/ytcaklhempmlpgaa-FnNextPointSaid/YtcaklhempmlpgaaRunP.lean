/-
  Runs as plain data.
-/
import Derived.Test.YtcaklhempmlpgaaGraph
import Derived.Test.YtcaklhempmlpgaaOk0
namespace Go.Proofs.Ytcaklhempmlpgaa
open Go.RowKit Go.Deep
set_option linter.unusedVariables false

def nextP (ds : List Nd) (at_ : Nat) : List Int := (ds[at_]?.map (·.next)).getD []

/-- Where a run goes, and what choices are left. -/
def stepP (nx : List Int) (ch : List Int) : Int × List Int :=
  match nx with
  | [] => (0, ch)
  | [a] => (a, ch)
  | a :: b :: _ => match ch with
    | [] => (b, [])
    | c :: cs => (if c % 2 = 0 then a else b, cs)

/-- The points of a run from a point on, with some steps left. -/
def runP (ds : List Nd) : Nat → Nat → List Int → List Int × Bool
  | 0, at_, _ => if nextP ds at_ = [] then ([(at_ : Int)], true) else ([], false)
  | m + 1, at_, ch => if nextP ds at_ = [] then ([(at_ : Int)], true) else ((at_ : Int) :: (runP ds m (stepP (nextP ds at_) ch).1.toNat (stepP (nextP ds at_) ch).2).1, (runP ds m (stepP (nextP ds at_) ch).1.toNat (stepP (nextP ds at_) ch).2).2)

theorem pts_ops (s : Sts) : okT s → ∀ k, ∀ d ∈ s.pts k, d.op ≠ 11 := by
  induction s with
  | nil => intro _ k d hd; cases hd
  | cons op x y n t e r iht ihe ihr =>
    intro hok k d hd
    obtain ⟨⟨h1, h10, _⟩, ht, he, hr⟩ := hok
    rw [Sts.pts_cons, List.mem_append] at hd
    rcases hd with hd | hd
    · unfold stPts at hd
      by_cases h9 : op = 9
      · rw [if_pos h9] at hd
        simp only [List.mem_cons, List.mem_append] at hd
        rcases hd with rfl | hd | rfl | hd
        · simp
        · exact iht ht _ d hd
        · simp
        · exact ihe he _ d hd
      · rw [if_neg h9] at hd
        by_cases h10 : op = 10
        · rw [if_pos h10] at hd
          simp only [List.mem_cons, List.mem_append, List.not_mem_nil, or_false] at hd
          rcases hd with rfl | hd | rfl
          · simp
          · exact iht ht _ d hd
          · simp
        · rw [if_neg h10] at hd
          simp only [List.mem_cons, List.not_mem_nil, or_false] at hd
          subst hd
          show op ≠ 11
          omega
    · exact ihr hr _ d hd

/-- What a point of a program's points is like. -/
structure NdP (q : Nat) (d : Nd) : Prop where
  op : d.op ≠ 11
  one : 1 ≤ d.next.length
  two : d.next.length ≤ 2
  le : ∀ v ∈ d.next, 0 ≤ v ∧ v ≤ q

/-- The points of a program: q of them, and the last one. -/
def PtsOk (q : Nat) (ds : List Nd) : Prop := ds.length = q + 1 ∧ ds[q]? = some ⟨11, 0, 0, 0, []⟩ ∧ ∀ k, k < q → ∃ d, ds[k]? = some d ∧ NdP q d

theorem progPts_ok (s : Sts) (hok : okT s) : PtsOk s.npts (progPts s) := by
  refine ⟨progPts_len s, ?_, fun k hk => ?_⟩
  · unfold progPts
    rw [List.getElem?_append_right (by rw [s.pts_len]; exact Nat.le_refl _), s.pts_len, Nat.sub_self]
    rfl
  · have hl : k < (s.pts 0).length := by rw [s.pts_len]; exact hk
    have hm := List.getElem_mem hl
    have h := s.pts_ok 0 _ hm
    refine ⟨(s.pts 0)[k], ?_, pts_ops s hok 0 _ hm, h.1, h.2.1, fun v hv => ?_⟩
    · unfold progPts
      rw [List.getElem?_append_left hl, List.getElem?_eq_getElem hl]
    · have := h.2.2 v hv
      omega

theorem nextP_some {ds : List Nd} {k : Nat} {d : Nd} (h : ds[k]? = some d) : nextP ds k = d.next := by simp [nextP, h]

theorem runP_end {ds : List Nd} {m k : Nat} {ch : List Int} (h : nextP ds k = []) : runP ds m k ch = ([(k : Int)], true) := by
  cases m <;> simp [runP, h]

theorem runP_zero {ds : List Nd} {k : Nat} {ch : List Int} (h : nextP ds k ≠ []) : runP ds 0 k ch = ([], false) := by simp [runP, h]

theorem runP_succ {ds : List Nd} {m k k' : Nat} {ch ch' : List Int} (h : nextP ds k ≠ []) (hs : stepP (nextP ds k) ch = ((k' : Int), ch')) : runP ds (m + 1) k ch = ((k : Int) :: (runP ds m k' ch').1, (runP ds m k' ch').2) := by
  rw [runP, if_neg h, hs]
  rfl

/-- What RunPath answers. -/
def runI (ok : Bool) (s : Sts) (ch : List Int) (most : Int) : List Int × Bool := if ok = true ∧ 0 ≤ most ∧ most ≤ 1000 then runP (progPts s) most.toNat 0 ch else ([], false)

/-- A run in the middle: what was passed, and what is still to come. -/
def RunAt (ds : List Nd) (all : List Int × Bool) (cur : List Int) (m k : Nat) (ch : List Int) : Prop := all = (cur ++ (runP ds m k ch).1, (runP ds m k ch).2)

theorem RunAt.step {ds : List Nd} {all : List Int × Bool} {cur : List Int} {m k k' : Nat} {ch ch' : List Int} (h : RunAt ds all cur (m + 1) k ch) (hn : nextP ds k ≠ []) (hs : stepP (nextP ds k) ch = ((k' : Int), ch')) : RunAt ds all (cur ++ [(k : Int)]) m k' ch' := by
  unfold RunAt at h ⊢
  rw [h, runP_succ hn hs, List.append_assoc]
  rfl

theorem RunAt.last {ds : List Nd} {all : List Int × Bool} {cur : List Int} {m k : Nat} {ch : List Int} (h : RunAt ds all cur m k ch) (hn : nextP ds k = []) : all = (cur ++ [(k : Int)], true) := by
  unfold RunAt at h
  rw [h, runP_end hn]

theorem RunAt.stop {ds : List Nd} {all : List Int × Bool} {cur : List Int} {k : Nat} {ch : List Int} (h : RunAt ds all cur 0 k ch) (hn : nextP ds k ≠ []) : all = (cur, false) := by
  unfold RunAt at h
  rw [h, runP_zero hn, List.append_nil]

theorem list12 {l : List Int} (h1 : 1 ≤ l.length) (h2 : l.length ≤ 2) : (∃ a, l = [a]) ∨ ∃ a b, l = [a, b] := by
  match l, h1, h2 with
  | [a], _, _ => exact .inl ⟨a, rfl⟩
  | [a, b], _, _ => exact .inr ⟨a, b, rfl⟩

end Go.Proofs.Ytcaklhempmlpgaa
