/-
  The points of a list of statements, as plain data. Nothing of the program is used here.
-/
import Derived.Test.YtcaklhempmlpgaaData
namespace Go.Proofs.Ytcaklhempmlpgaa
open Go.RowKit Go.Deep

/-- A point: its fields, and the points that can come next. -/
structure Nd where
  op : Int
  x : Int
  y : Int
  n : Int
  next : List Int

/-- How many points one statement has, those of its lists given. -/
def stN (op : Int) (nt ne : Nat) : Nat := if op = 9 then 2 + nt + ne else if op = 10 then 2 + nt else 1

/-- The points of one statement at a place, those of its lists given. -/
def stPts (op x y n : Int) (k nt ne : Nat) (T E : List Nd) : List Nd :=
  if op = 9 then ⟨9, 0, 0, 0, [((k + 1 : Nat) : Int), ((k + 2 + nt : Nat) : Int)]⟩ :: (T ++ ⟨10, 0, 0, 1, [((k + 2 + nt + ne : Nat) : Int)]⟩ :: E)
  else if op = 10 then ⟨10, 0, 0, 0, [((k + 1 : Nat) : Int), ((k + 2 + nt : Nat) : Int)]⟩ :: (T ++ [⟨10, 0, 0, 1, [(k : Int)]⟩])
  else [⟨op, x, y, n, [((k + 1 : Nat) : Int)]⟩]

def Sts.npts : Sts → Nat
  | .nil => 0
  | .cons op _ _ _ t e r => stN op t.npts e.npts + r.npts

/-- The points of a list of statements, from a place on. -/
def Sts.pts : Sts → Nat → List Nd
  | .nil, _ => []
  | .cons op x y n t e r, k => stPts op x y n k t.npts e.npts (t.pts (k + 1)) (e.pts (k + 2 + t.npts)) ++ r.pts (k + stN op t.npts e.npts)

theorem Sts.pts_cons (op x y n : Int) (t e r : Sts) (k : Nat) : (Sts.cons op x y n t e r).pts k = stPts op x y n k t.npts e.npts (t.pts (k + 1)) (e.pts (k + 2 + t.npts)) ++ r.pts (k + stN op t.npts e.npts) := rfl

theorem stPts_len (op x y n : Int) (k nt ne : Nat) (T E : List Nd) (hT : T.length = nt) (hE : E.length = ne) : (stPts op x y n k nt ne T E).length = stN op nt ne := by
  unfold stPts stN
  split
  · simp; omega
  · split
    · simp; omega
    · simp

theorem Sts.pts_len (s : Sts) : ∀ k, (s.pts k).length = s.npts := by
  induction s with
  | nil => intro k; rfl
  | cons op x y n t e r iht ihe ihr =>
    intro k
    rw [Sts.pts_cons, List.length_append, stPts_len _ _ _ _ _ _ _ _ _ (iht _) (ihe _), ihr]
    rfl

theorem Sts.npts_le (s : Sts) : s.npts ≤ 2 * s.size := by
  induction s with
  | nil => exact Nat.le_refl _
  | cons op x y n t e r iht ihe ihr =>
    simp only [Sts.npts, Sts.size, stN]
    split
    · omega
    · split <;> omega

/-- The points of a program. -/
def progPts (s : Sts) : List Nd := s.pts 0 ++ [⟨11, 0, 0, 0, []⟩]

theorem progPts_len (s : Sts) : (progPts s).length = s.npts + 1 := by simp [progPts, s.pts_len]

/-- What is right of every point of a list: it leads to one or two points, which are at most the one behind the list. -/
def NdOk (lo hi : Nat) (d : Nd) : Prop := 1 ≤ d.next.length ∧ d.next.length ≤ 2 ∧ ∀ v ∈ d.next, (lo : Int) ≤ v ∧ v ≤ hi

theorem NdOk.wide {lo hi lo' hi' : Nat} {d : Nd} (h : NdOk lo hi d) (hl : lo' ≤ lo) (hh : hi ≤ hi') : NdOk lo' hi' d :=
  ⟨h.1, h.2.1, fun v hv => ⟨by have := (h.2.2 v hv).1; omega, by have := (h.2.2 v hv).2; omega⟩⟩

theorem Sts.pts_ok (s : Sts) : ∀ k, ∀ d ∈ s.pts k, NdOk k (k + s.npts) d := by
  induction s with
  | nil => intro k d hd; cases hd
  | cons op x y n t e r iht ihe ihr =>
    intro k d hd
    rw [Sts.pts_cons, List.mem_append] at hd
    simp only [Sts.npts]
    rcases hd with hd | hd
    · unfold stPts at hd
      by_cases h9 : op = 9
      · rw [if_pos h9] at hd
        have hn : stN op t.npts e.npts = 2 + t.npts + e.npts := by simp [stN, h9]
        rw [hn]
        simp only [List.mem_cons, List.mem_append] at hd
        rcases hd with rfl | hd | rfl | hd
        · exact ⟨by simp, by simp, fun v hv => by simp at hv; omega⟩
        · exact (iht _ d hd).wide (by omega) (by omega)
        · exact ⟨by simp, by simp, fun v hv => by simp at hv; omega⟩
        · exact (ihe _ d hd).wide (by omega) (by omega)
      · rw [if_neg h9] at hd
        by_cases h10 : op = 10
        · rw [if_pos h10] at hd
          have hn : stN op t.npts e.npts = 2 + t.npts := by simp [stN, h10]
          rw [hn]
          simp only [List.mem_cons, List.mem_append, List.not_mem_nil, or_false] at hd
          rcases hd with rfl | hd | rfl
          · exact ⟨by simp, by simp, fun v hv => by simp at hv; omega⟩
          · exact (iht _ d hd).wide (by omega) (by omega)
          · exact ⟨by simp, by simp, fun v hv => by simp at hv; omega⟩
        · rw [if_neg h10] at hd
          have hn : stN op t.npts e.npts = 1 := by simp [stN, h9, h10]
          rw [hn]
          simp only [List.mem_cons, List.not_mem_nil, or_false] at hd
          subst hd
          exact ⟨by simp, by simp, fun v hv => by simp at hv; omega⟩
    · exact (ihr _ d hd).wide (by omega) (by omega)

/-- The number of choices. -/
def choicesOf (ds : List Nd) : Nat := (ds.filter fun d => decide (d.next.length = 2)).length

/-- What CountChoices answers, the program's validity given. -/
def choicesI (ok : Bool) (s : Sts) : Int := if ok then (choicesOf (progPts s) : Int) else 0

end Go.Proofs.Ytcaklhempmlpgaa
