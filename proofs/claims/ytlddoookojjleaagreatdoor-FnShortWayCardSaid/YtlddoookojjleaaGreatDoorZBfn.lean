/-
  No point of a program leads to itself: plain.
-/
import Derived.Test.YtlddoookojjleaaGreatDoorZBfs
import Derived.Test.YtlddoookojjleaaGreatDoorZMem
namespace Go.Proofs.YtlddoookojjleaaGreatDoor
open Go.RowKit Go.Deep
set_option linter.unusedVariables false

/-- No point of a list leads to itself. -/
def NoSelf (k : Nat) (ds : List Nd) : Prop := ∀ j d, ds[j]? = some d → ((k + j : Nat) : Int) ∉ d.next

theorem NoSelf.append {k : Nat} {A B : List Nd} (hA : NoSelf k A) (hB : NoSelf (k + A.length) B) : NoSelf k (A ++ B) := by
  intro j d hj
  rcases Nat.lt_or_ge j A.length with h | h
  · rw [List.getElem?_append_left h] at hj
    exact hA j d hj
  · rw [List.getElem?_append_right h] at hj
    have := hB _ d hj
    rwa [show k + A.length + (j - A.length) = k + j by omega] at this

theorem NoSelf.one {k : Nat} {d : Nd} (h : (k : Int) ∉ d.next) : NoSelf k [d] := by
  intro j e hj
  cases j with
  | zero => cases hj; exact h
  | succ j => simp at hj

theorem NoSelf.stPts (op x y n : Int) (k : Nat) (T E : List Nd) (hT : NoSelf (k + 1) T) (hE : NoSelf (k + 2 + T.length) E) : NoSelf k (stPts op x y n k T.length E.length T E) := by
  unfold Go.Proofs.YtlddoookojjleaaGreatDoor.stPts
  split
  · refine NoSelf.append (A := [_]) (NoSelf.one ?_) (NoSelf.append hT (NoSelf.append (A := [_]) (NoSelf.one ?_) ?_))
    · simp; omega
    · simp; omega
    · have e : k + [(⟨9, 0, 0, 0, [((k + 1 : Nat) : Int), ((k + 2 + T.length : Nat) : Int)]⟩ : Nd)].length + T.length + [(⟨10, 0, 0, 1, [((k + 2 + T.length + E.length : Nat) : Int)]⟩ : Nd)].length = k + 2 + T.length := by simp; omega
      rw [e]
      exact hE
  · split
    · refine NoSelf.append (A := [_]) (NoSelf.one ?_) (NoSelf.append hT (NoSelf.one ?_))
      · simp; omega
      · simp; omega
    · exact NoSelf.one (by simp; omega)

theorem Sts.pts_self (s : Sts) : ∀ k, NoSelf k (s.pts k) := by
  induction s with
  | nil => intro k j d hj; simp [Sts.pts] at hj
  | cons op x y n t e r iht ihe ihr =>
    intro k
    rw [Sts.pts_cons]
    have h := NoSelf.stPts op x y n k (t.pts (k + 1)) (e.pts (k + 2 + t.npts)) (iht _) (by rw [t.pts_len]; exact ihe _)
    rw [t.pts_len, e.pts_len] at h
    refine h.append ?_
    rw [stPts_len _ _ _ _ _ _ _ _ _ (t.pts_len _) (e.pts_len _)]
    exact ihr _

theorem progPts_self (s : Sts) : NoSelf 0 (progPts s) := (s.pts_self 0).append (NoSelf.one (by simp))

theorem nextN_self (s : Sts) (a : Nat) : a ∉ nextN (progPts s) a := by
  intro h
  unfold nextN at h
  obtain ⟨v, hv, hva⟩ := List.mem_map.mp h
  cases hd : (progPts s)[a]? with
  | none => simp [nextP, hd] at hv
  | some d =>
    rw [nextP_some hd] at hv
    have h0 := progPts_self s a d hd
    rw [Nat.zero_add] at h0
    have hi : 0 ≤ v := by
      have hm : d ∈ progPts s := List.mem_of_getElem? hd
      rcases List.mem_append.mp hm with hm | hm
      · have := (s.pts_ok 0 d hm).2.2 v hv
        omega
      · have : d = ⟨11, 0, 0, 0, []⟩ := by simpa using hm
        subst this
        cases hv
    exact h0 (by rw [← hva, Int.toNat_of_nonneg hi]; exact hv)

theorem nextN_lt {q : Nat} {ns : List Nd} (hD : PtsOk q ns) (a x : Nat) (h : x ∈ nextN ns a) : x < ns.length := by
  cases hd : ns[a]? with
  | none =>
    unfold nextN at h
    simp [nextP, hd] at h
  | some d => exact (nextN_ints hD hd).2 x h

end Go.Proofs.YtlddoookojjleaaGreatDoor
