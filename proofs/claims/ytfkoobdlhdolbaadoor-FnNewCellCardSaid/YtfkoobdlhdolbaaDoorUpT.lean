/-
  The part of a stack that a search from the top finds, and what a read leaves of it: on lists of tags.
-/
import Derived.Test.YtfkoobdlhdolbaaDoorStk3
namespace Go.Proofs.YtfkoobdlhdolbaaDoor
set_option linter.unusedVariables false

theorem upT_append_none {id : Int} : ∀ (xs ys : List TagD), (∀ t ∈ xs, t.id ≠ id) → upT id (xs ++ ys) = upT id ys
  | [], ys, _ => rfl
  | x :: xs, ys, h => by
    show (if x.id = id then x :: (xs ++ ys) else upT id (xs ++ ys)) = _
    rw [if_neg (h x (by simp))]
    exact upT_append_none xs ys fun t ht => h t (by simp [ht])

theorem upT_none {id : Int} {ts : List TagD} (h : ∀ t ∈ ts, t.id ≠ id) : upT id ts = [] := by
  have := upT_append_none ts [] h
  rw [List.append_nil] at this
  rw [this]
  rfl

/-- The tag at k, with no tag of its number above it: the search from the top finds the first k + 1 tags. -/
theorem upT_take {id : Int} {ts : List TagD} {k : Nat} {t : TagD} (hk : ts[k]? = some t) (ht : t.id = id) (hab : ∀ s ∈ ts.drop (k + 1), s.id ≠ id) : upT id ts.reverse = (ts.take (k + 1)).reverse := by
  have hkl := (List.getElem?_eq_some_iff.1 hk).1
  have hsp : ts.reverse = (ts.drop (k + 1)).reverse ++ (ts.take (k + 1)).reverse := by rw [← List.reverse_append, List.take_append_drop]
  rw [hsp, upT_append_none _ _ (fun s hs => hab s (by simpa using hs))]
  have h1 : ts.take (k + 1) = ts.take k ++ [t] := by
    rw [List.take_add_one, hk]
    rfl
  rw [h1, List.reverse_append]
  show (if t.id = id then _ else _) = _
  rw [if_pos ht]
  rfl

/-- What lies above the part that is found. -/
theorem upT_above {id : Int} {ts B : List TagD} {k : Nat} {t : TagD} (hk : ts[k]? = some t) (ht : t.id = id) (hab : ∀ s ∈ ts.drop (k + 1), s.id ≠ id) (hB : ts.reverse = B ++ upT id ts.reverse) : B = (ts.drop (k + 1)).reverse := by
  rw [upT_take hk ht hab] at hB
  have hsp : ts.reverse = (ts.drop (k + 1)).reverse ++ (ts.take (k + 1)).reverse := by rw [← List.reverse_append, List.take_append_drop]
  exact (List.append_cancel_right (hB.symm.trans hsp))

/-- What a read leaves, from the top on. -/
theorem readT_reverse {id : Int} {ts B : List TagD} {k : Nat} {t : TagD} (hk : ts[k]? = some t) (ht : t.id = id) (hab : ∀ s ∈ ts.drop (k + 1), s.id ≠ id) (hB : ts.reverse = B ++ upT id ts.reverse) : (readT ts k).reverse = B.filter (fun s => !s.u) ++ upT id ts.reverse := by
  rw [upT_above hk ht hab hB, upT_take hk ht hab]
  unfold readT
  rw [List.reverse_append, List.filter_reverse]

theorem CellOk.above {d : CellD} (h : CellOk d) {k : Nat} {t : TagD} (hk : d.tags[k]? = some t) : ∀ s ∈ d.tags.drop (k + 1), s.id ≠ t.id := by
  intro s hs
  obtain ⟨j, hj⟩ := List.getElem?_of_mem hs
  rw [List.getElem?_drop] at hj
  exact fun e => h.dist k (k + 1 + j) t s (by omega) hk hj e.symm

theorem tagAt_none_all {id : Int} : ∀ {ts : List TagD}, tagAt id ts = none → ∀ t ∈ ts, t.id ≠ id
  | [], _, t, ht => by cases ht
  | s :: ts, h, t, ht => by
    unfold tagAt at h
    split at h
    · cases h
    · rename_i hne
      rcases List.mem_cons.1 ht with rfl | ht
      · exact hne
      · exact tagAt_none_all (by simpa using h) t ht

end Go.Proofs.YtfkoobdlhdolbaaDoor
