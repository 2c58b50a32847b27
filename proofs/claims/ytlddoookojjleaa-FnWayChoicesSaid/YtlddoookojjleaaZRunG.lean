/-
  What a run is like, as plain data: each point leads to the one behind it, the first is the first of all.
-/
import Derived.Test.YtlddoookojjleaaZRunM
import Derived.Test.YtlddoookojjleaaZBase
namespace Go.Proofs.Ytlddoookojjleaa
open Go.RowKit Go.Deep
set_option linter.unusedVariables false

theorem stepP_mem {nx ch : List Int} (h : nx ≠ []) : (stepP nx ch).1 ∈ nx := by
  match nx, h with
  | [a], _ => simp [stepP]
  | a :: b :: r, _ =>
    cases ch with
    | nil => simp [stepP]
    | cons c cs =>
      simp only [stepP]
      split
      · simp
      · simp

/-- What a run from a point on is like. -/
structure RunFact (ds : List Nd) (q : Nat) (Z : List Int × Bool) (k m : Nat) : Prop where
  head : Z.1 = [] ∨ Z.1[0]? = some (k : Int)
  link : ∀ i a b, Z.1[i]? = some a → Z.1[i + 1]? = some b → ∃ d, 0 ≤ a ∧ ds[a.toNat]? = some d ∧ b ∈ d.next
  rng : ∀ a ∈ Z.1, 0 ≤ a ∧ a ≤ q
  last : ∀ a, Z.1[Z.1.length - 1]? = some a → (Z.2 = true ↔ a = (q : Int))
  len : Z.2 = true ∨ Z.1.length = m
  any : Z.2 = true → Z.1 ≠ []

theorem runP_fact {ds : List Nd} {q : Nat} (hP : PtsOk q ds) : ∀ (m k : Nat) (ch : List Int), k ≤ q → RunFact ds q (runP ds m k ch) k m := by
  have hend : ∀ k, k ≤ q → nextP ds k = [] → k = q := by
    intro k hk h
    by_cases e : k < q
    · obtain ⟨d, hd, hn⟩ := hP.2.2 k e
      rw [nextP_some hd] at h
      have := hn.one
      rw [h] at this
      simp at this
    · omega
  have hlast : nextP ds q = [] := nextP_some hP.2.1
  have hfin : ∀ m k, k ≤ q → nextP ds k = [] → ∀ ch, RunFact ds q (runP ds m k ch) k m := by
    intro m k hk h ch
    rw [runP_end h]
    have := hend k hk h
    subst this
    refine ⟨.inr rfl, fun i a b h1 h2 => by simp at h2, fun a ha => by simp at ha; omega, fun a ha => ?_, .inl rfl, fun _ => by simp⟩
    simp at ha
    simp [ha]
  intro m
  induction m with
  | zero =>
    intro k ch hk
    by_cases h : nextP ds k = []
    · exact hfin 0 k hk h ch
    · rw [runP_zero h]
      exact ⟨.inl rfl, fun i a b h1 => by simp at h1, fun a ha => by simp at ha, fun a ha => by simp at ha, .inr rfl, fun e => by cases e⟩
  | succ m ih =>
    intro k ch hk
    by_cases h : nextP ds k = []
    · exact hfin _ k hk h ch
    · have hkq : k < q := by
        by_cases e : k < q
        · exact e
        · exact absurd (show nextP ds k = [] by rw [show k = q by omega]; exact hlast) h
      obtain ⟨d, hd, hn⟩ := hP.2.2 k hkq
      have hmem := stepP_mem (ch := ch) h
      obtain ⟨v, hv⟩ : ∃ v, (stepP (nextP ds k) ch).1 = v := ⟨_, rfl⟩
      rw [hv, nextP_some hd] at hmem
      have hr := hn.le v hmem
      have hs : stepP (nextP ds k) ch = ((v.toNat : Int), (stepP (nextP ds k) ch).2) := by
        rw [show ((v.toNat : Nat) : Int) = v by omega, ← hv]
      rw [runP_succ h hs]
      have I := ih v.toNat (stepP (nextP ds k) ch).2 (by omega)
      generalize runP ds m v.toNat (stepP (nextP ds k) ch).2 = Z at I
      obtain ⟨l, b⟩ := Z
      obtain ⟨i1, i2, i3, i4, i5, i6⟩ := I
      simp only at i1 i2 i3 i4 i5 i6 ⊢
      refine ⟨.inr rfl, ?_, ?_, ?_, ?_, fun _ => by simp⟩
      · intro i a b' h1 h2
        cases i with
        | zero =>
          simp only [List.getElem?_cons_zero, Option.some.injEq] at h1
          subst h1
          simp only [Nat.zero_add, List.getElem?_cons_succ] at h2
          rcases i1 with e | e
          · rw [e] at h2; simp at h2
          · rw [e] at h2
            injection h2 with h2
            refine ⟨d, by omega, by rw [Int.toNat_natCast]; exact hd, ?_⟩
            rw [← h2, show ((v.toNat : Nat) : Int) = v by omega]
            exact hmem
        | succ i =>
          rw [List.getElem?_cons_succ] at h1 h2
          exact i2 i a b' h1 h2
      · intro a ha
        rcases List.mem_cons.1 ha with rfl | ha
        · omega
        · exact i3 a ha
      · intro a ha
        rw [List.length_cons, Nat.add_sub_cancel] at ha
        cases l with
        | nil =>
          simp at ha
          constructor
          · intro e; exact absurd rfl (i6 e)
          · intro e; omega
        | cons z zs =>
          rw [List.length_cons, List.getElem?_cons_succ] at ha
          exact i4 a (by rw [List.length_cons, Nat.add_sub_cancel]; exact ha)
      · rcases i5 with e | e
        · exact .inl e
        · exact .inr (by rw [List.length_cons, e])

/-- What the points of a run are: numbers of the program's points, the first of all first, each one a next one of that ahead of it. -/
theorem run_steps {ts : List Int} {s : Sts} {xs : List Int} {q : Int} {ys : List Int} {b : Bool} (h : runI (validB ts s) s xs q = (ys, b)) :
    (ys ≠ [] → validB ts s = true) ∧ (∀ a : Int, ys[0]? = some a → a = 0) ∧ (∀ (i : Nat) (a : Int), ys[i]? = some a → ∃ k : Nat, a = (k : Int) ∧ k < (progPts s).length) ∧
    (∀ (i a b : Nat), ys[i]? = some (a : Int) → ys[i + 1]? = some (b : Int) → ∃ d, (progPts s)[a]? = some d ∧ (b : Int) ∈ d.next) := by
  unfold runI at h
  by_cases hc : validB ts s = true ∧ 0 ≤ q ∧ q ≤ 1000
  · rw [if_pos hc] at h
    obtain ⟨hv, h0, h1⟩ := hc
    obtain ⟨hk1, hok, hsz⟩ := valid_ok hv
    have hP := progPts_ok s hok
    have F := runP_fact hP q.toNat 0 xs (Nat.zero_le _)
    rw [h] at F
    have hl := hP.1
    refine ⟨fun _ => hv, fun a ha => ?_, fun i a ha => ?_, fun i a b' h1 h2 => ?_⟩
    · rcases F.head with e | e
      · simp only at e; rw [e] at ha; simp at ha
      · simp only at e; rw [ha] at e; injection e
    · have := F.rng a (List.mem_of_getElem? ha)
      exact ⟨a.toNat, by omega, by omega⟩
    · obtain ⟨d, -, hd, hm⟩ := F.link i a b' h1 h2
      exact ⟨d, by rwa [Int.toNat_natCast] at hd, hm⟩
  · rw [if_neg hc] at h
    injection h with h1 h2
    subst h1
    refine ⟨fun h => absurd rfl h, ?_, ?_, ?_⟩
    · intro a ha; simp at ha
    · intro i a ha; simp at ha
    · intro i a b' h1; simp at h1

end Go.Proofs.Ytlddoookojjleaa
