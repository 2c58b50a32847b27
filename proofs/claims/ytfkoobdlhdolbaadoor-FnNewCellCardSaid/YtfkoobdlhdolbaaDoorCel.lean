/-
  Cells with stacks of tags as plain data, and what the accesses make of them. Nothing of the program is used here.
-/
namespace Go.Proofs.YtfkoobdlhdolbaaDoor

/-- A tag: its number, and whether it is unique. -/
structure TagD where
  id : Int
  u : Bool

/-- A cell: its number, whether it is alive, its next tag, and its stack from the bottom up. -/
structure CellD where
  val : Int
  alive : Bool
  next : Int
  tags : List TagD

/-- The place of the first tag with this number. -/
def tagAt (id : Int) : List TagD → Option Nat
  | [] => none
  | t :: ts => if t.id = id then some 0 else (tagAt id ts).map (· + 1)

theorem tagAt_some {id : Int} : ∀ {ts : List TagD} {k : Nat}, tagAt id ts = some k → (∃ t, ts[k]? = some t ∧ t.id = id) ∧ ∀ (j : Nat) (t : TagD), j < k → ts[j]? = some t → t.id ≠ id
  | [], k, h => by simp [tagAt] at h
  | s :: ts, k, h => by
    unfold tagAt at h
    by_cases e : s.id = id
    · rw [if_pos e] at h
      injection h with h
      subst h
      exact ⟨⟨s, rfl, e⟩, fun j t hj => by omega⟩
    · rw [if_neg e] at h
      cases h2 : tagAt id ts with
      | none => rw [h2] at h; simp at h
      | some q =>
        rw [h2] at h
        simp at h
        subst h
        obtain ⟨⟨t, ht, hid⟩, hn⟩ := tagAt_some h2
        refine ⟨⟨t, ht, hid⟩, fun j t hj htj => ?_⟩
        cases j with
        | zero => simp at htj; subst htj; exact e
        | succ j => exact hn j t (by omega) htj

theorem tagAt_none {id : Int} : ∀ {ts : List TagD}, tagAt id ts = none → ∀ (j : Nat) (t : TagD), ts[j]? = some t → t.id ≠ id
  | [], _, j, t, h => by simp at h
  | s :: ts, h, j, t, hj => by
    unfold tagAt at h
    by_cases e : s.id = id
    · rw [if_pos e] at h; cases h
    · rw [if_neg e] at h
      have h2 : tagAt id ts = none := by simpa using h
      cases j with
      | zero => simp at hj; subst hj; exact e
      | succ j => exact tagAt_none h2 j t hj

theorem tagAt_mk {id : Int} {ts : List TagD} {k : Nat} {t : TagD} (hk : ts[k]? = some t) (hid : t.id = id) (hn : ∀ (j : Nat) (s : TagD), j < k → ts[j]? = some s → s.id ≠ id) : tagAt id ts = some k := by
  cases h : tagAt id ts with
  | none => exact absurd hid (tagAt_none h k t hk)
  | some q =>
    obtain ⟨⟨s, hs, hsid⟩, hm⟩ := tagAt_some h
    rcases Nat.lt_trichotomy q k with e | e | e
    · exact absurd hsid (hn q s e hs)
    · rw [e]
    · exact absurd hid (hm k t e hk)

theorem tagAt_mk_none {id : Int} {ts : List TagD} (hn : ∀ (j : Nat) (s : TagD), ts[j]? = some s → s.id ≠ id) : tagAt id ts = none := by
  cases h : tagAt id ts with
  | none => rfl
  | some q =>
    obtain ⟨⟨s, hs, hsid⟩, _⟩ := tagAt_some h
    exact absurd hsid (hn q s hs)

theorem tagAt_lt {id : Int} {ts : List TagD} {k : Nat} (h : tagAt id ts = some k) : k < ts.length := by
  obtain ⟨⟨t, ht, _⟩, _⟩ := tagAt_some h
  exact (List.getElem?_eq_some_iff.1 ht).1

/-- The place as the model writes it. -/
def tagI (id : Int) (ts : List TagD) : Int := match tagAt id ts with | some k => k | none => -1

/-- A valid cell. -/
structure CellOk (c : CellD) : Prop where
  val0 : 0 ≤ c.val
  val9 : c.val ≤ 9
  next1 : 1 ≤ c.next
  nextM : c.next ≤ 1000
  len1 : 1 ≤ c.tags.length
  lenM : c.tags.length ≤ 200
  head : ∀ t, c.tags[0]? = some t → t.u = true
  ids : ∀ (i : Nat) (t : TagD), c.tags[i]? = some t → 0 ≤ t.id ∧ t.id < c.next
  dist : ∀ (i j : Nat) (s t : TagD), i < j → c.tags[i]? = some s → c.tags[j]? = some t → s.id ≠ t.id

def MemOk (m : List CellD) : Prop := m.length ≤ 200 ∧ ∀ (i : Nat) (c : CellD), m[i]? = some c → CellOk c

noncomputable def cellB (c : CellD) : Bool := @decide (CellOk c) (Classical.propDecidable _)
noncomputable def memB (m : List CellD) : Bool := @decide (MemOk m) (Classical.propDecidable _)

theorem cellB_true {c : CellD} (h : CellOk c) : cellB c = true := by unfold cellB; exact @decide_eq_true _ (Classical.propDecidable _) h
theorem cellB_false {c : CellD} (h : ¬ CellOk c) : cellB c = false := by unfold cellB; exact @decide_eq_false _ (Classical.propDecidable _) h
theorem memB_true {m : List CellD} (h : MemOk m) : memB m = true := by unfold memB; exact @decide_eq_true _ (Classical.propDecidable _) h
theorem memB_false {m : List CellD} (h : ¬ MemOk m) : memB m = false := by unfold memB; exact @decide_eq_false _ (Classical.propDecidable _) h
theorem cellB_out {c : CellD} (h : cellB c = true) : CellOk c := by unfold cellB at h; exact @of_decide_eq_true _ (Classical.propDecidable _) h
theorem memB_out {m : List CellD} (h : memB m = true) : MemOk m := by unfold memB at h; exact @of_decide_eq_true _ (Classical.propDecidable _) h
theorem cellB_not {c : CellD} (h : cellB c = false) : ¬ CellOk c := fun k => by rw [cellB_true k] at h; cases h
theorem memB_not {m : List CellD} (h : memB m = false) : ¬ MemOk m := fun k => by rw [memB_true k] at h; cases h

theorem CellOk.tagSelf {c : CellD} (h : CellOk c) {i : Nat} {t : TagD} (hi : c.tags[i]? = some t) : tagAt t.id c.tags = some i :=
  tagAt_mk hi rfl fun j s hj hs => h.dist j i s t hj hs hi

/-- The cell and the tag that a pointer leads to, or the code of why it doesn't. -/
noncomputable def hit (m : List CellD) (c t : Int) : Except Int (Nat × Nat × CellD) :=
  if memB m = true ∧ 0 ≤ c ∧ c < m.length then
    match m[c.toNat]? with
    | none => .error 4
    | some d => if d.alive = true then (match tagAt t d.tags with | some k => .ok (c.toNat, k, d) | none => .error 2) else .error 1
  else .error 4

theorem hit_ok {m : List CellD} {c t : Int} {i k : Nat} {d : CellD} (h : hit m c t = .ok (i, k, d)) : memB m = true ∧ c = i ∧ m[i]? = some d ∧ d.alive = true ∧ tagAt t d.tags = some k := by
  unfold hit at h
  split at h
  · rename_i hc
    split at h
    · cases h
    · rename_i e he
      split at h
      · rename_i ha
        split at h
        · rename_i q hq
          injection h with h
          injection h with h1 h2
          injection h2 with h2 h3
          subst h1 h2 h3
          exact ⟨hc.1, by omega, he, ha, hq⟩
        · cases h
      · cases h
  · cases h

/-- Why a pointer leads to nothing. -/
inductive Miss (m : List CellD) (c t : Int) : Int → Prop where
  | bad : ¬ (memB m = true ∧ 0 ≤ c ∧ c < m.length) → Miss m c t 4
  | freed (i : Nat) (d : CellD) : memB m = true → c = i → m[i]? = some d → d.alive = false → Miss m c t 1
  | lost (i : Nat) (d : CellD) : memB m = true → c = i → m[i]? = some d → d.alive = true → tagAt t d.tags = none → Miss m c t 2

theorem hit_error {m : List CellD} {c t : Int} {e : Int} (h : hit m c t = .error e) : Miss m c t e := by
  unfold hit at h
  split at h
  · rename_i hc
    split at h
    · rename_i he
      have : c.toNat < m.length := by omega
      rw [List.getElem?_eq_getElem this] at he
      cases he
    · rename_i d he
      split at h
      · rename_i ha
        split at h
        · cases h
        · rename_i hq
          injection h with h
          subst h
          exact .lost c.toNat d hc.1 (by omega) he ha hq
      · rename_i ha
        injection h with h
        subst h
        exact .freed c.toNat d hc.1 (by omega) he (by simpa using ha)
  · rename_i hc
    injection h with h
    subst h
    exact .bad hc

theorem hit_mk {m : List CellD} {c t : Int} {i k : Nat} {d : CellD} (hm : memB m = true) (hc : c = i) (hd : m[i]? = some d) (ha : d.alive = true) (hk : tagAt t d.tags = some k) : hit m c t = .ok (i, k, d) := by
  subst hc
  have hl := (List.getElem?_eq_some_iff.1 hd).1
  unfold hit
  rw [if_pos ⟨hm, by omega, by omega⟩]
  simp [hd, ha, hk]

theorem hit_miss {m : List CellD} {c t e : Int} (h : Miss m c t e) : hit m c t = .error e := by
  cases h with
  | bad h => unfold hit; rw [if_neg h]
  | freed i d hm hc hd ha =>
    subst hc
    have hl := (List.getElem?_eq_some_iff.1 hd).1
    unfold hit
    rw [if_pos ⟨hm, by omega, by omega⟩]
    simp [hd, ha]
  | lost i d hm hc hd ha hk =>
    subst hc
    have hl := (List.getElem?_eq_some_iff.1 hd).1
    unfold hit
    rw [if_pos ⟨hm, by omega, by omega⟩]
    simp [hd, ha, hk]

/-- Whether a tag of a stack is unique. -/
def uAt (ts : List TagD) (k : Nat) : Bool := match ts[k]? with | some t => t.u | none => false

/-- The same for writing. -/
noncomputable def hitW (m : List CellD) (c t : Int) : Except Int (Nat × Nat × CellD) :=
  match hit m c t with
  | .error e => .error e
  | .ok (i, k, d) => if uAt d.tags k = true then .ok (i, k, d) else .error 3

theorem hitW_ok {m : List CellD} {c t : Int} {i k : Nat} {d : CellD} (h : hitW m c t = .ok (i, k, d)) : hit m c t = .ok (i, k, d) ∧ uAt d.tags k = true := by
  unfold hitW at h
  split at h
  · cases h
  · rename_i i' k' d' he
    split at h
    · rename_i hu
      injection h with h
      injection h with h1 h2
      injection h2 with h2 h3
      subst h1 h2 h3
      exact ⟨he, hu⟩
    · cases h

theorem hitW_mk {m : List CellD} {c t : Int} {i k : Nat} {d : CellD} (h : hit m c t = .ok (i, k, d)) (hu : uAt d.tags k = true) : hitW m c t = .ok (i, k, d) := by
  unfold hitW
  rw [h]
  simp [hu]

theorem hitW_ro {m : List CellD} {c t : Int} {i k : Nat} {d : CellD} (h : hit m c t = .ok (i, k, d)) (hu : uAt d.tags k = false) : hitW m c t = .error 3 := by
  unfold hitW
  rw [h]
  simp [hu]

theorem hitW_miss {m : List CellD} {c t e : Int} (h : hit m c t = .error e) : hitW m c t = .error e := by
  unfold hitW
  rw [h]

theorem hitW_error {m : List CellD} {c t : Int} {e : Int} (h : hitW m c t = .error e) : hit m c t = .error e ∨ (e = 3 ∧ ∃ i k d, hit m c t = .ok (i, k, d) ∧ uAt d.tags k = false) := by
  unfold hitW at h
  split at h
  · rename_i e' he
    injection h with h
    subst h
    exact .inl he
  · rename_i i' k' d' he
    split at h
    · cases h
    · rename_i hu
      injection h with h
      exact .inr ⟨h.symm, i', k', d', he, by simpa using hu⟩

/-- A stack that was read at a place. -/
def readT (ts : List TagD) (k : Nat) : List TagD := ts.take (k + 1) ++ (ts.drop (k + 1)).filter fun t => !t.u

noncomputable def readA (m : List CellD) (c t : Int) : List CellD × Int × Int :=
  match hit m c t with
  | .error e => (m, 0, e)
  | .ok (i, k, d) => (m.set i { d with tags := readT d.tags k }, d.val, 0)

noncomputable def writeA (m : List CellD) (c t v : Int) : List CellD × Int :=
  if 0 ≤ v ∧ v ≤ 9 then
    match hitW m c t with
    | .error e => (m, e)
    | .ok (i, k, d) => (m.set i { d with val := v, tags := d.tags.take (k + 1) }, 0)
  else (m, 4)

noncomputable def freeA (m : List CellD) (c t : Int) : List CellD × Int :=
  match hitW m c t with
  | .error e => (m, e)
  | .ok (i, k, d) => (m.set i { d with alive := false, tags := d.tags.take (k + 1) }, 0)

/-- A memory with a cell on whose stack a new tag is put. -/
def pushA (m : List CellD) (i : Nat) (d : CellD) (ts : List TagD) (u : Bool) : List CellD × (Int × Int) × Int :=
  if ts.length < 200 ∧ d.next < 1000 then (m.set i { d with tags := ts ++ [⟨d.next, u⟩], next := d.next + 1 }, (i, d.next), 0) else (m, (0, 0), 4)

noncomputable def shareA (m : List CellD) (c t : Int) : List CellD × (Int × Int) × Int :=
  match hit m c t with
  | .error e => (m, (0, 0), e)
  | .ok (i, k, d) => pushA m i d (readT d.tags k) false

noncomputable def borrowA (m : List CellD) (c t : Int) : List CellD × (Int × Int) × Int :=
  match hitW m c t with
  | .error e => (m, (0, 0), e)
  | .ok (i, k, d) => pushA m i d (d.tags.take (k + 1)) true

noncomputable def newA (m : List CellD) (v : Int) : List CellD × (Int × Int) × Bool :=
  if memB m = true ∧ 0 ≤ v ∧ v ≤ 9 ∧ m.length < 200 then (m ++ [⟨v, true, 1, [⟨0, true⟩]⟩], (m.length, 0), true) else ([], (0, 0), false)

/-- The cells that are alive, from k on. -/
def aliveFrom (k : Nat) : List CellD → List Int
  | [] => []
  | c :: cs => if c.alive = true then (k : Int) :: aliveFrom (k + 1) cs else aliveFrom (k + 1) cs

noncomputable def aliveA (m : List CellD) : List Int := if memB m = true then aliveFrom 0 m else []

theorem aliveFrom_snoc (c : CellD) : ∀ (cs : List CellD) (k : Nat), aliveFrom k (cs ++ [c]) = aliveFrom k cs ++ if c.alive = true then [((k + cs.length : Nat) : Int)] else []
  | [], k => by simp [aliveFrom]
  | d :: cs, k => by
    have ih := aliveFrom_snoc c cs (k + 1)
    rw [show k + 1 + cs.length = k + (d :: cs).length from by simp; omega] at ih
    simp only [List.cons_append, aliveFrom, ih]
    split <;> simp

end Go.Proofs.YtfkoobdlhdolbaaDoor
