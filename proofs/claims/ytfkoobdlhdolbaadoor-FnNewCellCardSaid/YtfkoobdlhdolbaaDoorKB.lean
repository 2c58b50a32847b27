/-
  What the accesses leave: pure.
-/
import Derived.Test.YtfkoobdlhdolbaaDoorCel
namespace Go.Proofs.YtfkoobdlhdolbaaDoor
set_option linter.unusedVariables false

theorem memOk_set {m : List CellD} {i : Nat} {d : CellD} (h : MemOk m) (hd : CellOk d) : MemOk (m.set i d) := by
  refine ⟨by rw [List.length_set]; exact h.1, fun j c hj => ?_⟩
  rw [List.getElem?_set] at hj
  split at hj
  · split at hj
    · injection hj with hj
      subst hj
      exact hd
    · cases hj
  · exact h.2 j c hj

/-- A stack that is a part of a valid one, in order, with its first tag. -/
theorem cellOk_part {d : CellD} {ts : List TagD} {v : Int} {al : Bool} (h : CellOk d) (hv0 : 0 ≤ v) (hv9 : v ≤ 9) (hs : ts.Sublist d.tags) (h0 : ts[0]? = d.tags[0]?) (hl : 1 ≤ ts.length) : CellOk ⟨v, al, d.next, ts⟩ := by
  have hin : ∀ t ∈ ts, t ∈ d.tags := fun t ht => hs.subset ht
  have hpw : d.tags.Pairwise (fun a b => a.id ≠ b.id) := by
    rw [List.pairwise_iff_getElem]
    intro i j hi hj hij
    exact h.dist i j _ _ hij (List.getElem?_eq_getElem hi) (List.getElem?_eq_getElem hj)
  have hpw2 := hpw.sublist hs
  refine ⟨hv0, hv9, h.next1, h.nextM, hl, Nat.le_trans hs.length_le h.lenM, fun t ht => h.head t (h0 ▸ ht), fun i t ht => ?_, fun i j s t hij hi hj => ?_⟩
  · obtain ⟨k, hk⟩ := List.getElem?_of_mem (hin t (List.mem_of_getElem? ht))
    exact h.ids k t hk
  · rw [List.pairwise_iff_getElem] at hpw2
    obtain ⟨h1, h2⟩ := List.getElem?_eq_some_iff.1 hi
    obtain ⟨h3, h4⟩ := List.getElem?_eq_some_iff.1 hj
    have := hpw2 i j h1 h3 hij
    rw [h2, h4] at this
    exact this

/-- A new tag on top. -/
theorem cellOk_push {d : CellD} {ts : List TagD} {u : Bool} (h : CellOk ⟨d.val, d.alive, d.next, ts⟩) (hl : ts.length < 200) (hn : d.next < 1000) : CellOk ⟨d.val, d.alive, d.next + 1, ts ++ [⟨d.next, u⟩]⟩ := by
  have h1 : 1 ≤ ts.length := h.len1
  refine ⟨h.val0, h.val9, by have := h.next1; simp at this ⊢; omega, by simp; omega, by simp, by simp; omega, fun t ht => ?_, fun i t ht => ?_, fun i j s t hij hi hj => ?_⟩
  · rw [List.getElem?_append_left (by omega)] at ht
    exact h.head t ht
  · have hx := h.next1
    simp only at hx
    by_cases hi : i < ts.length
    · rw [List.getElem?_append_left hi] at ht
      have := h.ids i t ht
      simp only at this ⊢
      omega
    · rw [List.getElem?_append_right (by omega)] at ht
      have hz : i - ts.length = 0 := by
        have := (List.getElem?_eq_some_iff.1 ht).1
        simp at this
        omega
      rw [hz] at ht
      simp at ht
      subst ht
      simp only
      omega
  · by_cases hjl : j < ts.length
    · rw [List.getElem?_append_left hjl] at hj
      rw [List.getElem?_append_left (by omega)] at hi
      exact h.dist i j s t hij hi hj
    · have hj2 := (List.getElem?_eq_some_iff.1 hj).1
      simp at hj2
      rw [List.getElem?_append_right (by omega), show j - ts.length = 0 by omega] at hj
      simp at hj
      subst hj
      rw [List.getElem?_append_left (by omega)] at hi
      have := (h.ids i s hi).2
      simp only at this ⊢
      omega

theorem readT_sub (ts : List TagD) (k : Nat) : (readT ts k).Sublist ts := by
  unfold readT
  conv => rhs; rw [← List.take_append_drop (k + 1) ts]
  exact (List.Sublist.refl _).append List.filter_sublist

theorem readT_len1 {ts : List TagD} {k : Nat} (h : 1 ≤ ts.length) : 1 ≤ (readT ts k).length := by
  unfold readT
  rw [List.length_append, List.length_take]
  omega

theorem readT_zero {ts : List TagD} {k : Nat} (h : 1 ≤ ts.length) : (readT ts k)[0]? = ts[0]? := by
  unfold readT
  rw [List.getElem?_append_left (by rw [List.length_take]; omega), List.getElem?_take_of_lt (by omega)]

theorem take_zero {ts : List TagD} {k : Nat} : (ts.take (k + 1))[0]? = ts[0]? := List.getElem?_take_of_lt (by omega)

theorem cellOk_read {d : CellD} {k : Nat} (h : CellOk d) : CellOk ⟨d.val, d.alive, d.next, readT d.tags k⟩ := cellOk_part h h.val0 h.val9 (readT_sub _ _) (readT_zero h.len1) (readT_len1 h.len1)

theorem cellOk_take {d : CellD} {k : Nat} {v : Int} {al : Bool} (h : CellOk d) (hv0 : 0 ≤ v) (hv9 : v ≤ 9) : CellOk ⟨v, al, d.next, d.tags.take (k + 1)⟩ :=
  cellOk_part h hv0 hv9 (List.take_sublist _ _) take_zero (by rw [List.length_take]; have := h.len1; omega)

theorem pushA_ok {m : List CellD} {i : Nat} {d : CellD} {ts : List TagD} {u : Bool} (h : MemOk m) (hc : CellOk ⟨d.val, d.alive, d.next, ts⟩) : MemOk (pushA m i d ts u).1 := by
  unfold pushA
  split
  · rename_i hr
    exact memOk_set h (cellOk_push hc hr.1 hr.2)
  · exact h

theorem readA_ok {m : List CellD} {x t : Int} (h : MemOk m) : MemOk (readA m x t).1 := by
  unfold readA
  split
  · exact h
  · rename_i i k d he
    obtain ⟨_, _, hd, _, _⟩ := hit_ok he
    exact memOk_set h (cellOk_read (h.2 i d hd))

theorem writeA_ok {m : List CellD} {x t v : Int} (h : MemOk m) : MemOk (writeA m x t v).1 := by
  unfold writeA
  split
  · rename_i hv
    split
    · exact h
    · rename_i i k d he
      obtain ⟨h1, _⟩ := hitW_ok he
      obtain ⟨_, _, hd, _, _⟩ := hit_ok h1
      exact memOk_set h (cellOk_take (h.2 i d hd) hv.1 hv.2)
  · exact h

theorem freeA_ok {m : List CellD} {x t : Int} (h : MemOk m) : MemOk (freeA m x t).1 := by
  unfold freeA
  split
  · exact h
  · rename_i i k d he
    obtain ⟨h1, _⟩ := hitW_ok he
    obtain ⟨_, _, hd, _, _⟩ := hit_ok h1
    exact memOk_set h (cellOk_take (h.2 i d hd) (h.2 i d hd).val0 (h.2 i d hd).val9)

theorem shareA_ok {m : List CellD} {x t : Int} (h : MemOk m) : MemOk (shareA m x t).1 := by
  unfold shareA
  split
  · exact h
  · rename_i i k d he
    obtain ⟨_, _, hd, _, _⟩ := hit_ok he
    exact pushA_ok h (cellOk_read (h.2 i d hd))

theorem borrowA_ok {m : List CellD} {x t : Int} (h : MemOk m) : MemOk (borrowA m x t).1 := by
  unfold borrowA
  split
  · exact h
  · rename_i i k d he
    obtain ⟨h1, _⟩ := hitW_ok he
    obtain ⟨_, _, hd, _, _⟩ := hit_ok h1
    exact pushA_ok h (cellOk_take (h.2 i d hd) (h.2 i d hd).val0 (h.2 i d hd).val9)

theorem cellOk_new {v : Int} (h0 : 0 ≤ v) (h9 : v ≤ 9) : CellOk ⟨v, true, 1, [⟨0, true⟩]⟩ := by
  refine ⟨h0, h9, by simp, by simp, by simp, by simp, fun t ht => ?_, fun i t ht => ?_, fun i j s t hij hi hj => ?_⟩
  · simp at ht; subst ht; rfl
  · cases i with
    | zero => simp at ht; subst ht; simp
    | succ i => simp at ht
  · cases j with
    | zero => omega
    | succ j => simp at hj

theorem memOk_snoc {m : List CellD} {d : CellD} (h : MemOk m) (hd : CellOk d) (hl : m.length < 200) : MemOk (m ++ [d]) := by
  refine ⟨by simp; omega, fun i c hi => ?_⟩
  by_cases hl : i < m.length
  · rw [List.getElem?_append_left hl] at hi
    exact h.2 i c hi
  · have h2 := (List.getElem?_eq_some_iff.1 hi).1
    simp at h2
    rw [List.getElem?_append_right (by omega), show i - m.length = 0 by omega] at hi
    simp at hi
    subst hi
    exact hd

theorem newA_eq {m : List CellD} {v : Int} (h : MemOk m) (h0 : 0 ≤ v) (h9 : v ≤ 9) (hl : m.length < 200) : newA m v = (m ++ [⟨v, true, 1, [⟨0, true⟩]⟩], ((m.length : Int), (0 : Int)), true) := by
  unfold newA
  rw [if_pos ⟨memB_true h, h0, h9, hl⟩]

theorem memOk_nil : MemOk [] := ⟨by simp, fun i c h => by simp at h⟩

theorem Miss.ne {m : List CellD} {c t e : Int} (h : Miss m c t e) : e ≠ 0 := by cases h <;> decide

theorem readT_same {ts : List TagD} {k : Nat} (h : ∀ s ∈ ts.drop (k + 1), s.u = false) : readT ts k = ts := by
  unfold readT
  rw [List.filter_eq_self.2 (fun s hs => by simp [h s hs]), List.take_append_drop]

theorem readT_get {ts : List TagD} {k j : Nat} (hk : k < ts.length) (hj : j ≤ k) : (readT ts k)[j]? = ts[j]? := by
  unfold readT
  rw [List.getElem?_append_left (by rw [List.length_take]; omega), List.getElem?_take_of_lt (by omega)]

theorem readT_drop {ts : List TagD} {k : Nat} (hk : k < ts.length) : (readT ts k).drop (k + 1) = (ts.drop (k + 1)).filter fun t => !t.u := by
  unfold readT
  rw [List.drop_append_of_le_length (by rw [List.length_take]; omega), List.drop_take_self, List.nil_append]

theorem readT_above {ts : List TagD} {k : Nat} (hk : k < ts.length) : ∀ s ∈ (readT ts k).drop (k + 1), s.u = false := by
  rw [readT_drop hk]
  intro s hs
  have := (List.mem_filter.1 hs).2
  simpa using this

theorem readT_kept {ts : List TagD} {k : Nat} (hk : k < ts.length) : k < (readT ts k).length := by
  unfold readT
  rw [List.length_append, List.length_take]
  omega

/-- The place of a tag in a stack that begins alike. -/
theorem tagAt_like {id : Int} {ts us : List TagD} {k : Nat} (h : tagAt id ts = some k) (hs : ∀ j, j ≤ k → us[j]? = ts[j]?) : tagAt id us = some k := by
  obtain ⟨⟨t, hk, hid⟩, hn⟩ := tagAt_some h
  exact tagAt_mk ((hs k (Nat.le_refl _)).trans hk) hid fun j s hj hs' => hn j s hj ((hs j (by omega)) ▸ hs')

theorem tagAt_read {id : Int} {ts : List TagD} {k : Nat} (h : tagAt id ts = some k) : tagAt id (readT ts k) = some k := tagAt_like h fun j hj => readT_get (tagAt_lt h) hj

theorem tagAt_push {id : Int} {ts : List TagD} {k : Nat} (h : tagAt id ts = some k) (u : TagD) : tagAt id (ts ++ [u]) = some k :=
  tagAt_like h fun j hj => List.getElem?_append_left (by have := tagAt_lt h; omega)

theorem tagAt_take {id : Int} {ts : List TagD} {k : Nat} (h : tagAt id ts = some k) : tagAt id (ts.take (k + 1)) = some k := tagAt_like h fun j hj => List.getElem?_take_of_lt (by omega)

/-- A new tag lies on top. -/
theorem tagAt_top {d : CellD} {ts : List TagD} {u : Bool} (hs : ∀ t ∈ ts, t.id < d.next) : tagAt d.next (ts ++ [⟨d.next, u⟩]) = some ts.length :=
  tagAt_mk (t := ⟨d.next, u⟩) (by simp) rfl fun j s hj hs' => by
    rw [List.getElem?_append_left hj] at hs'
    have := hs s (List.mem_of_getElem? hs')
    omega

theorem ids_lt {d : CellD} (h : CellOk d) : ∀ t ∈ d.tags, t.id < d.next := by
  intro t ht
  obtain ⟨i, hi⟩ := List.getElem?_of_mem ht
  exact (h.ids i t hi).2

theorem hit_set {cs : List CellD} {i k : Nat} {d' : CellD} {t : Int} (h : MemOk (cs.set i d')) (hi : i < cs.length) (ha : d'.alive = true) (hk : tagAt t d'.tags = some k) : hit (cs.set i d') (i : Int) t = .ok (i, k, d') :=
  hit_mk (memB_true h) rfl (List.getElem?_set_self hi) ha hk

theorem readA_hit {m : List CellD} {c t : Int} {i k : Nat} {d : CellD} (h : hit m c t = .ok (i, k, d)) : readA m c t = (m.set i { d with tags := readT d.tags k }, d.val, 0) := by
  unfold readA
  rw [h]

/-- A shared pointer was made. -/
theorem share_out {cs n : List CellD} {x t : Int} {y : Int × Int} (h : shareA cs x t = (n, y, 0)) :
    ∃ i k d, hit cs x t = .ok (i, k, d) ∧ x = (i : Int) ∧ cs[i]? = some d ∧ d.alive = true ∧ tagAt t d.tags = some k ∧ CellOk d ∧ MemOk cs ∧ y = ((i : Int), d.next) ∧ n = cs.set i ⟨d.val, true, d.next + 1, readT d.tags k ++ [⟨d.next, false⟩]⟩ ∧ MemOk n := by
  unfold shareA at h
  split at h
  · rename_i e he
    injection h with h1 h2
    injection h2 with h2 h3
    have := (hit_error he).ne
    exact absurd h3 this
  · rename_i i k d he
    obtain ⟨hm, hx, hd, ha, hk⟩ := hit_ok he
    have hM := memB_out hm
    have hc := hM.2 i d hd
    have hpo := pushA_ok (i := i) (u := false) hM (cellOk_read (k := k) hc)
    unfold pushA at h hpo
    split at h
    · rename_i hr
      rw [if_pos hr] at hpo
      injection h with h1 h2
      injection h2 with h2 h3
      refine ⟨i, k, d, he, hx, hd, ha, hk, hc, hM, h2.symm, ?_, ?_⟩
      · rw [← h1, ha]
      · rw [← h1]; exact hpo
    · injection h with h1 h2
      injection h2 with h2 h3
      exact absurd h3 (by decide)

/-- A unique pointer was made. -/
theorem borrow_out {cs n : List CellD} {x t : Int} {y : Int × Int} (h : borrowA cs x t = (n, y, 0)) :
    ∃ i k d, hit cs x t = .ok (i, k, d) ∧ uAt d.tags k = true ∧ x = (i : Int) ∧ cs[i]? = some d ∧ d.alive = true ∧ tagAt t d.tags = some k ∧ CellOk d ∧ MemOk cs ∧ y = ((i : Int), d.next) ∧ n = cs.set i ⟨d.val, true, d.next + 1, d.tags.take (k + 1) ++ [⟨d.next, true⟩]⟩ ∧ MemOk n := by
  unfold borrowA at h
  split at h
  · rename_i e he
    injection h with h1 h2
    injection h2 with h2 h3
    rcases hitW_error he with h4 | ⟨h4, _⟩
    · exact absurd h3 (hit_error h4).ne
    · exact absurd h3 (by omega)
  · rename_i i k d he
    obtain ⟨he2, hu⟩ := hitW_ok he
    obtain ⟨hm, hx, hd, ha, hk⟩ := hit_ok he2
    have hM := memB_out hm
    have hc := hM.2 i d hd
    have hpo := pushA_ok (i := i) (u := true) hM (cellOk_take (k := k) (al := d.alive) hc hc.val0 hc.val9)
    unfold pushA at h hpo
    split at h
    · rename_i hr
      rw [if_pos hr] at hpo
      injection h with h1 h2
      injection h2 with h2 h3
      refine ⟨i, k, d, he2, hu, hx, hd, ha, hk, hc, hM, h2.symm, ?_, ?_⟩
      · rw [← h1, ha]
      · rw [← h1]; exact hpo
    · injection h with h1 h2
      injection h2 with h2 h3
      exact absurd h3 (by decide)

/-- Two shared pointers from the same one: both can be read, which changes nothing. -/
theorem share_twice {cs n p : List CellD} {x t : Int} {y z : Int × Int} (h : shareA cs x t = (n, y, 0)) (h2 : shareA n x t = (p, z, 0)) :
    ∃ v, readA p y.1 y.2 = (p, v, 0) ∧ readA p z.1 z.2 = (p, v, 0) ∧ y.2 ≠ z.2 := by
  obtain ⟨i, k, d, he, hx, hd, ha, hk, hc, hM, rfl, rfl, hMn⟩ := share_out h
  obtain ⟨i', k', d', he', hx', hd', ha', hk', hc', _, rfl, rfl, hMp⟩ := share_out h2
  have hil := (List.getElem?_eq_some_iff.1 hd).1
  obtain rfl : i = i' := by omega
  have hkl := tagAt_lt hk
  rw [List.getElem?_set_self hil] at hd'
  injection hd' with hd'
  subst hd'
  have hkk : k' = k := by
    have := tagAt_push (tagAt_read hk) ⟨d.next, false⟩
    have h9 := hk'.symm.trans this
    injection h9
  subst hkk
  have hab : ∀ s ∈ (readT d.tags k' ++ [(⟨d.next, false⟩ : TagD)]).drop (k' + 1), s.u = false := by
    intro s hs
    rw [List.drop_append_of_le_length (by have := readT_kept hkl; omega)] at hs
    rcases List.mem_append.1 hs with hs | hs
    · exact readT_above hkl s hs
    · simp at hs
      subst hs
      rfl
  rw [readT_same hab] at hMp ⊢
  rw [List.set_set] at hMp ⊢
  simp only at hMp ⊢
  have hlt : ∀ s ∈ readT d.tags k', s.id < d.next := fun s hs => ids_lt hc s ((readT_sub _ _).subset hs)
  have hty : tagAt d.next ((readT d.tags k' ++ [(⟨d.next, false⟩ : TagD)]) ++ [⟨d.next + 1, false⟩]) = some (readT d.tags k').length := tagAt_push (tagAt_top hlt) _
  have htz : tagAt (d.next + 1) ((readT d.tags k' ++ [(⟨d.next, false⟩ : TagD)]) ++ [⟨d.next + 1, false⟩]) = some ((readT d.tags k' ++ [(⟨d.next, false⟩ : TagD)]).length) :=
    tagAt_top (d := ⟨d.val, true, d.next + 1, []⟩) fun s hs => by
      simp only
      rcases List.mem_append.1 hs with hs | hs
      · have := hlt s hs; omega
      · simp at hs; subst hs; simp only; omega
  refine ⟨d.val, ?_, ?_, by omega⟩
  · unfold readA
    rw [hit_set hMp hil rfl hty]
    simp only [List.set_set]
    rw [readT_same]
    intro s hs
    rw [show (readT d.tags k').length + 1 = (readT d.tags k' ++ [(⟨d.next, false⟩ : TagD)]).length by simp, List.drop_left] at hs
    simp at hs
    subst hs
    rfl
  · unfold readA
    rw [hit_set hMp hil rfl htz]
    simp only [List.set_set]
    rw [readT_same]
    intro s hs
    rw [List.drop_eq_nil_of_le (by simp)] at hs
    cases hs

theorem uAt_like {ts us : List TagD} {k : Nat} (h : us[k]? = ts[k]?) : uAt us k = uAt ts k := by unfold uAt; rw [h]

/-- Two unique pointers from the same one: only the second one is left. -/
theorem borrow_twice {cs n p : List CellD} {x t : Int} {y z : Int × Int} (h : borrowA cs x t = (n, y, 0)) (h2 : borrowA n x t = (p, z, 0)) :
    readA p y.1 y.2 = (p, 0, 2) ∧ (∃ v m, readA p z.1 z.2 = (m, v, 0)) ∧ y.2 < z.2 := by
  obtain ⟨i, k, d, he, hu, hx, hd, ha, hk, hc, hM, rfl, rfl, hMn⟩ := borrow_out h
  obtain ⟨i', k', d', he', hu', hx', hd', ha', hk', hc', _, rfl, rfl, hMp⟩ := borrow_out h2
  have hil := (List.getElem?_eq_some_iff.1 hd).1
  obtain rfl : i = i' := by omega
  have hkl := tagAt_lt hk
  rw [List.getElem?_set_self hil] at hd'
  injection hd' with hd'
  subst hd'
  have hkk : k' = k := by
    have := tagAt_push (tagAt_take hk) ⟨d.next, true⟩
    have h9 := hk'.symm.trans this
    injection h9
  subst hkk
  have htk : (d.tags.take (k' + 1) ++ [(⟨d.next, true⟩ : TagD)]).take (k' + 1) = d.tags.take (k' + 1) := by
    rw [List.take_append_of_le_length (by rw [List.length_take]; omega), List.take_take]
    simp
  simp only [htk, List.set_set] at hMp ⊢
  have hlt : ∀ s ∈ d.tags.take (k' + 1), s.id < d.next := fun s hs => ids_lt hc s ((List.take_sublist _ _).subset hs)
  have hty : tagAt d.next (d.tags.take (k' + 1) ++ [(⟨d.next + 1, true⟩ : TagD)]) = none := tagAt_mk_none fun j s hs => by
    have hm := List.mem_of_getElem? hs
    rcases List.mem_append.1 hm with hm | hm
    · have := hlt s hm; omega
    · simp at hm; subst hm; simp only; omega
  have htz : tagAt (d.next + 1) (d.tags.take (k' + 1) ++ [(⟨d.next + 1, true⟩ : TagD)]) = some (d.tags.take (k' + 1)).length :=
    tagAt_top (d := ⟨d.val, true, d.next + 1, []⟩) fun s hs => by have := hlt s hs; simp only; omega
  refine ⟨?_, ⟨_, _, readA_hit (hit_set hMp hil rfl htz)⟩, by omega⟩
  unfold readA
  rw [hit_miss (Miss.lost i _ (memB_true hMp) rfl (List.getElem?_set_self hil) rfl hty)]

theorem take_push {ts : List TagD} {k : Nat} (hk : k < ts.length) (u : TagD) : (ts.take (k + 1) ++ [u]).take (k + 1) = ts.take (k + 1) := by
  rw [List.take_append_of_le_length (by rw [List.length_take]; omega), List.take_take]
  simp

/-- Behind a unique pointer, the one that it was made from writes well, and a shared one has a new tag. -/
theorem tags_grow {cs n p q : List CellD} {x t j f : Int} {y z : Int × Int} (h : borrowA cs x t = (n, y, 0)) (h2 : writeA n x t 3 = (p, j)) (h3 : shareA p x t = (q, z, f)) :
    j = 0 ∧ (f = 0 → y.2 < z.2 ∧ ∃ (i : Nat) (a b : CellD), x = (i : Int) ∧ n[i]? = some a ∧ q[i]? = some b ∧ b.next = a.next + 1 ∧ 0 ≤ a.next ∧ a.next ≤ 1000) := by
  obtain ⟨i, k, d, he, hu, hx, hd, ha, hk, hc, hM, rfl, rfl, hMn⟩ := borrow_out h
  have hil := (List.getElem?_eq_some_iff.1 hd).1
  have hkl := tagAt_lt hk
  have hkn : tagAt t (d.tags.take (k + 1) ++ [(⟨d.next, true⟩ : TagD)]) = some k := tagAt_push (tagAt_take hk) _
  have hh := hit_set hMn hil rfl hkn
  rw [← hx] at hh
  have hun : uAt (d.tags.take (k + 1) ++ [(⟨d.next, true⟩ : TagD)]) k = true := by
    rw [uAt_like (ts := d.tags) (by rw [List.getElem?_append_left (by rw [List.length_take]; omega), List.getElem?_take_of_lt (by omega)])]
    exact hu
  have hw := hitW_mk hh hun
  unfold writeA at h2
  rw [if_pos (by decide), hw] at h2
  simp only [List.set_set, take_push hkl] at h2
  injection h2 with h2 h4
  subst h2
  refine ⟨h4.symm, fun hf => ?_⟩
  subst hf
  obtain ⟨i', k', d', he', hx', hd', ha', hk', hc', _, rfl, rfl, _⟩ := share_out h3
  obtain rfl : i = i' := by omega
  rw [List.getElem?_set_self hil] at hd'
  injection hd' with hd'
  subst hd'
  have hnx : d.next + 1 ≤ 1000 := by
    have := (hMn.2 i _ (List.getElem?_set_self hil)).nextM
    exact this
  have hn1 : 0 ≤ d.next + 1 := by
    have := (hMn.2 i _ (List.getElem?_set_self hil)).next1
    have h2 : 1 ≤ d.next + 1 := this
    omega
  exact ⟨by simp only; omega, i, ⟨d.val, true, d.next + 1, d.tags.take (k + 1) ++ [⟨d.next, true⟩]⟩, _, hx, List.getElem?_set_self hil, List.getElem?_set_self (by rw [List.length_set]; exact hil), rfl, hn1, hnx⟩

/-- Behind a read that went well, the first tag of the cell can be used. -/
theorem owner_stays {cs n : List CellD} {x t v : Int} (h : readA cs x t = (n, v, 0)) :
    ∃ (i : Nat) (d : CellD) (s : TagD), x = (i : Int) ∧ n[i]? = some d ∧ d.tags[0]? = some s ∧ (∃ p, writeA n x s.id 1 = (p, 0)) ∧ (∃ p, freeA n x s.id = (p, 0)) := by
  unfold readA at h
  split at h
  · rename_i e he
    injection h with h1 h2
    injection h2 with h2 h3
    exact absurd h3 (hit_error he).ne
  · rename_i i k d he
    injection h with h1 h2
    subst h1
    obtain ⟨hm, hx, hd, ha, hk⟩ := hit_ok he
    have hM := memB_out hm
    have hc := hM.2 i d hd
    have hil := (List.getElem?_eq_some_iff.1 hd).1
    have hcr := cellOk_read (k := k) hc
    have hMn := memOk_set (i := i) hM hcr
    have hl : 1 ≤ (readT d.tags k).length := hcr.len1
    obtain ⟨s, hs⟩ : ∃ s, (readT d.tags k)[0]? = some s := ⟨_, List.getElem?_eq_getElem (by omega)⟩
    have htg : tagAt s.id (readT d.tags k) = some 0 := hcr.tagSelf hs
    have hh := hit_set (d' := ⟨d.val, d.alive, d.next, readT d.tags k⟩) hMn hil ha htg
    rw [← hx] at hh
    have hun : uAt (readT d.tags k) 0 = true := by
      unfold uAt
      rw [hs]
      exact hcr.head s hs
    have hw := hitW_mk hh hun
    refine ⟨i, _, s, hx, List.getElem?_set_self hil, hs, ?_, ?_⟩
    · unfold writeA
      rw [if_pos (by decide), hw]
      exact ⟨_, rfl⟩
    · unfold freeA
      rw [hw]
      exact ⟨_, rfl⟩

theorem pushA_fail {cs m : List CellD} {i : Nat} {d : CellD} {ts : List TagD} {u : Bool} {pr : Int × Int} {cd : Int} (h : pushA cs i d ts u = (m, pr, cd)) (hc : cd ≠ 0) : m = cs := by
  unfold pushA at h
  split at h
  · injection h with h1 h2
    injection h2 with h2 h3
    exact absurd h3.symm hc
  · injection h with h1 h2
    exact h1.symm

theorem share_fail {cs m : List CellD} {x t : Int} {pr : Int × Int} {cd : Int} (h : shareA cs x t = (m, pr, cd)) (hc : cd ≠ 0) : m = cs := by
  unfold shareA at h
  split at h
  · injection h with h1 h2
    exact h1.symm
  · exact pushA_fail h hc

theorem borrow_fail {cs m : List CellD} {x t : Int} {pr : Int × Int} {cd : Int} (h : borrowA cs x t = (m, pr, cd)) (hc : cd ≠ 0) : m = cs := by
  unfold borrowA at h
  split at h
  · injection h with h1 h2
    exact h1.symm
  · exact pushA_fail h hc

theorem readA_same {m : List CellD} {c t : Int} {i k : Nat} {d : CellD} (h : hit m c t = .ok (i, k, d)) (hab : ∀ s ∈ d.tags.drop (k + 1), s.u = false) : readA m c t = (m, d.val, 0) := by
  rw [readA_hit h, readT_same hab]
  obtain ⟨_, _, hd, _, _⟩ := hit_ok h
  have hl := (List.getElem?_eq_some_iff.1 hd)
  obtain ⟨hl, he⟩ := hl
  have : m.set i { d with tags := d.tags } = m := by
    have e : ({ d with tags := d.tags } : CellD) = d := rfl
    rw [e, ← he]
    exact List.set_getElem_self hl
  rw [this]

/-- A shared pointer reads and does not write, and the one that it was made from still reads. -/
theorem share_reads {cs n : List CellD} {x t : Int} {y : Int × Int} (h : shareA cs x t = (n, y, 0)) :
    memB n = true ∧ ∃ v, readA n y.1 y.2 = (n, v, 0) ∧ readA n x t = (n, v, 0) ∧ writeA n y.1 y.2 1 = (n, 3) := by
  obtain ⟨i, k, d, he, hx, hd, ha, hk, hc, hM, rfl, rfl, hMn⟩ := share_out h
  have hil := (List.getElem?_eq_some_iff.1 hd).1
  have hkl := tagAt_lt hk
  have hlt : ∀ s ∈ readT d.tags k, s.id < d.next := fun s hs => ids_lt hc s ((readT_sub _ _).subset hs)
  have hty : tagAt d.next (readT d.tags k ++ [(⟨d.next, false⟩ : TagD)]) = some (readT d.tags k).length := tagAt_top hlt
  have htt : tagAt t (readT d.tags k ++ [(⟨d.next, false⟩ : TagD)]) = some k := tagAt_push (tagAt_read hk) _
  have hy := hit_set hMn hil rfl hty
  have ht := hit_set hMn hil rfl htt
  refine ⟨memB_true hMn, d.val, ?_, ?_, ?_⟩
  · have h1 := readA_same hy (fun s hs => by
      have hs : s ∈ (readT d.tags k ++ [(⟨d.next, false⟩ : TagD)]).drop ((readT d.tags k).length + 1) := hs
      rw [List.drop_eq_nil_of_le (by simp)] at hs
      cases hs)
    exact h1
  · rw [hx]
    have h1 := readA_same ht (fun s hs => by
      have hs : s ∈ (readT d.tags k ++ [(⟨d.next, false⟩ : TagD)]).drop (k + 1) := hs
      rw [List.drop_append_of_le_length (by have := readT_kept hkl; omega)] at hs
      rcases List.mem_append.1 hs with hs | hs
      · exact readT_above hkl s hs
      · simp at hs
        subst hs
        rfl)
    exact h1
  · have hu : uAt (readT d.tags k ++ [(⟨d.next, false⟩ : TagD)]) (readT d.tags k).length = false := by simp [uAt]
    unfold writeA
    rw [if_pos (by decide), hitW_ro hy hu]

/-- A unique pointer writes until the one that it was made from is used. -/
theorem borrow_writes {cs n : List CellD} {x t : Int} {y : Int × Int} (h : borrowA cs x t = (n, y, 0)) :
    memB n = true ∧ ∃ a b, writeA n y.1 y.2 7 = (a, 0) ∧ readA a x t = (b, 7, 0) ∧ writeA b y.1 y.2 1 = (b, 2) ∧ readA b y.1 y.2 = (b, 0, 2) := by
  obtain ⟨i, k, d, he, hu, hx, hd, ha, hk, hc, hM, rfl, rfl, hMn⟩ := borrow_out h
  have hil := (List.getElem?_eq_some_iff.1 hd).1
  have hkl := tagAt_lt hk
  have hlen : (d.tags.take (k + 1)).length = k + 1 := by rw [List.length_take]; omega
  have hlt : ∀ s ∈ d.tags.take (k + 1), s.id < d.next := fun s hs => ids_lt hc s ((List.take_sublist _ _).subset hs)
  have hty : tagAt d.next (d.tags.take (k + 1) ++ [(⟨d.next, true⟩ : TagD)]) = some (d.tags.take (k + 1)).length := tagAt_top hlt
  have htt : tagAt t (d.tags.take (k + 1) ++ [(⟨d.next, true⟩ : TagD)]) = some k := tagAt_push (tagAt_take hk) _
  have hy := hit_set hMn hil rfl hty
  have huy : uAt (d.tags.take (k + 1) ++ [(⟨d.next, true⟩ : TagD)]) (d.tags.take (k + 1)).length = true := by simp [uAt]
  have hw := hitW_mk hy huy
  have hall : (d.tags.take (k + 1) ++ [(⟨d.next, true⟩ : TagD)]).take ((d.tags.take (k + 1)).length + 1) = d.tags.take (k + 1) ++ [(⟨d.next, true⟩ : TagD)] := List.take_of_length_le (by simp)
  have hcn := hMn.2 i _ (List.getElem?_set_self hil)
  have hM7 : MemOk (cs.set i ⟨7, true, d.next + 1, d.tags.take (k + 1) ++ [(⟨d.next, true⟩ : TagD)]⟩) := by
    have := memOk_set (i := i) hMn (cellOk_part (v := 7) (al := true) hcn (by decide) (by decide) (List.Sublist.refl _) rfl hcn.len1)
    rw [List.set_set] at this
    exact this
  have h7 := hit_set hM7 hil rfl htt
  have hrt : readT (d.tags.take (k + 1) ++ [(⟨d.next, true⟩ : TagD)]) k = d.tags.take (k + 1) := by
    unfold readT
    rw [List.take_append_of_le_length (by omega), List.take_take, List.drop_append_of_le_length (by omega), List.drop_eq_nil_of_le (by omega)]
    simp
  have hr := readA_hit h7
  rw [List.set_set] at hr
  simp only [hrt] at hr
  have hMb : MemOk (cs.set i ⟨7, true, d.next + 1, d.tags.take (k + 1)⟩) := by
    have := readA_ok (x := (i : Int)) (t := t) hM7
    rw [hr] at this
    exact this
  have hno : tagAt d.next (d.tags.take (k + 1)) = none := tagAt_mk_none fun j s hs => by
    have := hlt s (List.mem_of_getElem? hs)
    omega
  have hms : hit (cs.set i ⟨7, true, d.next + 1, d.tags.take (k + 1)⟩) (i : Int) d.next = .error 2 := hit_miss (Miss.lost i _ (memB_true hMb) rfl (List.getElem?_set_self hil) rfl hno)
  refine ⟨memB_true hMn, _, _, ?_, (by rw [hx]; exact hr), ?_, ?_⟩
  · unfold writeA
    rw [if_pos (by decide), hw]
    simp only [List.set_set, hall]
  · unfold writeA
    rw [if_pos (by decide), hitW_miss hms]
  · unfold readA
    rw [hms]

end Go.Proofs.YtfkoobdlhdolbaaDoor
