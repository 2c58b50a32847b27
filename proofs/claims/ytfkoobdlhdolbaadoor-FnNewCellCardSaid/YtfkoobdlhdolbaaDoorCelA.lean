/-
  Appending tags to a row, and cells to a memory.
-/
import Derived.Test.YtfkoobdlhdolbaaDoorCelC0
namespace Go.Proofs.YtfkoobdlhdolbaaDoor
open Go.RowKit Go.Deep
set_option linter.unusedVariables false

theorem info_parts {P : Program} {t : TypeId} {z : Value} {s b : Nat} (h : (P.info? t).map (fun i => (i.zero, i.size, i.bytes)) = some (some z, s, b)) : ∃ i, P.info? t = some i ∧ i.zero = some z ∧ i.size = s ∧ i.bytes = b := by
  obtain ⟨i, hi, h2⟩ := Option.map_eq_some_iff.1 h
  simp only [Prod.mk.injEq] at h2
  exact ⟨i, hi, h2.1, h2.2.1, h2.2.2⟩

theorem news1 {w : World} {H : Nat} {cs : Array Value} {t : TypeId} {l : List Value} (hH : w.heap.size = H) (hl : l.toArray = cs) : ∀ j u, l[j]? = some u → (w.alloc (.cells cs t)).cell? ((⟨H, 0, none⟩ : Addr).add j) = some u := by
  subst hH hl
  intro j u hj
  rw [add_block, Nat.zero_add, cell_of_block (heap_alloc_new _ _)]
  simpa using hj

theorem own_empty {w : World} {B H size : Nat} {e : TypeId} (hH : w.heap.size = H) (hB : B ≤ H) : (w.alloc (.cells #[] e)).ownsRow B e size (.slice (some ⟨H, 0, none⟩) 0 0) 0 [] := by
  subst hH
  exact World.ownsRow_lit (base := B) (e := e) (size := size) w #[] 0 hB (by simp [maxLen]) (by simp)

theorem addr_add (a : Addr) (i j : Nat) (hj : 0 < j) : a.add (i + j) = ⟨(a.add i).block, (a.add i).off + j, none⟩ := by
  rw [← Go.Deep.add_add]
  unfold Addr.add
  rw [if_neg (by omega)]

/-- What lies under a row of tags that is read. -/
theorem RdT.news {w : World} {a : Addr} {n c : Nat} {ts : List TagD} (h : RdT w (.slice (some a) n c) ts) : ∀ j u, (ts.flatMap TagD.cells)[j]? = some u → w.cell? (a.add j) = some u := by
  intro j u hu
  have hl := flat_len TagD.cells_length ts
  have hj : j < ts.length * 2 := by
    have := (List.getElem?_eq_some_iff.1 hu).1
    omega
  have hk : j / 2 < ts.length := by omega
  obtain ⟨b, id, x, hb, _, hd, c0, c1⟩ := h.elem hk
  injection hb with hb
  subst hb
  have hg := flat_get TagD.cells_length ts (j / 2) (j % 2) _ hd (by omega)
  have he : j / 2 * 2 + j % 2 = j := by omega
  rw [he, hu] at hg
  rcases Nat.mod_two_eq_zero_or_one j with h0 | h1
  · rw [h0] at hg he
    simp [TagD.cells] at hg
    rw [← he, Nat.add_zero, hg]
    exact c0
  · rw [h1] at hg he
    simp [TagD.cells] at hg
    rw [← he, addr_add _ _ _ (by omega), hg]
    exact c1

theorem run_append_tags (w : World) (B : Nat) (v : Value) (xs : List TagD) (u : Value) (ts : List TagD) (hown : RowT w B v xs) (hu : RdT w u ts) (hl : xs.length + ts.length ≤ 2000000) (hB : B ≤ w.heap.size) :
    ∃ v' w', (Builtin.append_ #[31, 31] 31 #[v, u]).run Tryd.prog w = .ok v' w' ∧ RowT w' B v' (xs ++ ts) ∧ w.grownBy w' v.ownBlock ∧ (v'.ownBlock = v.ownBlock ∨ v'.ownBlock = some w.heap.size) := by
  obtain ⟨i0, hi, hz0, hz1, hz2⟩ := info_parts Tryd.infoTag
  obtain ⟨A, c, hv, h1, h2, h3⟩ := id hu
  cases A with
  | none =>
    have h0 : ts = [] := by
      cases ts with
      | nil => rfl
      | cons t ts =>
        obtain ⟨b, hb, _⟩ := h3 (by simp)
        cases hb
    subst h0 hv
    refine ⟨v, w, ?_, by rw [List.append_nil]; exact hown, ⟨rfl, rfl, rfl, Nat.le_refl _, fun _ _ _ => rfl⟩, .inl rfl⟩
    have ht := Tryd.underlying31
    rcases hown.2 with ⟨rfl, e0⟩ | ⟨g, cap, cur, rfl, _, _, hnc, _⟩
    · simp [Builtin.append_, run_underlying ht, sizeOf, typeInfo, hi, Builtin.lenOf, Builtin.firstCells]
    · simp [Builtin.append_, run_underlying ht, sizeOf, typeInfo, hi, Builtin.lenOf, Builtin.firstCells, hnc, storeCells]
  | some a =>
    subst hv
    obtain ⟨v', w', hr, k1, k2, _, k4⟩ := run_append_own_at (P := Tryd.prog) w B 31 31 35 i0 (.agg #[.int .i64 0, .bool false]) 2 16 Tryd.underlying31 hi hz0 hz1 hz2 rfl (by decide) v xs.length (xs.flatMap TagD.cells) hown a ts.length c (ts.flatMap TagD.cells)
      (flat_len TagD.cells_length ts) hu.news (fun u hu => by
        obtain ⟨t, _, ht⟩ := List.mem_flatMap.1 hu
        simp [TagD.cells] at ht
        rcases ht with rfl | rfl <;> rfl) (by unfold maxLen; omega) (by omega) hB
    refine ⟨v', w', hr, ?_, k2, k4⟩
    unfold RowT
    rw [List.length_append, List.flatMap_append]
    exact k1

theorem wpList_append_tags {w : World} {ops : Array Oper} {rest : List Oper} {o : Oper} {a : Act} {Q : Exit → Act → World → Prop} (hgd : o.guard = none) (s x : Operand)
    (ho : o.op = .call { callee := .builtin .append, args := #[s, x], argTypes := #[31, 31] }) (hty : o.type = 31) (B : Nat) (v : Value) (xs : List TagD) (u : Value) (ts : List TagD)
    (hs : a.eval s = v) (hx : a.eval x = u) (hown : RowT w B v xs) (hu : RdT w u ts) (hl : xs.length + ts.length ≤ 2000000) (hB : B ≤ w.heap.size)
    (h : ∀ v' w', RowT w' B v' (xs ++ ts) → w.grownBy w' v.ownBlock → (v'.ownBlock = v.ownBlock ∨ v'.ownBlock = some w.heap.size) → wpList Tryd.prog ops Q rest (a.put o.dst v') w') : wpList Tryd.prog ops Q (o :: rest) a w := by
  obtain ⟨v', w', hr, h2, h3, h4⟩ := run_append_tags w B v xs u ts hown hu hl hB
  refine wpList_plain hgd fun _ hK => ?_
  unfold Oper.wp execOp
  simp only [ho, hty, resolve, invoke, builtin, Sem.run_bind, Sem.run_pure, Result.andThen_ok, List.map_toArray, List.map_cons, List.map_nil, hs, hx, hr]
  exact hK _ _ (h v' w' h2 h3 h4)

theorem step_append_tags {w : World} {ops : Array Oper} {o : Oper} {a : Act} {K : Act → World → Prop} {Q : Exit → Act → World → Prop} {E : Prop} (hgd : o.guard = none) (s x : Operand)
    (ho : o.op = .call { callee := .builtin .append, args := #[s, x], argTypes := #[31, 31] }) (hty : o.type = 31) (B : Nat) (v : Value) (xs : List TagD) (u : Value) (ts : List TagD)
    (hs : a.eval s = v) (hx : a.eval x = u) (hown : RowT w B v xs) (hu : RdT w u ts) (hl : xs.length + ts.length ≤ 2000000) (hB : B ≤ w.heap.size)
    (h : ∀ v' w', RowT w' B v' (xs ++ ts) → w.grownBy w' v.ownBlock → (v'.ownBlock = v.ownBlock ∨ v'.ownBlock = some w.heap.size) → K (a.put o.dst v') w') :
    if Region.wanted o (yielded ops a.tmps) = true then Oper.wp Tryd.prog o a w K Q else E := by
  have hw : Region.wanted o (yielded ops a.tmps) = true := by simp [Region.wanted, hgd]
  rw [if_pos hw]
  obtain ⟨v', w', hr, h2, h3, h4⟩ := run_append_tags w B v xs u ts hown hu hl hB
  unfold Oper.wp execOp
  simp only [ho, hty, resolve, invoke, builtin, Sem.run_bind, Sem.run_pure, Result.andThen_ok, List.map_toArray, List.map_cons, List.map_nil, hs, hx, hr]
  exact h v' w' h2 h3 h4

/-- A memory with a cell more. -/
theorem RowU.snoc {w w' : World} {B : Nat} {v v' : Value} {rs : List (CellD × Value)} {p : CellD × Value} (h : RowU w B v rs) (hu : RowT w B p.2 p.1.tags)
    (hf : ∀ (j : Nat) (r : CellD × Value) (a : Nat), rs[j]? = some r → r.2.ownBlock = some a → p.2.ownBlock ≠ some a) (hg : w.grownBy w' v.ownBlock)
    (ho : w'.ownsRow B 33 4 v' (rs.length + 1) (rs.flatMap crow ++ [.int .i64 p.1.val, .bool p.1.alive, .int .i64 p.1.next, p.2])) : RowU w' B v' (rs ++ [p]) := by
  have hne : ∀ (u : Value) (ts : List TagD), RowT w B u ts → RowT w' B u ts := by
    intro u ts hu
    refine own_keep hu fun k hk => hg.block k (World.ownsRow.lt hu k hk).2 fun e => ?_
    obtain ⟨cur, hc⟩ := ownBlock_row h.own k e.symm
    obtain ⟨cur', hc'⟩ := ownBlock_row hu k hk
    rw [hc] at hc'
    injection hc' with hc'
    injection hc' with _ hc' _
    exact absurd hc' (by decide)
  have hat : ∀ (j : Nat) (q : CellD × Value), (rs ++ [p])[j]? = some q → rs[j]? = some q ∨ (j = rs.length ∧ q = p) := by
    intro j q hq
    rcases Nat.lt_or_ge j rs.length with hj | hj
    · rw [List.getElem?_append_left hj] at hq
      exact .inl hq
    · rw [List.getElem?_append_right hj] at hq
      have hj' : j = rs.length := by
        have := (List.getElem?_eq_some_iff.1 hq).1
        simp at this
        omega
      subst hj'
      simp at hq
      exact .inr ⟨rfl, hq.symm⟩
  refine ⟨?_, fun j q hq => ?_, ?_⟩
  · rw [List.length_append, List.flatMap_append]
    exact ho
  · rcases hat j q hq with hq | ⟨_, rfl⟩
    · exact hne _ _ (h.tags j q hq)
    · exact hne _ _ hu
  · intro i j q r a b hij hq hr ha hb
    rcases hat i q hq with hq1 | ⟨hi, e1⟩
    · rcases hat j r hr with hr1 | ⟨_, e2⟩
      · exact h.apart i j q r a b hij hq1 hr1 ha hb
      · subst e2
        intro e
        subst e
        exact hf i q a hq1 ha hb
    · rcases hat j r hr with hr1 | ⟨hj, e2⟩
      · subst e1
        intro e
        subst e
        exact hf j r a hr1 hb ha
      · omega

end Go.Proofs.YtfkoobdlhdolbaaDoor
