/-
  A row of numbers appended to a row of numbers.
-/
import Derived.Test.YtlddoookojjleaaZMem
import Derived.Deep.Upon
namespace Go.Proofs.Ytlddoookojjleaa
open Go.RowKit Go.Deep
set_option linter.unusedVariables false

theorem grown_refl (w : World) (r : Option Nat) : w.grownBy w r := ⟨rfl, rfl, rfl, Nat.le_refl _, fun _ _ _ => rfl⟩

/-- A row stays, whatever its first block. -/
theorem RowI.below' {w w' : World} {B : Nat} {v : Value} {xs : List Int} (h : RowI w B v xs) (hb : Below w.heap.size w w') : RowI w' B v xs := h.below hb

/-- A row of numbers, shortened. -/
theorem RowI.short {w : World} {B : Nat} {xs : List Int} {x : Int} {A : Option Addr} {c : Nat} (h : RowI w B (.slice A (xs.length + 1) c) (xs ++ [x])) : RowI w B (.slice A xs.length c) xs ∧ ∃ g, A = some ⟨g, 0, none⟩ ∧ xs.length + 1 ≤ c ∧ c ≤ maxLen ∧ w.cell? ⟨g, xs.length, none⟩ = some (.int .i64 x) := by
  rcases h.2 with ⟨h1, h2⟩ | ⟨g, cap, cur, h1, h2, h3, h4, h5, h6, h7⟩
  · simp at h2
  · simp only [List.length_append, List.length_cons, List.length_nil, Nat.zero_add, Value.slice.injEq, true_and] at h1 h4
    obtain ⟨rfl, rfl⟩ := h1
    have h8 : cur.toList.take (xs.length * 1) = xs.map (Value.int .i64) := by
      have e : cur.toList.take (xs.length * 1) = (cur.toList.take ((xs ++ [x]).length * 1)).take (xs.length * 1) := by
        rw [List.take_take]
        congr 1
        simp
      rw [e, h7, List.map_append]
      have : xs.length * 1 = (xs.map (Value.int .i64)).length := by simp
      rw [this, List.take_left]
    refine ⟨⟨by simp, .inr ⟨g, c, cur, rfl, h2, h3, by omega, h5, h6, h8⟩⟩, g, rfl, h4, h5, ?_⟩
    rw [cell_of_block h3]
    have h9 : (cur.toList.take ((xs ++ [x]).length * 1))[xs.length]? = some (.int .i64 x) := by
      rw [h7]
      simp
    rw [List.getElem?_take] at h9
    simpa using h9

set_option maxHeartbeats 1000000 in
theorem wpList_append_rows {ops : Array Oper} {rest : List Oper} {o : Oper} {a : Act} {w : World} {Q : Exit → Act → World → Prop} (hgd : o.guard = none) (s x : Operand)
    (ho : o.op = .call { callee := .builtin .append, args := #[s, x], argTypes := #[22, 22] }) (B B' : Nat) (v u : Value) (xs ys : List Int) (hs : a.eval s = v) (hx : a.eval x = u)
    (hv : RowI w B v xs) (hu : RowI w B' u ys) (hlen : xs.length + ys.length ≤ 4000000) (hB : B ≤ w.heap.size)
    (h : ∀ v' w', RowI w' B v' (xs ++ ys) → w.grownBy w' v.ownBlock → wpList Try.prog ops Q rest (a.put o.dst v') w') : wpList Try.prog ops Q (o :: rest) a w := by
  obtain ⟨i0, hi, hz0, hz1, hz2⟩ := info_parts Try.infoInt
  rcases hu.2 with ⟨h1, h2⟩ | ⟨g, cap, cur, h1, h2, h3, h4, h5, h6, h7⟩
  · have hy : ys = [] := List.eq_nil_of_length_eq_zero h2
    subst hy h1
    rw [List.append_nil] at h
    obtain ⟨A, c, hvs⟩ := hv.slice
    have hle : xs.length ≤ c := by
      rcases hv.2 with ⟨e1, e2⟩ | ⟨g, cap, cur, e1, _, _, e4, _⟩
      · rw [e2]; exact Nat.zero_le _
      · rw [hvs] at e1
        simp at e1
        omega
    subst hvs
    refine wpList_plain hgd fun K hK => ?_
    have hr : (Builtin.append_ #[22, 22] o.type #[.slice A xs.length c, .slice none 0 0]).run Try.prog w = .ok (.slice A xs.length c) w := by
      exact run_append_nothing w _ _ _ 3 i0 Try.underlying22 hi A xs.length c hle _ (Src.ofNil w Try.underlying22 0)
    unfold Oper.wp execOp
    simp only [ho, resolve, invoke, builtin, Sem.run_bind, Sem.run_pure, Result.andThen_ok, List.map_toArray, List.map_cons, List.map_nil, hs, hx, hr]
    exact hK _ _ (h _ _ hv (grown_refl w _))
  · subst h1
    refine wpList_append_own w hgd s x 22 ho B 3 i0 (.int .i64 0) 1 8 Try.underlying22 hi hz0 hz1 hz2 rfl (by decide) v xs.length (xs.map (Value.int .i64)) hs hv ⟨g, 0, none⟩ ys.length cap (ys.map (Value.int .i64)) hx (by simp) (hu.own.cells rfl) (fun u hu => ?_) (by unfold maxLen; omega) (by omega) hB fun v' w' h8 h9 _ => h v' w' ?_ h9
    · obtain ⟨k, _, rfl⟩ := List.mem_map.mp hu
      rfl
    · unfold RowI
      rw [List.length_append, List.map_append]
      exact h8

end Go.Proofs.Ytlddoookojjleaa
