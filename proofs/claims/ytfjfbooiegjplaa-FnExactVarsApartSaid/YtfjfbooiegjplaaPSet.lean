/-
  Maps from pointers, or pairs of pointers, to true: sets that a call makes, asks and fills.
-/
import Derived.Test.YtfjfbooiegjplaaOwD
import Derived.LaidEqlPtr
import Derived.Maps.OwnOps
namespace Go.Proofs.Ytfjfbooiegjplaa
open Go.RowKit Go.Deep
set_option linter.unusedVariables false

/-- A block of plain cells, of which none is frozen. -/
def Plain (w : World) (k : Nat) : Prop := ∃ cs t fr, w.heap[k]? = some (.cells cs t fr) ∧ ∀ o, w.frozen? ⟨k, o, none⟩ = false

theorem Plain.keep {w w' : World} {k : Nat} (h : Plain w k) (hk : w'.heap[k]? = w.heap[k]?) : Plain w' k := by
  obtain ⟨cs, t, fr, h1, h2⟩ := h
  exact ⟨cs, t, fr, hk.trans h1, fun o => (World.frozen?_of_block (a := ⟨k, o, none⟩) hk).trans (h2 o)⟩

theorem run_sameAddr_plain {P : Program} {w : World} {a b : Addr} (hne : a ≠ b) (ha : Plain w a.block) (hb : Plain w b.block) : (sameAddr a b).run P w = .ok false w := by
  by_cases hbl : a.block = b.block
  · simp [sameAddr, hbl, hne]
  · obtain ⟨ca, ta, ⟨la, ra⟩, h1, h2⟩ := ha
    obtain ⟨cb, tb, ⟨lb, rb⟩, h3, h4⟩ := hb
    have e1 : ∀ o, ¬ (la ≤ o ∧ o < ra) := fun o h => by
      have := h2 o
      simp [World.frozen?, h1] at this
      have := this h.1
      omega
    have e2 : ∀ o, ¬ (lb ≤ o ∧ o < rb) := fun o h => by
      have := h4 o
      simp [World.frozen?, h3] at this
      have := this h.1
      omega
    have f1 : ∀ o, (decide (la ≤ o) && decide (o < ra)) = false := fun o => by
      have := e1 o
      simp
      omega
    have f2 : ∀ o, (decide (lb ≤ o) && decide (o < rb)) = false := fun o => by
      have := e2 o
      simp
      omega
    simp [sameAddr, hbl, World.frozen?, h1, h3, noView, viewAt, World.shape?, mayBeOne, stringish, f1, f2]

section
variable {α : Type} {P : Program} {K : TypeId} {d : TypeDesc} {kv : α → Value} {w : World}

/-- Two keys of the set are told apart. -/
def Told [DecidableEq α] (P : Program) (K : TypeId) (kv : α → Value) (w : World) (a : α) (ks : List α) : Prop := ∀ b ∈ ks, (Op.equal K (kv a) (kv b)).run P w = .ok (decide (a = b)) w

theorem run_findAsking_set [DecidableEq α] (a : α) : ∀ (ks : List α) (es : List MapEntry) (i : Nat), es.map (·.key) = ks.map kv → Told P K kv w a ks →
    (a ∉ ks ∧ (Instr.findAsking K (kv a) es i).run P w = .ok none w) ∨ (a ∈ ks ∧ ∃ j, ∃ e ∈ es, (Instr.findAsking K (kv a) es i).run P w = .ok (some (j, e.val)) w)
  | [], [], i, _, _ => .inl ⟨by simp, by simp [Instr.findAsking]⟩
  | [], e :: es, i, h, _ => by simp at h
  | k :: ks, [], i, h, _ => by simp at h
  | k :: ks, e :: es, i, h, ht => by
    simp only [List.map_cons, List.cons.injEq] at h
    have h1 := ht k (List.mem_cons_self ..)
    rw [← h.1] at h1
    by_cases hak : a = k
    · rw [decide_eq_true hak] at h1
      exact .inr ⟨by simp [hak], i, e, List.mem_cons_self .., by simp [Instr.findAsking, h1, Result.andThen]⟩
    · rw [decide_eq_false hak] at h1
      have hr : (Instr.findAsking K (kv a) (e :: es) i).run P w = (Instr.findAsking K (kv a) es (i + 1)).run P w := by simp [Instr.findAsking, h1, Result.andThen]
      rcases run_findAsking_set a ks es (i + 1) h.2 (fun b hb => ht b (List.mem_cons_of_mem _ hb)) with ⟨h2, h3⟩ | ⟨h2, j, e', he, h3⟩
      · exact .inl ⟨by simp [hak, h2], hr.trans h3⟩
      · exact .inr ⟨by simp [h2], j, e', List.mem_cons_of_mem _ he, hr.trans h3⟩

/-- The map at block g has just these keys, and true at each. -/
def PSet (kv : α → Value) (w : World) (g : Nat) (ks : List α) : Prop := ∃ es clock, w.heap[g]? = some (.map es clock) ∧ es.toList.map (·.key) = ks.map kv ∧ ∀ e ∈ es.toList, e.val = .bool true

theorem PSet.made (w : World) : PSet kv (w.alloc (.map #[] 0)) w.heap.size ([] : List α) := ⟨#[], 0, (MapKept.heap_alloc w _).1, rfl, by simp⟩

theorem PSet.keep {w' : World} {g : Nat} {ks : List α} (h : PSet kv w g ks) (hk : w'.heap[g]? = w.heap[g]?) : PSet kv w' g ks := by
  obtain ⟨es, c, h1, h2, h3⟩ := h
  exact ⟨es, c, hk.trans h1, h2, h3⟩

theorem PSet.lt {g : Nat} {ks : List α} (h : PSet kv w g ks) : g < w.heap.size := by
  obtain ⟨es, c, h1, _⟩ := h
  exact (Array.getElem?_eq_some_iff.1 h1).1

theorem run_findKey_set [DecidableEq α] (hK : P.underlying K = some d) (hnow : ∀ a b : α, Instr.sameNow d (kv a) (kv b) = none) (a : α) (ks : List α) (es : List MapEntry) (h : es.map (·.key) = ks.map kv) (ht : Told P K kv w a ks) :
    (a ∉ ks ∧ (Instr.findKey K (kv a) es).run P w = .ok none w) ∨ (a ∈ ks ∧ ∃ j, ∃ e ∈ es, (Instr.findKey K (kv a) es).run P w = .ok (some (j, e.val)) w) := by
  cases es with
  | nil =>
    have : ks = [] := by simpa using h.symm
    subst this
    exact .inl ⟨by simp, by simp [Instr.findKey, run_underlying hK, Instr.findNow]⟩
  | cons e es =>
    have hn : Instr.findNow d (kv a) (e :: es) 0 = none := by
      cases ks with
      | nil => simp at h
      | cons k ks =>
        simp only [List.map_cons, List.cons.injEq] at h
        simp [Instr.findNow, h.1, hnow]
    have hr : (Instr.findKey K (kv a) (e :: es)).run P w = (Instr.findAsking K (kv a) (e :: es)).run P w := by simp [Instr.findKey, run_underlying hK, hn]
    rcases run_findAsking_set (P := P) (K := K) (w := w) a ks (e :: es) 0 h ht with ⟨h1, h2⟩ | ⟨h1, j, e', he, h2⟩
    · exact .inl ⟨h1, hr.trans h2⟩
    · exact .inr ⟨h1, j, e', he, hr.trans h2⟩

/-- Asking the set. -/
theorem PSet.lookup [DecidableEq α] {T E : TypeId} {g : Nat} {ks : List α} (h : PSet kv w g ks) (hK : P.underlying K = some d) (hT : P.underlying T = some (.map K E)) (hz : (zeroValue E).run P w = .ok (.bool false) w)
    (hck : ∀ em a, (Instr.checkKey em 10000 K (kv a)).run P w = .ok () w) (hnow : ∀ a b : α, Instr.sameNow d (kv a) (kv b) = none) (a : α) (ht : Told P K kv w a ks) :
    (Instr.lookup T (.map (some g)) (kv a) false).run P w = .ok (.bool (decide (a ∈ ks))) w := by
  obtain ⟨es, clock, h1, h2, h3⟩ := h
  rcases run_findKey_set (P := P) (w := w) hK hnow a ks es.toList h2 ht with ⟨h4, h5⟩ | ⟨h4, j, e, he, h5⟩
  · simp [Instr.lookup, run_underlying hT, MapKept.run_getObj_map h1, hck, h5, hz, h4]
  · simp [Instr.lookup, run_underlying hT, MapKept.run_getObj_map h1, hck, h5, h4, h3 e he]

/-- Filling it. -/
theorem PSet.update [DecidableEq α] {T E : TypeId} {g : Nat} {ks : List α} (h : PSet kv w g ks) (hK : P.underlying K = some d) (hT : P.underlying T = some (.map K E))
    (hck : ∀ em a, (Instr.checkKey em 10000 K (kv a)).run P w = .ok () w) (hnow : ∀ a b : α, Instr.sameNow d (kv a) (kv b) = none) (a : α) (ht : Told P K kv w a ks) (hn : a ∉ ks) :
    ∃ w', (Instr.mapUpdate T (.map (some g)) (kv a) (.bool true)).run P w = .ok () w' ∧ PSet kv w' g (ks ++ [a]) ∧ w.grownBy w' (some g) ∧ w'.heap.size = w.heap.size := by
  obtain ⟨es, clock, h1, h2, h3⟩ := h
  rcases run_findKey_set (P := P) (w := w) hK hnow a ks es.toList h2 ht with ⟨h4, h5⟩ | ⟨h4, _⟩
  · refine ⟨ChangeMaps.setBlock w g (.map (es.push ⟨kv a, .bool true, clock⟩) (clock + 1)), ?_, ⟨_, _, ChangeMaps.heap_setBlock_same h1 _, ?_, ?_⟩, ⟨rfl, rfl, rfl, by simp [ChangeMaps.setBlock], fun i _ hi => ChangeMaps.heap_setBlock_other h1 _ (fun e => hi (by rw [e]))⟩, by simp [ChangeMaps.setBlock]⟩
    · simp [Instr.mapUpdate, run_underlying hT, MapKept.run_getObj_map h1, hck, h5, MapKept.run_setObj_map _ h1, Result.andThen, ChangeMaps.setBlock]
    · simp [h2]
    · intro e he
      simp only [Array.toList_push, List.mem_append, List.mem_singleton] at he
      rcases he with he | rfl
      · exact h3 e he
      · rfl
  · exact absurd h4 hn

end

/-- The look-up in the walk. -/
theorem wpList_lookup_run {P : Program} (w : World) {ops : Array Oper} {rest : List Oper} {o : Oper} {a : Act} {Q : Exit → Act → World → Prop}
    (hg : o.guard = none) (m x : Operand) (t : TypeId) (hop : o.op = Op.lookup t m x false) (M X : Value) (hm : a.eval m = M) (hx : a.eval x = X) (v : Value) (hrun : (Instr.lookup t M X false).run P w = .ok v w)
    (hK : wpList P ops Q rest (a.put o.dst v) w) : wpList P ops Q (o :: rest) a w := by
  refine wpList_plain hg fun K' hK' => ?_
  unfold Oper.wp
  simp [execOp, hop, hm, hx, hrun, Result.andThen]
  exact hK' _ _ hK

/-- The store in the walk. -/
theorem wpList_mapUpdate_run {P : Program} (w : World) {ops : Array Oper} {rest : List Oper} {o : Oper} {a : Act} {Q : Exit → Act → World → Prop}
    (hg : o.guard = none) (m x v : Operand) (t : TypeId) (hop : o.op = Op.mapUpdate t m x v) (M X V : Value) (hm : a.eval m = M) (hx : a.eval x = X) (hv : a.eval v = V) (w' : World) (hrun : (Instr.mapUpdate t M X V).run P w = .ok () w')
    (hK : wpList P ops Q rest (a.put o.dst undef) w') : wpList P ops Q (o :: rest) a w := by
  refine wpList_plain hg fun K' hK' => ?_
  unfold Oper.wp
  simp [execOp, hop, hm, hx, hv, hrun, Result.andThen]
  exact hK' _ _ hK

end Go.Proofs.Ytfjfbooiegjplaa
