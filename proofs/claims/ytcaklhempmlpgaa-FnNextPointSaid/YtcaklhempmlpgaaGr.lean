/-
  The program's graph in memory, and what its writes make of it.
-/
import Derived.Test.YtcaklhempmlpgaaRows
import Derived.Test.YtcaklhempmlpgaaCopy0
import Derived.Test.YtcaklhempmlpgaaGraph
import Derived.WalkKit
import Derived.WalkSpells
import Derived.Laws.OwnMore
namespace Go.Proofs.Ytcaklhempmlpgaa
open Go.RowKit Go.Deep
set_option linter.unusedVariables false

/-- Cells written one behind the other. -/
def setN (cs : Array Value) (o : Nat) : List Value → Array Value
  | [] => cs
  | v :: vs => setN (cs.setIfInBounds o v) (o + 1) vs

theorem setN_size (vs : List Value) : ∀ (cs : Array Value) (o : Nat), (setN cs o vs).size = cs.size := by
  induction vs with
  | nil => intro cs o; rfl
  | cons v vs ih => intro cs o; rw [setN, ih]; simp

theorem setN_get (vs : List Value) : ∀ (cs : Array Value) (o j : Nat), o + vs.length ≤ cs.size → (setN cs o vs)[j]? = if o ≤ j ∧ j < o + vs.length then vs[j - o]? else cs[j]? := by
  induction vs with
  | nil =>
    intro cs o j _
    rw [setN, if_neg (by simp)]
  | cons v vs ih =>
    intro cs o j hz
    simp only [List.length_cons] at hz
    rw [setN, ih _ _ _ (by simp; omega), List.length_cons]
    by_cases h1 : o + 1 ≤ j ∧ j < o + 1 + vs.length
    · rw [if_pos h1, if_pos (by omega), show j - o = (j - (o + 1)) + 1 by omega, List.getElem?_cons_succ]
    · rw [if_neg h1, Array.getElem?_setIfInBounds]
      by_cases h2 : o = j
      · subst h2
        rw [if_pos rfl, if_pos (by omega), if_pos (by omega), Nat.sub_self]
        rfl
      · rw [if_neg h2, if_neg (by omega)]

/-- A node in the graph's cells. -/
structure NdAt (cs : Array Value) (k : Nat) (d : Nd) : Prop where
  op : cs[k * 7]? = some (.int .i64 d.op)
  x : cs[k * 7 + 1]? = some (.int .i64 d.x)
  y : cs[k * 7 + 2]? = some (.int .i64 d.y)
  n : cs[k * 7 + 3]? = some (.int .i64 d.n)
  next : ∀ j v, d.next[j]? = some v → cs[k * 7 + 4 + j]? = some (.int .i64 v)
  ways : cs[k * 7 + 6]? = some (.int .i64 d.next.length)
  two : d.next.length ≤ 2

/-- The graph in block C has these nodes. -/
def Gr (C : Nat) (w : World) (ns : List Nd) : Prop :=
  ∃ cs, w.heap[C]? = some (.cells cs 59 (0, 0)) ∧ cs.size = 428 ∧ cs[427]? = some (.int .i64 ns.length) ∧ (ns.length ≤ 61 ∧ ∀ j, j < 428 → ∃ v, cs[j]? = some (.int .i64 v)) ∧ ∀ k d, ns[k]? = some d → NdAt cs k d

/-- What a call does that writes into block C, and into nothing else that was there. -/
structure Turn (C : Nat) (w w' : World) : Prop where
  os : w'.os = w.os
  tape : w'.tape = w.tape
  output : w'.output = w.output
  size : w.heap.size ≤ w'.heap.size
  block : ∀ k, k < w.heap.size → k ≠ C → w'.heap[k]? = w.heap[k]?

theorem Turn.refl (C : Nat) (w : World) : Turn C w w := ⟨rfl, rfl, rfl, Nat.le_refl _, fun _ _ _ => rfl⟩

theorem Turn.trans {C : Nat} {a b c : World} (h : Turn C a b) (k : Turn C b c) : Turn C a c :=
  ⟨k.os.trans h.os, k.tape.trans h.tape, k.output.trans h.output, Nat.le_trans h.size k.size, fun i hi hne => (k.block i (Nat.lt_of_lt_of_le hi h.size) hne).trans (h.block i hi hne)⟩

theorem Turn.of_below {C : Nat} {a b : World} (h : Below a.heap.size a b) : Turn C a b := ⟨h.os, h.tape, h.output, h.size, fun i hi _ => h.block i hi⟩

theorem Turn.alloc {C : Nat} {a b : World} (h : Turn C a b) (o : Obj) : Turn C a (b.alloc o) := h.trans (.of_below ((Below.refl _ _).alloc (Nat.le_refl _) o))

theorem Turn.setCell {C : Nat} {a b : World} (h : Turn C a b) (i : Nat) (u : Value) : Turn C a (b.setCell ⟨C, i, none⟩ u) :=
  h.trans ⟨rfl, rfl, rfl, by simp [World.setCell], fun k _ hne => Below.heap_setCell _ _ _ _ (by simpa using hne)⟩

theorem Turn.drew {C : Nat} {a b : World} (h : Turn C a b) : Turn C a b.drew := ⟨h.os, h.tape, h.output, h.size, h.block⟩

theorem Turn.below {C B : Nat} {a b : World} (h : Turn C a b) (hC : B ≤ C) (hB : C < a.heap.size) : Below B a b := ⟨h.os, h.tape, h.output, h.size, fun k hk => h.block k (by omega) (by omega)⟩

theorem Turn.cellAt {C : Nat} {a b : World} (h : Turn C a b) {p : Addr} (hp : p.block < a.heap.size) (hne : p.block ≠ C) : b.cell? p = a.cell? p := World.cell?_of_block (w := a) (h.block p.block hp hne)

theorem Gr.lt {C : Nat} {w : World} {ns : List Nd} (h : Gr C w ns) : C < w.heap.size := by
  obtain ⟨cs, hc, _⟩ := h
  exact heap_lt hc

theorem Gr.count {C : Nat} {w : World} {ns : List Nd} (h : Gr C w ns) : w.cell? ⟨C, 427, none⟩ = some (.int .i64 ns.length) := by
  obtain ⟨cs, hc, _, h1, _⟩ := h
  rw [cell_of_block hc]
  exact h1

theorem Gr.le {C : Nat} {w : World} {ns : List Nd} (h : Gr C w ns) : ns.length ≤ 61 := by
  obtain ⟨cs, hc, _, _, h2, _⟩ := h
  exact h2.1

theorem Gr.frozen {C : Nat} {w : World} {ns : List Nd} (h : Gr C w ns) (j : Nat) : w.frozen? ⟨C, j, none⟩ = false := by
  obtain ⟨cs, hc, _⟩ := h
  exact frozen_of_block hc j

theorem Gr.kept {C : Nat} {w w' : World} {ns : List Nd} (h : Gr C w ns) (hb : w'.heap[C]? = w.heap[C]?) : Gr C w' ns := by
  obtain ⟨cs, hc, r⟩ := h
  exact ⟨cs, hb.trans hc, r⟩

theorem Gr.drew {C : Nat} {w : World} {ns : List Nd} (h : Gr C w ns) : Gr C w.drew ns := h

theorem Gr.alloc {C : Nat} {w : World} {ns : List Nd} (h : Gr C w ns) (o : Obj) : Gr C (w.alloc o) ns := h.kept (Below.heap_alloc _ _ C h.lt)

theorem Gr.node {C : Nat} {w : World} {ns : List Nd} {k : Nat} {d : Nd} (h : Gr C w ns) (hd : ns[k]? = some d) : w.cell? ⟨C, k * 7 + 6, none⟩ = some (.int .i64 d.next.length) ∧ (∀ j v, d.next[j]? = some v → w.cell? ⟨C, k * 7 + 4 + j, none⟩ = some (.int .i64 v)) ∧ d.next.length ≤ 2 ∧
    w.cell? ⟨C, k * 7, none⟩ = some (.int .i64 d.op) ∧ w.cell? ⟨C, k * 7 + 1, none⟩ = some (.int .i64 d.x) ∧ w.cell? ⟨C, k * 7 + 2, none⟩ = some (.int .i64 d.y) ∧ w.cell? ⟨C, k * 7 + 3, none⟩ = some (.int .i64 d.n) := by
  obtain ⟨cs, hc, _, _, _, hn⟩ := h
  have a := hn k d hd
  refine ⟨?_, fun j v hv => ?_, a.two, ?_, ?_, ?_, ?_⟩
  · rw [cell_of_block hc]; exact a.ways
  · rw [cell_of_block hc]; exact a.next j v hv
  · rw [cell_of_block hc]; exact a.op
  · rw [cell_of_block hc]; exact a.x
  · rw [cell_of_block hc]; exact a.y
  · rw [cell_of_block hc]; exact a.n

/-- Every cell of the graph holds something. -/
theorem Gr.some_ {C : Nat} {w : World} {ns : List Nd} (h : Gr C w ns) {j : Nat} (hj : j < 428) : ∃ u, w.cell? ⟨C, j, none⟩ = some u := by
  obtain ⟨cs, hc, hz, _⟩ := h
  exact ⟨cs[j], by rw [cell_of_block hc]; exact Array.getElem?_eq_getElem (by omega)⟩

/-- Every cell of the graph holds a number. -/
theorem Gr.int_ {C : Nat} {w : World} {ns : List Nd} (h : Gr C w ns) {j : Nat} (hj : j < 428) : ∃ v, w.cell? ⟨C, j, none⟩ = some (.int .i64 v) := by
  obtain ⟨cs, hc, hz, _, h2, _⟩ := h
  obtain ⟨v, hv⟩ := h2.2 j hj
  exact ⟨v, by rw [cell_of_block hc]; exact hv⟩

theorem ints_set {cs : Array Value} (h : ∀ j, j < 428 → ∃ v, cs[j]? = some (.int .i64 v)) (hz : cs.size = 428) (o : Nat) (u : Int) : ∀ j, j < 428 → ∃ v, (cs.setIfInBounds o (.int .i64 u))[j]? = some (.int .i64 v) := by
  intro j hj
  rw [Array.getElem?_setIfInBounds]
  by_cases e : o = j
  · rw [if_pos e, if_pos (by omega)]
    exact ⟨u, rfl⟩
  · rw [if_neg e]
    exact h j hj

/-- A node more. -/
theorem Gr.snoc {C : Nat} {w w' : World} {ns : List Nd} {d : Nd} (h : Gr C w ns) (h60 : ns.length < 61) (hd : d.next = [])
    (hw : ∀ cs, w.heap[C]? = some (.cells cs 59 (0, 0)) → w'.heap[C]? = some (.cells ((((((((cs.setIfInBounds (ns.length * 7) (.int .i64 d.op)).setIfInBounds (ns.length * 7 + 1) (.int .i64 d.x)).setIfInBounds (ns.length * 7 + 2) (.int .i64 d.y)).setIfInBounds (ns.length * 7 + 3) (.int .i64 d.n)).setIfInBounds (ns.length * 7 + 4) (.int .i64 0)).setIfInBounds (ns.length * 7 + 5) (.int .i64 0)).setIfInBounds (ns.length * 7 + 6) (.int .i64 0)).setIfInBounds 427 (.int .i64 ((ns.length : Int) + 1))) 59 (0, 0))) : Gr C w' (ns ++ [d]) := by
  obtain ⟨cs, hc, hz, hn, hl, hk⟩ := h
  have hl61 := hl.1
  have hc' := hw cs hc
  obtain ⟨a, ha⟩ : ∃ a, a = Value.int .i64 0 := ⟨_, rfl⟩
  obtain ⟨b, hb⟩ : ∃ b, b = Value.int .i64 0 := ⟨_, rfl⟩
  have he : ((((((((cs.setIfInBounds (ns.length * 7) (.int .i64 d.op)).setIfInBounds (ns.length * 7 + 1) (.int .i64 d.x)).setIfInBounds (ns.length * 7 + 2) (.int .i64 d.y)).setIfInBounds (ns.length * 7 + 3) (.int .i64 d.n)).setIfInBounds (ns.length * 7 + 4) (.int .i64 0)).setIfInBounds (ns.length * 7 + 5) (.int .i64 0)).setIfInBounds (ns.length * 7 + 6) (.int .i64 0)).setIfInBounds 427 (.int .i64 ((ns.length : Int) + 1))) = (setN cs (ns.length * 7) [.int .i64 d.op, .int .i64 d.x, .int .i64 d.y, .int .i64 d.n, a, b, .int .i64 0]).setIfInBounds 427 (.int .i64 ((ns.length + 1 : Nat) : Int)) := by
    subst ha hb
    simp only [setN, Nat.add_assoc, Int.natCast_add, Int.natCast_one]
  have hints := ints_set (ints_set (ints_set (ints_set (ints_set (ints_set (ints_set (ints_set hl.2 hz (ns.length * 7) d.op) (by simp [hz]) (ns.length * 7 + 1) d.x) (by simp [hz]) (ns.length * 7 + 2) d.y) (by simp [hz]) (ns.length * 7 + 3) d.n) (by simp [hz]) (ns.length * 7 + 4) 0) (by simp [hz]) (ns.length * 7 + 5) 0) (by simp [hz]) (ns.length * 7 + 6) 0) (by simp [hz]) 427 ((ns.length : Int) + 1)
  rw [he] at hc' hints
  refine ⟨_, hc', by simp [setN_size, hz], ?_, ⟨by simp; omega, hints⟩, fun k e he => ?_⟩
  · rw [Array.getElem?_setIfInBounds, if_pos rfl, if_pos (by simp [setN_size, hz])]
    simp
  · have hget : ∀ j, j < 427 → ((setN cs (ns.length * 7) [.int .i64 d.op, .int .i64 d.x, .int .i64 d.y, .int .i64 d.n, a, b, .int .i64 0]).setIfInBounds 427 (.int .i64 ((ns.length + 1 : Nat) : Int)))[j]? =
        if ns.length * 7 ≤ j ∧ j < ns.length * 7 + 7 then ([.int .i64 d.op, .int .i64 d.x, .int .i64 d.y, .int .i64 d.n, a, b, .int .i64 0] : List Value)[j - ns.length * 7]? else cs[j]? := by
      intro j hj
      rw [Array.getElem?_setIfInBounds, if_neg (by omega), setN_get _ _ _ _ (by simp; omega)]
      rfl
    rcases Nat.lt_or_ge k ns.length with hkl | hkl
    · rw [List.getElem?_append_left hkl] at he
      have q := hk k e he
      have q2 := q.two
      refine ⟨?_, ?_, ?_, ?_, fun j v hv => ?_, ?_, q.two⟩
      · rw [hget _ (by omega), if_neg (by omega)]; exact q.op
      · rw [hget _ (by omega), if_neg (by omega)]; exact q.x
      · rw [hget _ (by omega), if_neg (by omega)]; exact q.y
      · rw [hget _ (by omega), if_neg (by omega)]; exact q.n
      · have := (List.getElem?_eq_some_iff.1 hv).1
        rw [hget _ (by omega), if_neg (by omega)]; exact q.next j v hv
      · rw [hget _ (by omega), if_neg (by omega)]; exact q.ways
    · rw [List.getElem?_append_right hkl] at he
      have hk' : k = ns.length := by
        have := (List.getElem?_eq_some_iff.1 he).1
        simp at this
        omega
      subst hk'
      simp at he
      subst he
      refine ⟨?_, ?_, ?_, ?_, fun j v hv => ?_, ?_, by simp [hd]⟩
      · rw [hget _ (by omega), if_pos (by omega), Nat.sub_self]; rfl
      · rw [hget _ (by omega), if_pos (by omega), show ns.length * 7 + 1 - ns.length * 7 = 1 by omega]; rfl
      · rw [hget _ (by omega), if_pos (by omega), show ns.length * 7 + 2 - ns.length * 7 = 2 by omega]; rfl
      · rw [hget _ (by omega), if_pos (by omega), show ns.length * 7 + 3 - ns.length * 7 = 3 by omega]; rfl
      · rw [hd] at hv; simp at hv
      · rw [hget _ (by omega), if_pos (by omega), show ns.length * 7 + 6 - ns.length * 7 = 6 by omega, hd]; rfl

/-- A way more. -/
theorem Gr.led {C : Nat} {w w' : World} {ns : List Nd} {k : Nat} {d : Nd} {to : Int} (h : Gr C w ns) (hd : ns[k]? = some d) (h1 : d.next.length < 2)
    (hw : ∀ cs, w.heap[C]? = some (.cells cs 59 (0, 0)) → w'.heap[C]? = some (.cells ((cs.setIfInBounds (k * 7 + 4 + d.next.length) (.int .i64 to)).setIfInBounds (k * 7 + 6) (.int .i64 ((d.next.length + 1 : Nat) : Int))) 59 (0, 0))) :
    Gr C w' (ns.set k { d with next := d.next ++ [to] }) := by
  obtain ⟨cs, hc, hz, hn, hl, hk⟩ := h
  have hl61 := hl.1
  have hc' := hw cs hc
  have hkl := (List.getElem?_eq_some_iff.1 hd).1
  have hints := ints_set (ints_set hl.2 hz (k * 7 + 4 + d.next.length) to) (by simp [hz]) (k * 7 + 6) ((d.next.length + 1 : Nat) : Int)
  have hget : ∀ j, j ≠ k * 7 + 6 → j ≠ k * 7 + 4 + d.next.length → ((cs.setIfInBounds (k * 7 + 4 + d.next.length) (.int .i64 to)).setIfInBounds (k * 7 + 6) (.int .i64 ((d.next.length + 1 : Nat) : Int)))[j]? = cs[j]? := by
    intro j h1 h2
    rw [Array.getElem?_setIfInBounds, if_neg (by omega), Array.getElem?_setIfInBounds, if_neg (by omega)]
  refine ⟨_, hc', by simp [hz], ?_, ⟨by simpa using hl.1, hints⟩, fun i e he => ?_⟩
  · rw [hget _ (by omega) (by omega), List.length_set]; exact hn
  · by_cases hi : k = i
    · subst hi
      rw [List.getElem?_set_self hkl] at he
      injection he with he
      subst he
      have q := hk k d hd
      refine ⟨?_, ?_, ?_, ?_, fun j v hv => ?_, ?_, by simp; omega⟩
      · rw [hget _ (by omega) (by omega)]; exact q.op
      · rw [hget _ (by omega) (by omega)]; exact q.x
      · rw [hget _ (by omega) (by omega)]; exact q.y
      · rw [hget _ (by omega) (by omega)]; exact q.n
      · have hv' : (d.next ++ [to])[j]? = some v := hv
        rcases Nat.lt_or_ge j d.next.length with hj | hj
        · rw [List.getElem?_append_left hj] at hv'
          rw [hget _ (by omega) (by omega)]
          exact q.next j v hv'
        · rw [List.getElem?_append_right hj] at hv'
          have hj' : j = d.next.length := by
            have := (List.getElem?_eq_some_iff.1 hv').1
            simp at this
            omega
          subst hj'
          simp at hv'
          subst hv'
          rw [Array.getElem?_setIfInBounds, if_neg (by omega), Array.getElem?_setIfInBounds, if_pos rfl, if_pos (by omega)]
      · rw [Array.getElem?_setIfInBounds, if_pos rfl, if_pos (by simp; omega)]
        simp
    · rw [List.getElem?_set_ne hi] at he
      have hil := (List.getElem?_eq_some_iff.1 he).1
      have q := hk i e he
      have q2 := q.two
      refine ⟨?_, ?_, ?_, ?_, fun j v hv => ?_, ?_, q.two⟩
      · rw [hget _ (by omega) (by omega)]; exact q.op
      · rw [hget _ (by omega) (by omega)]; exact q.x
      · rw [hget _ (by omega) (by omega)]; exact q.y
      · rw [hget _ (by omega) (by omega)]; exact q.n
      · have := (List.getElem?_eq_some_iff.1 hv).1
        rw [hget _ (by omega) (by omega)]; exact q.next j v hv
      · rw [hget _ (by omega) (by omega)]; exact q.ways

end Go.Proofs.Ytcaklhempmlpgaa
