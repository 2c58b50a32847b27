/-
  What a call that lengthens a row of points leaves alone.
-/
import Derived.Test.YtcaklhempmlpgaaPRow
import Derived.Deep.AppendLies
namespace Go.Proofs.Ytcaklhempmlpgaa
open Go.RowKit Go.Deep
set_option linter.unusedVariables false

/-- Nothing that was there has turned but the row that v owns; what v' owns is that row, or new. -/
def Onto (w w' : World) (v v' : Value) : Prop := w.grownBy w' v.ownBlock ∧ (v'.ownBlock = v.ownBlock ∨ ∀ g, v'.ownBlock = some g → w.heap.size ≤ g)

theorem Onto.refl (w : World) (v : Value) : Onto w w v v := ⟨⟨rfl, rfl, rfl, Nat.le_refl _, fun _ _ _ => rfl⟩, .inl rfl⟩

theorem Onto.of_below {w w' : World} (hb : Below w.heap.size w w') (v : Value) : Onto w w' v v := ⟨⟨hb.os, hb.tape, hb.output, hb.size, fun k hk _ => hb.block k hk⟩, .inl rfl⟩

theorem Onto.trans {a b c : World} {u v x : Value} (h : Onto a b u v) (k : Onto b c v x) : Onto a c u x := by
  obtain ⟨h1, h2⟩ := h
  obtain ⟨k1, k2⟩ := k
  refine ⟨⟨k1.os.trans h1.os, k1.tape.trans h1.tape, k1.output.trans h1.output, Nat.le_trans h1.size k1.size, fun i hi hne => ?_⟩, ?_⟩
  · refine (k1.block i (Nat.lt_of_lt_of_le hi h1.size) ?_).trans (h1.block i hi hne)
    rcases h2 with h2 | h2
    · rw [h2]; exact hne
    · intro e
      have := h2 i e.symm
      omega
  · rcases k2 with k2 | k2
    · rcases h2 with h2 | h2
      · exact .inl (k2.trans h2)
      · exact .inr fun g hg => h2 g (k2 ▸ hg)
    · exact .inr fun g hg => Nat.le_trans h1.size (k2 g hg)

theorem Onto.alloc {a b : World} {u v : Value} (h : Onto a b u v) (o : Obj) : Onto a (b.alloc o) u v := h.trans (.of_below ((Below.refl _ _).alloc (Nat.le_refl _) o) v)

theorem Onto.block {a b : World} {u v : Value} (h : Onto a b u v) {k : Nat} (hk : k < a.heap.size) (hne : some k ≠ u.ownBlock) : b.heap[k]? = a.heap[k]? := h.1.block k hk hne

theorem Onto.size {a b : World} {u v : Value} (h : Onto a b u v) : a.heap.size ≤ b.heap.size := h.1.size

theorem PRow.own {w : World} {B : Nat} {v : Value} {ns : List Nd} (h : PRow w B v ns) : ∀ g, v.ownBlock = some g → B ≤ g ∧ g < w.heap.size := by
  obtain ⟨xs, ho, _⟩ := h
  exact ho.lt

/-- Blocks below B stay, where the row lies from B on. -/
theorem Onto.below {w w' : World} {B : Nat} {v v' : Value} {ns : List Nd} (h : Onto w w' v v') (hP : PRow w B v ns) (hB : B ≤ w.heap.size) : Below B w w' :=
  ⟨h.1.os, h.1.tape, h.1.output, h.1.size, fun k hk => h.1.block k (by omega) fun e => by have := (hP.own k e.symm).1; omega⟩

/-- The value of a row. -/
theorem PRow.slice {w : World} {B : Nat} {v : Value} {ns : List Nd} (h : PRow w B v ns) : ∃ A c, v = .slice A ns.length c := by
  obtain ⟨xs, ho, _⟩ := h
  rcases ho.2 with ⟨hv, h0⟩ | ⟨g, cap, cur, hv, _⟩
  · exact ⟨none, 0, by rw [hv, h0]⟩
  · exact ⟨_, _, hv⟩

theorem PRow.appended {w w' : World} {B g cap : Nat} {v u : Value} {ns : List Nd} {d : Nd} {xs : List Value} (ho : w.ownsRow B 36 5 v ns.length xs) (hc : ∀ k d, ns[k]? = some d → NdIn w B xs k d)
    (hu : NextV w B u d.next) (hg : w.grownBy w' v.ownBlock) (hat : v.ownBlock = some g ∨ g = w.heap.size)
    (ho' : w'.ownsRow B 36 5 (.slice (some ⟨g, 0, none⟩) (ns.length + 1) cap) (ns.length + 1) (xs ++ [.int .i64 d.op, .int .i64 d.x, .int .i64 d.y, .int .i64 d.n, u])) :
    PRow w' B (.slice (some ⟨g, 0, none⟩) (ns.length + 1) cap) (ns ++ [d]) ∧ Onto w w' v (.slice (some ⟨g, 0, none⟩) (ns.length + 1) cap) := by
  refine ⟨PRow.snoc ho hc hu hg ho', hg, ?_⟩
  rcases hat with h | h
  · exact .inl h.symm
  · refine .inr fun k hk => ?_
    have hk' : g = k := by simpa [Value.ownBlock] using hk
    omega

theorem PRow.appended_at {w w' : World} {B g cap n : Nat} {v u : Value} {ns : List Nd} {d : Nd} {xs : List Value} (hn : Hid (ns.length = n)) (ho : w.ownsRow B 36 5 v n xs) (hc : ∀ k d, ns[k]? = some d → NdIn w B xs k d)
    (hu : NextV w B u d.next) (hg : w.grownBy w' v.ownBlock) (hat : v.ownBlock = some g ∨ g = w.heap.size)
    (ho' : w'.ownsRow B 36 5 (.slice (some ⟨g, 0, none⟩) (n + 1) cap) (n + 1) (xs ++ [.int .i64 d.op, .int .i64 d.x, .int .i64 d.y, .int .i64 d.n, u])) :
    PRow w' B (.slice (some ⟨g, 0, none⟩) (n + 1) cap) (ns ++ [d]) ∧ Onto w w' v (.slice (some ⟨g, 0, none⟩) (n + 1) cap) := by
  have := hn.out
  subst this
  exact PRow.appended ho hc hu hg hat ho'

/-- A row whose length goes by a name: its form, and its parts. -/
theorem PRow.named {w : World} {B n : Nat} {v : Value} {ns : List Nd} (h : PRow w B v ns) (hn : Hid (ns.length = n)) (h0 : 0 < n) :
    ∃ g cap, v = .slice (some ⟨g, 0, none⟩) n cap ∧ B ≤ g ∧ g < w.heap.size := by
  have := hn.out
  subst this
  obtain ⟨g, cap, hv, h1, h2, _, _⟩ := h.form h0
  exact ⟨g, cap, hv, h1, h2⟩

theorem PRow.parts {w : World} {B n : Nat} {v : Value} {ns : List Nd} (h : PRow w B v ns) (hn : Hid (ns.length = n)) :
    ∃ xs, w.ownsRow B 36 5 v n xs ∧ ∀ k d, ns[k]? = some d → NdIn w B xs k d := by
  have := hn.out
  subst this
  exact h

/-- The cell of a point's next points. -/
theorem PRow.nextCell {w : World} {B g cap n j : Nat} {A C : List Nd} {d : Nd} (h : PRow w B (.slice (some ⟨g, 0, none⟩) n cap) (A ++ d :: C)) (hn : Hid ((A ++ d :: C).length = n)) (hj : Hid (A.length = j)) :
    (∃ u, w.cell? ⟨g, j * 5 + 4, none⟩ = some u) ∧ w.frozen? ⟨g, j * 5 + 4, none⟩ = false := by
  have := hn.out
  subst this
  have := hj.out
  subst this
  obtain ⟨u, ⟨_, _, _, _, h4⟩, _⟩ := h.cells (k := A.length) (d := d) (by simp)
  exact ⟨⟨u, h4⟩, h.frozen _⟩

/-- A store of other next points. -/
theorem PRow.next_at {w : World} {B g cap n j : Nat} {u : Value} {A C : List Nd} {d : Nd} {next : List Int} (h : PRow w B (.slice (some ⟨g, 0, none⟩) n cap) (A ++ d :: C)) (hn : Hid ((A ++ d :: C).length = n)) (hj : Hid (A.length = j)) (hu : NextV w B u next) :
    PRow (w.setCell ⟨g, j * 5 + 4, none⟩ u) B (.slice (some ⟨g, 0, none⟩) n cap) (A ++ { d with next := next } :: C) ∧ Onto w (w.setCell ⟨g, j * 5 + 4, none⟩ u) (.slice (some ⟨g, 0, none⟩) n cap) (.slice (some ⟨g, 0, none⟩) n cap) := by
  have := hn.out
  subst this
  have := hj.out
  subst this
  have hd : (A ++ d :: C)[A.length]? = some d := by simp
  obtain ⟨h1, h2⟩ := h.next hd hu
  rw [Nat.mul_comm] at h1 h2
  have hs : (A ++ d :: C).set A.length { d with next := next } = A ++ { d with next := next } :: C := by simp
  rw [hs] at h1
  have hl : (A ++ { d with next := next } :: C).length = (A ++ d :: C).length := by simp
  exact ⟨h1, h2, .inl rfl⟩

/-- A store of next points that lie in a new block. -/
theorem PRow.next_new {w : World} {B g cap n j q : Nat} {A C : List Nd} {d : Nd} {next : List Int} {cs : Array Value} (h : PRow w B (.slice (some ⟨g, 0, none⟩) n cap) (A ++ d :: C)) (hn : Hid ((A ++ d :: C).length = n)) (hj : Hid (A.length = j)) (hb : B ≤ w.heap.size) (hq : next.length = q) (hcs : cs = (next.map (Value.int .i64)).toArray) :
    PRow ((w.setCell ⟨g, j * 5 + 4, none⟩ (.slice (some ⟨w.heap.size, 0, none⟩) q q)).alloc (.cells cs 3)) B (.slice (some ⟨g, 0, none⟩) n cap) (A ++ { d with next := next } :: C) ∧
      Onto w ((w.setCell ⟨g, j * 5 + 4, none⟩ (.slice (some ⟨w.heap.size, 0, none⟩) q q)).alloc (.cells cs 3)) (.slice (some ⟨g, 0, none⟩) n cap) (.slice (some ⟨g, 0, none⟩) n cap) := by
  subst hq hcs
  have hg := (h.own g rfl).2
  have he : (w.setCell ⟨g, j * 5 + 4, none⟩ (.slice (some ⟨w.heap.size, 0, none⟩) next.length next.length)).alloc (.cells (next.map (Value.int .i64)).toArray 3) = (w.alloc (.cells (next.map (Value.int .i64)).toArray 3)).setCell ⟨g, j * 5 + 4, none⟩ (.slice (some ⟨w.heap.size, 0, none⟩) next.length next.length) :=
    (World.setCell_alloc_past _ _ _ _ hg).symm
  rw [he]
  obtain ⟨h1, h2⟩ := (h.alloc (.cells (next.map (Value.int .i64)).toArray 3)).next_at hn hj (NextV.lit hb next)
  exact ⟨h1, ((Onto.refl w _).alloc _).trans h2⟩

theorem PRow.drew {w : World} {B : Nat} {v : Value} {ns : List Nd} (h : PRow w B v ns) : PRow w.drew B v ns := h

theorem Onto.drew {a b : World} {u v : Value} (h : Onto a b u v) : Onto a b.drew u v := ⟨⟨h.1.os, h.1.tape, h.1.output, h.1.size, h.1.block⟩, h.2⟩

end Go.Proofs.Ytcaklhempmlpgaa
