/-
  How tags and cells lie in memory: rows that are read, and rows that a call owns.
-/
import Derived.Test.YtfkoobdlhdolbaaDoorBas
import Derived.Test.YtfkoobdlhdolbaaDoorCel
namespace Go.Proofs.YtfkoobdlhdolbaaDoor
open Go.RowKit Go.Deep
set_option linter.unusedVariables false

/-! ### Rows of equal width -/
theorem flat_len {α : Type} {f : α → List Value} {s : Nat} (hf : ∀ a, (f a).length = s) : ∀ l : List α, (l.flatMap f).length = l.length * s
  | [] => by simp
  | d :: l => by rw [List.flatMap_cons, List.length_append, flat_len hf l, hf, List.length_cons, Nat.succ_mul, Nat.add_comm]

theorem flat_get {α : Type} {f : α → List Value} {s : Nat} (hf : ∀ a, (f a).length = s) : ∀ (l : List α) (j i : Nat) (d : α), l[j]? = some d → i < s → (l.flatMap f)[j * s + i]? = (f d)[i]?
  | [], j, i, d, h, _ => by simp at h
  | e :: l, 0, i, d, h, hi => by
    simp only [List.getElem?_cons_zero, Option.some.injEq] at h
    subst h
    rw [List.flatMap_cons, Nat.zero_mul, Nat.zero_add, List.getElem?_append_left (by rw [hf]; exact hi)]
  | e :: l, j + 1, i, d, h, hi => by
    rw [List.getElem?_cons_succ] at h
    rw [List.flatMap_cons, List.getElem?_append_right (by rw [hf, Nat.succ_mul]; omega), hf, show (j + 1) * s + i - s = j * s + i from by rw [Nat.succ_mul]; omega]
    exact flat_get hf l j i d h hi

theorem flat_set {α : Type} {f : α → List Value} {s : Nat} (hf : ∀ a, (f a).length = s) (A C : List α) (d : α) (X : List Value) (i : Nat) (u : Value) (hX : X.length = s) (hi : i < s) :
    (A.flatMap f ++ (X ++ C.flatMap f)).set (A.length * s + i) u = A.flatMap f ++ (X.set i u ++ C.flatMap f) := by
  have hl := flat_len hf A
  rw [List.set_append_right _ _ (by rw [hl]; omega), hl, show A.length * s + i - A.length * s = i from by omega, List.set_append_left _ _ (by rw [hX]; exact hi)]

theorem flat_mid {α : Type} {f : α → List Value} (A C : List α) (d : α) : (A ++ d :: C).flatMap f = A.flatMap f ++ (f d ++ C.flatMap f) := by
  rw [List.flatMap_append, List.flatMap_cons]

/-! ### What a call owns -/
theorem own_keep {w w' : World} {B size n : Nat} {e : TypeId} {v : Value} {xs : List Value} (h : w.ownsRow B e size v n xs) (hk : ∀ g, v.ownBlock = some g → w'.heap[g]? = w.heap[g]?) : w'.ownsRow B e size v n xs := by
  refine ⟨h.1, ?_⟩
  rcases h.2 with h | ⟨g, cap, cur, h1, h2, h3, h4⟩
  · exact .inl h
  · exact .inr ⟨g, cap, cur, h1, h2, (hk g (by rw [h1]; rfl)).trans h3, h4⟩

theorem own_below {w w' : World} {B size n : Nat} {e : TypeId} {v : Value} {xs : List Value} (h : w.ownsRow B e size v n xs) (hb : Below w.heap.size w w') : w'.ownsRow B e size v n xs :=
  own_keep h fun g hg => hb.block g (h.lt g hg).2

theorem own_mono {w : World} {B B' size n : Nat} {e : TypeId} {v : Value} {xs : List Value} (h : w.ownsRow B e size v n xs) (hb : B' ≤ B) : w.ownsRow B' e size v n xs := by
  refine ⟨h.1, ?_⟩
  rcases h.2 with h | ⟨g, cap, cur, h1, h2, h3⟩
  · exact .inl h
  · exact .inr ⟨g, cap, cur, h1, Nat.le_trans hb h2, h3⟩

theorem own_form {w : World} {B size n : Nat} {e : TypeId} {v : Value} {xs : List Value} (h : w.ownsRow B e size v n xs) : ∃ A c, v = .slice A n c ∧ n ≤ c ∧ c ≤ maxLen ∧ (0 < n → ∃ g, A = some ⟨g, 0, none⟩ ∧ B ≤ g ∧ g < w.heap.size) := by
  rcases h.2 with ⟨h1, h2⟩ | ⟨g, cap, cur, h1, h2, h3, h4, h5, _⟩
  · exact ⟨none, 0, by rw [h1, h2], by omega, by simp [maxLen], fun h => by omega⟩
  · exact ⟨_, _, h1, h4, h5, fun _ => ⟨g, rfl, h2, heap_lt h3⟩⟩

theorem _root_.Go.World.ownsRow.stored' {w : World} {base g n m cap size : Nat} {e : TypeId} {xs : List Value} (h : w.ownsRow base e size (.slice (some ⟨g, 0, none⟩) n cap) m xs) (hn : m = n) (j : Nat) (u : Value) :
    (w.setCell ⟨g, j, none⟩ u).ownsRow base e size (.slice (some ⟨g, 0, none⟩) n cap) n (xs.set j u) := by
  subst hn
  exact (h.stored j u).1

/-- Only block g changed. -/
structure One (g : Nat) (w w' : World) : Prop where
  os : w'.os = w.os
  tape : w'.tape = w.tape
  output : w'.output = w.output
  size : w'.heap.size = w.heap.size
  block : ∀ k, k ≠ g → w'.heap[k]? = w.heap[k]?
  frozen : ∀ p : Addr, w'.frozen? p = w.frozen? p

theorem One.refl (g : Nat) (w : World) : One g w w := ⟨rfl, rfl, rfl, rfl, fun _ _ => rfl, fun _ => rfl⟩

theorem One.set {g : Nat} {a b : World} (h : One g a b) (o : Nat) (x : Value) : One g a (b.setCell ⟨g, o, none⟩ x) :=
  ⟨h.os, h.tape, h.output, by rw [← h.size]; simp [World.setCell], fun k hk => (heap_setCell_other _ _ _ _ (fun e => hk e)).trans (h.block k hk), fun p => by rw [World.frozen?_setCell]; exact h.frozen p⟩

theorem One.below {g B : Nat} {a b : World} (h : One g a b) (hB : B ≤ g) : Below B a b := ⟨h.os, h.tape, h.output, Nat.le_of_eq h.size.symm, fun k hk => h.block k (by omega)⟩

theorem One.span {g lo hi : Nat} {a b : World} (h : One g a b) (hl : lo ≤ g) (hh : g < hi) : Span lo hi a b := ⟨h.os, h.tape, h.output, Nat.le_of_eq h.size.symm, fun k hk hd => h.block k (by omega)⟩

/-! ### Tags -/
def TagD.cells (t : TagD) : List Value := [.int .i64 t.id, .bool t.u]

theorem TagD.cells_length (t : TagD) : t.cells.length = 2 := rfl

/-- A value is a row of tags that the call owns. -/
def RowT (w : World) (B : Nat) (v : Value) (ts : List TagD) : Prop := w.ownsRow B 35 2 v ts.length (ts.flatMap TagD.cells)

/-- A value reads as a row of tags. -/
def RdT (w : World) (v : Value) (ts : List TagD) : Prop :=
  ∃ A c, v = .slice A ts.length c ∧ ts.length ≤ c ∧ c ≤ maxLen ∧ (0 < ts.length → ∃ b, A = some b ∧ b.block < w.heap.size ∧ ∀ k d, ts[k]? = some d →
    w.cell? (b.add (k * 2)) = some (.int .i64 d.id) ∧ w.cell? ⟨(b.add (k * 2)).block, (b.add (k * 2)).off + 1, none⟩ = some (.bool d.u))

theorem RdT.below {w w' : World} {v : Value} {ts : List TagD} (h : RdT w v ts) (hb : Below w.heap.size w w') : RdT w' v ts := by
  obtain ⟨A, c, h1, h2, h3, h4⟩ := h
  refine ⟨A, c, h1, h2, h3, fun h0 => ?_⟩
  obtain ⟨b, h5, h6, h7⟩ := h4 h0
  refine ⟨b, h5, Nat.lt_of_lt_of_le h6 hb.size, fun k d hd => ?_⟩
  obtain ⟨c0, c1⟩ := h7 k d hd
  exact ⟨(hb.cell (by rw [block_add]; exact h6)).trans c0, (hb.cell (by show (b.add (k * 2)).block < _; rw [block_add]; exact h6)).trans c1⟩

theorem RdT.keep {w w' : World} {v : Value} {ts : List TagD} (h : RdT w v ts) (hs : w.heap.size ≤ w'.heap.size) (hk : ∀ g, v.ownBlock = some g → w'.heap[g]? = w.heap[g]?) : RdT w' v ts := by
  obtain ⟨A, c, h1, h2, h3, h4⟩ := h
  refine ⟨A, c, h1, h2, h3, fun h0 => ?_⟩
  obtain ⟨b, h5, h6, h7⟩ := h4 h0
  have hk' := hk b.block (by rw [h1, h5]; rfl)
  refine ⟨b, h5, Nat.lt_of_lt_of_le h6 hs, fun k d hd => ?_⟩
  obtain ⟨c0, c1⟩ := h7 k d hd
  exact ⟨(World.cell?_of_block (by rw [block_add]; exact hk')).trans c0, (World.cell?_of_block (by show w'.heap[(b.add (k * 2)).block]? = w.heap[(b.add (k * 2)).block]?; rw [block_add]; exact hk')).trans c1⟩

theorem RowT.reads {w : World} {B : Nat} {v : Value} {ts : List TagD} (h : RowT w B v ts) : RdT w v ts := by
  obtain ⟨A, c, hv, hc1, hc2, hA⟩ := own_form h
  refine ⟨A, c, hv, hc1, hc2, fun h0 => ?_⟩
  obtain ⟨g, rfl, hB, hg⟩ := hA h0
  refine ⟨_, rfl, hg, fun k d hd => ?_⟩
  have hc : ∀ i u, i < 2 → d.cells[i]? = some u → w.cell? ⟨g, k * 2 + i, none⟩ = some u := fun i u hi hu => by
    have := World.ownsRow.cells h (g := g) (by rw [hv]; rfl) (k * 2 + i) u (by rw [flat_get TagD.cells_length ts k i d hd hi]; exact hu)
    rwa [add_block, Nat.zero_add] at this
  rw [add_block, Nat.zero_add]
  exact ⟨hc 0 _ (by omega) rfl, hc 1 _ (by omega) rfl⟩

/-! ### Cells -/
/-- The cells of memory of a cell whose stack lies at a value. -/
def crow (p : CellD × Value) : List Value := [.int .i64 p.1.val, .bool p.1.alive, .int .i64 p.1.next, p.2]

theorem crow_length (p : CellD × Value) : (crow p).length = 4 := rfl

/-- A value reads as a row of cells. -/
def RdC (w : World) (v : Value) (cs : List CellD) : Prop :=
  ∃ A c, v = .slice A cs.length c ∧ cs.length ≤ c ∧ c ≤ maxLen ∧ (0 < cs.length → ∃ b, A = some b ∧ b.block < w.heap.size ∧ ∀ k d, cs[k]? = some d → ∃ u,
    (w.cell? (b.add (k * 4)) = some (.int .i64 d.val) ∧ w.cell? ⟨(b.add (k * 4)).block, (b.add (k * 4)).off + 1, none⟩ = some (.bool d.alive) ∧ w.cell? ⟨(b.add (k * 4)).block, (b.add (k * 4)).off + 2, none⟩ = some (.int .i64 d.next) ∧
      w.cell? ⟨(b.add (k * 4)).block, (b.add (k * 4)).off + 3, none⟩ = some u) ∧ RdT w u d.tags)

theorem RdC.below {w w' : World} {v : Value} {cs : List CellD} (h : RdC w v cs) (hb : Below w.heap.size w w') : RdC w' v cs := by
  obtain ⟨A, c, h1, h2, h3, h4⟩ := h
  refine ⟨A, c, h1, h2, h3, fun h0 => ?_⟩
  obtain ⟨b, h5, h6, h7⟩ := h4 h0
  have hk : ∀ (k o : Nat), w'.cell? ⟨(b.add (k * 4)).block, o, none⟩ = w.cell? ⟨(b.add (k * 4)).block, o, none⟩ := fun k o => hb.cell (by show (b.add (k * 4)).block < _; rw [block_add]; exact h6)
  refine ⟨b, h5, Nat.lt_of_lt_of_le h6 hb.size, fun k d hd => ?_⟩
  obtain ⟨u, ⟨c0, c1, c2, c3⟩, ht⟩ := h7 k d hd
  exact ⟨u, ⟨(hb.cell (by rw [block_add]; exact h6)).trans c0, (hk k _).trans c1, (hk k _).trans c2, (hk k _).trans c3⟩, ht.below hb⟩

/-- Stacks in blocks of their own. -/
def Apart (rs : List (CellD × Value)) : Prop := ∀ (i j : Nat) (p q : CellD × Value) (a b : Nat), i ≠ j → rs[i]? = some p → rs[j]? = some q → p.2.ownBlock = some a → q.2.ownBlock = some b → a ≠ b

/-- A value is a row of cells that the call owns, with their stacks at these values. -/
structure RowU (w : World) (B : Nat) (v : Value) (rs : List (CellD × Value)) : Prop where
  own : w.ownsRow B 33 4 v rs.length (rs.flatMap crow)
  tags : ∀ (j : Nat) (p : CellD × Value), rs[j]? = some p → RowT w B p.2 p.1.tags
  apart : Apart rs

/-- A value is a row of cells that the call owns. -/
def RowC (w : World) (B : Nat) (v : Value) (cs : List CellD) : Prop := ∃ rs, rs.map Prod.fst = cs ∧ RowU w B v rs

theorem RowU.rowC {w : World} {B : Nat} {v : Value} {rs : List (CellD × Value)} (h : RowU w B v rs) : RowC w B v (rs.map Prod.fst) := ⟨rs, rfl, h⟩

theorem RowU.below {w w' : World} {B : Nat} {v : Value} {rs : List (CellD × Value)} (h : RowU w B v rs) (hb : Below w.heap.size w w') : RowU w' B v rs :=
  ⟨own_below h.own hb, fun j p hp => own_below (h.tags j p hp) hb, h.apart⟩

theorem RowU.mono {w : World} {B B' : Nat} {v : Value} {rs : List (CellD × Value)} (h : RowU w B v rs) (hb : B' ≤ B) : RowU w B' v rs :=
  ⟨own_mono h.own hb, fun j p hp => own_mono (h.tags j p hp) hb, h.apart⟩

theorem RowU.span {w w' : World} {lo hi B : Nat} {v : Value} {rs : List (CellD × Value)} (h : RowU w B v rs) (hS : Span lo hi w w') (hd : hi ≤ B ∨ w.heap.size ≤ lo) : RowU w' B v rs :=
  ⟨own_keep h.own fun g hg => hS.block g (h.own.lt g hg).2 (by have := h.own.lt g hg; omega), fun j p hp => own_keep (h.tags j p hp) fun g hg => hS.block g (World.ownsRow.lt (h.tags j p hp) g hg).2 (by have := World.ownsRow.lt (h.tags j p hp) g hg; omega), h.apart⟩

theorem RowC.below {w w' : World} {B : Nat} {v : Value} {cs : List CellD} (h : RowC w B v cs) (hb : Below w.heap.size w w') : RowC w' B v cs := by
  obtain ⟨rs, h1, h2⟩ := h
  exact ⟨rs, h1, h2.below hb⟩

theorem RowC.mono {w : World} {B B' : Nat} {v : Value} {cs : List CellD} (h : RowC w B v cs) (hb : B' ≤ B) : RowC w B' v cs := by
  obtain ⟨rs, h1, h2⟩ := h
  exact ⟨rs, h1, h2.mono hb⟩

/-- The blocks of a row: its own and those of its stacks. -/
theorem RowU.notTag {w : World} {B g : Nat} {v : Value} {rs : List (CellD × Value)} (h : RowU w B v rs) (hg : v.ownBlock = some g) (j : Nat) (p : CellD × Value) (hp : rs[j]? = some p) : p.2.ownBlock ≠ some g := by
  intro e
  obtain ⟨cur, hc⟩ := ownBlock_row h.own g hg
  obtain ⟨cur', hc'⟩ := ownBlock_row (h.tags j p hp) g e
  rw [hc] at hc'
  injection hc' with hc'
  injection hc' with _ hc' _
  exact absurd hc' (by decide)

theorem RowU.reads {w : World} {B : Nat} {v : Value} {rs : List (CellD × Value)} (h : RowU w B v rs) : RdC w v (rs.map Prod.fst) := by
  obtain ⟨A, c, hv, hc1, hc2, hA⟩ := own_form h.own
  refine ⟨A, c, by rw [List.length_map]; exact hv, by rw [List.length_map]; exact hc1, hc2, fun h0 => ?_⟩
  rw [List.length_map] at h0
  obtain ⟨g, rfl, hB, hg⟩ := hA h0
  refine ⟨_, rfl, hg, fun k d hd => ?_⟩
  rw [List.getElem?_map] at hd
  obtain ⟨p, hp, rfl⟩ := Option.map_eq_some_iff.1 hd
  have hc : ∀ i u, i < 4 → (crow p)[i]? = some u → w.cell? ⟨g, k * 4 + i, none⟩ = some u := fun i u hi hu => by
    have := World.ownsRow.cells h.own (g := g) (by rw [hv]; rfl) (k * 4 + i) u (by rw [flat_get crow_length rs k i p hp hi]; exact hu)
    rwa [add_block, Nat.zero_add] at this
  rw [add_block, Nat.zero_add]
  exact ⟨p.2, ⟨hc 0 _ (by omega) rfl, hc 1 _ (by omega) rfl, hc 2 _ (by omega) rfl, hc 3 _ (by omega) rfl⟩, RowT.reads (h.tags k p hp)⟩

theorem RowC.reads {w : World} {B : Nat} {v : Value} {cs : List CellD} (h : RowC w B v cs) : RdC w v cs := by
  obtain ⟨rs, rfl, h2⟩ := h
  exact h2.reads

theorem RowC.form {w : World} {B : Nat} {v : Value} {cs : List CellD} (h : RowC w B v cs) : ∃ A c, v = .slice A cs.length c ∧ cs.length ≤ c ∧ c ≤ maxLen := by
  obtain ⟨A, c, h1, h2, h3, _⟩ := h.reads
  exact ⟨A, c, h1, h2, h3⟩

theorem RdT.elem {w : World} {A : Option Addr} {n c : Nat} {ts : List TagD} (h : RdT w (.slice A n c) ts) {k : Nat} (hk : k < ts.length) :
    ∃ b id u, A = some b ∧ b.block < w.heap.size ∧ ts[k]? = some ⟨id, u⟩ ∧ w.cell? (b.add (k * 2)) = some (.int .i64 id) ∧ w.cell? ⟨(b.add (k * 2)).block, (b.add (k * 2)).off + 1, none⟩ = some (.bool u) := by
  obtain ⟨A', c', h1, h2, h3, h4⟩ := h
  obtain ⟨b, h5, h6, h7⟩ := h4 (by omega)
  injection h1 with e1 e2 e3
  subst e1
  obtain ⟨c0, c1⟩ := h7 k _ (List.getElem?_eq_getElem hk)
  exact ⟨b, (ts[k]).id, (ts[k]).u, h5, h6, List.getElem?_eq_getElem hk, c0, c1⟩

theorem RdT.len {w : World} {A : Option Addr} {n c : Nat} {ts : List TagD} (h : RdT w (.slice A n c) ts) : n = ts.length ∧ n ≤ c ∧ c ≤ maxLen := by
  obtain ⟨A', c', h1, h2, h3, h4⟩ := h
  injection h1 with e1 e2 e3
  subst e2 e3
  exact ⟨rfl, h2, h3⟩

theorem RdC.len {w : World} {A : Option Addr} {n c : Nat} {cs : List CellD} (h : RdC w (.slice A n c) cs) : n = cs.length ∧ n ≤ c ∧ c ≤ maxLen := by
  obtain ⟨A', c', h1, h2, h3, h4⟩ := h
  injection h1 with e1 e2 e3
  subst e2 e3
  exact ⟨rfl, h2, h3⟩

theorem RdC.elem {w : World} {A : Option Addr} {n c : Nat} {cs : List CellD} (h : RdC w (.slice A n c) cs) {k : Nat} (hk : k < cs.length) :
    ∃ b val al nx ts Au cu, A = some b ∧ b.block < w.heap.size ∧ cs[k]? = some ⟨val, al, nx, ts⟩ ∧ (w.cell? (b.add (k * 4)) = some (.int .i64 val) ∧ w.cell? ⟨(b.add (k * 4)).block, (b.add (k * 4)).off + 1, none⟩ = some (.bool al) ∧
      w.cell? ⟨(b.add (k * 4)).block, (b.add (k * 4)).off + 2, none⟩ = some (.int .i64 nx) ∧ w.cell? ⟨(b.add (k * 4)).block, (b.add (k * 4)).off + 3, none⟩ = some (.slice Au ts.length cu)) ∧ RdT w (.slice Au ts.length cu) ts ∧ ts.length ≤ cu ∧ cu ≤ maxLen := by
  obtain ⟨A', c', h1, h2, h3, h4⟩ := h
  obtain ⟨b, h5, h6, h7⟩ := h4 (by omega)
  injection h1 with e1 e2 e3
  subst e1
  obtain ⟨u, ⟨c0, c1, c2, c3⟩, ht⟩ := h7 k _ (List.getElem?_eq_getElem hk)
  obtain ⟨Au, cu, hu, t1, t2, _⟩ := id ht
  rw [hu] at c3 ht
  exact ⟨b, (cs[k]).val, (cs[k]).alive, (cs[k]).next, (cs[k]).tags, Au, cu, h5, h6, List.getElem?_eq_getElem hk, ⟨c0, c1, c2, c3⟩, ht, t1, t2⟩

theorem mid_get {α : Type} {A C : List α} {p q r : α} {j : Nat} (h : (A ++ q :: C)[j]? = some r) : (j = A.length ∧ r = q) ∨ (j ≠ A.length ∧ (A ++ p :: C)[j]? = some r) := by
  rcases Nat.lt_trichotomy j A.length with hj | hj | hj
  · rw [List.getElem?_append_left hj] at h ⊢
    exact .inr ⟨by omega, h⟩
  · subst hj
    simp at h
    exact .inl ⟨rfl, h.symm⟩
  · rw [List.getElem?_append_right (by omega)] at h ⊢
    obtain ⟨m, hm⟩ : ∃ m, j - A.length = m + 1 := ⟨j - A.length - 1, by omega⟩
    rw [hm, List.getElem?_cons_succ] at h ⊢
    exact .inr ⟨by omega, h⟩

/-- What a value owns changed at most. -/
structure OneV (v : Value) (w w' : World) : Prop where
  os : w'.os = w.os
  tape : w'.tape = w.tape
  output : w'.output = w.output
  size : w'.heap.size = w.heap.size
  block : ∀ k, v.ownBlock ≠ some k → w'.heap[k]? = w.heap[k]?

theorem OneV.of_one {g n c : Nat} {w w' : World} (h : One g w w') : OneV (.slice (some ⟨g, 0, none⟩) n c) w w' := ⟨h.os, h.tape, h.output, h.size, fun k hk => h.block k fun e => hk (by rw [e]; rfl)⟩

theorem OneV.refl (v : Value) (w : World) : OneV v w w := ⟨rfl, rfl, rfl, rfl, fun _ _ => rfl⟩

/-- Other tags in the place of one's stack. -/
theorem RowU.retag {w w' : World} {B : Nat} {v : Value} {A C : List (CellD × Value)} {p : CellD × Value} (h : RowU w B v (A ++ p :: C)) (hO : OneV p.2 w w') (ts : List TagD) (ht : RowT w' B p.2 ts) :
    RowU w' B v (A ++ ({ p.1 with tags := ts }, p.2) :: C) := by
  have hpm : (A ++ p :: C)[A.length]? = some p := by simp
  refine ⟨?_, fun j q hq => ?_, ?_⟩
  · have h1 := own_keep (w' := w') h.own fun g hg => hO.block g fun e => h.notTag hg A.length p hpm e
    rw [flat_mid] at h1 ⊢
    simpa [crow] using h1
  · rcases mid_get (p := p) hq with ⟨_, rfl⟩ | ⟨hj, hq'⟩
    · exact ht
    · exact own_keep (h.tags j q hq') fun g hg => hO.block g fun e => h.apart j A.length q p g g hj hq' hpm hg e rfl
  · intro i j q r a b hij hq hr ha hb
    have hs : ∀ (m : Nat) (z : CellD × Value), (A ++ (({ p.1 with tags := ts } : CellD), p.2) :: C)[m]? = some z → ∃ z', (A ++ p :: C)[m]? = some z' ∧ z'.2 = z.2 := by
      intro m z hz
      rcases mid_get (p := p) hz with ⟨rfl, rfl⟩ | ⟨_, hz'⟩
      · exact ⟨p, hpm, rfl⟩
      · exact ⟨z, hz', rfl⟩
    obtain ⟨q', q1, q2⟩ := hs i q hq
    obtain ⟨r', r1, r2⟩ := hs j r hr
    exact h.apart i j q' r' a b hij q1 r1 (by rw [q2]; exact ha) (by rw [r2]; exact hb)

/-- Another cell in the place of one. -/
theorem RowU.upd {w w' : World} {B g n cap : Nat} {A C : List (CellD × Value)} {p q : CellD × Value} (h : RowU w B (.slice (some ⟨g, 0, none⟩) n cap) (A ++ p :: C)) (hn : (A ++ p :: C).length = n) (hO : One g w w')
    (ho : w'.ownsRow B 33 4 (.slice (some ⟨g, 0, none⟩) n cap) n (A.flatMap crow ++ (crow q ++ C.flatMap crow))) (ht : RowT w B q.2 q.1.tags)
    (hf : ∀ (j : Nat) (r : CellD × Value) (a : Nat), j ≠ A.length → (A ++ p :: C)[j]? = some r → r.2.ownBlock = some a → q.2.ownBlock ≠ some a) :
    RowU w' B (.slice (some ⟨g, 0, none⟩) n cap) (A ++ q :: C) := by
  subst hn
  obtain ⟨cur, hcur⟩ := ownBlock_row h.own g rfl
  have hne : ∀ (v : Value) (ts : List TagD), RowT w B v ts → v.ownBlock ≠ some g := by
    intro v ts hv e
    obtain ⟨cur', hc'⟩ := ownBlock_row hv g e
    rw [hcur] at hc'
    injection hc' with hc'
    injection hc' with _ hc' _
    exact absurd hc' (by decide)
  have hkeep : ∀ (v : Value) (ts : List TagD), RowT w B v ts → RowT w' B v ts := fun v ts hv => own_keep hv fun k hk => hO.block k fun e => by subst e; exact hne v ts hv hk
  refine ⟨?_, fun j r hr => ?_, ?_⟩
  · rw [flat_mid]
    have hl : (A ++ q :: C).length = (A ++ p :: C).length := by simp
    rw [hl]
    exact ho
  · rcases mid_get (p := p) hr with ⟨_, rfl⟩ | ⟨hj, hr'⟩
    · exact hkeep _ _ ht
    · exact hkeep _ _ (h.tags j r hr')
  · intro i j r s a b hij hr hs ha hb
    rcases mid_get (p := p) hr with ⟨hi1, rfl⟩ | ⟨hi1, hr'⟩
    · rcases mid_get (p := p) hs with ⟨hj1, rfl⟩ | ⟨hj1, hs'⟩
      · omega
      · intro e
        subst e
        exact hf j s a hj1 hs' hb ha
    · rcases mid_get (p := p) hs with ⟨hj1, rfl⟩ | ⟨hj1, hs'⟩
      · intro e
        subst e
        exact hf i r a hi1 hr' ha hb
      · exact h.apart i j r s a b hij hr' hs' ha hb

/-- A store of another first, second or third cell of memory. -/
theorem RowU.put {w : World} {B g n cap : Nat} {A C : List (CellD × Value)} {p : CellD × Value} (h : RowU w B (.slice (some ⟨g, 0, none⟩) n cap) (A ++ p :: C)) (hn : (A ++ p :: C).length = n) (d : CellD) (i : Nat) (u : Value) (hi : i < 4) (ht : d.tags = p.1.tags) (hx : (crow p).set i u = crow (d, p.2)) :
    RowU (w.setCell ⟨g, A.length * 4 + i, none⟩ u) B (.slice (some ⟨g, 0, none⟩) n cap) (A ++ (d, p.2) :: C) ∧ One g w (w.setCell ⟨g, A.length * 4 + i, none⟩ u) := by
  have hpm : (A ++ p :: C)[A.length]? = some p := by simp
  have hO := (One.refl g w).set (A.length * 4 + i) u
  have h1 := (h.own.stored' hn (A.length * 4 + i) u)
  rw [flat_mid, flat_set crow_length A C p (crow p) i u (crow_length p) hi, hx] at h1
  refine ⟨h.upd hn hO h1 ?_ ?_, hO⟩
  · have := h.tags A.length p hpm
    rwa [← ht] at this
  · intro j r a hj hr ha e
    exact h.apart j A.length r p a a hj hr hpm ha e rfl

/-- A store of a whole cell, whose stack is new. -/
theorem RowU.put4 {w : World} {B g n cap : Nat} {A C : List (CellD × Value)} {p q : CellD × Value} (h : RowU w B (.slice (some ⟨g, 0, none⟩) n cap) (A ++ p :: C)) (hn : (A ++ p :: C).length = n) (ht : RowT w B q.2 q.1.tags)
    (hf : ∀ (j : Nat) (r : CellD × Value) (a : Nat), j ≠ A.length → (A ++ p :: C)[j]? = some r → r.2.ownBlock = some a → q.2.ownBlock ≠ some a) :
    RowU ((((w.setCell ⟨g, A.length * 4, none⟩ (.int .i64 q.1.val)).setCell ⟨g, A.length * 4 + 1, none⟩ (.bool q.1.alive)).setCell ⟨g, A.length * 4 + 2, none⟩ (.int .i64 q.1.next)).setCell ⟨g, A.length * 4 + 3, none⟩ q.2) B (.slice (some ⟨g, 0, none⟩) n cap) (A ++ q :: C) ∧
    One g w ((((w.setCell ⟨g, A.length * 4, none⟩ (.int .i64 q.1.val)).setCell ⟨g, A.length * 4 + 1, none⟩ (.bool q.1.alive)).setCell ⟨g, A.length * 4 + 2, none⟩ (.int .i64 q.1.next)).setCell ⟨g, A.length * 4 + 3, none⟩ q.2) := by
  have hO := ((((One.refl g w).set (A.length * 4) (.int .i64 q.1.val)).set (A.length * 4 + 1) (.bool q.1.alive)).set (A.length * 4 + 2) (.int .i64 q.1.next)).set (A.length * 4 + 3) q.2
  have h1 := h.own.stored' hn (A.length * 4 + 0) (.int .i64 q.1.val)
  rw [flat_mid, flat_set crow_length A C p (crow p) 0 _ (crow_length p) (by omega)] at h1
  have h2 := (h1.stored (A.length * 4 + 1) (.bool q.1.alive)).1
  rw [flat_set crow_length A C p _ 1 _ (by simp [crow]) (by omega)] at h2
  have h3 := (h2.stored (A.length * 4 + 2) (.int .i64 q.1.next)).1
  rw [flat_set crow_length A C p _ 2 _ (by simp [crow]) (by omega)] at h3
  have h4 := (h3.stored (A.length * 4 + 3) q.2).1
  rw [flat_set crow_length A C p _ 3 _ (by simp [crow]) (by omega)] at h4
  exact ⟨h.upd hn hO (by simpa [crow] using h4) ht hf, hO⟩

/-- A store of another stack, which is new. -/
theorem RowU.putStack {w : World} {B g n cap : Nat} {A C : List (CellD × Value)} {p : CellD × Value} {ts : List TagD} {u : Value} (h : RowU w B (.slice (some ⟨g, 0, none⟩) n cap) (A ++ p :: C)) (hn : (A ++ p :: C).length = n) (ht : RowT w B u ts)
    (hf : ∀ (j : Nat) (r : CellD × Value) (a : Nat), j ≠ A.length → (A ++ p :: C)[j]? = some r → r.2.ownBlock = some a → u.ownBlock ≠ some a) :
    RowU (w.setCell ⟨g, A.length * 4 + 3, none⟩ u) B (.slice (some ⟨g, 0, none⟩) n cap) (A ++ ({ p.1 with tags := ts }, u) :: C) ∧ One g w (w.setCell ⟨g, A.length * 4 + 3, none⟩ u) := by
  have hO := (One.refl g w).set (A.length * 4 + 3) u
  have h1 := h.own.stored' hn (A.length * 4 + 3) u
  rw [flat_mid, flat_set crow_length A C p (crow p) 3 u (crow_length p) (by omega)] at h1
  exact ⟨h.upd (q := ({ p.1 with tags := ts }, u)) hn hO (by simpa [crow] using h1) ht hf, hO⟩

/-- A store of another tag. -/
theorem RowT.put2 {w : World} {B g n cap : Nat} {A C : List TagD} {p : TagD} (h : RowT w B (.slice (some ⟨g, 0, none⟩) n cap) (A ++ p :: C)) (hn : (A ++ p :: C).length = n) (q : TagD) :
    RowT ((w.setCell ⟨g, A.length * 2, none⟩ (.int .i64 q.id)).setCell ⟨g, A.length * 2 + 1, none⟩ (.bool q.u)) B (.slice (some ⟨g, 0, none⟩) n cap) (A ++ q :: C) ∧
    One g w ((w.setCell ⟨g, A.length * 2, none⟩ (.int .i64 q.id)).setCell ⟨g, A.length * 2 + 1, none⟩ (.bool q.u)) := by
  have hO := ((One.refl g w).set (A.length * 2) (.int .i64 q.id)).set (A.length * 2 + 1) (.bool q.u)
  have h1 := World.ownsRow.stored' h hn (A.length * 2 + 0) (.int .i64 q.id)
  rw [flat_mid, flat_set TagD.cells_length A C p p.cells 0 _ p.cells_length (by omega)] at h1
  have h2 := (h1.stored (A.length * 2 + 1) (.bool q.u)).1
  rw [flat_set TagD.cells_length A C p _ 1 _ (by simp [TagD.cells]) (by omega)] at h2
  refine ⟨?_, hO⟩
  unfold RowT
  have hl : (A ++ q :: C).length = n := by rw [← hn]; simp
  rw [hl, flat_mid]
  simpa [TagD.cells] using h2

/-! ### Rows between two block numbers -/
/-- All blocks of a row lie below hi. -/
def InU (hi : Nat) (v : Value) (rs : List (CellD × Value)) : Prop := (∀ g, v.ownBlock = some g → g < hi) ∧ ∀ (j : Nat) (p : CellD × Value) (g : Nat), rs[j]? = some p → p.2.ownBlock = some g → g < hi

/-- A value is a row of cells in blocks from lo up to hi. -/
def RowCI (w : World) (lo hi : Nat) (v : Value) (cs : List CellD) : Prop := ∃ rs, rs.map Prod.fst = cs ∧ RowU w lo v rs ∧ InU hi v rs

theorem RowC.cap {w : World} {B : Nat} {v : Value} {cs : List CellD} (h : RowC w B v cs) : RowCI w B w.heap.size v cs := by
  obtain ⟨rs, h1, h2⟩ := h
  exact ⟨rs, h1, h2, fun g hg => (h2.own.lt g hg).2, fun j p g hp hg => (World.ownsRow.lt (h2.tags j p hp) g hg).2⟩

theorem RowCI.rowC {w : World} {lo hi : Nat} {v : Value} {cs : List CellD} (h : RowCI w lo hi v cs) : RowC w lo v cs := by
  obtain ⟨rs, h1, h2, _⟩ := h
  exact ⟨rs, h1, h2⟩

theorem RowCI.reads {w : World} {lo hi : Nat} {v : Value} {cs : List CellD} (h : RowCI w lo hi v cs) : RdC w v cs := h.rowC.reads

theorem RowCI.below {w w' : World} {lo hi : Nat} {v : Value} {cs : List CellD} (h : RowCI w lo hi v cs) (hb : Below w.heap.size w w') : RowCI w' lo hi v cs := by
  obtain ⟨rs, h1, h2, h3⟩ := h
  exact ⟨rs, h1, h2.below hb, h3⟩

theorem RowCI.span {w w' : World} {lo hi lo' hi' : Nat} {v : Value} {cs : List CellD} (h : RowCI w lo hi v cs) (hS : Span lo' hi' w w') (hd : hi' ≤ lo ∨ hi ≤ lo') : RowCI w' lo hi v cs := by
  obtain ⟨rs, h1, h2, h3⟩ := h
  refine ⟨rs, h1, ⟨own_keep h2.own fun g hg => hS.block g (h2.own.lt g hg).2 ?_, fun j p hp => own_keep (h2.tags j p hp) fun g hg => hS.block g (World.ownsRow.lt (h2.tags j p hp) g hg).2 ?_, h2.apart⟩, h3⟩
  · have a := h2.own.lt g hg
    have b := h3.1 g hg
    omega
  · have a := World.ownsRow.lt (h2.tags j p hp) g hg
    have b := h3.2 j p g hp hg
    omega

end Go.Proofs.YtfkoobdlhdolbaaDoor
