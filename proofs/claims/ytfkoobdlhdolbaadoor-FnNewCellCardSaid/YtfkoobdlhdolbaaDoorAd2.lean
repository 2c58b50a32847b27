/-
  Blocks that are written, and what stays.
-/
import Derived.Test.YtfkoobdlhdolbaaDoorAd1
import Derived.Deep.DeepCutAuto
namespace Go.Proofs.YtfkoobdlhdolbaaDoor
open Go.RowKit Go.Deep
set_option linter.unusedVariables false

/-- What a memory with another cell answers. -/
def AddPost (cs : List CellD) (v : Int) (q : Nat) (w : World) (E : Ending) (w' : World) : Prop := ∃ u, E = .returned (.tuple #[u, .agg #[.int .i64 (q : Int), .int .i64 0], .nilIface]) ∧ RowM w' w.heap.size u (cs ++ [⟨v, true, 1, [⟨0, true⟩]⟩]) ∧ Below w.heap.size w w'

/-- The owner's two cells, as read all along. -/
abbrev TagK (n : Nat) (w : World) : Prop := w.cell? ⟨n, 0, none⟩ = some (.int .i64 0) ∧ w.cell? ⟨n, 1, none⟩ = some (.bool true)

theorem tagK_below {n : Nat} {w w' : World} (h : TagK n w) (hb : Below w.heap.size w w') : TagK n w' :=
  ⟨(hb.cell (World.block_lt_of_cell? w _ h.1)).trans h.1, (hb.cell (World.block_lt_of_cell? w _ h.2)).trans h.2⟩

theorem tagK_set4 {n g : Nat} {w : World} (h : TagK n w) (hn : ¬ g = n) (a b c d : Value) : TagK n ((((w.setCell ⟨g, 0, none⟩ a).setCell ⟨g, 1, none⟩ b).setCell ⟨g, 2, none⟩ c).setCell ⟨g, 3, none⟩ d) := by
  have k : ∀ (w : World) (o o' : Nat) (x : Value), (w.setCell ⟨g, o, none⟩ x).cell? ⟨n, o', none⟩ = w.cell? ⟨n, o', none⟩ := fun w o o' x => World.cell?_setCell_other _ _ _ _ (fun e => hn (congrArg Addr.block e))
  exact ⟨by rw [k, k, k, k]; exact h.1, by rw [k, k, k, k]; exact h.2⟩

/-- A write into a block of another type leaves a stack as it is. -/
theorem Stk.setType {w : World} {T : TypeId} {cur : Array Value} {fr : Nat × Nat} {g : Nat} : ∀ {ts : List TagD} {hi : Nat} {p : Option Addr}, Stk w hi ts p → w.heap[g]? = some (.cells cur T fr) → T ≠ 119 → ∀ (o : Nat) (x : Value), Stk (w.setCell ⟨g, o, none⟩ x) hi ts p
  | [], _, _, h, _, _, _, _ => h
  | t :: ts, hi, p, ⟨k, pb, e1, e2, e3, e4⟩, hc, hT, o, x => by
    refine ⟨k, pb, e1, e2, ?_, Stk.setType e4 hc hT o x⟩
    rw [heap_set (by rintro rfl; rw [e3] at hc; injection hc with hc; injection hc with _ hc _; exact hT hc.symm)]
    exact e3

theorem set_keeps {w : World} {T : TypeId} {cur : Array Value} {fr : Nat × Nat} {g : Nat} (h : w.heap[g]? = some (.cells cur T fr)) (o : Nat) (x : Value) : (w.setCell ⟨g, o, none⟩ x).heap[g]? = some (.cells (cur.setIfInBounds o x) T fr) := by
  simp [World.setCell, Array.getElem?_modify, h]

/-- A write into a block of another type, below a memory's row. -/
theorem RowM.setType {w : World} {B k o : Nat} {v x : Value} {cs : List CellD} {cur : Array Value} {T : TypeId} {fr : Nat × Nat} (h : RowM w B v cs) (hk : w.heap[k]? = some (.cells cur T fr)) (hT : T ≠ 119) (hlt : k < B) : RowM (w.setCell ⟨k, o, none⟩ x) B v cs := by
  obtain ⟨rs, h1, h2⟩ := h
  refine ⟨rs, h1, own_keep h2.own fun g hg => heap_set fun e => ?_, fun j p hp => ?_⟩
  · have := (h2.own.lt g hg).1
    simp at e
    omega
  · have e : (w.setCell ⟨k, o, none⟩ x).heap.size = w.heap.size := by simp [World.setCell]
    rw [e]
    exact (h2.stk j p hp).setType hk hT o x

/-- What holds while another cell is appended: the owner, the place, and the two cells of an answer's pointer. -/
abbrev AddK (n g : Nat) (v : Int) (p : Option Addr) (w : World) : Prop := w.cell? ⟨n + 1, 0, none⟩ = some (.int .i64 0) ∧ w.cell? ⟨g, 0, none⟩ = some (.int .i64 v) ∧ w.cell? ⟨g, 1, none⟩ = some (.bool true) ∧ w.cell? ⟨g, 2, none⟩ = some (.int .i64 1) ∧ w.cell? ⟨g, 3, none⟩ = some (.pointer p) ∧
  w.cell? ⟨n, 0, none⟩ = some (held w ⟨n, 0, none⟩) ∧ w.cell? ⟨n, 1, none⟩ = some (held w ⟨n, 1, none⟩) ∧ w.frozen? ⟨n, 0, none⟩ = false ∧ w.frozen? ⟨n, 1, none⟩ = false

theorem held_cell {w w' : World} {a : Addr} (h : w'.cell? a = w.cell? a) (k : w.cell? a = some (held w a)) : w'.cell? a = some (held w' a) := by
  rw [h, k]
  unfold held
  rw [h, k]

theorem addK_below {n g : Nat} {v : Int} {p : Option Addr} {w w' : World} (h : AddK n g v p w) (hb : Below w.heap.size w w') : AddK n g v p w' := by
  obtain ⟨h1, h2, h3, h4, h5, h6, h7, h8, h9⟩ := h
  have e : ∀ {a u}, w.cell? a = some u → w'.cell? a = w.cell? a := fun k => hb.cell (World.block_lt_of_cell? w _ k)
  exact ⟨(e h1).trans h1, (e h2).trans h2, (e h3).trans h3, (e h4).trans h4, (e h5).trans h5, held_cell (e h6) h6, held_cell (e h7) h7, (hb.frozen (World.block_lt_of_cell? w _ h6)).trans h8, (hb.frozen (World.block_lt_of_cell? w _ h7)).trans h9⟩

theorem addK_far {n g : Nat} {v : Int} {p : Option Addr} {w w' : World} {row : Option Nat} (h : AddK n g v p w) (hg : w.grownBy w' row) (n0 : some n ≠ row) (n1 : some (n + 1) ≠ row) (n2 : some g ≠ row) : AddK n g v p w' := by
  obtain ⟨h1, h2, h3, h4, h5, h6, h7, h8, h9⟩ := h
  have e : ∀ {a u}, w.cell? a = some u → some a.block ≠ row → w'.cell? a = w.cell? a := fun k hn => hg.cell_far _ (World.block_lt_of_cell? w _ k) hn
  have f : ∀ {a u}, w.cell? a = some u → some a.block ≠ row → w'.frozen? a = w.frozen? a := fun {a u} k hn => by
    unfold World.frozen?
    rw [hg.block a.block (World.block_lt_of_cell? w _ k) hn]
  exact ⟨(e h1 n1).trans h1, (e h2 n2).trans h2, (e h3 n2).trans h3, (e h4 n2).trans h4, (e h5 n2).trans h5, held_cell (e h6 n0) h6, held_cell (e h7 n0) h7, (f h6 n0).trans h8, (f h7 n0).trans h9⟩

theorem addK_store {n g : Nat} {v : Int} {p : Option Addr} {w : World} (hn : ¬ n = g) (h : AddK n g v p w) (a b : Value) : AddK n g v p ((w.setCell ⟨n, 0, none⟩ a).setCell ⟨n, 1, none⟩ b) := by
  obtain ⟨h1, h2, h3, h4, h5, h6, h7, h8, h9⟩ := h
  obtain ⟨z0, z1⟩ := set_pair h6 h7 a b
  have k : ∀ {a' : Addr}, n ≠ a'.block → ((w.setCell ⟨n, 0, none⟩ a).setCell ⟨n, 1, none⟩ b).cell? a' = w.cell? a' := fun hne => (World.cell?_setCell_other _ _ _ _ (fun e => hne (congrArg Addr.block e))).trans (World.cell?_setCell_other _ _ _ _ (fun e => hne (congrArg Addr.block e)))
  refine ⟨(k (by simp)).trans h1, (k hn).trans h2, (k hn).trans h3, (k hn).trans h4, (k hn).trans h5, by unfold held; rw [z0]; rfl, by unfold held; rw [z1]; rfl, ?_, ?_⟩
  · rw [World.frozen?_setCell, World.frozen?_setCell]; exact h8
  · rw [World.frozen?_setCell, World.frozen?_setCell]; exact h9

/-- What is so behind the append. -/
theorem add_fin {wc W w3 : World} {n g q co cap g3 : Nat} {Ao : Option Addr} {v : Int} {p : Option Addr} {cs : List CellD} {rs : List (CellD × Option Addr)} (hrs : rs.map Prod.fst = cs) (hrl : rs.length = q) (hrow : RowP W wc.heap.size (.slice Ao q co) rs) (hb : Below wc.heap.size wc W) (hK : AddK n g v p W)
    (hs : Stk wc wc.heap.size [⟨0, true⟩] p) (hn : n + 1 < wc.heap.size) (hg : g < wc.heap.size) (hgr : W.grownBy w3 (Value.slice Ao q co).ownBlock) (hown : w3.ownsRow wc.heap.size 96 4 (.slice (some ⟨g3, 0, none⟩) (q + 1) cap) (q + 1) (rs.flatMap prow ++ [.int .i64 v, .bool true, .int .i64 1, .pointer p])) :
    AddK n g v p w3 ∧ Hid (RowM w3 wc.heap.size (.slice (some ⟨g3, 0, none⟩) (q + 1) cap) (cs ++ [⟨v, true, 1, [⟨0, true⟩]⟩])) ∧ Hid (Below wc.heap.size wc w3) := by
  have hlt : ∀ k, (Value.slice Ao q co).ownBlock = some k → wc.heap.size ≤ k := fun k hk => (hrow.own.lt k hk).1
  refine ⟨addK_far hK hgr (fun e => ?_) (fun e => ?_) (fun e => ?_), ⟨rs ++ [(⟨v, true, 1, [⟨0, true⟩]⟩, p)], by rw [List.map_append, hrs]; rfl, ?_⟩, hb.grown hgr hb.size hlt⟩
  · have := hlt n e.symm; omega
  · have := hlt (n + 1) e.symm; omega
  · have := hlt g e.symm; omega
  · exact RowP.snoc (p := (⟨v, true, 1, [⟨0, true⟩]⟩, p)) hrow ((hs.below hb (Nat.le_refl _)).mono hb.size) hgr (by rw [hrl]; exact hown)

theorem new_second (w : World) (a b : Obj) : (((w.alloc a).alloc b).drew).heap[w.heap.size + 1]? = some b := by
  have h := heap_alloc_new (w.alloc a) b
  rw [World.size_alloc] at h
  exact h

theorem new_first (w : World) (a b : Obj) : (((w.alloc a).alloc b).drew).heap[w.heap.size]? = some a :=
  (Below.heap_alloc _ _ _ (by simp)).trans (heap_alloc_new w a)

/-- A place's four cells are written into its block. -/
theorem put_place {w w' : World} {B g : Nat} {p : Option Addr} (hP : w'.heap[g]? = some (.cells #[.int .i64 0, .bool false, .int .i64 0, .pointer none] 96 (0, 0))) (hb : Below B w w') (hg : B ≤ g) {ts : List TagD} (hs : Stk w' w'.heap.size ts p) (v : Int) :
    ((((w'.setCell ⟨g, 0, none⟩ (.int .i64 v)).setCell ⟨g, 1, none⟩ (.bool true)).setCell ⟨g, 2, none⟩ (.int .i64 1)).setCell ⟨g, 3, none⟩ (.pointer p)).heap[g]? = some (.cells #[.int .i64 v, .bool true, .int .i64 1, .pointer p] 96 (0, 0)) ∧
    Below B w ((((w'.setCell ⟨g, 0, none⟩ (.int .i64 v)).setCell ⟨g, 1, none⟩ (.bool true)).setCell ⟨g, 2, none⟩ (.int .i64 1)).setCell ⟨g, 3, none⟩ (.pointer p)) ∧
    Stk ((((w'.setCell ⟨g, 0, none⟩ (.int .i64 v)).setCell ⟨g, 1, none⟩ (.bool true)).setCell ⟨g, 2, none⟩ (.int .i64 1)).setCell ⟨g, 3, none⟩ (.pointer p)) ((((w'.setCell ⟨g, 0, none⟩ (.int .i64 v)).setCell ⟨g, 1, none⟩ (.bool true)).setCell ⟨g, 2, none⟩ (.int .i64 1)).setCell ⟨g, 3, none⟩ (.pointer p)).heap.size ts p := by
  refine ⟨by simp [World.setCell, Array.getElem?_modify, hP], (((hb.setCell hg _).setCell hg _).setCell hg _).setCell hg _, ?_⟩
  have e : ((((w'.setCell ⟨g, 0, none⟩ (.int .i64 v)).setCell ⟨g, 1, none⟩ (.bool true)).setCell ⟨g, 2, none⟩ (.int .i64 1)).setCell ⟨g, 3, none⟩ (.pointer p)).heap.size = w'.heap.size := by simp [World.setCell]
  rw [e]
  exact Stk.setType (Stk.setType (Stk.setType (Stk.setType hs hP (by decide) _ _) (set_keeps hP _ _) (by decide) _ _) (set_keeps (set_keeps hP _ _) _ _) (by decide) _ _) (set_keeps (set_keeps (set_keeps hP _ _) _ _) _ _) (by decide) _ _

theorem alloc2_second (w : World) (a b : Obj) : ((w.alloc a).alloc b).heap[w.heap.size + 1]? = some b := by
  have h := heap_alloc_new (w.alloc a) b
  rw [World.size_alloc] at h
  exact h

theorem alloc2_first (w : World) (a b : Obj) : ((w.alloc a).alloc b).heap[w.heap.size]? = some a :=
  (Below.heap_alloc _ _ _ (by simp)).trans (heap_alloc_new w a)

end Go.Proofs.YtfkoobdlhdolbaaDoor
