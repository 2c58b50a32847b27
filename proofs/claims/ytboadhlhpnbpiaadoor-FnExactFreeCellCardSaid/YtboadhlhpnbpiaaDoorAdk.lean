/-
  The program's add, where there is room: another cell.
-/
import Derived.Test.YtboadhlhpnbpiaaDoorAdd
import Derived.Deep.DeepCutAuto
namespace Go.Proofs.YtboadhlhpnbpiaaDoor
open Go.RowKit Go.Deep
set_option linter.unusedVariables false

/-- What a memory with another cell answers. -/
def AddPost (cs : List CellD) (v : Int) (q : Nat) (w : World) (E : Ending) (w' : World) : Prop := ∃ u, E = .returned (.tuple #[u, .agg #[.int .i64 (q : Int), .int .i64 0], .nilIface]) ∧ RowM w' w.heap.size u (cs ++ [⟨v, true, 1, [⟨0, true⟩]⟩]) ∧ Below w.heap.size w w'

/-- The owner's two cells, as read all along. -/
abbrev TagK (n : Nat) (w : World) : Prop := w.cell? ⟨n, 0, none⟩ = some (.int .i64 0) ∧ w.cell? ⟨n, 1, none⟩ = some (.bool true)

theorem tagK_below {n : Nat} {w w' : World} (h : TagK n w) (hb : Below w.heap.size w w') : TagK n w' :=
  ⟨(hb.cell (World.block_lt_of_cell? w _ h.1)).trans h.1, (hb.cell (World.block_lt_of_cell? w _ h.2)).trans h.2⟩

theorem tagK_set4 {n g : Nat} {w : World} (h : TagK n w) (hn : ¬ g = n) (a b c d : Value) : TagK n ((((w.setCell ⟨g, 0, none⟩ a).setCell ⟨g, 1, none⟩ b).setCell ⟨g, 2, none⟩ c).setCell ⟨g, 3, none⟩ d) := by
  have k : ∀ (w : World) (o o' : Nat) (x : Value), (w.setCell ⟨g, o, none⟩ x).cell? ⟨n, o', none⟩ = w.cell? ⟨n, o', none⟩ := fun w o o' x => World.cell?_setCell_other _ _ _ _ (fun e => hn (congrArg Addr.block e))
  exact ⟨by rw [k, k, k, k]; exact h.1, by rw [k, k, k, k]; exact h.2⟩

/-- A write into a block of another type leaves a stack as it is. -/
theorem Stk.setType {w : World} {T : TypeId} {cur : Array Value} {fr : Nat × Nat} {g : Nat} : ∀ {ts : List TagD} {hi : Nat} {p : Option Addr}, Stk w hi ts p → w.heap[g]? = some (.cells cur T fr) → T ≠ 119 → ∀ (o : Nat) (x : Value), Stk (w.setCell ⟨g, o, none⟩ x) hi ts p
  | [], _, _, h, _, _, _, _ => h
  | t :: ts, hi, p, ⟨k, pb, e1, e2, e3, e4⟩, hc, hT, o, x => by
    refine ⟨k, pb, e1, e2, ?_, Stk.setType e4 hc hT o x⟩
    rw [heap_set (by rintro rfl; rw [e3] at hc; injection hc with hc; injection hc with _ hc _; exact hT hc.symm)]
    exact e3

theorem set_keeps {w : World} {T : TypeId} {cur : Array Value} {fr : Nat × Nat} {g : Nat} (h : w.heap[g]? = some (.cells cur T fr)) (o : Nat) (x : Value) : (w.setCell ⟨g, o, none⟩ x).heap[g]? = some (.cells (cur.setIfInBounds o x) T fr) := by
  simp [World.setCell, Array.getElem?_modify, h]

/-- A write into a block of another type, below a memory's row. -/
theorem RowM.setType {w : World} {B k o : Nat} {v x : Value} {cs : List CellD} {cur : Array Value} {T : TypeId} {fr : Nat × Nat} (h : RowM w B v cs) (hk : w.heap[k]? = some (.cells cur T fr)) (hT : T ≠ 119) (hlt : k < B) : RowM (w.setCell ⟨k, o, none⟩ x) B v cs := by
  obtain ⟨rs, h1, h2⟩ := h
  refine ⟨rs, h1, own_keep h2.own fun g hg => heap_set fun e => ?_, fun j p hp => ?_⟩
  · have := (h2.own.lt g hg).1
    simp at e
    omega
  · have e : (w.setCell ⟨k, o, none⟩ x).heap.size = w.heap.size := by simp [World.setCell]
    rw [e]
    exact (h2.stk j p hp).setType hk hT o x

/-- What holds while another cell is appended: the owner, the place, and the two cells of an answer's pointer. -/
abbrev AddK (n g : Nat) (v : Int) (p : Option Addr) (w : World) : Prop := w.cell? ⟨n + 1, 0, none⟩ = some (.int .i64 0) ∧ w.cell? ⟨g, 0, none⟩ = some (.int .i64 v) ∧ w.cell? ⟨g, 1, none⟩ = some (.bool true) ∧ w.cell? ⟨g, 2, none⟩ = some (.int .i64 1) ∧ w.cell? ⟨g, 3, none⟩ = some (.pointer p) ∧
  w.cell? ⟨n, 0, none⟩ = some (held w ⟨n, 0, none⟩) ∧ w.cell? ⟨n, 1, none⟩ = some (held w ⟨n, 1, none⟩) ∧ w.frozen? ⟨n, 0, none⟩ = false ∧ w.frozen? ⟨n, 1, none⟩ = false

theorem held_cell {w w' : World} {a : Addr} (h : w'.cell? a = w.cell? a) (k : w.cell? a = some (held w a)) : w'.cell? a = some (held w' a) := by
  rw [h, k]
  unfold held
  rw [h, k]

theorem addK_below {n g : Nat} {v : Int} {p : Option Addr} {w w' : World} (h : AddK n g v p w) (hb : Below w.heap.size w w') : AddK n g v p w' := by
  obtain ⟨h1, h2, h3, h4, h5, h6, h7, h8, h9⟩ := h
  have e : ∀ {a u}, w.cell? a = some u → w'.cell? a = w.cell? a := fun k => hb.cell (World.block_lt_of_cell? w _ k)
  exact ⟨(e h1).trans h1, (e h2).trans h2, (e h3).trans h3, (e h4).trans h4, (e h5).trans h5, held_cell (e h6) h6, held_cell (e h7) h7, (hb.frozen (World.block_lt_of_cell? w _ h6)).trans h8, (hb.frozen (World.block_lt_of_cell? w _ h7)).trans h9⟩

theorem addK_far {n g : Nat} {v : Int} {p : Option Addr} {w w' : World} {row : Option Nat} (h : AddK n g v p w) (hg : w.grownBy w' row) (n0 : some n ≠ row) (n1 : some (n + 1) ≠ row) (n2 : some g ≠ row) : AddK n g v p w' := by
  obtain ⟨h1, h2, h3, h4, h5, h6, h7, h8, h9⟩ := h
  have e : ∀ {a u}, w.cell? a = some u → some a.block ≠ row → w'.cell? a = w.cell? a := fun k hn => hg.cell_far _ (World.block_lt_of_cell? w _ k) hn
  have f : ∀ {a u}, w.cell? a = some u → some a.block ≠ row → w'.frozen? a = w.frozen? a := fun {a u} k hn => by
    unfold World.frozen?
    rw [hg.block a.block (World.block_lt_of_cell? w _ k) hn]
  exact ⟨(e h1 n1).trans h1, (e h2 n2).trans h2, (e h3 n2).trans h3, (e h4 n2).trans h4, (e h5 n2).trans h5, held_cell (e h6 n0) h6, held_cell (e h7 n0) h7, (f h6 n0).trans h8, (f h7 n0).trans h9⟩

theorem addK_store {n g : Nat} {v : Int} {p : Option Addr} {w : World} (hn : ¬ n = g) (h : AddK n g v p w) (a b : Value) : AddK n g v p ((w.setCell ⟨n, 0, none⟩ a).setCell ⟨n, 1, none⟩ b) := by
  obtain ⟨h1, h2, h3, h4, h5, h6, h7, h8, h9⟩ := h
  obtain ⟨z0, z1⟩ := set_pair h6 h7 a b
  have k : ∀ {a' : Addr}, n ≠ a'.block → ((w.setCell ⟨n, 0, none⟩ a).setCell ⟨n, 1, none⟩ b).cell? a' = w.cell? a' := fun hne => (World.cell?_setCell_other _ _ _ _ (fun e => hne (congrArg Addr.block e))).trans (World.cell?_setCell_other _ _ _ _ (fun e => hne (congrArg Addr.block e)))
  refine ⟨(k (by simp)).trans h1, (k hn).trans h2, (k hn).trans h3, (k hn).trans h4, (k hn).trans h5, by unfold held; rw [z0]; rfl, by unfold held; rw [z1]; rfl, ?_, ?_⟩
  · rw [World.frozen?_setCell, World.frozen?_setCell]; exact h8
  · rw [World.frozen?_setCell, World.frozen?_setCell]; exact h9

/-- What is so behind the append. -/
theorem add_fin {wc W w3 : World} {n g q co cap g3 : Nat} {Ao : Option Addr} {v : Int} {p : Option Addr} {cs : List CellD} {rs : List (CellD × Option Addr)} (hrs : rs.map Prod.fst = cs) (hrl : rs.length = q) (hrow : RowP W wc.heap.size (.slice Ao q co) rs) (hb : Below wc.heap.size wc W) (hK : AddK n g v p W)
    (hs : Stk wc wc.heap.size [⟨0, true⟩] p) (hn : n + 1 < wc.heap.size) (hg : g < wc.heap.size) (hgr : W.grownBy w3 (Value.slice Ao q co).ownBlock) (hown : w3.ownsRow wc.heap.size 99 4 (.slice (some ⟨g3, 0, none⟩) (q + 1) cap) (q + 1) (rs.flatMap prow ++ [.int .i64 v, .bool true, .int .i64 1, .pointer p])) :
    AddK n g v p w3 ∧ Hid (RowM w3 wc.heap.size (.slice (some ⟨g3, 0, none⟩) (q + 1) cap) (cs ++ [⟨v, true, 1, [⟨0, true⟩]⟩])) ∧ Hid (Below wc.heap.size wc w3) := by
  have hlt : ∀ k, (Value.slice Ao q co).ownBlock = some k → wc.heap.size ≤ k := fun k hk => (hrow.own.lt k hk).1
  refine ⟨addK_far hK hgr (fun e => ?_) (fun e => ?_) (fun e => ?_), ⟨rs ++ [(⟨v, true, 1, [⟨0, true⟩]⟩, p)], by rw [List.map_append, hrs]; rfl, ?_⟩, hb.grown hgr hb.size hlt⟩
  · have := hlt n e.symm; omega
  · have := hlt (n + 1) e.symm; omega
  · have := hlt g e.symm; omega
  · exact RowP.snoc (p := (⟨v, true, 1, [⟨0, true⟩]⟩, p)) hrow ((hs.below hb (Nat.le_refl _)).mono hb.size) hgr (by rw [hrl]; exact hown)

theorem new_second (w : World) (a b : Obj) : (((w.alloc a).alloc b).drew).heap[w.heap.size + 1]? = some b := by
  have h := heap_alloc_new (w.alloc a) b
  rw [World.size_alloc] at h
  exact h

theorem new_first (w : World) (a b : Obj) : (((w.alloc a).alloc b).drew).heap[w.heap.size]? = some a :=
  (Below.heap_alloc _ _ _ (by simp)).trans (heap_alloc_new w a)

/-- A place's four cells are written into its block. -/
theorem put_place {w w' : World} {B g : Nat} {p : Option Addr} (hP : w'.heap[g]? = some (.cells #[.int .i64 0, .bool false, .int .i64 0, .pointer none] 99 (0, 0))) (hb : Below B w w') (hg : B ≤ g) {ts : List TagD} (hs : Stk w' w'.heap.size ts p) (v : Int) :
    ((((w'.setCell ⟨g, 0, none⟩ (.int .i64 v)).setCell ⟨g, 1, none⟩ (.bool true)).setCell ⟨g, 2, none⟩ (.int .i64 1)).setCell ⟨g, 3, none⟩ (.pointer p)).heap[g]? = some (.cells #[.int .i64 v, .bool true, .int .i64 1, .pointer p] 99 (0, 0)) ∧
    Below B w ((((w'.setCell ⟨g, 0, none⟩ (.int .i64 v)).setCell ⟨g, 1, none⟩ (.bool true)).setCell ⟨g, 2, none⟩ (.int .i64 1)).setCell ⟨g, 3, none⟩ (.pointer p)) ∧
    Stk ((((w'.setCell ⟨g, 0, none⟩ (.int .i64 v)).setCell ⟨g, 1, none⟩ (.bool true)).setCell ⟨g, 2, none⟩ (.int .i64 1)).setCell ⟨g, 3, none⟩ (.pointer p)) ((((w'.setCell ⟨g, 0, none⟩ (.int .i64 v)).setCell ⟨g, 1, none⟩ (.bool true)).setCell ⟨g, 2, none⟩ (.int .i64 1)).setCell ⟨g, 3, none⟩ (.pointer p)).heap.size ts p := by
  refine ⟨by simp [World.setCell, Array.getElem?_modify, hP], (((hb.setCell hg _).setCell hg _).setCell hg _).setCell hg _, ?_⟩
  have e : ((((w'.setCell ⟨g, 0, none⟩ (.int .i64 v)).setCell ⟨g, 1, none⟩ (.bool true)).setCell ⟨g, 2, none⟩ (.int .i64 1)).setCell ⟨g, 3, none⟩ (.pointer p)).heap.size = w'.heap.size := by simp [World.setCell]
  rw [e]
  exact Stk.setType (Stk.setType (Stk.setType (Stk.setType hs hP (by decide) _ _) (set_keeps hP _ _) (by decide) _ _) (set_keeps (set_keeps hP _ _) _ _) (by decide) _ _) (set_keeps (set_keeps (set_keeps hP _ _) _ _) _ _) (by decide) _ _

set_option maxRecDepth 100000 in
set_option maxHeartbeats 8000000 in
theorem add_ok (cs : List CellD) (A : Option Addr) (q c : Nat) (v : Int) (w : World) (h : RdM w (.slice A q c) cs) (h0 : 0 ≤ v) (h9 : v ≤ 9) (hq : q < 200) :
    Calls Tryd.prog 37 #[.slice A q c, .int .i64 v] w (AddPost cs v q w) := by
  have t1 : decide (0 ≤ v ∧ v ≤ 9) = true := decide_eq_true ⟨h0, h9⟩
  have t2 : decide ((200 : Int) ≤ (q : Int)) = false := decide_eq_false (by omega)
  have hb0 := (Below.refl w.heap.size w).alloc (Nat.le_refl _) (.cells #[.int .i64 0, .int .i64 0] 26)
  have hz0 : (w.alloc (.cells #[.int .i64 0, .int .i64 0] 26)).heap.size = w.heap.size + 1 := by simp
  have hX0 := heap_alloc_new w (.cells #[.int .i64 0, .int .i64 0] 26)
  have hb1 := (Below.refl _ (w.alloc (.cells #[.int .i64 0, .int .i64 0] 26))).alloc (Nat.le_refl _) (.cells #[.int .i64 0, .bool true] 54)
  have hX1 := heap_alloc_new (w.alloc (.cells #[.int .i64 0, .int .i64 0] 26)) (.cells #[.int .i64 0, .bool true] 54)
  have hz1 : ((w.alloc (.cells #[.int .i64 0, .int .i64 0] 26)).alloc (.cells #[.int .i64 0, .bool true] 54)).heap.size = w.heap.size + 2 := by simp
  have HB0 := Lib.hid hb0
  have HX0 := Lib.hid ((hb1.block w.heap.size (by rw [hz0]; omega)).trans hX0)
  have HX1 := Lib.hid hX1
  have HZ1 := Lib.hid hz1
  have HBB := Lib.hid (hb0.trans (hb1.mono (by rw [hz0]; omega)))
  have HM := Lib.hid (h.below HBB.out)
  have HN := Lib.hid (isNumber_any v)
  have HQ := Lib.hid h.len.1
  have HW1 := Lib.hid h
  rw [hz0] at HX1
  clear h hb0 hX0 hb1 hX1 hz0 hz1
  go_enter Tryd.func37, Tryd.ntmps37
  go_wp2_with fail
  refine (HN.out _).mono ?_
  rintro E w1 ⟨rfl, rfl⟩
  rw [t1]
  go_upto_region 4 with fail
  obtain ⟨W1, hW1⟩ : ∃ W1, (w.alloc (.cells #[.int .i64 0, .int .i64 0] 26)).alloc (.cells #[.int .i64 0, .bool true] 54) = W1 := ⟨_, rfl⟩
  rw [hW1] at HX0 HX1 HZ1 HBB HM ⊢
  clear hW1
  go_cut [8] (fun s8 wx => ∃ (g : Nat) (p : Option Addr), s8 = .pointer (some ⟨g, 0, none⟩) ∧ W1.heap.size ≤ g ∧ Hid (wx.heap[g]? = some (.cells #[.int .i64 v, .bool true, .int .i64 1, .pointer p] 99 (0, 0))) ∧ Hid (Stk wx wx.heap.size [⟨0, true⟩] p) ∧ Hid (Below W1.heap.size W1 wx))
  case first =>
    have y0 : W1.cell? ⟨w.heap.size + 1, 0, none⟩ = some (.int .i64 0) := (cell_of_block HX1.out 0).trans rfl
    have y1 : W1.cell? ⟨w.heap.size + 1, 1, none⟩ = some (.bool true) := (cell_of_block HX1.out 1).trans rfl
    have hK0 : TagK (w.heap.size + 1) W1.drew := ⟨y0, y1⟩
    have hw1 : IntKind.i64.wrap 1 = 1 := by decide
    have hn0 : ¬ W1.heap.size = w.heap.size + 1 := by have := HZ1.out; omega
    have hn1 : ¬ W1.heap.size + 1 = w.heap.size + 1 := by have := HZ1.out; omega
    go_region_held3 (TagK (w.heap.size + 1))
      (first | with_reducible exact hK0 | with_reducible exact hS1 | with_reducible exact tagK_set4 hS1 hn1 _ _ _ _ | with_reducible exact tagK_set4 hS1 hn0 _ _ _ _ | with_reducible exact tagK_below hS1 ((Below.refl _ _).alloc (Nat.le_refl _) _) | with_reducible exact tagK_below ‹TagK (w.heap.size + 1) _› ((Below.refl _ _).alloc (Nat.le_refl _) _))
      ((go_at_call 65; refine (stackOf_any [⟨0, true⟩] _ 1 1 _ ?_ ?_).mono ?_; (first | exact (tag_row 0 true rfl).below ((Below.refl _ _).drew) | exact (tag_row 0 true rfl).below (((Below.refl _ _).alloc (Nat.le_refl _) _).drew) | exact (tag_row 0 true (by simp)).below ((Below.refl _ _).drew)); (decide); rintro E w' ⟨p, rfl, hst, hbn⟩; have hS1 := tagK_below ‹TagK (w.heap.size + 1) _› hbn; (first | (have hP : w'.heap[W1.heap.size + 1]? = some (.cells #[.int .i64 0, .bool false, .int .i64 0, .pointer none] 99 (0, 0)) := (hbn.block (W1.heap.size + 1) (by simp <;> omega)).trans (new_second W1 _ _); have q0 := (cell_of_block hP 0).trans (show _ = some (.int .i64 0) from rfl); have q1 := (cell_of_block hP 1).trans (show _ = some (.bool false) from rfl); have q2 := (cell_of_block hP 2).trans (show _ = some (.int .i64 0) from rfl); have q3 := (cell_of_block hP 3).trans (show _ = some (.pointer none) from rfl); have f0 := frozen_of_block hP 0; have f1 := frozen_of_block hP 1; have f2 := frozen_of_block hP 2; have f3 := frozen_of_block hP 3) | (have hP : w'.heap[W1.heap.size]? = some (.cells #[.int .i64 0, .bool false, .int .i64 0, .pointer none] 99 (0, 0)) := (hbn.block W1.heap.size (by simp <;> omega)).trans (new_first W1 _ _); have q0 := (cell_of_block hP 0).trans (show _ = some (.int .i64 0) from rfl); have q1 := (cell_of_block hP 1).trans (show _ = some (.bool false) from rfl); have q2 := (cell_of_block hP 2).trans (show _ = some (.int .i64 0) from rfl); have q3 := (cell_of_block hP 3).trans (show _ = some (.pointer none) from rfl); have f0 := frozen_of_block hP 0; have f1 := frozen_of_block hP 1; have f2 := frozen_of_block hP 2; have f3 := frozen_of_block hP 3) | skip)))
    · have hB := ((((Below.refl W1.heap.size W1).alloc (Nat.le_refl _) (.cells #[.int .i64 0, .bool true] 54)).drew.trans (hbn.mono (by simp))).alloc (by have := hbn.size; simp at this; omega) (.cells #[.int .i64 v, .bool true, .int .i64 1, .pointer p] 99))
      have hg : W1.heap.size ≤ w'.heap.size := by have := hbn.size; simp at this; omega
      have hH := heap_alloc_new w' (.cells #[.int .i64 v, .bool true, .int .i64 1, .pointer p] 99)
      have hT := (hst.below ((Below.refl w'.heap.size w').alloc (Nat.le_refl _) (.cells #[.int .i64 v, .bool true, .int .i64 1, .pointer p] 99)) (Nat.le_refl _)).mono (by simp : w'.heap.size ≤ (w'.alloc (.cells #[.int .i64 v, .bool true, .int .i64 1, .pointer p] 99)).heap.size)
      clear hbn hst hS1 ‹TagK (w.heap.size + 1) _›
      go_wp2_with fail
      go_meet
      exact ⟨w'.heap.size, p, rfl, hg, hH, hT, by first | exact hB | exact hB.drew⟩
    · have hB0 := ((((Below.refl W1.heap.size W1).alloc (Nat.le_refl _) (.cells #[.int .i64 0, .bool true] 54)).alloc (by simp) (.cells #[.int .i64 0, .bool false, .int .i64 0, .pointer none] 99)).drew.trans (hbn.mono (by simp <;> omega)))
      obtain ⟨hH, hB, hT⟩ := put_place (p := p) hP hB0 (by omega) hst v
      clear hbn hst hS1 ‹TagK (w.heap.size + 1) _› q0 q1 q2 q3 f0 f1 f2 f3 hP
      go_wp2_with fail
      go_meet
      exact ⟨W1.heap.size + 1, p, rfl, by omega, hH, hT, by first | exact hB | exact hB.drew⟩
    · have hB0 := ((((Below.refl W1.heap.size W1).alloc (Nat.le_refl _) (.cells #[.int .i64 0, .bool false, .int .i64 0, .pointer none] 99)).alloc (by simp) (.cells #[.int .i64 0, .bool true] 54)).drew.trans (hbn.mono (by simp <;> omega)))
      obtain ⟨hH, hB, hT⟩ := put_place (p := p) hP hB0 (by omega) hst v
      clear hbn hst hS1 ‹TagK (w.heap.size + 1) _› q0 q1 q2 q3 f0 f1 f2 f3 hP
      go_wp2_with fail
      go_meet
      exact ⟨W1.heap.size, p, rfl, by omega, hH, hT, by first | exact hB | exact hB.drew⟩
  case rest =>
    obtain ⟨g, p, rfl, hg, hP, hS, hB⟩ := hcut
    have hwz := HZ1.out
    have hcz := hB.out.size
    have hgl : g < wc.heap.size := heap_lt hP.out
    have hX0 := (hB.out.block w.heap.size (by omega)).trans HX0.out
    have hX1 := (hB.out.block (w.heap.size + 1) (by omega)).trans HX1.out
    have HMC := Lib.hid (HM.out.below hB.out)
    have z0 := (cell_of_block hX0 0).trans (show _ = some (.int .i64 0) from rfl)
    have z1 := (cell_of_block hX0 1).trans (show _ = some (.int .i64 0) from rfl)
    have hA0 : AddK w.heap.size g v p wc := ⟨(cell_of_block hX1 0).trans rfl, (cell_of_block hP.out 0).trans rfl, (cell_of_block hP.out 1).trans rfl, (cell_of_block hP.out 2).trans rfl, (cell_of_block hP.out 3).trans rfl, by unfold held; rw [z0]; rfl, by unfold held; rw [z1]; rfl, frozen_of_block hX0 0, frozen_of_block hX0 1⟩
    have hA1 : AddK w.heap.size g v p wc.drew := hA0
    have HXC := Lib.hid hX0
    have hql : q ≤ 1048600 := by omega
    have hng0 : ¬ w.heap.size = g := by omega
    have hng1 : ¬ w.heap.size + 1 = g := by omega
    have HBW : Hid (Below w.heap.size w wc) := HBB.out.trans (hB.out.mono (by omega))
    obtain ⟨i0, hi, hzz0, hzz1, hzz2⟩ := info_parts Tryd.infoPlace
    have HI := Lib.hid hi
    have HZ0 := Lib.hid hzz0
    have HZ1 := Lib.hid hzz1
    have HZ2 := Lib.hid hzz2
    clear hX0 hX1 z0 z1 hi hzz0 hzz1 hzz2 HW1
    go_wp2_with fail
    go_region_held3 (AddK w.heap.size g v p)
      (first | with_reducible exact hA1 | with_reducible exact hS1 | with_reducible exact hS2 | with_reducible exact addK_store hng0 hS2 _ _ | with_reducible exact addK_below ‹AddK w.heap.size g v p _› ((Below.refl _ _).alloc (Nat.le_refl _) _))
      (first
        | (go_at_call 67; refine (clone_any cs A q c _ ?_ hql).mono ?_; (first | exact HMC.out.below ((Below.refl _ _).drew) | exact HMC.out.below (((Below.refl _ _).alloc (Nat.le_refl _) _).drew)); rintro E w' ⟨vv, rfl, hM, hbn⟩; obtain ⟨rs, hrs, hU⟩ := hM; obtain ⟨Ao, co, hvo, -, -, -⟩ := own_form hU.own; (have hrl : rs.length = q := by rw [HQ.out, ← hrs, List.length_map]); rw [hrl] at hvo; subst hvo; have hS1 := addK_below ‹AddK w.heap.size g v p _› hbn;
            (have hbc : Below wc.heap.size wc w' := by first | exact ((Below.refl _ _).drew).trans hbn | exact ((((Below.refl _ _).alloc (Nat.le_refl _) _).drew).trans (hbn.mono (by simp)))))
        | (refine step_append_lies _ (by rfl) _ _ _ (by rfl) wc.heap.size 99 i0 (.agg #[.int .i64 0, .bool false, .int .i64 0, .pointer none]) 4 32 Tryd.underlying60 HI.out HZ0.out HZ1.out HZ2.out rfl (by decide) (.slice Ao q co) q (rs.flatMap prow) (by rfl) ?_ ⟨w'.heap.size, 0, none⟩ 1 1 [.int .i64 v, .bool true, .int .i64 1, .pointer p] (by rfl) (by rfl) ?_ ?_ (by decide) ?_ ?_ ?_ (w'.heap.size + 1) ?_ ?_;
             (exact own_below (own_mono (hrl ▸ hU.own) (by simp)) ((Below.refl _ _).alloc (Nat.le_refl _) _)); (exact World.news_of_block (cs := #[.int .i64 v, .bool true, .int .i64 1, .pointer p]) (heap_alloc_new w' _)); (intro u hu; simp only [List.mem_cons, List.not_mem_nil, or_false] at hu; rcases hu with rfl | rfl | rfl | rfl <;> rfl); (unfold maxLen; omega); (omega); (show wc.heap.size ≤ (World.alloc w' _).heap.size; have h8 := hbc.size; rw [World.size_alloc]; omega); (simp);
             intro g3 cap w3 hown3 hgr3 hat3 hlt3;
             (have hrow : RowP (w'.alloc (.cells #[.int .i64 v, .bool true, .int .i64 1, .pointer p] 99)) wc.heap.size (.slice Ao q co) rs := (hU.mono (by simp)).below ((Below.refl _ _).alloc (Nat.le_refl _) _));
             (have hbw : Below wc.heap.size wc (w'.alloc (.cells #[.int .i64 v, .bool true, .int .i64 1, .pointer p] 99)) := hbc.alloc hbc.size _);
             (have hS3 := addK_below hS1 ((Below.refl w'.heap.size w').alloc (Nat.le_refl _) (.cells #[.int .i64 v, .bool true, .int .i64 1, .pointer p] 99)));
             obtain ⟨hS2, hfin, hbf⟩ := add_fin hrs hrl hrow hbw hS3 hS.out (by omega) hgl hgr3 hown3)
        | (refine step_append_lies _ (by rfl) _ _ _ (by rfl) wc.heap.size 99 i0 (.agg #[.int .i64 0, .bool false, .int .i64 0, .pointer none]) 4 32 Tryd.underlying60 HI.out HZ0.out HZ1.out HZ2.out rfl (by decide) (.slice Ao q co) q (rs.flatMap prow) (by rfl) ?_ ⟨wc.heap.size, 0, none⟩ 1 1 [.int .i64 v, .bool true, .int .i64 1, .pointer p] (by rfl) (by rfl) ?_ ?_ (by decide) ?_ ?_ ?_ w'.heap.size ?_ ?_;
             (exact own_mono (hrl ▸ hU.own) (by simp)); (exact World.news_of_block (cs := #[.int .i64 v, .bool true, .int .i64 1, .pointer p]) ((hbn.block wc.heap.size (by simp)).trans (heap_alloc_new wc _))); (intro u hu; simp only [List.mem_cons, List.not_mem_nil, or_false] at hu; rcases hu with rfl | rfl | rfl | rfl <;> rfl); (unfold maxLen; omega); (omega); (exact hbc.size); (rfl);
             intro g3 cap w3 hown3 hgr3 hat3 hlt3;
             (have hrow : RowP w' wc.heap.size (.slice Ao q co) rs := hU.mono (by simp));
             obtain ⟨hS2, hfin, hbf⟩ := add_fin hrs hrl hrow hbc hS1 hS.out (by omega) hgl hgr3 hown3))
    all_goals
      have hX3 := (hbf.out.block w.heap.size (by omega)).trans HXC.out
      obtain ⟨e0, e1⟩ := set_pair ((cell_of_block hX3 0).trans (show _ = some (.int .i64 0) from rfl)) ((cell_of_block hX3 1).trans (show _ = some (.int .i64 0) from rfl)) (.int .i64 (q : Int)) (.int .i64 0)
      have HM3 := Lib.hid (((hfin.out.setType (o := 0) (x := .int .i64 (q : Int)) hX3 (by decide) (by omega)).setType (o := 1) (x := .int .i64 0) (set_keeps hX3 _ _) (by decide) (by omega)).mono (show w.heap.size ≤ wc.heap.size by omega))
      have hb3 : Below w.heap.size w ((w3.setCell ⟨w.heap.size, 0, none⟩ (.int .i64 (q : Int))).setCell ⟨w.heap.size, 1, none⟩ (.int .i64 0)) := ((HBW.out.trans (hbf.out.mono (by omega))).setCell (Nat.le_refl _) _).setCell (Nat.le_refl _) _
      clear ‹AddK w.heap.size g v p ((w3.setCell _ _).setCell _ _)› hX3 hfin hbf hS2 hgr3 hat3 hlt3 hown3 hrow
      generalize (w3.setCell ⟨w.heap.size, 0, none⟩ (.int .i64 (q : Int))).setCell ⟨w.heap.size, 1, none⟩ (.int .i64 0) = w4 at *
      go_wp2_with fail
      exact bodyPost_ret (v := .tuple #[.slice (some ⟨g3, 0, none⟩) (q + 1) cap, .agg #[.int .i64 (q : Int), .int .i64 0], .nilIface]) (by simp [results, Tryd.results37, go_sem, e0, e1]) rfl ⟨_, rfl, by first | exact HM3.out | exact HM3.out.below (Below.refl _ _).drew, by first | exact hb3 | exact hb3.drew⟩

end Go.Proofs.YtboadhlhpnbpiaaDoor
