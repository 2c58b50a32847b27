/-
  A new tag is put on a cell of a memory.
-/
import Derived.Test.YtfkoobdlhdolbaaDoorAccD
import Derived.Test.YtfkoobdlhdolbaaDoorMrd
namespace Go.Proofs.YtfkoobdlhdolbaaDoor
open Go.RowKit Go.Deep
set_option linter.unusedVariables false

set_option maxRecDepth 100000 in
set_option maxHeartbeats 4000000 in
theorem withTag_full (v : Value) (x : Int) (d : CellD) (ts : List TagD) (p : Option Addr) (u : Bool) (w : World) (T : TypeId) (uv : Value) (hs : Stk w w.heap.size ts.reverse p) (hG : ErrI w (.iface T uv)) (hbad : ¬ (ts.length < 200 ∧ d.next < 1000)) :
    Calls Tryd.prog 84 #[v, .int .i64 x, .agg #[.int .i64 d.val, .bool d.alive, .int .i64 d.next, .pointer p], .bool u] w fun E w' => E = .returned (.tuple #[v, .agg #[.int .i64 0, .int .i64 0], .iface T uv]) ∧ Below w.heap.size w w' := by
  have hgl := World.block_lt_of_cell? w _ hG
  have hgne : ¬ w.heap.size + 1 = 0 := fun e => by
    have : 0 < w.heap.size := hgl
    omega
  have hb0 := ((Below.refl w.heap.size w).alloc (Nat.le_refl _) (.cells #[.int .i64 d.val, .bool d.alive, .int .i64 d.next, .pointer p] 96)).alloc (by simp) (.cells #[.int .i64 0, .int .i64 0] 25)
  have hX0 := alloc2_first w (.cells #[.int .i64 d.val, .bool d.alive, .int .i64 d.next, .pointer p] 96) (.cells #[.int .i64 0, .int .i64 0] 25)
  have hX1 := alloc2_second w (.cells #[.int .i64 d.val, .bool d.alive, .int .i64 d.next, .pointer p] 96) (.cells #[.int .i64 0, .int .i64 0] 25)
  have hz : ((w.alloc (.cells #[.int .i64 d.val, .bool d.alive, .int .i64 d.next, .pointer p] 96)).alloc (.cells #[.int .i64 0, .int .i64 0] 25)).heap.size = w.heap.size + 2 := by simp
  have c3 := (cell_of_block hX0 3).trans (show _ = some (.pointer p) from rfl)
  have c2 := (cell_of_block hX0 2).trans (show _ = some (.int .i64 d.next) from rfl)
  have x0 := (cell_of_block hX1 0).trans (show _ = some (.int .i64 0) from rfl)
  have x1 := (cell_of_block hX1 1).trans (show _ = some (.int .i64 0) from rfl)
  have f0 := frozen_of_block hX1 0
  have f1 := frozen_of_block hX1 1
  have y0 := (hb0.cell (p := ⟨0, 0, none⟩) hgl).trans hG
  have HST := size_any _ _ ts.reverse p (hs.below hb0 (Nat.le_refl _))
  rw [List.length_reverse] at HST
  obtain ⟨n, hn⟩ : ∃ n, ts.length = n := ⟨_, rfl⟩
  rw [hn] at HST hbad
  have HS := Lib.hid HST
  have HBO := Lib.hid hb0
  clear hs hG hb0 hX0 hX1 HST hn hz
  by_cases hv : n < 200
  · have hx : ¬ d.next < 1000 := fun e => hbad ⟨hv, e⟩
    have t1 : decide ((200 : Int) ≤ (n : Int)) = false := decide_eq_false (by omega)
    have t2 : decide ((1000 : Int) ≤ d.next) = true := decide_eq_true (by omega)
    clear hv hbad hx
    go_enter Tryd.func84, Tryd.ntmps84
    go_wp2_with fail
    refine HS.out.mono ?_
    rintro E w1 ⟨rfl, rfl⟩
    clear HS
    go_wp2_with fail
    have s0 : ((w.alloc (.cells #[.int .i64 d.val, .bool d.alive, .int .i64 d.next, .pointer p] 96)).alloc (.cells #[.int .i64 0, .int .i64 0] 25)).cell? ⟨w.heap.size + 1, 0, none⟩ = some (held ((w.alloc (.cells #[.int .i64 d.val, .bool d.alive, .int .i64 d.next, .pointer p] 96)).alloc (.cells #[.int .i64 0, .int .i64 0] 25)) ⟨w.heap.size + 1, 0, none⟩) := by unfold held; rw [x0]; rfl
    have s1 : ((w.alloc (.cells #[.int .i64 d.val, .bool d.alive, .int .i64 d.next, .pointer p] 96)).alloc (.cells #[.int .i64 0, .int .i64 0] 25)).cell? ⟨w.heap.size + 1, 1, none⟩ = some (held ((w.alloc (.cells #[.int .i64 d.val, .bool d.alive, .int .i64 d.next, .pointer p] 96)).alloc (.cells #[.int .i64 0, .int .i64 0] 25)) ⟨w.heap.size + 1, 1, none⟩) := by unfold held; rw [x1]; rfl
    obtain ⟨W1, hW1⟩ : ∃ W1, ((w.alloc (.cells #[.int .i64 d.val, .bool d.alive, .int .i64 d.next, .pointer p] 96)).alloc (.cells #[.int .i64 0, .int .i64 0] 25)) = W1 := ⟨_, rfl⟩
    have HBW : Hid (Below w.heap.size w W1) := by rw [← hW1]; exact HBO.out
    have HX0 := Lib.hid x0
    have HX1 := Lib.hid x1
    clear x0 x1 c3 c2
    rw [hW1] at HX0 HX1 f0 f1 y0 s0 s1 ⊢
    have hS0 : ErrK (w.heap.size + 1) (.iface T uv) W1.drew := ⟨y0, s0, s1, f0, f1⟩
    clear hW1
    go_region_held3 (ErrK (w.heap.size + 1) (.iface T uv))
      (first | exact hS0 | exact (errK_store hgne ‹_› _ _))
      (fail)
    obtain ⟨z0, z1⟩ := set_pair HX0.out HX1.out (.int .i64 0) (.int .i64 0)
    have hbf : Below w.heap.size w ((W1.setCell ⟨w.heap.size + 1, 0, none⟩ (.int .i64 0)).setCell ⟨w.heap.size + 1, 1, none⟩ (.int .i64 0)) := (HBW.out.setCell (by simp) _).setCell (by simp) _
    clear ‹ErrK (w.heap.size + 1) (.iface T uv) _› hS0
    generalize (W1.setCell ⟨w.heap.size + 1, 0, none⟩ (.int .i64 0)).setCell ⟨w.heap.size + 1, 1, none⟩ (.int .i64 0) = W2 at *
    go_wp2_with fail
    exact bodyPost_ret (v := .tuple #[v, .agg #[.int .i64 0, .int .i64 0], .iface T uv]) (by simp [results, Tryd.results84, go_sem, z0, z1]) rfl ⟨rfl, hbf.drew⟩
  · have t1 : decide ((200 : Int) ≤ (n : Int)) = true := decide_eq_true (by omega)
    clear hv hbad
    go_enter Tryd.func84, Tryd.ntmps84
    go_wp2_with fail
    refine HS.out.mono ?_
    rintro E w1 ⟨rfl, rfl⟩
    clear HS
    go_wp2_with fail
    have s0 : ((w.alloc (.cells #[.int .i64 d.val, .bool d.alive, .int .i64 d.next, .pointer p] 96)).alloc (.cells #[.int .i64 0, .int .i64 0] 25)).cell? ⟨w.heap.size + 1, 0, none⟩ = some (held ((w.alloc (.cells #[.int .i64 d.val, .bool d.alive, .int .i64 d.next, .pointer p] 96)).alloc (.cells #[.int .i64 0, .int .i64 0] 25)) ⟨w.heap.size + 1, 0, none⟩) := by unfold held; rw [x0]; rfl
    have s1 : ((w.alloc (.cells #[.int .i64 d.val, .bool d.alive, .int .i64 d.next, .pointer p] 96)).alloc (.cells #[.int .i64 0, .int .i64 0] 25)).cell? ⟨w.heap.size + 1, 1, none⟩ = some (held ((w.alloc (.cells #[.int .i64 d.val, .bool d.alive, .int .i64 d.next, .pointer p] 96)).alloc (.cells #[.int .i64 0, .int .i64 0] 25)) ⟨w.heap.size + 1, 1, none⟩) := by unfold held; rw [x1]; rfl
    obtain ⟨W1, hW1⟩ : ∃ W1, ((w.alloc (.cells #[.int .i64 d.val, .bool d.alive, .int .i64 d.next, .pointer p] 96)).alloc (.cells #[.int .i64 0, .int .i64 0] 25)) = W1 := ⟨_, rfl⟩
    have HBW : Hid (Below w.heap.size w W1) := by rw [← hW1]; exact HBO.out
    have HX0 := Lib.hid x0
    have HX1 := Lib.hid x1
    clear x0 x1 c3 c2
    rw [hW1] at HX0 HX1 f0 f1 y0 s0 s1 ⊢
    have hS0 : ErrK (w.heap.size + 1) (.iface T uv) W1.drew := ⟨y0, s0, s1, f0, f1⟩
    clear hW1
    go_region_held3 (ErrK (w.heap.size + 1) (.iface T uv))
      (first | exact hS0 | exact (errK_store hgne ‹_› _ _))
      (fail)
    obtain ⟨z0, z1⟩ := set_pair HX0.out HX1.out (.int .i64 0) (.int .i64 0)
    have hbf : Below w.heap.size w ((W1.setCell ⟨w.heap.size + 1, 0, none⟩ (.int .i64 0)).setCell ⟨w.heap.size + 1, 1, none⟩ (.int .i64 0)) := (HBW.out.setCell (by simp) _).setCell (by simp) _
    clear ‹ErrK (w.heap.size + 1) (.iface T uv) _› hS0
    generalize (W1.setCell ⟨w.heap.size + 1, 0, none⟩ (.int .i64 0)).setCell ⟨w.heap.size + 1, 1, none⟩ (.int .i64 0) = W2 at *
    go_wp2_with fail
    exact bodyPost_ret (v := .tuple #[v, .agg #[.int .i64 0, .int .i64 0], .iface T uv]) (by simp [results, Tryd.results84, go_sem, z0, z1]) rfl ⟨rfl, hbf.drew⟩

/-- What holds while a cell with a new tag is put back: the place, the tag's number, and the two cells of an answer's pointer. -/
abbrev PutK (n g m : Nat) (a b c d e : Value) (w : World) : Prop := w.cell? ⟨m, 0, none⟩ = some e ∧ w.cell? ⟨g, 0, none⟩ = some a ∧ w.cell? ⟨g, 1, none⟩ = some b ∧ w.cell? ⟨g, 2, none⟩ = some c ∧ w.cell? ⟨g, 3, none⟩ = some d ∧
  w.cell? ⟨n, 0, none⟩ = some (held w ⟨n, 0, none⟩) ∧ w.cell? ⟨n, 1, none⟩ = some (held w ⟨n, 1, none⟩) ∧ w.frozen? ⟨n, 0, none⟩ = false ∧ w.frozen? ⟨n, 1, none⟩ = false

theorem putK_below {n g m : Nat} {a b c d e : Value} {w w' : World} (h : PutK n g m a b c d e w) (hb : Below w.heap.size w w') : PutK n g m a b c d e w' := by
  obtain ⟨h1, h2, h3, h4, h5, h6, h7, h8, h9⟩ := h
  have e : ∀ {a u}, w.cell? a = some u → w'.cell? a = w.cell? a := fun k => hb.cell (World.block_lt_of_cell? w _ k)
  exact ⟨(e h1).trans h1, (e h2).trans h2, (e h3).trans h3, (e h4).trans h4, (e h5).trans h5, held_cell (e h6) h6, held_cell (e h7) h7, (hb.frozen (World.block_lt_of_cell? w _ h6)).trans h8, (hb.frozen (World.block_lt_of_cell? w _ h7)).trans h9⟩

theorem putK_store {n g m : Nat} {a b c d e : Value} {w : World} (hg : ¬ n = g) (hm : ¬ n = m) (h : PutK n g m a b c d e w) (u v : Value) : PutK n g m a b c d e ((w.setCell ⟨n, 0, none⟩ u).setCell ⟨n, 1, none⟩ v) := by
  obtain ⟨h1, h2, h3, h4, h5, h6, h7, h8, h9⟩ := h
  obtain ⟨z0, z1⟩ := set_pair h6 h7 u v
  have k : ∀ {a' : Addr}, n ≠ a'.block → ((w.setCell ⟨n, 0, none⟩ u).setCell ⟨n, 1, none⟩ v).cell? a' = w.cell? a' := fun hne => (World.cell?_setCell_other _ _ _ _ (fun e => hne (congrArg Addr.block e))).trans (World.cell?_setCell_other _ _ _ _ (fun e => hne (congrArg Addr.block e)))
  refine ⟨(k hm).trans h1, (k hg).trans h2, (k hg).trans h3, (k hg).trans h4, (k hg).trans h5, by unfold held; rw [z0]; rfl, by unfold held; rw [z1]; rfl, ?_, ?_⟩
  · rw [World.frozen?_setCell, World.frozen?_setCell]; exact h8
  · rw [World.frozen?_setCell, World.frozen?_setCell]; exact h9

set_option maxRecDepth 100000 in
set_option maxHeartbeats 4000000 in
theorem withTag_ok (cs : List CellD) (A : Option Addr) (q c i : Nat) (d : CellD) (ts : List TagD) (p : Option Addr) (u : Bool) (w : World) (h : RdM w (.slice A q c) cs) (hiq : i < q) (hl : q ≤ 1048600) (hs : Stk w w.heap.size ts.reverse p) (h1 : ts.length < 200) (h2 : 0 ≤ d.next) (h3 : d.next < 1000) :
    Calls Tryd.prog 84 #[.slice A q c, .int .i64 (i : Int), .agg #[.int .i64 d.val, .bool d.alive, .int .i64 d.next, .pointer p], .bool u] w (ResPost w w.heap.size (cs.set i ⟨d.val, d.alive, d.next + 1, ts ++ [⟨d.next, u⟩]⟩) (.agg #[.int .i64 (i : Int), .int .i64 d.next]) .nilIface) := by
  have hb0 := ((Below.refl w.heap.size w).alloc (Nat.le_refl _) (.cells #[.int .i64 d.val, .bool d.alive, .int .i64 d.next, .pointer p] 96)).alloc (by simp) (.cells #[.int .i64 0, .int .i64 0] 25)
  have hX0 := alloc2_first w (.cells #[.int .i64 d.val, .bool d.alive, .int .i64 d.next, .pointer p] 96) (.cells #[.int .i64 0, .int .i64 0] 25)
  have hX1 := alloc2_second w (.cells #[.int .i64 d.val, .bool d.alive, .int .i64 d.next, .pointer p] 96) (.cells #[.int .i64 0, .int .i64 0] 25)
  have hz : ((w.alloc (.cells #[.int .i64 d.val, .bool d.alive, .int .i64 d.next, .pointer p] 96)).alloc (.cells #[.int .i64 0, .int .i64 0] 25)).heap.size = w.heap.size + 2 := by simp
  have hst := hs.below hb0 (Nat.le_refl _)
  have hlr : ts.reverse.length ≤ 10000000 := by rw [List.length_reverse]; omega
  have hw1 : IntKind.i64.wrap (d.next + 1) = d.next + 1 := IntWalk.i64_in _ (by omega)
  have t1 : decide ((200 : Int) ≤ (ts.reverse.length : Int)) = false := decide_eq_false (by rw [List.length_reverse]; omega)
  have t2 : decide ((1000 : Int) ≤ d.next) = false := decide_eq_false (by omega)
  have HL := Lib.hid hlr
  have HZ := Lib.hid hz
  have HX0 := Lib.hid hX0
  have HX1 := Lib.hid hX1
  have HST := Lib.hid hst
  have HB0 := Lib.hid hb0
  have H := Lib.hid h
  have HW1 := Lib.hid hw1
  clear h1 h2 h3 hs hb0 hX0 hX1 hz hst hlr h hw1
  go_enter Tryd.func84, Tryd.ntmps84
  go_upto_region 1 with fail
  obtain ⟨W0, hW0⟩ : ∃ x, ((w.alloc (.cells #[.int .i64 d.val, .bool d.alive, .int .i64 d.next, .pointer p] 96)).alloc (.cells #[.int .i64 0, .int .i64 0] 25)) = x := ⟨_, rfl⟩
  rw [hW0] at HZ HX0 HX1 HST HB0 ⊢
  clear hW0
  have c3 := (cell_of_block HX0.out 3).trans (show _ = some (.pointer p) from rfl)
  have c2 := (cell_of_block HX0.out 2).trans (show _ = some (.int .i64 d.next) from rfl)
  have HS := Lib.hid (size_any W0 _ ts.reverse p HST.out)
  obtain ⟨n, hn⟩ : ∃ n, ts.reverse.length = n := ⟨_, rfl⟩
  rw [hn] at HS t1
  clear hn
  go_wp2_with fail
  refine HS.out.mono ?_
  rintro E w1 ⟨rfl, rfl⟩
  clear HS
  go_upto_region 4 with fail
  have hba := (Below.refl W0.heap.size W0).alloc (Nat.le_refl _) (.cells #[.int .i64 d.next, .bool u] 35)
  have hXa := (hba.block w.heap.size (by have := HZ.out; omega)).trans HX0.out
  have hXb := (hba.block (w.heap.size + 1) (by have := HZ.out; omega)).trans HX1.out
  have hXc := heap_alloc_new W0 (.cells #[.int .i64 d.next, .bool u] 35)
  have hza : (W0.alloc (.cells #[.int .i64 d.next, .bool u] 35)).heap.size = w.heap.size + 3 := by rw [World.size_alloc, HZ.out]
  have hsta := (HST.out.below hba (by have := HZ.out; omega)).mono (show w.heap.size ≤ (W0.alloc (.cells #[.int .i64 d.next, .bool u] 35)).heap.size by rw [hza]; omega)
  have hBa := HB0.out.trans (hba.mono (by have := HZ.out; omega))
  obtain ⟨W1, hW1⟩ : ∃ x, W0.alloc (.cells #[.int .i64 d.next, .bool u] 35) = x := ⟨_, rfl⟩
  rw [hW1] at hXa hXb hXc hza hsta hBa ⊢
  have HXA := Lib.hid hXa
  have HXB := Lib.hid hXb
  have HXC := Lib.hid hXc
  have HZA := Lib.hid hza
  have HSA := Lib.hid hsta
  have HBA := Lib.hid hBa
  clear hba hXa hXb hXc hza hsta hBa hW1 c2 c3 t1 t2
  have c3 := (cell_of_block HXA.out 3).trans (show _ = some (.pointer p) from rfl)
  have m0 := (cell_of_block HXC.out 0).trans (show _ = some (.int .i64 d.next) from rfl)
  have m1 := (cell_of_block HXC.out 1).trans (show _ = some (.bool u) from rfl)
  go_wp2_with fail
  refine (push_any W1 _ ts.reverse p d.next u HSA.out (Nat.le_refl _) HL.out).mono ?_
  rintro E w2 ⟨g, rfl, hg, hsp, hb2⟩
  have hza := HZA.out
  have hX2 := (hb2.block w.heap.size (by omega)).trans HXA.out
  have hY2 := (hb2.block (w.heap.size + 1) (by omega)).trans HXB.out
  have hZ := HZ.out
  have hM2 := (hb2.block W0.heap.size (by omega)).trans HXC.out
  have hBB2 : Below w.heap.size w w2 := HBA.out.trans (hb2.mono (by omega))
  have hg3 := frozen_of_block hX2 3
  have hd3 := (cell_of_block hX2 3).trans (show _ = some (.pointer p) from rfl)
  have hs3 := hsp.setType hX2 (by decide) 3 (.pointer (some ⟨g, 0, none⟩))
  have hX3 := set_keeps hX2 3 (.pointer (some ⟨g, 0, none⟩))
  have hY3 : (w2.setCell ⟨w.heap.size, 3, none⟩ (.pointer (some ⟨g, 0, none⟩))).heap[w.heap.size + 1]? = _ := (heap_set (show w.heap.size + 1 ≠ w.heap.size by omega)).trans hY2
  have hM3 : (w2.setCell ⟨w.heap.size, 3, none⟩ (.pointer (some ⟨g, 0, none⟩))).heap[W0.heap.size]? = _ := (heap_set (show W0.heap.size ≠ w.heap.size by omega)).trans hM2
  have hB3 : Below w.heap.size w (w2.setCell ⟨w.heap.size, 3, none⟩ (.pointer (some ⟨g, 0, none⟩))) := hBB2.setCell (Nat.le_refl _) _
  have hz3 : (w2.setCell ⟨w.heap.size, 3, none⟩ (.pointer (some ⟨g, 0, none⟩))).heap.size = w2.heap.size := by simp [World.setCell]
  clear c3 m0 m1
  go_upto_region 5 with fail
  obtain ⟨W3, hW3⟩ : ∃ x, w2.setCell ⟨w.heap.size, 3, none⟩ (.pointer (some ⟨g, 0, none⟩)) = x := ⟨_, rfl⟩
  rw [hW3] at hs3 hX3 hY3 hM3 hB3 hz3 ⊢
  rw [← hz3] at hs3
  clear hg3 hd3 hX2 hY2 hM2 hBB2 hsp hW3
  have hX3' : W3.heap[w.heap.size]? = some (.cells #[.int .i64 d.val, .bool d.alive, .int .i64 d.next, .pointer (some ⟨g, 0, none⟩)] 96 (0, 0)) := hX3
  clear hX3
  have n2 := (cell_of_block hX3' 2).trans (show _ = some (.int .i64 d.next) from rfl)
  have nf := frozen_of_block hX3' 2
  have hs4 := hs3.setType hX3' (by decide) 2 (.int .i64 (d.next + 1))
  have hX4 : (W3.setCell ⟨w.heap.size, 2, none⟩ (.int .i64 (d.next + 1))).heap[w.heap.size]? = some (.cells #[.int .i64 d.val, .bool d.alive, .int .i64 (d.next + 1), .pointer (some ⟨g, 0, none⟩)] 96 (0, 0)) := set_keeps hX3' 2 _
  have hY4 : (W3.setCell ⟨w.heap.size, 2, none⟩ (.int .i64 (d.next + 1))).heap[w.heap.size + 1]? = _ := (heap_set (show w.heap.size + 1 ≠ w.heap.size by omega)).trans hY3
  have hM4 : (W3.setCell ⟨w.heap.size, 2, none⟩ (.int .i64 (d.next + 1))).heap[W0.heap.size]? = _ := (heap_set (show W0.heap.size ≠ w.heap.size by omega)).trans hM3
  have hB4 : Below w.heap.size w (W3.setCell ⟨w.heap.size, 2, none⟩ (.int .i64 (d.next + 1))) := hB3.setCell (Nat.le_refl _) _
  have hz4 : (W3.setCell ⟨w.heap.size, 2, none⟩ (.int .i64 (d.next + 1))).heap.size = W3.heap.size := by simp [World.setCell]
  have hw1 := HW1.out
  go_upto_region 6 with fail
  obtain ⟨W4, hW4⟩ : ∃ x, W3.setCell ⟨w.heap.size, 2, none⟩ (.int .i64 (d.next + 1)) = x := ⟨_, rfl⟩
  rw [hW4] at hs4 hX4 hY4 hM4 hB4 hz4 ⊢
  rw [← hz4] at hs4
  have hle : w.heap.size + 3 ≤ W4.heap.size := by have := hb2.size; omega
  clear hW4 n2 nf hs3 hX3' hY3 hM3 hB3 hw1 hb2 hza hz3 hz4 hg
  rw [hZ] at hM4
  have z0 := (cell_of_block hY4 0).trans (show _ = some (.int .i64 0) from rfl)
  have z1 := (cell_of_block hY4 1).trans (show _ = some (.int .i64 0) from rfl)
  have hP0 : PutK (w.heap.size + 1) w.heap.size (w.heap.size + 2) (.int .i64 d.val) (.bool d.alive) (.int .i64 (d.next + 1)) (.pointer (some ⟨g, 0, none⟩)) (.int .i64 d.next) W4 := ⟨(cell_of_block hM4 0).trans rfl, (cell_of_block hX4 0).trans rfl, (cell_of_block hX4 1).trans rfl, (cell_of_block hX4 2).trans rfl, (cell_of_block hX4 3).trans rfl, by unfold held; rw [z0]; rfl, by unfold held; rw [z1]; rfl, frozen_of_block hY4 0, frozen_of_block hY4 1⟩
  have hP1 : PutK (w.heap.size + 1) w.heap.size (w.heap.size + 2) (.int .i64 d.val) (.bool d.alive) (.int .i64 (d.next + 1)) (.pointer (some ⟨g, 0, none⟩)) (.int .i64 d.next) W4.drew := hP0
  have hng : ¬ w.heap.size + 1 = w.heap.size := by omega
  have hnm : ¬ w.heap.size + 1 = w.heap.size + 2 := by omega
  have HY4 := Lib.hid hY4
  have HS4 := Lib.hid hs4
  have HB4 := Lib.hid hB4
  have HLE := Lib.hid hle
  have HM := Lib.hid (H.out.below hB4)
  have HEQ : Hid (((⟨d.next, u⟩ : TagD) :: ts.reverse) = (ts ++ [(⟨d.next, u⟩ : TagD)]).reverse) := by show _ = _; simp
  rw [HEQ.out] at HS4
  clear hX4 hY4 hM4 hs4 hB4 z0 z1 hle hZ
  go_region_held3 (PutK (w.heap.size + 1) w.heap.size (w.heap.size + 2) (.int .i64 d.val) (.bool d.alive) (.int .i64 (d.next + 1)) (.pointer (some ⟨g, 0, none⟩)) (.int .i64 d.next))
    (first | with_reducible exact hP1 | with_reducible exact hS1 | with_reducible exact putK_store hng hnm hS1 _ _)
    ((go_at_call 76; refine (with_any cs A q c i ⟨d.val, d.alive, d.next + 1, ts ++ [⟨d.next, u⟩]⟩ (some ⟨g, 0, none⟩) _ ?_ hl hiq ?_).mono ?_; (exact HM.out.below ((Below.refl _ _).drew)); (exact HS4.out.below ((Below.refl _ _).drew) (Nat.le_refl _)); rintro E w' ⟨vv, rfl, hR, hbn⟩; have hS1 := putK_below hP1 hbn))
  have hbc : Below W4.heap.size W4 w' := ((Below.refl _ _).drew).trans hbn
  have hle := HLE.out
  have hy := (hbc.block (w.heap.size + 1) (by omega)).trans HY4.out
  obtain ⟨e0, e1⟩ := ptr_store hy (.int .i64 (i : Int)) (.int .i64 d.next)
  have HR := Lib.hid (((hR.setType (o := 0) (x := .int .i64 (i : Int)) hy (by decide) (show w.heap.size + 1 < W4.drew.heap.size by show w.heap.size + 1 < W4.heap.size; omega)).setType (o := 1) (x := .int .i64 d.next) (set_keeps hy _ _) (by decide) (show w.heap.size + 1 < W4.drew.heap.size by show w.heap.size + 1 < W4.heap.size; omega)).mono (show w.heap.size ≤ W4.drew.heap.size by show w.heap.size ≤ W4.heap.size; omega))
  have hb5 : Below w.heap.size w ((w'.setCell ⟨w.heap.size + 1, 0, none⟩ (.int .i64 (i : Int))).setCell ⟨w.heap.size + 1, 1, none⟩ (.int .i64 d.next)) := ((HB4.out.trans (hbc.mono (by omega))).setCell (by simp) _).setCell (by simp) _
  clear ‹PutK _ _ _ _ _ _ _ _ ((w'.setCell _ _).setCell _ _)› hS1 hP0 hP1 hR hbn hbc hy hle
  generalize (w'.setCell ⟨w.heap.size + 1, 0, none⟩ (.int .i64 (i : Int))).setCell ⟨w.heap.size + 1, 1, none⟩ (.int .i64 d.next) = w5 at *
  go_wp2_with fail
  exact bodyPost_ret (v := .tuple #[vv, .agg #[.int .i64 (i : Int), .int .i64 d.next], .nilIface]) (by simp [results, Tryd.results84, go_sem, e0, e1]) rfl ⟨_, rfl, by first | exact HR.out | exact HR.out.below (Below.refl _ _).drew, by first | exact hb5 | exact hb5.drew⟩

end Go.Proofs.YtfkoobdlhdolbaaDoor
