/-
  The program's NewCell.
-/
import Derived.Test.YtboadhlhpnbpiaaDoorAdk
import Derived.Test.YtboadhlhpnbpiaaDoorMemP
import Derived.Test.YtboadhlhpnbpiaaDoorCelI
import Derived.Test.YtboadhlhpnbpiaaDoorCelM
namespace Go.Proofs.YtboadhlhpnbpiaaDoor
open Go.RowKit Go.Deep
set_option linter.unusedVariables false

theorem ErrI.below {w w' : World} {ev : Value} (h : ErrI w ev) (hb : Below w.heap.size w w') : ErrI w' ev := (hb.cell (World.block_lt_of_cell? w _ h)).trans h

/-- The two cells of an answer's pointer, behind a store. -/
theorem ptr_store {w : World} {n : Nat} {a0 a1 : Value} (hX : w.heap[n]? = some (.cells #[a0, a1] 26 (0, 0))) (a b : Value) :
    ((w.setCell ⟨n, 0, none⟩ a).setCell ⟨n, 1, none⟩ b).cell? ⟨n, 0, none⟩ = some a ∧ ((w.setCell ⟨n, 0, none⟩ a).setCell ⟨n, 1, none⟩ b).cell? ⟨n, 1, none⟩ = some b :=
  set_pair ((cell_of_block hX 0).trans rfl) ((cell_of_block hX 1).trans rfl) a b

/-- What holds while a pair of cells is answered: the two cells that are read, and the two that are written. -/
abbrev PairK (n m : Nat) (a0 a1 : Value) (w : World) : Prop := w.cell? ⟨m, 0, none⟩ = some a0 ∧ w.cell? ⟨m, 1, none⟩ = some a1 ∧ w.cell? ⟨n, 0, none⟩ = some (held w ⟨n, 0, none⟩) ∧ w.cell? ⟨n, 1, none⟩ = some (held w ⟨n, 1, none⟩) ∧ w.frozen? ⟨n, 0, none⟩ = false ∧ w.frozen? ⟨n, 1, none⟩ = false

theorem pairK_below {n m : Nat} {a0 a1 : Value} {w w' : World} (h : PairK n m a0 a1 w) (hb : Below w.heap.size w w') : PairK n m a0 a1 w' := by
  obtain ⟨h1, h2, h3, h4, h5, h6⟩ := h
  have e : ∀ {a u}, w.cell? a = some u → w'.cell? a = w.cell? a := fun k => hb.cell (World.block_lt_of_cell? w _ k)
  exact ⟨(e h1).trans h1, (e h2).trans h2, held_cell (e h3) h3, held_cell (e h4) h4, (hb.frozen (World.block_lt_of_cell? w _ h3)).trans h5, (hb.frozen (World.block_lt_of_cell? w _ h4)).trans h6⟩

theorem pairK_store {n m : Nat} {a0 a1 : Value} {w : World} (hn : ¬ n = m) (h : PairK n m a0 a1 w) (a b : Value) : PairK n m a0 a1 ((w.setCell ⟨n, 0, none⟩ a).setCell ⟨n, 1, none⟩ b) := by
  obtain ⟨h1, h2, h3, h4, h5, h6⟩ := h
  obtain ⟨z0, z1⟩ := set_pair h3 h4 a b
  have k : ∀ {a' : Addr}, n ≠ a'.block → ((w.setCell ⟨n, 0, none⟩ a).setCell ⟨n, 1, none⟩ b).cell? a' = w.cell? a' := fun hne => (World.cell?_setCell_other _ _ _ _ (fun e => hne (congrArg Addr.block e))).trans (World.cell?_setCell_other _ _ _ _ (fun e => hne (congrArg Addr.block e)))
  refine ⟨(k hn).trans h1, (k hn).trans h2, by unfold held; rw [z0]; rfl, by unfold held; rw [z1]; rfl, ?_, ?_⟩
  · rw [World.frozen?_setCell, World.frozen?_setCell]; exact h5
  · rw [World.frozen?_setCell, World.frozen?_setCell]; exact h6

theorem rowC_form {w : World} {B : Nat} {v : Value} {cs : List CellD} (h : RowC w B v cs) : ∃ A n c, v = .slice A n c := by
  obtain ⟨rs, _, h2⟩ := h
  obtain ⟨A, c, hv, _⟩ := own_form h2.own
  exact ⟨A, _, c, hv⟩

set_option maxRecDepth 100000 in
set_option maxHeartbeats 600000 in
theorem implNewCell_any (cs : List CellD) (A : Option Addr) (q c : Nat) (v : Int) (w : World) (T : TypeId) (u : Value) (h : RdC w (.slice A q c) cs) (hl : cs.length + tagSum cs ≤ 1048590) (hG : ErrI w (.iface T u)) :
    Calls Tryd.prog 13 #[.slice A q c, .int .i64 v] w (Post5 (newA cs v).1 (newA cs v).2.1 (newA cs v).2.2 w) := by
  obtain ⟨hq, hc1, hc2⟩ := h.len
  subst hq
  have hbo := (Below.refl w.heap.size w).alloc (Nat.le_refl _) (.cells #[.int .i64 0, .int .i64 0] 26)
  have hX := heap_alloc_new w (.cells #[.int .i64 0, .int .i64 0] 26)
  have hz : (w.alloc (.cells #[.int .i64 0, .int .i64 0] 26)).heap.size = w.heap.size + 1 := by simp
  have HX := Lib.hid hX
  have HZ := Lib.hid hz
  have H := Lib.hid h
  have HL := Lib.hid hl
  have HG := Lib.hid hG
  have hval := implCellsValid_any cs A cs.length c _ (h.below hbo)
  have HBO := Lib.hid hbo
  clear hbo hX hz h hl hG
  cases hB : memB cs with
  | false =>
    have hA : newA cs v = ([], (0, 0), false) := by unfold newA; rw [if_neg (by simp [hB])]
    rw [hA]
    rw [hB] at hval
    have HV := Lib.hid hval
    clear hval hB hA
    go_enter Tryd.func13, Tryd.ntmps13
    go_wp2_with fail
    refine HV.out.mono ?_
    rintro E w1 ⟨rfl, hb1⟩
    rw [HZ.out] at hb1
    have hX1 := (hb1.block w.heap.size (by omega)).trans HX.out
    have hbb : Below w.heap.size w w1 := HBO.out.trans (hb1.mono (by omega))
    have x0 : w1.cell? ⟨w.heap.size, 0, none⟩ = some (.int .i64 0) := (cell_of_block hX1 0).trans rfl
    have x1 : w1.cell? ⟨w.heap.size, 1, none⟩ = some (.int .i64 0) := (cell_of_block hX1 1).trans rfl
    have f0 := frozen_of_block hX1 0
    have f1 := frozen_of_block hX1 1
    clear hb1 hX1
    go_wp2_with fail
    exact bodyPost_ret (v := .tuple #[.slice none 0 0, .agg #[.int .i64 0, .int .i64 0], .bool false]) (by simp [results, Tryd.results13, go_sem, x0, x1]) rfl ⟨_, _, _, rfl, RowC.nil _ _, (hbb.setCell (Nat.le_refl _) _).setCell (Nat.le_refl _) _⟩
  | true =>
    rw [hB] at hval
    have HV := Lib.hid hval
    by_cases hgood : 0 ≤ v ∧ v ≤ 9 ∧ cs.length < 200
    · have hA : newA cs v = (cs ++ [⟨v, true, 1, [⟨0, true⟩]⟩], ((cs.length : Int), (0 : Int)), true) := by unfold newA; rw [if_pos ⟨hB, hgood.1, hgood.2.1, hgood.2.2⟩]
      rw [hA]
      obtain ⟨g1, g2, g3⟩ := hgood
      clear hval hB hA
      go_enter Tryd.func13, Tryd.ntmps13
      go_wp2_with fail
      refine HV.out.mono ?_
      rintro E w1 ⟨rfl, hb1⟩
      rw [HZ.out] at hb1
      have hX1 := (hb1.block w.heap.size (by omega)).trans HX.out
      have hbb1 : Below w.heap.size w w1 := HBO.out.trans (hb1.mono (by omega))
      have hz1 := hb1.size
      rw [HZ.out] at hz1
      have HX1 := Lib.hid hX1
      have HBB1 := Lib.hid hbb1
      clear hb1 hX1 hbb1
      go_wp2_with fail
      refine (memoryOf_any cs A cs.length c w1 (H.out.below HBB1.out) (by have := HL.out; omega)).mono ?_
      rintro E w2 ⟨v2, rfl, hM2, hb2⟩
      have hX2 := (hb2.block w.heap.size (by omega)).trans HX1.out
      have hbb2 : Below w.heap.size w w2 := HBB1.out.trans (hb2.mono HBB1.out.size)
      have hz2 := hb2.size
      obtain ⟨A2, c2, hv2, -, -, -⟩ := hM2.reads
      subst hv2
      have HM2 := Lib.hid hM2.reads
      have HX2 := Lib.hid hX2
      have HBB2 := Lib.hid hbb2
      clear hb2 hX2 hbb2 hM2
      go_wp2_with fail
      refine (add_ok cs A2 cs.length c2 v w2 HM2.out g1 g2 g3).mono ?_
      rintro E w3 ⟨v3, rfl, hM3, hb3⟩
      have hX3 := (hb3.block w.heap.size (by omega)).trans HX2.out
      have hbb3 : Below w.heap.size w w3 := HBB2.out.trans (hb3.mono HBB2.out.size)
      have hz3 := hb3.size
      obtain ⟨A3, c3, hv3, -, -, -⟩ := hM3.reads
      subst hv3
      have HM3 := Lib.hid (hM3.reads.below ((Below.refl _ _).alloc (Nat.le_refl _) (.cells #[.int .i64 (cs.length : Int), .int .i64 0] 26)))
      have HX3 := Lib.hid hX3
      have HBB3 := Lib.hid hbb3
      clear hb3 hX3 hbb3 hM3
      go_wp2_with fail
      have hbw := (Below.refl w3.heap.size w3).alloc (Nat.le_refl _) (.cells #[.int .i64 (cs.length : Int), .int .i64 0] 26)
      have hX4 := (hbw.block w.heap.size (by omega)).trans HX3.out
      have hX5 := heap_alloc_new w3 (.cells #[.int .i64 (cs.length : Int), .int .i64 0] 26)
      have hz4 : (w3.alloc (.cells #[.int .i64 (cs.length : Int), .int .i64 0] 26)).heap.size = w3.heap.size + 1 := by simp
      have HBB4 : Hid (Below w.heap.size w (w3.alloc (.cells #[.int .i64 (cs.length : Int), .int .i64 0] 26))) := HBB3.out.trans (hbw.mono (by omega))
      obtain ⟨W4, hW4⟩ : ∃ W4, w3.alloc (.cells #[.int .i64 (cs.length : Int), .int .i64 0] 26) = W4 := ⟨_, rfl⟩
      rw [hW4] at HM3 hX4 hX5 hz4 HBB4 ⊢
      have hlen : (cs ++ [(⟨v, true, 1, [⟨0, true⟩]⟩ : CellD)]).length = cs.length + 1 := by simp
      rw [hlen] at HM3
      have hts : (cs ++ [(⟨v, true, 1, [⟨0, true⟩]⟩ : CellD)]).length + tagSum (cs ++ [(⟨v, true, 1, [⟨0, true⟩]⟩ : CellD)]) ≤ 1048600 := by
        have := HL.out
        rw [tagSum_snoc, hlen]
        simp only [List.length_cons, List.length_nil]
        omega
      have hnm : ¬ w.heap.size = w3.heap.size := by omega
      have z0 := (cell_of_block hX4 0).trans (show _ = some (.int .i64 0) from rfl)
      have z1 := (cell_of_block hX4 1).trans (show _ = some (.int .i64 0) from rfl)
      have hP0 : PairK w.heap.size w3.heap.size (.int .i64 (cs.length : Int)) (.int .i64 0) W4 := ⟨(cell_of_block hX5 0).trans rfl, (cell_of_block hX5 1).trans rfl, by unfold held; rw [z0]; rfl, by unfold held; rw [z1]; rfl, frozen_of_block hX4 0, frozen_of_block hX4 1⟩
      have hP1 : PairK w.heap.size w3.heap.size (.int .i64 (cs.length : Int)) (.int .i64 0) W4.drew := hP0
      have HX4 := Lib.hid hX4
      clear hX4 hX5 hW4 z0 z1 hbw hlen
      go_region_held3 (PairK w.heap.size w3.heap.size (.int .i64 (cs.length : Int)) (.int .i64 0))
        (first | with_reducible exact hP1 | with_reducible exact hS1 | with_reducible exact pairK_store hnm hS1 _ _)
        ((go_at_call 38; refine (plain_any _ A3 (cs.length + 1) c3 _ ?_ hts).mono ?_; (exact HM3.out.below (Below.refl _ _).drew); rintro E w' ⟨vv, rfl, hR, hbn⟩; obtain ⟨Ao, no, co, hvo⟩ := rowC_form hR; subst hvo; have hS1 := pairK_below hP1 hbn))
      have hbc : Below W4.heap.size W4 w' := ((Below.refl _ _).drew).trans hbn
      obtain ⟨e0, e1⟩ := ptr_store ((hbc.block w.heap.size (by omega)).trans HX4.out) (.int .i64 (cs.length : Int)) (.int .i64 0)
      have HR := Lib.hid (((hR.setLow (o := 0) (x := .int .i64 (cs.length : Int)) (show w.heap.size < W4.drew.heap.size by show w.heap.size < W4.heap.size; omega)).setLow (o := 1) (x := .int .i64 0) (show w.heap.size < W4.drew.heap.size by show w.heap.size < W4.heap.size; omega)).mono (show w.heap.size ≤ W4.drew.heap.size by show w.heap.size ≤ W4.heap.size; omega))
      have hb5 : Below w.heap.size w ((w'.setCell ⟨w.heap.size, 0, none⟩ (.int .i64 (cs.length : Int))).setCell ⟨w.heap.size, 1, none⟩ (.int .i64 0)) := ((HBB4.out.trans (hbc.mono (by omega))).setCell (Nat.le_refl _) _).setCell (Nat.le_refl _) _
      clear ‹PairK w.heap.size w3.heap.size _ _ ((w'.setCell _ _).setCell _ _)› hS1 hP0 hP1 hR hbn hbc
      generalize (w'.setCell ⟨w.heap.size, 0, none⟩ (.int .i64 (cs.length : Int))).setCell ⟨w.heap.size, 1, none⟩ (.int .i64 0) = w5 at *
      go_wp2_with fail
      exact bodyPost_ret (v := .tuple #[.slice Ao no co, .agg #[.int .i64 (cs.length : Int), .int .i64 0], .bool true]) (by simp [results, Tryd.results13, go_sem, e0, e1]) rfl ⟨_, _, _, rfl, by first | exact HR.out | exact HR.out.below (Below.refl _ _).drew, by first | exact hb5 | exact hb5.drew⟩
    · have hA : newA cs v = ([], (0, 0), false) := by unfold newA; rw [if_neg (fun e => hgood ⟨e.2.1, e.2.2.1, e.2.2.2⟩)]
      rw [hA]
      clear hval hB hA
      go_enter Tryd.func13, Tryd.ntmps13
      go_wp2_with fail
      refine HV.out.mono ?_
      rintro E w1 ⟨rfl, hb1⟩
      rw [HZ.out] at hb1
      have hX1 := (hb1.block w.heap.size (by omega)).trans HX.out
      have hbb1 : Below w.heap.size w w1 := HBO.out.trans (hb1.mono (by omega))
      have hz1 := hb1.size
      rw [HZ.out] at hz1
      have HX1 := Lib.hid hX1
      have HBB1 := Lib.hid hbb1
      clear hb1 hX1 hbb1
      go_wp2_with fail
      refine (memoryOf_any cs A cs.length c w1 (H.out.below HBB1.out) (by have := HL.out; omega)).mono ?_
      rintro E w2 ⟨v2, rfl, hM2, hb2⟩
      have hX2 := (hb2.block w.heap.size (by omega)).trans HX1.out
      have hbb2 : Below w.heap.size w w2 := HBB1.out.trans (hb2.mono HBB1.out.size)
      have hz2 := hb2.size
      obtain ⟨A2, c2, hv2, -, -, -⟩ := hM2.reads
      subst hv2
      have HM2 := Lib.hid hM2.reads
      have HX2 := Lib.hid hX2
      have HBB2 := Lib.hid hbb2
      clear hb2 hX2 hbb2 hM2
      go_wp2_with fail
      refine (add_bad cs A2 cs.length c2 v w2 T u HM2.out (HG.out.below HBB2.out) hgood).mono ?_
      rintro E w3 ⟨rfl, hb3⟩
      have hX3 := (hb3.block w.heap.size (by omega)).trans HX2.out
      have hbb3 : Below w.heap.size w w3 := HBB2.out.trans (hb3.mono HBB2.out.size)
      have hz3 := hb3.size
      have hX4 : ∀ o, (w3.alloc o).heap[w.heap.size]? = some (.cells #[.int .i64 0, .int .i64 0] 26 (0, 0)) := fun o => (Below.heap_alloc _ _ _ (by omega)).trans hX3
      have x0 : ∀ o, (w3.alloc o).cell? ⟨w.heap.size, 0, none⟩ = some (.int .i64 0) := fun o => (cell_of_block (hX4 o) 0).trans rfl
      have x1 : ∀ o, (w3.alloc o).cell? ⟨w.heap.size, 1, none⟩ = some (.int .i64 0) := fun o => (cell_of_block (hX4 o) 1).trans rfl
      have f0 : ∀ o, (w3.alloc o).frozen? ⟨w.heap.size, 0, none⟩ = false := fun o => frozen_of_block (hX4 o) 0
      have f1 : ∀ o, (w3.alloc o).frozen? ⟨w.heap.size, 1, none⟩ = false := fun o => frozen_of_block (hX4 o) 1
      clear hb3 hX3 hX4
      go_wp2_with fail
      exact bodyPost_ret (v := .tuple #[.slice none 0 0, .agg #[.int .i64 0, .int .i64 0], .bool false]) (by simp [results, Tryd.results13, go_sem, x0, x1]) rfl ⟨_, _, _, rfl, RowC.nil _ _, ((hbb3.alloc (by omega) _).setCell (Nat.le_refl _) _).setCell (Nat.le_refl _) _⟩

end Go.Proofs.YtboadhlhpnbpiaaDoor
