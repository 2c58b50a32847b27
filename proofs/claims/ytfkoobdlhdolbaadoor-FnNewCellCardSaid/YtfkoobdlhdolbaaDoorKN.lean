/-
  NewCell of the program.
-/
import Derived.Test.YtfkoobdlhdolbaaDoorNw1
import Derived.Test.YtfkoobdlhdolbaaDoorAdk
import Derived.Test.YtfkoobdlhdolbaaDoorKA
import Derived.Test.YtfkoobdlhdolbaaDoorKB
import Derived.Test.YtfkoobdlhdolbaaDoorKD
import Derived.Test.YtfkoobdlhdolbaaDoorKO
import Derived.Test.YtfkoobdlhdolbaaDoorCelI
namespace Go.Proofs.YtfkoobdlhdolbaaDoor
open Go.RowKit Go.Deep
set_option linter.unusedVariables false

set_option maxRecDepth 100000 in
set_option maxHeartbeats 600000 in
theorem implNewCell_any (cs : List CellD) (A : Option Addr) (q c : Nat) (v : Int) (w : World) (T : TypeId) (u : Value) (h : RdC w (.slice A q c) cs) (hl : cs.length + tagSum cs ≤ 1048590) (hG : ErrI w (.iface T u)) :
    Calls Tryd.prog 34 #[.slice A q c, .int .i64 v] w (Post5 (newA cs v).1 (newA cs v).2.1 (newA cs v).2.2 w) := by
  obtain ⟨hq, hc1, hc2⟩ := h.len
  subst hq
  have hbo := (Below.refl w.heap.size w).alloc (Nat.le_refl _) (.cells #[.int .i64 0, .int .i64 0] 25)
  have hX := heap_alloc_new w (.cells #[.int .i64 0, .int .i64 0] 25)
  have hz : (w.alloc (.cells #[.int .i64 0, .int .i64 0] 25)).heap.size = w.heap.size + 1 := by simp
  have HX := Lib.hid hX
  have HZ := Lib.hid hz
  have H := Lib.hid h
  have HL := Lib.hid hl
  have HG := Lib.hid hG
  have hval := implCellsValid_any cs A cs.length c _ (h.below hbo)
  have HBO := Lib.hid hbo
  clear hbo hX hz h hl hG
  cases hB : memB cs with
  | false =>
    have hA : newA cs v = ([], (0, 0), false) := by unfold newA; rw [if_neg (by simp [hB])]
    rw [hA]
    rw [hB] at hval
    have HV := Lib.hid hval
    clear hval hB hA
    go_enter Tryd.func34, Tryd.ntmps34
    go_wp2_with fail
    refine HV.out.mono ?_
    rintro E w1 ⟨rfl, hb1⟩
    rw [HZ.out] at hb1
    have hX1 := (hb1.block w.heap.size (by omega)).trans HX.out
    have hbb : Below w.heap.size w w1 := HBO.out.trans (hb1.mono (by omega))
    have x0 : w1.cell? ⟨w.heap.size, 0, none⟩ = some (.int .i64 0) := (cell_of_block hX1 0).trans rfl
    have x1 : w1.cell? ⟨w.heap.size, 1, none⟩ = some (.int .i64 0) := (cell_of_block hX1 1).trans rfl
    have f0 := frozen_of_block hX1 0
    have f1 := frozen_of_block hX1 1
    clear hb1 hX1
    go_wp2_with fail
    exact bodyPost_ret (v := .tuple #[.slice none 0 0, .agg #[.int .i64 0, .int .i64 0], .bool false]) (by simp [results, Tryd.results34, go_sem, x0, x1]) rfl ⟨_, _, _, rfl, RowC.nil _ _, (hbb.setCell (Nat.le_refl _) _).setCell (Nat.le_refl _) _⟩
  | true =>
    rw [hB] at hval
    have HV := Lib.hid hval
    by_cases hgood : 0 ≤ v ∧ v ≤ 9 ∧ cs.length < 200
    · have hA : newA cs v = (cs ++ [⟨v, true, 1, [⟨0, true⟩]⟩], ((cs.length : Int), (0 : Int)), true) := by unfold newA; rw [if_pos ⟨hB, hgood.1, hgood.2.1, hgood.2.2⟩]
      rw [hA]
      obtain ⟨g1, g2, g3⟩ := hgood
      clear hval hB hA
      go_enter Tryd.func34, Tryd.ntmps34
      go_wp2_with fail
      refine HV.out.mono ?_
      rintro E w1 ⟨rfl, hb1⟩
      rw [HZ.out] at hb1
      have hX1 := (hb1.block w.heap.size (by omega)).trans HX.out
      have hbb1 : Below w.heap.size w w1 := HBO.out.trans (hb1.mono (by omega))
      have hz1 := hb1.size
      rw [HZ.out] at hz1
      have HX1 := Lib.hid hX1
      have HBB1 := Lib.hid hbb1
      clear hb1 hX1 hbb1
      go_wp2_with fail
      refine (memoryOf_any cs A cs.length c w1 (H.out.below HBB1.out) (by have := HL.out; omega)).mono ?_
      rintro E w2 ⟨v2, rfl, hM2, hb2⟩
      have hX2 := (hb2.block w.heap.size (by omega)).trans HX1.out
      have hbb2 : Below w.heap.size w w2 := HBB1.out.trans (hb2.mono HBB1.out.size)
      have hz2 := hb2.size
      obtain ⟨A2, c2, hv2, -, -, -⟩ := hM2.reads
      subst hv2
      have HM2 := Lib.hid hM2.reads
      have HX2 := Lib.hid hX2
      have HBB2 := Lib.hid hbb2
      clear hb2 hX2 hbb2 hM2
      go_wp2_with fail
      refine (add_ok cs A2 cs.length c2 v w2 HM2.out g1 g2 g3).mono ?_
      rintro E w3 ⟨v3, rfl, hM3, hb3⟩
      have hX3 := (hb3.block w.heap.size (by omega)).trans HX2.out
      have hbb3 : Below w.heap.size w w3 := HBB2.out.trans (hb3.mono HBB2.out.size)
      have hz3 := hb3.size
      obtain ⟨A3, c3, hv3, -, -, -⟩ := hM3.reads
      subst hv3
      have HM3 := Lib.hid (hM3.reads.below ((Below.refl _ _).alloc (Nat.le_refl _) (.cells #[.int .i64 (cs.length : Int), .int .i64 0] 25)))
      have HX3 := Lib.hid hX3
      have HBB3 := Lib.hid hbb3
      clear hb3 hX3 hbb3 hM3
      go_wp2_with fail
      have hbw := (Below.refl w3.heap.size w3).alloc (Nat.le_refl _) (.cells #[.int .i64 (cs.length : Int), .int .i64 0] 25)
      have hX4 := (hbw.block w.heap.size (by omega)).trans HX3.out
      have hX5 := heap_alloc_new w3 (.cells #[.int .i64 (cs.length : Int), .int .i64 0] 25)
      have hz4 : (w3.alloc (.cells #[.int .i64 (cs.length : Int), .int .i64 0] 25)).heap.size = w3.heap.size + 1 := by simp
      have HBB4 : Hid (Below w.heap.size w (w3.alloc (.cells #[.int .i64 (cs.length : Int), .int .i64 0] 25))) := HBB3.out.trans (hbw.mono (by omega))
      obtain ⟨W4, hW4⟩ : ∃ W4, w3.alloc (.cells #[.int .i64 (cs.length : Int), .int .i64 0] 25) = W4 := ⟨_, rfl⟩
      rw [hW4] at HM3 hX4 hX5 hz4 HBB4 ⊢
      have hlen : (cs ++ [(⟨v, true, 1, [⟨0, true⟩]⟩ : CellD)]).length = cs.length + 1 := by simp
      rw [hlen] at HM3
      have hts : (cs ++ [(⟨v, true, 1, [⟨0, true⟩]⟩ : CellD)]).length + tagSum (cs ++ [(⟨v, true, 1, [⟨0, true⟩]⟩ : CellD)]) ≤ 1048600 := by
        have := HL.out
        rw [tagSum_snoc, hlen]
        simp only [List.length_cons, List.length_nil]
        omega
      have hnm : ¬ w.heap.size = w3.heap.size := by omega
      have z0 := (cell_of_block hX4 0).trans (show _ = some (.int .i64 0) from rfl)
      have z1 := (cell_of_block hX4 1).trans (show _ = some (.int .i64 0) from rfl)
      have hP0 : PairK w.heap.size w3.heap.size (.int .i64 (cs.length : Int)) (.int .i64 0) W4 := ⟨(cell_of_block hX5 0).trans rfl, (cell_of_block hX5 1).trans rfl, by unfold held; rw [z0]; rfl, by unfold held; rw [z1]; rfl, frozen_of_block hX4 0, frozen_of_block hX4 1⟩
      have hP1 : PairK w.heap.size w3.heap.size (.int .i64 (cs.length : Int)) (.int .i64 0) W4.drew := hP0
      have HX4 := Lib.hid hX4
      clear hX4 hX5 hW4 z0 z1 hbw hlen
      go_region_held3 (PairK w.heap.size w3.heap.size (.int .i64 (cs.length : Int)) (.int .i64 0))
        (first | with_reducible exact hP1 | with_reducible exact hS1 | with_reducible exact pairK_store hnm hS1 _ _)
        ((go_at_call 64; refine (plain_any _ A3 (cs.length + 1) c3 _ ?_ hts).mono ?_; (exact HM3.out.below (Below.refl _ _).drew); rintro E w' ⟨vv, rfl, hR, hbn⟩; obtain ⟨Ao, no, co, hvo⟩ := rowC_form hR; subst hvo; have hS1 := pairK_below hP1 hbn))
      have hbc : Below W4.heap.size W4 w' := ((Below.refl _ _).drew).trans hbn
      obtain ⟨e0, e1⟩ := ptr_store ((hbc.block w.heap.size (by omega)).trans HX4.out) (.int .i64 (cs.length : Int)) (.int .i64 0)
      have HR := Lib.hid (((hR.setLow (o := 0) (x := .int .i64 (cs.length : Int)) (show w.heap.size < W4.drew.heap.size by show w.heap.size < W4.heap.size; omega)).setLow (o := 1) (x := .int .i64 0) (show w.heap.size < W4.drew.heap.size by show w.heap.size < W4.heap.size; omega)).mono (show w.heap.size ≤ W4.drew.heap.size by show w.heap.size ≤ W4.heap.size; omega))
      have hb5 : Below w.heap.size w ((w'.setCell ⟨w.heap.size, 0, none⟩ (.int .i64 (cs.length : Int))).setCell ⟨w.heap.size, 1, none⟩ (.int .i64 0)) := ((HBB4.out.trans (hbc.mono (by omega))).setCell (Nat.le_refl _) _).setCell (Nat.le_refl _) _
      clear ‹PairK w.heap.size w3.heap.size _ _ ((w'.setCell _ _).setCell _ _)› hS1 hP0 hP1 hR hbn hbc
      generalize (w'.setCell ⟨w.heap.size, 0, none⟩ (.int .i64 (cs.length : Int))).setCell ⟨w.heap.size, 1, none⟩ (.int .i64 0) = w5 at *
      go_wp2_with fail
      exact bodyPost_ret (v := .tuple #[.slice Ao no co, .agg #[.int .i64 (cs.length : Int), .int .i64 0], .bool true]) (by simp [results, Tryd.results34, go_sem, e0, e1]) rfl ⟨_, _, _, rfl, by first | exact HR.out | exact HR.out.below (Below.refl _ _).drew, by first | exact hb5 | exact hb5.drew⟩
    · have hA : newA cs v = ([], (0, 0), false) := by unfold newA; rw [if_neg (fun e => hgood ⟨e.2.1, e.2.2.1, e.2.2.2⟩)]
      rw [hA]
      clear hval hB hA
      go_enter Tryd.func34, Tryd.ntmps34
      go_wp2_with fail
      refine HV.out.mono ?_
      rintro E w1 ⟨rfl, hb1⟩
      rw [HZ.out] at hb1
      have hX1 := (hb1.block w.heap.size (by omega)).trans HX.out
      have hbb1 : Below w.heap.size w w1 := HBO.out.trans (hb1.mono (by omega))
      have hz1 := hb1.size
      rw [HZ.out] at hz1
      have HX1 := Lib.hid hX1
      have HBB1 := Lib.hid hbb1
      clear hb1 hX1 hbb1
      go_wp2_with fail
      refine (memoryOf_any cs A cs.length c w1 (H.out.below HBB1.out) (by have := HL.out; omega)).mono ?_
      rintro E w2 ⟨v2, rfl, hM2, hb2⟩
      have hX2 := (hb2.block w.heap.size (by omega)).trans HX1.out
      have hbb2 : Below w.heap.size w w2 := HBB1.out.trans (hb2.mono HBB1.out.size)
      have hz2 := hb2.size
      obtain ⟨A2, c2, hv2, -, -, -⟩ := hM2.reads
      subst hv2
      have HM2 := Lib.hid hM2.reads
      have HX2 := Lib.hid hX2
      have HBB2 := Lib.hid hbb2
      clear hb2 hX2 hbb2 hM2
      go_wp2_with fail
      refine (add_bad cs A2 cs.length c2 v w2 T u HM2.out (HG.out.below HBB2.out) hgood).mono ?_
      rintro E w3 ⟨rfl, hb3⟩
      have hX3 := (hb3.block w.heap.size (by omega)).trans HX2.out
      have hbb3 : Below w.heap.size w w3 := HBB2.out.trans (hb3.mono HBB2.out.size)
      have hz3 := hb3.size
      have hX4 : ∀ o, (w3.alloc o).heap[w.heap.size]? = some (.cells #[.int .i64 0, .int .i64 0] 25 (0, 0)) := fun o => (Below.heap_alloc _ _ _ (by omega)).trans hX3
      have x0 : ∀ o, (w3.alloc o).cell? ⟨w.heap.size, 0, none⟩ = some (.int .i64 0) := fun o => (cell_of_block (hX4 o) 0).trans rfl
      have x1 : ∀ o, (w3.alloc o).cell? ⟨w.heap.size, 1, none⟩ = some (.int .i64 0) := fun o => (cell_of_block (hX4 o) 1).trans rfl
      have f0 : ∀ o, (w3.alloc o).frozen? ⟨w.heap.size, 0, none⟩ = false := fun o => frozen_of_block (hX4 o) 0
      have f1 : ∀ o, (w3.alloc o).frozen? ⟨w.heap.size, 1, none⟩ = false := fun o => frozen_of_block (hX4 o) 1
      clear hb3 hX3 hX4
      go_wp2_with fail
      exact bodyPost_ret (v := .tuple #[.slice none 0 0, .agg #[.int .i64 0, .int .i64 0], .bool false]) (by simp [results, Tryd.results34, go_sem, x0, x1]) rfl ⟨_, _, _, rfl, RowC.nil _ _, ((hbb3.alloc (by omega) _).setCell (Nat.le_refl _) _).setCell (Nat.le_refl _) _⟩

theorem new_rw {cs n : List CellD} {v : Int} {pr : Int × Int} (h : newA cs v = (n, pr, true)) :
    ∃ d, n = cs ++ [d] ∧ memB n = true ∧ 0 ≤ v ∧ v ≤ 9 ∧ (∃ m, readA n pr.1 pr.2 = (m, v, 0)) ∧ ∃ m, writeA n pr.1 pr.2 (9 - v) = (m, 0) := by
  unfold newA at h
  split at h
  · rename_i hc
    obtain ⟨hm, h0, h9, hl⟩ := hc
    injection h with h1 h2
    injection h2 with h2 h3
    subst h1 h2
    have hM := memOk_snoc (memB_out hm) (cellOk_new h0 h9) hl
    have hh : hit (cs ++ [⟨v, true, 1, [⟨0, true⟩]⟩]) (cs.length : Nat) 0 = .ok (cs.length, 0, ⟨v, true, 1, [⟨0, true⟩]⟩) := hit_mk (memB_true hM) rfl (by simp) rfl rfl
    refine ⟨⟨v, true, 1, [⟨0, true⟩]⟩, rfl, memB_true hM, h0, h9, ⟨_, readA_hit hh⟩, ?_⟩
    have hw := hitW_mk hh rfl
    unfold writeA
    rw [if_pos (by omega)]
    simp only [hw]
    exact ⟨_, rfl⟩
  · injection h with h1 h2
    injection h2 with h2 h3
    cases h3

theorem newA_sum {cs : List CellD} {v : Int} (hl : cs.length + tagSum cs ≤ 1000) : (newA cs v).1.length + tagSum (newA cs v).1 ≤ 1002 := by
  unfold newA
  split
  · have h : ∀ (cs : List CellD) (d : CellD), tagSum (cs ++ [d]) = tagSum cs + d.tags.length := by
      intro cs d
      induction cs with
      | nil => simp [tagSum]
      | cons c cs ih => simp only [List.cons_append, tagSum, ih]; omega
    simp only [h, List.length_append, List.length_cons, List.length_nil]
    omega
  · simp [tagSum]

theorem RdC.prefix {w : World} {A : Option Addr} {n c : Nat} {cs : List CellD} {d : CellD} (h : RdC w (.slice A n c) (cs ++ [d])) : RdC w (.slice A cs.length c) cs := by
  obtain ⟨A', c', h1, h2, h3, h4⟩ := h
  injection h1 with e1 e2 e3
  subst e1 e3
  simp only [List.length_append, List.length_cons, List.length_nil] at h2 h4
  refine ⟨A, c, rfl, by omega, h3, fun hp => ?_⟩
  obtain ⟨b, hb, hbb, hk⟩ := h4 (by omega)
  exact ⟨b, hb, hbb, fun k e he => hk k e (by rw [List.getElem?_append_left (List.getElem?_eq_some_iff.1 he).1]; exact he)⟩

/-- What the draw leaves: some memory and some small number. -/
def NumP (w : World) (E : Ending) (w' : World) : Prop := ∃ (cs : List CellD) (A : Option Addr) (c : Nat) (v : Int), E = .returned (.tuple #[.slice A cs.length c, .int .i64 v]) ∧ RowC w' w.heap.size (.slice A cs.length c) cs ∧ cs.length + tagSum cs ≤ 40 ∧ -1 ≤ v ∧ v ≤ 10 ∧ Below w.heap.size w w'

set_option maxRecDepth 100000 in
set_option maxHeartbeats 400000 in
theorem drawNewCell_any (n c : Nat) (A : Option Addr) (w : World) (hB : ByteV w w.heap.size n A c) :
    Calls Tryd.prog 33 #[.slice A n c] w (NumP w) := by
  have HC := Lib.hid (l6Case_any n c A w hB)
  have HBY := Lib.hid hB
  clear hB
  go_enter Tryd.func33, Tryd.ntmps33
  go_wp2_with fail
  refine HC.out.mono ?_
  rintro E w1 ⟨cs, A1, c1, x, t, rfl, hr, hsz, hb⟩
  have hba := (Below.refl w1.heap.size w1).alloc (Nat.le_refl _) (.cells #[.int .i64 x, .int .i64 t] 25)
  have HR := Lib.hid (hr.below hba)
  have HB := Lib.hid (hb.trans (hba.mono hb.size))
  clear hr hb hba HC
  go_upto_region 2 with fail
  obtain ⟨w2, hw2⟩ : ∃ zz, w1.alloc (.cells #[.int .i64 x, .int .i64 t] 25) = zz := ⟨_, rfl⟩
  rw [hw2] at HR HB ⊢
  clear hw2
  go_wp2_with fail
  refine (l17Open_any n c A w2 (HBY.out.below HB.out HB.out.size)).mono ?_
  rintro E w3 ⟨rfl, hs, hb⟩
  have HB3 := Lib.hid hb
  have hR2 := hs.lt
  have HS := Lib.hid hs
  have hz2 := HB.out.size
  clear hs hb HBY
  go_wp2_with fail
  have hba := (Below.refl w3.heap.size w3).alloc (Nat.le_refl _) (.cells #[.int .i64 3, .int .i64 0, .int .i64 9, .int .i64 10, .int .i64 (-1)] 3)
  have hNM : Calls Tryd.prog 51 #[.pointer (some ⟨w2.heap.size, 0, none⟩), .slice (some ⟨w3.heap.size, 0, none⟩) 5 5] (w3.alloc (.cells #[.int .i64 3, .int .i64 0, .int .i64 9, .int .i64 10, .int .i64 (-1)] 3)) _ := num_any w2.heap.size 0 w3.heap.size [3, 0, 9, 10, -1] _ (heap_alloc_new w3 _) (by omega) (by decide) (by decide) (HS.out.below hba) (by omega)
  refine hNM.mono ?_
  rintro E w4 ⟨v, hv, rfl, hs5, ho5⟩
  have hv2 : -1 ≤ v ∧ v ≤ 10 := by simp at hv; omega
  have hbz := (HB3.out.trans (hba.mono HB3.out.size)).trans (ho5.below (Nat.le_refl _))
  have HRF := Lib.hid (HR.out.below hbz)
  have HBF := Lib.hid (HB.out.trans (hbz.mono HB.out.size))
  clear hNM hs5 ho5 hv hba HS HR HB HB3 hbz
  go_wp2_with fail
  exact bodyPost_ret (v := .tuple #[.slice A1 cs.length c1, .int .i64 v]) (by simp [results, Tryd.results33, go_sem]) rfl ⟨cs, A1, c1, v, rfl, HRF.out, hsz, hv2.1, hv2.2, HBF.out⟩

theorem spec_newD (cs : List CellD) (A : Option Addr) (q c : Nat) (v : Int) (w : World) (h : RdC w (.slice A q c) cs) (hl : cs.length + tagSum cs ≤ 1048600) {m : List CellD} {p0 p1 : Int} {ok : Bool} (hm : newA cs v = (m, (p0, p1), ok)) :
    Calls Tryd.prog 35 #[.slice A q c, .int .i64 v] w (Post5 m (p0, p1) ok w) := by
  have h1 := specNewCell_any cs A q c v w h hl
  rw [hm] at h1
  exact h1

theorem impl_newD (cs : List CellD) (A : Option Addr) (q c : Nat) (v : Int) (w : World) (T : TypeId) (u : Value) (h : RdC w (.slice A q c) cs) (hl : cs.length + tagSum cs ≤ 1048590) (hG : ErrI w (.iface T u)) {m : List CellD} {p0 p1 : Int} {ok : Bool} (hm : newA cs v = (m, (p0, p1), ok)) :
    Calls Tryd.prog 34 #[.slice A q c, .int .i64 v] w (Post5 m (p0, p1) ok w) := by
  have h1 := implNewCell_any cs A q c v w T u h hl hG
  rw [hm] at h1
  exact h1

set_option maxRecDepth 100000 in
set_option maxHeartbeats 1000000 in
theorem walkFnNewCell (n c : Nat) (A : Option Addr) (W : World) (aI aF aL aR : Addr) (hB : ByteV W W.heap.size n A c) (hE : Errs W aI aF aL aR) :
    Calls Tryd.prog 8 #[.slice A n c] W fun e w' => e = .returned (.bool true) ∧ Below W.heap.size W w' := by
  have hnc := hB.1
  have hcm := hB.2.1
  unfold maxLen at hcm
  by_cases hn : n ≤ 1048576
  · skip
    have HC := Lib.hid (drawNewCell_any n c A W hB)
    have HE := Lib.hid hE
    clear hB hE
    go_enter Tryd.func8, Tryd.ntmps8
    go_wp2_with fail
    refine HC.out.mono ?_
    rintro E w1 ⟨cs, A1, c1, v, rfl, hr, hsz, hv0, hv9, hb⟩
    clear HC
    have hB1 := hb
    have sz1 := hb.size
    have H := Lib.hid hr
    clear hr hb
    obtain ⟨m1, ⟨y0, y1⟩, ok, hm1⟩ : ∃ m pr k, newA cs v = (m, pr, k) := ⟨_, _, _, rfl⟩
    have zs : m1.length + tagSum m1 ≤ 1002 := by have h := newA_sum (cs := cs) (v := v) (by omega); rw [hm1] at h; exact h
    have HM1 := Lib.hid hm1
    clear hm1
    go_wp2_with fail
    refine (impl_newD cs _ _ _ v w1 _ _ H.out.reads (by omega) (HE.out.below hB1).gI HM1.out).mono ?_
    rintro E w2 ⟨A2, n2, c2, rfl, hr, hb⟩
    have hn0 := hr.reads.len.1
    subst hn0
    have H := Lib.hid (H.out.below hb)
    have hB2 := hB1.trans (hb.mono hB1.size)
    have sz2 := hb.size
    clear hB1
    have R2 := Lib.hid hr
    clear hr hb
    go_upto_region 5 with fail
    have hb := (Below.refl w2.heap.size w2).alloc (Nat.le_refl _) (.cells #[.int .i64 y0, .int .i64 y1] 25)
    have hn := heap_alloc_new w2 (.cells #[.int .i64 y0, .int .i64 y1] 25)
    have hz : (w2.alloc (.cells #[.int .i64 y0, .int .i64 y1] 25)).heap.size = w2.heap.size + 1 := by simp
    obtain ⟨w3, hnw⟩ : ∃ zz, w2.alloc (.cells #[.int .i64 y0, .int .i64 y1] 25) = zz := ⟨_, rfl⟩
    rw [hnw] at hb hn hz ⊢
    have H := Lib.hid (H.out.below hb)
    have R2 := Lib.hid (R2.out.below hb)
    have hB3 := hB2.trans (hb.mono hB2.size)
    have sz3 := hb.size
    clear hB2
    have PY := Lib.hid hn
    have zPY := Nat.le_of_eq hz.symm
    clear hb hn hnw hz
    go_wp2_with fail
    refine (spec_newD cs _ _ _ v w3 H.out.reads (by omega) HM1.out).mono ?_
    rintro E w4 ⟨A3, n3, c3, rfl, hr, hb⟩
    have hn0 := hr.reads.len.1
    subst hn0
    have H := Lib.hid (H.out.below hb)
    have R2 := Lib.hid (R2.out.below hb)
    have PY := Lib.hid ((hb.block w2.heap.size (heap_lt PY.out)).trans PY.out)
    have hB4 := hB3.trans (hb.mono hB3.size)
    have sz4 := hb.size
    clear hB3
    have R3 := Lib.hid hr
    clear hr hb
    go_upto_region 6 with fail
    have hb := (Below.refl w4.heap.size w4).alloc (Nat.le_refl _) (.cells #[.int .i64 y0, .int .i64 y1] 25)
    have hn := heap_alloc_new w4 (.cells #[.int .i64 y0, .int .i64 y1] 25)
    have hz : (w4.alloc (.cells #[.int .i64 y0, .int .i64 y1] 25)).heap.size = w4.heap.size + 1 := by simp
    obtain ⟨w5, hnw⟩ : ∃ zz, w4.alloc (.cells #[.int .i64 y0, .int .i64 y1] 25) = zz := ⟨_, rfl⟩
    rw [hnw] at hb hn hz ⊢
    have H := Lib.hid (H.out.below hb)
    have R2 := Lib.hid (R2.out.below hb)
    have R3 := Lib.hid (R3.out.below hb)
    have PY := Lib.hid ((hb.block w2.heap.size (heap_lt PY.out)).trans PY.out)
    have hB5 := hB4.trans (hb.mono hB4.size)
    have sz5 := hb.size
    clear hB4
    have PW := Lib.hid hn
    have zPW := Nat.le_of_eq hz.symm
    clear hb hn hnw hz
    go_wp2_with fail
    refine (bcCells_any m1 _ _ _ _ _ w5 R2.out.reads R3.out.reads).mono ?_
    rintro E w6 ⟨rfl, hb⟩
    have H := Lib.hid (H.out.below hb)
    have R2 := Lib.hid (R2.out.below hb)
    have R3 := Lib.hid (R3.out.below hb)
    have PY := Lib.hid ((hb.block w2.heap.size (heap_lt PY.out)).trans PY.out)
    have PW := Lib.hid ((hb.block w4.heap.size (heap_lt PW.out)).trans PW.out)
    have hB6 := hB5.trans (hb.mono hB5.size)
    have sz6 := hb.size
    clear hB5
    clear hb
    have cPY0 := (cell_of_block PY.out 0).trans (show _ = some (.int .i64 y0) from rfl)
    have cPY1 := (cell_of_block PY.out 1).trans (show _ = some (.int .i64 y1) from rfl)
    have cPW0 := (cell_of_block PW.out 0).trans (show _ = some (.int .i64 y0) from rfl)
    have cPW1 := (cell_of_block PW.out 1).trans (show _ = some (.int .i64 y1) from rfl)
    cases ok with
    | true =>
      obtain ⟨d, hn1, hmb, h0, h9, ⟨m3, hr3⟩, ⟨m4, hw4⟩⟩ := new_rw HM1.out
      have hr3 : readA m1 y0 y1 = (m3, v, 0) := hr3
      have hw4 : writeA m1 y0 y1 (9 - v) = (m4, 0) := hw4
      have hN : m1.length = cs.length + 1 := by rw [hn1]; simp
      obtain ⟨ba, _, _, _, _, _, _, hA, -⟩ := R2.out.reads.elem (k := 0) (by omega)
      subst hA
      have hq := R2.out.reads.len.2.1
      go_upto_region 8 with fail
      rw [hN] at R2 hq
      have HR3 := Lib.hid hr3
      have HW4 := Lib.hid hw4
      have HMB := Lib.hid hmb
      have HN1 := Lib.hid hn1
      clear hr3 hw4 hmb hn1 hN
      clear cPY0 cPY1 cPW0 cPW1
      have cPY0 := (cell_of_block PY.out 0).trans (show _ = some (.int .i64 y0) from rfl)
      have cPY1 := (cell_of_block PY.out 1).trans (show _ = some (.int .i64 y1) from rfl)
      go_wp2_with fail
      refine (impl_read m1 _ _ _ y0 y1 w6 aI aF aL aR R2.out.reads (by omega) (HE.out.below hB6) HR3.out).mono ?_
      rintro E w7 ⟨A4, n4, c4, rfl, hr, hb⟩
      have hn0 := hr.reads.len.1
      subst hn0
      have H := Lib.hid (H.out.below hb)
      have R2 := Lib.hid (R2.out.below hb)
      have R3 := Lib.hid (R3.out.below hb)
      have PY := Lib.hid ((hb.block w2.heap.size (heap_lt PY.out)).trans PY.out)
      have PW := Lib.hid ((hb.block w4.heap.size (heap_lt PW.out)).trans PW.out)
      have hB7 := hB6.trans (hb.mono hB6.size)
      have sz7 := hb.size
      clear hB6
      have R4 := Lib.hid hr
      clear hr hb
      clear cPY0 cPY1
      have cPY0 := (cell_of_block PY.out 0).trans (show _ = some (.int .i64 y0) from rfl)
      have cPY1 := (cell_of_block PY.out 1).trans (show _ = some (.int .i64 y1) from rfl)
      go_wp2_with fail
      refine (impl_write m1 _ _ _ y0 y1 (9 - v) w7 aI aF aL aR R2.out.reads (by omega) (HE.out.below hB7) HW4.out).mono ?_
      rintro E w8 ⟨A5, n5, c5, rfl, hr, hb⟩
      have hn0 := hr.reads.len.1
      subst hn0
      have H := Lib.hid (H.out.below hb)
      have R2 := Lib.hid (R2.out.below hb)
      have R3 := Lib.hid (R3.out.below hb)
      have R4 := Lib.hid (R4.out.below hb)
      have PY := Lib.hid ((hb.block w2.heap.size (heap_lt PY.out)).trans PY.out)
      have PW := Lib.hid ((hb.block w4.heap.size (heap_lt PW.out)).trans PW.out)
      have hB8 := hB7.trans (hb.mono hB7.size)
      have sz8 := hb.size
      clear hB7
      have R5 := Lib.hid hr
      clear hr hb
      clear cPY0 cPY1
      go_wp2_with fail
      refine (bcCells_any cs _ _ _ _ _ w8 (RdC.prefix (d := d) (by rw [← HN1.out]; exact R2.out.reads)) H.out.reads).mono ?_
      rintro E w9 ⟨rfl, hb⟩
      have H := Lib.hid (H.out.below hb)
      have R2 := Lib.hid (R2.out.below hb)
      have R3 := Lib.hid (R3.out.below hb)
      have R4 := Lib.hid (R4.out.below hb)
      have R5 := Lib.hid (R5.out.below hb)
      have PY := Lib.hid ((hb.block w2.heap.size (heap_lt PY.out)).trans PY.out)
      have PW := Lib.hid ((hb.block w4.heap.size (heap_lt PW.out)).trans PW.out)
      have hB9 := hB8.trans (hb.mono hB8.size)
      have sz9 := hb.size
      clear hB8
      clear hb
      go_wp2_with fail
      refine (implCellsValid_any m1 _ _ _ w9 R2.out.reads).mono ?_
      rintro E w10 ⟨rfl, hb⟩
      rw [HMB.out]
      have H := Lib.hid (H.out.below hb)
      have R2 := Lib.hid (R2.out.below hb)
      have R3 := Lib.hid (R3.out.below hb)
      have R4 := Lib.hid (R4.out.below hb)
      have R5 := Lib.hid (R5.out.below hb)
      have PY := Lib.hid ((hb.block w2.heap.size (heap_lt PY.out)).trans PY.out)
      have PW := Lib.hid ((hb.block w4.heap.size (heap_lt PW.out)).trans PW.out)
      have hB10 := hB9.trans (hb.mono hB9.size)
      have sz10 := hb.size
      clear hB9
      clear hb
      go_wp2_with fail
      go_ret
      exact ⟨rfl, hB10⟩
    | false =>
      go_wp2_with fail
      refine (bcCells_any m1 _ _ _ _ _ w6 R2.out.reads R3.out.reads).mono ?_
      rintro E w7 ⟨rfl, hb⟩
      have H := Lib.hid (H.out.below hb)
      have R2 := Lib.hid (R2.out.below hb)
      have R3 := Lib.hid (R3.out.below hb)
      have PY := Lib.hid ((hb.block w2.heap.size (heap_lt PY.out)).trans PY.out)
      have PW := Lib.hid ((hb.block w4.heap.size (heap_lt PW.out)).trans PW.out)
      have hB7 := hB6.trans (hb.mono hB6.size)
      have sz7 := hb.size
      clear hB6
      clear hb
      clear cPY0 cPY1 cPW0 cPW1
      have cPY0 := (cell_of_block PY.out 0).trans (show _ = some (.int .i64 y0) from rfl)
      have cPY1 := (cell_of_block PY.out 1).trans (show _ = some (.int .i64 y1) from rfl)
      have cPW0 := (cell_of_block PW.out 0).trans (show _ = some (.int .i64 y0) from rfl)
      have cPW1 := (cell_of_block PW.out 1).trans (show _ = some (.int .i64 y1) from rfl)
      go_wp2_with fail
      go_ret
      exact ⟨rfl, hB7⟩
  · clear hB hE
    go_enter Tryd.func8, Tryd.ntmps8
    go_wp2_with fail
    go_ret
    exact ⟨rfl, Below.refl _ _⟩

end Go.Proofs.YtfkoobdlhdolbaaDoor
