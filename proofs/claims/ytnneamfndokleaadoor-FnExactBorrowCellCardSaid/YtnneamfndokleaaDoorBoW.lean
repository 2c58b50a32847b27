/-
  At every memory and pointer, BorrowCell of the program answers as its model does, writes into nothing, and its answer is its own. Conditions: the sentinel errors are laid as the program's text lays them.
-/
import Derived.Test.YtnneamfndokleaaDoorCelC
import Derived.Test.YtnneamfndokleaaDoorCelE
import Derived.Test.YtnneamfndokleaaDoorCelS
import Derived.Test.YtnneamfndokleaaDoorCelK2
import Derived.Test.YtnneamfndokleaaDoorCelT
import Derived.Test.YtnneamfndokleaaDoorWk2
import Derived.Test.YtnneamfndokleaaDoorBod
namespace Go.Proofs.YtnneamfndokleaaDoor
open Go.RowKit Go.Deep
set_option linter.unusedVariables false

theorem borrowA_size {cs m : List CellD} {x t cd : Int} {pr : Int × Int} (h : borrowA cs x t = (m, pr, cd)) (hl : cs.length + tagSum cs ≤ 1048576) : m.length + tagSum m ≤ 1048577 := by
  unfold borrowA at h
  split at h
  · injection h with h _
    subst h
    omega
  · rename_i i k d he
    obtain ⟨h1, _⟩ := hitW_ok he
    obtain ⟨_, _, hd, _, _⟩ := hit_ok h1
    exact pushA_size hd (by simp; omega) h hl

theorem spec_borrow (cs : List CellD) (A : Option Addr) (q c : Nat) (x t : Int) (w : World) (h : RdC w (.slice A q c) cs) (hl : cs.length + tagSum cs ≤ 1048600) {m : List CellD} {p0 p1 cd : Int} (hm : borrowA cs x t = (m, (p0, p1), cd)) :
    Calls Tryd.prog 21 #[.slice A q c, .agg #[.int .i64 x, .int .i64 t]] w (PtrPost w m p0 p1 cd) := by
  have h1 := specBorrowCell_any cs A q c x t w h hl
  rw [hm] at h1
  exact h1

theorem impl_borrow (cs : List CellD) (A : Option Addr) (q c : Nat) (x t : Int) (w : World) (aI aF aL aR : Addr) (h : RdC w (.slice A q c) cs) (hl : cs.length + tagSum cs ≤ 1048590) (hE : Errs w aI aF aL aR) {m : List CellD} {p0 p1 cd : Int} (hl2 : m.length + tagSum m ≤ 1048600) (hm : borrowA cs x t = (m, (p0, p1), cd)) :
    Calls Tryd.prog 22 #[.slice A q c, .agg #[.int .i64 x, .int .i64 t]] w (PtrPost w m p0 p1 cd) := by
  have h1 := implBorrowCell_any cs A q c x t w aI aF aL aR h hl hE (by rw [hm]; exact hl2)
  rw [hm] at h1
  exact h1

set_option maxRecDepth 100000 in
set_option maxHeartbeats 4000000 in
theorem walkBorrowCell (cs : List CellD) (A : Option Addr) (q c : Nat) (x t : Int) (W : World) (aI aF aL aR : Addr) (h : RdC W (.slice A q c) cs) (hE : Errs W aI aF aL aR) :
    Calls Tryd.prog 6 #[.slice A q c, .agg #[.int .i64 x, .int .i64 t]] W fun e w' => e = .returned (.bool true) ∧ Below W.heap.size W w' := by
  have H := Lib.hid h
  have HE := Lib.hid hE
  clear h hE
  by_cases hsz : cs.length + tagSum cs ≤ 1048576
  · skip
    have hsub : Hid (subI 1048576 (cs.length + tagSum cs) = 1048576 - (cs.length + tagSum cs : Nat)) := if_pos (by omega)
    have hpos : ¬ (1048576 : Int) - (cs.length + tagSum cs : Nat) < 0 := by omega
    obtain ⟨m, ⟨p0, p1⟩, cd, hm⟩ : ∃ m pr cd, borrowA cs x t = (m, pr, cd) := ⟨_, _, _, rfl⟩
    have hml : m.length + tagSum m ≤ 1048577 := borrowA_size hm hsz
    have HM := Lib.hid hm
    obtain ⟨kk, hkk⟩ : ∃ kk, endC 1 cs = kk := ⟨_, rfl⟩
    have hkpos : ¬ kk < 0 := by rw [← hkk, endC_eq]; omega
    have HKK := Lib.hid hkk
    obtain ⟨km, hkm⟩ : ∃ km, endC 1 m = km := ⟨_, rfl⟩
    have hmpos : ¬ km < 0 := by rw [← hkm, endC_eq]; omega
    have HKM := Lib.hid hkm
    have hok : ((cd != cd) : Bool) = false := by simp
    have hkn : ((km != km) : Bool) = false := by simp
    clear hkk hkm hm
    go_enter Tryd.func6, Tryd.ntmps6
    go_wp2_with fail
    have hb := (Below.refl W.heap.size W).alloc (Nat.le_refl _) (.cells #[.int .i64 x, .int .i64 t] 24)
    have hn := heap_alloc_new W (.cells #[.int .i64 x, .int .i64 t] 24)
    have hz : (W.alloc (.cells #[.int .i64 x, .int .i64 t] 24)).heap.size = W.heap.size + 1 := by simp
    obtain ⟨w1, hnw⟩ : ∃ z, W.alloc (.cells #[.int .i64 x, .int .i64 t] 24) = z := ⟨_, rfl⟩
    rw [hnw] at hb hn hz ⊢
    have hB1 := hb
    have sz1 := hb.size
    have PX := Lib.hid hn
    have zPX := Nat.le_of_eq hz.symm
    clear hb hn hnw hz
    refine (szCellS_any cs A q c 1048576 w1 (H.out.below hB1) (by omega) (by omega)).mono ?_
    rintro E w2 ⟨he, hb⟩
    rw [hsub.out] at he
    subst he
    have PX := Lib.hid ((hb.block W.heap.size (heap_lt PX.out)).trans PX.out)
    have hB2 := hB1.trans (hb.mono hB1.size)
    have sz2 := hb.size
    clear hB1
    clear hb
    go_upto_region 5 with fail
    go_cut [6, 7, 8] (fun sa sb sc wx => ∃ (Aa : Option Addr) (ca g : Nat), sa = .slice Aa m.length ca ∧ sb = .pointer (some ⟨g, 0, none⟩) ∧ sc = .int .i64 cd ∧ w2.heap.size ≤ g ∧ Hid (wx.heap[g]? = some (.cells #[.int .i64 p0, .int .i64 p1] 30 (0, 0))) ∧ Hid (RowC wx w2.heap.size (.slice Aa m.length ca) m) ∧ Hid (Below w2.heap.size w2 wx))
    case first =>
      have cx := (cell_of_block PX.out 0).trans (show _ = some (.int .i64 x) from rfl)
      have ct := (cell_of_block PX.out 1).trans (show _ = some (.int .i64 t) from rfl)
      have hlt : W.heap.size < w2.heap.size := heap_lt PX.out
      have hK00 : ShK w2 W.heap.size x t w2 := ⟨Below.refl _ _, cx, ct⟩
      have hK0 : ShK w2 W.heap.size x t w2.drew := ⟨(Below.refl _ _).drew, cx, ct⟩
      clear cx ct
      go_region_held3 (ShK w2 W.heap.size x t)
        (first | with_reducible exact hK0 | with_reducible exact hS3 | with_reducible exact hS2 | with_reducible exact hS1 | with_reducible exact shK_alloc ‹ShK w2 W.heap.size x t _› _ | with_reducible exact shK_drew (shK_alloc hK00 _) | with_reducible exact shK_drew (shK_store hlt hS3 hge _ _) | exact shK_store hlt hS3 hge _ _)
        (first
          | (go_at_call 10; refine (toCellS_any cs A q c _ ?_ hsz).mono ?_; (have hbx := And.left ‹ShK w2 W.heap.size x t _›; exact (H.out.below hB2).below hbx); rintro E wa ⟨rfl, hr2, hb2⟩; have hS1 := shK_below ‹ShK w2 W.heap.size x t _› hb2; (first | (have hA : wa.heap[w2.heap.size]? = some (.cells #[.int .i64 0, .int .i64 0] 30 (0, 0)) := (hb2.block _ (by simp)).trans (heap_alloc_new _ _); have hge := Nat.le_refl w2.heap.size) | skip))
          | (go_at_call 11; refine (toPointer_any x t _).mono ?_; rintro E wb ⟨rfl, hb3⟩; have hS2 := shK_below ‹ShK w2 W.heap.size x t _› hb3; (first | (have hA := (hb3.block _ (heap_lt hA)).trans hA) | (have hA : wb.heap[wa.heap.size]? = some (.cells #[.int .i64 0, .int .i64 0] 30 (0, 0)) := (hb3.block _ (by simp)).trans (heap_alloc_new _ _); have hge : w2.heap.size ≤ wa.heap.size := hS1.1.size) | skip))
          | (go_at_call 21; refine (spec_borrow cs _ q q x t _ ?_ (by omega) HM.out).mono ?_; (first | exact (hr2.below hb3).reads | simpa using (hr2.below hb3).reads | exact ((hr2.below ((Below.refl _ _).alloc (Nat.le_refl _) _)).below hb3).reads | exact ((hr2.below hb3).below ((Below.refl _ _).alloc (Nat.le_refl _) _)).reads); rintro E wc ⟨A0, n0, c0, rfl, hr, hb4⟩; have hS3 := shK_below ‹ShK w2 W.heap.size x t _› hb4; (first | (have hgl := heap_lt hA; have hcl := hS2.1.size; have hA := (hb4.block _ hgl).trans hA) | (have hgl : wb.heap.size < (wb.alloc (.cells #[.int .i64 0, .int .i64 0] 30)).heap.size := (by simp); have hcl : w2.heap.size ≤ (wb.alloc (.cells #[.int .i64 0, .int .i64 0] 30)).heap.size := (by have := hS2.1.size; simp; omega); have hA : wc.heap[wb.heap.size]? = some (.cells #[.int .i64 0, .int .i64 0] 30 (0, 0)) := (hb4.block _ hgl).trans (heap_alloc_new _ _); have hge : w2.heap.size ≤ wb.heap.size := hS2.1.size) | (have hcl := hS2.1.size)); (first | (have q0 := (cell_of_block hA 0).trans (show _ = some (.int .i64 0) from rfl); have q1 := (cell_of_block hA 1).trans (show _ = some (.int .i64 0) from rfl); have f0 := frozen_of_block hA 0; have f1 := frozen_of_block hA 1; skip) | skip)))
      all_goals (have hn0 := hr.reads.len.1; subst hn0)
      all_goals first
        | (have hD := set_keeps (set_keeps hA 0 (.int .i64 p0)) 1 (.int .i64 p1)
           have hR := ((hr.setLow (o := 0) (x := .int .i64 p0) hgl).setLow (o := 1) (x := .int .i64 p1) hgl).mono hcl
           have hB := (hS3.1.setCell hge (.int .i64 p0) (p := ⟨_, 0, none⟩)).setCell hge (.int .i64 p1) (p := ⟨_, 1, none⟩)
           clear hr hr2 hb2 hb3 hb4 hS1 hS2 hS3 hA q0 q1 f0 f1
           go_wp2_with fail
           go_meet
           exact ⟨A0, c0, _, rfl, rfl, rfl, hge, hD, by first | exact hR | exact hR.below (Below.refl _ _).drew, by first | exact hB | exact hB.drew⟩)
        | (have hD := heap_alloc_new wc (.cells #[.int .i64 p0, .int .i64 p1] 30)
           have hR := (hr.mono hcl).below ((Below.refl wc.heap.size wc).alloc (Nat.le_refl _) (.cells #[.int .i64 p0, .int .i64 p1] 30))
           have hB := hS3.1.alloc hS3.1.size (.cells #[.int .i64 p0, .int .i64 p1] 30)
           have hge := hS3.1.size
           clear hr hr2 hb2 hb3 hb4 hS1 hS2 hS3
           go_wp2_with fail
           go_meet
           exact ⟨A0, c0, _, rfl, rfl, rfl, hge, hD, by first | exact hR | exact hR.below (Below.refl _ _).drew, by first | exact hB | exact hB.drew⟩)
    case rest =>
      rename World => w3
      obtain ⟨A0, c0, g7, rfl, rfl, rfl, hgg, hgp, hgr, hgb⟩ := hcut
      have hb := hgb.out
      have PX := Lib.hid ((hb.block W.heap.size (heap_lt PX.out)).trans PX.out)
      have hB3 := hB2.trans (hb.mono hB2.size)
      have sz3 := hb.size
      clear hB2
      have H0 := Lib.hid hgr.out.cap
      have P7 := hgp
      have hg7 : g7 < w3.heap.size := heap_lt hgp.out
      clear hb hgg hgp hgr hgb
      go_wp2_with fail
      refine (toCellS_any cs A q c w3 (H.out.below hB3) hsz).mono ?_
      rintro E w4 ⟨rfl, hr, hb⟩
      have H0 := Lib.hid (H0.out.below hb)
      have PX := Lib.hid ((hb.block W.heap.size (heap_lt PX.out)).trans PX.out)
      have P7 := Lib.hid ((hb.block g7 (heap_lt P7.out)).trans P7.out)
      have hB4 := hB3.trans (hb.mono hB3.size)
      have sz4 := hb.size
      clear hB3
      have HX := Lib.hid hr.cap
      clear hr hb
      have cx := (cell_of_block PX.out 0).trans (show _ = some (.int .i64 x) from rfl)
      have ct := (cell_of_block PX.out 1).trans (show _ = some (.int .i64 t) from rfl)
      go_wp2_with fail
      refine (toPointer_any x t w4).mono ?_
      rintro E w5 ⟨rfl, hb⟩
      clear cx ct
      have H0 := Lib.hid (H0.out.below hb)
      have HX := Lib.hid (HX.out.below hb)
      have PX := Lib.hid ((hb.block W.heap.size (heap_lt PX.out)).trans PX.out)
      have P7 := Lib.hid ((hb.block g7 (heap_lt P7.out)).trans P7.out)
      have hB5 := hB4.trans (hb.mono hB4.size)
      have sz5 := hb.size
      clear hB4
      clear hb
      go_wp2_with fail
      refine (impl_borrow cs _ q q x t w5 aI aF aL aR HX.out.reads (by omega) (HE.out.below hB5) (by omega) HM.out).mono ?_
      rintro E w6 ⟨A1, n1, c1, rfl, hr, hb⟩
      have hn1 := hr.reads.len.1
      subst hn1
      have H1 := Lib.hid hr.cap
      have H0 := Lib.hid (H0.out.below hb)
      have HX := Lib.hid (HX.out.below hb)
      have PX := Lib.hid ((hb.block W.heap.size (heap_lt PX.out)).trans PX.out)
      have P7 := Lib.hid ((hb.block g7 (heap_lt P7.out)).trans P7.out)
      have hB6 := hB5.trans (hb.mono hB5.size)
      have sz6 := hb.size
      clear hB5
      clear hr hb
      go_wp2_with fail
      have hb := (Below.refl w6.heap.size w6).alloc (Nat.le_refl _) (.cells #[.int .i64 p0, .int .i64 p1] 30)
      have hn := heap_alloc_new w6 (.cells #[.int .i64 p0, .int .i64 p1] 30)
      have hz : (w6.alloc (.cells #[.int .i64 p0, .int .i64 p1] 30)).heap.size = w6.heap.size + 1 := by simp
      obtain ⟨w7, hnw⟩ : ∃ x, w6.alloc (.cells #[.int .i64 p0, .int .i64 p1] 30) = x := ⟨_, rfl⟩
      rw [hnw] at hb hn hz ⊢
      have H0 := Lib.hid (H0.out.below hb)
      have HX := Lib.hid (HX.out.below hb)
      have H1 := Lib.hid (H1.out.below hb)
      have PX := Lib.hid ((hb.block W.heap.size (heap_lt PX.out)).trans PX.out)
      have P7 := Lib.hid ((hb.block g7 (heap_lt P7.out)).trans P7.out)
      have hB7 := hB6.trans (hb.mono hB6.size)
      have sz7 := hb.size
      clear hB6
      have P11 := Lib.hid hn
      have zP11 := Nat.le_of_eq hz.symm
      clear hb hn hnw hz
      refine (eqCellS_any m A1 A0 m.length c1 c0 w7 H1.out.reads H0.out.reads).mono ?_
      rintro E w8 ⟨rfl, hb⟩
      have H0 := Lib.hid (H0.out.below hb)
      have HX := Lib.hid (HX.out.below hb)
      have H1 := Lib.hid (H1.out.below hb)
      have PX := Lib.hid ((hb.block W.heap.size (heap_lt PX.out)).trans PX.out)
      have P7 := Lib.hid ((hb.block g7 (heap_lt P7.out)).trans P7.out)
      have P11 := Lib.hid ((hb.block w6.heap.size (heap_lt P11.out)).trans P11.out)
      have hB8 := hB7.trans (hb.mono hB7.size)
      have sz8 := hb.size
      clear hB7
      clear hb
      have cP110 := (cell_of_block P11.out 0).trans (show _ = some (.int .i64 p0) from rfl)
      have cP111 := (cell_of_block P11.out 1).trans (show _ = some (.int .i64 p1) from rfl)
      have cP70 := (cell_of_block P7.out 0).trans (show _ = some (.int .i64 p0) from rfl)
      have cP71 := (cell_of_block P7.out 1).trans (show _ = some (.int .i64 p1) from rfl)
      go_wp2_with fail
      refine (eqPointer_any p0 p1 w8).mono ?_
      rintro E w9 ⟨rfl, hb⟩
      clear cP110 cP111 cP70 cP71
      have H0 := Lib.hid (H0.out.below hb)
      have HX := Lib.hid (HX.out.below hb)
      have H1 := Lib.hid (H1.out.below hb)
      have PX := Lib.hid ((hb.block W.heap.size (heap_lt PX.out)).trans PX.out)
      have P7 := Lib.hid ((hb.block g7 (heap_lt P7.out)).trans P7.out)
      have P11 := Lib.hid ((hb.block w6.heap.size (heap_lt P11.out)).trans P11.out)
      have hB9 := hB8.trans (hb.mono hB8.size)
      have sz9 := hb.size
      clear hB8
      clear hb
      go_wp2_with fail
      refine (toCellS_any cs A q c w9 (H.out.below hB9) hsz).mono ?_
      rintro E w10 ⟨rfl, hr, hb⟩
      have H0 := Lib.hid (H0.out.below hb)
      have HX := Lib.hid (HX.out.below hb)
      have H1 := Lib.hid (H1.out.below hb)
      have PX := Lib.hid ((hb.block W.heap.size (heap_lt PX.out)).trans PX.out)
      have P7 := Lib.hid ((hb.block g7 (heap_lt P7.out)).trans P7.out)
      have P11 := Lib.hid ((hb.block w6.heap.size (heap_lt P11.out)).trans P11.out)
      have hB10 := hB9.trans (hb.mono hB9.size)
      have sz10 := hb.size
      clear hB9
      have HR := Lib.hid hr
      clear hr hb
      go_wp2_with fail
      refine (eqCellS_any cs _ _ q q q w10 HX.out.reads HR.out.reads).mono ?_
      rintro E w11 ⟨rfl, hb⟩
      have H0 := Lib.hid (H0.out.below hb)
      have HX := Lib.hid (HX.out.below hb)
      have H1 := Lib.hid (H1.out.below hb)
      have PX := Lib.hid ((hb.block W.heap.size (heap_lt PX.out)).trans PX.out)
      have P7 := Lib.hid ((hb.block g7 (heap_lt P7.out)).trans P7.out)
      have P11 := Lib.hid ((hb.block w6.heap.size (heap_lt P11.out)).trans P11.out)
      have hB11 := hB10.trans (hb.mono hB10.size)
      have sz11 := hb.size
      clear hB10
      clear hb HR
      go_wp2_with fail
      refine (markCellS_any cs w3.heap.size w4.heap.size _ 1 w11 HX.out (by omega) (by omega) (by omega)).mono ?_
      rintro E w12 ⟨rfl, -, hsp, hz⟩
      rw [HKK.out]
      have H0 := Lib.hid (H0.out.span hsp (.inr (by omega)))
      have H1 := Lib.hid (H1.out.span hsp (.inl (by omega)))
      have PX := Lib.hid ((hsp.block (W.heap.size) (heap_lt PX.out) (.inl (by omega))).trans PX.out)
      have P7 := Lib.hid ((hsp.block (g7) (heap_lt P7.out) (.inl (by omega))).trans P7.out)
      have P11 := Lib.hid ((hsp.block (w6.heap.size) (heap_lt P11.out) (.inr (by omega))).trans P11.out)
      have hB12 : Below W.heap.size W w12 := below_span_ hB11 hsp (by omega)
      have sz12 := Nat.le_of_eq hz.symm
      clear hsp hz hB11 HX
      go_wp2_with fail
      refine (eqCellS_any m A1 A0 m.length c1 c0 w12 H1.out.reads H0.out.reads).mono ?_
      rintro E w13 ⟨rfl, hb⟩
      have H0 := Lib.hid (H0.out.below hb)
      have H1 := Lib.hid (H1.out.below hb)
      have PX := Lib.hid ((hb.block W.heap.size (heap_lt PX.out)).trans PX.out)
      have P7 := Lib.hid ((hb.block g7 (heap_lt P7.out)).trans P7.out)
      have P11 := Lib.hid ((hb.block w6.heap.size (heap_lt P11.out)).trans P11.out)
      have hB13 := hB12.trans (hb.mono hB12.size)
      have sz13 := hb.size
      clear hB12
      clear hb
      have cP110 := (cell_of_block P11.out 0).trans (show _ = some (.int .i64 p0) from rfl)
      have cP111 := (cell_of_block P11.out 1).trans (show _ = some (.int .i64 p1) from rfl)
      have cP70 := (cell_of_block P7.out 0).trans (show _ = some (.int .i64 p0) from rfl)
      have cP71 := (cell_of_block P7.out 1).trans (show _ = some (.int .i64 p1) from rfl)
      go_wp2_with fail
      refine (eqPointer_any p0 p1 w13).mono ?_
      rintro E w14 ⟨rfl, hb⟩
      clear cP110 cP111 cP70 cP71
      have H0 := Lib.hid (H0.out.below hb)
      have H1 := Lib.hid (H1.out.below hb)
      have PX := Lib.hid ((hb.block W.heap.size (heap_lt PX.out)).trans PX.out)
      have P7 := Lib.hid ((hb.block g7 (heap_lt P7.out)).trans P7.out)
      have P11 := Lib.hid ((hb.block w6.heap.size (heap_lt P11.out)).trans P11.out)
      have hB14 := hB13.trans (hb.mono hB13.size)
      have sz14 := hb.size
      clear hB13
      clear hb
      go_wp2_with fail
      refine (markCellS_any m w5.heap.size w6.heap.size _ 1 w14 H1.out (by omega) (by omega) (by omega)).mono ?_
      rintro E w15 ⟨rfl, hmk, hsp, hz⟩
      rw [HKM.out]
      have H1 := Lib.hid hmk
      have H0 := Lib.hid (H0.out.span hsp (.inr (by omega)))
      have PX := Lib.hid ((hsp.block (W.heap.size) (heap_lt PX.out) (.inl (by omega))).trans PX.out)
      have P7 := Lib.hid ((hsp.block (g7) (heap_lt P7.out) (.inl (by omega))).trans P7.out)
      have P11 := Lib.hid ((hsp.block (w6.heap.size) (heap_lt P11.out) (.inr (by omega))).trans P11.out)
      have hB15 : Below W.heap.size W w15 := below_span_ hB14 hsp (by omega)
      have sz15 := Nat.le_of_eq hz.symm
      clear hsp hz hmk hB14
      go_wp2_with fail
      refine (heldCellS_any m A1 m.length c1 1 w15 H1.out.reads (by omega) (by omega) (by omega)).mono ?_
      rintro E wx ⟨rfl, hx⟩
      subst hx
      rw [HKM.out]
      go_upto_region 24 with fail
      go_cut [16, 17, 18] (fun sa sb sc wx => ∃ (Aa : Option Addr) (ca g : Nat), sa = .slice Aa m.length ca ∧ sb = .pointer (some ⟨g, 0, none⟩) ∧ sc = .int .i64 cd ∧ w15.heap.size ≤ g ∧ Hid (wx.heap[g]? = some (.cells #[.int .i64 p0, .int .i64 p1] 30 (0, 0))) ∧ Hid (RowC wx w15.heap.size (.slice Aa m.length ca) m) ∧ Hid (Below w15.heap.size w15 wx))
      case first =>
        have cx := (cell_of_block PX.out 0).trans (show _ = some (.int .i64 x) from rfl)
        have ct := (cell_of_block PX.out 1).trans (show _ = some (.int .i64 t) from rfl)
        have hlt : W.heap.size < w15.heap.size := heap_lt PX.out
        have hK00 : ShK w15 W.heap.size x t w15 := ⟨Below.refl _ _, cx, ct⟩
        have hK0 : ShK w15 W.heap.size x t w15.drew := ⟨(Below.refl _ _).drew, cx, ct⟩
        clear cx ct
        go_region_held3 (ShK w15 W.heap.size x t)
        (first | with_reducible exact hK0 | with_reducible exact hS3 | with_reducible exact hS2 | with_reducible exact hS1 | with_reducible exact shK_alloc ‹ShK w15 W.heap.size x t _› _ | with_reducible exact shK_drew (shK_alloc hK00 _) | with_reducible exact shK_drew (shK_store hlt hS3 hge _ _) | exact shK_store hlt hS3 hge _ _)
        (first
          | (go_at_call 10; refine (toCellS_any cs A q c _ ?_ hsz).mono ?_; (have hbx := And.left ‹ShK w15 W.heap.size x t _›; exact (H.out.below hB15).below hbx); rintro E wa ⟨rfl, hr2, hb2⟩; have hS1 := shK_below ‹ShK w15 W.heap.size x t _› hb2; (first | (have hA : wa.heap[w15.heap.size]? = some (.cells #[.int .i64 0, .int .i64 0] 30 (0, 0)) := (hb2.block _ (by simp)).trans (heap_alloc_new _ _); have hge := Nat.le_refl w15.heap.size) | skip))
          | (go_at_call 11; refine (toPointer_any x t _).mono ?_; rintro E wb ⟨rfl, hb3⟩; have hS2 := shK_below ‹ShK w15 W.heap.size x t _› hb3; (first | (have hA := (hb3.block _ (heap_lt hA)).trans hA) | (have hA : wb.heap[wa.heap.size]? = some (.cells #[.int .i64 0, .int .i64 0] 30 (0, 0)) := (hb3.block _ (by simp)).trans (heap_alloc_new _ _); have hge : w15.heap.size ≤ wa.heap.size := hS1.1.size) | skip))
          | (go_at_call 22; refine (impl_borrow cs _ q q x t _ aI aF aL aR ?_ (by omega) ?_ (by omega) HM.out).mono ?_; (first | exact (hr2.below hb3).reads | simpa using (hr2.below hb3).reads | exact ((hr2.below ((Below.refl _ _).alloc (Nat.le_refl _) _)).below hb3).reads | exact ((hr2.below hb3).below ((Below.refl _ _).alloc (Nat.le_refl _) _)).reads); (have hbx := And.left ‹ShK w15 W.heap.size x t _›; exact (HE.out.below hB15).below hbx); rintro E wc ⟨A0, n0, c0, rfl, hr, hb4⟩; have hS3 := shK_below ‹ShK w15 W.heap.size x t _› hb4; (first | (have hgl := heap_lt hA; have hcl := hS2.1.size; have hA := (hb4.block _ hgl).trans hA) | (have hgl : wb.heap.size < (wb.alloc (.cells #[.int .i64 0, .int .i64 0] 30)).heap.size := (by simp); have hcl : w15.heap.size ≤ (wb.alloc (.cells #[.int .i64 0, .int .i64 0] 30)).heap.size := (by have := hS2.1.size; simp; omega); have hA : wc.heap[wb.heap.size]? = some (.cells #[.int .i64 0, .int .i64 0] 30 (0, 0)) := (hb4.block _ hgl).trans (heap_alloc_new _ _); have hge : w15.heap.size ≤ wb.heap.size := hS2.1.size) | (have hcl := hS2.1.size)); (first | (have q0 := (cell_of_block hA 0).trans (show _ = some (.int .i64 0) from rfl); have q1 := (cell_of_block hA 1).trans (show _ = some (.int .i64 0) from rfl); have f0 := frozen_of_block hA 0; have f1 := frozen_of_block hA 1; skip) | skip)))
        all_goals (have hn0 := hr.reads.len.1; subst hn0)
        all_goals first
          | (have hD := set_keeps (set_keeps hA 0 (.int .i64 p0)) 1 (.int .i64 p1)
             have hR := ((hr.setLow (o := 0) (x := .int .i64 p0) hgl).setLow (o := 1) (x := .int .i64 p1) hgl).mono hcl
             have hB := (hS3.1.setCell hge (.int .i64 p0) (p := ⟨_, 0, none⟩)).setCell hge (.int .i64 p1) (p := ⟨_, 1, none⟩)
             clear hr hr2 hb2 hb3 hb4 hS1 hS2 hS3 hA q0 q1 f0 f1
             go_wp2_with fail
             go_meet
             exact ⟨A0, c0, _, rfl, rfl, rfl, hge, hD, by first | exact hR | exact hR.below (Below.refl _ _).drew, by first | exact hB | exact hB.drew⟩)
          | (have hD := heap_alloc_new wc (.cells #[.int .i64 p0, .int .i64 p1] 30)
             have hR := (hr.mono hcl).below ((Below.refl wc.heap.size wc).alloc (Nat.le_refl _) (.cells #[.int .i64 p0, .int .i64 p1] 30))
             have hB := hS3.1.alloc hS3.1.size (.cells #[.int .i64 p0, .int .i64 p1] 30)
             have hge := hS3.1.size
             clear hr hr2 hb2 hb3 hb4 hS1 hS2 hS3
             go_wp2_with fail
             go_meet
             exact ⟨A0, c0, _, rfl, rfl, rfl, hge, hD, by first | exact hR | exact hR.below (Below.refl _ _).drew, by first | exact hB | exact hB.drew⟩)
      case rest =>
        rename World => w16
        obtain ⟨A2, c2, g17, rfl, rfl, rfl, hgg, hgp, hgr, hgb⟩ := hcut
        have hb := hgb.out
        have H0 := Lib.hid (H0.out.below hb)
        have H1 := Lib.hid (H1.out.below hb)
        have PX := Lib.hid ((hb.block W.heap.size (heap_lt PX.out)).trans PX.out)
        have P7 := Lib.hid ((hb.block g7 (heap_lt P7.out)).trans P7.out)
        have P11 := Lib.hid ((hb.block w6.heap.size (heap_lt P11.out)).trans P11.out)
        have hB16 := hB15.trans (hb.mono hB15.size)
        have sz16 := hb.size
        clear hB15
        have H2 := Lib.hid hgr.out.cap
        have P17 := hgp
        have hg17 : g17 < w16.heap.size := heap_lt hgp.out
        clear hb hgg hgp hgr hgb
        go_wp2_with fail
        refine (eqCellS_any m A2 A0 m.length c2 c0 w16 H2.out.reads H0.out.reads).mono ?_
        rintro E w17 ⟨rfl, hb⟩
        have H0 := Lib.hid (H0.out.below hb)
        have H1 := Lib.hid (H1.out.below hb)
        have H2 := Lib.hid (H2.out.below hb)
        have PX := Lib.hid ((hb.block W.heap.size (heap_lt PX.out)).trans PX.out)
        have P7 := Lib.hid ((hb.block g7 (heap_lt P7.out)).trans P7.out)
        have P11 := Lib.hid ((hb.block w6.heap.size (heap_lt P11.out)).trans P11.out)
        have P17 := Lib.hid ((hb.block g17 (heap_lt P17.out)).trans P17.out)
        have hB17 := hB16.trans (hb.mono hB16.size)
        have sz17 := hb.size
        clear hB16
        clear hb
        have cP170 := (cell_of_block P17.out 0).trans (show _ = some (.int .i64 p0) from rfl)
        have cP171 := (cell_of_block P17.out 1).trans (show _ = some (.int .i64 p1) from rfl)
        have cP70 := (cell_of_block P7.out 0).trans (show _ = some (.int .i64 p0) from rfl)
        have cP71 := (cell_of_block P7.out 1).trans (show _ = some (.int .i64 p1) from rfl)
        go_wp2_with fail
        refine (eqPointer_any p0 p1 w17).mono ?_
        rintro E w18 ⟨rfl, hb⟩
        clear cP170 cP171 cP70 cP71
        have H0 := Lib.hid (H0.out.below hb)
        have H1 := Lib.hid (H1.out.below hb)
        have H2 := Lib.hid (H2.out.below hb)
        have PX := Lib.hid ((hb.block W.heap.size (heap_lt PX.out)).trans PX.out)
        have P7 := Lib.hid ((hb.block g7 (heap_lt P7.out)).trans P7.out)
        have P11 := Lib.hid ((hb.block w6.heap.size (heap_lt P11.out)).trans P11.out)
        have P17 := Lib.hid ((hb.block g17 (heap_lt P17.out)).trans P17.out)
        have hB18 := hB17.trans (hb.mono hB17.size)
        have sz18 := hb.size
        clear hB17
        clear hb
        go_wp2_with fail
        refine (heldCellS_any m A1 m.length c1 1 w18 H1.out.reads (by omega) (by omega) (by omega)).mono ?_
        rintro E wx ⟨rfl, hx⟩
        subst hx
        rw [HKM.out]
        go_wp2_with fail
        go_ret
        exact ⟨rfl, hB18⟩
  · have hsub : Hid (subI 1048576 (cs.length + tagSum cs) = -1) := if_neg (by omega)
    have hb0 := (Below.refl W.heap.size W).alloc (Nat.le_refl _) (.cells #[.int .i64 x, .int .i64 t] 24)
    have HB0 := Lib.hid hb0
    have HS := Lib.hid (szCellS_any cs A q c 1048576 _ (H.out.below hb0) (by omega) (by omega))
    clear hb0
    go_enter Tryd.func6, Tryd.ntmps6
    go_wp2_with fail
    refine HS.out.mono ?_
    rintro E w1 ⟨he, hb1⟩
    rw [hsub.out] at he
    subst he
    have hbf := HB0.out.trans (hb1.mono HB0.out.size)
    clear hb1 HS
    go_wp2_with fail
    go_ret
    exact ⟨rfl, hbf⟩

end Go.Proofs.YtnneamfndokleaaDoor
