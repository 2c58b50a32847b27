/-
  The program's add, where there is room: another cell.
-/
import Derived.Test.YtfkoobdlhdolbaaDoorAd2
import Derived.Test.YtfkoobdlhdolbaaDoorAdd
namespace Go.Proofs.YtfkoobdlhdolbaaDoor
open Go.RowKit Go.Deep
set_option linter.unusedVariables false

set_option maxRecDepth 100000 in
set_option maxHeartbeats 8000000 in
theorem add_ok (cs : List CellD) (A : Option Addr) (q c : Nat) (v : Int) (w : World) (h : RdM w (.slice A q c) cs) (h0 : 0 ≤ v) (h9 : v ≤ 9) (hq : q < 200) :
    Calls Tryd.prog 63 #[.slice A q c, .int .i64 v] w (AddPost cs v q w) := by
  have t1 : decide (0 ≤ v ∧ v ≤ 9) = true := decide_eq_true ⟨h0, h9⟩
  have t2 : decide ((200 : Int) ≤ (q : Int)) = false := decide_eq_false (by omega)
  have hb0 := (Below.refl w.heap.size w).alloc (Nat.le_refl _) (.cells #[.int .i64 0, .int .i64 0] 25)
  have hz0 : (w.alloc (.cells #[.int .i64 0, .int .i64 0] 25)).heap.size = w.heap.size + 1 := by simp
  have hX0 := heap_alloc_new w (.cells #[.int .i64 0, .int .i64 0] 25)
  have hb1 := (Below.refl _ (w.alloc (.cells #[.int .i64 0, .int .i64 0] 25))).alloc (Nat.le_refl _) (.cells #[.int .i64 0, .bool true] 35)
  have hX1 := heap_alloc_new (w.alloc (.cells #[.int .i64 0, .int .i64 0] 25)) (.cells #[.int .i64 0, .bool true] 35)
  have hz1 : ((w.alloc (.cells #[.int .i64 0, .int .i64 0] 25)).alloc (.cells #[.int .i64 0, .bool true] 35)).heap.size = w.heap.size + 2 := by simp
  have HB0 := Lib.hid hb0
  have HX0 := Lib.hid ((hb1.block w.heap.size (by rw [hz0]; omega)).trans hX0)
  have HX1 := Lib.hid hX1
  have HZ1 := Lib.hid hz1
  have HBB := Lib.hid (hb0.trans (hb1.mono (by rw [hz0]; omega)))
  have HM := Lib.hid (h.below HBB.out)
  have HN := Lib.hid (isNumber_any v)
  have HQ := Lib.hid h.len.1
  have HW1 := Lib.hid h
  rw [hz0] at HX1
  clear h hb0 hX0 hb1 hX1 hz0 hz1
  go_enter Tryd.func63, Tryd.ntmps63
  go_wp2_with fail
  refine (HN.out _).mono ?_
  rintro E w1 ⟨rfl, rfl⟩
  rw [t1]
  go_upto_region 4 with fail
  obtain ⟨W1, hW1⟩ : ∃ W1, (w.alloc (.cells #[.int .i64 0, .int .i64 0] 25)).alloc (.cells #[.int .i64 0, .bool true] 35) = W1 := ⟨_, rfl⟩
  rw [hW1] at HX0 HX1 HZ1 HBB HM ⊢
  clear hW1
  go_cut [8] (fun s8 wx => ∃ (g : Nat) (p : Option Addr), s8 = .pointer (some ⟨g, 0, none⟩) ∧ W1.heap.size ≤ g ∧ Hid (wx.heap[g]? = some (.cells #[.int .i64 v, .bool true, .int .i64 1, .pointer p] 96 (0, 0))) ∧ Hid (Stk wx wx.heap.size [⟨0, true⟩] p) ∧ Hid (Below W1.heap.size W1 wx))
  case first =>
    have y0 : W1.cell? ⟨w.heap.size + 1, 0, none⟩ = some (.int .i64 0) := (cell_of_block HX1.out 0).trans rfl
    have y1 : W1.cell? ⟨w.heap.size + 1, 1, none⟩ = some (.bool true) := (cell_of_block HX1.out 1).trans rfl
    have hK0 : TagK (w.heap.size + 1) W1.drew := ⟨y0, y1⟩
    have hw1 : IntKind.i64.wrap 1 = 1 := by decide
    have hn0 : ¬ W1.heap.size = w.heap.size + 1 := by have := HZ1.out; omega
    have hn1 : ¬ W1.heap.size + 1 = w.heap.size + 1 := by have := HZ1.out; omega
    go_region_held3 (TagK (w.heap.size + 1))
      (first | with_reducible exact hK0 | with_reducible exact hS1 | with_reducible exact tagK_set4 hS1 hn1 _ _ _ _ | with_reducible exact tagK_set4 hS1 hn0 _ _ _ _ | with_reducible exact tagK_below hS1 ((Below.refl _ _).alloc (Nat.le_refl _) _) | with_reducible exact tagK_below ‹TagK (w.heap.size + 1) _› ((Below.refl _ _).alloc (Nat.le_refl _) _))
      ((go_at_call 85; refine (stackOf_any [⟨0, true⟩] _ 1 1 _ ?_ ?_).mono ?_; (first | exact (tag_row 0 true rfl).below ((Below.refl _ _).drew) | exact (tag_row 0 true rfl).below (((Below.refl _ _).alloc (Nat.le_refl _) _).drew) | exact (tag_row 0 true (by simp)).below ((Below.refl _ _).drew)); (decide); rintro E w' ⟨p, rfl, hst, hbn⟩; have hS1 := tagK_below ‹TagK (w.heap.size + 1) _› hbn; (first | (have hP : w'.heap[W1.heap.size + 1]? = some (.cells #[.int .i64 0, .bool false, .int .i64 0, .pointer none] 96 (0, 0)) := (hbn.block (W1.heap.size + 1) (by simp <;> omega)).trans (new_second W1 _ _); have q0 := (cell_of_block hP 0).trans (show _ = some (.int .i64 0) from rfl); have q1 := (cell_of_block hP 1).trans (show _ = some (.bool false) from rfl); have q2 := (cell_of_block hP 2).trans (show _ = some (.int .i64 0) from rfl); have q3 := (cell_of_block hP 3).trans (show _ = some (.pointer none) from rfl); have f0 := frozen_of_block hP 0; have f1 := frozen_of_block hP 1; have f2 := frozen_of_block hP 2; have f3 := frozen_of_block hP 3) | (have hP : w'.heap[W1.heap.size]? = some (.cells #[.int .i64 0, .bool false, .int .i64 0, .pointer none] 96 (0, 0)) := (hbn.block W1.heap.size (by simp <;> omega)).trans (new_first W1 _ _); have q0 := (cell_of_block hP 0).trans (show _ = some (.int .i64 0) from rfl); have q1 := (cell_of_block hP 1).trans (show _ = some (.bool false) from rfl); have q2 := (cell_of_block hP 2).trans (show _ = some (.int .i64 0) from rfl); have q3 := (cell_of_block hP 3).trans (show _ = some (.pointer none) from rfl); have f0 := frozen_of_block hP 0; have f1 := frozen_of_block hP 1; have f2 := frozen_of_block hP 2; have f3 := frozen_of_block hP 3) | skip)))
    · have hB := ((((Below.refl W1.heap.size W1).alloc (Nat.le_refl _) (.cells #[.int .i64 0, .bool true] 35)).drew.trans (hbn.mono (by simp))).alloc (by have := hbn.size; simp at this; omega) (.cells #[.int .i64 v, .bool true, .int .i64 1, .pointer p] 96))
      have hg : W1.heap.size ≤ w'.heap.size := by have := hbn.size; simp at this; omega
      have hH := heap_alloc_new w' (.cells #[.int .i64 v, .bool true, .int .i64 1, .pointer p] 96)
      have hT := (hst.below ((Below.refl w'.heap.size w').alloc (Nat.le_refl _) (.cells #[.int .i64 v, .bool true, .int .i64 1, .pointer p] 96)) (Nat.le_refl _)).mono (by simp : w'.heap.size ≤ (w'.alloc (.cells #[.int .i64 v, .bool true, .int .i64 1, .pointer p] 96)).heap.size)
      clear hbn hst hS1 ‹TagK (w.heap.size + 1) _›
      go_wp2_with fail
      go_meet
      exact ⟨w'.heap.size, p, rfl, hg, hH, hT, by first | exact hB | exact hB.drew⟩
    · have hB0 := ((((Below.refl W1.heap.size W1).alloc (Nat.le_refl _) (.cells #[.int .i64 0, .bool true] 35)).alloc (by simp) (.cells #[.int .i64 0, .bool false, .int .i64 0, .pointer none] 96)).drew.trans (hbn.mono (by simp <;> omega)))
      obtain ⟨hH, hB, hT⟩ := put_place (p := p) hP hB0 (by omega) hst v
      clear hbn hst hS1 ‹TagK (w.heap.size + 1) _› q0 q1 q2 q3 f0 f1 f2 f3 hP
      go_wp2_with fail
      go_meet
      exact ⟨W1.heap.size + 1, p, rfl, by omega, hH, hT, by first | exact hB | exact hB.drew⟩
    · have hB0 := ((((Below.refl W1.heap.size W1).alloc (Nat.le_refl _) (.cells #[.int .i64 0, .bool false, .int .i64 0, .pointer none] 96)).alloc (by simp) (.cells #[.int .i64 0, .bool true] 35)).drew.trans (hbn.mono (by simp <;> omega)))
      obtain ⟨hH, hB, hT⟩ := put_place (p := p) hP hB0 (by omega) hst v
      clear hbn hst hS1 ‹TagK (w.heap.size + 1) _› q0 q1 q2 q3 f0 f1 f2 f3 hP
      go_wp2_with fail
      go_meet
      exact ⟨W1.heap.size, p, rfl, by omega, hH, hT, by first | exact hB | exact hB.drew⟩
  case rest =>
    obtain ⟨g, p, rfl, hg, hP, hS, hB⟩ := hcut
    have hwz := HZ1.out
    have hcz := hB.out.size
    have hgl : g < wc.heap.size := heap_lt hP.out
    have hX0 := (hB.out.block w.heap.size (by omega)).trans HX0.out
    have hX1 := (hB.out.block (w.heap.size + 1) (by omega)).trans HX1.out
    have HMC := Lib.hid (HM.out.below hB.out)
    have z0 := (cell_of_block hX0 0).trans (show _ = some (.int .i64 0) from rfl)
    have z1 := (cell_of_block hX0 1).trans (show _ = some (.int .i64 0) from rfl)
    have hA0 : AddK w.heap.size g v p wc := ⟨(cell_of_block hX1 0).trans rfl, (cell_of_block hP.out 0).trans rfl, (cell_of_block hP.out 1).trans rfl, (cell_of_block hP.out 2).trans rfl, (cell_of_block hP.out 3).trans rfl, by unfold held; rw [z0]; rfl, by unfold held; rw [z1]; rfl, frozen_of_block hX0 0, frozen_of_block hX0 1⟩
    have hA1 : AddK w.heap.size g v p wc.drew := hA0
    have HXC := Lib.hid hX0
    have hql : q ≤ 1048600 := by omega
    have hng0 : ¬ w.heap.size = g := by omega
    have hng1 : ¬ w.heap.size + 1 = g := by omega
    have HBW : Hid (Below w.heap.size w wc) := HBB.out.trans (hB.out.mono (by omega))
    obtain ⟨i0, hi, hzz0, hzz1, hzz2⟩ := info_parts Tryd.infoPlace
    have HI := Lib.hid hi
    have HZ0 := Lib.hid hzz0
    have HZ1 := Lib.hid hzz1
    have HZ2 := Lib.hid hzz2
    clear hX0 hX1 z0 z1 hi hzz0 hzz1 hzz2 HW1
    go_wp2_with fail
    go_region_held3 (AddK w.heap.size g v p)
      (first | with_reducible exact hA1 | with_reducible exact hS1 | with_reducible exact hS2 | with_reducible exact addK_store hng0 hS2 _ _ | with_reducible exact addK_below ‹AddK w.heap.size g v p _› ((Below.refl _ _).alloc (Nat.le_refl _) _))
      (first
        | (go_at_call 86; refine (clone_any cs A q c _ ?_ hql).mono ?_; (first | exact HMC.out.below ((Below.refl _ _).drew) | exact HMC.out.below (((Below.refl _ _).alloc (Nat.le_refl _) _).drew)); rintro E w' ⟨vv, rfl, hM, hbn⟩; obtain ⟨rs, hrs, hU⟩ := hM; obtain ⟨Ao, co, hvo, -, -, -⟩ := own_form hU.own; (have hrl : rs.length = q := by rw [HQ.out, ← hrs, List.length_map]); rw [hrl] at hvo; subst hvo; have hS1 := addK_below ‹AddK w.heap.size g v p _› hbn;
            (have hbc : Below wc.heap.size wc w' := by first | exact ((Below.refl _ _).drew).trans hbn | exact ((((Below.refl _ _).alloc (Nat.le_refl _) _).drew).trans (hbn.mono (by simp)))))
        | (refine step_append_lies _ (by rfl) _ _ _ (by rfl) wc.heap.size 96 i0 (.agg #[.int .i64 0, .bool false, .int .i64 0, .pointer none]) 4 32 Tryd.underlying56 HI.out HZ0.out HZ1.out HZ2.out rfl (by decide) (.slice Ao q co) q (rs.flatMap prow) (by rfl) ?_ ⟨w'.heap.size, 0, none⟩ 1 1 [.int .i64 v, .bool true, .int .i64 1, .pointer p] (by rfl) (by rfl) ?_ ?_ (by decide) ?_ ?_ ?_ (w'.heap.size + 1) ?_ ?_;
             (exact own_below (own_mono (hrl ▸ hU.own) (by simp)) ((Below.refl _ _).alloc (Nat.le_refl _) _)); (exact World.news_of_block (cs := #[.int .i64 v, .bool true, .int .i64 1, .pointer p]) (heap_alloc_new w' _)); (intro u hu; simp only [List.mem_cons, List.not_mem_nil, or_false] at hu; rcases hu with rfl | rfl | rfl | rfl <;> rfl); (unfold maxLen; omega); (omega); (show wc.heap.size ≤ (World.alloc w' _).heap.size; have h8 := hbc.size; rw [World.size_alloc]; omega); (simp);
             intro g3 cap w3 hown3 hgr3 hat3 hlt3;
             (have hrow : RowP (w'.alloc (.cells #[.int .i64 v, .bool true, .int .i64 1, .pointer p] 96)) wc.heap.size (.slice Ao q co) rs := (hU.mono (by simp)).below ((Below.refl _ _).alloc (Nat.le_refl _) _));
             (have hbw : Below wc.heap.size wc (w'.alloc (.cells #[.int .i64 v, .bool true, .int .i64 1, .pointer p] 96)) := hbc.alloc hbc.size _);
             (have hS3 := addK_below hS1 ((Below.refl w'.heap.size w').alloc (Nat.le_refl _) (.cells #[.int .i64 v, .bool true, .int .i64 1, .pointer p] 96)));
             obtain ⟨hS2, hfin, hbf⟩ := add_fin hrs hrl hrow hbw hS3 hS.out (by omega) hgl hgr3 hown3)
        | (refine step_append_lies _ (by rfl) _ _ _ (by rfl) wc.heap.size 96 i0 (.agg #[.int .i64 0, .bool false, .int .i64 0, .pointer none]) 4 32 Tryd.underlying56 HI.out HZ0.out HZ1.out HZ2.out rfl (by decide) (.slice Ao q co) q (rs.flatMap prow) (by rfl) ?_ ⟨wc.heap.size, 0, none⟩ 1 1 [.int .i64 v, .bool true, .int .i64 1, .pointer p] (by rfl) (by rfl) ?_ ?_ (by decide) ?_ ?_ ?_ w'.heap.size ?_ ?_;
             (exact own_mono (hrl ▸ hU.own) (by simp)); (exact World.news_of_block (cs := #[.int .i64 v, .bool true, .int .i64 1, .pointer p]) ((hbn.block wc.heap.size (by simp)).trans (heap_alloc_new wc _))); (intro u hu; simp only [List.mem_cons, List.not_mem_nil, or_false] at hu; rcases hu with rfl | rfl | rfl | rfl <;> rfl); (unfold maxLen; omega); (omega); (exact hbc.size); (rfl);
             intro g3 cap w3 hown3 hgr3 hat3 hlt3;
             (have hrow : RowP w' wc.heap.size (.slice Ao q co) rs := hU.mono (by simp));
             obtain ⟨hS2, hfin, hbf⟩ := add_fin hrs hrl hrow hbc hS1 hS.out (by omega) hgl hgr3 hown3))
    all_goals
      have hX3 := (hbf.out.block w.heap.size (by omega)).trans HXC.out
      obtain ⟨e0, e1⟩ := set_pair ((cell_of_block hX3 0).trans (show _ = some (.int .i64 0) from rfl)) ((cell_of_block hX3 1).trans (show _ = some (.int .i64 0) from rfl)) (.int .i64 (q : Int)) (.int .i64 0)
      have HM3 := Lib.hid (((hfin.out.setType (o := 0) (x := .int .i64 (q : Int)) hX3 (by decide) (by omega)).setType (o := 1) (x := .int .i64 0) (set_keeps hX3 _ _) (by decide) (by omega)).mono (show w.heap.size ≤ wc.heap.size by omega))
      have hb3 : Below w.heap.size w ((w3.setCell ⟨w.heap.size, 0, none⟩ (.int .i64 (q : Int))).setCell ⟨w.heap.size, 1, none⟩ (.int .i64 0)) := ((HBW.out.trans (hbf.out.mono (by omega))).setCell (Nat.le_refl _) _).setCell (Nat.le_refl _) _
      clear ‹AddK w.heap.size g v p ((w3.setCell _ _).setCell _ _)› hX3 hfin hbf hS2 hgr3 hat3 hlt3 hown3 hrow
      generalize (w3.setCell ⟨w.heap.size, 0, none⟩ (.int .i64 (q : Int))).setCell ⟨w.heap.size, 1, none⟩ (.int .i64 0) = w4 at *
      go_wp2_with fail
      exact bodyPost_ret (v := .tuple #[.slice (some ⟨g3, 0, none⟩) (q + 1) cap, .agg #[.int .i64 (q : Int), .int .i64 0], .nilIface]) (by simp [results, Tryd.results63, go_sem, e0, e1]) rfl ⟨_, rfl, by first | exact HM3.out | exact HM3.out.below (Below.refl _ _).drew, by first | exact hb3 | exact hb3.drew⟩

end Go.Proofs.YtfkoobdlhdolbaaDoor
