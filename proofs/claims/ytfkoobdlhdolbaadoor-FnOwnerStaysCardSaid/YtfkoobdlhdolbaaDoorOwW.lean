/-
  Whatever the bytes, the first tag of a cell that is alive can always be used. Conditions: the sentinel errors are laid as the program's text lays them.
-/
import Derived.Test.YtfkoobdlhdolbaaDoorKO
namespace Go.Proofs.YtfkoobdlhdolbaaDoor
open Go.RowKit Go.Deep
set_option linter.unusedVariables false

set_option maxRecDepth 100000 in
set_option maxHeartbeats 1000000 in
theorem walkFnOwnerStays (n c : Nat) (A : Option Addr) (W : World) (aI aF aL aR : Addr) (hB : ByteV W W.heap.size n A c) (hE : Errs W aI aF aL aR) :
    Calls Tryd.prog 13 #[.slice A n c] W fun e w' => e = .returned (.bool true) ∧ Below W.heap.size W w' := by
  have hnc := hB.1
  have hcm := hB.2.1
  unfold maxLen at hcm
  by_cases hn : n ≤ 1048576
  · skip
    have HC := Lib.hid (drawReadCell_any n c A W hB)
    have HE := Lib.hid hE
    clear hB hE
    go_enter Tryd.func13, Tryd.ntmps13
    go_wp2_with fail
    refine HC.out.mono ?_
    rintro E w1 ⟨cs, A1, c1, x, t, rfl, hr, hsz, hb⟩
    clear HC
    have hB1 := hb
    have sz1 := hb.size
    have H := Lib.hid hr
    clear hr hb
    obtain ⟨m1, v1, k1, hm1⟩ : ∃ m v k, readA cs x t = (m, v, k) := ⟨_, _, _, rfl⟩
    have z1 : m1.length + tagSum m1 ≤ 41 := by have h := readA_sum (cs := cs) (x := x) (t := t); rw [hm1] at h; simp only at h; omega
    have HM1 := Lib.hid hm1
    clear hm1
    go_upto_region 4 with fail
    have hb := (Below.refl w1.heap.size w1).alloc (Nat.le_refl _) (.cells #[.int .i64 x, .int .i64 t] 25)
    have hn := heap_alloc_new w1 (.cells #[.int .i64 x, .int .i64 t] 25)
    have hz : (w1.alloc (.cells #[.int .i64 x, .int .i64 t] 25)).heap.size = w1.heap.size + 1 := by simp
    obtain ⟨w2, hnw⟩ : ∃ zz, w1.alloc (.cells #[.int .i64 x, .int .i64 t] 25) = zz := ⟨_, rfl⟩
    rw [hnw] at hb hn hz ⊢
    have H := Lib.hid (H.out.below hb)
    have hB2 := hB1.trans (hb.mono hB1.size)
    have sz2 := hb.size
    clear hB1
    have PX := Lib.hid hn
    have zPX := Nat.le_of_eq hz.symm
    clear hb hn hnw hz
    have cPX0 := (cell_of_block PX.out 0).trans (show _ = some (.int .i64 x) from rfl)
    have cPX1 := (cell_of_block PX.out 1).trans (show _ = some (.int .i64 t) from rfl)
    go_wp2_with fail
    refine (impl_read cs _ _ _ x t w2 aI aF aL aR H.out.reads (by omega) (HE.out.below hB2) HM1.out).mono ?_
    rintro E w3 ⟨A2, n2, c2, rfl, hr, hb⟩
    have hn0 := hr.reads.len.1
    subst hn0
    have H := Lib.hid (H.out.below hb)
    have PX := Lib.hid ((hb.block w1.heap.size (heap_lt PX.out)).trans PX.out)
    have hB3 := hB2.trans (hb.mono hB2.size)
    have sz3 := hb.size
    clear hB2
    have R2 := Lib.hid hr
    clear hr hb
    clear cPX0 cPX1
    have cPX0 := (cell_of_block PX.out 0).trans (show _ = some (.int .i64 x) from rfl)
    have cPX1 := (cell_of_block PX.out 1).trans (show _ = some (.int .i64 t) from rfl)
    go_wp2_with fail
    refine (spec_read cs _ _ _ x t w3 H.out.reads (by omega) HM1.out).mono ?_
    rintro E w4 ⟨A3, n3, c3, rfl, hr, hb⟩
    have hn0 := hr.reads.len.1
    subst hn0
    have H := Lib.hid (H.out.below hb)
    have R2 := Lib.hid (R2.out.below hb)
    have PX := Lib.hid ((hb.block w1.heap.size (heap_lt PX.out)).trans PX.out)
    have hB4 := hB3.trans (hb.mono hB3.size)
    have sz4 := hb.size
    clear hB3
    have R3 := Lib.hid hr
    clear hr hb
    clear cPX0 cPX1
    go_wp2_with fail
    refine (bcCells_any m1 _ _ _ _ _ w4 R2.out.reads R3.out.reads).mono ?_
    rintro E w5 ⟨rfl, hb⟩
    have H := Lib.hid (H.out.below hb)
    have R2 := Lib.hid (R2.out.below hb)
    have R3 := Lib.hid (R3.out.below hb)
    have PX := Lib.hid ((hb.block w1.heap.size (heap_lt PX.out)).trans PX.out)
    have hB5 := hB4.trans (hb.mono hB4.size)
    have sz5 := hb.size
    clear hB4
    clear hb
    have hkk : ((k1 != k1) : Bool) = false := by simp
    by_cases hk : k1 = 0
    · subst hk
      obtain ⟨i, d, g, hx, hd, hg, ⟨m5, hw5⟩, ⟨m6, hf6⟩⟩ := owner_stays HM1.out
      subst hx
      obtain ⟨gi, gu⟩ := g
      have hil := (List.getElem?_eq_some_iff.1 hd).1
      obtain ⟨ba, val, al, nx, ts, Au, cu, hA, hba, hda, ⟨-, -, -, a3⟩, hT, t1, t2⟩ := R2.out.reads.elem (k := i) hil
      rw [hd] at hda
      injection hda with hda
      subst hda
      subst hA
      have htl : 0 < ts.length := (List.getElem?_eq_some_iff.1 (show ts[0]? = _ from hg)).1
      obtain ⟨bt, id, uu, hAu, hbt, hdt, ta0, -⟩ := hT.elem (k := 0) htl
      rw [show ts[0]? = _ from hg] at hdt
      injection hdt with hdt
      injection hdt with e1 e2
      subst e1 e2
      subst hAu
      obtain ⟨L, hL⟩ : ∃ L, ts.length = L := ⟨_, rfl⟩
      rw [hL] at a3 htl t1
      have HW5 := Lib.hid hw5
      have HF6 := Lib.hid hf6
      clear hw5 hf6 hg hd hT hL
      have hq := R2.out.reads.len
      unfold maxLen at t2
      have cPX0 := (cell_of_block PX.out 0).trans (show _ = some (.int .i64 (i : Nat)) from rfl)
      have cPX1 := (cell_of_block PX.out 1).trans (show _ = some (.int .i64 t) from rfl)
      go_upto_region 8 with fail
      go_cut [11] (fun sa wx => ∃ (g : Nat), sa = .pointer (some ⟨g, 0, none⟩) ∧ w5.heap.size ≤ g ∧ Hid (wx.heap[g]? = some (.cells #[.int .i64 (i : Nat), .int .i64 gi] 25 (0, 0))) ∧ Hid (Below w5.heap.size w5 wx))
      case first =>
        rw [show bt.add (0 * 2) = bt by cases bt; rfl] at ta0
        have hK00 : TrK w5 ⟨w1.heap.size, 0, none⟩ ⟨(ba.add (i * 4)).block, (ba.add (i * 4)).off + 3, none⟩ bt (.int .i64 (i : Nat)) (.slice (some bt) L cu) (.int .i64 gi) w5 := ⟨Below.refl _ _, cPX0, a3, ta0⟩
        have hK0 : TrK w5 ⟨w1.heap.size, 0, none⟩ ⟨(ba.add (i * 4)).block, (ba.add (i * 4)).off + 3, none⟩ bt (.int .i64 (i : Nat)) (.slice (some bt) L cu) (.int .i64 gi) w5.drew := ⟨(Below.refl _ _).drew, cPX0, a3, ta0⟩
        clear cPX0 cPX1 a3 ta0
        go_region_held3 (TrK w5 ⟨w1.heap.size, 0, none⟩ ⟨(ba.add (i * 4)).block, (ba.add (i * 4)).off + 3, none⟩ bt (.int .i64 (i : Nat)) (.slice (some bt) L cu) (.int .i64 gi)) (first | with_reducible exact hK0 | with_reducible exact hK00 | with_reducible exact trK_alloc ‹TrK w5 ⟨w1.heap.size, 0, none⟩ ⟨(ba.add (i * 4)).block, (ba.add (i * 4)).off + 3, none⟩ bt (.int .i64 (i : Nat)) (.slice (some bt) L cu) (.int .i64 gi) _› _ | with_reducible exact trK_drew (trK_alloc hK00 _) | exact trK_store hK00 (by assumption) (Nat.le_refl _) _ _) (fail)
        have hD := heap_alloc_new w5 (.cells #[.int .i64 (i : Nat), .int .i64 gi] 25)
        have hB := (Below.refl w5.heap.size w5).alloc (Nat.le_refl _) (.cells #[.int .i64 (i : Nat), .int .i64 gi] 25)
        go_wp2_with fail
        go_meet
        exact ⟨_, rfl, Nat.le_refl _, hD, by first | exact hB | exact hB.drew⟩
      case rest =>
        rename World => w6
        obtain ⟨g, rfl, hgg, hgp, hgb⟩ := hcut
        have hb := hgb.out
        clear cPX0 cPX1 a3 ta0
        have H := Lib.hid (H.out.below hb)
        have R2 := Lib.hid (R2.out.below hb)
        have R3 := Lib.hid (R3.out.below hb)
        have PX := Lib.hid ((hb.block w1.heap.size (heap_lt PX.out)).trans PX.out)
        have hB6 := hB5.trans (hb.mono hB5.size)
        have sz6 := hb.size
        clear hB5
        have PO := hgp
        clear hb hgg hgp hgb
        have cPO0 := (cell_of_block PO.out 0).trans (show _ = some (.int .i64 (i : Nat)) from rfl)
        have cPO1 := (cell_of_block PO.out 1).trans (show _ = some (.int .i64 gi) from rfl)
        go_wp2_with fail
        refine (impl_write m1 _ _ _ (i : Nat) gi 1 w6 aI aF aL aR R2.out.reads (by omega) (HE.out.below hB6) HW5.out).mono ?_
        rintro E w7 ⟨A5, n5, c5, rfl, hr, hb⟩
        have hn0 := hr.reads.len.1
        subst hn0
        have H := Lib.hid (H.out.below hb)
        have R2 := Lib.hid (R2.out.below hb)
        have R3 := Lib.hid (R3.out.below hb)
        have PX := Lib.hid ((hb.block w1.heap.size (heap_lt PX.out)).trans PX.out)
        have PO := Lib.hid ((hb.block g (heap_lt PO.out)).trans PO.out)
        have hB7 := hB6.trans (hb.mono hB6.size)
        have sz7 := hb.size
        clear hB6
        have R5 := Lib.hid hr
        clear hr hb
        clear cPO0 cPO1
        have cPO0 := (cell_of_block PO.out 0).trans (show _ = some (.int .i64 (i : Nat)) from rfl)
        have cPO1 := (cell_of_block PO.out 1).trans (show _ = some (.int .i64 gi) from rfl)
        go_wp2_with fail
        refine (impl_free m1 _ _ _ (i : Nat) gi w7 aI aF aL aR R2.out.reads (by omega) (HE.out.below hB7) HF6.out).mono ?_
        rintro E w8 ⟨A6, n6, c6, rfl, hr, hb⟩
        have hn0 := hr.reads.len.1
        subst hn0
        have H := Lib.hid (H.out.below hb)
        have R2 := Lib.hid (R2.out.below hb)
        have R3 := Lib.hid (R3.out.below hb)
        have R5 := Lib.hid (R5.out.below hb)
        have PX := Lib.hid ((hb.block w1.heap.size (heap_lt PX.out)).trans PX.out)
        have PO := Lib.hid ((hb.block g (heap_lt PO.out)).trans PO.out)
        have hB8 := hB7.trans (hb.mono hB7.size)
        have sz8 := hb.size
        clear hB7
        have R6 := Lib.hid hr
        clear hr hb
        clear cPO0 cPO1
        go_wp2_with fail
        go_ret
        exact ⟨rfl, hB8⟩
    · skip
      go_wp2_with fail
      refine (bcCells_any m1 _ _ _ _ _ w5 R2.out.reads R3.out.reads).mono ?_
      rintro E w6 ⟨rfl, hb⟩
      have H := Lib.hid (H.out.below hb)
      have R2 := Lib.hid (R2.out.below hb)
      have R3 := Lib.hid (R3.out.below hb)
      have PX := Lib.hid ((hb.block w1.heap.size (heap_lt PX.out)).trans PX.out)
      have hB6 := hB5.trans (hb.mono hB5.size)
      have sz6 := hb.size
      clear hB5
      clear hb
      go_wp2_with fail
      go_ret
      exact ⟨rfl, hB6⟩
  · clear hB hE
    go_enter Tryd.func13, Tryd.ntmps13
    go_wp2_with fail
    go_ret
    exact ⟨rfl, Below.refl _ _⟩

end Go.Proofs.YtfkoobdlhdolbaaDoor
