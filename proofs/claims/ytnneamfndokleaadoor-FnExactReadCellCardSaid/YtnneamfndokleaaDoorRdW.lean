/-
  At every memory and pointer, ReadCell of the program answers as its model does, writes into nothing, and its answer is its own. Conditions: the sentinel errors are laid as the program's text lays them.
-/
import Derived.Test.YtnneamfndokleaaDoorCelC
import Derived.Test.YtnneamfndokleaaDoorCelE
import Derived.Test.YtnneamfndokleaaDoorCelS
import Derived.Test.YtnneamfndokleaaDoorCelK2
import Derived.Test.YtnneamfndokleaaDoorCelX
import Derived.Test.YtnneamfndokleaaDoorCelT
import Derived.Test.YtnneamfndokleaaDoorWk1
import Derived.Test.YtnneamfndokleaaDoorRdd
namespace Go.Proofs.YtnneamfndokleaaDoor
open Go.RowKit Go.Deep
set_option linter.unusedVariables false

theorem readA_size {cs m : List CellD} {x t rv cd : Int} (h : readA cs x t = (m, rv, cd)) (hl : cs.length + tagSum cs ≤ 1048576) : m.length + tagSum m ≤ 1048576 := by
  unfold readA at h
  split at h
  · injection h with h _
    subst h
    exact hl
  · rename_i i k d he
    injection h with h _
    subst h
    obtain ⟨_, _, hd, _, _⟩ := hit_ok he
    have := tagSum_set (d' := { d with tags := readT d.tags k }) hd (readT_len _ _)
    rw [List.length_set]
    omega

theorem spec_read (cs : List CellD) (A : Option Addr) (q c : Nat) (x t : Int) (w : World) (h : RdC w (.slice A q c) cs) (hl : cs.length + tagSum cs ≤ 1048600) {m : List CellD} {rv cd : Int} (hm : readA cs x t = (m, rv, cd)) :
    Calls Tryd.prog 9 #[.slice A q c, .agg #[.int .i64 x, .int .i64 t]] w (IntPostI w m rv cd) := by
  cases hh : hit cs x t with
  | error e =>
    have h1 := specReadCell_err cs A q c x t e w h hl hh
    have e2 : readA cs x t = (cs, 0, e) := by unfold readA; rw [hh]
    rw [e2] at hm
    injection hm with h2 hm
    injection hm with h3 h4
    subst h2 h3 h4
    exact h1
  | ok ikd =>
    obtain ⟨i, k, d⟩ := ikd
    have h1 := specReadCell_ok cs A q c x t i k d w h hl hh
    have e2 : readA cs x t = (cs.set i { d with tags := readT d.tags k }, d.val, 0) := by unfold readA; rw [hh]
    rw [e2] at hm
    injection hm with h2 hm
    injection hm with h3 h4
    subst h2 h3 h4
    exact h1

theorem impl_read (cs : List CellD) (A : Option Addr) (q c : Nat) (x t : Int) (w : World) (aI aF aL aR : Addr) (h : RdC w (.slice A q c) cs) (hl : cs.length + tagSum cs ≤ 1048590) (hE : Errs w aI aF aL aR) {m : List CellD} {rv cd : Int} (hl2 : m.length + tagSum m ≤ 1048600) (hm : readA cs x t = (m, rv, cd)) :
    Calls Tryd.prog 12 #[.slice A q c, .agg #[.int .i64 x, .int .i64 t]] w (IntPostI w m rv cd) := by
  have h1 := implReadCell_any cs A q c x t w aI aF aL aR h hl hE (by rw [hm]; exact hl2)
  rw [hm] at h1
  exact h1

set_option maxRecDepth 100000 in
set_option maxHeartbeats 2000000 in
theorem walkReadCell (cs : List CellD) (A : Option Addr) (q c : Nat) (x t : Int) (W : World) (aI aF aL aR : Addr) (h : RdC W (.slice A q c) cs) (hE : Errs W aI aF aL aR) :
    Calls Tryd.prog 3 #[.slice A q c, .agg #[.int .i64 x, .int .i64 t]] W fun e w' => e = .returned (.bool true) ∧ Below W.heap.size W w' := by
  have H := Lib.hid h
  have HE := Lib.hid hE
  clear h hE
  by_cases hsz : cs.length + tagSum cs ≤ 1048576
  · skip
    have hsub : Hid (subI 1048576 (cs.length + tagSum cs) = 1048576 - (cs.length + tagSum cs : Nat)) := if_pos (by omega)
    have hpos : ¬ (1048576 : Int) - (cs.length + tagSum cs : Nat) < 0 := by omega
    obtain ⟨m, rv, cd, hm⟩ : ∃ m rv cd, readA cs x t = (m, rv, cd) := ⟨_, _, _, rfl⟩
    have hml : m.length + tagSum m ≤ 1048576 := readA_size hm hsz
    have HM := Lib.hid hm
    obtain ⟨kk, hkk⟩ : ∃ kk, endC 1 cs = kk := ⟨_, rfl⟩
    have hkpos : ¬ kk < 0 := by rw [← hkk, endC_eq]; omega
    have HKK := Lib.hid hkk
    obtain ⟨km, hkm⟩ : ∃ km, endC 1 m = km := ⟨_, rfl⟩
    have hmpos : ¬ km < 0 := by rw [← hkm, endC_eq]; omega
    have HKM := Lib.hid hkm
    have hok : ((cd != cd) : Bool) = false := by simp
    have hrv : ((rv != rv) : Bool) = false := by simp
    have hkn : ((km != km) : Bool) = false := by simp
    clear hkk hkm hm
    go_enter Tryd.func3, Tryd.ntmps3
    go_wp2_with fail
    have hb := (Below.refl W.heap.size W).alloc (Nat.le_refl _) (.cells #[.int .i64 x, .int .i64 t] 24)
    have hn := heap_alloc_new W (.cells #[.int .i64 x, .int .i64 t] 24)
    have hz : (W.alloc (.cells #[.int .i64 x, .int .i64 t] 24)).heap.size = W.heap.size + 1 := by simp
    obtain ⟨w1, hnw⟩ : ∃ z, W.alloc (.cells #[.int .i64 x, .int .i64 t] 24) = z := ⟨_, rfl⟩
    rw [hnw] at hb hn hz ⊢
    have hB1 := hb
    have sz1 := hb.size
    have PX := Lib.hid hn
    have zPX := Nat.le_of_eq hz.symm
    clear hb hn hnw hz
    refine (szCellS_any cs A q c 1048576 w1 (H.out.below hB1) (by omega) (by omega)).mono ?_
    rintro E w2 ⟨he, hb⟩
    rw [hsub.out] at he
    subst he
    have PX := Lib.hid ((hb.block W.heap.size (heap_lt PX.out)).trans PX.out)
    have hB2 := hB1.trans (hb.mono hB1.size)
    have sz2 := hb.size
    clear hB1
    clear hb
    go_wp2_with fail
    have cx := (cell_of_block PX.out 0).trans (show _ = some (.int .i64 x) from rfl)
    have ct := (cell_of_block PX.out 1).trans (show _ = some (.int .i64 t) from rfl)
    have hK0 : PtrK W.heap.size x t w2.drew := ⟨cx, ct⟩
    clear cx ct
    go_region_held3 (PtrK W.heap.size x t)
      (first | with_reducible exact hK0 | with_reducible exact hS1 | with_reducible exact hS2 | with_reducible exact hS3)
      (first
        | (go_at_call 10; refine (toCellS_any cs A q c _ ?_ hsz).mono ?_; (exact (H.out.below hB2).below (Below.refl _ _).drew); rintro E wa ⟨rfl, hr2, hb2⟩; have hS1 := ptrK_below hK0 hb2)
        | (go_at_call 11; refine (toPointer_any x t _).mono ?_; rintro E wb ⟨rfl, hb3⟩; have hS2 := ptrK_below hS1 hb3)
        | (go_at_call 9; refine (spec_read cs _ q q x t _ ?_ (by omega) HM.out).mono ?_; (exact (hr2.below hb3).reads); rintro E wc ⟨A0, n0, c0, rfl, hr, hb4⟩; have hS3 := ptrK_below hS2 hb4))
    have hwa : Below w2.heap.size w2 wa := (Below.refl _ _).drew.trans hb2
    have hwb : Below w2.heap.size w2 wb := hwa.trans (hb3.mono hwa.size)
    have hb : Below w2.heap.size w2 wc := hwb.trans (hb4.mono hwb.size)
    have sza := hwa.size
    have szb := hb3.size
    have szc := hb4.size
    have hn0 := hr.reads.len.1
    subst hn0
    have H0 := Lib.hid hr.cap
    have PX := Lib.hid ((hb.block W.heap.size (heap_lt PX.out)).trans PX.out)
    have hB3 := hB2.trans (hb.mono hB2.size)
    have sz3 := hb.size
    clear hB2
    clear hr2 hb2 hb3 hb4 hr hb hwa hwb hK0 hS1 hS2 hS3 ‹PtrK _ _ _ wc›
    go_wp2_with fail
    refine (toCellS_any cs A q c wc (H.out.below hB3) hsz).mono ?_
    rintro E w4 ⟨rfl, hr, hb⟩
    have H0 := Lib.hid (H0.out.below hb)
    have PX := Lib.hid ((hb.block W.heap.size (heap_lt PX.out)).trans PX.out)
    have hB4 := hB3.trans (hb.mono hB3.size)
    have sz4 := hb.size
    clear hB3
    have HX := Lib.hid hr.cap
    clear hr hb
    have cx := (cell_of_block PX.out 0).trans (show _ = some (.int .i64 x) from rfl)
    have ct := (cell_of_block PX.out 1).trans (show _ = some (.int .i64 t) from rfl)
    go_wp2_with fail
    refine (toPointer_any x t w4).mono ?_
    rintro E w5 ⟨rfl, hb⟩
    clear cx ct
    have H0 := Lib.hid (H0.out.below hb)
    have HX := Lib.hid (HX.out.below hb)
    have PX := Lib.hid ((hb.block W.heap.size (heap_lt PX.out)).trans PX.out)
    have hB5 := hB4.trans (hb.mono hB4.size)
    have sz5 := hb.size
    clear hB4
    clear hb
    go_wp2_with fail
    refine (impl_read cs _ q q x t w5 aI aF aL aR HX.out.reads (by omega) (HE.out.below hB5) (by omega) HM.out).mono ?_
    rintro E w6 ⟨A1, n1, c1, rfl, hr, hb⟩
    have hn1 := hr.reads.len.1
    subst hn1
    have H1 := Lib.hid hr.cap
    have H0 := Lib.hid (H0.out.below hb)
    have HX := Lib.hid (HX.out.below hb)
    have PX := Lib.hid ((hb.block W.heap.size (heap_lt PX.out)).trans PX.out)
    have hB6 := hB5.trans (hb.mono hB5.size)
    have sz6 := hb.size
    clear hB5
    clear hr hb
    go_wp2_with fail
    refine (eqCellS_any m A1 A0 m.length c1 c0 w6 H1.out.reads H0.out.reads).mono ?_
    rintro E w7 ⟨rfl, hb⟩
    have H0 := Lib.hid (H0.out.below hb)
    have HX := Lib.hid (HX.out.below hb)
    have H1 := Lib.hid (H1.out.below hb)
    have PX := Lib.hid ((hb.block W.heap.size (heap_lt PX.out)).trans PX.out)
    have hB7 := hB6.trans (hb.mono hB6.size)
    have sz7 := hb.size
    clear hB6
    clear hb
    go_wp2_with fail
    refine (toCellS_any cs A q c w7 (H.out.below hB7) hsz).mono ?_
    rintro E w8 ⟨rfl, hr, hb⟩
    have H0 := Lib.hid (H0.out.below hb)
    have HX := Lib.hid (HX.out.below hb)
    have H1 := Lib.hid (H1.out.below hb)
    have PX := Lib.hid ((hb.block W.heap.size (heap_lt PX.out)).trans PX.out)
    have hB8 := hB7.trans (hb.mono hB7.size)
    have sz8 := hb.size
    clear hB7
    have HR := Lib.hid hr
    clear hr hb
    go_wp2_with fail
    refine (eqCellS_any cs _ _ q q q w8 HX.out.reads HR.out.reads).mono ?_
    rintro E w9 ⟨rfl, hb⟩
    have H0 := Lib.hid (H0.out.below hb)
    have HX := Lib.hid (HX.out.below hb)
    have H1 := Lib.hid (H1.out.below hb)
    have PX := Lib.hid ((hb.block W.heap.size (heap_lt PX.out)).trans PX.out)
    have hB9 := hB8.trans (hb.mono hB8.size)
    have sz9 := hb.size
    clear hB8
    clear hb HR
    go_wp2_with fail
    refine (markCellS_any cs wc.heap.size w4.heap.size _ 1 w9 HX.out (by omega) (by omega) (by omega)).mono ?_
    rintro E w10 ⟨rfl, -, hsp, hz⟩
    rw [HKK.out]
    have H0 := Lib.hid (H0.out.span hsp (.inr (by omega)))
    have H1 := Lib.hid (H1.out.span hsp (.inl (by omega)))
    have PX := Lib.hid ((hsp.block W.heap.size (heap_lt PX.out) (.inl (by omega))).trans PX.out)
    have hB10 : Below W.heap.size W w10 := below_span_ hB9 hsp (by omega)
    have sz10 := Nat.le_of_eq hz.symm
    clear hsp hz hB9 HX
    go_wp2_with fail
    refine (eqCellS_any m A1 A0 m.length c1 c0 w10 H1.out.reads H0.out.reads).mono ?_
    rintro E w11 ⟨rfl, hb⟩
    have H0 := Lib.hid (H0.out.below hb)
    have H1 := Lib.hid (H1.out.below hb)
    have PX := Lib.hid ((hb.block W.heap.size (heap_lt PX.out)).trans PX.out)
    have hB11 := hB10.trans (hb.mono hB10.size)
    have sz11 := hb.size
    clear hB10
    clear hb
    go_wp2_with fail
    refine (markCellS_any m w5.heap.size w6.heap.size _ 1 w11 H1.out (by omega) (by omega) (by omega)).mono ?_
    rintro E w12 ⟨rfl, hmk, hsp, hz⟩
    rw [HKM.out]
    have H1 := Lib.hid hmk
    have H0 := Lib.hid (H0.out.span hsp (.inr (by omega)))
    have PX := Lib.hid ((hsp.block W.heap.size (heap_lt PX.out) (.inl (by omega))).trans PX.out)
    have hB12 : Below W.heap.size W w12 := below_span_ hB11 hsp (by omega)
    have sz12 := Nat.le_of_eq hz.symm
    clear hsp hz hmk hB11
    go_wp2_with fail
    refine (heldCellS_any m A1 m.length c1 1 w12 H1.out.reads (by omega) (by omega) (by omega)).mono ?_
    rintro E wx ⟨rfl, hx⟩
    subst hx
    rw [HKM.out]
    go_wp2_with fail
    have cx := (cell_of_block PX.out 0).trans (show _ = some (.int .i64 x) from rfl)
    have ct := (cell_of_block PX.out 1).trans (show _ = some (.int .i64 t) from rfl)
    have hK0 : PtrK W.heap.size x t w12.drew := ⟨cx, ct⟩
    clear cx ct
    go_region_held3 (PtrK W.heap.size x t)
      (first | with_reducible exact hK0 | with_reducible exact hS1 | with_reducible exact hS2 | with_reducible exact hS3)
      (first
        | (go_at_call 10; refine (toCellS_any cs A q c _ ?_ hsz).mono ?_; (exact (H.out.below hB12).below (Below.refl _ _).drew); rintro E wd ⟨rfl, hr2, hb2⟩; have hS1 := ptrK_below hK0 hb2)
        | (go_at_call 11; refine (toPointer_any x t _).mono ?_; rintro E we ⟨rfl, hb3⟩; have hS2 := ptrK_below hS1 hb3)
        | (go_at_call 12; refine (impl_read cs _ q q x t _ aI aF aL aR ?_ (by omega) ?_ (by omega) HM.out).mono ?_; (exact (hr2.below hb3).reads); (exact (((HE.out.below hB12).below (Below.refl _ _).drew).below hb2).below hb3); rintro E wf ⟨A2, n2, c2, rfl, hr, hb4⟩; have hS3 := ptrK_below hS2 hb4))
    have hwa : Below w12.heap.size w12 wd := (Below.refl _ _).drew.trans hb2
    have hwb : Below w12.heap.size w12 we := hwa.trans (hb3.mono hwa.size)
    have hb : Below w12.heap.size w12 wf := hwb.trans (hb4.mono hwb.size)
    have hn2 := hr.reads.len.1
    subst hn2
    have H2 := Lib.hid hr.cap
    have H0 := Lib.hid (H0.out.below hb)
    have H1 := Lib.hid (H1.out.below hb)
    have PX := Lib.hid ((hb.block W.heap.size (heap_lt PX.out)).trans PX.out)
    have hB13 := hB12.trans (hb.mono hB12.size)
    have sz13 := hb.size
    clear hB12
    clear hr2 hb2 hb3 hb4 hr hb hwa hwb hK0 hS1 hS2 hS3 ‹PtrK _ _ _ wf›
    go_wp2_with fail
    refine (eqCellS_any m A2 A0 m.length c2 c0 wf H2.out.reads H0.out.reads).mono ?_
    rintro E w14 ⟨rfl, hb⟩
    have H0 := Lib.hid (H0.out.below hb)
    have H1 := Lib.hid (H1.out.below hb)
    have H2 := Lib.hid (H2.out.below hb)
    have PX := Lib.hid ((hb.block W.heap.size (heap_lt PX.out)).trans PX.out)
    have hB14 := hB13.trans (hb.mono hB13.size)
    have sz14 := hb.size
    clear hB13
    clear hb
    go_wp2_with fail
    refine (heldCellS_any m A1 m.length c1 1 w14 H1.out.reads (by omega) (by omega) (by omega)).mono ?_
    rintro E wx ⟨rfl, hx⟩
    subst hx
    rw [HKM.out]
    go_wp2_with fail
    go_ret
    exact ⟨rfl, hB14⟩
  · have hsub : Hid (subI 1048576 (cs.length + tagSum cs) = -1) := if_neg (by omega)
    have hb0 := (Below.refl W.heap.size W).alloc (Nat.le_refl _) (.cells #[.int .i64 x, .int .i64 t] 24)
    have HB0 := Lib.hid hb0
    have HS := Lib.hid (szCellS_any cs A q c 1048576 _ (H.out.below hb0) (by omega) (by omega))
    clear hb0
    go_enter Tryd.func3, Tryd.ntmps3
    go_wp2_with fail
    refine HS.out.mono ?_
    rintro E w1 ⟨he, hb1⟩
    rw [hsub.out] at he
    subst he
    have hbf := HB0.out.trans (hb1.mono HB0.out.size)
    clear hb1 HS
    go_wp2_with fail
    go_ret
    exact ⟨rfl, hbf⟩

end Go.Proofs.YtnneamfndokleaaDoor
