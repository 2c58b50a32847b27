/-
  The model's draw of the arguments of WayChoices.
-/
import Derived.Test.YtlddoookojjleaaZDrR
import Derived.Test.YtlddoookojjleaaZRunE
import Derived.Test.YtlddoookojjleaaZRunM
import Derived.Test.YtlddoookojjleaaZRev
import Derived.Deep.RegionHeld3
import Derived.Deep.DeepCutAuto
namespace Go.Proofs.Ytlddoookojjleaa
open Go.RowKit Go.Deep
set_option linter.unusedVariables false

theorem runI_len30 (ok : Bool) (s : Sts) (xs : List Int) : (runI ok s xs 20).1.length ≤ 30 := by
  unfold runI
  split
  · have h : ∀ m k ch, (runP (progPts s) m k ch).1.length ≤ m + 1 := by
      intro m
      induction m with
      | zero => intro k ch; unfold runP; split <;> simp
      | succ m ih =>
        intro k ch
        unfold runP
        split
        · simp
        · have := ih (stepP (nextP (progPts s) k) ch).1.toNat (stepP (nextP (progPts s) k) ch).2
          simp only [List.length_cons]
          omega
    have h2 := h (20 : Int).toNat 0 xs
    have h3 : (20 : Int).toNat = 20 := rfl
    rw [h3] at h2
    exact Nat.le_trans h2 (by decide)
  · simp

/-- What the draw leaves: a program and a way. -/
def WayD (w : World) (E : Ending) (w' : World) : Prop := ∃ (ts : List Int) (s : Sts) (At As : Option Addr) (ct cs : Nat) (xs : List Int) (A : Option Addr) (c : Nat), E = .returned (.tuple #[.agg #[.slice At ts.length ct, .slice As s.len cs], .slice A xs.length c]) ∧
  ReadsP w' w.heap.size ts s At As ct cs ∧ ts.length ≤ 1000 ∧ s.size ≤ 40000 ∧ IntsV w' 0 w'.heap.size xs A c ∧ xs.length ≤ 30 ∧ Below w.heap.size w w'

set_option maxRecDepth 100000 in
set_option maxHeartbeats 600000 in
theorem drawWayChoices_any (nb cb : Nat) (Ab : Option Addr) (w : World) (hB : ByteV w w.heap.size nb Ab cb) : Calls Try.prog 22 #[.slice Ab nb cb] w (WayD w) := by
  obtain ⟨w0, hw0⟩ : ∃ w0, w.alloc (.cells #[.slice none 0 0, .slice none 0 0] 31) = w0 := ⟨_, rfl⟩
  have hb0 := (Below.refl w.heap.size w).alloc (Nat.le_refl _) (.cells #[.slice none 0 0, .slice none 0 0] 31)
  have X0 := Lib.hid (heap_alloc_new w (.cells #[.slice none 0 0, .slice none 0 0] 31))
  have hz0 : w.heap.size + 1 ≤ (w.alloc (.cells #[.slice none 0 0, .slice none 0 0] 31)).heap.size := Nat.le_of_eq (by simp)
  have HO := Lib.hid (l17Open_any nb cb Ab (w.alloc (.cells #[.slice none 0 0, .slice none 0 0] 31)) (hB.below hb0 (by simp)))
  rw [hw0] at X0 hz0 HO
  have HB0 : Hid (Below w.heap.size w w0) := by rw [← hw0]; exact hb0
  clear hb0 hB
  go_enter Try.func22, Try.ntmps22
  go_upto_region 1 with (fail)
  clear hw0
  go_wp2_with fail
  refine HO.out.mono ?_
  rintro E w1 ⟨rfl, hs1, hb1⟩
  have hz1 := hb1.size
  have hsl := hs1.lt
  obtain ⟨R, hR⟩ : ∃ R, w0.heap.size = R := ⟨_, rfl⟩
  have S1 := Lib.hid hs1
  have X1 := Lib.hid ((hb1.block w.heap.size (by omega)).trans X0.out)
  have N1 := Lib.hid (HB0.out.trans (hb1.mono (by omega)))
  rw [hR] at S1 hz0 hz1 hsl
  rw [hR]
  clear hs1 hb1 HO hR
  have HBR := Lib.hid (l2Branch_any R 0 w1 S1.out (by omega))
  go_wp2_with fail
  refine HBR.out.mono ?_
  rintro E w2 ⟨ts, s, At, As, ct, cs, rfl, hr2, ht, hs, hs2, hb2⟩
  have hz2 := hb2.size
  obtain ⟨n, hn⟩ : ∃ n, ts.length = n := ⟨_, rfl⟩
  obtain ⟨m, hm⟩ : ∃ m, s.len = m := ⟨_, rfl⟩
  have HN := Lib.hid hn
  have HM := Lib.hid hm
  rw [hn, hm]
  have hba := (Below.refl w2.heap.size w2).alloc (Nat.le_refl _) (.cells #[.slice At n ct, .slice As m cs] 31)
  have h3n := heap_alloc_new w2 (.cells #[.slice At n ct, .slice As m cs] 31)
  have h3z : w2.heap.size + 1 ≤ (w2.alloc (.cells #[.slice At n ct, .slice As m cs] 31)).heap.size := Nat.le_of_eq (by simp)
  obtain ⟨w3, hw3⟩ : ∃ w3, w2.alloc (.cells #[.slice At n ct, .slice As m cs] 31) = w3 := ⟨_, rfl⟩
  have HR3 := Lib.hid (hr2.below hba)
  have S3 := Lib.hid (hs2.below hba)
  have N3 := Lib.hid ((N1.out.trans ((hb2.below (by omega)).mono (by omega))).trans (hba.mono (by omega)))
  have X3 := Lib.hid ((hba.block w.heap.size (by omega)).trans ((hb2.block w.heap.size (by omega) (by omega)).trans X1.out))
  rw [hw3] at HR3 S3 N3 X3 h3n h3z
  have Y3 := Lib.hid h3n
  have HT := Lib.hid ht
  have HS := Lib.hid hs
  have hs40 := Lib.hid hs
  clear hn hm hba h3n hr2 ht hs hs2 hb2 HBR
  have hS3d := S3.out.below (Below.refl w3.heap.size w3).drew
  have HCH := Lib.hid (l2Choices_any R _ w3.drew hS3d (by omega))
  have HRUN : Hid (∀ (w' : World) (xs : List Int) (A : Option Addr) (c : Nat), But R w3.drew w' → xs.length ≤ 8 → IntsV w' 0 w'.heap.size xs A c → Calls Try.prog 25 #[.agg #[.slice At n ct, .slice As m cs], .slice A xs.length c, .int .i64 20] w' fun E w'' => ∃ (vw : Value) (lw : List Int) (bw : Bool), E = .returned (.tuple #[vw, .bool bw]) ∧ lw.length ≤ 30 ∧ RowI w'' w'.heap.size vw lw ∧ Below w'.heap.size w' w'') := by
    intro w' xs A c hb hx8 hI
    have hr := HR3.out.but (w' := w') (hb := ⟨hb.os, hb.tape, hb.output, hb.size, hb.block⟩) (by omega)
    have h := specRunPath_any ts s At As ct cs xs A c 20 w' (by have := hs40.out; omega) (hr.1.mono (Nat.zero_le _) (Nat.le_refl _)) (hr.2.mono (Nat.zero_le _) (Nat.le_refl _)) hI
    rw [HN.out, HM.out] at h
    refine h.mono ?_
    rintro E w'' ⟨v, rfl, hrow, hb2⟩
    refine ⟨v, _, _, rfl, ?_, hrow, hb2⟩
    have hl := runI_len30 (validB ts s) s xs
    exact hl
  have hbox : ∀ w', But R w3.drew w' → (w'.cell? ⟨w2.heap.size, 0, none⟩ = some (.slice At n ct) ∧ w'.cell? ⟨w2.heap.size, 1, none⟩ = some (.slice As m cs)) := fun w' hb =>
    have hY := (hb.block w2.heap.size (show w2.heap.size < w3.heap.size by omega) (by omega)).trans Y3.out
    ⟨(cell_of_block hY 0).trans rfl, (cell_of_block hY 1).trans rfl⟩
  have HBOX := Lib.hid hbox
  clear hbox hS3d
  go_upto_region 3 with (fail)
  clear hw3
  go_region_held3 (fun w' => But R w3.drew w' ∧ w'.cell? ⟨w2.heap.size, 0, none⟩ = some (.slice At n ct) ∧ w'.cell? ⟨w2.heap.size, 1, none⟩ = some (.slice As m cs))
    (first | exact ⟨But.refl R w3.drew, HBOX.out _ (But.refl R w3.drew)⟩ | exact ⟨hbk2, HBOX.out _ hbk2⟩ | exact ⟨hbk1, HBOX.out _ hbk1⟩ | fail)
    (first
      | (go_at_call 42; refine HCH.out.mono ?_; rintro E w4 ⟨xs, A, c, rfl, hI4, hx8, hs4, hbk1⟩)
      | (go_at_call 25; refine (HRUN.out _ xs A c hbk1 hx8 hI4.intsV).mono ?_; rintro E w5 ⟨vw, lw, bw, rfl, hlw, hrow5, hb5⟩; (have hbk2 := hbk1.trans (But.of_below hb5 (Nat.le_refl _))))
      | fail)
  have hz4w := hbk1.size
  have hz4 : w3.heap.size ≤ w4.heap.size := hz4w
  have hz5 := hb5.size
  have X5 := Lib.hid ((hbk2.block w.heap.size (show w.heap.size < w3.heap.size by omega) (by omega)).trans X3.out)
  have Y5 := Lib.hid ((hbk2.block w2.heap.size (show w2.heap.size < w3.heap.size by omega) (by omega)).trans Y3.out)
  have K5 : Hid (But R w3 w5) := ⟨hbk2.os, hbk2.tape, hbk2.output, hbk2.size, hbk2.block⟩
  have HR5 := Lib.hid (HR3.out.but K5.out (by omega))
  have S5 := Lib.hid (hs4.below hb5)
  have N5 := Lib.hid (N3.out.trans ((But.below (a := w3) ⟨hbk2.os, hbk2.tape, hbk2.output, hbk2.size, hbk2.block⟩ (by omega)).mono (by omega)))
  obtain ⟨z, hzz⟩ : ∃ z, lw.length = z := ⟨_, rfl⟩
  have hz30 : z ≤ 30 := by rw [← hzz]; exact hlw
  obtain ⟨Aw, cw, hvw⟩ := hrow5.slice
  rw [hzz] at hvw
  subst hvw
  have NL0 := Lib.hid hzz
  have HW5 := Lib.hid hrow5
  have HZR : Hid (R < w4.heap.size) := Lib.hid (by omega)
  clear hzz hlw hrow5 hbk1 hbk2 hb5 hs4 hI4 HCH HRUN HBOX hx8 hz4w
  by_cases hz0 : z = 0
  · subst hz0
    have NL0 := NL0
    have NL := NL0
    have XW := X5
    have YW := Y5
    have HRW := HR5
    have HIW := HW5
    have BW := N5
    have z0 : w5.cell? ⟨w.heap.size, 0, none⟩ = some (.slice none 0 0) := (cell_of_block XW.out 0).trans rfl
    have z1 : w5.cell? ⟨w.heap.size, 1, none⟩ = some (.slice none 0 0) := (cell_of_block XW.out 1).trans rfl
    have f0 := frozen_of_block XW.out 0
    have f1 := frozen_of_block XW.out 1
    have y0 : w5.cell? ⟨w2.heap.size, 0, none⟩ = some (.slice At n ct) := (cell_of_block YW.out 0).trans rfl
    have y1 : w5.cell? ⟨w2.heap.size, 1, none⟩ = some (.slice As m cs) := (cell_of_block YW.out 1).trans rfl
    have HRF := Lib.hid ((((HRW.out.setLow (o := 0) (x := .slice At n ct) (show w.heap.size < w1.heap.size by omega)).setLow (o := 1) (x := .slice As m cs) (show w.heap.size < w1.heap.size by omega)).mono (show w.heap.size ≤ w1.heap.size by omega)))
    have HIF : Hid (IntsV ((w5.setCell ⟨w.heap.size, 0, none⟩ (.slice At n ct)).setCell ⟨w.heap.size, 1, none⟩ (.slice As m cs)) 0 ((w5.setCell ⟨w.heap.size, 0, none⟩ (.slice At n ct)).setCell ⟨w.heap.size, 1, none⟩ (.slice As m cs)).heap.size lw Aw cw) :=
      HIW.out.intsB.keep (Nat.zero_le _) (by simp [World.setCell]) fun p h1 h2 => by
        rw [World.cell?_setCell_other _ _ _ _ (fun e => by subst e; simp at h1; omega), World.cell?_setCell_other _ _ _ _ (fun e => by subst e; simp at h1; omega)]
    have HBF := Lib.hid ((BW.out.setCell (p := ⟨w.heap.size, 0, none⟩) (Nat.le_refl _) (.slice At n ct)).setCell (p := ⟨w.heap.size, 1, none⟩) (Nat.le_refl _) (.slice As m cs))
    go_wp2_with fail
    exact bodyPost_ret (v := .tuple #[.agg #[.slice At n ct, .slice As m cs], .slice Aw 0 cw]) (by simp [results, Try.results22, go_sem, z0, z1]) rfl ⟨ts, s, At, As, ct, cs, lw, Aw, cw, by rw [HN.out, HM.out, NL.out], HRF.out, HT.out, HS.out, HIF.out, by rw [NL.out]; exact hz30, HBF.out⟩
  · have e0 : decide ((0 : Int) < (z : Int)) = true := decide_eq_true (by omega)
    have hzn : (0 : Int) < (z : Int) := by omega
    have hzn2 : 0 < z := by omega
    have hzn3 : ¬ z = 0 := hz0
    have HPK := Lib.hid (pick_any R _ 6 w5 (by decide) (by decide) S5.out (by omega))
    go_wp2_with fail
    refine HPK.out.mono ?_
    rintro E w6 ⟨v, hv, rfl, hs6, ho6⟩
    have X6 := Lib.hid ((ho6.block w.heap.size (by omega)).trans X5.out)
    have Y6 := Lib.hid ((ho6.block w2.heap.size (by omega)).trans Y5.out)
    have hb6 := But.of_one ho6
    have K6 := Lib.hid (K5.out.trans hb6)
    have HR6 := Lib.hid (HR3.out.but K6.out (by omega))
    have N6 := Lib.hid (N5.out.trans ((ho6.below (by omega))))
    have HW6 : Hid (RowI w6 w4.heap.size (.slice Aw z cw) lw) := own_keep HW5.out fun g hg => ho6.block g (by have := (HW5.out.own.lt g hg).1; have := HZR.out; omega)
    have S6 := Lib.hid hs6
    have hz6 : w5.heap.size ≤ w6.heap.size := Nat.le_of_eq ho6.size.symm
    clear hs6 ho6 hb6 HPK
    by_cases hv0 : v = 0
    · have e1 : ((v : Int) == 0) = true := by rw [beq_iff_eq]; omega
      have HPK := Lib.hid (pick_any R _ (z : Int) w6 (by omega) (by omega) S6.out (by omega))
      clear hv0
      go_wp2_with fail
      refine HPK.out.mono ?_
      rintro E w7 ⟨k, hk, rfl, hs7, ho7⟩
      have X7 := Lib.hid ((ho7.block w.heap.size (by omega)).trans X6.out)
      have Y7 := Lib.hid ((ho7.block w2.heap.size (by omega)).trans Y6.out)
      have K7 := Lib.hid (K6.out.trans (But.of_one ho7))
      have N7 := Lib.hid (N6.out.trans ((ho7.below (by omega))))
      have HW7 : Hid (RowI w7 w4.heap.size (.slice Aw z cw) lw) := own_keep HW6.out fun g hg => ho7.block g (by have := (HW6.out.own.lt g hg).1; have := HZR.out; omega)
      have hz7 : w6.heap.size ≤ w7.heap.size := Nat.le_of_eq ho7.size.symm
      have hbl := (Below.refl w7.heap.size w7).alloc (Nat.le_refl _) (.cells #[.int .i64 0, .int .i64 1, .int .i64 9, .int .i64 (-1)] 3)
      have HNM : Hid (Calls Try.prog 44 #[.pointer (some ⟨R, 0, none⟩), .slice (some ⟨w7.heap.size, 0, none⟩) 4 4] (w7.alloc (.cells #[.int .i64 0, .int .i64 1, .int .i64 9, .int .i64 (-1)] 3)) _) := Lib.hid (num_any R _ w7.heap.size [0, 1, 9, -1] (w7.alloc (.cells #[.int .i64 0, .int .i64 1, .int .i64 9, .int .i64 (-1)] 3)) (heap_alloc_new w7 _) (by omega) (by decide) (by decide) (hs7.below hbl) (by omega))
      have HBL := Lib.hid hbl
      have hzl := hbl.size
      clear hs7 ho7 HPK hbl
      go_wp2_with fail
      refine HNM.out.mono ?_
      rintro E w8 ⟨val, hval, rfl, hs8, ho8⟩
      have hz8 : (w7.alloc (.cells #[.int .i64 0, .int .i64 1, .int .i64 9, .int .i64 (-1)] 3)).heap.size ≤ w8.heap.size := Nat.le_of_eq ho8.size.symm
      have X8 := Lib.hid ((ho8.block w.heap.size (by omega)).trans ((HBL.out.block w.heap.size (by omega)).trans X7.out))
      have Y8 := Lib.hid ((ho8.block w2.heap.size (by omega)).trans ((HBL.out.block w2.heap.size (by omega)).trans Y7.out))
      have K8 := Lib.hid ((K7.out.trans (But.of_below HBL.out (Nat.le_refl _))).trans (But.of_one ho8))
      have N8 := Lib.hid ((N7.out.trans (HBL.out.mono (by omega))).trans ((ho8.below (by omega))))
      have HW8 : Hid (RowI w8 w4.heap.size (.slice Aw z cw) lw) := own_keep (HW7.out.below HBL.out) fun g hg => ho8.block g (by have := (HW7.out.own.lt g hg).1; have := HZR.out; omega)
      obtain ⟨g, hAg, hgB, hgl⟩ : ∃ g, Aw = some ⟨g, 0, none⟩ ∧ w4.heap.size ≤ g ∧ g < w8.heap.size := by
        rcases HW8.out.2 with ⟨h1, h2⟩ | ⟨g, cap, cur, h1, h2, h3, _⟩
        · simp at h1; omega
        · simp only [Value.slice.injEq] at h1
          exact ⟨g, h1.1, h2, heap_lt h3⟩
      subst hAg
      have hki : (k : Int) < (z : Int) := by omega
      have hkl : k < lw.length := by rw [NL0.out]; omega
      obtain ⟨old, hold⟩ : ∃ old, lw[k]? = some old := ⟨lw[k], List.getElem?_eq_getElem hkl⟩
      have hrL : RowI w8 w4.heap.size (.slice (some ⟨g, 0, none⟩) lw.length cw) lw := by rw [NL0.out]; exact HW8.out
      obtain ⟨hck, hfk⟩ := hrL.cell13 hold
      have hrS := hrL.stored13 k val
      rw [NL0.out] at hrS
      clear hs8 ho8 HNM hrL hold hzn
      have NL : Hid ((lw.set k val).length = z) := Lib.hid (by rw [List.length_set]; exact NL0.out)
      have hne1 : w.heap.size ≠ g := by omega
      have hne2 : w2.heap.size ≠ g := by omega
      have XW := Lib.hid ((heap_setCell_other w8 ⟨g, k, none⟩ w.heap.size (.int .i64 val) hne1).trans X8.out)
      have YW := Lib.hid ((heap_setCell_other w8 ⟨g, k, none⟩ w2.heap.size (.int .i64 val) hne2).trans Y8.out)
      have HRW : Hid (ReadsP (w8.setCell ⟨g, k, none⟩ (.int .i64 val)) w1.heap.size ts s At As ct cs) := Lib.hid (HR3.out.but (K8.out.setCell (show w3.heap.size ≤ g by omega) (.int .i64 val)) (by omega))
      have HIW := Lib.hid hrS
      have BW := Lib.hid (N8.out.setCell (p := ⟨g, k, none⟩) (show w.heap.size ≤ g by omega) (.int .i64 val))
      clear hrS
      have z0 : (w8.setCell ⟨g, k, none⟩ (.int .i64 val)).cell? ⟨w.heap.size, 0, none⟩ = some (.slice none 0 0) := (cell_of_block XW.out 0).trans rfl
      have z1 : (w8.setCell ⟨g, k, none⟩ (.int .i64 val)).cell? ⟨w.heap.size, 1, none⟩ = some (.slice none 0 0) := (cell_of_block XW.out 1).trans rfl
      have f0 := frozen_of_block XW.out 0
      have f1 := frozen_of_block XW.out 1
      have y0 : (w8.setCell ⟨g, k, none⟩ (.int .i64 val)).cell? ⟨w2.heap.size, 0, none⟩ = some (.slice At n ct) := (cell_of_block YW.out 0).trans rfl
      have y1 : (w8.setCell ⟨g, k, none⟩ (.int .i64 val)).cell? ⟨w2.heap.size, 1, none⟩ = some (.slice As m cs) := (cell_of_block YW.out 1).trans rfl
      have HRF := Lib.hid ((((HRW.out.setLow (o := 0) (x := .slice At n ct) (show w.heap.size < w1.heap.size by omega)).setLow (o := 1) (x := .slice As m cs) (show w.heap.size < w1.heap.size by omega)).mono (show w.heap.size ≤ w1.heap.size by omega)))
      have HIF : Hid (IntsV (((w8.setCell ⟨g, k, none⟩ (.int .i64 val)).setCell ⟨w.heap.size, 0, none⟩ (.slice At n ct)).setCell ⟨w.heap.size, 1, none⟩ (.slice As m cs)) 0 (((w8.setCell ⟨g, k, none⟩ (.int .i64 val)).setCell ⟨w.heap.size, 0, none⟩ (.slice At n ct)).setCell ⟨w.heap.size, 1, none⟩ (.slice As m cs)).heap.size (lw.set k val) (some ⟨g, 0, none⟩) cw) :=
        HIW.out.intsB.keep (Nat.zero_le _) (by simp [World.setCell]) fun p h1 h2 => by
          rw [World.cell?_setCell_other _ _ _ _ (fun e => by subst e; simp at h1; omega), World.cell?_setCell_other _ _ _ _ (fun e => by subst e; simp at h1; omega)]
      have HBF := Lib.hid ((BW.out.setCell (p := ⟨w.heap.size, 0, none⟩) (Nat.le_refl _) (.slice At n ct)).setCell (p := ⟨w.heap.size, 1, none⟩) (Nat.le_refl _) (.slice As m cs))
      go_wp2_with fail
      exact bodyPost_ret (v := .tuple #[.agg #[.slice At n ct, .slice As m cs], .slice (some ⟨g, 0, none⟩) z cw]) (by simp [results, Try.results22, go_sem, z0, z1]) rfl ⟨ts, s, At, As, ct, cs, (lw.set k val), some ⟨g, 0, none⟩, cw, by rw [HN.out, HM.out, NL.out], HRF.out, HT.out, HS.out, HIF.out, by rw [NL.out]; exact hz30, HBF.out⟩
    · have e1 : ((v : Int) == 0) = false := by rw [beq_eq_false_iff_ne]; omega
      have NL := NL0
      have XW := X6
      have YW := Y6
      have HRW := HR6
      have HIW := HW6
      have BW := N6
      clear hv0
      have z0 : w6.cell? ⟨w.heap.size, 0, none⟩ = some (.slice none 0 0) := (cell_of_block XW.out 0).trans rfl
      have z1 : w6.cell? ⟨w.heap.size, 1, none⟩ = some (.slice none 0 0) := (cell_of_block XW.out 1).trans rfl
      have f0 := frozen_of_block XW.out 0
      have f1 := frozen_of_block XW.out 1
      have y0 : w6.cell? ⟨w2.heap.size, 0, none⟩ = some (.slice At n ct) := (cell_of_block YW.out 0).trans rfl
      have y1 : w6.cell? ⟨w2.heap.size, 1, none⟩ = some (.slice As m cs) := (cell_of_block YW.out 1).trans rfl
      have HRF := Lib.hid ((((HRW.out.setLow (o := 0) (x := .slice At n ct) (show w.heap.size < w1.heap.size by omega)).setLow (o := 1) (x := .slice As m cs) (show w.heap.size < w1.heap.size by omega)).mono (show w.heap.size ≤ w1.heap.size by omega)))
      have HIF : Hid (IntsV ((w6.setCell ⟨w.heap.size, 0, none⟩ (.slice At n ct)).setCell ⟨w.heap.size, 1, none⟩ (.slice As m cs)) 0 ((w6.setCell ⟨w.heap.size, 0, none⟩ (.slice At n ct)).setCell ⟨w.heap.size, 1, none⟩ (.slice As m cs)).heap.size lw Aw cw) :=
        HIW.out.intsB.keep (Nat.zero_le _) (by simp [World.setCell]) fun p h1 h2 => by
          rw [World.cell?_setCell_other _ _ _ _ (fun e => by subst e; simp at h1; omega), World.cell?_setCell_other _ _ _ _ (fun e => by subst e; simp at h1; omega)]
      have HBF := Lib.hid ((BW.out.setCell (p := ⟨w.heap.size, 0, none⟩) (Nat.le_refl _) (.slice At n ct)).setCell (p := ⟨w.heap.size, 1, none⟩) (Nat.le_refl _) (.slice As m cs))
      go_wp2_with fail
      exact bodyPost_ret (v := .tuple #[.agg #[.slice At n ct, .slice As m cs], .slice Aw z cw]) (by simp [results, Try.results22, go_sem, z0, z1]) rfl ⟨ts, s, At, As, ct, cs, lw, Aw, cw, by rw [HN.out, HM.out, NL.out], HRF.out, HT.out, HS.out, HIF.out, by rw [NL.out]; exact hz30, HBF.out⟩

end Go.Proofs.Ytlddoookojjleaa
