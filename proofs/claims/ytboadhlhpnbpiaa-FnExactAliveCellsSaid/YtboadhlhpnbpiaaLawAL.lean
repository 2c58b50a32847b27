/-
  At every memory, AliveCells of the program answers as its model does, writes into nothing, and its answer is its own. Conditions: none.
-/
import Derived.Test.YtboadhlhpnbpiaaCelC
import Derived.Test.YtboadhlhpnbpiaaCelE
import Derived.Test.YtboadhlhpnbpiaaCelL
import Derived.Test.YtboadhlhpnbpiaaCelD
import Derived.Test.YtboadhlhpnbpiaaRows
namespace Go.Proofs.Ytboadhlhpnbpiaa.fnAliveCells
open Go.ChangeShapes Go.WideShapes Go.ChangeAt Go.RowKit Go.Deep Go.Joins
set_option linter.unusedVariables false

set_option maxRecDepth 100000 in
set_option maxHeartbeats 8000000 in
theorem walk (cs : List CellD) (A : Option Addr) (q c : Nat) (W : World) (h : RdC W (.slice A q c) cs) :
    Calls Try.prog 4 #[.slice A q c] W fun e w' => e = .returned (.bool true) ∧ Below W.heap.size W w' := by
  have H := Lib.hid h
  clear h
  by_cases hsz : cs.length + tagSum cs ≤ 1048576
  · have hsub : Hid (subI 1048576 (cs.length + tagSum cs) = 1048576 - (cs.length + tagSum cs : Nat)) := if_pos (by omega)
    have hpos : ¬ (1048576 : Int) - (cs.length + tagSum cs : Nat) < 0 := by omega
    have hal : (aliveA cs).length ≤ 1048576 := by
      unfold aliveA
      split
      · have := aliveFrom_len cs 0; omega
      · simp
    obtain ⟨xs, hxs⟩ : ∃ xs, aliveA cs = xs := ⟨_, rfl⟩
    rw [hxs] at hal
    have HXS := Lib.hid hxs
    obtain ⟨kk, hkk⟩ : ∃ kk, endC 1 cs = kk := ⟨_, rfl⟩
    have hkpos : ¬ kk < 0 := by rw [← hkk, endC_eq]; omega
    have HKK := Lib.hid hkk
    clear hxs hkk
    go_enter Try.func4, Try.ntmps4
    go_wp2_with fail
    refine (szCellS_any cs A q c 1048576 W H.out (by omega) (by omega)).mono ?_
    rintro E w1 ⟨he, hb1⟩
    rw [hsub.out] at he
    subst he
    go_wp2_with fail
    refine (toCellS_any cs A q c w1 (H.out.below hb1) hsz).mono ?_
    rintro E w2 ⟨rfl, hr2, hb2⟩
    have HR2 := Lib.hid hr2
    have hB2 := hb1.trans (hb2.mono hb1.size)
    clear hr2 hb2 hb1
    go_wp2_with fail
    refine (specAliveCells_any cs _ q q w2 HR2.out.reads).mono ?_
    rintro E w3 ⟨v0, rfl, hv0, hb3⟩
    rw [HXS.out] at hv0
    have hB3 := hB2.trans (hb3.mono hB2.size)
    have HV0 := Lib.hid hv0
    have HL0 := Lib.hid hv0.lt
    clear hb3 hB2 hv0
    go_wp2_with fail
    refine (toCellS_any cs A q c w3 (H.out.below hB3) hsz).mono ?_
    rintro E w4 ⟨rfl, hr4, hb4⟩
    have HR4 := Lib.hid hr4.cap
    have HV04 := Lib.hid (HV0.out.below hb4)
    have h34 := hb4.size
    have hB4 := hB3.trans (hb4.mono hB3.size)
    clear hr4 hb4
    go_wp2_with fail
    refine (implAliveCells_any cs _ q q w4 HR4.out.reads).mono ?_
    rintro E w5 ⟨v1, rfl, hv1, hb5⟩
    rw [HXS.out] at hv1
    have HR5 := Lib.hid (HR4.out.below hb5)
    have HV05 := Lib.hid (HV04.out.below hb5)
    have hB5 := hB4.trans (hb5.mono hB4.size)
    have h45 := hb5.size
    have HV1 := Lib.hid hv1
    have HL1 := Lib.hid hv1.lt
    clear hb5 hv1
    obtain ⟨A0, c0, e0, -⟩ := RowI.ints HV05.out
    obtain ⟨A1, c1, e1, -⟩ := RowI.ints HV1.out
    subst e0 e1
    go_wp2_with fail
    refine (eqIntS_any xs A1 A0 c1 c0 w5 (RowI.intsV HV1.out) (RowI.intsV HV05.out)).mono ?_
    rintro E w6 ⟨rfl, hb6⟩
    have HR6 := Lib.hid (HR5.out.below hb6)
    have HV06 := Lib.hid (HV05.out.below hb6)
    have HV16 := Lib.hid (HV1.out.below hb6)
    have hB6 := hB5.trans (hb6.mono hB5.size)
    have h56 := hb6.size
    clear hb6
    go_wp2_with fail
    refine (toCellS_any cs A q c w6 (H.out.below hB6) hsz).mono ?_
    rintro E w7 ⟨rfl, hr7, hb7⟩
    have HR77 := Lib.hid hr7
    have HR7 := Lib.hid (HR6.out.below hb7)
    have HV07 := Lib.hid (HV06.out.below hb7)
    have HV17 := Lib.hid (HV16.out.below hb7)
    have hB7 := hB6.trans (hb7.mono hB6.size)
    clear hr7 hb7
    go_wp2_with fail
    refine (eqCellS_any cs _ _ q q q w7 HR7.out.reads HR77.out.reads).mono ?_
    rintro E w8 ⟨rfl, hb8⟩
    have HR8 := Lib.hid (HR7.out.below hb8)
    have HV08 := Lib.hid (HV07.out.below hb8)
    have HV18 := Lib.hid (HV17.out.below hb8)
    have hB8 := hB7.trans (hb8.mono hB7.size)
    clear hb8
    go_wp2_with fail
    refine (markCellS_any cs w3.heap.size w4.heap.size _ 1 w8 HR8.out (by omega) (by omega) (by omega)).mono ?_
    rintro E w9 ⟨rfl, -, hsp, hz9⟩
    rw [HKK.out]
    have HV09 := Lib.hid (HV08.out.keep fun g hg => hsp.block g (HV08.out.lt g hg).2 (.inl (HL0.out g hg).2))
    have HV19 := Lib.hid (HV18.out.keep fun g hg => hsp.block g (HV18.out.lt g hg).2 (.inr (HL1.out g hg).1))
    have hW3 := hB3.size
    have hB9 : Below W.heap.size W w9 := hB8.trans (hsp.below hW3 hB8.size)
    clear hsp hz9
    go_wp2_with fail
    refine (eqIntS_any xs A1 A0 c1 c0 w9 (RowI.intsV HV19.out) (RowI.intsV HV09.out)).mono ?_
    rintro E wa ⟨rfl, hba⟩
    have HV0a := Lib.hid (HV09.out.below hba)
    have HV1a := Lib.hid (HV19.out.below hba)
    have hBa := hB9.trans (hba.mono hB9.size)
    clear hba
    go_wp2_with fail
    refine (markIntS_val w4.heap.size _ xs 1 wa HV1a.out (by omega) (by omega) (by omega)).mono ?_
    rintro E wb ⟨rfl, hmk, hbb⟩
    have hW4 := hB4.size
    have HMK := Lib.hid hmk
    have HV0b := Lib.hid (HV0a.out.keep fun g hg => hbb.block g (by have := (HL0.out g hg).2; omega))
    have hBb := hBa.trans (hbb.mono (by omega))
    clear hmk hbb
    go_wp2_with fail
    refine (heldIntS_val _ xs.length 1 wb HMK.out (by omega) (by omega) (by omega)).mono ?_
    rintro E wc ⟨rfl, hbc⟩
    subst hbc
    have hq0 : ¬ (1 : Int) + xs.length < 0 := by omega
    go_wp2_with fail
    refine (toCellS_any cs A q c wb (H.out.below hBb) hsz).mono ?_
    rintro E wd ⟨rfl, hrd, hbd⟩
    have HRd := Lib.hid hrd
    have HV0d := Lib.hid (HV0b.out.below hbd)
    have HMKd := Lib.hid (HMK.out.below hbd)
    have hBd := hBb.trans (hbd.mono hBb.size)
    clear hrd hbd
    go_wp2_with fail
    refine (implAliveCells_any cs _ q q wd HRd.out.reads).mono ?_
    rintro E we ⟨v2, rfl, hv2, hbe⟩
    rw [HXS.out] at hv2
    have HV0e := Lib.hid (HV0d.out.below hbe)
    have HMKe := Lib.hid (HMKd.out.below hbe)
    have hBe := hBd.trans (hbe.mono hBd.size)
    have HV2 := Lib.hid hv2
    clear hbe hv2
    obtain ⟨A2, c2, e2, -⟩ := RowI.ints HV2.out
    subst e2
    go_wp2_with fail
    refine (eqIntS_any xs A2 A0 c2 c0 we (RowI.intsV HV2.out) (RowI.intsV HV0e.out)).mono ?_
    rintro E wf ⟨rfl, hbf⟩
    have HMKf := Lib.hid (HMKe.out.below hbf)
    have hBf := hBe.trans (hbf.mono hBe.size)
    clear hbf
    go_wp2_with fail
    refine (heldIntS_val _ xs.length 1 wf HMKf.out (by omega) (by omega) (by omega)).mono ?_
    rintro E wg ⟨rfl, hbg⟩
    subst hbg
    go_wp2_with fail
    go_ret
    exact ⟨rfl, hBf⟩
  · have hsub : Hid (subI 1048576 (cs.length + tagSum cs) = -1) := if_neg (by omega)
    go_enter Try.func4, Try.ntmps4
    go_wp2_with fail
    refine (szCellS_any cs A q c 1048576 W H.out (by omega) (by omega)).mono ?_
    rintro E w1 ⟨he, hb1⟩
    rw [hsub.out] at he
    subst he
    go_wp2_with fail
    go_ret
    exact ⟨rfl, hb1⟩

theorem own : ownKnob Try.prog.godebug = none := by kernel_rfl
theorem laidOut : laidOutB Try.prog = true := by kernel_rfl

set_option maxRecDepth 100000 in
theorem lifted (os : Os) (started : os.Started) (H : Type) (enc : TypeId × Value → H) :
    ReturnsInHanded {} Try.checked os 4 .any (Rows.fnExactAliveCellsSpec.pre6 enc Try.prog Try.f4 Rows.fnExactAliveCellsRow.domain false) (Rows.fnExactAliveCellsSpec.post enc Try.prog Try.f4 false true false false) := by
  refine returnsInHanded_of_change (C := Try.checked) own started (by kernel_rfl) Try.func4
    (ChangeSpec.witness6 (enc := enc) (C := Try.checked) false ⟨#[], #[.slice none 0 0], []⟩ 8 (by kernel_rfl) (by kernel_rfl) (by kernel_rfl) (by kernel_rfl)) ?_
  intro W base args ds gs before hval0 hW hcnd _
  have hval : ∀ (j : Nat) t v, Try.f4.params[j]? = some t → args[j]? = some v → Value.okWide Try.prog W .any base t v := hval0
  have hW' := hW
  obtain ⟨p, q, hA0, hV, rfl, hfz, hnd⟩ := hW
  have hA : DataW.TrodAll enc Try.prog W 0 (fun _ => true) true Try.f4.params.toList args.toList ds p := hA0
  rw [Try.params4] at hA hval
  obtain ⟨v0, vs0, d0, ds0, p0, q0, hargs, rfl, rfl, h0, r0⟩ := trodAll_cons hA
  obtain ⟨rfl, rfl, rfl⟩ := trodAll_nil r0
  obtain rfl : args = #[v0] := by cases args; simp_all
  obtain ⟨rfl, rfl⟩ := trodVars_none hV
  have k0 := h0
  have lt0 : ∀ x ∈ p0, x.block < W.heap.size := by obtain ⟨m, hm⟩ := k0; exact DataW.trod_lt m _ _ _ hm
  obtain ⟨a0, len0, cap0, rfl⟩ := okWide_slice Try.underlying22 (hval 0 22 v0 rfl rfl)
  obtain ⟨fu0, hf0⟩ := h0
  obtain ⟨cs0, hM0⟩ := read_mem hf0
  clear hA0 hval0
  simp only [List.append_nil] at hW'
  refine (walk cs0 a0 len0 cap0 W hM0).mono fun e W' ⟨he, bel⟩ => ?_
  subst he
  exact ⟨_, rfl, _, _, _, [], _, [], hW', trodAll_mk1 (shut_bool Try.underlying4 _), (trodAll_cons_mk (Below.trod laidOut (by kernel_rfl) (of_decide_eq_true (by kernel_rfl)) k0 bel lt0) trodAll_mk0), rfl, bel.frame _, fun h => by cases h⟩

theorem over : Rows.fnExactAliveCellsRow.holds Try.pinned (OpenSpec.ofChange Rows.fnExactAliveCellsSpec) :=
  OpenClaim.holds_of_wide 4 Try.f4 rfl rfl rfl rfl rfl rfl rfl ⟨rfl, rfl, rfl, rfl, rfl⟩ rfl rfl rfl rfl rfl (by kernel_rfl) Try.func4 (by kernel_rfl)
    (of_decide_eq_true (by kernel_rfl)) (by unfold Func.isWrapper; first | (rw [if_pos (by decide +kernel)]; kernel_rfl) | (rw [if_neg (by decide +kernel)]; exact ⟨rfl, rfl⟩))
    (fun os started H enc _ => lifted os started H enc)

theorem proved : Rows.FnExactAliveCellsSaid :=
  over
#print axioms proved
end Go.Proofs.Ytboadhlhpnbpiaa.fnAliveCells
