/-
  At every memory, CellsValid of the program answers as its model does, and writes into nothing. Conditions: none.
-/
import Derived.Test.YtboadhlhpnbpiaaCelC
import Derived.Test.YtboadhlhpnbpiaaCelE
import Derived.Test.YtboadhlhpnbpiaaCelW
import Derived.Test.YtboadhlhpnbpiaaCelI
import Derived.Test.YtboadhlhpnbpiaaCelD
import Derived.Test.YtboadhlhpnbpiaaRows
namespace Go.Proofs.Ytboadhlhpnbpiaa.fnCellsValid
open Go.ChangeShapes Go.WideShapes Go.ChangeAt Go.RowKit Go.Deep Go.Joins
set_option linter.unusedVariables false

set_option maxRecDepth 100000 in
set_option maxHeartbeats 4000000 in
theorem walk (cs : List CellD) (A : Option Addr) (q c : Nat) (W : World) (h : RdC W (.slice A q c) cs) :
    Calls Try.prog 3 #[.slice A q c] W fun e w' => e = .returned (.bool true) ∧ Below W.heap.size W w' := by
  have H := Lib.hid h
  clear h
  by_cases hsz : cs.length + tagSum cs ≤ 1048576
  · have hsub : Hid (subI 1048576 (cs.length + tagSum cs) = 1048576 - (cs.length + tagSum cs : Nat)) := if_pos (by omega)
    obtain ⟨mb, hmb⟩ : ∃ mb, memB cs = mb := ⟨_, rfl⟩
    have HMB := Lib.hid hmb
    have hpos : ¬ (1048576 : Int) - (cs.length + tagSum cs : Nat) < 0 := by omega
    clear hmb
    go_enter Try.func3, Try.ntmps3
    go_wp2_with fail
    refine (szCellS_any cs A q c 1048576 W H.out (by omega) (by omega)).mono ?_
    rintro E w1 ⟨he, hb1⟩
    rw [hsub.out] at he
    subst he
    go_wp2_with fail
    refine (toCellS_any cs A q c w1 (H.out.below hb1) hsz).mono ?_
    rintro E w2 ⟨rfl, hr2, hb2⟩
    have HR2 := Lib.hid hr2
    have hB2 := hb1.trans (hb2.mono hb1.size)
    clear hr2 hb2 hb1
    go_wp2_with fail
    refine (specCellsValid_any cs _ q q w2 HR2.out.reads).mono ?_
    rintro E w3 ⟨rfl, hb3⟩
    rw [HMB.out]
    have hB3 := hB2.trans (hb3.mono hB2.size)
    clear hb3 hB2
    go_wp2_with fail
    refine (toCellS_any cs A q c w3 (H.out.below hB3) hsz).mono ?_
    rintro E w4 ⟨rfl, hr4, hb4⟩
    have HR4 := Lib.hid hr4
    have hB4 := hB3.trans (hb4.mono hB3.size)
    clear hr4 hb4
    go_wp2_with fail
    refine (implCellsValid_any cs _ q q w4 HR4.out.reads).mono ?_
    rintro E w5 ⟨rfl, hb5⟩
    rw [HMB.out]
    have HR5 := Lib.hid (HR4.out.below hb5)
    have hB5 := hB4.trans (hb5.mono hB4.size)
    clear hb5
    have hbb : ((mb != mb) : Bool) = false := by simp
    go_wp2_with fail
    refine (toCellS_any cs A q c w5 (H.out.below hB5) hsz).mono ?_
    rintro E w6 ⟨rfl, hr6, hb6⟩
    have HR6 := Lib.hid hr6
    have HR5' := Lib.hid (HR5.out.below hb6)
    have hB6 := hB5.trans (hb6.mono hB5.size)
    clear hr6 hb6
    go_wp2_with fail
    refine (eqCellS_any cs _ _ q q q w6 HR5'.out.reads HR6.out.reads).mono ?_
    rintro E w7 ⟨rfl, hb7⟩
    have hB7 := hB6.trans (hb7.mono hB6.size)
    clear hb7
    go_wp2_with fail
    go_ret
    exact ⟨rfl, hB7⟩
  · have hsub : Hid (subI 1048576 (cs.length + tagSum cs) = -1) := if_neg (by omega)
    go_enter Try.func3, Try.ntmps3
    go_wp2_with fail
    refine (szCellS_any cs A q c 1048576 W H.out (by omega) (by omega)).mono ?_
    rintro E w1 ⟨he, hb1⟩
    rw [hsub.out] at he
    subst he
    go_wp2_with fail
    go_ret
    exact ⟨rfl, hb1⟩

theorem own : ownKnob Try.prog.godebug = none := by kernel_rfl
theorem laidOut : laidOutB Try.prog = true := by kernel_rfl

set_option maxRecDepth 100000 in
theorem lifted (os : Os) (started : os.Started) (H : Type) (enc : TypeId × Value → H) :
    ReturnsInHanded {} Try.checked os 3 .any (Rows.fnExactCellsValidSpec.pre6 enc Try.prog Try.f3 Rows.fnExactCellsValidRow.domain false) (Rows.fnExactCellsValidSpec.post enc Try.prog Try.f3 false true false false) := by
  refine returnsInHanded_of_change (C := Try.checked) own started (by kernel_rfl) Try.func3
    (ChangeSpec.witness6 (enc := enc) (C := Try.checked) false ⟨#[], #[.slice none 0 0], []⟩ 8 (by kernel_rfl) (by kernel_rfl) (by kernel_rfl) (by kernel_rfl)) ?_
  intro W base args ds gs before hval0 hW hcnd _
  have hval : ∀ (j : Nat) t v, Try.f3.params[j]? = some t → args[j]? = some v → Value.okWide Try.prog W .any base t v := hval0
  have hW' := hW
  obtain ⟨p, q, hA0, hV, rfl, hfz, hnd⟩ := hW
  have hA : DataW.TrodAll enc Try.prog W 0 (fun _ => true) true Try.f3.params.toList args.toList ds p := hA0
  rw [Try.params3] at hA hval
  obtain ⟨v0, vs0, d0, ds0, p0, q0, hargs, rfl, rfl, h0, r0⟩ := trodAll_cons hA
  obtain ⟨rfl, rfl, rfl⟩ := trodAll_nil r0
  obtain rfl : args = #[v0] := by cases args; simp_all
  obtain ⟨rfl, rfl⟩ := trodVars_none hV
  have k0 := h0
  have lt0 : ∀ x ∈ p0, x.block < W.heap.size := by obtain ⟨m, hm⟩ := k0; exact DataW.trod_lt m _ _ _ hm
  obtain ⟨a0, len0, cap0, rfl⟩ := okWide_slice Try.underlying22 (hval 0 22 v0 rfl rfl)
  obtain ⟨fu0, hf0⟩ := h0
  obtain ⟨cs0, hM0⟩ := read_mem hf0
  clear hA0 hval0
  simp only [List.append_nil] at hW'
  refine (walk cs0 a0 len0 cap0 W hM0).mono fun e W' ⟨he, bel⟩ => ?_
  subst he
  exact ⟨_, rfl, _, _, _, [], _, [], hW', trodAll_mk1 (shut_bool Try.underlying4 _), (trodAll_cons_mk (Below.trod laidOut (by kernel_rfl) (of_decide_eq_true (by kernel_rfl)) k0 bel lt0) trodAll_mk0), rfl, bel.frame _, fun h => by cases h⟩

theorem over : Rows.fnExactCellsValidRow.holds Try.pinned (OpenSpec.ofChange Rows.fnExactCellsValidSpec) :=
  OpenClaim.holds_of_wide 3 Try.f3 rfl rfl rfl rfl rfl rfl rfl ⟨rfl, rfl, rfl, rfl, rfl⟩ rfl rfl rfl rfl rfl (by kernel_rfl) Try.func3 (by kernel_rfl)
    (of_decide_eq_true (by kernel_rfl)) (by unfold Func.isWrapper; first | (rw [if_pos (by decide +kernel)]; kernel_rfl) | (rw [if_neg (by decide +kernel)]; exact ⟨rfl, rfl⟩))
    (fun os started H enc _ => lifted os started H enc)

theorem proved : Rows.FnExactCellsValidSaid :=
  over
#print axioms proved
end Go.Proofs.Ytboadhlhpnbpiaa.fnCellsValid
