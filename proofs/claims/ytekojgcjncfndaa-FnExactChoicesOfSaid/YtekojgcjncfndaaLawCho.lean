/-
  At every number and length, ChoicesOf answers as its model does, and its answer is its own. Conditions: none.
-/
import Derived.Test.YtekojgcjncfndaaCho
import Derived.WalkKit
import Derived.ProofKit
import Derived.OpenShut
import Derived.Lib.SmallJoins
namespace Go.Proofs.Ytekojgcjncfndaa.fnChoicesOf
open Go.ChangeShapes Go.WideShapes Go.ChangeAt Go.RowKit Go.Deep Go.Joins
set_option linter.unusedVariables false

set_option maxRecDepth 100000 in
set_option maxHeartbeats 1000000 in
theorem walk (a b : Int) (W : World) : Calls Try.prog 4 #[.int .i64 a, .int .i64 b] W fun e w' => e = .returned (.bool true) ∧ Below W.heap.size W w' := by
  have hl6 := choA_len a b
  have HS := Lib.hid (specChoicesOf_any a b)
  have HI := Lib.hid (implChoicesOf_any a b)
  obtain ⟨xs, hxs⟩ : ∃ xs, choA a b = xs := ⟨_, rfl⟩
  rw [hxs] at hl6 HS HI
  clear hxs
  obtain ⟨n, hn⟩ : ∃ n, xs.length = n := ⟨_, rfl⟩
  have HN := Lib.hid hn
  rw [hn] at hl6
  clear hn
  have hq : decide ((1 : Int) + (n : Int) < 0) = false := decide_eq_false (by omega)
  have he : (((1 : Int) + (n : Int)) != (1 : Int) + (n : Int)) = false := by simp
  go_enter Try.func4, Try.ntmps4
  go_wp2_with fail
  refine (HS.out W).mono ?_
  rintro E w1 ⟨A1, c1, rfl, r1, b1⟩
  rw [HN.out] at r1
  have R1 := Lib.hid r1
  rw [HN.out]
  clear r1
  go_wp2_with fail
  refine (HI.out w1).mono ?_
  rintro E w2 ⟨A2, c2, rfl, r2, b2⟩
  rw [HN.out] at r2
  have R2 := Lib.hid r2
  rw [HN.out]
  have h1s := b1.size
  have h2s := b2.size
  have BB2 := Lib.hid (b1.trans (b2.mono h1s))
  have R12 := Lib.hid (R1.out.below b2)
  clear r2
  have HE := eqIntS_any xs A2 A1 c2 c1 w2 R2.out.intsV R12.out.intsV
  rw [HN.out] at HE
  go_wp2_with fail
  refine HE.mono ?_
  rintro E w3 ⟨rfl, b3⟩
  have R3 := Lib.hid (R2.out.below b3)
  have R13 := Lib.hid (R12.out.below b3)
  have h3s := b3.size
  have BB3 := Lib.hid (BB2.out.trans (b3.mono (by omega)))
  have B13 := Lib.hid (b2.trans (b3.mono (by omega)))
  have HM := markIntS_val w1.heap.size _ xs 1 w3 R3.out (by rw [HN.out]; omega) (by omega) (by omega)
  rw [HN.out] at HM
  clear HE b3 b2 b1
  go_wp2_with fail
  refine HM.mono ?_
  rintro E w4 ⟨rfl, m4, b4⟩
  have M4 := Lib.hid m4
  have h4s := b4.size
  have R14 := Lib.hid (R1.out.below (B13.out.trans b4))
  have BB4 := Lib.hid (BB3.out.trans (b4.mono h1s))
  have HH := heldIntS_val _ n 1 w4 M4.out (by omega) (by omega) (by omega)
  clear HM m4 b4
  go_wp2_with fail
  refine HH.mono ?_
  rintro E w5 ⟨rfl, rfl⟩
  clear HH
  go_wp2_with fail
  refine (HI.out w4).mono ?_
  rintro E w5 ⟨A5, c5, rfl, r5, b5⟩
  rw [HN.out] at r5
  have R5 := Lib.hid r5
  rw [HN.out]
  have h5s := b5.size
  have R15 := Lib.hid (R14.out.below b5)
  have M5 := Lib.hid (M4.out.below b5)
  have BB5 := Lib.hid (BB4.out.trans (b5.mono (by omega)))
  have HE := eqIntS_any xs A5 A1 c5 c1 w5 R5.out.intsV R15.out.intsV
  rw [HN.out] at HE
  clear r5 b5
  go_wp2_with fail
  refine HE.mono ?_
  rintro E w6 ⟨rfl, b6⟩
  have h6s := b6.size
  have M6 := Lib.hid (M5.out.below b6)
  have BB6 := Lib.hid (BB5.out.trans (b6.mono (by omega)))
  have HH := heldIntS_val _ n 1 w6 M6.out (by omega) (by omega) (by omega)
  clear HE b6
  go_wp2_with fail
  refine HH.mono ?_
  rintro E w7 ⟨rfl, rfl⟩
  go_wp2_with fail
  go_ret
  exact ⟨rfl, BB6.out⟩

theorem own : ownKnob Try.prog.godebug = none := by kernel_rfl
theorem laidOut : laidOutB Try.prog = true := by kernel_rfl

set_option maxRecDepth 100000 in
theorem lifted (os : Os) (started : os.Started) (H : Type) (enc : TypeId × Value → H) :
    ReturnsInHanded {} Try.checked os 4 .any (Rows.fnExactChoicesOfSpec.pre6 enc Try.prog Try.f4 Rows.fnExactChoicesOfRow.domain false) (Rows.fnExactChoicesOfSpec.post enc Try.prog Try.f4 false true false false) := by
  refine returnsInHanded_of_change (C := Try.checked) own started (by kernel_rfl) Try.func4
    (ChangeSpec.witness6 (enc := enc) (C := Try.checked) false ⟨#[], #[.int .i64 0, .int .i64 0], []⟩ 8 (by kernel_rfl) (by kernel_rfl) (by kernel_rfl) (by kernel_rfl)) ?_
  intro W base args ds gs before hval0 hW hcnd _
  have hval : ∀ (j : Nat) t v, Try.f4.params[j]? = some t → args[j]? = some v → Value.okWide Try.prog W .any base t v := hval0
  have hW' := hW
  obtain ⟨p, q, hA0, hV, rfl, hfz, hnd⟩ := hW
  have hA : DataW.TrodAll enc Try.prog W 0 (fun _ => true) true Try.f4.params.toList args.toList ds p := hA0
  rw [Try.params4] at hA hval
  obtain ⟨v0, vs0, d0, ds0, p0, q0, hargs, rfl, rfl, h0, r0⟩ := trodAll_cons hA
  obtain ⟨v1, vs1, d1, ds1, p1, q1, rfl, rfl, rfl, h1, r1⟩ := trodAll_cons r0
  obtain ⟨rfl, rfl, rfl⟩ := trodAll_nil r1
  obtain rfl : args = #[v0, v1] := by cases args; simp_all
  obtain ⟨rfl, rfl⟩ := trodVars_none hV
  have k0 := h0
  have lt0 : ∀ x ∈ p0, x.block < W.heap.size := by obtain ⟨m, hm⟩ := k0; exact DataW.trod_lt m _ _ _ hm
  obtain ⟨z0, rfl, rfl, rfl, wf0⟩ := open_int Try.underlying3 (hval 0 3 v0 rfl rfl) h0
  have k1 := h1
  have lt1 : ∀ x ∈ p1, x.block < W.heap.size := by obtain ⟨m, hm⟩ := k1; exact DataW.trod_lt m _ _ _ hm
  obtain ⟨z1, rfl, rfl, rfl, wf1⟩ := open_int Try.underlying3 (hval 1 3 v1 rfl rfl) h1
  clear hA0 hval0
  simp only [List.append_nil] at hW'
  refine (walk z0 z1 W ).mono fun e W' ⟨he, bel⟩ => ?_
  subst he
  exact ⟨_, rfl, _, _, _, [], _, [], hW', trodAll_mk1 (shut_bool Try.underlying4 _), (trodAll_cons_mk (Below.trod laidOut (by kernel_rfl) (of_decide_eq_true (by kernel_rfl)) k0 bel lt0) (trodAll_cons_mk (Below.trod laidOut (by kernel_rfl) (of_decide_eq_true (by kernel_rfl)) k1 bel lt1) trodAll_mk0)), rfl, bel.frame _, fun h => by cases h⟩

theorem over : Rows.fnExactChoicesOfRow.holds Try.pinned (OpenSpec.ofChange Rows.fnExactChoicesOfSpec) :=
  OpenClaim.holds_of_wide 4 Try.f4 rfl rfl rfl rfl rfl rfl rfl ⟨rfl, rfl, rfl, rfl, rfl⟩ rfl rfl rfl rfl rfl (by kernel_rfl) Try.func4 (by kernel_rfl)
    (of_decide_eq_true (by kernel_rfl)) (by unfold Func.isWrapper; first | (rw [if_pos (by decide +kernel)]; kernel_rfl) | (rw [if_neg (by decide +kernel)]; exact ⟨rfl, rfl⟩))
    (fun os started H enc _ => lifted os started H enc)

theorem proved : Rows.FnExactChoicesOfSaid :=
  over
#print axioms proved
end Go.Proofs.Ytekojgcjncfndaa.fnChoicesOf
