/-
  At every point, PointText of the program answers as its model does, and writes into nothing. Conditions: none.
-/
import Derived.Test.YtgjecledchhlgaaPoint
import Derived.Test.YtgjecledchhlgaaPt
import Derived.Deep.RegionHeld3
namespace Go.Proofs.Ytgjecledchhlgaa.fnPointText
open Go.ChangeShapes Go.WideShapes Go.ChangeAt Go.RowKit Go.Deep Go.Joins
set_option linter.unusedVariables false

/-- What holds all along the last test: what was there stays, and so the cells that the test loads. -/
theorem held_P {C B K : Nat} {w1 wo w' : World} {b0 c0 b1 c1 b2 c2 b3 c3 b4 c4 : Value} (hb : Below wo.heap.size wo w') (h : Below K w1 wo) (hK : K = w1.heap.size) (hC : C < w1.heap.size) (hB : B < w1.heap.size)
    (p0 : w1.cell? ⟨B, 0, none⟩ = some b0) (p1 : w1.cell? ⟨B, 1, none⟩ = some b1) (p2 : w1.cell? ⟨B, 2, none⟩ = some b2) (p3 : w1.cell? ⟨B, 3, none⟩ = some b3) (p4 : w1.cell? ⟨B, 4, none⟩ = some b4) (q0 : w1.cell? ⟨C, 0, none⟩ = some c0) (q1 : w1.cell? ⟨C, 1, none⟩ = some c1) (q2 : w1.cell? ⟨C, 2, none⟩ = some c2) (q3 : w1.cell? ⟨C, 3, none⟩ = some c3) (q4 : w1.cell? ⟨C, 4, none⟩ = some c4) :
    Below K w1 w' ∧ w'.cell? ⟨B, 0, none⟩ = some b0 ∧ w'.cell? ⟨B, 1, none⟩ = some b1 ∧ w'.cell? ⟨B, 2, none⟩ = some b2 ∧ w'.cell? ⟨B, 3, none⟩ = some b3 ∧ w'.cell? ⟨B, 4, none⟩ = some b4 ∧ w'.cell? ⟨C, 0, none⟩ = some c0 ∧ w'.cell? ⟨C, 1, none⟩ = some c1 ∧ w'.cell? ⟨C, 2, none⟩ = some c2 ∧ w'.cell? ⟨C, 3, none⟩ = some c3 ∧ w'.cell? ⟨C, 4, none⟩ = some c4 := by
  subst hK
  have hbb : Below w1.heap.size w1 w' := h.trans (hb.mono h.size)
  exact ⟨hbb, (hbb.cell hB).trans p0, (hbb.cell hB).trans p1, (hbb.cell hB).trans p2, (hbb.cell hB).trans p3, (hbb.cell hB).trans p4, (hbb.cell hC).trans q0, (hbb.cell hC).trans q1, (hbb.cell hC).trans q2, (hbb.cell hC).trans q3, (hbb.cell hC).trans q4⟩

set_option maxRecDepth 100000 in
set_option maxHeartbeats 4000000 in
theorem walk (op x y n : Int) (xs : List Int) (A : Option Addr) (c : Nat) (W : World) (hI : IntsV W 0 W.heap.size xs A c) :
    Calls Try.prog 3 #[.agg #[.int .i64 op, .int .i64 x, .int .i64 y, .int .i64 n, .slice A xs.length c]] W fun e w' => e = .returned (.bool true) ∧ Below W.heap.size W w' := by
  have hIl := hI.1
  have hIm := hI.2.1
  have hb0 := (Below.refl W.heap.size W).alloc (Nat.le_refl _) (.cells #[.int .i64 op, .int .i64 x, .int .i64 y, .int .i64 n, .slice A xs.length c] 24)
  have hz0 : (W.alloc (.cells #[.int .i64 op, .int .i64 x, .int .i64 y, .int .i64 n, .slice A xs.length c] 24)).heap.size = W.heap.size + 1 := by simp
  have hB := heap_alloc_new W (.cells #[.int .i64 op, .int .i64 x, .int .i64 y, .int .i64 n, .slice A xs.length c] 24)
  have HB := Lib.hid hB
  have HZ := Lib.hid hz0
  clear hB hz0
  by_cases hsz : xs.length ≤ 1048576
  · have hsub : Hid (subI 1048576 xs.length = 1048576 - (xs.length : Nat)) := if_pos (by omega)
    go_enter Try.func3, Try.ntmps3
    go_wp2_with fail
    refine (szPoint_any op x y n xs.length c A 1048576 _ hIl hIm (by omega) (by omega)).mono ?_
    rintro E w1 ⟨he, hb1⟩
    rw [hsub.out] at he
    subst he
    rw [HZ.out] at hb1
    have hs1 := hb1.size
    rw [HZ.out] at hs1
    have hB1 := (hb1.block W.heap.size (by omega)).trans HB.out
    have p0 : w1.cell? ⟨W.heap.size, 0, none⟩ = some (.int .i64 op) := (cell_of_block hB1 0).trans rfl
    have p1 : w1.cell? ⟨W.heap.size, 1, none⟩ = some (.int .i64 x) := (cell_of_block hB1 1).trans rfl
    have p2 : w1.cell? ⟨W.heap.size, 2, none⟩ = some (.int .i64 y) := (cell_of_block hB1 2).trans rfl
    have p3 : w1.cell? ⟨W.heap.size, 3, none⟩ = some (.int .i64 n) := (cell_of_block hB1 3).trans rfl
    have p4 : w1.cell? ⟨W.heap.size, 4, none⟩ = some (.slice A xs.length c) := (cell_of_block hB1 4).trans rfl
    have hbb1 : Below W.heap.size W w1 := hb0.trans (hb1.mono (by omega))
    have HB1 := Lib.hid hB1
    clear hB1 hb1
    go_wp2_with fail
    refine (toPoint_any op x y n xs A c _ (by omega) (hI.below hbb1 hbb1.size)).mono ?_
    rintro E w2 ⟨g, rfl, hI2, hb2⟩
    have hs2 := hb2.size
    have HB2 := Lib.hid ((hb2.block W.heap.size (by omega)).trans HB1.out)
    have hbb2 : Below W.heap.size W w2 := hbb1.trans (hb2.mono (by omega))
    clear hb2 p0 p1 p2 p3 p4
    go_wp2_with fail
    refine (specPointText_any op x y n _ _ _ _).mono ?_
    rintro E w3 ⟨rfl, hb3⟩
    have hs3 := hb3.size
    have hB3 := (hb3.block W.heap.size (by omega)).trans HB2.out
    have p0 : w3.cell? ⟨W.heap.size, 0, none⟩ = some (.int .i64 op) := (cell_of_block hB3 0).trans rfl
    have p1 : w3.cell? ⟨W.heap.size, 1, none⟩ = some (.int .i64 x) := (cell_of_block hB3 1).trans rfl
    have p2 : w3.cell? ⟨W.heap.size, 2, none⟩ = some (.int .i64 y) := (cell_of_block hB3 2).trans rfl
    have p3 : w3.cell? ⟨W.heap.size, 3, none⟩ = some (.int .i64 n) := (cell_of_block hB3 3).trans rfl
    have p4 : w3.cell? ⟨W.heap.size, 4, none⟩ = some (.slice A xs.length c) := (cell_of_block hB3 4).trans rfl
    have hbb3 : Below W.heap.size W w3 := hbb2.trans (hb3.mono (by omega))
    have HB3 := Lib.hid hB3
    clear hB3 hb3 hI2
    go_wp2_with fail
    refine (toPoint_any op x y n xs A c _ (by omega) (hI.below hbb3 hbb3.size)).mono ?_
    rintro E w4 ⟨k, rfl, hI4, hb4⟩
    have hs4 := hb4.size
    have HB4 := Lib.hid ((hb4.block W.heap.size (by omega)).trans HB3.out)
    have hbb4 : Below W.heap.size W w4 := hbb3.trans (hb4.mono (by omega))
    clear hb4 p0 p1 p2 p3 p4
    go_wp2_with fail
    have hba := (Below.refl w4.heap.size w4).alloc (Nat.le_refl _) (.cells #[.int .i64 op, .int .i64 x, .int .i64 y, .int .i64 n, .slice (some ⟨k, 0, none⟩) xs.length xs.length] 27)
    have hza : (w4.alloc (.cells #[.int .i64 op, .int .i64 x, .int .i64 y, .int .i64 n, .slice (some ⟨k, 0, none⟩) xs.length xs.length] 27)).heap.size = w4.heap.size + 1 := by simp
    have hXa := heap_alloc_new w4 (.cells #[.int .i64 op, .int .i64 x, .int .i64 y, .int .i64 n, .slice (some ⟨k, 0, none⟩) xs.length xs.length] 27)
    refine (implPointText_any op x y n _ _ _ _).mono ?_
    rintro E w5 ⟨rfl, hb5⟩
    rw [hza] at hb5
    have hs5 := hb5.size
    rw [hza] at hs5
    have hX5 := (hb5.block w4.heap.size (by omega)).trans hXa
    have hB5 := (hb5.block W.heap.size (by omega)).trans ((hba.block W.heap.size (by omega)).trans HB4.out)
    have hI5 : IntsV w5 0 w5.heap.size xs (some ⟨k, 0, none⟩) xs.length := (hI4.below hba (Nat.le_refl _)).below (hb5.mono (by omega)) (by omega)
    have hbb5 : Below W.heap.size W w5 := hbb4.trans ((hba.mono (by omega)).trans (hb5.mono (by omega)))
    have p0 : w5.cell? ⟨W.heap.size, 0, none⟩ = some (.int .i64 op) := (cell_of_block hB5 0).trans rfl
    have p1 : w5.cell? ⟨W.heap.size, 1, none⟩ = some (.int .i64 x) := (cell_of_block hB5 1).trans rfl
    have p2 : w5.cell? ⟨W.heap.size, 2, none⟩ = some (.int .i64 y) := (cell_of_block hB5 2).trans rfl
    have p3 : w5.cell? ⟨W.heap.size, 3, none⟩ = some (.int .i64 n) := (cell_of_block hB5 3).trans rfl
    have p4 : w5.cell? ⟨W.heap.size, 4, none⟩ = some (.slice A xs.length c) := (cell_of_block hB5 4).trans rfl
    have x0 : w5.cell? ⟨w4.heap.size, 0, none⟩ = some (.int .i64 op) := (cell_of_block hX5 0).trans rfl
    have x1 : w5.cell? ⟨w4.heap.size, 1, none⟩ = some (.int .i64 x) := (cell_of_block hX5 1).trans rfl
    have x2 : w5.cell? ⟨w4.heap.size, 2, none⟩ = some (.int .i64 y) := (cell_of_block hX5 2).trans rfl
    have x3 : w5.cell? ⟨w4.heap.size, 3, none⟩ = some (.int .i64 n) := (cell_of_block hX5 3).trans rfl
    have x4 : w5.cell? ⟨w4.heap.size, 4, none⟩ = some (.slice (some ⟨k, 0, none⟩) xs.length xs.length) := (cell_of_block hX5 4).trans rfl
    clear hB5 hX5 hXa hza hba hb5 hI4
    generalize (⟨(pointT op x y n).toArray⟩ : ByteArray) = z
    go_wp2_with fail
    go_region_held3 (fun w' => Below w5.heap.size w5 w' ∧ w'.cell? ⟨W.heap.size, 0, none⟩ = some (.int .i64 op) ∧ w'.cell? ⟨W.heap.size, 1, none⟩ = some (.int .i64 x) ∧ w'.cell? ⟨W.heap.size, 2, none⟩ = some (.int .i64 y) ∧ w'.cell? ⟨W.heap.size, 3, none⟩ = some (.int .i64 n) ∧ w'.cell? ⟨W.heap.size, 4, none⟩ = some (.slice A xs.length c) ∧ w'.cell? ⟨w4.heap.size, 0, none⟩ = some (.int .i64 op) ∧ w'.cell? ⟨w4.heap.size, 1, none⟩ = some (.int .i64 x) ∧ w'.cell? ⟨w4.heap.size, 2, none⟩ = some (.int .i64 y) ∧ w'.cell? ⟨w4.heap.size, 3, none⟩ = some (.int .i64 n) ∧ w'.cell? ⟨w4.heap.size, 4, none⟩ = some (.slice (some ⟨k, 0, none⟩) xs.length xs.length))
      (first | exact ⟨(Below.refl w5.heap.size w5).drew, p0, p1, p2, p3, p4, x0, x1, x2, x3, x4⟩ | exact held_P hbn (And.left ‹Below w5.heap.size w5 _ ∧ _›) rfl (by omega) (by omega) p0 p1 p2 p3 p4 x0 x1 x2 x3 x4)
      (first
        | (go_at_call 14; refine (toPoint_any op x y n xs A c _ (by omega) ?_).mono ?_; (have hbx := And.left ‹Below w5.heap.size w5 _ ∧ _›; exact hI.below (hbb5.trans (hbx.mono (by omega))) (by have := hbx.size; omega)); rintro E w' ⟨j1, rfl, hI7, hbn⟩)
        | (go_at_call 16; refine (eqPoint_any op x y n xs _ _ _ _ _ ?_ (hI7.keep (Nat.zero_le _) (Nat.le_refl _) fun _ _ _ => rfl)).mono ?_; (have hbx := And.left ‹Below w5.heap.size w5 _ ∧ _›; exact hI5.below hbx hbx.size); rintro E w' ⟨rfl, hbn⟩))
    have hbl := And.left ‹Below w5.heap.size w5 _ ∧ _›
    go_wp2_with fail
    go_ret
    exact ⟨rfl, hbb5.trans (hbl.mono (by omega))⟩
  · have hsub : Hid (subI 1048576 xs.length = -1) := if_neg (by omega)
    go_enter Try.func3, Try.ntmps3
    go_wp2_with fail
    refine (szPoint_any op x y n xs.length c A 1048576 _ hIl hIm (by omega) (by omega)).mono ?_
    rintro E w1 ⟨he, hb1⟩
    rw [hsub.out] at he
    subst he
    rw [HZ.out] at hb1
    go_wp2_with fail
    go_ret
    exact ⟨rfl, hb0.trans (hb1.mono (by omega))⟩

theorem own : ownKnob Try.prog.godebug = none := by kernel_rfl
theorem laidOut : laidOutB Try.prog = true := by kernel_rfl

set_option maxRecDepth 100000 in
theorem lifted (os : Os) (started : os.Started) (H : Type) (enc : TypeId × Value → H) :
    ReturnsInHanded {} Try.checked os 3 .any (Rows.fnExactPointTextSpec.pre6 enc Try.prog Try.f3 Rows.fnExactPointTextRow.domain false) (Rows.fnExactPointTextSpec.post enc Try.prog Try.f3 false true false false) := by
  refine returnsInHanded_of_change (C := Try.checked) own started (by kernel_rfl) Try.func3
    (ChangeSpec.witness6 (enc := enc) (C := Try.checked) false ⟨#[], #[.agg #[.int .i64 0, .int .i64 0, .int .i64 0, .int .i64 0, .slice none 0 0]], []⟩ 8 (by kernel_rfl) (by kernel_rfl) (by kernel_rfl) (by kernel_rfl)) ?_
  intro W base args ds gs before hval0 hW hcnd _
  have hval : ∀ (j : Nat) t v, Try.f3.params[j]? = some t → args[j]? = some v → Value.okWide Try.prog W .any base t v := hval0
  have hW' := hW
  obtain ⟨p, q, hA0, hV, rfl, hfz, hnd⟩ := hW
  have hA : DataW.TrodAll enc Try.prog W 0 (fun _ => true) true Try.f3.params.toList args.toList ds p := hA0
  rw [Try.params3] at hA hval
  obtain ⟨v0, vs0, d0, ds0, p0, q0, hargs, rfl, rfl, h0, r0⟩ := trodAll_cons hA
  obtain ⟨rfl, rfl, rfl⟩ := trodAll_nil r0
  obtain rfl : args = #[v0] := by cases args; simp_all
  obtain ⟨rfl, rfl⟩ := trodVars_none hV
  have k0 := h0
  have lt0 : ∀ x ∈ p0, x.block < W.heap.size := by obtain ⟨m, hm⟩ := k0; exact DataW.trod_lt m _ _ _ hm
  obtain ⟨cells0, rfl, hsz0⟩ := okWide_struct Try.underlying24 (hval 0 24 v0 rfl rfl)
  obtain ⟨cl0⟩ := cells0
  obtain ⟨fu0, hf0⟩ := h0
  obtain ⟨op0, x0, y0, nn0, xs0, A0, cc0, hv0, hI0⟩ := read_point hf0
  have hv0' : cl0 = [.int .i64 op0, .int .i64 x0, .int .i64 y0, .int .i64 nn0, .slice A0 xs0.length cc0] := hv0
  subst hv0'
  clear hA0 hval0
  simp only [List.append_nil] at hW'
  refine (walk op0 x0 y0 nn0 xs0 A0 cc0 W hI0).mono fun e W' ⟨he, bel⟩ => ?_
  subst he
  exact ⟨_, rfl, _, _, _, [], _, [], hW', trodAll_mk1 (shut_bool Try.underlying4 _), (trodAll_cons_mk (Below.trod laidOut (by kernel_rfl) (of_decide_eq_true (by kernel_rfl)) k0 bel lt0) trodAll_mk0), rfl, bel.frame _, fun h => by cases h⟩

theorem over : Rows.fnExactPointTextRow.holds Try.pinned (OpenSpec.ofChange Rows.fnExactPointTextSpec) :=
  OpenClaim.holds_of_wide 3 Try.f3 rfl rfl rfl rfl rfl rfl rfl ⟨rfl, rfl, rfl, rfl, rfl⟩ rfl rfl rfl rfl rfl (by kernel_rfl) Try.func3 (by kernel_rfl)
    (of_decide_eq_true (by kernel_rfl)) (by unfold Func.isWrapper; first | (rw [if_pos (by decide +kernel)]; kernel_rfl) | (rw [if_neg (by decide +kernel)]; exact ⟨rfl, rfl⟩))
    (fun os started H enc _ => lifted os started H enc)

theorem proved : Rows.FnExactPointTextSaid :=
  over
#print axioms proved
end Go.Proofs.Ytgjecledchhlgaa.fnPointText
