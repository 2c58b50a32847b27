/-
  Whatever the bytes: lists of choices with different numbers are different, as long as their length says, and the model's. Conditions: none.
-/
import Derived.Test.YtekojgcjncfndaaDrch
import Derived.WalkKit
import Derived.ProofKit
import Derived.OpenShut
import Derived.Lib.SmallJoins
namespace Go.Proofs.Ytekojgcjncfndaa.fnChoicesOf
open Go.ChangeShapes Go.WideShapes Go.ChangeAt Go.RowKit Go.Deep Go.Joins
set_option linter.unusedVariables false

set_option maxRecDepth 100000 in
set_option maxHeartbeats 1000000 in
theorem walk (n c : Nat) (A : Option Addr) (n2 d2 : Nat) (A2 : Option Addr) (W : World) (hB : ByteV W W.heap.size n A c) (hB2 : ByteV W W.heap.size n2 A2 d2) :
    Calls Try.prog 3 #[.slice A n c, .slice A2 n2 d2] W fun e w' => e = .returned (.bool true) ∧ Below W.heap.size W w' := by
  have hnc := hB.1
  have hcm := hB.2.1
  have hnc2 := hB2.1
  have hcm2 := hB2.2.1
  unfold maxLen at hcm hcm2
  by_cases hn : 1048576 < n
  · go_enter Try.func3, Try.ntmps3
    go_wp2_with fail
    go_ret
    exact ⟨rfl, Below.refl _ _⟩
  by_cases hn2 : 1048576 < n2
  · have e1 : decide (1048576 < (n : Int)) = false := decide_eq_false (by omega)
    go_enter Try.func3, Try.ntmps3
    go_wp2_with fail
    go_ret
    exact ⟨rfl, Below.refl _ _⟩
  have e1 : decide (1048576 < (n : Int)) = false := decide_eq_false (by omega)
  have e2 : decide (1048576 < (n2 : Int)) = false := decide_eq_false (by omega)
  have HD := Lib.hid (drawChoicesOf_any n c A W hB)
  have HB2 := Lib.hid hB2
  clear hB hB2
  go_enter Try.func3, Try.ntmps3
  go_wp2_with fail
  refine HD.out.mono ?_
  rintro E w1 ⟨a, b, rfl, b1⟩
  have h1s := b1.size
  have BB1 := Lib.hid b1
  clear b1 HD
  go_wp2_with fail
  refine (implChoicesOf_any a b w1).mono ?_
  rintro E w2 ⟨Ax, cx, rfl, r2, b2⟩
  have h2s := b2.size
  have BB2 := Lib.hid (BB1.out.trans (b2.mono h1s))
  have HD := Lib.hid (drawChoicesOf_any n2 d2 A2 w2 (HB2.out.below BB2.out BB2.out.size))
  have R2 := Lib.hid r2
  clear r2 b2
  go_wp2_with fail
  refine HD.out.mono ?_
  rintro E w3 ⟨m, b', rfl, b3⟩
  have h3s := b3.size
  have BB3 := Lib.hid (BB2.out.trans (b3.mono (by omega)))
  have R3 := Lib.hid (R2.out.below b3)
  clear b3 HD
  go_wp2_with fail
  refine (implChoicesOf_any m b w3).mono ?_
  rintro E w4 ⟨Ay, cy, rfl, r4, b4⟩
  have h4s := b4.size
  have BB4 := Lib.hid (BB3.out.trans (b4.mono (by omega)))
  have R4 := Lib.hid (R3.out.below b4)
  have S4 := Lib.hid r4
  clear r4 b4
  have hx6 := choA_len a b
  have hy6 := choA_len m b
  have HT := Lib.hid (@choA_two a m b)
  have H1 := Lib.hid (specChoicesOf_any a b w4)
  have H2 := Lib.hid (fun w => specChoicesOf_any m b w)
  have H3 := Lib.hid (fun w => specChoicesOf_any a b w)
  obtain ⟨xs, hxs⟩ : ∃ xs, choA a b = xs := ⟨_, rfl⟩
  obtain ⟨ys, hys⟩ : ∃ ys, choA m b = ys := ⟨_, rfl⟩
  rw [hxs] at R4 HT H1 H3 hx6
  rw [hys] at S4 HT H2 hy6
  rw [hxs, hys]
  clear hxs hys
  obtain ⟨p, hp⟩ : ∃ p, xs.length = p := ⟨_, rfl⟩
  obtain ⟨q, hq⟩ : ∃ q, ys.length = q := ⟨_, rfl⟩
  have HP := Lib.hid hp
  have HQ := Lib.hid hq
  rw [hp] at hx6 R4 HT
  rw [hq] at hy6 S4 HT
  rw [hp, hq]
  clear hp hq
  go_wp2_with fail
  refine H1.out.mono ?_
  rintro E w5 ⟨A5, c5, rfl, r5, b5⟩
  rw [HP.out] at r5
  rw [HP.out]
  have h5s := b5.size
  have BB5 := Lib.hid (BB4.out.trans (b5.mono (by omega)))
  have R5 := Lib.hid (R4.out.below b5)
  have S5 := Lib.hid (S4.out.below b5)
  have hbc := bcInts_any xs xs Ax A5 cx c5 w5 R5.out.intsV r5.intsV
  rw [HP.out, decide_eq_true rfl] at hbc
  clear r5 b5
  go_wp2_with fail
  refine hbc.mono ?_
  rintro E w6 ⟨rfl, b6⟩
  have h6s := b6.size
  have BB6 := Lib.hid (BB5.out.trans (b6.mono (by omega)))
  have R6 := Lib.hid (R5.out.below b6)
  have S6 := Lib.hid (S5.out.below b6)
  clear hbc b6
  go_wp2_with fail
  refine (H2.out w6).mono ?_
  rintro E w7 ⟨A7, c7, rfl, r7, b7⟩
  rw [HQ.out] at r7
  rw [HQ.out]
  have h7s := b7.size
  have BB7 := Lib.hid (BB6.out.trans (b7.mono (by omega)))
  have R7 := Lib.hid (R6.out.below b7)
  have S7 := Lib.hid (S6.out.below b7)
  have hbc := bcInts_any ys ys Ay A7 cy c7 w7 S7.out.intsV r7.intsV
  rw [HQ.out, decide_eq_true rfl] at hbc
  clear r7 b7
  go_wp2_with fail
  refine hbc.mono ?_
  rintro E w8 ⟨rfl, b8⟩
  have h8s := b8.size
  have BB8 := Lib.hid (BB7.out.trans (b8.mono (by omega)))
  have R8 := Lib.hid (R7.out.below b8)
  have S8 := Lib.hid (S7.out.below b8)
  clear hbc b8
  by_cases hpq : 0 < p ∧ 0 < q
  · obtain ⟨hp0, hq0⟩ := hpq
    have f1 : ((p : Int) == 0) = false := by simp; omega
    have f2 : ((q : Int) == 0) = false := by simp; omega
    obtain ⟨g1, g2⟩ := HT.out hp0 hq0
    have hbc := bcInts_any xs ys Ax Ay cx cy w8 R8.out.intsV S8.out.intsV
    rw [HP.out, HQ.out, g2] at hbc
    have f3 : ((p : Int) == b) = true := by simpa using g1
    obtain ⟨Z, hZ⟩ : ∃ Z, (a == m) = Z := ⟨_, rfl⟩
    rw [hZ] at hbc
    have f4 : (Z == Z) = true := by simp
    have HBC := Lib.hid hbc
    clear hbc g1 g2
    go_wp2_with fail
    refine HBC.out.mono ?_
    rintro E w9 ⟨rfl, b9⟩
    have BB9 := Lib.hid (BB8.out.trans (b9.mono (by omega)))
    clear b9
    go_wp2_with fail
    go_ret
    exact ⟨rfl, BB9.out⟩
  · have hor : ((p : Int) == 0) = true ∨ (((p : Int) == 0) = false ∧ ((q : Int) == 0) = true) := by
      by_cases h0 : p = 0
      · left; simp [h0]
      · right; constructor
        · simp [h0]
        · simp; omega
    clear hpq
    rcases hor with f1 | ⟨f1, f2⟩
    all_goals
      go_wp2_with fail
      refine (H3.out w8).mono ?_
      rintro E w9 ⟨A9, c9, rfl, r9, b9⟩
      rw [HP.out] at r9
      rw [HP.out]
      have h9s := b9.size
      have BB9 := Lib.hid (BB8.out.trans (b9.mono (by omega)))
      have R9 := Lib.hid (R8.out.below b9)
      have S9 := Lib.hid (S8.out.below b9)
      have hbc := bcInts_any xs xs Ax A9 cx c9 w9 R9.out.intsV r9.intsV
      rw [HP.out, decide_eq_true rfl] at hbc
      clear r9 b9
      go_wp2_with fail
      refine hbc.mono ?_
      rintro E w10 ⟨rfl, b10⟩
      have h10s := b10.size
      have BB10 := Lib.hid (BB9.out.trans (b10.mono (by omega)))
      have S10 := Lib.hid (S9.out.below b10)
      clear hbc b10
      go_wp2_with fail
      refine (H2.out w10).mono ?_
      rintro E w11 ⟨A11, c11, rfl, r11, b11⟩
      rw [HQ.out] at r11
      rw [HQ.out]
      have h11s := b11.size
      have BB11 := Lib.hid (BB10.out.trans (b11.mono (by omega)))
      have S11 := Lib.hid (S10.out.below b11)
      have hbc := bcInts_any ys ys Ay A11 cy c11 w11 S11.out.intsV r11.intsV
      rw [HQ.out, decide_eq_true rfl] at hbc
      clear r11 b11
      go_wp2_with fail
      refine hbc.mono ?_
      rintro E w12 ⟨rfl, b12⟩
      have BB12 := Lib.hid (BB11.out.trans (b12.mono (by omega)))
      clear hbc b12
      go_wp2_with fail
      go_ret
      exact ⟨rfl, BB12.out⟩

theorem cellsByte : Try.prog.cellsOf 5 = 1 := by kernel_rfl

theorem read_bytes {H : Type} {enc : TypeId × Value → H} {W : World} {spare : Nat → Bool} {held : Bool} {fuel : Nat} {v : Value} {x : DataW H × List MemPlace} (h : DataW.trod enc Try.prog W 0 spare held fuel 22 [v] = some x) :
    ∃ (n : Nat) (A : Option Addr) (c : Nat), v = .slice A n c ∧ ByteV W W.heap.size n A c := by
  rcases DataW.trod_slice Try.underlying22 h with ⟨hcs, _⟩ | ⟨a, len, cap, elems, rest, n, _, hcs, _, _, hl, hm, hlen, hel, _⟩
  · injection hcs with hcs _
    exact ⟨0, none, 0, hcs, by simp, by simp [maxLen], fun h => absurd h (by simp)⟩
  · injection hcs with hcs _
    have hex : ∀ i, i < len → ∃ z : Int, W.cell? (a.add i) = some (.int .u8 z) ∧ 0 ≤ z ∧ z ≤ 255 := by
      intro i hi
      have h1 := hel i hi
      rw [cellsByte, Nat.mul_one, List.getElem?_eq_getElem (by omega)] at h1
      obtain ⟨cs', hc, ht⟩ := Option.bind_eq_some_iff.1 h1
      obtain ⟨_, _, hat⟩ := World.cells?_some hc
      obtain ⟨z, rfl, _, hwf⟩ := DataW.trod_int Try.underlying5 ht
      have hz : 0 ≤ z ∧ z ≤ 255 := by simpa [Lit.wf, IntKind.min, IntKind.max, IntKind.signed, IntKind.bits] using hwf
      exact ⟨z, by simpa [Addr.add] using hat 0 (by omega), hz.1, hz.2⟩
    refine ⟨len, some a, cap, hcs, hl, hm, fun h0 => ⟨a, rfl, ?_, hex⟩⟩
    obtain ⟨z, hz, _⟩ := hex 0 h0
    have := World.block_lt_of_cell? W _ hz
    rwa [block_add] at this

theorem own : ownKnob Try.prog.godebug = none := by kernel_rfl
theorem laidOut : laidOutB Try.prog = true := by kernel_rfl

set_option maxRecDepth 100000 in
theorem lifted (os : Os) (started : os.Started) (H : Type) (enc : TypeId × Value → H) :
    ReturnsInHanded {} Try.checked os 3 .any (Rows.fnChoicesOfSpec.pre6 enc Try.prog Try.f3 Rows.fnChoicesOfRow.domain false) (Rows.fnChoicesOfSpec.post enc Try.prog Try.f3 false true false false) := by
  refine returnsInHanded_of_change (C := Try.checked) own started (by kernel_rfl) Try.func3
    (ChangeSpec.witness6 (enc := enc) (C := Try.checked) false ⟨#[], #[.slice none 0 0, .slice none 0 0], []⟩ 8 (by kernel_rfl) (by kernel_rfl) (by kernel_rfl) (by kernel_rfl)) ?_
  intro W base args ds gs before hval0 hW hcnd _
  have hval : ∀ (j : Nat) t v, Try.f3.params[j]? = some t → args[j]? = some v → Value.okWide Try.prog W .any base t v := hval0
  have hW' := hW
  obtain ⟨p, q, hA0, hV, rfl, hfz, hnd⟩ := hW
  have hA : DataW.TrodAll enc Try.prog W 0 (fun _ => true) true Try.f3.params.toList args.toList ds p := hA0
  rw [Try.params3] at hA hval
  obtain ⟨v0, vs0, d0, ds0, p0, q0, hargs, rfl, rfl, h0, r0⟩ := trodAll_cons hA
  obtain ⟨v1, vs1, d1, ds1, p1, q1, rfl, rfl, rfl, h1, r1⟩ := trodAll_cons r0
  obtain ⟨rfl, rfl, rfl⟩ := trodAll_nil r1
  obtain rfl : args = #[v0, v1] := by cases args; simp_all
  obtain ⟨rfl, rfl⟩ := trodVars_none hV
  have k0 := h0
  have lt0 : ∀ x ∈ p0, x.block < W.heap.size := by obtain ⟨m, hm⟩ := k0; exact DataW.trod_lt m _ _ _ hm
  obtain ⟨a0, len0, cap0, rfl⟩ := okWide_slice Try.underlying22 (hval 0 22 v0 rfl rfl)
  obtain ⟨fu0, hf0⟩ := h0
  obtain ⟨nb0, At0, ct0, hv0, hT0⟩ := read_bytes hf0
  injection hv0 with hv0 hv0' hv0''
  subst hv0 hv0' hv0''
  have k1 := h1
  have lt1 : ∀ x ∈ p1, x.block < W.heap.size := by obtain ⟨m, hm⟩ := k1; exact DataW.trod_lt m _ _ _ hm
  obtain ⟨a1, len1, cap1, rfl⟩ := okWide_slice Try.underlying22 (hval 1 22 v1 rfl rfl)
  obtain ⟨fu1, hf1⟩ := h1
  obtain ⟨nb1, At1, ct1, hv1, hT1⟩ := read_bytes hf1
  injection hv1 with hv1 hv1' hv1''
  subst hv1 hv1' hv1''
  clear hA0 hval0
  simp only [List.append_nil] at hW'
  refine (walk _ _ _ _ _ _ W hT0 hT1).mono fun e W' ⟨he, bel⟩ => ?_
  subst he
  exact ⟨_, rfl, _, _, _, [], _, [], hW', trodAll_mk1 (shut_bool Try.underlying4 _), (trodAll_cons_mk (Below.trod laidOut (by kernel_rfl) (of_decide_eq_true (by kernel_rfl)) k0 bel lt0) (trodAll_cons_mk (Below.trod laidOut (by kernel_rfl) (of_decide_eq_true (by kernel_rfl)) k1 bel lt1) trodAll_mk0)), rfl, bel.frame _, fun h => by cases h⟩

theorem over : Rows.fnChoicesOfRow.holds Try.pinned (OpenSpec.ofChange Rows.fnChoicesOfSpec) :=
  OpenClaim.holds_of_wide 3 Try.f3 rfl rfl rfl rfl rfl rfl rfl ⟨rfl, rfl, rfl, rfl, rfl⟩ rfl rfl rfl rfl rfl (by kernel_rfl) Try.func3 (by kernel_rfl)
    (of_decide_eq_true (by kernel_rfl)) (by unfold Func.isWrapper; first | (rw [if_pos (by decide +kernel)]; kernel_rfl) | (rw [if_neg (by decide +kernel)]; exact ⟨rfl, rfl⟩))
    (fun os started H enc _ => lifted os started H enc)

theorem proved : Rows.FnChoicesOfSaid :=
  over
#print axioms proved
end Go.Proofs.Ytekojgcjncfndaa.fnChoicesOf
