/-
  Whatever the bytes: IsReference answers as its model does, and a share of a variable is valid exactly for boxes and references. Conditions: none.
-/
import Derived.Test.YtbchbmfmiljheaaOne
import Derived.Test.YtbchbmfmiljheaaDraw
import Derived.Test.YtbchbmfmiljheaaRead
namespace Go.Proofs.Ytbchbmfmiljheaa.fnIsReference
open Go.ChangeShapes Go.WideShapes Go.ChangeAt Go.RowKit Go.Deep Go.Joins
set_option linter.unusedVariables false

theorem implIsReference_any (t : Int) (z : Bool) (hz : Hid (decide (t = 3 ∨ t = 4) = z)) (w : World) : Calls Try.prog 22 #[.int .i64 t] w fun e w' => e = .returned (.bool z) ∧ w = w' := by
  go_enter Try.func22, Try.ntmps22
  go_wp2_with fail
  refine (isReferenceT_any t w).mono ?_
  rintro E w1 ⟨he, rfl⟩
  rw [hz.out] at he
  subst he
  go_wp2_with fail
  go_ret
  exact ⟨rfl, rfl⟩

theorem specIsReference_any (t : Int) (z : Bool) (hz : Hid (decide (t = 3 ∨ t = 4) = z)) (w : World) : Calls Try.prog 23 #[.int .i64 t] w fun e w' => e = .returned (.bool z) ∧ w = w' := by
  by_cases h3 : t = 3
  · subst h3
    have hzt : z = true := by have := hz.out; simpa using this.symm
    subst hzt
    go_enter Try.func23, Try.ntmps23
    go_wp2_with fail
    go_ret
    exact ⟨rfl, rfl⟩
  · have h3' : (t == 3) = false := by simpa using h3
    go_enter Try.func23, Try.ntmps23
    go_wp2_with fail
    go_ret
    exact ⟨ret_bool (by rw [← hz.out, Bool.eq_iff_iff]; simp [h3]), rfl⟩

theorem repV_nil (w : World) (hi : Nat) : RepV w 0 hi .nil none 0 := ⟨Nat.le_refl _, Nat.zero_le _, fun h => absurd h (by simp [Sts.len])⟩

theorem intsV_two (w : World) (a b : Int) (T : TypeId) : IntsV (w.alloc (.cells #[.int .i64 a, .int .i64 b] T)) 0 (w.alloc (.cells #[.int .i64 a, .int .i64 b] T)).heap.size [a, b] (some ⟨w.heap.size, 0, none⟩) 2 := by
  refine ⟨Nat.le_refl _, by unfold maxLen; omega, fun _ => ⟨_, rfl, Nat.zero_le _, by simp, fun j v hv => ?_⟩⟩
  rw [add_block, Nat.zero_add, cell_of_block (heap_alloc_new w _)]
  match j, hv with
  | 0, hv => simp at hv; subst hv; rfl
  | 1, hv => simp at hv; subst hv; rfl
  | j + 2, hv => simp at hv

set_option maxRecDepth 100000 in
set_option maxHeartbeats 4000000 in
theorem walk (n c : Nat) (A : Option Addr) (W : World) (hB : BytesV W W.heap.size n A c) :
    Calls Try.prog 4 #[.slice A n c] W fun e w' => e = .returned (.bool true) ∧ Below W.heap.size W w' := by
  have hnc := hB.1
  have hcm := hB.2.1
  unfold maxLen at hcm
  by_cases hn : n ≤ 1048576
  · go_enter Try.func4, Try.ntmps4
    go_wp2_with fail
    refine (drawIsReference_any n c A _ hB).mono ?_
    rintro E w1 ⟨v, hv0, hv5, rfl, hb1⟩
    by_cases h0 : v = (-1)
    · subst h0
      have hi : Hid (decide (((-1) : Int) = 3 ∨ ((-1) : Int) = 4) = false) := by unfold Hid; decide
      have hv : Hid (validS [3, (-1)] 4 0 1 0 .nil .nil = false) := by unfold Hid; rfl
      go_wp2_with fail
      refine (implIsReference_any (-1) false hi w1).mono ?_
      rintro E w2 ⟨rfl, rfl⟩
      go_wp2_with fail
      refine (implStmtValid_any [3, (-1)] (some ⟨w1.heap.size, 0, none⟩) 2 4 0 1 0 .nil .nil none none 0 0 _ (intsV_two w1 3 (-1) _) (repV_nil _ _) (repV_nil _ _)).mono ?_
      rintro E w2 ⟨he, hb2⟩
      rw [hv.out] at he
      subst he
      have hs : Below W.heap.size W w2 := hb1.trans ((((Below.refl w1.heap.size w1).alloc (Nat.le_refl _) _).trans (hb2.mono (by simp))).mono hb1.size)
      clear hb2
      go_wp2_with fail
      refine (specIsReference_any (-1) false hi w2).mono ?_
      rintro E w3 ⟨rfl, rfl⟩
      go_wp2_with fail
      go_ret
      exact ⟨rfl, hs⟩
    by_cases h1 : v = 0
    · subst h1
      have hi : Hid (decide ((0 : Int) = 3 ∨ (0 : Int) = 4) = false) := by unfold Hid; decide
      have hv : Hid (validS [3, 0] 4 0 1 0 .nil .nil = false) := by unfold Hid; rfl
      go_wp2_with fail
      refine (implIsReference_any 0 false hi w1).mono ?_
      rintro E w2 ⟨rfl, rfl⟩
      go_wp2_with fail
      refine (implStmtValid_any [3, 0] (some ⟨w1.heap.size, 0, none⟩) 2 4 0 1 0 .nil .nil none none 0 0 _ (intsV_two w1 3 0 _) (repV_nil _ _) (repV_nil _ _)).mono ?_
      rintro E w2 ⟨he, hb2⟩
      rw [hv.out] at he
      subst he
      have hs : Below W.heap.size W w2 := hb1.trans ((((Below.refl w1.heap.size w1).alloc (Nat.le_refl _) _).trans (hb2.mono (by simp))).mono hb1.size)
      clear hb2
      go_wp2_with fail
      refine (specIsReference_any 0 false hi w2).mono ?_
      rintro E w3 ⟨rfl, rfl⟩
      go_wp2_with fail
      go_ret
      exact ⟨rfl, hs⟩
    by_cases h2 : v = 1
    · subst h2
      have hi : Hid (decide ((1 : Int) = 3 ∨ (1 : Int) = 4) = false) := by unfold Hid; decide
      have hv : Hid (validS [3, 1] 4 0 1 0 .nil .nil = false) := by unfold Hid; rfl
      go_wp2_with fail
      refine (implIsReference_any 1 false hi w1).mono ?_
      rintro E w2 ⟨rfl, rfl⟩
      go_wp2_with fail
      refine (implStmtValid_any [3, 1] (some ⟨w1.heap.size, 0, none⟩) 2 4 0 1 0 .nil .nil none none 0 0 _ (intsV_two w1 3 1 _) (repV_nil _ _) (repV_nil _ _)).mono ?_
      rintro E w2 ⟨he, hb2⟩
      rw [hv.out] at he
      subst he
      have hs : Below W.heap.size W w2 := hb1.trans ((((Below.refl w1.heap.size w1).alloc (Nat.le_refl _) _).trans (hb2.mono (by simp))).mono hb1.size)
      clear hb2
      go_wp2_with fail
      refine (specIsReference_any 1 false hi w2).mono ?_
      rintro E w3 ⟨rfl, rfl⟩
      go_wp2_with fail
      go_ret
      exact ⟨rfl, hs⟩
    by_cases h3 : v = 2
    · subst h3
      have hi : Hid (decide ((2 : Int) = 3 ∨ (2 : Int) = 4) = false) := by unfold Hid; decide
      have hv : Hid (validS [3, 2] 4 0 1 0 .nil .nil = true) := by unfold Hid; rfl
      go_wp2_with fail
      refine (implIsReference_any 2 false hi w1).mono ?_
      rintro E w2 ⟨rfl, rfl⟩
      go_wp2_with fail
      refine (implStmtValid_any [3, 2] (some ⟨w1.heap.size, 0, none⟩) 2 4 0 1 0 .nil .nil none none 0 0 _ (intsV_two w1 3 2 _) (repV_nil _ _) (repV_nil _ _)).mono ?_
      rintro E w2 ⟨he, hb2⟩
      rw [hv.out] at he
      subst he
      have hs : Below W.heap.size W w2 := hb1.trans ((((Below.refl w1.heap.size w1).alloc (Nat.le_refl _) _).trans (hb2.mono (by simp))).mono hb1.size)
      clear hb2
      go_wp2_with fail
      refine (specIsReference_any 2 false hi w2).mono ?_
      rintro E w3 ⟨rfl, rfl⟩
      go_wp2_with fail
      go_ret
      exact ⟨rfl, hs⟩
    by_cases h4 : v = 3
    · subst h4
      have hi : Hid (decide ((3 : Int) = 3 ∨ (3 : Int) = 4) = true) := by unfold Hid; decide
      have hv : Hid (validS [3, 3] 4 0 1 0 .nil .nil = true) := by unfold Hid; rfl
      go_wp2_with fail
      refine (implIsReference_any 3 true hi w1).mono ?_
      rintro E w2 ⟨rfl, rfl⟩
      go_wp2_with fail
      refine (implStmtValid_any [3, 3] (some ⟨w1.heap.size, 0, none⟩) 2 4 0 1 0 .nil .nil none none 0 0 _ (intsV_two w1 3 3 _) (repV_nil _ _) (repV_nil _ _)).mono ?_
      rintro E w2 ⟨he, hb2⟩
      rw [hv.out] at he
      subst he
      have hs : Below W.heap.size W w2 := hb1.trans ((((Below.refl w1.heap.size w1).alloc (Nat.le_refl _) _).trans (hb2.mono (by simp))).mono hb1.size)
      clear hb2
      go_wp2_with fail
      refine (specIsReference_any 3 true hi w2).mono ?_
      rintro E w3 ⟨rfl, rfl⟩
      go_wp2_with fail
      go_ret
      exact ⟨rfl, hs⟩
    by_cases h5 : v = 4
    · subst h5
      have hi : Hid (decide ((4 : Int) = 3 ∨ (4 : Int) = 4) = true) := by unfold Hid; decide
      have hv : Hid (validS [3, 4] 4 0 1 0 .nil .nil = true) := by unfold Hid; rfl
      go_wp2_with fail
      refine (implIsReference_any 4 true hi w1).mono ?_
      rintro E w2 ⟨rfl, rfl⟩
      go_wp2_with fail
      refine (implStmtValid_any [3, 4] (some ⟨w1.heap.size, 0, none⟩) 2 4 0 1 0 .nil .nil none none 0 0 _ (intsV_two w1 3 4 _) (repV_nil _ _) (repV_nil _ _)).mono ?_
      rintro E w2 ⟨he, hb2⟩
      rw [hv.out] at he
      subst he
      have hs : Below W.heap.size W w2 := hb1.trans ((((Below.refl w1.heap.size w1).alloc (Nat.le_refl _) _).trans (hb2.mono (by simp))).mono hb1.size)
      clear hb2
      go_wp2_with fail
      refine (specIsReference_any 4 true hi w2).mono ?_
      rintro E w3 ⟨rfl, rfl⟩
      go_wp2_with fail
      go_ret
      exact ⟨rfl, hs⟩
    obtain rfl : v = 5 := by omega
    have hi : Hid (decide ((5 : Int) = 3 ∨ (5 : Int) = 4) = false) := by unfold Hid; decide
    have hv : Hid (validS [3, 5] 4 0 1 0 .nil .nil = false) := by unfold Hid; rfl
    go_wp2_with fail
    refine (implIsReference_any 5 false hi w1).mono ?_
    rintro E w2 ⟨rfl, rfl⟩
    go_wp2_with fail
    refine (implStmtValid_any [3, 5] (some ⟨w1.heap.size, 0, none⟩) 2 4 0 1 0 .nil .nil none none 0 0 _ (intsV_two w1 3 5 _) (repV_nil _ _) (repV_nil _ _)).mono ?_
    rintro E w2 ⟨he, hb2⟩
    rw [hv.out] at he
    subst he
    have hs : Below W.heap.size W w2 := hb1.trans ((((Below.refl w1.heap.size w1).alloc (Nat.le_refl _) _).trans (hb2.mono (by simp))).mono hb1.size)
    clear hb2
    go_wp2_with fail
    refine (specIsReference_any 5 false hi w2).mono ?_
    rintro E w3 ⟨rfl, rfl⟩
    go_wp2_with fail
    go_ret
    exact ⟨rfl, hs⟩
  · go_enter Try.func4, Try.ntmps4
    go_wp2_with fail
    go_ret
    exact ⟨rfl, Below.refl _ _⟩

theorem cellsByte : Try.prog.cellsOf 5 = 1 := by kernel_rfl

theorem read_bytes {H : Type} {enc : TypeId × Value → H} {W : World} {spare : Nat → Bool} {held : Bool} {fuel : Nat} {v : Value} {x : DataW H × List MemPlace} (h : DataW.trod enc Try.prog W 0 spare held fuel 22 [v] = some x) :
    ∃ (n : Nat) (A : Option Addr) (c : Nat), v = .slice A n c ∧ BytesV W W.heap.size n A c := by
  rcases DataW.trod_slice Try.underlying22 h with ⟨hcs, _⟩ | ⟨a, len, cap, elems, rest, n, _, hcs, _, _, hl, hm, hlen, hel, _⟩
  · injection hcs with hcs _
    exact ⟨0, none, 0, hcs, by simp, by simp [maxLen], fun h => absurd h (by simp)⟩
  · injection hcs with hcs _
    have hex : ∀ i, i < len → ∃ z : Int, W.cell? (a.add i) = some (.int .u8 z) ∧ 0 ≤ z ∧ z ≤ 255 := by
      intro i hi
      have h1 := hel i hi
      rw [cellsByte, Nat.mul_one, List.getElem?_eq_getElem (by omega)] at h1
      obtain ⟨cs', hc, ht⟩ := Option.bind_eq_some_iff.1 h1
      obtain ⟨_, _, hat⟩ := World.cells?_some hc
      obtain ⟨z, rfl, _, hwf⟩ := DataW.trod_int Try.underlying5 ht
      have hz : 0 ≤ z ∧ z ≤ 255 := by simpa [Lit.wf, IntKind.min, IntKind.max, IntKind.signed, IntKind.bits] using hwf
      exact ⟨z, by simpa [Addr.add] using hat 0 (by omega), hz.1, hz.2⟩
    refine ⟨len, some a, cap, hcs, hl, hm, fun h0 => ⟨a, rfl, ?_, hex⟩⟩
    obtain ⟨z, hz, _⟩ := hex 0 h0
    have := block_lt hz
    rwa [block_add] at this

theorem own : ownKnob Try.prog.godebug = none := by kernel_rfl
theorem laidOut : laidOutB Try.prog = true := by kernel_rfl

set_option maxRecDepth 100000 in
theorem lifted (os : Os) (started : os.Started) (H : Type) (enc : TypeId × Value → H) :
    ReturnsInHanded {} Try.checked os 4 .any (Rows.fnIsReferenceSpec.pre6 enc Try.prog Try.f4 Rows.fnIsReferenceRow.domain false) (Rows.fnIsReferenceSpec.post enc Try.prog Try.f4 false true false false) := by
  refine returnsInHanded_of_change (C := Try.checked) own started (by kernel_rfl) Try.func4
    (ChangeSpec.witness6 (enc := enc) (C := Try.checked) false ⟨#[], #[.slice none 0 0], []⟩ 8 (by kernel_rfl) (by kernel_rfl) (by kernel_rfl) (by kernel_rfl)) ?_
  intro W base args ds gs before hval0 hW hcnd _
  have hval : ∀ (j : Nat) t v, Try.f4.params[j]? = some t → args[j]? = some v → Value.okWide Try.prog W .any base t v := hval0
  have hW' := hW
  obtain ⟨p, q, hA0, hV, rfl, hfz, hnd⟩ := hW
  have hA : DataW.TrodAll enc Try.prog W 0 (fun _ => true) true Try.f4.params.toList args.toList ds p := hA0
  rw [Try.params4] at hA hval
  obtain ⟨v0, vs0, d0, ds0, p0, q0, hargs, rfl, rfl, h0, r0⟩ := trodAll_cons hA
  obtain ⟨rfl, rfl, rfl⟩ := trodAll_nil r0
  obtain rfl : args = #[v0] := by cases args; simp_all
  obtain ⟨rfl, rfl⟩ := trodVars_none hV
  have k0 := h0
  have lt0 : ∀ x ∈ p0, x.block < W.heap.size := by obtain ⟨m, hm⟩ := k0; exact DataW.trod_lt m _ _ _ hm
  obtain ⟨a0, len0, cap0, rfl⟩ := okWide_slice Try.underlying22 (hval 0 22 v0 rfl rfl)
  obtain ⟨fu0, hf0⟩ := h0
  obtain ⟨nb0, At0, ct0, hv0, hT0⟩ := read_bytes hf0
  injection hv0 with hv0 hv0' hv0''
  subst hv0 hv0' hv0''
  clear hA0 hval0
  simp only [List.append_nil] at hW'
  refine (walk _ _ _ W hT0).mono fun e W' ⟨he, bel⟩ => ?_
  subst he
  exact ⟨_, rfl, _, _, _, [], _, [], hW', trodAll_mk1 (shut_bool Try.underlying4 _), (trodAll_cons_mk (Below.trod laidOut (by kernel_rfl) (of_decide_eq_true (by kernel_rfl)) k0 bel lt0) trodAll_mk0), rfl, bel.frame _, fun h => by cases h⟩

theorem over : Rows.fnIsReferenceRow.holds Try.pinned (OpenSpec.ofChange Rows.fnIsReferenceSpec) :=
  OpenClaim.holds_of_wide 4 Try.f4 rfl rfl rfl rfl rfl rfl rfl ⟨rfl, rfl, rfl, rfl, rfl⟩ rfl rfl rfl rfl rfl (by kernel_rfl) Try.func4 (by kernel_rfl)
    (of_decide_eq_true (by kernel_rfl)) (by unfold Func.isWrapper; first | (rw [if_pos (by decide +kernel)]; kernel_rfl) | (rw [if_neg (by decide +kernel)]; exact ⟨rfl, rfl⟩))
    (fun os started H enc _ => lifted os started H enc)

theorem proved : Rows.FnIsReferenceSaid :=
  over
#print axioms proved
end Go.Proofs.Ytbchbmfmiljheaa.fnIsReference
