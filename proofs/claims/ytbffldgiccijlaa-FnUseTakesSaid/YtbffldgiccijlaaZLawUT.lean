/-
  Whatever the bytes: a point takes at most one variable, which is a box or a unique reference, and what it does with one is the model's. Conditions: none.
-/
import Derived.Test.YtbffldgiccijlaaZUseOf
import Derived.Test.YtbffldgiccijlaaZPuG
import Derived.Test.YtbffldgiccijlaaZDrUsm
import Derived.WalkKit
import Derived.Deep.RegionHeld3
import Derived.ProofKit
import Derived.OpenShut
import Derived.Lib.SmallJoins
namespace Go.Proofs.Ytbffldgiccijlaa.fnUseTakes
open Go.ChangeShapes Go.WideShapes Go.ChangeAt Go.RowKit Go.Deep Go.Joins
set_option linter.unusedVariables false

theorem rowI_formN {w : World} {B n : Nat} {v : Value} {xs : List Int} (h : RowI w B v xs) (hn : xs.length = n) : ∃ A c, v = .slice A n c ∧ n ≤ c ∧ c ≤ maxLen := by
  obtain ⟨A, c, h1, h2, h3, _⟩ := own_form h.own
  subst hn
  exact ⟨A, c, h1, h2, h3⟩

theorem use_two {ts : List Int} {d : Nd} (hT : Typed ts d) {v : Int} (hu : useI ts d v = 2) : (tyAt ts v = 2 ∨ tyAt ts v = 4) ∧ ((d.op = 3 ∧ v = d.y) ∨ (d.op = 8 ∧ v = d.x)) := by
  unfold useI at hu
  by_cases e3 : d.op = 3
  · rw [if_pos e3] at hu
    by_cases e : v = d.y
    · rw [if_pos e] at hu
      split at hu
      · rename_i h; exact ⟨h, .inl ⟨e3, e⟩⟩
      · cases hu
    · rw [if_neg e] at hu; cases hu
  rw [if_neg e3] at hu
  split at hu
  · split at hu <;> cases hu
  · split at hu
    · split at hu
      · cases hu
      · split at hu <;> cases hu
    · split at hu
      · rename_i e8
        split at hu
        · rename_i e
          refine ⟨?_, .inr ⟨e8, e⟩⟩
          rcases hT with ⟨-, -, hb⟩ | ⟨h9, -⟩
          · have h2 : tyAt ts d.x = 2 := by
              revert hb
              simp [simpleB, e8]
              intros
              assumption
            rw [e]; exact .inl h2
          · omega
        · cases hu
      · cases hu

theorem take_fact {ts : List Int} {s : Sts} {a : Int} {x : Nat} (hu : useOfI (validB ts s) ts s a x = 2) : (tyAt ts x = 2 ∨ tyAt ts x = 4) ∧ ∀ y : Nat, useOfI (validB ts s) ts s a y = 2 → y = x := by
  have key : ∀ z : Nat, useOfI (validB ts s) ts s a z = 2 → ∃ d, (progPts s)[a.toNat]? = some d ∧ Typed ts d ∧ useI ts d z = 2 := by
    intro z hz
    by_cases hc : validB ts s = true ∧ 0 ≤ a ∧ a < ((progPts s).length : Int) ∧ (0 : Int) ≤ (z : Int) ∧ (z : Int) < (ts.length : Int)
    · obtain ⟨hv, h0, h1, -, h3⟩ := hc
      have hl : a.toNat < (progPts s).length := by omega
      have hd := List.getElem?_eq_getElem hl
      have := useOfI_yes (ts := ts) (a := a.toNat) (v := z) hd (by omega)
      rw [Int.toNat_of_nonneg h0] at this
      rw [hv, this] at hz
      exact ⟨_, hd, (progPts_allTyped hv).2 _ _ hd, hz⟩
    · rw [useOfI_no hc] at hz; cases hz
  obtain ⟨d, hd, hT, h2⟩ := key x hu
  obtain ⟨h3, h4⟩ := use_two hT h2
  refine ⟨h3, fun y hy => ?_⟩
  obtain ⟨d', hd', -, h2'⟩ := key y hy
  rw [hd] at hd'
  injection hd' with hd'
  subst hd'
  obtain ⟨-, h4'⟩ := use_two hT h2'
  omega

set_option maxRecDepth 100000 in
set_option maxHeartbeats 2000000 in
theorem walk (n0 c0 : Nat) (A0 : Option Addr) (W : World) (hB : ByteV W W.heap.size n0 A0 c0) :
    Calls Try.prog 3 #[.slice A0 n0 c0] W fun e w' => e = .returned (.bool true) ∧ Below W.heap.size W w' := by
  have hnc := hB.1
  have hcm := hB.2.1
  unfold maxLen at hcm
  by_cases hn : 1048576 < n0
  · go_enter Try.func3, Try.ntmps3
    go_wp2_with fail
    go_ret
    exact ⟨rfl, Below.refl _ _⟩
  have e1 : decide (1048576 < (n0 : Int)) = false := decide_eq_false (by omega)
  have HD := Lib.hid (drawUseOf_any n0 c0 A0 W hB)
  clear hB
  go_enter Try.func3, Try.ntmps3
  go_wp2_with fail
  refine HD.out.mono ?_
  rintro E w1 ⟨ts, s, At, As, ct, cs, a, v, rfl, hr1, ht1, hs1, hq, hb1⟩
  have h1s := hb1.size
  obtain ⟨n, hn⟩ : ∃ n, ts.length = n := ⟨_, rfl⟩
  obtain ⟨m, hm⟩ : ∃ m, s.len = m := ⟨_, rfl⟩
  rw [hn, hm]
  have hn9 : n ≤ 1000 := by omega
  have HN := Lib.hid hn
  have HM := Lib.hid hm
  have HSZ := Lib.hid hs1
  have hba := (Below.refl w1.heap.size w1).alloc (Nat.le_refl _) (.cells #[.slice At n ct, .slice As m cs] 26)
  have h2n := heap_alloc_new w1 (.cells #[.slice At n ct, .slice As m cs] 26)
  have h2z : w1.heap.size + 1 ≤ (w1.alloc (.cells #[.slice At n ct, .slice As m cs] 26)).heap.size := Nat.le_of_eq (by simp)
  obtain ⟨w2, hw2⟩ : ∃ w2, w1.alloc (.cells #[.slice At n ct, .slice As m cs] 26) = w2 := ⟨_, rfl⟩
  have T2 := Lib.hid (hr1.1.below hba (Nat.le_trans (Nat.le_refl _) hba.size))
  have R2 := Lib.hid (hr1.2.below hba (Nat.le_trans (Nat.le_refl _) hba.size))
  have B2 := Lib.hid (hb1.trans (hba.mono h1s))
  rw [hw2] at T2 R2 B2 h2n h2z
  have P2 := Lib.hid h2n
  clear hn hm hba hr1 ht1 hs1 hb1 h2n HD
  obtain ⟨PB, hPB⟩ : ∃ PB, w1.heap.size = PB := ⟨_, rfl⟩
  rw [hPB] at P2 h2z h1s
  have hPW : W.heap.size ≤ PB := h1s
  have hP2 : PB < w2.heap.size := h2z
  obtain ⟨u, hu⟩ : ∃ u, useOfI (validB ts s) ts s a v = u := ⟨_, rfl⟩
  have HU := Lib.hid hu
  clear hu
  have eu : (u != u) = false := by simp
  have HI : Hid (∀ w', Below w2.heap.size w2 w' → Calls Try.prog 5 #[.agg #[.slice At n ct, .slice As m cs], .int .i64 a, .int .i64 v] w' fun E w'' => E = .returned (.int .i64 u) ∧ Below w'.heap.size w' w'') := fun w' hb => by
    have h := implUseOf_any ts s At As ct cs a v w' (T2.out.below hb hb.size) (R2.out.below hb hb.size)
    rw [HN.out, HM.out, HU.out] at h
    exact h
  have HS2 : Hid (∀ w', Below w2.heap.size w2 w' → Calls Try.prog 6 #[.agg #[.slice At n ct, .slice As m cs], .int .i64 a, .int .i64 v] w' fun E w'' => E = .returned (.int .i64 u) ∧ Below w'.heap.size w' w'') := fun w' hb => by
    have h := specUseOf_any ts s At As ct cs a v w' (by have := HSZ.out; omega) (T2.out.below hb hb.size) (R2.out.below hb hb.size)
    rw [HN.out, HM.out, HU.out] at h
    exact h
  have p0 : w2.cell? ⟨PB, 0, none⟩ = some (.slice At n ct) := (cell_of_block P2.out 0).trans rfl
  have p1 : w2.cell? ⟨PB, 1, none⟩ = some (.slice As m cs) := (cell_of_block P2.out 1).trans rfl
  have HS : Hid (∀ w', Below w2.heap.size w2 w' → (Below w2.heap.size w2 w' ∧ w'.cell? ⟨PB, 0, none⟩ = some (.slice At n ct) ∧ w'.cell? ⟨PB, 1, none⟩ = some (.slice As m cs))) := fun w' hb => ⟨hb, (hb.cell hP2).trans p0, (hb.cell hP2).trans p1⟩
  go_upto_region 4 with (fail)
  clear hw2 hPB
  go_region_held3 (fun w' => Below w2.heap.size w2 w' ∧ w'.cell? ⟨PB, 0, none⟩ = some (.slice At n ct) ∧ w'.cell? ⟨PB, 1, none⟩ = some (.slice As m cs))
    (first | with_reducible exact HS.out _ ((Below.refl w2.heap.size w2).drew) | with_reducible exact HS.out _ (Below.refl w2.heap.size w2) | with_reducible exact HS.out _ ((And.left ‹Below w2.heap.size w2 _ ∧ _›).trans (hbn.mono (And.left ‹Below w2.heap.size w2 _ ∧ _›).size)))
    (first
      | (go_at_call 5; (with_reducible refine (HI.out _ (And.left ‹Below w2.heap.size w2 _ ∧ _›)).mono ?_); rintro E w' ⟨rfl, hbn⟩)
      | (go_at_call 6; (with_reducible refine (HS2.out _ (And.left ‹Below w2.heap.size w2 _ ∧ _›)).mono ?_); rintro E w' ⟨rfl, hbn⟩))
  all_goals
    have hb3 := And.left ‹Below w2.heap.size w2 _ ∧ _›
    clear HI HS2 HS
    obtain ⟨f, hf⟩ : ∃ f : Nat → Bool, (fun x : Nat => useOfI (validB ts s) ts s a x == 2) = f := ⟨_, rfl⟩
    have HF : Hid (∀ x, f x = (useOfI (validB ts s) ts s a x == 2)) := fun x => by rw [← hf]
    clear hf
    have hz3 := hb3.size
    have p0 := (hb3.cell hP2).trans p0
    go_wp2_with fail
    clear p0 p1
    go_loopw [6, 7] (fun nn i wr => ∃ k : Nat, k ≤ n ∧ nn = .int .i64 (if anyB f k = true then 1 else 0) ∧ i = .int .i64 k ∧ Below w2.heap.size w2 wr) (fun _ i _ => n - (intOf i).toNat)
    case atStart => exact ⟨0, Nat.zero_le _, rfl, rfl, hb3⟩
    case round =>
      obtain ⟨k, hk, rfl, rfl, hb⟩ := hrel
      have hzr := hb.size
      have Tr := Lib.hid (T2.out.below hb hzr)
      have Rr := Lib.hid (R2.out.below hb hzr)
      have Pr := Lib.hid ((hb.block PB (by omega)).trans P2.out)
      have Br := Lib.hid (B2.out.trans (hb.mono (by omega)))
      have hPr : PB < wr.heap.size := by omega
      obtain ⟨bb, hbb⟩ : ∃ bb, anyB f k = bb := ⟨_, rfl⟩
      obtain ⟨nn, hnn⟩ : ∃ nn : Int, (if anyB f k = true then (1 : Int) else 0) = nn := ⟨_, rfl⟩
      have HBB := Lib.hid hbb
      have HNN := Lib.hid hnn
      rw [hnn]
      have hn01 : 0 ≤ nn ∧ nn ≤ 1 := by rw [← hnn]; split <;> omega
      clear hbb hnn
      by_cases hlt : k < n
      · have f1 : IntKind.i64.wrap ((k : Int) + 1) = (k : Int) + 1 := IntWalk.i64_in _ (by omega)
        obtain ⟨x, hx⟩ : ∃ x, useOfI (validB ts s) ts s a k = x := ⟨_, rfl⟩
        have HX := Lib.hid hx
        have HFX : Hid (f k = (x == 2)) := by rw [← hx]; exact HF.out k
        clear hx
        have HC := implUseOf_any ts s At As ct cs a k wr Tr.out Rr.out
        rw [HN.out, HM.out, HX.out] at HC
        replace HC := Lib.hid HC
        have p0 : wr.cell? ⟨PB, 0, none⟩ = some (.slice At n ct) := (cell_of_block Pr.out 0).trans rfl
        have p1 : wr.cell? ⟨PB, 1, none⟩ = some (.slice As m cs) := (cell_of_block Pr.out 1).trans rfl
        go_wp2_with fail
        refine HC.out.mono ?_
        rintro E w6 ⟨rfl, hb6⟩
        have hz6 := hb6.size
        have T6 := Lib.hid (Tr.out.below hb6 hz6)
        have R6 := Lib.hid (Rr.out.below hb6 hz6)
        have P6 := Lib.hid ((hb6.block PB (by omega)).trans Pr.out)
        have B6 := Lib.hid (Br.out.trans (hb6.mono (by omega)))
        have hP6 : PB < w6.heap.size := by omega
        have hB6 : Below w2.heap.size w2 w6 := hb.trans (hb6.mono hzr)
        clear hb6 HC p0 p1
        by_cases hx2 : x = 2
        · subst hx2
          obtain ⟨hty, huni⟩ := take_fact HX.out
          have hno : bb = false := by
            rw [← HBB.out]
            refine Bool.eq_false_iff.2 fun e => ?_
            obtain ⟨j, hj, hfj⟩ := (anyB_iff f k).1 e
            rw [HF.out, beq_iff_eq] at hfj
            have := huni j hfj
            omega
          have hnew : anyB f (k + 1) = true := by rw [anyB_succ, HFX.out]; simp
          have hn0 : nn = 0 := by rw [← HNN.out, HBB.out, hno]; rfl
          subst hn0
          obtain ⟨b0, rfl, hb0l, hc0⟩ := tyAt_elem T6.out (k := k) (by rw [HN.out]; exact hlt)
          have p0 : w6.cell? ⟨PB, 0, none⟩ = some (.slice (some b0) n ct) := (cell_of_block P6.out 0).trans rfl
          obtain ⟨ty, hty0⟩ : ∃ ty, tyAt ts (k : Int) = ty := ⟨_, rfl⟩
          rw [hty0] at hc0 hty
          clear hty0 huni
          rcases hty with rfl | rfl
          all_goals
            go_wp2_with fail
            go_roundw
            case rel => exact ⟨k + 1, by omega, by rw [hnew]; rfl, by go_num, hB6⟩
            case measure => simp [intOf]; omega
        · have hx3 : (x == 2) = false := by simpa using hx2
          have hnew : (if anyB f (k + 1) = true then (1 : Int) else 0) = nn := by rw [anyB_succ, HFX.out, hx3, Bool.or_false]; exact HNN.out
          clear hn01
          go_wp2_with fail
          go_roundw
          case rel => exact ⟨k + 1, by omega, by rw [hnew], by go_num, hB6⟩
          case measure => simp [intOf]; omega
      · have hk' : k = n := by omega
        have hkn : decide ((k : Int) < (n : Int)) = false := decide_eq_false (by omega)
        have h1 : decide (nn ≤ 1) = true := decide_eq_true hn01.2
        have p0 : wr.cell? ⟨PB, 0, none⟩ = some (.slice At n ct) := (cell_of_block Pr.out 0).trans rfl
        have B7 := Lib.hid Br.out
        clear hn01
        go_wp2_with fail
        go_ret
        exact ⟨rfl, B7.out⟩

theorem cellsByte : Try.prog.cellsOf 5 = 1 := by kernel_rfl

theorem read_bytes {H : Type} {enc : TypeId × Value → H} {W : World} {spare : Nat → Bool} {held : Bool} {fuel : Nat} {v : Value} {x : DataW H × List MemPlace} (h : DataW.trod enc Try.prog W 0 spare held fuel 22 [v] = some x) :
    ∃ (n : Nat) (A : Option Addr) (c : Nat), v = .slice A n c ∧ ByteV W W.heap.size n A c := by
  rcases DataW.trod_slice Try.underlying22 h with ⟨hcs, _⟩ | ⟨a, len, cap, elems, rest, n, _, hcs, _, _, hl, hm, hlen, hel, _⟩
  · injection hcs with hcs _
    exact ⟨0, none, 0, hcs, by simp, by simp [maxLen], fun h => absurd h (by simp)⟩
  · injection hcs with hcs _
    have hex : ∀ i, i < len → ∃ z : Int, W.cell? (a.add i) = some (.int .u8 z) ∧ 0 ≤ z ∧ z ≤ 255 := by
      intro i hi
      have h1 := hel i hi
      rw [cellsByte, Nat.mul_one, List.getElem?_eq_getElem (by omega)] at h1
      obtain ⟨cs', hc, ht⟩ := Option.bind_eq_some_iff.1 h1
      obtain ⟨_, _, hat⟩ := World.cells?_some hc
      obtain ⟨z, rfl, _, hwf⟩ := DataW.trod_int Try.underlying5 ht
      have hz : 0 ≤ z ∧ z ≤ 255 := by simpa [Lit.wf, IntKind.min, IntKind.max, IntKind.signed, IntKind.bits] using hwf
      exact ⟨z, by simpa [Addr.add] using hat 0 (by omega), hz.1, hz.2⟩
    refine ⟨len, some a, cap, hcs, hl, hm, fun h0 => ⟨a, rfl, ?_, hex⟩⟩
    obtain ⟨z, hz, _⟩ := hex 0 h0
    have := World.block_lt_of_cell? W _ hz
    rwa [block_add] at this

theorem own : ownKnob Try.prog.godebug = none := by kernel_rfl
theorem laidOut : laidOutB Try.prog = true := by kernel_rfl

set_option maxRecDepth 100000 in
theorem lifted (os : Os) (started : os.Started) (H : Type) (enc : TypeId × Value → H) :
    ReturnsInHanded {} Try.checked os 3 .any (Rows.fnUseTakesSpec.pre6 enc Try.prog Try.f3 Rows.fnUseTakesRow.domain false) (Rows.fnUseTakesSpec.post enc Try.prog Try.f3 false true false false) := by
  refine returnsInHanded_of_change (C := Try.checked) own started (by kernel_rfl) Try.func3
    (ChangeSpec.witness6 (enc := enc) (C := Try.checked) false ⟨#[], #[.slice none 0 0], []⟩ 8 (by kernel_rfl) (by kernel_rfl) (by kernel_rfl) (by kernel_rfl)) ?_
  intro W base args ds gs before hval0 hW hcnd _
  have hval : ∀ (j : Nat) t v, Try.f3.params[j]? = some t → args[j]? = some v → Value.okWide Try.prog W .any base t v := hval0
  have hW' := hW
  obtain ⟨p, q, hA0, hV, rfl, hfz, hnd⟩ := hW
  have hA : DataW.TrodAll enc Try.prog W 0 (fun _ => true) true Try.f3.params.toList args.toList ds p := hA0
  rw [Try.params3] at hA hval
  obtain ⟨v0, vs0, d0, ds0, p0, q0, hargs, rfl, rfl, h0, r0⟩ := trodAll_cons hA
  obtain ⟨rfl, rfl, rfl⟩ := trodAll_nil r0
  obtain rfl : args = #[v0] := by cases args; simp_all
  obtain ⟨rfl, rfl⟩ := trodVars_none hV
  have k0 := h0
  have lt0 : ∀ x ∈ p0, x.block < W.heap.size := by obtain ⟨m, hm⟩ := k0; exact DataW.trod_lt m _ _ _ hm
  obtain ⟨a0, len0, cap0, rfl⟩ := okWide_slice Try.underlying22 (hval 0 22 v0 rfl rfl)
  obtain ⟨fu0, hf0⟩ := h0
  obtain ⟨nb0, At0, ct0, hv0, hT0⟩ := read_bytes hf0
  injection hv0 with hv0 hv0' hv0''
  subst hv0 hv0' hv0''
  clear hA0 hval0
  simp only [List.append_nil] at hW'
  refine (walk _ _ _ W hT0).mono fun e W' ⟨he, bel⟩ => ?_
  subst he
  exact ⟨_, rfl, _, _, _, [], _, [], hW', trodAll_mk1 (shut_bool Try.underlying4 _), (trodAll_cons_mk (Below.trod laidOut (by kernel_rfl) (of_decide_eq_true (by kernel_rfl)) k0 bel lt0) trodAll_mk0), rfl, bel.frame _, fun h => by cases h⟩

theorem over : Rows.fnUseTakesRow.holds Try.pinned (OpenSpec.ofChange Rows.fnUseTakesSpec) :=
  OpenClaim.holds_of_wide 3 Try.f3 rfl rfl rfl rfl rfl rfl rfl ⟨rfl, rfl, rfl, rfl, rfl⟩ rfl rfl rfl rfl rfl (by kernel_rfl) Try.func3 (by kernel_rfl)
    (of_decide_eq_true (by kernel_rfl)) (by unfold Func.isWrapper; first | (rw [if_pos (by decide +kernel)]; kernel_rfl) | (rw [if_neg (by decide +kernel)]; exact ⟨rfl, rfl⟩))
    (fun os started H enc _ => lifted os started H enc)

theorem proved : Rows.FnUseTakesSaid :=
  over
#print axioms proved
end Go.Proofs.Ytbffldgiccijlaa.fnUseTakes
