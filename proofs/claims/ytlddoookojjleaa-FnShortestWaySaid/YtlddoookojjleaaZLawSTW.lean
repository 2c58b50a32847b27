/-
  Whatever the bytes: each point inside of a shortest way is reached by a shortest way of its number of steps, and ShortWay answers as its model does. Conditions: none.
-/
import Derived.Test.YtlddoookojjleaaZShwI
import Derived.Test.YtlddoookojjleaaZShwS
import Derived.Test.YtlddoookojjleaaZDrShw
import Derived.Test.YtlddoookojjleaaZBcG
import Derived.WalkKit
import Derived.Deep.RegionHeld3
import Derived.Deep.DeepCutAuto
import Derived.Deep.QuietTactic
import Derived.ProofKit
import Derived.OpenShut
import Derived.Lib.SmallJoins
namespace Go.Proofs.Ytlddoookojjleaa.fnShortestWay
open Go.ChangeShapes Go.WideShapes Go.ChangeAt Go.RowKit Go.Deep Go.Joins
set_option linter.unusedVariables false

theorem rowI_formN {w : World} {B n : Nat} {v : Value} {xs : List Int} (h : RowI w B v xs) (hn : xs.length = n) : ∃ A c, v = .slice A n c ∧ n ≤ c ∧ c ≤ maxLen := by
  obtain ⟨A, c, h1, h2, h3, _⟩ := own_form h.own
  subst hn
  exact ⟨A, c, h1, h2, h3⟩

theorem sw_len {ts : List Int} {s : Sts} {a b : Int} {l : List Int} (h : AnsSW ts s a b l true) : 2 ≤ l.length := by
  rcases h with ⟨h1, rfl, _⟩ | ⟨_, _, h3⟩
  · have hok := bfsE_ok (nextN_self s a.toNat)
    have h2 := wayR_length hok h1.2.2.2.2.2
    have h3 := dstR_pos hok h1.2.2.2.2.2
    rw [intsW_length]
    unfold wayE
    omega
  · cases h3

theorem sw_part {ts : List Int} {s : Sts} {a b : Int} {l : List Int} (h : AnsSW ts s a b l true) {i : Nat} {x : Int} (h0 : 0 < i) (hi : i + 1 < l.length) (hx : l[i]? = some x) : ∃ l2, AnsSW ts s a x l2 true ∧ l2.length = i + 1 := by
  rcases h with ⟨h1, rfl, _⟩ | ⟨_, _, h3⟩
  · have hok := bfsE_ok (nextN_self s a.toNat)
    have hm := h1.2.2.2.2.2
    have h2 := wayR_length hok hm
    rw [intsW_length] at hi
    unfold wayE at hi hx
    unfold intsW at hx
    rw [List.getElem?_map] at hx
    cases hy : (wayR a.toNat (bfsE (nextN (progPts s)) a.toNat) b.toNat)[i]? with
    | none => rw [hy] at hx; cases hx
    | some y =>
      rw [hy] at hx
      simp only [Option.map_some, Option.some.injEq] at hx
      subst hx
      obtain ⟨k1, k2⟩ := wayR_pre hok hm i y h0 (by omega) hy
      have hyl : y < (progPts s).length := nextN_lt (valid_D h1.1) _ _ (parR_mem hok k1).1
      have k3 := wayR_length hok k1
      refine ⟨intsW (wayE (nextN (progPts s)) a.toNat y), .inl ⟨⟨h1.1, h1.2.1, h1.2.2.1, by omega, by omega, by rw [Int.toNat_natCast]; exact k1⟩, by rw [Int.toNat_natCast], rfl⟩, ?_⟩
      rw [intsW_length]
      unfold wayE
      omega
  · cases h3

set_option maxRecDepth 100000 in
set_option maxHeartbeats 2000000 in
theorem walk (n0 c0 : Nat) (A0 : Option Addr) (W : World) (hB : ByteV W W.heap.size n0 A0 c0) :
    Calls Try.prog 5 #[.slice A0 n0 c0] W fun e w' => e = .returned (.bool true) ∧ Below W.heap.size W w' := by
  have hnc := hB.1
  have hcm := hB.2.1
  unfold maxLen at hcm
  by_cases hn : 1048576 < n0
  · go_enter Try.func5, Try.ntmps5
    go_wp2_with fail
    go_ret
    exact ⟨rfl, Below.refl _ _⟩
  have e1 : decide (1048576 < (n0 : Int)) = false := decide_eq_false (by omega)
  have HD := Lib.hid (drawShortWay_any n0 c0 A0 W hB)
  clear hB
  go_enter Try.func5, Try.ntmps5
  go_wp2_with fail
  refine HD.out.mono ?_
  rintro E w1 ⟨ts, s, At, As, ct, cs, a, b, rfl, hr1, ht1, hs1, hq, hb1⟩
  have h1s := hb1.size
  obtain ⟨n, hn⟩ : ∃ n, ts.length = n := ⟨_, rfl⟩
  obtain ⟨m, hm⟩ : ∃ m, s.len = m := ⟨_, rfl⟩
  rw [hn, hm]
  have hn9 : n ≤ 1000 := by omega
  have HN := Lib.hid hn
  have HM := Lib.hid hm
  have HSZ := Lib.hid hs1
  have hba := (Below.refl w1.heap.size w1).alloc (Nat.le_refl _) (.cells #[.slice At n ct, .slice As m cs] 31)
  have h2n := heap_alloc_new w1 (.cells #[.slice At n ct, .slice As m cs] 31)
  have h2z : w1.heap.size + 1 ≤ (w1.alloc (.cells #[.slice At n ct, .slice As m cs] 31)).heap.size := Nat.le_of_eq (by simp)
  obtain ⟨w2, hw2⟩ : ∃ w2, w1.alloc (.cells #[.slice At n ct, .slice As m cs] 31) = w2 := ⟨_, rfl⟩
  have T2 := Lib.hid (hr1.1.below hba (Nat.le_trans (Nat.le_refl _) hba.size))
  have R2 := Lib.hid (hr1.2.below hba (Nat.le_trans (Nat.le_refl _) hba.size))
  have B2 := Lib.hid (hb1.trans (hba.mono h1s))
  rw [hw2] at T2 R2 B2 h2n h2z
  have P2 := Lib.hid h2n
  clear hn hm hba hr1 ht1 hs1 hb1 h2n HD
  obtain ⟨PB, hPB⟩ : ∃ PB, w1.heap.size = PB := ⟨_, rfl⟩
  rw [hPB] at P2 h2z h1s
  have hPW : W.heap.size ≤ PB := h1s
  have hP2 : PB < w2.heap.size := h2z
  have HC := implShortWay_any ts s At As ct cs a b w2 T2.out R2.out
  rw [HN.out, HM.out] at HC
  replace HC := Lib.hid HC
  have p0 : w2.cell? ⟨PB, 0, none⟩ = some (.slice At n ct) := (cell_of_block P2.out 0).trans rfl
  have p1 : w2.cell? ⟨PB, 1, none⟩ = some (.slice As m cs) := (cell_of_block P2.out 1).trans rfl
  go_upto_region 4 with (fail)
  clear hw2 hPB
  go_wp2_with fail
  refine HC.out.mono ?_
  rintro E w3 ⟨v3, l3, r3, rfl, hrow3, hans3, hb3⟩
  obtain ⟨q3, hl3⟩ : ∃ q, l3.length = q := ⟨_, rfl⟩
  obtain ⟨A3, c3, hv3, hle3, hmx3⟩ := rowI_formN hrow3 hl3
  have hq3 : q3 ≤ 64 := by rw [← hl3]; exact hans3.length
  have HL3 := Lib.hid hl3
  have HA3 := Lib.hid hans3
  clear hl3 hans3
  subst hv3
  unfold maxLen at hmx3
  have G3 := Lib.hid hrow3.intsV
  have hz3 := hb3.size
  have T3 := Lib.hid (T2.out.below hb3 hz3)
  have R3 := Lib.hid (R2.out.below hb3 hz3)
  have P3 := Lib.hid ((hb3.block PB (by omega)).trans P2.out)
  have B3 := Lib.hid (B2.out.trans (hb3.mono (by omega)))
  have hP3 : PB < w3.heap.size := by omega
  clear hrow3 hb3 HC p0 p1
  have HC := specShortWay_any ts s At As ct cs a b w3 (by have := HSZ.out; omega) T3.out R3.out
  rw [HN.out, HM.out] at HC
  replace HC := Lib.hid HC
  have p0 : w3.cell? ⟨PB, 0, none⟩ = some (.slice At n ct) := (cell_of_block P3.out 0).trans rfl
  have p1 : w3.cell? ⟨PB, 1, none⟩ = some (.slice As m cs) := (cell_of_block P3.out 1).trans rfl
  go_wp2_with fail
  refine HC.out.mono ?_
  rintro E w4 ⟨v4, l4, r4, rfl, hrow4, hans4, hb4⟩
  obtain ⟨hl4, hr4⟩ := hans4.unique HA3.out
  rw [hl4] at hrow4
  rw [hr4]
  clear hans4 hl4 hr4
  obtain ⟨A4, c4, hv4, hle4, hmx4⟩ := rowI_formN hrow4 HL3.out
  subst hv4
  unfold maxLen at hmx4
  have G4 := Lib.hid hrow4.intsV
  have hz4 := hb4.size
  have T4 := Lib.hid (T3.out.below hb4 hz4)
  have R4 := Lib.hid (R3.out.below hb4 hz4)
  have P4 := Lib.hid ((hb4.block PB (by omega)).trans P3.out)
  have B4 := Lib.hid (B3.out.trans (hb4.mono (by omega)))
  have hP4 : PB < w4.heap.size := by omega
  have G3 := Lib.hid (G3.out.below hb4 hz4)
  clear hrow4 hb4 HC p0 p1
  cases r3
  · have ebb : (false != false) = false := rfl
    have ebc : (false == false) = true := rfl
    have HBC := bcInts_any l3 l3 A3 A4 c3 c4 w4 G3.out G4.out
    rw [HL3.out, decide_eq_true rfl] at HBC
    replace HBC := Lib.hid HBC
    go_wp2_with fail
    refine HBC.out.mono ?_
    rintro E w5 ⟨rfl, hb5⟩
    have hz5 := hb5.size
    have T5 := Lib.hid (T4.out.below hb5 hz5)
    have R5 := Lib.hid (R4.out.below hb5 hz5)
    have P5 := Lib.hid ((hb5.block PB (by omega)).trans P4.out)
    have B5 := Lib.hid (B4.out.trans (hb5.mono (by omega)))
    have hP5 : PB < w5.heap.size := by omega
    have G3 := Lib.hid (G3.out.below hb5 hz5)
    have G4 := Lib.hid (G4.out.below hb5 hz5)
    clear hb5 HBC
    have HBC := bcInts_any l3 l3 A3 A4 c3 c4 w5 G3.out G4.out
    rw [HL3.out, decide_eq_true rfl] at HBC
    replace HBC := Lib.hid HBC
    go_wp2_with fail
    refine HBC.out.mono ?_
    rintro E w6 ⟨rfl, hb6⟩
    have hz6 := hb6.size
    have T6 := Lib.hid (T5.out.below hb6 hz6)
    have R6 := Lib.hid (R5.out.below hb6 hz6)
    have P6 := Lib.hid ((hb6.block PB (by omega)).trans P5.out)
    have B6 := Lib.hid (B5.out.trans (hb6.mono (by omega)))
    have hP6 : PB < w6.heap.size := by omega
    clear hb6 HBC
    have B7 := Lib.hid B6.out
    go_wp2_with fail
    go_ret
    exact ⟨rfl, B7.out⟩
  have ebb : (true != true) = false := rfl
  have HBC := bcInts_any l3 l3 A3 A4 c3 c4 w4 G3.out G4.out
  rw [HL3.out, decide_eq_true rfl] at HBC
  replace HBC := Lib.hid HBC
  go_wp2_with fail
  refine HBC.out.mono ?_
  rintro E w5 ⟨rfl, hb5⟩
  have hz5 := hb5.size
  have T5 := Lib.hid (T4.out.below hb5 hz5)
  have R5 := Lib.hid (R4.out.below hb5 hz5)
  have P5 := Lib.hid ((hb5.block PB (by omega)).trans P4.out)
  have B5 := Lib.hid (B4.out.trans (hb5.mono (by omega)))
  have hP5 : PB < w5.heap.size := by omega
  have G3 := Lib.hid (G3.out.below hb5 hz5)
  clear hb5 HBC
  obtain ⟨Q, hQ⟩ : ∃ Q, q3 = Q + 1 := ⟨q3 - 1, by have := sw_len HA3.out; have := HL3.out; omega⟩
  have hQ1 : 1 ≤ Q := by have := sw_len HA3.out; have := HL3.out; omega
  have f3 : (q3 : Int) - 1 = (Q : Int) := by omega
  have f4 : IntKind.i64.wrap ((q3 : Int) - 1) = (Q : Int) := by rw [IntWalk.i64_in _ (by omega)]; exact f3
  have HQ := Lib.hid hQ
  clear hQ
  go_wp2_with fail
  go_loopw [10] (fun i wr => ∃ x : Nat, 1 ≤ x ∧ x ≤ Q ∧ i = .int .i64 x ∧ Below w5.heap.size w5 wr) (fun i _ => Q - (intOf i).toNat)
  case atStart => exact ⟨1, by omega, by omega, rfl, Below.refl _ _⟩
  case round =>
    obtain ⟨x, hx1, hx, rfl, hb⟩ := hrel
    have G3s := G3
    have hbs := hb
    have hzr := hb.size
    have Tr := Lib.hid (T5.out.below hb hzr)
    have Rr := Lib.hid (R5.out.below hb hzr)
    have Pr := Lib.hid ((hb.block PB (by omega)).trans P5.out)
    have Br := Lib.hid (B5.out.trans (hb.mono (by omega)))
    have hPr : PB < wr.heap.size := by omega
    have G3 := Lib.hid (G3.out.below hb hzr)
    by_cases hlt : x < Q
    · have hdk : decide ((x : Int) < (Q : Int)) = true := decide_eq_true (by omega)
      have f1 : IntKind.i64.wrap ((x : Int) + 1) = (x : Int) + 1 := IntWalk.i64_in _ (by omega)
      have hxq : x < q3 := by have := HQ.out; omega
      have hxi : (x : Int) < (q3 : Int) := by omega
      obtain ⟨bl, y, hbA, -, hbl, hy, hcell⟩ := G3s.out.elem (k := x) (by rw [HL3.out]; exact hxq)
      subst hbA
      obtain ⟨l9, ha9, hl9⟩ := sw_part HA3.out (i := x) (by omega) (by rw [HL3.out, HQ.out]; omega) hy
      have hcr : wr.cell? (bl.add x) = some (.int .i64 y) := (hbs.cell (by rw [block_add]; exact hbl)).trans hcell
      have hzl : bl.block < wr.heap.size := by omega
      have p0 : wr.cell? ⟨PB, 0, none⟩ = some (.slice At n ct) := (cell_of_block Pr.out 0).trans rfl
      have p1 : wr.cell? ⟨PB, 1, none⟩ = some (.slice As m cs) := (cell_of_block Pr.out 1).trans rfl
      have HCS : Hid (∀ w', Below wr.heap.size wr w' → Calls Try.prog 11 #[.agg #[.slice At n ct, .slice As m cs], .int .i64 a, .int .i64 y] w' fun E w'' => ∃ A c, E = .returned (.tuple #[.slice A (x + 1) c, .bool true]) ∧ Below w'.heap.size w' w'') := fun w' hb => by
        have h := implShortWay_any ts s At As ct cs a y w' (Tr.out.below hb hb.size) (Rr.out.below hb hb.size)
        rw [HN.out, HM.out] at h
        refine h.mono ?_
        rintro E w'' ⟨v, l, r, rfl, hrow, hans, hb2⟩
        obtain ⟨e1, e2⟩ := hans.unique ha9
        subst e1 e2
        obtain ⟨A, c, hv, -, -⟩ := rowI_formN hrow hl9
        subst hv
        exact ⟨A, c, rfl, hb2⟩
      have HS : Hid (∀ w', Below wr.heap.size wr w' → (Below wr.heap.size wr w' ∧ w'.cell? ⟨PB, 0, none⟩ = some (.slice At n ct) ∧ w'.cell? ⟨PB, 1, none⟩ = some (.slice As m cs) ∧ w'.cell? (bl.add x) = some (.int .i64 y))) := fun w' hb => ⟨hb, (hb.cell (by show PB < _; omega)).trans p0, (hb.cell (by show PB < _; omega)).trans p1, (hb.cell (by rw [block_add]; omega)).trans hcr⟩
      have e9 : ((x : Int) + 1 != (x : Int) + 1) = false := by simp
      clear hcell hy ha9 hl9
      go_upto_region 11 with (fail)
      go_region_held3 (fun w' => Below wr.heap.size wr w' ∧ w'.cell? ⟨PB, 0, none⟩ = some (.slice At n ct) ∧ w'.cell? ⟨PB, 1, none⟩ = some (.slice As m cs) ∧ w'.cell? (bl.add x) = some (.int .i64 y))
        (first | with_reducible exact HS.out _ ((Below.refl wr.heap.size wr).drew) | with_reducible exact HS.out _ (Below.refl wr.heap.size wr) | with_reducible exact HS.out _ ((And.left ‹Below wr.heap.size wr _ ∧ _›).trans (hbn.mono (And.left ‹Below wr.heap.size wr _ ∧ _›).size)) | fail)
        (first | (go_at_call 11; (with_reducible refine (HCS.out _ (And.left ‹Below wr.heap.size wr _ ∧ _›)).mono ?_); rintro E w' ⟨A9, c9, rfl, hbn⟩) | fail)
      all_goals
        have hbl9 := And.left ‹Below wr.heap.size wr _ ∧ _›
        have B9 := hb.trans (hbl9.mono hzr)
        go_wp2_with fail
        go_roundw
        case rel => exact ⟨x + 1, by omega, by omega, by go_num, B9⟩
        case measure => simp [intOf]; omega
    · have hdk : decide ((x : Int) < (Q : Int)) = false := decide_eq_false (by omega)
      have B9 := Lib.hid Br.out
      go_wp2_with fail
      go_ret
      exact ⟨rfl, B9.out⟩

theorem cellsByte : Try.prog.cellsOf 5 = 1 := by kernel_rfl

theorem read_bytes {H : Type} {enc : TypeId × Value → H} {W : World} {spare : Nat → Bool} {held : Bool} {fuel : Nat} {v : Value} {x : DataW H × List MemPlace} (h : DataW.trod enc Try.prog W 0 spare held fuel 41 [v] = some x) :
    ∃ (n : Nat) (A : Option Addr) (c : Nat), v = .slice A n c ∧ ByteV W W.heap.size n A c := by
  rcases DataW.trod_slice Try.underlying41 h with ⟨hcs, _⟩ | ⟨a, len, cap, elems, rest, n, _, hcs, _, _, hl, hm, hlen, hel, _⟩
  · injection hcs with hcs _
    exact ⟨0, none, 0, hcs, by simp, by simp [maxLen], fun h => absurd h (by simp)⟩
  · injection hcs with hcs _
    have hex : ∀ i, i < len → ∃ z : Int, W.cell? (a.add i) = some (.int .u8 z) ∧ 0 ≤ z ∧ z ≤ 255 := by
      intro i hi
      have h1 := hel i hi
      rw [cellsByte, Nat.mul_one, List.getElem?_eq_getElem (by omega)] at h1
      obtain ⟨cs', hc, ht⟩ := Option.bind_eq_some_iff.1 h1
      obtain ⟨_, _, hat⟩ := World.cells?_some hc
      obtain ⟨z, rfl, _, hwf⟩ := DataW.trod_int Try.underlying5 ht
      have hz : 0 ≤ z ∧ z ≤ 255 := by simpa [Lit.wf, IntKind.min, IntKind.max, IntKind.signed, IntKind.bits] using hwf
      exact ⟨z, by simpa [Addr.add] using hat 0 (by omega), hz.1, hz.2⟩
    refine ⟨len, some a, cap, hcs, hl, hm, fun h0 => ⟨a, rfl, ?_, hex⟩⟩
    obtain ⟨z, hz, _⟩ := hex 0 h0
    have := World.block_lt_of_cell? W _ hz
    rwa [block_add] at this

theorem own : ownKnob Try.prog.godebug = none := by kernel_rfl
theorem laidOut : laidOutB Try.prog = true := by kernel_rfl

set_option maxRecDepth 100000 in
theorem lifted (os : Os) (started : os.Started) (H : Type) (enc : TypeId × Value → H) :
    ReturnsInHanded {} Try.checked os 5 .any (Rows.fnShortestWaySpec.pre6 enc Try.prog Try.f5 Rows.fnShortestWayRow.domain false) (Rows.fnShortestWaySpec.post enc Try.prog Try.f5 false true false false) := by
  refine returnsInHanded_of_change (C := Try.checked) own started (by kernel_rfl) Try.func5
    (ChangeSpec.witness6 (enc := enc) (C := Try.checked) false ⟨#[], #[.slice none 0 0], []⟩ 8 (by kernel_rfl) (by kernel_rfl) (by kernel_rfl) (by kernel_rfl)) ?_
  intro W base args ds gs before hval0 hW hcnd _
  have hval : ∀ (j : Nat) t v, Try.f5.params[j]? = some t → args[j]? = some v → Value.okWide Try.prog W .any base t v := hval0
  have hW' := hW
  obtain ⟨p, q, hA0, hV, rfl, hfz, hnd⟩ := hW
  have hA : DataW.TrodAll enc Try.prog W 0 (fun _ => true) true Try.f5.params.toList args.toList ds p := hA0
  rw [Try.params5] at hA hval
  obtain ⟨v0, vs0, d0, ds0, p0, q0, hargs, rfl, rfl, h0, r0⟩ := trodAll_cons hA
  obtain ⟨rfl, rfl, rfl⟩ := trodAll_nil r0
  obtain rfl : args = #[v0] := by cases args; simp_all
  obtain ⟨rfl, rfl⟩ := trodVars_none hV
  have k0 := h0
  have lt0 : ∀ x ∈ p0, x.block < W.heap.size := by obtain ⟨m, hm⟩ := k0; exact DataW.trod_lt m _ _ _ hm
  obtain ⟨a0, len0, cap0, rfl⟩ := okWide_slice Try.underlying41 (hval 0 41 v0 rfl rfl)
  obtain ⟨fu0, hf0⟩ := h0
  obtain ⟨nb0, At0, ct0, hv0, hT0⟩ := read_bytes hf0
  injection hv0 with hv0 hv0' hv0''
  subst hv0 hv0' hv0''
  clear hA0 hval0
  simp only [List.append_nil] at hW'
  refine (walk _ _ _ W hT0).mono fun e W' ⟨he, bel⟩ => ?_
  subst he
  exact ⟨_, rfl, _, _, _, [], _, [], hW', trodAll_mk1 (shut_bool Try.underlying4 _), (trodAll_cons_mk (Below.trod laidOut (by kernel_rfl) (of_decide_eq_true (by kernel_rfl)) k0 bel lt0) trodAll_mk0), rfl, bel.frame _, fun h => by cases h⟩

theorem over : Rows.fnShortestWayRow.holds Try.pinned (OpenSpec.ofChange Rows.fnShortestWaySpec) :=
  OpenClaim.holds_of_wide 5 Try.f5 rfl rfl rfl rfl rfl rfl rfl ⟨rfl, rfl, rfl, rfl, rfl⟩ rfl rfl rfl rfl rfl (by kernel_rfl) Try.func5 (by kernel_rfl)
    (of_decide_eq_true (by kernel_rfl)) (by unfold Func.isWrapper; first | (rw [if_pos (by decide +kernel)]; kernel_rfl) | (rw [if_neg (by decide +kernel)]; exact ⟨rfl, rfl⟩))
    (fun os started H enc _ => lifted os started H enc)

theorem proved : Rows.FnShortestWaySaid :=
  over
#print axioms proved
end Go.Proofs.Ytlddoookojjleaa.fnShortestWay
