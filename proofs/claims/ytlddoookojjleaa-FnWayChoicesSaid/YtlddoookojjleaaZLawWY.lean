/-
  Whatever the bytes: a run with the choices of a way goes this way, and WayChoices answers as its model does. Conditions: none.
-/
import Derived.Test.YtlddoookojjleaaZDrWay
import Derived.Test.YtlddoookojjleaaZRunC
import Derived.Test.YtlddoookojjleaaZRunM
import Derived.Test.YtlddoookojjleaaZRunW
import Derived.Test.YtlddoookojjleaaZWchI
import Derived.Test.YtlddoookojjleaaZWchS
import Derived.Test.YtlddoookojjleaaZBcG
import Derived.WalkKit
import Derived.Deep.RegionHeld3
import Derived.Deep.DeepCutAuto
import Derived.Deep.QuietTactic
import Derived.ProofKit
import Derived.OpenShut
import Derived.Lib.SmallJoins
namespace Go.Proofs.Ytlddoookojjleaa.fnWayChoices
open Go.ChangeShapes Go.WideShapes Go.ChangeAt Go.RowKit Go.Deep Go.Joins
set_option linter.unusedVariables false

theorem rowI_form {w : World} {B : Nat} {v : Value} {xs : List Int} (h : RowI w B v xs) : ∃ A c, v = .slice A xs.length c ∧ xs.length ≤ c ∧ c ≤ maxLen := by
  obtain ⟨A, c, h1, h2, h3, _⟩ := own_form h.own
  exact ⟨A, c, h1, h2, h3⟩

theorem rowI_formN {w : World} {B n : Nat} {v : Value} {xs : List Int} (h : RowI w B v xs) (hn : xs.length = n) : ∃ A c, v = .slice A n c ∧ n ≤ c ∧ c ≤ maxLen := by
  obtain ⟨A, c, h1, h2, h3⟩ := rowI_form h
  subst hn
  exact ⟨A, c, h1, h2, h3⟩

theorem wchP_run {ds : List Nd} {q : Nat} (hP : PtsOk q ds) : ∀ (l : List Int) (k m : Nat) (c : List Int), k ≤ q → wchP ds k l = some c → l.length + 1 ≤ m → ∃ r, (runP ds m k c).1 = ((k : Int) :: l) ++ r := by
  intro l
  induction l with
  | nil =>
    intro k m c hk h hm
    obtain ⟨m', rfl⟩ : ∃ m', m = m' + 1 := ⟨m - 1, by omega⟩
    by_cases hn : nextP ds k = []
    · exact ⟨[], by rw [runP_end hn]; rfl⟩
    · exact ⟨_, by unfold runP; rw [if_neg hn]; rfl⟩
  | cons b l ih =>
    intro k m c hk h hm
    rw [List.length_cons] at hm
    obtain ⟨m', rfl⟩ : ∃ m', m = m' + 1 := ⟨m - 1, by omega⟩
    unfold wchP at h
    by_cases hb : b ∈ nextP ds k
    · rw [if_pos hb] at h
      have hn : nextP ds k ≠ [] := fun e => by rw [e] at hb; cases hb
      have hkq : k < q := by
        rcases Nat.lt_or_ge k q with h1 | h1
        · exact h1
        · exfalso
          have e : k = q := by omega
          subst e
          exact hn (nextP_some hP.2.1)
      obtain ⟨d, hd, hN⟩ := hP.2.2 k hkq
      have hnx : nextP ds k = d.next := nextP_some hd
      have htwo : (nextP ds k).length ≤ 2 := by rw [hnx]; exact hN.two
      obtain ⟨k', hk', hkl⟩ := next_nat hP hd (b := b) (by rw [← hnx]; exact hb)
      subst hk'
      rw [Int.toNat_natCast] at h
      cases hc : wchP ds k' l with
      | none => rw [hc] at h; cases h
      | some c' =>
        rw [hc] at h
        simp only [Option.map_some, Option.some.injEq] at h
        subst h
        obtain ⟨r, hr⟩ := ih k' m' c' (by have := hP.1; omega) hc (by omega)
        refine ⟨r, ?_⟩
        rw [runP_succ hn (stepP_chc htwo hb)]
        show (k : Int) :: (runP ds m' k' c').1 = _
        rw [hr]
        rfl
    · rw [if_neg hb] at h
      cases h

theorem way_run {ts : List Int} {s : Sts} {xs c : List Int} (h : wchI (validB ts s) s xs = (c, true)) (hl : xs.length ≤ 1000) : ∃ r, (runI (validB ts s) s c (xs.length : Int)).1 = xs ++ r := by
  by_cases hy : validB ts s = true ∧ ∃ l, xs = 0 :: l
  · obtain ⟨hv, l, rfl⟩ := hy
    rw [hv, wchI_yes] at h
    cases hc : wchP (progPts s) 0 l with
    | none => rw [hc] at h; cases h
    | some c' =>
      rw [hc] at h
      injection h with h1 _
      subst h1
      obtain ⟨r, hr⟩ := wchP_run (progPts_ok s (valid_ok hv).2.1) l 0 ((0 :: l : List Int).length) c' (Nat.zero_le _) hc (by simp)
      refine ⟨r, ?_⟩
      unfold runI
      rw [if_pos ⟨hv, by omega, by omega⟩, Int.toNat_natCast]
      exact hr
  · rw [wchI_no hy] at h
    cases h

set_option maxRecDepth 100000 in
set_option maxHeartbeats 2000000 in
theorem walk (n0 c0 : Nat) (A0 : Option Addr) (W : World) (hB : ByteV W W.heap.size n0 A0 c0) :
    Calls Try.prog 6 #[.slice A0 n0 c0] W fun e w' => e = .returned (.bool true) ∧ Below W.heap.size W w' := by
  have hnc := hB.1
  have hcm := hB.2.1
  unfold maxLen at hcm
  by_cases hn : 1048576 < n0
  · go_enter Try.func6, Try.ntmps6
    go_wp2_with fail
    go_ret
    exact ⟨rfl, Below.refl _ _⟩
  have e1 : decide (1048576 < (n0 : Int)) = false := decide_eq_false (by omega)
  have HD := Lib.hid (drawWayChoices_any n0 c0 A0 W hB)
  clear hB
  go_enter Try.func6, Try.ntmps6
  go_wp2_with fail
  refine HD.out.mono ?_
  rintro E w1 ⟨ts, s, At, As, ct, cs, xs, A, c, rfl, hr1, ht1, hs1, hx1, hx8, hb1⟩
  have h1s := hb1.size
  obtain ⟨n, hn⟩ : ∃ n, ts.length = n := ⟨_, rfl⟩
  obtain ⟨m, hm⟩ : ∃ m, s.len = m := ⟨_, rfl⟩
  obtain ⟨l, hl⟩ : ∃ l, xs.length = l := ⟨_, rfl⟩
  rw [hn, hm, hl]
  rw [hl] at hx8
  have HN := Lib.hid hn
  have HM := Lib.hid hm
  have HL := Lib.hid hl
  have HSZ := Lib.hid hs1
  have hba := (Below.refl w1.heap.size w1).alloc (Nat.le_refl _) (.cells #[.slice At n ct, .slice As m cs] 31)
  have h2n := heap_alloc_new w1 (.cells #[.slice At n ct, .slice As m cs] 31)
  have h2z : w1.heap.size + 1 ≤ (w1.alloc (.cells #[.slice At n ct, .slice As m cs] 31)).heap.size := Nat.le_of_eq (by simp)
  obtain ⟨w2, hw2⟩ : ∃ w2, w1.alloc (.cells #[.slice At n ct, .slice As m cs] 31) = w2 := ⟨_, rfl⟩
  have T2 := Lib.hid (hr1.1.below hba (Nat.le_trans (Nat.le_refl _) hba.size))
  have R2 := Lib.hid (hr1.2.below hba (Nat.le_trans (Nat.le_refl _) hba.size))
  have X2 := Lib.hid (hx1.below hba (Nat.le_trans (Nat.le_refl _) hba.size))
  have B2 := Lib.hid (hb1.trans (hba.mono h1s))
  rw [hw2] at T2 R2 X2 B2 h2n h2z
  have P2 := Lib.hid h2n
  clear hn hm hl hba hr1 hx1 ht1 hs1 hb1 h2n HD
  obtain ⟨PB, hPB⟩ : ∃ PB, w1.heap.size = PB := ⟨_, rfl⟩
  rw [hPB] at P2 h2z h1s
  have hx9 : Hid (xs.length ≤ 1048576) := Lib.hid (by rw [HL.out]; omega)
  have hcl := wchI_len (validB ts s) s xs
  obtain ⟨⟨cc, b⟩, hw⟩ : ∃ Z, wchI (validB ts s) s xs = Z := ⟨_, rfl⟩
  rw [hw, HL.out] at hcl
  simp only at hcl
  have HW := Lib.hid hw
  obtain ⟨lc, hlc⟩ : ∃ p, cc.length = p := ⟨_, rfl⟩
  have HLC := Lib.hid hlc
  rw [hlc] at hcl
  clear hw hlc
  have HC := implWayChoices_any ts s At As ct cs xs A c w2 hx9.out T2.out R2.out X2.out
  rw [HN.out, HM.out, HL.out, HW.out] at HC
  replace HC := Lib.hid HC
  have p0 : w2.cell? ⟨PB, 0, none⟩ = some (.slice At n ct) := (cell_of_block P2.out 0).trans rfl
  have p1 : w2.cell? ⟨PB, 1, none⟩ = some (.slice As m cs) := (cell_of_block P2.out 1).trans rfl
  go_upto_region 4 with (fail)
  clear hw2 hPB
  go_wp2_with fail
  refine HC.out.mono ?_
  rintro E w3 ⟨v3, rfl, hrow3, hb3⟩
  obtain ⟨A3, c3, hv3, hle3, hmx3⟩ := rowI_form hrow3
  subst hv3
  unfold maxLen at hmx3
  have hz3 := hb3.size
  have G3 := Lib.hid hrow3
  have T3 := Lib.hid (T2.out.below hb3 hz3)
  have R3 := Lib.hid (R2.out.below hb3 hz3)
  have X3 := Lib.hid (X2.out.below hb3 hz3)
  have P3 := Lib.hid ((hb3.block PB (by omega)).trans P2.out)
  have B3 := Lib.hid (B2.out.trans (hb3.mono (by omega)))
  try simp only at hrow3 hle3 hmx3 G3
  rw [HLC.out] at hle3 G3 ⊢
  clear hrow3 hb3 HC p0 p1
  have HC := specWayChoices_any ts s At As ct cs xs A c w3 (by have := HSZ.out; omega) hx9.out T3.out R3.out X3.out
  rw [HN.out, HM.out, HL.out, HW.out] at HC
  replace HC := Lib.hid HC
  have p0 : w3.cell? ⟨PB, 0, none⟩ = some (.slice At n ct) := (cell_of_block P3.out 0).trans rfl
  have p1 : w3.cell? ⟨PB, 1, none⟩ = some (.slice As m cs) := (cell_of_block P3.out 1).trans rfl
  go_wp2_with fail
  refine HC.out.mono ?_
  rintro E w4 ⟨v4, rfl, hrow4, hb4⟩
  obtain ⟨A4, c4, hv4, hle4, hmx4⟩ := rowI_form hrow4
  subst hv4
  unfold maxLen at hmx4
  have hz4 := hb4.size
  have G4 := Lib.hid hrow4
  have T4 := Lib.hid (T3.out.below hb4 hz4)
  have R4 := Lib.hid (R3.out.below hb4 hz4)
  have X4 := Lib.hid (X3.out.below hb4 hz4)
  have P4 := Lib.hid ((hb4.block PB (by omega)).trans P3.out)
  have B4 := Lib.hid (B3.out.trans (hb4.mono (by omega)))
  try simp only at hrow4 hle4 hmx4 G4
  rw [HLC.out] at hle4 G4 ⊢
  have G3 := Lib.hid (G3.out.below hb4)
  clear hrow4 hb4 HC p0 p1
  have HBC := bcInts_any cc cc A3 A4 c3 c4 w4 G3.out.intsV G4.out.intsV
  rw [HLC.out, decide_eq_true rfl] at HBC
  replace HBC := Lib.hid HBC
  have eb : (b != b) = false := by simp
  have eb2 : (b == b) = true := by simp
  go_wp2_with fail
  refine HBC.out.mono ?_
  rintro E w5 ⟨rfl, hb5⟩
  have hz5 := hb5.size
  have G3 := Lib.hid (G3.out.below hb5)
  have G4 := Lib.hid (G4.out.below hb5)
  have T5 := Lib.hid (T4.out.below hb5 hz5)
  have R5 := Lib.hid (R4.out.below hb5 hz5)
  have X5 := Lib.hid (X4.out.below hb5 hz5)
  have P5 := Lib.hid ((hb5.block PB (by omega)).trans P4.out)
  have B5 := Lib.hid (B4.out.trans (hb5.mono (by omega)))
  clear hb5 HBC
  cases b
  · have HBC := bcInts_any cc cc A3 A4 c3 c4 w5 G3.out.intsV G4.out.intsV
    rw [HLC.out, decide_eq_true rfl] at HBC
    replace HBC := Lib.hid HBC
    go_wp2_with fail
    refine HBC.out.mono ?_
    rintro E w7 ⟨rfl, hb7⟩
    have B7 := Lib.hid (B5.out.trans (hb7.mono (by omega)))
    clear hb7 HBC
    go_wp2_with fail
    go_ret
    exact ⟨rfl, B7.out⟩
  obtain ⟨r, hr⟩ := way_run HW.out (by rw [HL.out]; omega)
  have hl2 := runI_len_le (validB ts s) s cc (xs.length : Int)
  rw [HL.out] at hr hl2
  obtain ⟨⟨zs, b2⟩, hZ2⟩ : ∃ Z, runI (validB ts s) s cc (l : Int) = Z := ⟨_, rfl⟩
  rw [hZ2] at hr hl2
  simp only at hr hl2
  have HZ2 := Lib.hid hZ2
  have HR := Lib.hid hr
  obtain ⟨p2, hp2⟩ : ∃ p, zs.length = p := ⟨_, rfl⟩
  have HP2 := Lib.hid hp2
  have hpp : l ≤ p2 := by rw [← hp2, ← HL.out, hr, List.length_append]; omega
  rw [hp2] at hl2
  clear hZ2 hr hp2
  have HC := implRunPath_any ts s At As ct cs cc A3 c3 (l : Int) w5 T5.out R5.out G3.out.intsV
  rw [HN.out, HM.out, HLC.out, HZ2.out] at HC
  replace HC := Lib.hid HC
  have p0 : w5.cell? ⟨PB, 0, none⟩ = some (.slice At n ct) := (cell_of_block P5.out 0).trans rfl
  have p1 : w5.cell? ⟨PB, 1, none⟩ = some (.slice As m cs) := (cell_of_block P5.out 1).trans rfl
  go_wp2_with fail
  refine HC.out.mono ?_
  rintro E w6 ⟨v6, rfl, hrow6, hb6⟩
  obtain ⟨A6, c6, hv6, hle6, hmx6⟩ := rowI_form hrow6
  subst hv6
  unfold maxLen at hmx6
  have hz6 := hb6.size
  have G6 := Lib.hid hrow6
  have T6 := Lib.hid (T5.out.below hb6 hz6)
  have R6 := Lib.hid (R5.out.below hb6 hz6)
  have X6 := Lib.hid (X5.out.below hb6 hz6)
  have P6 := Lib.hid ((hb6.block PB (by omega)).trans P5.out)
  have B6 := Lib.hid (B5.out.trans (hb6.mono (by omega)))
  try simp only at hrow6 hle6 hmx6 G6
  rw [HP2.out] at hle6 G6 ⊢
  clear hrow6 hb6 HC p0 p1
  have g1 : decide ((l : Int) ≤ (p2 : Int)) = true := decide_eq_true (by omega)
  have g1' : decide (l ≤ p2) = true := decide_eq_true hpp
  have hpc : l ≤ c6 := by omega
  have HFR : Hid (IntsV w6 0 w6.heap.size xs A6 c6) := by
    have h := G6.out.intsV
    rw [HR.out] at h
    exact h.front
  have HBC := bcInts_any xs xs A6 A c6 c w6 HFR.out X6.out
  rw [HL.out, decide_eq_true rfl] at HBC
  replace HBC := Lib.hid HBC
  go_wp2_with fail
  refine HBC.out.mono ?_
  rintro E w7 ⟨rfl, hb7⟩
  have B7 := Lib.hid (B6.out.trans (hb7.mono (by omega)))
  clear hb7 HBC
  go_wp2_with fail
  go_ret
  exact ⟨rfl, B7.out⟩

theorem cellsByte : Try.prog.cellsOf 5 = 1 := by kernel_rfl

theorem read_bytes {H : Type} {enc : TypeId × Value → H} {W : World} {spare : Nat → Bool} {held : Bool} {fuel : Nat} {v : Value} {x : DataW H × List MemPlace} (h : DataW.trod enc Try.prog W 0 spare held fuel 41 [v] = some x) :
    ∃ (n : Nat) (A : Option Addr) (c : Nat), v = .slice A n c ∧ ByteV W W.heap.size n A c := by
  rcases DataW.trod_slice Try.underlying41 h with ⟨hcs, _⟩ | ⟨a, len, cap, elems, rest, n, _, hcs, _, _, hl, hm, hlen, hel, _⟩
  · injection hcs with hcs _
    exact ⟨0, none, 0, hcs, by simp, by simp [maxLen], fun h => absurd h (by simp)⟩
  · injection hcs with hcs _
    have hex : ∀ i, i < len → ∃ z : Int, W.cell? (a.add i) = some (.int .u8 z) ∧ 0 ≤ z ∧ z ≤ 255 := by
      intro i hi
      have h1 := hel i hi
      rw [cellsByte, Nat.mul_one, List.getElem?_eq_getElem (by omega)] at h1
      obtain ⟨cs', hc, ht⟩ := Option.bind_eq_some_iff.1 h1
      obtain ⟨_, _, hat⟩ := World.cells?_some hc
      obtain ⟨z, rfl, _, hwf⟩ := DataW.trod_int Try.underlying5 ht
      have hz : 0 ≤ z ∧ z ≤ 255 := by simpa [Lit.wf, IntKind.min, IntKind.max, IntKind.signed, IntKind.bits] using hwf
      exact ⟨z, by simpa [Addr.add] using hat 0 (by omega), hz.1, hz.2⟩
    refine ⟨len, some a, cap, hcs, hl, hm, fun h0 => ⟨a, rfl, ?_, hex⟩⟩
    obtain ⟨z, hz, _⟩ := hex 0 h0
    have := World.block_lt_of_cell? W _ hz
    rwa [block_add] at this

theorem own : ownKnob Try.prog.godebug = none := by kernel_rfl
theorem laidOut : laidOutB Try.prog = true := by kernel_rfl

set_option maxRecDepth 100000 in
theorem lifted (os : Os) (started : os.Started) (H : Type) (enc : TypeId × Value → H) :
    ReturnsInHanded {} Try.checked os 6 .any (Rows.fnWayChoicesSpec.pre6 enc Try.prog Try.f6 Rows.fnWayChoicesRow.domain false) (Rows.fnWayChoicesSpec.post enc Try.prog Try.f6 false true false false) := by
  refine returnsInHanded_of_change (C := Try.checked) own started (by kernel_rfl) Try.func6
    (ChangeSpec.witness6 (enc := enc) (C := Try.checked) false ⟨#[], #[.slice none 0 0], []⟩ 8 (by kernel_rfl) (by kernel_rfl) (by kernel_rfl) (by kernel_rfl)) ?_
  intro W base args ds gs before hval0 hW hcnd _
  have hval : ∀ (j : Nat) t v, Try.f6.params[j]? = some t → args[j]? = some v → Value.okWide Try.prog W .any base t v := hval0
  have hW' := hW
  obtain ⟨p, q, hA0, hV, rfl, hfz, hnd⟩ := hW
  have hA : DataW.TrodAll enc Try.prog W 0 (fun _ => true) true Try.f6.params.toList args.toList ds p := hA0
  rw [Try.params6] at hA hval
  obtain ⟨v0, vs0, d0, ds0, p0, q0, hargs, rfl, rfl, h0, r0⟩ := trodAll_cons hA
  obtain ⟨rfl, rfl, rfl⟩ := trodAll_nil r0
  obtain rfl : args = #[v0] := by cases args; simp_all
  obtain ⟨rfl, rfl⟩ := trodVars_none hV
  have k0 := h0
  have lt0 : ∀ x ∈ p0, x.block < W.heap.size := by obtain ⟨m, hm⟩ := k0; exact DataW.trod_lt m _ _ _ hm
  obtain ⟨a0, len0, cap0, rfl⟩ := okWide_slice Try.underlying41 (hval 0 41 v0 rfl rfl)
  obtain ⟨fu0, hf0⟩ := h0
  obtain ⟨nb0, At0, ct0, hv0, hT0⟩ := read_bytes hf0
  injection hv0 with hv0 hv0' hv0''
  subst hv0 hv0' hv0''
  clear hA0 hval0
  simp only [List.append_nil] at hW'
  refine (walk _ _ _ W hT0).mono fun e W' ⟨he, bel⟩ => ?_
  subst he
  exact ⟨_, rfl, _, _, _, [], _, [], hW', trodAll_mk1 (shut_bool Try.underlying4 _), (trodAll_cons_mk (Below.trod laidOut (by kernel_rfl) (of_decide_eq_true (by kernel_rfl)) k0 bel lt0) trodAll_mk0), rfl, bel.frame _, fun h => by cases h⟩

theorem over : Rows.fnWayChoicesRow.holds Try.pinned (OpenSpec.ofChange Rows.fnWayChoicesSpec) :=
  OpenClaim.holds_of_wide 6 Try.f6 rfl rfl rfl rfl rfl rfl rfl ⟨rfl, rfl, rfl, rfl, rfl⟩ rfl rfl rfl rfl rfl (by kernel_rfl) Try.func6 (by kernel_rfl)
    (of_decide_eq_true (by kernel_rfl)) (by unfold Func.isWrapper; first | (rw [if_pos (by decide +kernel)]; kernel_rfl) | (rw [if_neg (by decide +kernel)]; exact ⟨rfl, rfl⟩))
    (fun os started H enc _ => lifted os started H enc)

theorem proved : Rows.FnWayChoicesSaid :=
  over
#print axioms proved
end Go.Proofs.Ytlddoookojjleaa.fnWayChoices
