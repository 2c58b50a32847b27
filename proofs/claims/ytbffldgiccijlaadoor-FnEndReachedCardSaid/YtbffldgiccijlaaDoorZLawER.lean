/-
  Whatever the bytes: the last point can be reached from each other one, and each one from the first. Conditions: none.
-/
import Derived.Test.YtbffldgiccijlaaDoorZPuE
import Derived.Test.YtbffldgiccijlaaDoorZPuG
import Derived.Test.YtbffldgiccijlaaDoorZDrQE
import Derived.Test.YtbffldgiccijlaaDoorZBcG
import Derived.Test.YtbffldgiccijlaaDoorZPthG
import Derived.Test.YtbffldgiccijlaaDoorZPoX
import Derived.Test.YtbffldgiccijlaaDoorZTab
import Derived.Test.YtbffldgiccijlaaDoorRows
import Derived.Test.YtbffldgiccijlaaDoorCards
import Derived.Test.YtbffldgiccijlaaDoorTie
import Derived.LaidMore
import Derived.SevenTiedAt
import Derived.WalkKit
import Derived.ProofKit
import Derived.OpenShut
import Derived.Lib.SmallJoins
import Derived.Deep.RegionHeld3
namespace Go.Proofs.YtbffldgiccijlaaDoor.fnEndReached
open Go.ChangeShapes Go.WideShapes Go.ChangeAt Go.RowKit Go.Deep Go.Joins
set_option linter.unusedVariables false

theorem rowI_formN {w : World} {B n : Nat} {v : Value} {xs : List Int} (h : RowI w B v xs) (hn : xs.length = n) : ∃ A c, v = .slice A n c ∧ n ≤ c ∧ c ≤ maxLen := by
  obtain ⟨A, c, h1, h2, h3, _⟩ := own_form h.own
  subst hn
  exact ⟨A, c, h1, h2, h3⟩

theorem rowI_form {w : World} {B : Nat} {v : Value} {xs : List Int} (h : RowI w B v xs) : ∃ A c, v = .slice A xs.length c ∧ xs.length ≤ c ∧ c ≤ maxLen := rowI_formN h rfl

theorem points_len9 (ok : Bool) (s : Sts) (h : s.size ≤ 40000) : (pointsB ok s).length ≤ 100000 := by
  unfold pointsB
  split
  · rw [progPts_len]
    have := s.npts_le
    omega
  · simp

theorem pRow_lenE {w : World} {B : Nat} {v : Value} {ns : List Nd} (h : PRow w B v ns) : ∃ A c, v = .slice A ns.length c := by
  obtain ⟨xs, ho, _⟩ := h
  rcases ho.2 with ⟨hv, h0⟩ | ⟨g, cap, cur, hv, _⟩
  · exact ⟨none, 0, by rw [hv, h0]⟩
  · exact ⟨_, _, hv⟩

theorem end_to {ok : Bool} {s : Sts} {k L : Nat} {l : List Int} (hL : (pointsB ok s).length = L) (hk : k + 1 < L) (h : AnsPathsTo ok s ((L : Int) - 1) l) : (k : Int) ∈ l := by
  cases ok
  · simp [pointsB] at hL; omega
  · simp only [pointsB, if_true] at hL
    have hn := progPts_len s
    rcases h with ⟨-, h0, h1, hl⟩ | ⟨hn', -⟩
    · rw [isPathsB_mem hl]
      refine ⟨k, rfl, ?_⟩
      rw [show ((L : Int) - 1).toNat = s.npts by omega]
      exact progPts_last s _ k rfl (by omega)
    · exact absurd ⟨rfl, by omega, by omega⟩ hn'

theorem end_from {ok : Bool} {s : Sts} {k L : Nat} {l : List Int} (hL : (pointsB ok s).length = L) (hk : k < L) (h0k : 0 < k) (h : AnsPathsFrom ok s 0 l) : (k : Int) ∈ l := by
  cases ok
  · simp [pointsB] at hL; omega
  · simp only [pointsB, if_true] at hL
    rcases h with ⟨-, h0, h1, hl⟩ | ⟨hn', -⟩
    · rw [isPathsB_mem hl]
      exact ⟨k, rfl, progPts_from k (by omega) (by omega)⟩
    · exact absurd ⟨rfl, by omega, by omega⟩ hn'

set_option maxRecDepth 100000 in
set_option maxHeartbeats 2000000 in
theorem walk (n0 c0 : Nat) (A0 : Option Addr) (W : World) (hB : ByteV W W.heap.size n0 A0 c0) (hTab : TabAt 0 Lib.deBruijn64tab W) (hg : 0 < W.heap.size) :
    Calls Tryd.prog 3 #[.slice A0 n0 c0] W fun e w' => e = .returned (.bool true) ∧ Below W.heap.size W w' := by
  have hnc := hB.1
  have hcm := hB.2.1
  unfold maxLen at hcm
  by_cases hn : 1048576 < n0
  · go_enter Tryd.func3, Tryd.ntmps3
    go_wp2_with fail
    go_ret
    exact ⟨rfl, Below.refl _ _⟩
  have e1 : decide (1048576 < (n0 : Int)) = false := decide_eq_false (by omega)
  have HD := Lib.hid (drawPointsOf_any n0 c0 A0 W hB)
  clear hB
  go_enter Tryd.func3, Tryd.ntmps3
  go_wp2_with fail
  refine HD.out.mono ?_
  rintro E w1 ⟨ts, s, At, As, ct, cs, rfl, hr1, ht1, hs1, hb1⟩
  have h1s := hb1.size
  obtain ⟨n, hn⟩ : ∃ n, ts.length = n := ⟨_, rfl⟩
  obtain ⟨m, hm⟩ : ∃ m, s.len = m := ⟨_, rfl⟩
  rw [hn, hm]
  have hn9 : n ≤ 1000 := by omega
  have HN := Lib.hid hn
  have HM := Lib.hid hm
  have HSZ := Lib.hid hs1
  have hba := (Below.refl w1.heap.size w1).alloc (Nat.le_refl _) (.cells #[.slice At n ct, .slice As m cs] 26)
  have h2n := heap_alloc_new w1 (.cells #[.slice At n ct, .slice As m cs] 26)
  have h2z : w1.heap.size + 1 ≤ (w1.alloc (.cells #[.slice At n ct, .slice As m cs] 26)).heap.size := Nat.le_of_eq (by simp)
  obtain ⟨w2, hw2⟩ : ∃ w2, w1.alloc (.cells #[.slice At n ct, .slice As m cs] 26) = w2 := ⟨_, rfl⟩
  have T2 := Lib.hid (hr1.1.below hba (Nat.le_trans (Nat.le_refl _) hba.size))
  have R2 := Lib.hid (hr1.2.below hba (Nat.le_trans (Nat.le_refl _) hba.size))
  have B2 := Lib.hid (hb1.trans (hba.mono h1s))
  rw [hw2] at T2 R2 B2 h2n h2z
  have P2 := Lib.hid h2n
  clear hn hm hba hr1 ht1 hs1 hb1 h2n HD
  obtain ⟨PB, hPB⟩ : ∃ PB, w1.heap.size = PB := ⟨_, rfl⟩
  rw [hPB] at P2 h2z h1s
  have hPW : W.heap.size ≤ PB := h1s
  have hP2 : PB < w2.heap.size := h2z
  obtain ⟨ns, hns⟩ : ∃ ns, pointsB (validB ts s) s = ns := ⟨_, rfl⟩
  obtain ⟨L, hL⟩ : ∃ L, ns.length = L := ⟨_, rfl⟩
  have hL9 : L ≤ 100000 := by rw [← hL, ← hns]; exact points_len9 _ _ HSZ.out
  have HNS := Lib.hid hns
  have HLL := Lib.hid hL
  clear hns hL
  have HC := implPointsOf_any ts s At As ct cs w2 T2.out R2.out
  rw [HN.out, HM.out, HNS.out] at HC
  replace HC := Lib.hid HC
  have p0 : w2.cell? ⟨PB, 0, none⟩ = some (.slice At n ct) := (cell_of_block P2.out 0).trans rfl
  have p1 : w2.cell? ⟨PB, 1, none⟩ = some (.slice As m cs) := (cell_of_block P2.out 1).trans rfl
  go_upto_region 4 with (fail)
  clear hw2 hPB
  go_wp2_with fail
  refine HC.out.mono ?_
  rintro E w3 ⟨v3, us3, rfl, hrow3, hb3⟩
  have V3 := Lib.hid hrow3.reads
  have hz3 := hb3.size
  have T3 := Lib.hid (T2.out.below hb3 hz3)
  have R3 := Lib.hid (R2.out.below hb3 hz3)
  have P3 := Lib.hid ((hb3.block PB (by omega)).trans P2.out)
  have B3 := Lib.hid (B2.out.trans (hb3.mono (by omega)))
  have hP3 : PB < w3.heap.size := by omega
  obtain ⟨A3, c3, hv3, hc3, hmx3, -⟩ := id V3.out
  rw [HLL.out] at hv3 hc3
  subst hv3
  unfold maxLen at hmx3
  clear hrow3 hb3 HC p0 p1
  have HC := specPointsOf_any ts s At As ct cs w3 (by have := HSZ.out; omega) T3.out R3.out
  rw [HN.out, HM.out, HNS.out] at HC
  replace HC := Lib.hid HC
  have p0 : w3.cell? ⟨PB, 0, none⟩ = some (.slice At n ct) := (cell_of_block P3.out 0).trans rfl
  have p1 : w3.cell? ⟨PB, 1, none⟩ = some (.slice As m cs) := (cell_of_block P3.out 1).trans rfl
  have eLL : ((L : Int) != (L : Int)) = false := by simp
  have eLL2 : ((L : Int) == (L : Int)) = true := by simp
  go_wp2_with fail
  refine HC.out.mono ?_
  rintro E w4 ⟨v4, rfl, hrow4, hb4⟩
  obtain ⟨A4, c4, hv4⟩ := pRow_lenE hrow4
  rw [HLL.out] at hv4
  subst hv4
  have hz4 := hb4.size
  have T4 := Lib.hid (T3.out.below hb4 hz4)
  have R4 := Lib.hid (R3.out.below hb4 hz4)
  have P4 := Lib.hid ((hb4.block PB (by omega)).trans P3.out)
  have B4 := Lib.hid (B3.out.trans (hb4.mono (by omega)))
  have hP4 : PB < w4.heap.size := by omega
  clear hrow4 hb4 HC p0 p1
  by_cases hL0 : L = 0
  · have eL0 : ((L : Int) == 0) = true := by simp [hL0]
    have HC := specPointsOf_any ts s At As ct cs w4 (by have := HSZ.out; omega) T4.out R4.out
    rw [HN.out, HM.out, HNS.out] at HC
    replace HC := Lib.hid HC
    have p0 : w4.cell? ⟨PB, 0, none⟩ = some (.slice At n ct) := (cell_of_block P4.out 0).trans rfl
    have p1 : w4.cell? ⟨PB, 1, none⟩ = some (.slice As m cs) := (cell_of_block P4.out 1).trans rfl
    go_wp2_with fail
    refine HC.out.mono ?_
    rintro E w5 ⟨v5, rfl, hrow5, hb5⟩
    obtain ⟨A5, c5, hv5⟩ := pRow_lenE hrow5
    rw [HLL.out] at hv5
    subst hv5
    have hz5 := hb5.size
    have T5 := Lib.hid (T4.out.below hb5 hz5)
    have R5 := Lib.hid (R4.out.below hb5 hz5)
    have P5 := Lib.hid ((hb5.block PB (by omega)).trans P4.out)
    have B5 := Lib.hid (B4.out.trans (hb5.mono (by omega)))
    have hP5 : PB < w5.heap.size := by omega
    clear hrow5 hb5 HC p0 p1
    go_wp2_with fail
    go_ret
    exact ⟨rfl, B5.out⟩
  have eL0 : ((L : Int) == 0) = false := by simp; omega
  have f2 : IntKind.i64.wrap ((L : Int) - 1) = (L : Int) - 1 := IntWalk.i64_in _ (by omega)
  have HLP : Hid ((pointsB (validB ts s) s).length = L) := by rw [HNS.out]; exact HLL.out
  have HC := implPathsTo_any ts s At As ct cs ((L : Int) - 1) w4 T4.out R4.out (tab_below hTab hg B4.out) (by have := B4.out.size; omega)
  rw [HN.out, HM.out] at HC
  replace HC := Lib.hid HC
  have p0 : w4.cell? ⟨PB, 0, none⟩ = some (.slice At n ct) := (cell_of_block P4.out 0).trans rfl
  have p1 : w4.cell? ⟨PB, 1, none⟩ = some (.slice As m cs) := (cell_of_block P4.out 1).trans rfl
  go_wp2_with fail
  refine HC.out.mono ?_
  rintro E w5 ⟨v5, l5, rfl, hrow5, hans5, hb5⟩
  obtain ⟨q5, hl5⟩ : ∃ q, l5.length = q := ⟨_, rfl⟩
  obtain ⟨A5, c5, hv5, hle5, hmx5⟩ := rowI_formN hrow5 hl5
  have hq5 : q5 ≤ 64 := by rw [← hl5]; exact hans5.length
  have HL5 := Lib.hid hl5
  have HA5 := Lib.hid hans5
  clear hl5 hans5
  subst hv5
  unfold maxLen at hmx5
  have G5 := Lib.hid hrow5.intsV
  have hz5 := hb5.size
  have T5 := Lib.hid (T4.out.below hb5 hz5)
  have R5 := Lib.hid (R4.out.below hb5 hz5)
  have P5 := Lib.hid ((hb5.block PB (by omega)).trans P4.out)
  have B5 := Lib.hid (B4.out.trans (hb5.mono (by omega)))
  have hP5 : PB < w5.heap.size := by omega
  clear hrow5 hb5 HC p0 p1
  have HC := implPathsFrom_any ts s At As ct cs 0 w5 T5.out R5.out (tab_below hTab hg B5.out) (by have := B5.out.size; omega)
  rw [HN.out, HM.out] at HC
  replace HC := Lib.hid HC
  have p0 : w5.cell? ⟨PB, 0, none⟩ = some (.slice At n ct) := (cell_of_block P5.out 0).trans rfl
  have p1 : w5.cell? ⟨PB, 1, none⟩ = some (.slice As m cs) := (cell_of_block P5.out 1).trans rfl
  go_wp2_with fail
  refine HC.out.mono ?_
  rintro E w6 ⟨v6, l6, rfl, hrow6, hans6, hb6⟩
  obtain ⟨q6, hl6⟩ : ∃ q, l6.length = q := ⟨_, rfl⟩
  obtain ⟨A6, c6, hv6, hle6, hmx6⟩ := rowI_formN hrow6 hl6
  have hq6 : q6 ≤ 64 := by rw [← hl6]; exact hans6.length
  have HL6 := Lib.hid hl6
  have HA6 := Lib.hid hans6
  clear hl6 hans6
  subst hv6
  unfold maxLen at hmx6
  have G6 := Lib.hid hrow6.intsV
  have hz6 := hb6.size
  have T6 := Lib.hid (T5.out.below hb6 hz6)
  have R6 := Lib.hid (R5.out.below hb6 hz6)
  have P6 := Lib.hid ((hb6.block PB (by omega)).trans P5.out)
  have B6 := Lib.hid (B5.out.trans (hb6.mono (by omega)))
  have hP6 : PB < w6.heap.size := by omega
  have G5 := Lib.hid (G5.out.below hb6 hz6)
  clear hrow6 hb6 HC p0 p1
  go_wp2_with fail
  go_loopw [7] (fun i wr => ∃ k : Nat, k ≤ L ∧ i = .int .i64 k ∧ Below w6.heap.size w6 wr) (fun i _ => L - (intOf i).toNat)
  case atStart => exact ⟨0, Nat.zero_le _, rfl, Below.refl _ _⟩
  case round =>
    obtain ⟨k, hk, rfl, hb⟩ := hrel
    have hzr := hb.size
    have Tr := Lib.hid (T6.out.below hb hzr)
    have Rr := Lib.hid (R6.out.below hb hzr)
    have Pr := Lib.hid ((hb.block PB (by omega)).trans P6.out)
    have Br := Lib.hid (B6.out.trans (hb.mono (by omega)))
    have hPr : PB < wr.heap.size := by omega
    have G5 := Lib.hid (G5.out.below hb hzr)
    have G6 := Lib.hid (G6.out.below hb hzr)
    by_cases hlt : k < L
    · have f1 : IntKind.i64.wrap ((k : Int) + 1) = (k : Int) + 1 := IntWalk.i64_in _ (by omega)
      have HCT : Hid (k + 1 < L → decide ((k : Int) ∈ l5) = true) := fun h => decide_eq_true (end_to HLP.out h HA5.out)
      have HCF : Hid (0 < k → decide ((k : Int) ∈ l6) = true) := fun h => decide_eq_true (end_from HLP.out hlt h HA6.out)
      by_cases h1 : k + 1 < L
      · have d1 : decide ((k : Int) < (L : Int) - 1) = true := decide_eq_true (by omega)
        have HCI := bcIn_any l5 k A5 c5 wr G5.out
        rw [HL5.out, HCT.out h1] at HCI
        replace HCI := Lib.hid HCI
        go_wp2_with fail
        refine HCI.out.mono ?_
        rintro E w7 ⟨rfl, hb7⟩
        have hz7 := hb7.size
        have T7 := Lib.hid (Tr.out.below hb7 hz7)
        have R7 := Lib.hid (Rr.out.below hb7 hz7)
        have P7 := Lib.hid ((hb7.block PB (by omega)).trans Pr.out)
        have B7 := Lib.hid (Br.out.trans (hb7.mono (by omega)))
        have hP7 : PB < w7.heap.size := by omega
        have G5 := Lib.hid (G5.out.below hb7 hz7)
        have G6 := Lib.hid (G6.out.below hb7 hz7)
        have hB7 : Below w6.heap.size w6 w7 := hb.trans (hb7.mono hzr)
        clear hb7 HCI
        by_cases h0 : 0 < k
        · have d2 : decide ((0 : Int) < (k : Int)) = true := decide_eq_true (by omega)
          have HCI := bcIn_any l6 k A6 c6 w7 G6.out
          rw [HL6.out, HCF.out h0] at HCI
          replace HCI := Lib.hid HCI
          go_wp2_with fail
          refine HCI.out.mono ?_
          rintro E w8 ⟨rfl, hb8⟩
          have hB8 : Below w6.heap.size w6 w8 := hB7.trans (hb8.mono (by omega))
          clear hb8 HCI
          go_wp2_with fail
          go_roundw
          case rel => exact ⟨k + 1, by omega, by go_num, hB8⟩
          case measure => simp [intOf]; omega
        · have d2 : decide ((0 : Int) < (k : Int)) = false := decide_eq_false (by omega)
          go_wp2_with fail
          go_roundw
          case rel => exact ⟨k + 1, by omega, by go_num, hB7⟩
          case measure => simp [intOf]; omega
      · have d1 : decide ((k : Int) < (L : Int) - 1) = false := decide_eq_false (by omega)
        by_cases h0 : 0 < k
        · have d2 : decide ((0 : Int) < (k : Int)) = true := decide_eq_true (by omega)
          have HCI := bcIn_any l6 k A6 c6 wr G6.out
          rw [HL6.out, HCF.out h0] at HCI
          replace HCI := Lib.hid HCI
          go_wp2_with fail
          refine HCI.out.mono ?_
          rintro E w8 ⟨rfl, hb8⟩
          have hB8 : Below w6.heap.size w6 w8 := hb.trans (hb8.mono hzr)
          clear hb8 HCI
          go_wp2_with fail
          go_roundw
          case rel => exact ⟨k + 1, by omega, by go_num, hB8⟩
          case measure => simp [intOf]; omega
        · have d2 : decide ((0 : Int) < (k : Int)) = false := decide_eq_false (by omega)
          go_wp2_with fail
          go_roundw
          case rel => exact ⟨k + 1, by omega, by go_num, hb⟩
          case measure => simp [intOf]; omega
    · have hk' : k = L := by omega
      have hkL : decide ((k : Int) < (L : Int)) = false := decide_eq_false (by omega)
      have B7 := Lib.hid Br.out
      go_wp2_with fail
      go_ret
      exact ⟨rfl, B7.out⟩

theorem cellsByte : Tryd.prog.cellsOf 5 = 1 := by kernel_rfl

theorem read_bytes {H : Type} {enc : TypeId × Value → H} {W : World} {spare : Nat → Bool} {held : Bool} {fuel : Nat} {v : Value} {x : DataW H × List MemPlace} (h : DataW.trod enc Tryd.prog W 0 spare held fuel 22 [v] = some x) :
    ∃ (n : Nat) (A : Option Addr) (c : Nat), v = .slice A n c ∧ ByteV W W.heap.size n A c := by
  rcases DataW.trod_slice Tryd.underlying22 h with ⟨hcs, _⟩ | ⟨a, len, cap, elems, rest, n, _, hcs, _, _, hl, hm, hlen, hel, _⟩
  · injection hcs with hcs _
    exact ⟨0, none, 0, hcs, by simp, by simp [maxLen], fun h => absurd h (by simp)⟩
  · injection hcs with hcs _
    have hex : ∀ i, i < len → ∃ z : Int, W.cell? (a.add i) = some (.int .u8 z) ∧ 0 ≤ z ∧ z ≤ 255 := by
      intro i hi
      have h1 := hel i hi
      rw [cellsByte, Nat.mul_one, List.getElem?_eq_getElem (by omega)] at h1
      obtain ⟨cs', hc, ht⟩ := Option.bind_eq_some_iff.1 h1
      obtain ⟨_, _, hat⟩ := World.cells?_some hc
      obtain ⟨z, rfl, _, hwf⟩ := DataW.trod_int Tryd.underlying5 ht
      have hz : 0 ≤ z ∧ z ≤ 255 := by simpa [Lit.wf, IntKind.min, IntKind.max, IntKind.signed, IntKind.bits] using hwf
      exact ⟨z, by simpa [Addr.add] using hat 0 (by omega), hz.1, hz.2⟩
    refine ⟨len, some a, cap, hcs, hl, hm, fun h0 => ⟨a, rfl, ?_, hex⟩⟩
    obtain ⟨z, hz, _⟩ := hex 0 h0
    have := World.block_lt_of_cell? W _ hz
    rwa [block_add] at this

theorem own : ownKnob Tryd.prog.godebug = none := by kernel_rfl
theorem laidOut : laidOutB Tryd.prog = true := by kernel_rfl

set_option maxRecDepth 100000 in
theorem lifted (os : Os) (started : os.Started) (H : Type) (enc : TypeId × Value → H) :
    ReturnsInHanded {} Tryd.checked os 3 .any (fun w args => (Rows.fnEndReachedSpec.pre enc Tryd.prog Tryd.f3 [] false w args ∧ laidMetH Tryd.prog listed w) ∧ sizedMet enc Tryd.prog Tryd.f3 (OpenSpec.ofChange Rows.fnEndReachedSpec) false w args)
      (Rows.fnEndReachedSpec.post enc Tryd.prog Tryd.f3 false true false false) := by
  refine returnsInHanded_of_change_and (C := Tryd.checked) (X := fun w _ => laidMetH Tryd.prog listed w) (fun _ _ _ hh h => h.of_heap hh) own started (by kernel_rfl) Tryd.func3
    (ChangeSpec.witness_shaped (enc := enc) (C := Tryd.checked) (os := os) (X := fun w _ => laidMetH Tryd.prog listed w) false (World.doorLaid Tryd.prog 400 os) #[.slice none 0 0] 8 rfl (World.shaped_of_RefB (by kernel_rfl) (by kernel_rfl)) (by kernel_rfl) (by kernel_rfl) (by kernel_rfl) (door_met os _)) ?_
  intro W base args ds gs before hval0 hW _ _ hL _
  have hval : ∀ (j : Nat) t v, Tryd.f3.params[j]? = some t → args[j]? = some v → Value.okWide Tryd.prog W .any base t v := hval0
  have hW' := hW
  obtain ⟨p, q, hA0, hV, rfl, hfz, hnd⟩ := hW
  have hA : DataW.TrodAll enc Tryd.prog W 0 (fun _ => true) true Tryd.f3.params.toList args.toList ds p := hA0
  rw [Tryd.params3] at hA hval
  obtain ⟨v0, vs0, d0, ds0, p0, q0, hargs, rfl, rfl, h0, r0⟩ := trodAll_cons hA
  obtain ⟨rfl, rfl, rfl⟩ := trodAll_nil r0
  obtain rfl : args = #[v0] := by cases args; simp_all
  obtain ⟨rfl, rfl⟩ := trodVars_none hV
  have k0 := h0
  have lt0 : ∀ x ∈ p0, x.block < W.heap.size := by obtain ⟨m, hm⟩ := k0; exact DataW.trod_lt m _ _ _ hm
  obtain ⟨a0, len0, cap0, rfl⟩ := okWide_slice Tryd.underlying22 (hval 0 22 v0 rfl rfl)
  obtain ⟨fu0, hf0⟩ := h0
  obtain ⟨nb0, At0, ct0, hv0, hT0⟩ := read_bytes hf0
  injection hv0 with hv0 hv0' hv0''
  subst hv0 hv0' hv0''
  obtain ⟨hTab, hTabLt⟩ := tab_of_laid hL
  clear hA0 hval0
  simp only [List.append_nil] at hW'
  refine (walk _ _ _ W hT0 hTab hTabLt).mono fun e W' ⟨he, bel⟩ => ?_
  subst he
  exact ⟨_, rfl, _, _, _, [], _, [], hW', trodAll_mk1 (shut_bool Tryd.underlying4 _), (trodAll_cons_mk (Below.trod laidOut (by kernel_rfl) (of_decide_eq_true (by kernel_rfl)) k0 bel lt0) trodAll_mk0), rfl, bel.frame _, fun h => by cases h⟩

theorem over : Rows.fnEndReachedRow.holds Tryd.pinned (OpenSpec.ofChange Rows.fnEndReachedSpec) :=
  OpenClaim.holds_of_wide 3 Tryd.f3 rfl rfl rfl rfl rfl rfl rfl ⟨rfl, rfl, rfl, rfl, rfl⟩ rfl rfl rfl rfl rfl (by kernel_rfl) Tryd.func3 (by kernel_rfl)
    (of_decide_eq_true (by kernel_rfl)) (by unfold Func.isWrapper; first | (rw [if_pos (by decide +kernel)]; kernel_rfl) | (rw [if_neg (by decide +kernel)]; exact ⟨rfl, rfl⟩))
    (fun os started H enc _ => lifted os started H enc)

set_option maxRecDepth 100000 in
theorem proved : Rows.FnEndReachedCardSaid :=
  Claim7.holds_tied_plain_at .later [] [.data] true (true, "b9a8ebde2238e8c9cc3744834b9c8ad2830396350f5557b6fa5e5b2a796d63f9") false
    over (fun _ h => by cases h) (by kernel_rfl) (fun _ h => by cases h) fnEndReached_row_tie rfl ⟨rfl, rfl⟩ (by kernel_rfl) rfl
    (fun f fn hf hfn => by
      obtain rfl : f = 3 := Option.some.inj ((show Tryd.prog.funcNamed "loop.example/borrowcheck/laws.FnEndReached" = some 3 by kernel_rfl).symm.trans hf) |>.symm
      obtain rfl : fn = Tryd.f3 := (Option.some.inj (Tryd.func3.symm.trans hfn)).symm
      exact ⟨by kernel_rfl, fun j t ht => by
        rw [Tryd.params3] at ht
        have hm : t ∈ [22] := by simpa using Array.mem_of_getElem? ht
        have hall : ([22].all fun u => !Tryd.prog.wantsStandIn u) = true := by kernel_rfl
        exact (show Tryd.prog.wantsStandIn t = false by simpa using List.all_eq_true.1 hall t hm)⟩)
    (by kernel_rfl)
#print axioms proved
end Go.Proofs.YtbffldgiccijlaaDoor.fnEndReached
