/-
  Whatever the bytes: a point uses only variables of its statement, and sets one of them; what it uses and sets is the model's. Conditions: none.
-/
import Derived.Test.YtbffldgiccijlaaGreatDoorZDrUse
import Derived.Test.YtbffldgiccijlaaGreatDoorZUseOf
import Derived.Test.YtbffldgiccijlaaGreatDoorZSetBy
import Derived.Test.YtbffldgiccijlaaGreatDoorZPoX
import Derived.Test.YtbffldgiccijlaaGreatDoorZTab
import Derived.Test.YtbffldgiccijlaaGreatDoorRows
import Derived.Test.YtbffldgiccijlaaGreatDoorCards
import Derived.Test.YtbffldgiccijlaaGreatDoorTie
import Derived.LaidMore
import Derived.SevenTiedAt
import Derived.WalkKit
import Derived.ProofKit
import Derived.OpenShut
import Derived.Lib.SmallJoins
import Derived.Deep.RegionHeld3
namespace Go.Proofs.YtbffldgiccijlaaGreatDoor.fnUseOf
open Go.ChangeShapes Go.WideShapes Go.ChangeAt Go.RowKit Go.Deep Go.Joins
set_option linter.unusedVariables false

theorem rowI_formN {w : World} {B n : Nat} {v : Value} {xs : List Int} (h : RowI w B v xs) (hn : xs.length = n) : ∃ A c, v = .slice A n c ∧ n ≤ c ∧ c ≤ maxLen := by
  obtain ⟨A, c, h1, h2, h3, _⟩ := own_form h.own
  subst hn
  exact ⟨A, c, h1, h2, h3⟩

theorem rowI_form {w : World} {B : Nat} {v : Value} {xs : List Int} (h : RowI w B v xs) : ∃ A c, v = .slice A xs.length c ∧ xs.length ≤ c ∧ c ≤ maxLen := rowI_formN h rfl

theorem points_len9 (ok : Bool) (s : Sts) (h : s.size ≤ 40000) : (pointsB ok s).length ≤ 100000 := by
  unfold pointsB
  split
  · rw [progPts_len]
    have := s.npts_le
    omega
  · simp

theorem use_where {ok : Bool} {ts : List Int} {s : Sts} {j : Nat} {v : Int} {d : Nd} (hd : (pointsB ok s)[j]? = some d) :
    (useOfI ok ts s j v = 0 ∨ v = d.x ∨ v = d.y) ∧ (setByI ok s j = -1 ∨ setByI ok s j = d.x) := by
  cases ok
  · simp [pointsB] at hd
  · simp only [pointsB, if_true] at hd
    constructor
    · unfold useOfI
      split
      · rw [Int.toNat_natCast, hd]
        simp only [Option.map_some, Option.getD_some]
        unfold useI
        repeat' split
        all_goals first | (left; rfl) | (right; left; assumption) | (right; right; assumption)
      · left; rfl
    · unfold setByI
      split
      · rw [Int.toNat_natCast, hd]
        simp only [Option.map_some, Option.getD_some]
        unfold setI
        split
        · right; rfl
        · left; rfl
      · left; rfl

set_option maxRecDepth 100000 in
set_option maxHeartbeats 2000000 in
theorem walk (n0 c0 : Nat) (A0 : Option Addr) (W : World) (hB : ByteV W W.heap.size n0 A0 c0) (hTab : TabAt 0 Lib.deBruijn64tab W) (hg : 0 < W.heap.size) :
    Calls Tryz.prog 5 #[.slice A0 n0 c0] W fun e w' => e = .returned (.bool true) ∧ Below W.heap.size W w' := by
  have hnc := hB.1
  have hcm := hB.2.1
  unfold maxLen at hcm
  by_cases hn : 1048576 < n0
  · go_enter Tryz.func5, Tryz.ntmps5
    go_wp2_with fail
    go_ret
    exact ⟨rfl, Below.refl _ _⟩
  have e1 : decide (1048576 < (n0 : Int)) = false := decide_eq_false (by omega)
  have HD := Lib.hid (drawUseOf_any n0 c0 A0 W hB)
  clear hB
  go_enter Tryz.func5, Tryz.ntmps5
  go_wp2_with fail
  refine HD.out.mono ?_
  rintro E w1 ⟨ts, s, At, As, ct, cs, a, v, rfl, hr1, ht1, hs1, hq, hb1⟩
  have h1s := hb1.size
  obtain ⟨n, hn⟩ : ∃ n, ts.length = n := ⟨_, rfl⟩
  obtain ⟨m, hm⟩ : ∃ m, s.len = m := ⟨_, rfl⟩
  rw [hn, hm]
  have hn9 : n ≤ 1000 := by omega
  have HN := Lib.hid hn
  have HM := Lib.hid hm
  have HSZ := Lib.hid hs1
  have hba := (Below.refl w1.heap.size w1).alloc (Nat.le_refl _) (.cells #[.slice At n ct, .slice As m cs] 26)
  have h2n := heap_alloc_new w1 (.cells #[.slice At n ct, .slice As m cs] 26)
  have h2z : w1.heap.size + 1 ≤ (w1.alloc (.cells #[.slice At n ct, .slice As m cs] 26)).heap.size := Nat.le_of_eq (by simp)
  obtain ⟨w2, hw2⟩ : ∃ w2, w1.alloc (.cells #[.slice At n ct, .slice As m cs] 26) = w2 := ⟨_, rfl⟩
  have T2 := Lib.hid (hr1.1.below hba (Nat.le_trans (Nat.le_refl _) hba.size))
  have R2 := Lib.hid (hr1.2.below hba (Nat.le_trans (Nat.le_refl _) hba.size))
  have B2 := Lib.hid (hb1.trans (hba.mono h1s))
  rw [hw2] at T2 R2 B2 h2n h2z
  have P2 := Lib.hid h2n
  clear hn hm hba hr1 ht1 hs1 hb1 h2n HD
  obtain ⟨PB, hPB⟩ : ∃ PB, w1.heap.size = PB := ⟨_, rfl⟩
  rw [hPB] at P2 h2z h1s
  have hPW : W.heap.size ≤ PB := h1s
  have hP2 : PB < w2.heap.size := h2z
  obtain ⟨ns, hns⟩ : ∃ ns, pointsB (validB ts s) s = ns := ⟨_, rfl⟩
  obtain ⟨L, hL⟩ : ∃ L, ns.length = L := ⟨_, rfl⟩
  have hL9 : L ≤ 100000 := by rw [← hL, ← hns]; exact points_len9 _ _ HSZ.out
  have HNS := Lib.hid hns
  have HLL := Lib.hid hL
  clear hns hL
  obtain ⟨u, hu⟩ : ∃ u, useOfI (validB ts s) ts s a v = u := ⟨_, rfl⟩
  obtain ⟨k, hk⟩ : ∃ k, setByI (validB ts s) s a = k := ⟨_, rfl⟩
  have HU := Lib.hid hu
  have HK := Lib.hid hk
  have HWH : Hid (∀ (j : Nat) (d : Nd), a = (j : Int) → ns[j]? = some d → (u = 0 ∨ v = d.x ∨ v = d.y) ∧ (k = -1 ∨ k = d.x)) := by
    rintro j d rfl hd
    rw [← HNS.out] at hd
    have := use_where (ts := ts) (v := v) hd
    rw [hu, hk] at this
    exact this
  clear hu hk
  have eu : (u != u) = false := by simp
  have eu2 : (u == u) = true := by simp
  have ek : (k != k) = false := by simp
  have ek2 : (k == k) = true := by simp
  have HC := implUseOf_any ts s At As ct cs a v w2 T2.out R2.out
  rw [HN.out, HM.out, HU.out] at HC
  replace HC := Lib.hid HC
  have p0 : w2.cell? ⟨PB, 0, none⟩ = some (.slice At n ct) := (cell_of_block P2.out 0).trans rfl
  have p1 : w2.cell? ⟨PB, 1, none⟩ = some (.slice As m cs) := (cell_of_block P2.out 1).trans rfl
  go_upto_region 4 with (fail)
  clear hw2 hPB
  go_wp2_with fail
  refine HC.out.mono ?_
  rintro E w3 ⟨rfl, hb3⟩
  have hz3 := hb3.size
  have T3 := Lib.hid (T2.out.below hb3 hz3)
  have R3 := Lib.hid (R2.out.below hb3 hz3)
  have P3 := Lib.hid ((hb3.block PB (by omega)).trans P2.out)
  have B3 := Lib.hid (B2.out.trans (hb3.mono (by omega)))
  have hP3 : PB < w3.heap.size := by omega
  clear hb3 HC p0 p1
  have HC := implSetBy_any ts s At As ct cs a w3 T3.out R3.out (tab_below hTab hg B3.out) (by have := B3.out.size; omega)
  rw [HN.out, HM.out, HK.out] at HC
  replace HC := Lib.hid HC
  have p0 : w3.cell? ⟨PB, 0, none⟩ = some (.slice At n ct) := (cell_of_block P3.out 0).trans rfl
  have p1 : w3.cell? ⟨PB, 1, none⟩ = some (.slice As m cs) := (cell_of_block P3.out 1).trans rfl
  go_wp2_with fail
  refine HC.out.mono ?_
  rintro E w4 ⟨rfl, hb4⟩
  have hz4 := hb4.size
  have T4 := Lib.hid (T3.out.below hb4 hz4)
  have R4 := Lib.hid (R3.out.below hb4 hz4)
  have P4 := Lib.hid ((hb4.block PB (by omega)).trans P3.out)
  have B4 := Lib.hid (B3.out.trans (hb4.mono (by omega)))
  have hP4 : PB < w4.heap.size := by omega
  clear hb4 HC p0 p1
  have HC := implPointsOf_any ts s At As ct cs w4 T4.out R4.out
  rw [HN.out, HM.out, HNS.out] at HC
  replace HC := Lib.hid HC
  have p0 : w4.cell? ⟨PB, 0, none⟩ = some (.slice At n ct) := (cell_of_block P4.out 0).trans rfl
  have p1 : w4.cell? ⟨PB, 1, none⟩ = some (.slice As m cs) := (cell_of_block P4.out 1).trans rfl
  go_wp2_with fail
  refine HC.out.mono ?_
  rintro E w5 ⟨v5, us5, rfl, hrow5, hb5⟩
  have V5 := Lib.hid hrow5.reads
  have hz5 := hb5.size
  have T5 := Lib.hid (T4.out.below hb5 hz5)
  have R5 := Lib.hid (R4.out.below hb5 hz5)
  have P5 := Lib.hid ((hb5.block PB (by omega)).trans P4.out)
  have B5 := Lib.hid (B4.out.trans (hb5.mono (by omega)))
  have hP5 : PB < w5.heap.size := by omega
  obtain ⟨A5, c5, hv5, hc5, hmx5, -⟩ := id V5.out
  rw [HLL.out] at hv5 hc5
  subst hv5
  unfold maxLen at hmx5
  clear hrow5 hb5 HC p0 p1
  have HC := specUseOf_any ts s At As ct cs a v w5 (by have := HSZ.out; omega) T5.out R5.out
  rw [HN.out, HM.out, HU.out] at HC
  replace HC := Lib.hid HC
  have p0 : w5.cell? ⟨PB, 0, none⟩ = some (.slice At n ct) := (cell_of_block P5.out 0).trans rfl
  have p1 : w5.cell? ⟨PB, 1, none⟩ = some (.slice As m cs) := (cell_of_block P5.out 1).trans rfl
  go_wp2_with fail
  refine HC.out.mono ?_
  rintro E w6 ⟨rfl, hb6⟩
  have hz6 := hb6.size
  have T6 := Lib.hid (T5.out.below hb6 hz6)
  have R6 := Lib.hid (R5.out.below hb6 hz6)
  have P6 := Lib.hid ((hb6.block PB (by omega)).trans P5.out)
  have B6 := Lib.hid (B5.out.trans (hb6.mono (by omega)))
  have hP6 : PB < w6.heap.size := by omega
  have V5 := Lib.hid (V5.out.below hb6)
  clear hb6 HC p0 p1
  have HC := specSetBy_any ts s At As ct cs a w6 (by have := HSZ.out; omega) T6.out R6.out
  rw [HN.out, HM.out, HK.out] at HC
  replace HC := Lib.hid HC
  have p0 : w6.cell? ⟨PB, 0, none⟩ = some (.slice At n ct) := (cell_of_block P6.out 0).trans rfl
  have p1 : w6.cell? ⟨PB, 1, none⟩ = some (.slice As m cs) := (cell_of_block P6.out 1).trans rfl
  go_wp2_with fail
  refine HC.out.mono ?_
  rintro E w7 ⟨rfl, hb7⟩
  have hz7 := hb7.size
  have T7 := Lib.hid (T6.out.below hb7 hz7)
  have R7 := Lib.hid (R6.out.below hb7 hz7)
  have P7 := Lib.hid ((hb7.block PB (by omega)).trans P6.out)
  have B7 := Lib.hid (B6.out.trans (hb7.mono (by omega)))
  have hP7 : PB < w7.heap.size := by omega
  have V5 := Lib.hid (V5.out.below hb7)
  clear hb7 HC p0 p1
  by_cases ha0 : a < 0
  · have g1 : decide (a < 0) = true := decide_eq_true ha0
    have HC := specUseOf_any ts s At As ct cs a v w7 (by have := HSZ.out; omega) T7.out R7.out
    rw [HN.out, HM.out, HU.out] at HC
    replace HC := Lib.hid HC
    have p0 : w7.cell? ⟨PB, 0, none⟩ = some (.slice At n ct) := (cell_of_block P7.out 0).trans rfl
    have p1 : w7.cell? ⟨PB, 1, none⟩ = some (.slice As m cs) := (cell_of_block P7.out 1).trans rfl
    go_wp2_with fail
    refine HC.out.mono ?_
    rintro E w8 ⟨rfl, hb8⟩
    have hz8 := hb8.size
    have T8 := Lib.hid (T7.out.below hb8 hz8)
    have R8 := Lib.hid (R7.out.below hb8 hz8)
    have P8 := Lib.hid ((hb8.block PB (by omega)).trans P7.out)
    have B8 := Lib.hid (B7.out.trans (hb8.mono (by omega)))
    have hP8 : PB < w8.heap.size := by omega
    clear hb8 HC p0 p1
    have HC := specSetBy_any ts s At As ct cs a w8 (by have := HSZ.out; omega) T8.out R8.out
    rw [HN.out, HM.out, HK.out] at HC
    replace HC := Lib.hid HC
    have p0 : w8.cell? ⟨PB, 0, none⟩ = some (.slice At n ct) := (cell_of_block P8.out 0).trans rfl
    have p1 : w8.cell? ⟨PB, 1, none⟩ = some (.slice As m cs) := (cell_of_block P8.out 1).trans rfl
    go_wp2_with fail
    refine HC.out.mono ?_
    rintro E w9 ⟨rfl, hb9⟩
    have hz9 := hb9.size
    have T9 := Lib.hid (T8.out.below hb9 hz9)
    have R9 := Lib.hid (R8.out.below hb9 hz9)
    have P9 := Lib.hid ((hb9.block PB (by omega)).trans P8.out)
    have B9 := Lib.hid (B8.out.trans (hb9.mono (by omega)))
    have hP9 : PB < w9.heap.size := by omega
    clear hb9 HC p0 p1
    go_wp2_with fail
    go_ret
    exact ⟨rfl, B9.out⟩
  obtain ⟨j, rfl⟩ := Int.eq_ofNat_of_zero_le (Int.not_lt.1 ha0)
  have g1 : decide ((j : Int) < 0) = false := decide_eq_false ha0
  by_cases haL : L ≤ j
  · have g2 : decide ((L : Int) ≤ (j : Int)) = true := decide_eq_true (by omega)
    have HC := specUseOf_any ts s At As ct cs j v w7 (by have := HSZ.out; omega) T7.out R7.out
    rw [HN.out, HM.out, HU.out] at HC
    replace HC := Lib.hid HC
    have p0 : w7.cell? ⟨PB, 0, none⟩ = some (.slice At n ct) := (cell_of_block P7.out 0).trans rfl
    have p1 : w7.cell? ⟨PB, 1, none⟩ = some (.slice As m cs) := (cell_of_block P7.out 1).trans rfl
    go_wp2_with fail
    refine HC.out.mono ?_
    rintro E w8 ⟨rfl, hb8⟩
    have hz8 := hb8.size
    have T8 := Lib.hid (T7.out.below hb8 hz8)
    have R8 := Lib.hid (R7.out.below hb8 hz8)
    have P8 := Lib.hid ((hb8.block PB (by omega)).trans P7.out)
    have B8 := Lib.hid (B7.out.trans (hb8.mono (by omega)))
    have hP8 : PB < w8.heap.size := by omega
    clear hb8 HC p0 p1
    have HC := specSetBy_any ts s At As ct cs j w8 (by have := HSZ.out; omega) T8.out R8.out
    rw [HN.out, HM.out, HK.out] at HC
    replace HC := Lib.hid HC
    have p0 : w8.cell? ⟨PB, 0, none⟩ = some (.slice At n ct) := (cell_of_block P8.out 0).trans rfl
    have p1 : w8.cell? ⟨PB, 1, none⟩ = some (.slice As m cs) := (cell_of_block P8.out 1).trans rfl
    go_wp2_with fail
    refine HC.out.mono ?_
    rintro E w9 ⟨rfl, hb9⟩
    have hz9 := hb9.size
    have T9 := Lib.hid (T8.out.below hb9 hz9)
    have R9 := Lib.hid (R8.out.below hb9 hz9)
    have P9 := Lib.hid ((hb9.block PB (by omega)).trans P8.out)
    have B9 := Lib.hid (B8.out.trans (hb9.mono (by omega)))
    have hP9 : PB < w9.heap.size := by omega
    clear hb9 HC p0 p1
    go_wp2_with fail
    go_ret
    exact ⟨rfl, B9.out⟩
  have g2 : decide ((L : Int) ≤ (j : Int)) = false := decide_eq_false (by omega)
  have hjL : j < L := by omega
  have hjl : j < ns.length := by rw [HLL.out]; exact hjL
  obtain ⟨d, hd⟩ : ∃ d, ns[j]? = some d := ⟨ns[j], List.getElem?_eq_getElem hjl⟩
  obtain ⟨A1, c1, e1, -, -, h4⟩ := id V5.out
  injection e1 with e1 e1m e1'
  subst e1 e1'
  obtain ⟨g, rfl, hgl, hcc⟩ := h4 (by omega)
  obtain ⟨Au, cu, ⟨a0, a1, a2, a3, a4⟩, hI⟩ := hcc j d hd
  obtain ⟨hw1, hw2⟩ := HWH.out j d rfl hd
  obtain ⟨op, x, y, nn, nx⟩ := d
  simp only at a0 a1 a2 a3 a4 hw1 hw2
  obtain ⟨nl, hnl⟩ : ∃ nl, nx.length = nl := ⟨_, rfl⟩
  rw [hnl] at a4
  have B7 := B7
  clear h4 hcc hI hd hnl e1m HWH hjl V5
  obtain ⟨b1, hb1⟩ : ∃ b, (u == 0) = b := ⟨_, rfl⟩
  obtain ⟨b2, hb2⟩ : ∃ b, (v == x) = b := ⟨_, rfl⟩
  obtain ⟨b3, hb3⟩ : ∃ b, (v == y) = b := ⟨_, rfl⟩
  obtain ⟨b4, hb4⟩ : ∃ b, (k == -1) = b := ⟨_, rfl⟩
  obtain ⟨b5, hb5⟩ : ∃ b, (k == x) = b := ⟨_, rfl⟩
  have ho1 : b1 = true ∨ b2 = true ∨ b3 = true := by
    rw [← hb1, ← hb2, ← hb3]; simpa using hw1
  have ho2 : b4 = true ∨ b5 = true := by
    rw [← hb4, ← hb5]; simpa using hw2
  clear hw1 hw2
  have HF : Hid (∀ w', Below w7.heap.size w7 w' → Below W.heap.size W w') := fun w' h => B7.out.trans (h.mono (by have := B7.out.size; omega))
  cases b1 <;> cases b2 <;> cases b3 <;> cases b4 <;> cases b5
  all_goals first
    | (exfalso; simp at ho1; done)
    | (exfalso; simp at ho2; done)
    | (go_wp2_with fail; go_ret; exact ⟨rfl, HF.out _ ((Below.refl _ _).alloc (Nat.le_refl _) _)⟩)

theorem cellsByte : Tryz.prog.cellsOf 5 = 1 := by kernel_rfl

theorem read_bytes {H : Type} {enc : TypeId × Value → H} {W : World} {spare : Nat → Bool} {held : Bool} {fuel : Nat} {v : Value} {x : DataW H × List MemPlace} (h : DataW.trod enc Tryz.prog W 0 spare held fuel 22 [v] = some x) :
    ∃ (n : Nat) (A : Option Addr) (c : Nat), v = .slice A n c ∧ ByteV W W.heap.size n A c := by
  rcases DataW.trod_slice Tryz.underlying22 h with ⟨hcs, _⟩ | ⟨a, len, cap, elems, rest, n, _, hcs, _, _, hl, hm, hlen, hel, _⟩
  · injection hcs with hcs _
    exact ⟨0, none, 0, hcs, by simp, by simp [maxLen], fun h => absurd h (by simp)⟩
  · injection hcs with hcs _
    have hex : ∀ i, i < len → ∃ z : Int, W.cell? (a.add i) = some (.int .u8 z) ∧ 0 ≤ z ∧ z ≤ 255 := by
      intro i hi
      have h1 := hel i hi
      rw [cellsByte, Nat.mul_one, List.getElem?_eq_getElem (by omega)] at h1
      obtain ⟨cs', hc, ht⟩ := Option.bind_eq_some_iff.1 h1
      obtain ⟨_, _, hat⟩ := World.cells?_some hc
      obtain ⟨z, rfl, _, hwf⟩ := DataW.trod_int Tryz.underlying5 ht
      have hz : 0 ≤ z ∧ z ≤ 255 := by simpa [Lit.wf, IntKind.min, IntKind.max, IntKind.signed, IntKind.bits] using hwf
      exact ⟨z, by simpa [Addr.add] using hat 0 (by omega), hz.1, hz.2⟩
    refine ⟨len, some a, cap, hcs, hl, hm, fun h0 => ⟨a, rfl, ?_, hex⟩⟩
    obtain ⟨z, hz, _⟩ := hex 0 h0
    have := World.block_lt_of_cell? W _ hz
    rwa [block_add] at this

theorem own : ownKnob Tryz.prog.godebug = none := by kernel_rfl
theorem laidOut : laidOutB Tryz.prog = true := by kernel_rfl

set_option maxRecDepth 100000 in
theorem lifted (os : Os) (started : os.Started) (H : Type) (enc : TypeId × Value → H) :
    ReturnsInHanded {} Tryz.checked os 5 .any (fun w args => (Rows.fnUseOfSpec.pre enc Tryz.prog Tryz.f5 [] false w args ∧ laidMetH Tryz.prog listed w) ∧ sizedMet enc Tryz.prog Tryz.f5 (OpenSpec.ofChange Rows.fnUseOfSpec) false w args)
      (Rows.fnUseOfSpec.post enc Tryz.prog Tryz.f5 false true false false) := by
  refine returnsInHanded_of_change_and (C := Tryz.checked) (X := fun w _ => laidMetH Tryz.prog listed w) (fun _ _ _ hh h => h.of_heap hh) own started (by kernel_rfl) Tryz.func5
    (ChangeSpec.witness_shaped (enc := enc) (C := Tryz.checked) (os := os) (X := fun w _ => laidMetH Tryz.prog listed w) false (World.doorLaid Tryz.prog 400 os) #[.slice none 0 0] 8 rfl (World.shaped_of_RefB (by kernel_rfl) (by kernel_rfl)) (by kernel_rfl) (by kernel_rfl) (by kernel_rfl) (door_met os _)) ?_
  intro W base args ds gs before hval0 hW _ _ hL _
  have hval : ∀ (j : Nat) t v, Tryz.f5.params[j]? = some t → args[j]? = some v → Value.okWide Tryz.prog W .any base t v := hval0
  have hW' := hW
  obtain ⟨p, q, hA0, hV, rfl, hfz, hnd⟩ := hW
  have hA : DataW.TrodAll enc Tryz.prog W 0 (fun _ => true) true Tryz.f5.params.toList args.toList ds p := hA0
  rw [Tryz.params5] at hA hval
  obtain ⟨v0, vs0, d0, ds0, p0, q0, hargs, rfl, rfl, h0, r0⟩ := trodAll_cons hA
  obtain ⟨rfl, rfl, rfl⟩ := trodAll_nil r0
  obtain rfl : args = #[v0] := by cases args; simp_all
  obtain ⟨rfl, rfl⟩ := trodVars_none hV
  have k0 := h0
  have lt0 : ∀ x ∈ p0, x.block < W.heap.size := by obtain ⟨m, hm⟩ := k0; exact DataW.trod_lt m _ _ _ hm
  obtain ⟨a0, len0, cap0, rfl⟩ := okWide_slice Tryz.underlying22 (hval 0 22 v0 rfl rfl)
  obtain ⟨fu0, hf0⟩ := h0
  obtain ⟨nb0, At0, ct0, hv0, hT0⟩ := read_bytes hf0
  injection hv0 with hv0 hv0' hv0''
  subst hv0 hv0' hv0''
  obtain ⟨hTab, hTabLt⟩ := tab_of_laid hL
  clear hA0 hval0
  simp only [List.append_nil] at hW'
  refine (walk _ _ _ W hT0 hTab hTabLt).mono fun e W' ⟨he, bel⟩ => ?_
  subst he
  exact ⟨_, rfl, _, _, _, [], _, [], hW', trodAll_mk1 (shut_bool Tryz.underlying4 _), (trodAll_cons_mk (Below.trod laidOut (by kernel_rfl) (of_decide_eq_true (by kernel_rfl)) k0 bel lt0) trodAll_mk0), rfl, bel.frame _, fun h => by cases h⟩

theorem over : Rows.fnUseOfRow.holds Tryz.pinned (OpenSpec.ofChange Rows.fnUseOfSpec) :=
  OpenClaim.holds_of_wide 5 Tryz.f5 rfl rfl rfl rfl rfl rfl rfl ⟨rfl, rfl, rfl, rfl, rfl⟩ rfl rfl rfl rfl rfl (by kernel_rfl) Tryz.func5 (by kernel_rfl)
    (of_decide_eq_true (by kernel_rfl)) (by unfold Func.isWrapper; first | (rw [if_pos (by decide +kernel)]; kernel_rfl) | (rw [if_neg (by decide +kernel)]; exact ⟨rfl, rfl⟩))
    (fun os started H enc _ => lifted os started H enc)

set_option maxRecDepth 100000 in
theorem proved : Rows.FnUseOfCardSaid :=
  Claim7.holds_tied_plain_at .later [] [.data] true (true, "ca4b1107ca120ec6fe4617b652e9a3e2f83b69ff52ae50c919f96cc733ce0d93") false
    over (fun _ h => by cases h) (by kernel_rfl) (fun _ h => by cases h) fnUseOf_row_tie rfl ⟨rfl, rfl⟩ (by kernel_rfl) rfl
    (fun f fn hf hfn => by
      obtain rfl : f = 5 := Option.some.inj ((show Tryz.prog.funcNamed "loop.example/borrowcheck/laws.FnUseOf" = some 5 by kernel_rfl).symm.trans hf) |>.symm
      obtain rfl : fn = Tryz.f5 := (Option.some.inj (Tryz.func5.symm.trans hfn)).symm
      exact ⟨by kernel_rfl, fun j t ht => by
        rw [Tryz.params5] at ht
        have hm : t ∈ [22] := by simpa using Array.mem_of_getElem? ht
        have hall : ([22].all fun u => !Tryz.prog.wantsStandIn u) = true := by kernel_rfl
        exact (show Tryz.prog.wantsStandIn t = false by simpa using List.all_eq_true.1 hall t hm)⟩)
    (by kernel_rfl)
#print axioms proved
end Go.Proofs.YtbffldgiccijlaaGreatDoor.fnUseOf
