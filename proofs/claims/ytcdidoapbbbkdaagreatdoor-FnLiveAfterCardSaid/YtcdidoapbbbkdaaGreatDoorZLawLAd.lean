/-
  Whatever the bytes: what a run uses later, before it is set, is live; and what is live is the model's. Conditions: none.
-/
import Derived.Test.YtcdidoapbbbkdaaGreatDoorZPuG
import Derived.Test.YtcdidoapbbbkdaaGreatDoorZDrLiveAfter2
import Derived.Test.YtcdidoapbbbkdaaGreatDoorZDrRn
import Derived.Test.YtcdidoapbbbkdaaGreatDoorZBcG
import Derived.Test.YtcdidoapbbbkdaaGreatDoorZUsG
import Derived.Test.YtcdidoapbbbkdaaGreatDoorZFloG
import Derived.Test.YtcdidoapbbbkdaaGreatDoorZLvA
import Derived.Test.YtcdidoapbbbkdaaGreatDoorZRunC
import Derived.Test.YtcdidoapbbbkdaaGreatDoorZRunG
import Derived.Test.YtcdidoapbbbkdaaGreatDoorZTab
import Derived.Test.YtcdidoapbbbkdaaGreatDoorRows
import Derived.Test.YtcdidoapbbbkdaaGreatDoorCards
import Derived.Test.YtcdidoapbbbkdaaGreatDoorTie
import Derived.LaidMore
import Derived.SevenTiedAt
import Derived.WalkKit
import Derived.ProofKit
import Derived.OpenShut
import Derived.Lib.SmallJoins
import Derived.Deep.RegionHeld3
namespace Go.Proofs.YtcdidoapbbbkdaaGreatDoor.fnLiveAfter
open Go.ChangeShapes Go.WideShapes Go.ChangeAt Go.RowKit Go.Deep Go.Joins
set_option linter.unusedVariables false

theorem rowI_formN {w : World} {B n : Nat} {v : Value} {xs : List Int} (h : RowI w B v xs) (hn : xs.length = n) : ∃ A c, v = .slice A n c ∧ n ≤ c ∧ c ≤ maxLen := by
  obtain ⟨A, c, h1, h2, h3, _⟩ := own_form h.own
  subst hn
  exact ⟨A, c, h1, h2, h3⟩

theorem rowI_form {w : World} {B : Nat} {v : Value} {xs : List Int} (h : RowI w B v xs) : ∃ A c, v = .slice A xs.length c ∧ xs.length ≤ c ∧ c ≤ maxLen := rowI_formN h rfl

theorem points_len9 (ok : Bool) (s : Sts) (h : s.size ≤ 40000) : (pointsB ok s).length ≤ 100000 := by
  unfold pointsB
  split
  · rw [progPts_len]
    have := s.npts_le
    omega
  · simp

/-- What holds while a variable is looked at along a run: what is live behind the last point is live behind the place. -/
def OpenI (ts : List Int) (s : Sts) (l : List Int) (ys : List Int) (v i : Nat) (op : Bool) : Prop := op = true → ∃ k : Nat, 0 < i ∧ ys[i - 1]? = some (k : Int) ∧ (LiveB ts (progPts s) k v → (v : Int) ∈ l)

theorem open_use {ts : List Int} {s : Sts} {l ys : List Int} {v i k : Nat} (hk : ys[i]? = some (k : Int)) (hkl : k < (progPts s).length) (hlink : ∀ (i a b : Nat), ys[i]? = some (a : Int) → ys[i + 1]? = some (b : Int) → ∃ d, (progPts s)[a]? = some d ∧ (b : Int) ∈ d.next)
    (hv : validB ts s = true) (hvt : v < ts.length) (hO : OpenI ts s l ys v i true) (hu : useOfI (validB ts s) ts s k v ≠ 0) : (v : Int) ∈ l := by
  obtain ⟨j, hi, hj, hl⟩ := hO rfl
  have hk' : ys[i - 1 + 1]? = some (k : Int) := by rw [Nat.sub_add_cancel hi]; exact hk
  obtain ⟨d, hd, hm⟩ := hlink _ _ _ hj hk'
  have hdk := List.getElem?_eq_getElem hkl
  rw [hv, useOfI_yes hdk hvt] at hu
  exact hl (Flo.gen (mem_nextN_at hd hm) ⟨_, hdk, hu⟩)

theorem open_next {ts : List Int} {s : Sts} {l ys : List Int} {a : Int} {v i k : Nat} {op : Bool} (hk : ys[i]? = some (k : Int)) (hkl : k < (progPts s).length) (hlink : ∀ (i a b : Nat), ys[i]? = some (a : Int) → ys[i + 1]? = some (b : Int) → ∃ d, (progPts s)[a]? = some d ∧ (b : Int) ∈ d.next)
    (hv : validB ts s = true) (hA : AnsAt (flowLive.Rel ts) (validB ts s) s a l) (hO : OpenI ts s l ys v i op) :
    OpenI ts s l ys v (i + 1) (((op && !(setByI (validB ts s) s k == (v : Int)))) || ((k : Int) == a)) := by
  intro h
  refine ⟨k, by omega, by rw [Nat.add_sub_cancel]; exact hk, fun hl => ?_⟩
  rw [Bool.or_eq_true, Bool.and_eq_true] at h
  have hdk := List.getElem?_eq_getElem hkl
  rcases h with ⟨h1, h2⟩ | h
  · subst h1
    obtain ⟨j, hi, hj, hl'⟩ := hO rfl
    have hk' : ys[i - 1 + 1]? = some (k : Int) := by rw [Nat.sub_add_cancel hi]; exact hk
    obtain ⟨d, hd, hm⟩ := hlink _ _ _ hj hk'
    rw [hv, setByI_yes hdk] at h2
    exact hl' (Flo.keep (mem_nextN_at hd hm) hl fun hs => by
      have := (setsN_at hdk v).1 hs
      simp [this] at h2)
  · rw [beq_iff_eq] at h
    rw [hA.mem]
    exact ⟨hv, by omega, by omega, v, rfl, by rw [← h, Int.toNat_natCast]; exact hl⟩

set_option maxRecDepth 100000 in
set_option maxHeartbeats 2000000 in
theorem walk (n0 c0 : Nat) (A0 : Option Addr) (n1 c1 : Nat) (A1 : Option Addr) (W : World) (hB : ByteV W W.heap.size n0 A0 c0) (hB1 : ByteV W W.heap.size n1 A1 c1) (hTab : TabAt 0 Lib.deBruijn64tab W) (hg : 0 < W.heap.size) :
    Calls Tryz.prog 4 #[.slice A0 n0 c0, .slice A1 n1 c1] W fun e w' => e = .returned (.bool true) ∧ Below W.heap.size W w' := by
  have hnc := hB.1
  have hcm := hB.2.1
  have hnc1 := hB1.1
  have hcm1 := hB1.2.1
  unfold maxLen at hcm hcm1
  have HB1 := Lib.hid hB1
  clear hB1
  by_cases hn : 1048576 < n0
  · go_enter Tryz.func4, Tryz.ntmps4
    go_wp2_with fail
    go_ret
    exact ⟨rfl, Below.refl _ _⟩
  have e1 : decide (1048576 < (n0 : Int)) = false := decide_eq_false (by omega)
  by_cases hn1 : 1048576 < n1
  · have e2 : decide (1048576 < (n1 : Int)) = true := decide_eq_true (by omega)
    go_enter Tryz.func4, Tryz.ntmps4
    go_wp2_with fail
    go_ret
    exact ⟨rfl, Below.refl _ _⟩
  have e2 : decide (1048576 < (n1 : Int)) = false := decide_eq_false (by omega)
  have HD := Lib.hid (drawLiveAfter_any n0 c0 A0 W hB)
  clear hB
  go_enter Tryz.func4, Tryz.ntmps4
  go_wp2_with fail
  refine HD.out.mono ?_
  rintro E w1 ⟨ts, s, At, As, ct, cs, a, rfl, hr1, ht1, hs1, hq, hb1⟩
  have h1s := hb1.size
  obtain ⟨n, hn⟩ : ∃ n, ts.length = n := ⟨_, rfl⟩
  obtain ⟨m, hm⟩ : ∃ m, s.len = m := ⟨_, rfl⟩
  rw [hn, hm]
  have hn9 : n ≤ 1000 := by omega
  have HN := Lib.hid hn
  have HM := Lib.hid hm
  have HSZ := Lib.hid hs1
  have hba := (Below.refl w1.heap.size w1).alloc (Nat.le_refl _) (.cells #[.slice At n ct, .slice As m cs] 26)
  have h2n := heap_alloc_new w1 (.cells #[.slice At n ct, .slice As m cs] 26)
  have h2z : w1.heap.size + 1 ≤ (w1.alloc (.cells #[.slice At n ct, .slice As m cs] 26)).heap.size := Nat.le_of_eq (by simp)
  obtain ⟨w2, hw2⟩ : ∃ w2, w1.alloc (.cells #[.slice At n ct, .slice As m cs] 26) = w2 := ⟨_, rfl⟩
  have T2 := Lib.hid (hr1.1.below hba (Nat.le_trans (Nat.le_refl _) hba.size))
  have R2 := Lib.hid (hr1.2.below hba (Nat.le_trans (Nat.le_refl _) hba.size))
  have B2 := Lib.hid (hb1.trans (hba.mono h1s))
  rw [hw2] at T2 R2 B2 h2n h2z
  have P2 := Lib.hid h2n
  clear hn hm hba hr1 ht1 hs1 hb1 h2n HD
  obtain ⟨PB, hPB⟩ : ∃ PB, w1.heap.size = PB := ⟨_, rfl⟩
  rw [hPB] at P2 h2z h1s
  have hPW : W.heap.size ≤ PB := h1s
  have hP2 : PB < w2.heap.size := h2z
  have HC := flowLive.implLiveAfter_any ts s At As ct cs a w2 T2.out R2.out (tab_below hTab hg B2.out) (by have := B2.out.size; omega)
  rw [HN.out, HM.out] at HC
  replace HC := Lib.hid HC
  have p0 : w2.cell? ⟨PB, 0, none⟩ = some (.slice At n ct) := (cell_of_block P2.out 0).trans rfl
  have p1 : w2.cell? ⟨PB, 1, none⟩ = some (.slice As m cs) := (cell_of_block P2.out 1).trans rfl
  go_upto_region 4 with (fail)
  clear hw2 hPB
  go_wp2_with fail
  refine HC.out.mono ?_
  rintro E w3 ⟨v3, l3, rfl, hrow3, hans3, hb3⟩
  obtain ⟨q3, hl3⟩ : ∃ q, l3.length = q := ⟨_, rfl⟩
  obtain ⟨A3, c3, hv3, hle3, hmx3⟩ := rowI_formN hrow3 hl3
  have hq3 : q3 ≤ 64 := by rw [← hl3]; exact hans3.length
  have HL3 := Lib.hid hl3
  have HA3 := Lib.hid hans3
  clear hl3 hans3
  subst hv3
  unfold maxLen at hmx3
  have G3 := Lib.hid hrow3.intsV
  have hz3 := hb3.size
  have T3 := Lib.hid (T2.out.below hb3 hz3)
  have R3 := Lib.hid (R2.out.below hb3 hz3)
  have P3 := Lib.hid ((hb3.block PB (by omega)).trans P2.out)
  have B3 := Lib.hid (B2.out.trans (hb3.mono (by omega)))
  have hP3 : PB < w3.heap.size := by omega
  clear hrow3 hb3 HC p0 p1
  have HC := specLiveAfter_any ts s At As ct cs a w3 (by have := HSZ.out; omega) T3.out R3.out
  rw [HN.out, HM.out] at HC
  replace HC := Lib.hid HC
  have p0 : w3.cell? ⟨PB, 0, none⟩ = some (.slice At n ct) := (cell_of_block P3.out 0).trans rfl
  have p1 : w3.cell? ⟨PB, 1, none⟩ = some (.slice As m cs) := (cell_of_block P3.out 1).trans rfl
  go_wp2_with fail
  refine HC.out.mono ?_
  rintro E w4 ⟨v4, l4, rfl, hrow4, hans4, hb4⟩
  rw [hans4.unique HA3.out] at hrow4
  clear hans4
  obtain ⟨A4, c4, hv4, hle4, hmx4⟩ := rowI_formN hrow4 HL3.out
  subst hv4
  unfold maxLen at hmx4
  have G4 := Lib.hid hrow4.intsV
  have hz4 := hb4.size
  have T4 := Lib.hid (T3.out.below hb4 hz4)
  have R4 := Lib.hid (R3.out.below hb4 hz4)
  have P4 := Lib.hid ((hb4.block PB (by omega)).trans P3.out)
  have B4 := Lib.hid (B3.out.trans (hb4.mono (by omega)))
  have hP4 : PB < w4.heap.size := by omega
  have G3 := Lib.hid (G3.out.below hb4 hz4)
  clear hrow4 hb4 HC p0 p1
  have HBC := bcInts_any l3 l3 A3 A4 c3 c4 w4 G3.out G4.out
  rw [HL3.out, decide_eq_true rfl] at HBC
  replace HBC := Lib.hid HBC
  go_wp2_with fail
  refine HBC.out.mono ?_
  rintro E w5 ⟨rfl, hb5⟩
  have hz5 := hb5.size
  have T5 := Lib.hid (T4.out.below hb5 hz5)
  have R5 := Lib.hid (R4.out.below hb5 hz5)
  have P5 := Lib.hid ((hb5.block PB (by omega)).trans P4.out)
  have B5 := Lib.hid (B4.out.trans (hb5.mono (by omega)))
  have hP5 : PB < w5.heap.size := by omega
  have G3 := Lib.hid (G3.out.below hb5 hz5)
  clear hb5 HBC
  have HDR := Lib.hid (drawRunPath_any n1 c1 A1 w5 (HB1.out.below B5.out B5.out.size))
  go_wp2_with fail
  refine HDR.out.mono ?_
  rintro E w6 ⟨ts9, s9, At9, As9, ct9, cs9, xs, AX, cX, qX, rfl, -, -, -, hx, hx8, hb9⟩
  obtain ⟨n9, hn9'⟩ : ∃ n, ts9.length = n := ⟨_, rfl⟩
  obtain ⟨m9, hm9'⟩ : ∃ m, s9.len = m := ⟨_, rfl⟩
  obtain ⟨lx, hlx⟩ : ∃ l, xs.length = l := ⟨_, rfl⟩
  rw [hn9', hm9', hlx]
  have HLX := Lib.hid hlx
  have GX := Lib.hid hx
  have hz6 := hb9.size
  have T6 := Lib.hid (T5.out.below hb9 hz6)
  have R6 := Lib.hid (R5.out.below hb9 hz6)
  have P6 := Lib.hid ((hb9.block PB (by omega)).trans P5.out)
  have B6 := Lib.hid (B5.out.trans (hb9.mono (by omega)))
  have hP6 : PB < w6.heap.size := by omega
  have G3 := Lib.hid (G3.out.below hb9 hz6)
  clear hn9' hm9' hlx hx hx8 hb9 HDR
  have hbZ := (Below.refl w6.heap.size w6).alloc (Nat.le_refl _) (.cells #[.slice At9 n9 ct9, .slice As9 m9 cs9] 26)
  obtain ⟨wz, hwz⟩ : ∃ wz, w6.alloc (.cells #[.slice At9 n9 ct9, .slice As9 m9 cs9] 26) = wz := ⟨_, rfl⟩
  rw [hwz] at hbZ
  have hzz := hbZ.size
  have Tz := Lib.hid (T6.out.below hbZ hzz)
  have Rz := Lib.hid (R6.out.below hbZ hzz)
  have Pz := Lib.hid ((hbZ.block PB (by omega)).trans P6.out)
  have Bz := Lib.hid (B6.out.trans (hbZ.mono (by omega)))
  have hPz : PB < wz.heap.size := by omega
  have G3 := Lib.hid (G3.out.below hbZ hzz)
  have GX := Lib.hid (GX.out.below hbZ hbZ.size)
  clear hbZ
  have HRS : Hid (∀ ys b, runI (validB ts s) s xs 60 = (ys, b) → ((ys ≠ [] → validB ts s = true) ∧ (∀ a : Int, ys[0]? = some a → a = 0) ∧ (∀ (i : Nat) (a : Int), ys[i]? = some a → ∃ k : Nat, a = (k : Int) ∧ k < (progPts s).length) ∧ (∀ (i a b : Nat), ys[i]? = some (a : Int) → ys[i + 1]? = some (b : Int) → ∃ d, (progPts s)[a]? = some d ∧ (b : Int) ∈ d.next))) := fun ys b h => run_steps h
  have hZl := runI_len_le (validB ts s) s xs 60
  obtain ⟨⟨ys, b⟩, hZ⟩ : ∃ Z, runI (validB ts s) s xs 60 = Z := ⟨_, rfl⟩
  rw [hZ] at hZl
  have RUN := Lib.hid (HRS.out ys b hZ)
  have HZ := Lib.hid hZ
  clear hZ HRS
  simp only at hZl
  obtain ⟨p, hp⟩ : ∃ p, ys.length = p := ⟨_, rfl⟩
  have HP := Lib.hid hp
  rw [hp] at hZl
  clear hp
  have HC := implRunPath_any ts s At As ct cs xs AX cX 60 wz Tz.out Rz.out GX.out
  rw [HN.out, HM.out, HLX.out, HZ.out] at HC
  replace HC := Lib.hid HC
  have p0 : wz.cell? ⟨PB, 0, none⟩ = some (.slice At n ct) := (cell_of_block Pz.out 0).trans rfl
  have p1 : wz.cell? ⟨PB, 1, none⟩ = some (.slice As m cs) := (cell_of_block Pz.out 1).trans rfl
  go_upto_region 8 with (fail)
  clear hwz
  go_wp2_with fail
  refine HC.out.mono ?_
  rintro E w7 ⟨vY, rfl, hrowY, hbY⟩
  obtain ⟨AY, cY, hvY, hleY, hmxY⟩ := rowI_form hrowY
  subst hvY
  unfold maxLen at hmxY
  try simp only at hrowY hleY hmxY
  rw [HP.out] at hleY ⊢
  have GY := Lib.hid hrowY.intsV
  try simp only at GY
  have hz7 := hbY.size
  have T7 := Lib.hid (Tz.out.below hbY hz7)
  have R7 := Lib.hid (Rz.out.below hbY hz7)
  have P7 := Lib.hid ((hbY.block PB (by omega)).trans Pz.out)
  have B7 := Lib.hid (Bz.out.trans (hbY.mono (by omega)))
  have hP7 : PB < w7.heap.size := by omega
  have G3 := Lib.hid (G3.out.below hbY hz7)
  clear hrowY hbY HC p0 p1 GX
  have p0 : w7.cell? ⟨PB, 0, none⟩ = some (.slice At n ct) := (cell_of_block P7.out 0).trans rfl
  go_wp2_with fail
  clear p0
  go_loopw [13] (fun i wr => ∃ v : Nat, v ≤ n ∧ i = .int .i64 v ∧ Below w7.heap.size w7 wr) (fun i _ => n - (intOf i).toNat)
  case atStart => exact ⟨0, Nat.zero_le _, rfl, Below.refl _ _⟩
  case round =>
    obtain ⟨v, hvn, rfl, hb⟩ := hrel
    by_cases hlt : v < n
    · have f1 : IntKind.i64.wrap ((v : Int) + 1) = (v : Int) + 1 := IntWalk.i64_in _ (by omega)
      obtain ⟨w8, rfl⟩ : ∃ z, z = wr := ⟨_, rfl⟩
      have hz8 := hb.size
      have T8 := Lib.hid (T7.out.below hb hz8)
      have R8 := Lib.hid (R7.out.below hb hz8)
      have P8 := Lib.hid ((hb.block PB (by omega)).trans P7.out)
      have B8 := Lib.hid (B7.out.trans (hb.mono (by omega)))
      have hP8 : PB < w8.heap.size := by omega
      have G3 := Lib.hid (G3.out.below hb hz8)
      have GY := Lib.hid (GY.out.below hb hb.size)
      have p0 : w8.cell? ⟨PB, 0, none⟩ = some (.slice At n ct) := (cell_of_block P8.out 0).trans rfl
      go_wp2_with fail
      clear p0
      go_loopw [14, 15] (fun ov i wr => ∃ (x : Nat) (op : Bool), x ≤ p ∧ ov = .bool op ∧ i = .int .i64 x ∧ Hid (OpenI ts s l3 ys v x op) ∧ Below w8.heap.size w8 wr) (fun _ i _ => p - (intOf i).toNat)
      case atStart => exact ⟨0, false, Nat.zero_le _, rfl, rfl, Lib.hid (fun h => by cases h), Below.refl _ _⟩
      case round =>
        obtain ⟨x, op, hx, rfl, rfl, hop, hb2⟩ := hrel
        have hzr := hb2.size
        have Tr := Lib.hid (T8.out.below hb2 hzr)
        have Rr := Lib.hid (R8.out.below hb2 hzr)
        have Pr := Lib.hid ((hb2.block PB (by omega)).trans P8.out)
        have Br := Lib.hid (B8.out.trans (hb2.mono (by omega)))
        have hPr : PB < wr.heap.size := by omega
        have G3 := Lib.hid (G3.out.below hb2 hzr)
        have GY := Lib.hid (GY.out.below hb2 hb2.size)
        by_cases hxp : x < p
        · have f2 : IntKind.i64.wrap ((x : Int) + 1) = (x : Int) + 1 := IntWalk.i64_in _ (by omega)
          obtain ⟨b0, y, rfl, -, hbb, hyx, hc⟩ := GY.out.elem (k := x) (by rw [HP.out]; exact hxp)
          obtain ⟨k, rfl, hkl⟩ := RUN.out.2.2.1 x y hyx
          have hv : validB ts s = true := RUN.out.1 (by intro e; rw [e] at hyx; simp at hyx)
          have HUSE : Hid (op = true → useOfI (validB ts s) ts s k v ≠ 0 → decide ((v : Int) ∈ l3) = true) := by
            rintro rfl hu
            exact decide_eq_true (open_use hyx hkl RUN.out.2.2.2 hv (by rw [HN.out]; exact hlt) hop.out hu)
          obtain ⟨e, he⟩ : ∃ e, setByI (validB ts s) s (k : Int) = e := ⟨_, rfl⟩
          have HNX := open_next (a := a) hyx hkl RUN.out.2.2.2 hv HA3.out hop.out
          rw [he] at HNX
          replace HNX := Lib.hid HNX
          have HE := Lib.hid he
          clear hyx hkl hv hop he
          obtain ⟨b1, hb1⟩ : ∃ b1, (e == (v : Int)) = b1 := ⟨_, rfl⟩
          obtain ⟨b2, hb2'⟩ : ∃ b2, ((k : Int) == a) = b2 := ⟨_, rfl⟩
          rw [hb1, hb2'] at HNX
          obtain ⟨u, hu⟩ : ∃ u, useOfI (validB ts s) ts s k v = u := ⟨_, rfl⟩
          rw [hu] at HUSE
          have HU := Lib.hid hu
          clear hu
          have HUE : Hid (∀ w', Below wr.heap.size wr w' → Calls Tryz.prog 14 #[.agg #[.slice At n ct, .slice As m cs], .int .i64 k, .int .i64 v] w' fun E w'' => E = .returned (.int .i64 u) ∧ Below w'.heap.size w' w'') := fun w' hb => by
            have h := implUseOf_any ts s At As ct cs k v w' (Tr.out.below hb hb.size) (Rr.out.below hb hb.size)
            rw [HN.out, HM.out, HU.out] at h
            exact h
          have HSE : Hid (∀ w', Below wr.heap.size wr w' → Calls Tryz.prog 15 #[.agg #[.slice At n ct, .slice As m cs], .int .i64 k] w' fun E w'' => E = .returned (.int .i64 e) ∧ Below w'.heap.size w' w'') := fun w' hb => by
            have h := implSetBy_any ts s At As ct cs k w' (Tr.out.below hb hb.size) (Rr.out.below hb hb.size) (tab_below hTab hg (Br.out.trans (hb.mono (by have := Br.out.size; omega)))) (by have := Br.out.size; have := hb.size; omega)
            rw [HN.out, HM.out, HE.out] at h
            exact h
          have HBI : Hid (∀ w', Below wr.heap.size wr w' → decide ((v : Int) ∈ l3) = true → Calls Tryz.prog 11 #[.slice A3 q3 c3, .int .i64 v] w' fun E w'' => E = .returned (.bool true) ∧ Below w'.heap.size w' w'') := fun w' hb hd => by
            have h := bcIn_any l3 v A3 c3 w' (G3.out.below hb hb.size)
            rw [HL3.out, hd] at h
            exact h
          have p0 : wr.cell? ⟨PB, 0, none⟩ = some (.slice At n ct) := (cell_of_block Pr.out 0).trans rfl
          have p1 : wr.cell? ⟨PB, 1, none⟩ = some (.slice As m cs) := (cell_of_block Pr.out 1).trans rfl
          have HS : Hid (∀ w', Below wr.heap.size wr w' → (Below wr.heap.size wr w' ∧ w'.cell? ⟨PB, 0, none⟩ = some (.slice At n ct) ∧ w'.cell? ⟨PB, 1, none⟩ = some (.slice As m cs) ∧ w'.cell? (b0.add x) = some (.int .i64 k))) := fun w' hb => ⟨hb, (hb.cell hPr).trans p0, (hb.cell hPr).trans p1, (hb.cell (by rw [block_add]; exact hbb)).trans hc⟩
          cases op
          · go_upto_region 16 with (fail)
            go_quiet (fail)
            generalize hwd : World.drewN wr _ = wd
            have hq : Below wr.heap.size wr wd := by rw [← hwd]; exact ⟨rfl, rfl, rfl, Nat.le_refl _, fun _ _ => rfl⟩
            clear hwd
            go_upto_region 18 with (fail)
            go_region_held3 (fun w' => Below wr.heap.size wr w' ∧ w'.cell? ⟨PB, 0, none⟩ = some (.slice At n ct) ∧ w'.cell? ⟨PB, 1, none⟩ = some (.slice As m cs) ∧ w'.cell? (b0.add x) = some (.int .i64 k))
              (first | with_reducible exact HS.out _ hq.drew | with_reducible exact HS.out _ hq | with_reducible exact HS.out _ ((And.left ‹Below wr.heap.size wr _ ∧ _›).trans (hbn.mono (And.left ‹Below wr.heap.size wr _ ∧ _›).size)))
              ((go_at_call 15; (with_reducible refine (HSE.out _ (And.left ‹Below wr.heap.size wr _ ∧ _›)).mono ?_); rintro E w'' ⟨rfl, hbn⟩))
            all_goals
              obtain ⟨hq2, -⟩ := ‹Below wr.heap.size wr _ ∧ _›
              have hB10 : Below w8.heap.size w8 _ := hb2.trans (hq2.mono hzr)
              have hc := (hq2.cell (p := b0.add x) (by rw [block_add]; exact hbb)).trans hc
              clear HS HSE HUE HBI
              cases b1 <;> cases b2
              all_goals
                go_wp2_with fail
                go_roundw
                case rel => exact ⟨x + 1, _, by omega, rfl, by go_num, HNX, hB10⟩
                case measure => simp [intOf]; omega
          · by_cases hu0 : u = 0
            · subst hu0
              go_upto_region 16 with (fail)
              first | (go_region_law ((go_simp; go_at_call 14; (first | (with_reducible refine (HUE.out _ (Below.refl wr.heap.size wr).drew).mono ?_) | (with_reducible refine (HUE.out _ (Below.refl wr.heap.size wr)).mono ?_)); rintro E w' ⟨rfl, hbn⟩))) | fail
              all_goals
                have hq : Below wr.heap.size wr w' := (Below.refl wr.heap.size wr).drew.trans (hbn.mono (Nat.le_refl _))
                go_upto_region 18 with (fail)
                go_region_held3 (fun w' => Below wr.heap.size wr w' ∧ w'.cell? ⟨PB, 0, none⟩ = some (.slice At n ct) ∧ w'.cell? ⟨PB, 1, none⟩ = some (.slice As m cs) ∧ w'.cell? (b0.add x) = some (.int .i64 k))
                  (first | with_reducible exact HS.out _ hq.drew | with_reducible exact HS.out _ hq | with_reducible exact HS.out _ ((And.left ‹Below wr.heap.size wr _ ∧ _›).trans (hbn.mono (And.left ‹Below wr.heap.size wr _ ∧ _›).size)))
                  ((go_at_call 15; (with_reducible refine (HSE.out _ (And.left ‹Below wr.heap.size wr _ ∧ _›)).mono ?_); rintro E w'' ⟨rfl, hbn⟩))
                all_goals
                  obtain ⟨hq2, -⟩ := ‹Below wr.heap.size wr _ ∧ _›
                  have hB10 : Below w8.heap.size w8 _ := hb2.trans (hq2.mono hzr)
                  have hc := (hq2.cell (p := b0.add x) (by rw [block_add]; exact hbb)).trans hc
                  clear HS HSE HUE HBI
                  cases b1 <;> cases b2
                  all_goals
                    go_wp2_with fail
                    go_roundw
                    case rel => exact ⟨x + 1, _, by omega, rfl, by go_num, HNX, hB10⟩
                    case measure => simp [intOf]; omega
            · have hu1 : (u != 0) = true := by simpa using hu0
              have HIN := HUSE.out rfl hu0
              go_upto_region 16 with (fail)
              go_region_held3 (fun w' => Below wr.heap.size wr w' ∧ w'.cell? ⟨PB, 0, none⟩ = some (.slice At n ct) ∧ w'.cell? ⟨PB, 1, none⟩ = some (.slice As m cs) ∧ w'.cell? (b0.add x) = some (.int .i64 k))
                (first | with_reducible exact HS.out _ ((Below.refl wr.heap.size wr).drew) | with_reducible exact HS.out _ (Below.refl wr.heap.size wr) | with_reducible exact HS.out _ ((And.left ‹Below wr.heap.size wr _ ∧ _›).trans (hbn.mono (And.left ‹Below wr.heap.size wr _ ∧ _›).size)))
                (first
                  | (go_at_call 14; (with_reducible refine (HUE.out _ (And.left ‹Below wr.heap.size wr _ ∧ _›)).mono ?_); rintro E w' ⟨rfl, hbn⟩)
                  | (go_at_call 11; (with_reducible refine (HBI.out _ (And.left ‹Below wr.heap.size wr _ ∧ _›) HIN).mono ?_); rintro E w' ⟨rfl, hbn⟩))
              all_goals
                obtain ⟨hq, -⟩ := ‹Below wr.heap.size wr _ ∧ _›
                clear HIN
                go_upto_region 18 with (fail)
                go_region_held3 (fun w' => Below wr.heap.size wr w' ∧ w'.cell? ⟨PB, 0, none⟩ = some (.slice At n ct) ∧ w'.cell? ⟨PB, 1, none⟩ = some (.slice As m cs) ∧ w'.cell? (b0.add x) = some (.int .i64 k))
                  (first | with_reducible exact HS.out _ hq.drew | with_reducible exact HS.out _ hq | with_reducible exact HS.out _ ((And.left ‹Below wr.heap.size wr _ ∧ _›).trans (hbn.mono (And.left ‹Below wr.heap.size wr _ ∧ _›).size)))
                  ((go_at_call 15; (with_reducible refine (HSE.out _ (And.left ‹Below wr.heap.size wr _ ∧ _›)).mono ?_); rintro E w'' ⟨rfl, hbn⟩))
                all_goals
                  obtain ⟨hq2, -⟩ := ‹Below wr.heap.size wr _ ∧ _›
                  have hB10 : Below w8.heap.size w8 _ := hb2.trans (hq2.mono hzr)
                  have hc := (hq2.cell (p := b0.add x) (by rw [block_add]; exact hbb)).trans hc
                  clear HS HSE HUE HBI
                  cases b1 <;> cases b2
                  all_goals
                    go_wp2_with fail
                    go_roundw
                    case rel => exact ⟨x + 1, _, by omega, rfl, by go_num, HNX, hB10⟩
                    case measure => simp [intOf]; omega
        · have hxe : x = p := by omega
          have hxn' : decide ((x : Int) < (p : Int)) = false := decide_eq_false (by omega)
          have hB9 : Below w7.heap.size w7 wr := hb.trans (hb2.mono (by omega))
          go_wp2_with fail
          go_roundw
          case rel => exact ⟨v + 1, by omega, by go_num, hB9⟩
          case measure => simp [intOf]; omega
    · have hk' : v = n := by omega
      have hkn : decide ((v : Int) < (n : Int)) = false := decide_eq_false (by omega)
      have p0 : wr.cell? ⟨PB, 0, none⟩ = some (.slice At n ct) := (cell_of_block ((hb.block PB (by omega)).trans P7.out) 0).trans rfl
      have B9 := Lib.hid (B7.out.trans (hb.mono (by have := B7.out.size; omega)))
      go_wp2_with fail
      go_ret
      exact ⟨rfl, B9.out⟩

theorem cellsByte : Tryz.prog.cellsOf 5 = 1 := by kernel_rfl

theorem read_bytes {H : Type} {enc : TypeId × Value → H} {W : World} {spare : Nat → Bool} {held : Bool} {fuel : Nat} {v : Value} {x : DataW H × List MemPlace} (h : DataW.trod enc Tryz.prog W 0 spare held fuel 22 [v] = some x) :
    ∃ (n : Nat) (A : Option Addr) (c : Nat), v = .slice A n c ∧ ByteV W W.heap.size n A c := by
  rcases DataW.trod_slice Tryz.underlying22 h with ⟨hcs, _⟩ | ⟨a, len, cap, elems, rest, n, _, hcs, _, _, hl, hm, hlen, hel, _⟩
  · injection hcs with hcs _
    exact ⟨0, none, 0, hcs, by simp, by simp [maxLen], fun h => absurd h (by simp)⟩
  · injection hcs with hcs _
    have hex : ∀ i, i < len → ∃ z : Int, W.cell? (a.add i) = some (.int .u8 z) ∧ 0 ≤ z ∧ z ≤ 255 := by
      intro i hi
      have h1 := hel i hi
      rw [cellsByte, Nat.mul_one, List.getElem?_eq_getElem (by omega)] at h1
      obtain ⟨cs', hc, ht⟩ := Option.bind_eq_some_iff.1 h1
      obtain ⟨_, _, hat⟩ := World.cells?_some hc
      obtain ⟨z, rfl, _, hwf⟩ := DataW.trod_int Tryz.underlying5 ht
      have hz : 0 ≤ z ∧ z ≤ 255 := by simpa [Lit.wf, IntKind.min, IntKind.max, IntKind.signed, IntKind.bits] using hwf
      exact ⟨z, by simpa [Addr.add] using hat 0 (by omega), hz.1, hz.2⟩
    refine ⟨len, some a, cap, hcs, hl, hm, fun h0 => ⟨a, rfl, ?_, hex⟩⟩
    obtain ⟨z, hz, _⟩ := hex 0 h0
    have := World.block_lt_of_cell? W _ hz
    rwa [block_add] at this

theorem own : ownKnob Tryz.prog.godebug = none := by kernel_rfl
theorem laidOut : laidOutB Tryz.prog = true := by kernel_rfl

set_option maxRecDepth 100000 in
theorem lifted (os : Os) (started : os.Started) (H : Type) (enc : TypeId × Value → H) :
    ReturnsInHanded {} Tryz.checked os 4 .any (fun w args => (Rows.fnLiveAfterSpec.pre enc Tryz.prog Tryz.f4 [] false w args ∧ laidMetH Tryz.prog listed w) ∧ sizedMet enc Tryz.prog Tryz.f4 (OpenSpec.ofChange Rows.fnLiveAfterSpec) false w args)
      (Rows.fnLiveAfterSpec.post enc Tryz.prog Tryz.f4 false true false false) := by
  refine returnsInHanded_of_change_and (C := Tryz.checked) (X := fun w _ => laidMetH Tryz.prog listed w) (fun _ _ _ hh h => h.of_heap hh) own started (by kernel_rfl) Tryz.func4
    (ChangeSpec.witness_shaped (enc := enc) (C := Tryz.checked) (os := os) (X := fun w _ => laidMetH Tryz.prog listed w) false (World.doorLaid Tryz.prog 400 os) #[.slice none 0 0, .slice none 0 0] 8 rfl (World.shaped_of_RefB (by kernel_rfl) (by kernel_rfl)) (by kernel_rfl) (by kernel_rfl) (by kernel_rfl) (door_met os _)) ?_
  intro W base args ds gs before hval0 hW _ _ hL _
  have hval : ∀ (j : Nat) t v, Tryz.f4.params[j]? = some t → args[j]? = some v → Value.okWide Tryz.prog W .any base t v := hval0
  have hW' := hW
  obtain ⟨p, q, hA0, hV, rfl, hfz, hnd⟩ := hW
  have hA : DataW.TrodAll enc Tryz.prog W 0 (fun _ => true) true Tryz.f4.params.toList args.toList ds p := hA0
  rw [Tryz.params4] at hA hval
  obtain ⟨v0, vs0, d0, ds0, p0, q0, hargs, rfl, rfl, h0, r0⟩ := trodAll_cons hA
  obtain ⟨v1, vs1, d1, ds1, p1, q1, rfl, rfl, rfl, h1, r1⟩ := trodAll_cons r0
  obtain ⟨rfl, rfl, rfl⟩ := trodAll_nil r1
  obtain rfl : args = #[v0, v1] := by cases args; simp_all
  obtain ⟨rfl, rfl⟩ := trodVars_none hV
  have k0 := h0
  have lt0 : ∀ x ∈ p0, x.block < W.heap.size := by obtain ⟨m, hm⟩ := k0; exact DataW.trod_lt m _ _ _ hm
  obtain ⟨a0, len0, cap0, rfl⟩ := okWide_slice Tryz.underlying22 (hval 0 22 v0 rfl rfl)
  obtain ⟨fu0, hf0⟩ := h0
  obtain ⟨nb0, At0, ct0, hv0, hT0⟩ := read_bytes hf0
  injection hv0 with hv0 hv0' hv0''
  subst hv0 hv0' hv0''
  have k1 := h1
  have lt1 : ∀ x ∈ p1, x.block < W.heap.size := by obtain ⟨m, hm⟩ := k1; exact DataW.trod_lt m _ _ _ hm
  obtain ⟨a1, len1, cap1, rfl⟩ := okWide_slice Tryz.underlying22 (hval 1 22 v1 rfl rfl)
  obtain ⟨fu1, hf1⟩ := h1
  obtain ⟨nb1, At1, ct1, hv1, hT1⟩ := read_bytes hf1
  injection hv1 with hv1 hv1' hv1''
  subst hv1 hv1' hv1''
  obtain ⟨hTab, hTabLt⟩ := tab_of_laid hL
  clear hA0 hval0
  simp only [List.append_nil] at hW'
  refine (walk _ _ _ _ _ _ W hT0 hT1 hTab hTabLt).mono fun e W' ⟨he, bel⟩ => ?_
  subst he
  exact ⟨_, rfl, _, _, _, [], _, [], hW', trodAll_mk1 (shut_bool Tryz.underlying4 _), (trodAll_cons_mk (Below.trod laidOut (by kernel_rfl) (of_decide_eq_true (by kernel_rfl)) k0 bel lt0) (trodAll_cons_mk (Below.trod laidOut (by kernel_rfl) (of_decide_eq_true (by kernel_rfl)) k1 bel lt1) trodAll_mk0)), rfl, bel.frame _, fun h => by cases h⟩

theorem over : Rows.fnLiveAfterRow.holds Tryz.pinned (OpenSpec.ofChange Rows.fnLiveAfterSpec) :=
  OpenClaim.holds_of_wide 4 Tryz.f4 rfl rfl rfl rfl rfl rfl rfl ⟨rfl, rfl, rfl, rfl, rfl⟩ rfl rfl rfl rfl rfl (by kernel_rfl) Tryz.func4 (by kernel_rfl)
    (of_decide_eq_true (by kernel_rfl)) (by unfold Func.isWrapper; first | (rw [if_pos (by decide +kernel)]; kernel_rfl) | (rw [if_neg (by decide +kernel)]; exact ⟨rfl, rfl⟩))
    (fun os started H enc _ => lifted os started H enc)

set_option maxRecDepth 100000 in
theorem proved : Rows.FnLiveAfterCardSaid :=
  Claim7.holds_tied_plain_at .later [] [.data] true (true, "385fa4c2d0f729267aafa0182a9fadf578cf2c37f381376e54bc9b79c8758c79") false
    over (fun _ h => by cases h) (by kernel_rfl) (fun _ h => by cases h) fnLiveAfter_row_tie rfl ⟨rfl, rfl⟩ (by kernel_rfl) rfl
    (fun f fn hf hfn => by
      obtain rfl : f = 4 := Option.some.inj ((show Tryz.prog.funcNamed "loop.example/borrowcheck/laws.FnLiveAfter" = some 4 by kernel_rfl).symm.trans hf) |>.symm
      obtain rfl : fn = Tryz.f4 := (Option.some.inj (Tryz.func4.symm.trans hfn)).symm
      exact ⟨by kernel_rfl, fun j t ht => by
        rw [Tryz.params4] at ht
        have hm : t ∈ [22, 22] := by simpa using Array.mem_of_getElem? ht
        have hall : ([22, 22].all fun u => !Tryz.prog.wantsStandIn u) = true := by kernel_rfl
        exact (show Tryz.prog.wantsStandIn t = false by simpa using List.all_eq_true.1 hall t hm)⟩)
    (by kernel_rfl)
#print axioms proved
end Go.Proofs.YtcdidoapbbbkdaaGreatDoor.fnLiveAfter
