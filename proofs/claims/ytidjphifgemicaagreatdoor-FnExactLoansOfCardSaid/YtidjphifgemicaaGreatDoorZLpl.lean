/-
  What is known of loans behind a point, by the program: what is placed.
-/
import Derived.Test.YtidjphifgemicaaGreatDoorZLnd
import Derived.Test.YtidjphifgemicaaGreatDoorZPer
import Derived.Test.YtidjphifgemicaaGreatDoorZLhas
import Derived.Test.YtidjphifgemicaaGreatDoorZBits
import Derived.Test.YtidjphifgemicaaGreatDoorZMem
import Derived.Test.YtidjphifgemicaaGreatDoorZMarks
import Derived.Deep.RegionHeld3
namespace Go.Proofs.YtidjphifgemicaaGreatDoor
open Go.RowKit Go.Deep
set_option linter.unusedVariables false

theorem lost_bit {ts : List Int} {ns : List Nd} {k : Nat} {d : Nd} (hd : ns[k]? = some d) (he : EfOk ts d (effD ts d)) {v : Nat} (hv : v < 64) : ((effD ts d).t ||| (effD ts d).s).testBit v = true ↔ lostN ts ns k v := by
  rw [Nat.testBit_or, Bool.or_eq_true, he.takes v hv, he.sets v hv]
  unfold lostN
  rw [usesN_at hd, setsN_at hd]

theorem sub_lt61 {x z : Nat} {p : Nat → Bool} (hx : x < 2305843009213693952) (hzl : z < 18446744073709551616) (h : ∀ k, k < 64 → z.testBit k = (x.testBit k && p k)) : z < 2305843009213693952 := by
  refine Nat.lt_pow_two_of_testBit (n := 61) z fun i hi => ?_
  by_cases h6 : i < 64
  · rw [h i h6, Nat.testBit_lt_two_pow (Nat.lt_of_lt_of_le hx (Nat.pow_le_pow_right (by decide) hi : 2 ^ 61 ≤ 2 ^ i))]
    rfl
  · exact Nat.testBit_lt_two_pow (Nat.lt_of_lt_of_le (by omega : z < 2 ^ 64) (Nat.pow_le_pow_right (by decide) (by omega)))

theorem big_bit {z l : Nat} (hz : z < 2305843009213693952) (h : z.testBit l = true) : l < 61 := by
  rcases Nat.lt_or_ge l 61 with h1 | h1
  · exact h1
  · rw [Nat.testBit_lt_two_pow (Nat.lt_of_lt_of_le hz (Nat.pow_le_pow_right (by decide) h1 : 2 ^ 61 ≤ 2 ^ l))] at h
    cases h

set_option maxRecDepth 100000 in
set_option maxHeartbeats 8000000 in
theorem placedBehind_any (ts : List Int) (ns : List Nd) (q C F hi : Nat) (A : Option Addr) (c : Nat) (ah bk : Nat → Nat) (L : Nat) (mb lv : Nat → Nat) (k : Nat) (x : Nat) (d : Nd) (w : World) (h : LndIn ts ns C F hi A c ah bk L ns.length mb lv w) (hD : PtsOk q ns) (hA : AllTyped ts ns) (hd : ns[k]? = some d) (hTab : TabAt 0 Lib.deBruijn64tab w) (hg : 0 < w.heap.size) (hx : x < 2305843009213693952) :
    Calls Tryz.prog 123 #[.pointer (some ⟨L, 0, none⟩), .int .i64 k, .int .u64 x] w fun E w' => ∃ z : Nat, E = .returned (.int .u64 (z : Int)) ∧ z < 2305843009213693952 ∧ (∀ l, z.testBit l = true ↔ (isLoan ns k = true ∧ l = k) ∨ (x.testBit l = true ∧ ∀ v, v < 6 → lostN ts ns k v → ¬ isFrom ns v l = true)) ∧ Below w.heap.size w w' := by
  have hkn := (List.getElem?_eq_some_iff.mp hd).1
  have hle := h.fl.gr.le
  have hk61 : k < 61 := by omega
  have he := effD_ok hA.1 (hA.2 k d hd)
  obtain ⟨e1, e2, e3, e4⟩ := h.fl.effCell hd
  have hF := h.flCell
  have hLl := h.ltW
  have hFl : F < w.heap.size := by have := h.lt; omega
  have ki0 : (0 : Int) ≤ (k : Int) := by omega
  have ki1 : (k : Int) < 61 := by omega
  have ht := he.tlt
  have hs := he.slt
  have hu64 : (effD ts d).t ||| (effD ts d).s < 64 := Nat.or_lt_two_pow (n := 6) ht hs
  have hor := bits_or_u64_nat (effD ts d).t (effD ts d).s (by omega) (by omega)
  have hlost := fun v (hv : v < 64) => lost_bit hd he hv
  have HW := Lib.hid h
  have HTAB := Lib.hid hTab
  have HLOST := Lib.hid hlost
  have HD := Lib.hid hD
  have HA := Lib.hid hA
  have HDK := Lib.hid hd
  clear h hTab hlost hD hA hd he
  generalize (effD ts d).t ||| (effD ts d).s = U at *
  generalize (effD ts d).r = er at *
  generalize (effD ts d).t = et at *
  generalize (effD ts d).c = ec at *
  generalize (effD ts d).s = es at *
  go_enter Tryz.func123, Tryz.ntmps123
  go_wp2_with (simp only [hor])
  refine (setList_any U (by omega) _ ?hT ?hG).mono ?_
  case hT => exact tab_below HTAB.out hg (by first | exact (Below.refl _ _).alloc (Nat.le_refl _) _ | exact Below.refl _ _)
  case hG => simp only [World.alloc, Array.size_push]; omega
  rintro E w1 ⟨v, rfl, hrow, hb1⟩
  have hbw : Below w.heap.size w w1 := ((Below.refl w.heap.size w).alloc (Nat.le_refl _) _).trans (hb1.mono (by simp))
  have hrow2 := hrow.mono (B' := w.heap.size) (by simp)
  obtain ⟨Ar, cr, hvs⟩ := hrow2.slice
  subst hvs
  obtain ⟨bl, hbl⟩ : ∃ bl, bl = bitsOf U := ⟨_, rfl⟩
  have hll : (intsOf U).length = bl.length := by rw [hbl]; simp [intsOf]
  have hlen64 := intsOf_length U
  have HROW : Hid (RowI w1 w.heap.size (.slice Ar bl.length cr) (intsOf U)) := by rw [← hll]; exact hrow2
  rw [hll] at hlen64
  have HBL := Lib.hid hbl
  have HLI : Hid (intsOf U = bl.map (fun (k : Nat) => (k : Int))) := by rw [hbl]; rfl
  rw [hll]
  clear hrow hrow2 hb1 hll hbl e1 e2 e3 e4 hF
  go_wp2_with fail
  go_loopw [8, 28] (fun p i wr => ∃ (j y : Nat), p = .int .u64 (y : Int) ∧ i = .int .i64 j ∧ j ≤ bl.length ∧ y < 2305843009213693952 ∧ Hid (∀ l, y.testBit l = true ↔ x.testBit l = true ∧ ∀ i v, i < j → bl[i]? = some v → ¬ isFrom ns v l = true) ∧ Hid (RowI wr w.heap.size (.slice Ar bl.length cr) (intsOf U)) ∧ Hid (Below w.heap.size w wr)) (fun _ i _ => bl.length - (intOf i).toNat)
  case atStart => exact ⟨0, x, rfl, rfl, Nat.zero_le _, hx, fun l => ⟨fun h => ⟨h, fun i v hi => absurd hi (Nat.not_lt_zero _)⟩, fun h => h.1⟩, HROW, hbw⟩
  case round =>
    clear HROW hbw
    obtain ⟨j, y, rfl, rfl, hj, hy, HY, HROW, HB⟩ := hrel
    by_cases hjl : j < bl.length
    · obtain ⟨b, hb⟩ : ∃ b, bl[j]? = some b := ⟨bl[j], List.getElem?_eq_getElem hjl⟩
      have hbm : b ∈ bitsOf U := by rw [← HBL.out]; exact List.mem_of_getElem? hb
      have hb6 : b < 6 := by
        have h9 := ((mem_bitsOf _ _).mp hbm).2
        rcases Nat.lt_or_ge b 6 with h8 | h8
        · exact h8
        · rw [Nat.testBit_lt_two_pow (Nat.lt_of_lt_of_le hu64 (Nat.pow_le_pow_right (by decide) h8 : 2 ^ 6 ≤ 2 ^ b))] at h9
          cases h9
      obtain ⟨b0, u, hb0, -, hbb, hxx, hc⟩ := (RowI.intsV HROW.out).elem (k := j) (by rw [HLI.out]; simpa using hjl)
      subst hb0
      have hub : u = (b : Int) := by
        rw [HLI.out, List.getElem?_map, hb] at hxx
        simpa using hxx.symm
      subst hub
      have hfc := (HW.out.keep HB.out).fromCell hb6
      have bi0 : (0 : Int) ≤ (b : Int) := by omega
      have bi1 : (b : Int) < 6 := by omega
      have ji0 : (0 : Int) ≤ (j : Int) := by omega
      have ji1 : (j : Int) < (bl.length : Int) := by omega
      have hf61 := bitsK_61 (isFrom ns b) hle
      obtain ⟨z, hz, hzl, hzb⟩ := bits_andNot_u64 y (bitsK (isFrom ns b) ns.length) (by omega) (by omega)
      have hz61 := sub_lt61 (p := fun k => !(bitsK (isFrom ns b) ns.length).testBit k) hy hzl hzb
      have HZ : Hid (∀ l, z.testBit l = true ↔ x.testBit l = true ∧ ∀ i v, i < j + 1 → bl[i]? = some v → ¬ isFrom ns v l = true) := by
        intro l
        by_cases hl : l < 61
        · have hbit := bitsK_bit (isFrom ns b) l ns.length
          have hfr : (bitsK (isFrom ns b) ns.length).testBit l = isFrom ns b l := by
            rw [hbit]
            by_cases hln : l < ns.length
            · rw [decide_eq_true hln, Bool.true_and]
            · rw [decide_eq_false hln, Bool.false_and]
              unfold isFrom
              rw [List.getElem?_eq_none (by omega)]
          rw [hzb l (by omega), hfr, Bool.and_eq_true, HY.out l, Bool.not_eq_true']
          constructor
          · rintro ⟨⟨h1, h2⟩, h3⟩
            refine ⟨h1, fun i v hi hv => ?_⟩
            by_cases hij : i = j
            · subst hij
              rw [hb] at hv
              injection hv with hv
              subst hv
              rw [h3]; simp
            · exact h2 i v (by omega) hv
          · rintro ⟨h1, h2⟩
            refine ⟨⟨h1, fun i v hi hv => h2 i v (by omega) hv⟩, ?_⟩
            have := h2 j b (by omega) hb
            simpa using this
        · constructor
          · intro h9
            exact absurd (big_bit hz61 h9) hl
          · rintro ⟨h9, _⟩
            exact absurd (big_bit hx h9) hl
      generalize bitsK (isFrom ns b) ns.length = fb at *
      clear hb hbm hxx hzb HY
      go_wp2_with (simp only [hz])
      refine ⟨⟨j + 1, z, rfl, by simp, by omega, hz61, HZ, HROW, HB⟩, ?_⟩
      simp only [intOf]
      omega
    · have hjn : j = bl.length := by omega
      have hmk := (HW.out.keep HB.out).madeCell
      have hm61 := bitsK_61 (isLoan ns) hle
      have hbit : (bitsK (isLoan ns) ns.length).testBit k = isLoan ns k := by rw [bitsK_bit, decide_eq_true hkn, Bool.true_and]
      have hall : ∀ l, y.testBit l = true ↔ x.testBit l = true ∧ ∀ v, v < 6 → lostN ts ns k v → ¬ isFrom ns v l = true := by
        intro l
        rw [HY.out l]
        refine and_congr Iff.rfl ⟨fun h9 v hv hl => ?_, fun h9 i v hi hv => ?_⟩
        · have hm : v ∈ bl := by
            rw [HBL.out, mem_bitsOf]
            exact ⟨by omega, (HLOST.out v (by omega)).mpr hl⟩
          obtain ⟨i, hi, him⟩ := List.mem_iff_getElem.mp hm
          exact h9 i v (by omega) (by rw [List.getElem?_eq_getElem hi, him])
        · have hm : v ∈ bitsOf U := by rw [← HBL.out]; exact List.mem_of_getElem? hv
          have hm2 := (mem_bitsOf _ _).mp hm
          have hv6 : v < 6 := by
            rcases Nat.lt_or_ge v 6 with h8 | h8
            · exact h8
            · rw [Nat.testBit_lt_two_pow (Nat.lt_of_lt_of_le hu64 (Nat.pow_le_pow_right (by decide) h8 : 2 ^ 6 ≤ 2 ^ v))] at hm2
              cases hm2.2
          exact h9 v hv6 ((HLOST.out v hm2.1).mp hm2.2)
      have HALL := Lib.hid hall
      have hhas := fun W => bitHas_any (bitsK (isLoan ns) ns.length) k (by omega) (by omega) W
      rw [hbit] at hhas
      generalize bitsK (isLoan ns) ns.length = mk at *
      have hwith := fun W => with_any y k (by omega) (by omega) W
      have jd : decide (j < bl.length) = false := decide_eq_false hjl
      clear hall HY HROW hbit hjn hjl hj
      cases hil : isLoan ns k
      · rw [hil] at hhas
        have HIL := Lib.hid hil
        clear hwith hil
        go_wp2_with fail
        refine (hhas _).mono ?_
        rintro E w3 ⟨rfl, rfl⟩
        go_wp2_with fail
        go_ret
        exact ⟨y, rfl, hy, fun l => by rw [HALL.out l, HIL.out]; simp, HB.out⟩
      · rw [hil] at hhas
        have HIL := Lib.hid hil
        clear hil
        go_wp2_with fail
        refine (hhas _).mono ?_
        rintro E w3 ⟨rfl, rfl⟩
        go_wp2_with fail
        refine (hwith _).mono ?_
        rintro E w4 ⟨rfl, hb4⟩
        have HB4 := Lib.hid (HB.out.trans (hb4.mono HB.out.size))
        go_wp2_with fail
        go_ret
        have hp2 : 2 ^ k < 2 ^ 61 := Nat.pow_lt_pow_right (by decide) hk61
        refine ⟨y ||| 2 ^ k, rfl, or_lt61 hy hp2, fun l => ?_, HB4.out⟩
        rw [Nat.testBit_or, Bool.or_eq_true, Nat.testBit_two_pow, HALL.out l, HIL.out, decide_eq_true_eq]
        constructor
        · rintro (h9 | h9)
          · exact .inr h9
          · exact .inl ⟨rfl, h9.symm⟩
        · rintro (h9 | h9)
          · exact .inr h9.2.symm
          · exact .inl h9

end Go.Proofs.YtidjphifgemicaaGreatDoor
