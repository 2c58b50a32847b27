/-
  The program's search of points by ways that do not pass a point.
-/
import Derived.Test.YtfkhgdbnjcdlmaaGreatDoorZStmtY
import Derived.Test.YtfkhgdbnjcdlmaaGreatDoorZPathX
import Derived.Test.YtfkhgdbnjcdlmaaGreatDoorZMem
import Derived.Test.YtfkhgdbnjcdlmaaGreatDoorZDom
import Derived.Test.YtfkhgdbnjcdlmaaGreatDoorZBase
import Derived.Deep.RegionWith
namespace Go.Proofs.YtfkhgdbnjcdlmaaGreatDoor
open Go.RowKit Go.Deep
set_option linter.unusedVariables false

theorem mem_cut {q : Nat} {ns : List Nd} {ah bk : Nat → Nat} (hD : PtsOk q ns) (hle : ns.length ≤ 61) (hS : Sets2 (Edge ns ns.length 0) ah bk) (b k x : Nat) : x ∈ bitsOf (setAt (clip ah) b 0 k) ↔ x ∈ cutN (nextN ns) b k := by
  rw [mem_cutN]
  unfold setAt
  by_cases h : k = b
  · rw [if_pos h, bitsOf_zero]
    simp [h]
  · rw [if_neg h, clip_ah hD hle hS k x]
    simp [h]

/-- The set that is answered. -/
theorem way_bits {nx : Nat → List Nat} {a b y z : Nat} (ha : a < 64) (hy : ∀ x, (x < 64 ∧ y.testBit x = true) ↔ Reach (cutN nx b) a x) (hz : ∀ k, k < 64 → z.testBit k = ((y ||| 2 ^ a).testBit k && !(0 ||| 2 ^ b).testBit k)) (x : Nat) (hx : x < 64) : z.testBit x = true ↔ WayW nx b a x := by
  rw [hz x hx, Nat.testBit_or, Nat.testBit_or, Nat.testBit_two_pow, Nat.testBit_two_pow]
  have := hy x
  unfold WayW
  rw [← this]
  simp only [Nat.zero_testBit, Bool.false_or, Bool.and_eq_true, Bool.or_eq_true, decide_eq_true_eq, Bool.not_eq_true', decide_eq_false_iff_not]
  constructor
  · rintro ⟨h1 | h1, h2⟩
    · exact ⟨fun e => h2 e.symm, .inr ⟨hx, h1⟩⟩
    · exact ⟨fun e => h2 e.symm, .inl h1.symm⟩
  · rintro ⟨h2, h1 | h1⟩
    · exact ⟨.inr h1.symm, fun e => h2 e.symm⟩
    · exact ⟨.inl h1.2, fun e => h2 e.symm⟩

set_option maxRecDepth 100000 in
set_option maxHeartbeats 4000000 in
theorem reachedWithout_any (C q a b : Nat) (ns : List Nd) (w : World) (hD : PtsOk q ns) (hq0 : ns.length ≤ 61) (ha : a < ns.length) (hbl : b < ns.length) (hG : Gr C w ns)
    (hTab : TabAt 0 Lib.deBruijn64tab w) (hg : 0 < w.heap.size) :
    Calls Tryz.prog 35 #[.pointer (some ⟨C, 0, none⟩), .int .i64 a, .int .i64 b] w fun E w' => ∃ y : Nat, E = .returned (.int .u64 y) ∧ y < 18446744073709551616 ∧ (∀ x, x < 64 → (y.testBit x = true ↔ WayW (nextN ns) b a x)) ∧ Below w.heap.size w w' := by
  have hst := steps_any C q ns w hD hG
  have HD := Lib.hid hD
  have HT := Lib.hid hTab
  clear hD hTab hG
  go_enter Tryz.func35, Tryz.ntmps35
  go_wp2_with fail
  refine hst.mono ?_
  rintro E w3 ⟨xs, ys, ah, bk, rfl, hx, hy, hs2, hb3⟩
  have hzC := hb3.size
  obtain ⟨W5, W6, s1, s2, hb6, h6a, h6b, hz6⟩ := lay_two w3 xs ys ah bk hx hy
  unfold noSets at s1
  have hxz := hx.1
  have hyz := hy.1
  have HX := Lib.hid hx
  have HY := Lib.hid hy
  have HS2 := Lib.hid hs2
  have hbD : Below w.heap.size w W6 := hb3.trans (hb6.mono hzC)
  have hc6 : W6.cell? ⟨w3.heap.size, b, none⟩ = some (.int .u64 (ah b : Int)) := by
    rw [cell_of_block h6a]
    exact HX.out.2 b (by omega)
  have hf6 : W6.frozen? ⟨w3.heap.size, b, none⟩ = false := frozen_of_row _ _ _ _ _ h6a
  have hSA : SetsAt (W6.setCell ⟨w3.heap.size, b, none⟩ (.int .u64 0)) w3.heap.size (setAt (clip ah) b 0) := by
    intro k hk
    have h7 := heap_setCell_same W6 w3.heap.size b xs _ (Value.int .u64 0) h6a
    rw [cell_of_block h7, Array.getElem?_setIfInBounds]
    unfold setAt
    by_cases hkb : b = k
    · subst hkb
      rw [if_pos rfl, if_pos (by omega), if_pos rfl]
      rfl
    · rw [if_neg hkb, if_neg (fun e => hkb e.symm)]
      unfold clip
      rw [if_pos hk]
      exact HX.out.2 k hk
  have hbS : Below w.heap.size w (W6.setCell ⟨w3.heap.size, b, none⟩ (.int .u64 0)) := ⟨hbD.os, hbD.tape, hbD.output, by have := hbD.size; simpa [World.setCell] using this, fun k hk => (heap_setCell_other _ _ _ _ (by simp; omega)).trans (hbD.block k hk)⟩
  have hzS : (W6.setCell ⟨w3.heap.size, b, none⟩ (.int .u64 0)).heap.size = w3.heap.size + 2 := by simp [World.setCell, hz6]
  have hlt : ∀ k, setAt (clip ah) b 0 k < 18446744073709551616 := by
    intro k
    unfold setAt
    split
    · decide
    · exact clip_lt HS2.out.ahLt k
  have hpf := pathsFrom_any w3.heap.size a (setAt (clip ah) b 0) hlt (fun k x hx => ((mem_nextN HD.out hq0 k x).mp ((mem_cutN.mp ((mem_cut HD.out hq0 HS2.out b k x).mp hx)).2)).lt HD.out hq0 |>.2) (by omega) _ (by omega) hSA (tab_below HT.out hg hbS) (by omega)
  have HPF := Lib.hid hpf
  have HBS := Lib.hid hbS
  have HZS := Lib.hid hzS
  clear hst hb3 hx hy hs2 hb6 h6a h6b hSA hpf hbS hzS hlt
  go_wp2_with fail
  refine HPF.out.mono ?_
  rintro E w7 ⟨y, rfl, hyl, hyr, hb7⟩
  have hbE : Below w.heap.size w w7 := HBS.out.trans (hb7.mono (by have := HZS.out; omega))
  have hz7 := hbE.size
  have h64 : y ||| 2 ^ a < 18446744073709551616 := by
    have h2 : 2 ^ a < 2 ^ 64 := Nat.pow_lt_pow_right (by decide) (by omega)
    have : y ||| 2 ^ a < 2 ^ 64 := Nat.or_lt_two_pow (by omega) h2
    omega
  have h65 : 0 ||| 2 ^ b < 18446744073709551616 := by
    have h2 : 2 ^ b < 2 ^ 64 := Nat.pow_lt_pow_right (by decide) (by omega)
    have : 0 ||| 2 ^ b < 2 ^ 64 := Nat.or_lt_two_pow (by decide) h2
    omega
  have hw1 := with_any y a hyl (by omega) w7
  obtain ⟨z, hz, hzl, hzb⟩ := bits_andNot_u64 (y ||| 2 ^ a) (0 ||| 2 ^ b) h64 h65
  have hfin : Hid (∀ x, x < 64 → (z.testBit x = true ↔ WayW (nextN ns) b a x)) := fun x hx => way_bits (by omega) (fun x => (hyr x).trans ⟨fun h => h.congr (fun k b' => (mem_cut HD.out hq0 HS2.out b k b').mp), fun h => h.congr (fun k b' => (mem_cut HD.out hq0 HS2.out b k b').mpr)⟩) hzb x hx
  clear hyr hb7 s1 s2 h64 h65 hzb
  go_wp2_with fail
  refine hw1.mono ?_
  rintro E w8 ⟨rfl, hb8⟩
  have hbF : Below w.heap.size w w8 := hbE.trans (hb8.mono hz7)
  have hz8 := hbF.size
  have hw2 := with_any 0 b (by decide) (by omega) w8
  clear hw1 hb8
  go_wp2_with fail
  refine hw2.mono ?_
  rintro E w9 ⟨rfl, hb9⟩
  have hbG : Below w.heap.size w w9 := hbF.trans (hb9.mono hz8)
  clear hw2 hb9
  go_wp2_with fail
  go_ret
  have hz2 : bits BinOp.andNot IntKind.u64 ((y ||| 2 ^ a : Nat) : Int) ((2 : Int) ^ b) = (z : Int) := by
    rw [← hz]
    simp
  refine ⟨z, ?_, hzl, hfin.out, hbG⟩
  show Ending.returned (Value.int IntKind.u64 (bits BinOp.andNot IntKind.u64 ((y ||| 2 ^ a : Nat) : Int) ((2 : Int) ^ b))) = _
  rw [hz2]

end Go.Proofs.YtfkhgdbnjcdlmaaGreatDoor
