/-
  The way up the tree of dominators.
-/
import Derived.Test.YtfkhgdbnjcdlmaaGreatDoorZDomI
namespace Go.Proofs.YtfkhgdbnjcdlmaaGreatDoor
open Go.RowKit Go.Deep
set_option linter.unusedVariables false

/-- What is found on the way up from b to a. -/
structure UpAt (nx : Nat → List Nat) (b a y : Nat) : Prop where
  lt : y < 18446744073709551616
  has : y.testBit a = true
  all : ∀ x, x < 64 → ((y.testBit x = true ∨ DomP nx x a) ↔ DomP nx x b)

theorem or_lt64 {y a : Nat} (hy : y < 18446744073709551616) (ha : a < 64) : y ||| 2 ^ a < 18446744073709551616 := by
  have h2 : 2 ^ a < 2 ^ 64 := Nat.pow_lt_pow_right (by decide) ha
  have : y ||| 2 ^ a < 2 ^ 64 := Nat.or_lt_two_pow (by omega) h2
  omega

theorem testBit_with {y a x : Nat} : (y ||| 2 ^ a).testBit x = true ↔ y.testBit x = true ∨ a = x := by
  rw [Nat.testBit_or, Nat.testBit_two_pow, Bool.or_eq_true, decide_eq_true_eq]

theorem UpAt.start {nx : Nat → List Nat} {b : Nat} (hb : b < 64) : UpAt nx b b (0 ||| 2 ^ b) := by
  refine ⟨or_lt64 (by decide) hb, testBit_with.mpr (.inr rfl), fun x hx => ?_⟩
  rw [testBit_with]
  constructor
  · rintro ((h | rfl) | h)
    · simp at h
    · exact DomP.self _ _
    · exact h
  · exact .inr

theorem UpAt.step {nx : Nat → List Nat} {n b a y : Nat} (hA : Asc nx n) (ha : a < n) (hn : n ≤ 61) (h0 : a ≠ 0) (h : UpAt nx b a y) : UpAt nx b (parN nx n a) (y ||| 2 ^ parN nx n a) := by
  have hp := parN_is (nx := nx) ha h0
  refine ⟨or_lt64 h.lt (by omega), testBit_with.mpr (.inr rfl), fun x hx => ?_⟩
  rw [← h.all x hx, testBit_with]
  by_cases e : x = a
  · subst e
    simp [h.has]
  · rw [parN_dom hA ha h0 e]
    constructor
    · rintro ((h1 | rfl) | h1)
      · exact .inl h1
      · exact .inr (DomP.self _ _)
      · exact .inr h1
    · rintro (h1 | h1)
      · exact .inl (.inl h1)
      · exact .inr h1

theorem UpAt.last {nx : Nat → List Nat} {b y : Nat} (h : UpAt nx b 0 y) (x : Nat) (hx : x < 64) : y.testBit x = true ↔ DomP nx x b := by
  rw [← h.all x hx]
  constructor
  · exact .inl
  · rintro (h1 | h1)
    · exact h1
    · rw [h1.of_zero]
      exact h.has

set_option maxRecDepth 100000 in
set_option maxHeartbeats 1000000 in
theorem upFrom_any (K n b : Nat) (nx : Nat → List Nat) (w : World) (hn : n ≤ 61) (hb : b < n) (hA : Asc nx n) (hT : TreeAt w K n (parN nx n)) :
    Calls Tryz.prog 47 #[.pointer (some ⟨K, 0, none⟩), .int .i64 b] w fun E w' => ∃ y : Nat, E = .returned (.int .u64 y) ∧ y < 18446744073709551616 ∧ (∀ x, x < 64 → (y.testBit x = true ↔ DomP nx x b)) ∧ Below w.heap.size w w' := by
  have hw0 := with_any 0 b (by decide) (by omega) w
  have hst := Lib.hid (UpAt.start (nx := nx) (b := b) (by omega))
  have HT := Lib.hid hT
  have HA := Lib.hid hA
  clear hT hA
  go_enter Tryz.func47, Tryz.ntmps47
  go_wp2_with fail
  refine hw0.mono ?_
  rintro E w1 ⟨rfl, hb1⟩
  clear hw0
  go_wp2_with fail
  go_loopw [1, 5] (fun i f wr => ∃ a y : Nat, i = .int .i64 a ∧ f = .int .u64 y ∧ a < n ∧ Hid (UpAt nx b a y) ∧ Below w.heap.size w wr) (fun i _ _ => (intOf i).toNat)
  case atStart => exact ⟨b, 0 ||| 2 ^ b, rfl, by simp, hb, hst, hb1⟩
  case round =>
    clear hst hb1
    obtain ⟨a, y, rfl, rfl, han, hU, hbr⟩ := hrel
    have hbz := hbr.size
    have hyl := hU.out.lt
    by_cases h0 : a = 0
    · subst h0
      have hd : ((0 : Int) != 0) = false := rfl
      go_wp2_with fail
      go_ret
      exact ⟨y, rfl, hU.out.lt, hU.out.last, hbr⟩
    · have hd : ((a : Int) != 0) = true := by simp; omega
      have hc := (HT.out.keep (hbr.block K HT.out.lt)).cell (i := a) han
      have hp := (parN_is (nx := nx) han h0).1
      have hs := Lib.hid (hU.out.step HA.out han hn h0)
      generalize parN nx n a = p at hc hp hs
      have hw1 := with_any y p hyl (by omega) wr
      go_wp2_with fail
      refine hw1.mono ?_
      rintro E w2 ⟨rfl, hb2⟩
      have hbA := hbr.trans (hb2.mono hbz)
      clear hw1 hb2
      go_wp2_with fail
      refine ⟨⟨p, y ||| 2 ^ p, rfl, rfl, by omega, hs, hbA⟩, ?_⟩
      simp only [intOf]
      omega

end Go.Proofs.YtfkhgdbnjcdlmaaGreatDoor
