/-
  The letters of variables and the digits of numbers, in the program and in its model.
-/
import Derived.Test.YtcaklhempmlpgaaRows
import Derived.Test.YtcaklhempmlpgaaCopy0
import Derived.WalkKit
import Derived.WalkSpells
import Derived.Lib.Hide
namespace Go.Proofs.Ytcaklhempmlpgaa
open Go.RowKit Go.Deep
set_option linter.unusedVariables false

/-- The byte a number above a first one. -/
def byteOf (first : Nat) (v : Int) : UInt8 := UInt8.ofNat (first + v.toNat)

/-- A string made of one new byte. -/
theorem conv_new (W0 : World) (x : Int) (b : UInt8) (hb : (b.toNat : Int) = x) : (convert 22 9 (.slice (some ⟨W0.heap.size, 0, none⟩) 1 1)).run Try.prog (W0.alloc (.cells #[.int .u8 x] 5)) = .ok (.string ⟨#[b]⟩) (W0.alloc (.cells #[.int .u8 x] 5)) := by
  refine run_convert_bytes_back _ _ _ 5 ⟨W0.heap.size, 0, none⟩ 1 [b] Try.underlying22 Try.underlying5 Try.underlying9 (fun j hj => ?_)
  obtain rfl : j = 0 := by simpa using hj
  have := heap_alloc_new W0 (.cells #[.int .u8 x] 5)
  have h2 := cell_of_block this 0
  simp [Addr.add, hb, h2]

set_option maxRecDepth 100000 in
set_option maxHeartbeats 2000000 in
theorem specLetter_any (v : Int) (w : World) (h0 : 0 ≤ v) (h1 : v ≤ 5) : Calls Try.prog 68 #[.int .i64 v] w fun e w' => e = .returned (.string ⟨#[byteOf 97 v]⟩) ∧ Below w.heap.size w w' := by
  by_cases h0 : v = 0
  · subst h0
    have kc := fun W0 => conv_new W0 97 97 rfl
    go_enter Try.func68, Try.ntmps68
    go_wp2
    go_ret
    exact ⟨rfl, by repeat (first | exact Below.refl _ _ | refine Below.setCell ?_ (by simp) _ | refine Below.alloc ?_ (by simp) _)⟩
  by_cases h1 : v = 1
  · subst h1
    have kc := fun W0 => conv_new W0 98 98 rfl
    go_enter Try.func68, Try.ntmps68
    go_wp2
    go_ret
    exact ⟨rfl, by repeat (first | exact Below.refl _ _ | refine Below.setCell ?_ (by simp) _ | refine Below.alloc ?_ (by simp) _)⟩
  by_cases h2 : v = 2
  · subst h2
    have kc := fun W0 => conv_new W0 99 99 rfl
    go_enter Try.func68, Try.ntmps68
    go_wp2
    go_ret
    exact ⟨rfl, by repeat (first | exact Below.refl _ _ | refine Below.setCell ?_ (by simp) _ | refine Below.alloc ?_ (by simp) _)⟩
  by_cases h3 : v = 3
  · subst h3
    have kc := fun W0 => conv_new W0 100 100 rfl
    go_enter Try.func68, Try.ntmps68
    go_wp2
    go_ret
    exact ⟨rfl, by repeat (first | exact Below.refl _ _ | refine Below.setCell ?_ (by simp) _ | refine Below.alloc ?_ (by simp) _)⟩
  by_cases h4 : v = 4
  · subst h4
    have kc := fun W0 => conv_new W0 101 101 rfl
    go_enter Try.func68, Try.ntmps68
    go_wp2
    go_ret
    exact ⟨rfl, by repeat (first | exact Below.refl _ _ | refine Below.setCell ?_ (by simp) _ | refine Below.alloc ?_ (by simp) _)⟩
  obtain rfl : v = 5 := by omega
  have kc := fun W0 => conv_new W0 102 102 rfl
  go_enter Try.func68, Try.ntmps68
  go_wp2
  go_ret
  exact ⟨rfl, by repeat (first | exact Below.refl _ _ | refine Below.setCell ?_ (by simp) _ | refine Below.alloc ?_ (by simp) _)⟩

set_option maxRecDepth 100000 in
set_option maxHeartbeats 2000000 in
theorem dec_any (v : Int) (w : World) (h0 : 0 ≤ v) (h1 : v ≤ 9) : Calls Try.prog 69 #[.int .i64 v] w fun e w' => e = .returned (.string ⟨#[byteOf 48 v]⟩) ∧ Below w.heap.size w w' := by
  by_cases h0 : v = 0
  · subst h0
    have kc := fun W0 => conv_new W0 48 48 rfl
    go_enter Try.func69, Try.ntmps69
    go_wp2
    refine wp_loop_rounds 1 ?_
    rw [rounds_succ]
    go_wp2
    go_ret
    exact ⟨rfl, by repeat (first | exact Below.refl _ _ | refine Below.setCell ?_ (by simp) _ | refine Below.alloc ?_ (by simp) _)⟩
  by_cases h1 : v = 1
  · subst h1
    have kc := fun W0 => conv_new W0 49 49 rfl
    go_enter Try.func69, Try.ntmps69
    go_wp2
    refine wp_loop_rounds 1 ?_
    rw [rounds_succ]
    go_wp2
    go_ret
    exact ⟨rfl, by repeat (first | exact Below.refl _ _ | refine Below.setCell ?_ (by simp) _ | refine Below.alloc ?_ (by simp) _)⟩
  by_cases h2 : v = 2
  · subst h2
    have kc := fun W0 => conv_new W0 50 50 rfl
    go_enter Try.func69, Try.ntmps69
    go_wp2
    refine wp_loop_rounds 1 ?_
    rw [rounds_succ]
    go_wp2
    go_ret
    exact ⟨rfl, by repeat (first | exact Below.refl _ _ | refine Below.setCell ?_ (by simp) _ | refine Below.alloc ?_ (by simp) _)⟩
  by_cases h3 : v = 3
  · subst h3
    have kc := fun W0 => conv_new W0 51 51 rfl
    go_enter Try.func69, Try.ntmps69
    go_wp2
    refine wp_loop_rounds 1 ?_
    rw [rounds_succ]
    go_wp2
    go_ret
    exact ⟨rfl, by repeat (first | exact Below.refl _ _ | refine Below.setCell ?_ (by simp) _ | refine Below.alloc ?_ (by simp) _)⟩
  by_cases h4 : v = 4
  · subst h4
    have kc := fun W0 => conv_new W0 52 52 rfl
    go_enter Try.func69, Try.ntmps69
    go_wp2
    refine wp_loop_rounds 1 ?_
    rw [rounds_succ]
    go_wp2
    go_ret
    exact ⟨rfl, by repeat (first | exact Below.refl _ _ | refine Below.setCell ?_ (by simp) _ | refine Below.alloc ?_ (by simp) _)⟩
  by_cases h5 : v = 5
  · subst h5
    have kc := fun W0 => conv_new W0 53 53 rfl
    go_enter Try.func69, Try.ntmps69
    go_wp2
    refine wp_loop_rounds 1 ?_
    rw [rounds_succ]
    go_wp2
    go_ret
    exact ⟨rfl, by repeat (first | exact Below.refl _ _ | refine Below.setCell ?_ (by simp) _ | refine Below.alloc ?_ (by simp) _)⟩
  by_cases h6 : v = 6
  · subst h6
    have kc := fun W0 => conv_new W0 54 54 rfl
    go_enter Try.func69, Try.ntmps69
    go_wp2
    refine wp_loop_rounds 1 ?_
    rw [rounds_succ]
    go_wp2
    go_ret
    exact ⟨rfl, by repeat (first | exact Below.refl _ _ | refine Below.setCell ?_ (by simp) _ | refine Below.alloc ?_ (by simp) _)⟩
  by_cases h7 : v = 7
  · subst h7
    have kc := fun W0 => conv_new W0 55 55 rfl
    go_enter Try.func69, Try.ntmps69
    go_wp2
    refine wp_loop_rounds 1 ?_
    rw [rounds_succ]
    go_wp2
    go_ret
    exact ⟨rfl, by repeat (first | exact Below.refl _ _ | refine Below.setCell ?_ (by simp) _ | refine Below.alloc ?_ (by simp) _)⟩
  by_cases h8 : v = 8
  · subst h8
    have kc := fun W0 => conv_new W0 56 56 rfl
    go_enter Try.func69, Try.ntmps69
    go_wp2
    refine wp_loop_rounds 1 ?_
    rw [rounds_succ]
    go_wp2
    go_ret
    exact ⟨rfl, by repeat (first | exact Below.refl _ _ | refine Below.setCell ?_ (by simp) _ | refine Below.alloc ?_ (by simp) _)⟩
  obtain rfl : v = 9 := by omega
  have kc := fun W0 => conv_new W0 57 57 rfl
  go_enter Try.func69, Try.ntmps69
  go_wp2
  refine wp_loop_rounds 1 ?_
  rw [rounds_succ]
  go_wp2
  go_ret
  exact ⟨rfl, by repeat (first | exact Below.refl _ _ | refine Below.setCell ?_ (by simp) _ | refine Below.alloc ?_ (by simp) _)⟩

end Go.Proofs.Ytcaklhempmlpgaa
