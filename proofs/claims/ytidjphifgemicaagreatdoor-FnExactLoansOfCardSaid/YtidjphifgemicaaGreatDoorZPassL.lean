/-
  What flows back through a point, by the program.
-/
import Derived.Test.YtidjphifgemicaaGreatDoorZFlowsK
import Derived.Test.YtidjphifgemicaaGreatDoorZMem
import Derived.Test.YtidjphifgemicaaGreatDoorZUses
namespace Go.Proofs.YtidjphifgemicaaGreatDoor
open Go.RowKit Go.Deep
set_option linter.unusedVariables false

set_option maxHeartbeats 2000000 in
theorem liveBefore_any (ts : List Int) (ns : List Nd) (C F hi : Nat) (A : Option Addr) (c : Nat) (ah bk : Nat → Nat) (k x : Nat) (d : Nd) (w : World) (h : FlowsIn ts ns C F hi A c ah bk w) (hd : ns[k]? = some d) (he : EfOk ts d (effD ts d)) (hx : x < 64) :
    Calls Tryz.prog 121 #[.pointer (some ⟨F, 0, none⟩), .int .i64 k, .int .u64 x] w fun E w' => ∃ y : Nat, E = .returned (.int .u64 y) ∧ y < 64 ∧ (∀ v, v < 6 → (dv false y v ↔ (∃ d, ns[k]? = some d ∧ useI ts d v ≠ 0) ∨ (dv false x v ∧ ¬ setsN ns k v))) ∧ Below w.heap.size w w' := by
  obtain ⟨e1, e2, e3, e4⟩ := h.effCell hd
  have hk61 : k < 61 := by have := h.gr.le; have := (List.getElem?_eq_some_iff.mp hd).1; omega
  have ki0 : (0 : Int) ≤ (k : Int) := by omega
  have ki1 : (k : Int) < 61 := by omega
  obtain ⟨z, hz, hzl, hzb⟩ := bits_andNot_u64 x (effD ts d).s (by omega) (by have := he.slt; omega)
  have hz64 : z < 64 := sub_lt64 hx hzl hzb
  have hr := he.rlt
  have ht := he.tlt
  have hc := he.clt
  have hs := he.slt
  have hu := uses_any (effD ts d).r (effD ts d).t (effD ts d).c (effD ts d).s hr ht hc
  have hul : (effD ts d).r ||| (effD ts d).t ||| (effD ts d).c < 64 := Nat.or_lt_two_pow (n := 6) (Nat.or_lt_two_pow (n := 6) hr ht) hc
  have hor := bits_or_u64_nat z ((effD ts d).r ||| (effD ts d).t ||| (effD ts d).c) (by omega) (by omega)
  have hiff := fun v hv => behind_live hd he (x := x) (z := z) hzb v hv
  clear h hd he
  have HIFF := Lib.hid hiff
  clear hiff
  go_enter Tryz.func121, Tryz.ntmps121
  go_wp2_with fail
  generalize hw1 : w.alloc (.cells #[.int .u64 ((effD ts d).r : Int), .int .u64 ((effD ts d).t : Int), .int .u64 ((effD ts d).c : Int), .int .u64 ((effD ts d).s : Int)] 86) = w1
  have hbw : Below w.heap.size w w1 := by rw [← hw1]; exact (Below.refl w.heap.size w).alloc (Nat.le_refl _) _
  have hBX : w1.heap[w.heap.size]? = some (.cells #[.int .u64 ((effD ts d).r : Int), .int .u64 ((effD ts d).t : Int), .int .u64 ((effD ts d).c : Int), .int .u64 ((effD ts d).s : Int)] 86) := by rw [← hw1]; exact heap_alloc_new w _
  have hlt : w.heap.size < w1.heap.size := heap_lt hBX
  have q0 : w1.cell? ⟨w.heap.size, 0, none⟩ = some (.int .u64 ((effD ts d).r : Int)) := (cell_of_block hBX 0).trans rfl
  have q1 : w1.cell? ⟨w.heap.size, 1, none⟩ = some (.int .u64 ((effD ts d).t : Int)) := (cell_of_block hBX 1).trans rfl
  have q2 : w1.cell? ⟨w.heap.size, 2, none⟩ = some (.int .u64 ((effD ts d).c : Int)) := (cell_of_block hBX 2).trans rfl
  have q3 : w1.cell? ⟨w.heap.size, 3, none⟩ = some (.int .u64 ((effD ts d).s : Int)) := (cell_of_block hBX 3).trans rfl
  clear hw1 hBX e1 e2 e3 e4
  go_region_held3 (fun w' => Below w1.heap.size w1 w' ∧ w'.cell? ⟨w.heap.size, 0, none⟩ = some (.int .u64 ((effD ts d).r : Int)) ∧ w'.cell? ⟨w.heap.size, 1, none⟩ = some (.int .u64 ((effD ts d).t : Int)) ∧ w'.cell? ⟨w.heap.size, 2, none⟩ = some (.int .u64 ((effD ts d).c : Int)) ∧ w'.cell? ⟨w.heap.size, 3, none⟩ = some (.int .u64 ((effD ts d).s : Int)))
      (first | exact ⟨(Below.refl w1.heap.size w1).drew, q0, q1, q2, q3⟩ | exact held_4 hbn (And.left ‹Below w1.heap.size w1 _ ∧ _›) rfl hlt q0 q1 q2 q3)
      (first | (go_at_call 136; refine (hu _).mono ?_; rintro E w' ⟨rfl, hbn⟩))
  have hbl := And.left ‹Below w1.heap.size w1 _ ∧ _›
  go_wp2_with fail
  go_ret
  exact ⟨_, rfl, Nat.or_lt_two_pow (n := 6) hz64 hul, HIFF.out, hbw.trans (hbl.mono (by omega))⟩

end Go.Proofs.YtidjphifgemicaaGreatDoor
