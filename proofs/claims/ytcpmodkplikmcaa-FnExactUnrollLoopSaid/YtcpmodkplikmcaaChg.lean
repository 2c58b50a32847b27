/-
  Conditions of changes, as the program asks them.
-/
import Derived.Test.YtcpmodkplikmcaaImpl
import Derived.Test.YtcpmodkplikmcaaEqual
namespace Go.Proofs.Ytcpmodkplikmcaa
open Go.RowKit Go.Deep
set_option linter.unusedVariables false

/-- Whether there are statements k to k + n - 1. -/
def hasB (ts : List Int) (s : Sts) (k n : Int) : Bool := validB ts s && (decide (0 ≤ k) && decide (k ≤ (s.len : Int) - n))

theorem validB_size {ts : List Int} {s : Sts} (h : validB ts s = true) : s.size ≤ 30 := by
  unfold validB at h
  simp at h
  omega

theorem validB_types {ts : List Int} {s : Sts} (h : validB ts s = true) : ts.length ≤ 6 := by
  unfold validB typesB at h
  simp at h
  omega

set_option maxRecDepth 100000 in
set_option maxHeartbeats 2000000 in
theorem hasStmts_any (ts : List Int) (s : Sts) (At As : Option Addr) (ct cs : Nat) (k n : Int) (w : World) (hn0 : 0 ≤ n) (hn1 : n ≤ 10) (hT : IntsV w 0 w.heap.size ts At ct) (hS : RepV w 0 w.heap.size s As cs) :
    Calls Try.prog 41 #[.agg #[.slice At ts.length ct, .slice As s.len cs], .int .i64 k, .int .i64 n] w fun E w' => E = .returned (.bool (hasB ts s k n)) ∧ Below w.heap.size w w' := by
  obtain ⟨W, hW⟩ : ∃ W, w.alloc (.cells #[.slice At ts.length ct, .slice As s.len cs] 29) = W := ⟨_, rfl⟩
  have hbW : Below w.heap.size w W := by rw [← hW]; exact (Below.refl _ _).alloc (Nat.le_refl _) _
  have hWP : W.heap[w.heap.size]? = some (.cells #[.slice At ts.length ct, .slice As s.len cs] 29 (0, 0)) := by rw [← hW]; exact heap_alloc_new w _
  have hWz : w.heap.size + 1 = W.heap.size := by rw [← hW]; simp
  have hv := programValid_any ts s At As ct cs W (hT.below hbW hbW.size) (hS.below hbW hbW.size)
  have HBW := Lib.hid hbW
  have HWP := Lib.hid hWP
  have p0 : W.cell? ⟨w.heap.size, 0, none⟩ = some (.slice At ts.length ct) := (cell_of_block hWP 0).trans rfl
  have p1 : W.cell? ⟨w.heap.size, 1, none⟩ = some (.slice As s.len cs) := (cell_of_block hWP 1).trans rfl
  have hcm := hS.2.1
  have hlc := hS.1
  unfold maxLen at hcm
  clear hT hS hbW hWP
  go_enter Try.func41, Try.ntmps41
  go_wp2_with fail
  clear hW
  refine hv.mono ?_
  rintro E w1 ⟨rfl, hb1⟩
  have HB1 := Lib.hid (HBW.out.trans (hb1.mono (by omega)))
  have hP1 := (hb1.block w.heap.size (by omega)).trans HWP.out
  have q0 : w1.cell? ⟨w.heap.size, 0, none⟩ = some (.slice At ts.length ct) := (cell_of_block hP1 0).trans rfl
  have q1 : w1.cell? ⟨w.heap.size, 1, none⟩ = some (.slice As s.len cs) := (cell_of_block hP1 1).trans rfl
  have hwr : IntKind.i64.wrap ((s.len : Int) - n) = (s.len : Int) - n := by rw [IntKind.wrap_i64]; omega
  clear hv hb1 hP1 p0 p1 hWz
  cases hvb : validB ts s
  · have hd : hasB ts s k n = false := by unfold hasB; rw [hvb]; rfl
    have HD := Lib.hid hd
    clear hd hvb
    go_wp2_with fail
    go_ret
    first
      | exact ⟨by rw [HD.out]; rfl, HB1.out⟩
      | exact ⟨by rw [HD.out, ← HK.out]; rfl, HB1.out⟩
  · by_cases hk0 : 0 ≤ k
    · by_cases hk1 : k ≤ (s.len : Int) - n
      · have hd : hasB ts s k n = true := by unfold hasB; rw [hvb, decide_eq_true hk0, decide_eq_true hk1]; rfl
        have HD := Lib.hid hd
        clear hd hvb
        go_wp2_with fail
        go_ret
        first
          | exact ⟨by rw [HD.out]; rfl, HB1.out⟩
          | exact ⟨by rw [HD.out, ← HK.out]; rfl, HB1.out⟩
      · have hd : hasB ts s k n = false := by unfold hasB; rw [decide_eq_false hk1]; simp
        have HD := Lib.hid hd
        have HK := Lib.hid (decide_eq_false hk1)
        clear hd hvb
        go_wp2_with fail
        go_ret
        first
          | exact ⟨by rw [HD.out]; rfl, HB1.out⟩
          | exact ⟨by rw [HD.out, ← HK.out]; rfl, HB1.out⟩
    · have hd : hasB ts s k n = false := by unfold hasB; rw [decide_eq_false hk0]; simp
      have HD := Lib.hid hd
      clear hd hvb
      go_wp2_with fail
      go_ret
      first
        | exact ⟨by rw [HD.out]; rfl, HB1.out⟩
        | exact ⟨by rw [HD.out, ← HK.out]; rfl, HB1.out⟩

/-- Whether a load behind a store is one of what was stored. -/
def fwdB (op x y op2 x2 y2 : Int) : Bool := (decide (op = 7) && decide (op2 = 6)) && (decide (y2 = x) && decide (x2 ≠ y))

set_option maxRecDepth 100000 in
set_option maxHeartbeats 2000000 in
theorem canForward_any (op x y n op2 x2 y2 n2 : Int) (A B A2 B2 : Option Addr) (l c m d l2 c2 m2 d2 : Nat) (w : World) :
    Calls Try.prog 42 #[.agg #[.int .i64 op, .int .i64 x, .int .i64 y, .int .i64 n, .slice A l c, .slice B m d], .agg #[.int .i64 op2, .int .i64 x2, .int .i64 y2, .int .i64 n2, .slice A2 l2 c2, .slice B2 m2 d2]] w fun E w' => E = .returned (.bool (fwdB op x y op2 x2 y2)) ∧ Below w.heap.size w w' := by
  by_cases h1 : op = 7
  · by_cases h2 : op2 = 6
    · by_cases h3 : y2 = x
      · by_cases h4 : x2 = y
        · have hd : fwdB op x y op2 x2 y2 = false := by unfold fwdB; simp [h4]
          rw [hd]
          go_enter Try.func42, Try.ntmps42
          go_wp2_with fail
          go_ret
          exact ⟨by first | rfl | (simp_all; done), ((Below.refl _ _).alloc (Nat.le_refl _) _).alloc (by simp) _⟩
        · have hd : fwdB op x y op2 x2 y2 = true := by unfold fwdB; simp [h1, h2, h3, h4]
          rw [hd]
          go_enter Try.func42, Try.ntmps42
          go_wp2_with fail
          go_ret
          exact ⟨by first | rfl | (simp_all; done), ((Below.refl _ _).alloc (Nat.le_refl _) _).alloc (by simp) _⟩
      · have hd : fwdB op x y op2 x2 y2 = false := by unfold fwdB; simp [h3]
        rw [hd]
        go_enter Try.func42, Try.ntmps42
        go_wp2_with fail
        go_ret
        exact ⟨by first | rfl | (simp_all; done), ((Below.refl _ _).alloc (Nat.le_refl _) _).alloc (by simp) _⟩
    · have hd : fwdB op x y op2 x2 y2 = false := by unfold fwdB; simp [h2]
      rw [hd]
      go_enter Try.func42, Try.ntmps42
      go_wp2_with fail
      go_ret
      exact ⟨by first | rfl | (simp_all; done), ((Below.refl _ _).alloc (Nat.le_refl _) _).alloc (by simp) _⟩
  · have hd : fwdB op x y op2 x2 y2 = false := by unfold fwdB; simp [h1]
    rw [hd]
    go_enter Try.func42, Try.ntmps42
    go_wp2_with fail
    go_ret
    exact ⟨by first | rfl | (simp_all; done), ((Below.refl _ _).alloc (Nat.le_refl _) _).alloc (by simp) _⟩

end Go.Proofs.Ytcpmodkplikmcaa
