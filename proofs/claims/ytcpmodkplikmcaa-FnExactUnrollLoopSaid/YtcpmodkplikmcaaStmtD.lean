/-
  The program's check of one statement: too many statements, no operation, choices and loops.
-/
import Derived.Test.YtcpmodkplikmcaaStmtA
import Derived.Deep.QuietTactic
import Derived.BigQuiet
namespace Go.Proofs.Ytcpmodkplikmcaa
open Go.RowKit Go.Deep
set_option linter.unusedVariables false

theorem Chk.trans {C : Nat} {vs : Value} {a b c : World} {m m' : Int} (h : Chk C vs a b m) (k : Chk C vs b c m') : Chk C vs a c m' :=
  ⟨k.os.trans h.os, k.tape.trans h.tape, k.output.trans h.output, Nat.le_trans h.size k.size, fun i hi hne => (k.block i (Nat.lt_of_lt_of_le hi h.size) hne).trans (h.block i hi hne), k.cell⟩

theorem Chk.alloc {C : Nat} {vs : Value} {a b : World} {m : Int} (h : Chk C vs a b m) (o : Obj) : Chk C vs a (b.alloc o) m :=
  ⟨h.os, h.tape, h.output, by have := h.size; simp; omega, fun i hi hne => (Below.heap_alloc _ _ i (Nat.lt_of_lt_of_le hi h.size)).trans (h.block i hi hne), (Below.heap_alloc _ _ C (heap_lt h.cell)).trans h.cell⟩

theorem Chk.cellAt {C : Nat} {vs : Value} {a b : World} {m : Int} (h : Chk C vs a b m) {p : Addr} (hp : p.block < a.heap.size) (hne : p.block ≠ C) : b.cell? p = a.cell? p := World.cell?_of_block (w := a) (h.block p.block hp hne)

/-- What the check of a list answers. -/
def ListPost (C : Nat) (vs : Value) (w : World) (m : Int) (ok : Bool) (sz : Nat) (E : Ending) (w' : World) : Prop :=
  ∃ m', E = .returned (.bool (ok && decide (m + sz ≤ 30))) ∧ Chk C vs w w' m' ∧ (ok = true → m + sz ≤ 30 → m' = m + sz)

set_option maxHeartbeats 1000000 in
theorem sv_full (A : Option Addr) (c C nts : Nat) (op x y n d : Int) (At Ae : Option Addr) (nt ct ne ce : Nat) (w : World) (hC : w.heap[C]? = some (.cells #[.slice A nts c, .int .i64 30] 125 (0, 0))) :
    Calls Try.prog 115 #[.pointer (some ⟨C, 0, none⟩), .agg #[.int .i64 op, .int .i64 x, .int .i64 y, .int .i64 n, .slice At nt ct, .slice Ae ne ce], .int .i64 d] w fun E w' => E = .returned (.bool false) ∧ Chk C (.slice A nts c) w w' 31 := by
  have hlt := heap_lt hC
  have c1 : w.cell? ⟨C, 1, none⟩ = some (.int .i64 30) := (cell_of_block hC 1).trans rfl
  have f1 := frozen_of_block hC 1
  have HC := Lib.hid hC
  clear hC
  go_enter Try.func115, Try.ntmps115
  go_wp2_with fail
  go_ret
  exact ⟨rfl, chk_mk hlt HC.out (m' := 31) (Below.refl _ _) (Below.refl _ _)⟩

set_option maxRecDepth 100000 in
set_option maxHeartbeats 4000000 in
theorem sv_0 (A : Option Addr) (c C nts : Nat) (op x y n d m : Int) (At Ae : Option Addr) (nt ct ne ce : Nat) (w : World) (hC : w.heap[C]? = some (.cells #[.slice A nts c, .int .i64 m] 125 (0, 0))) (hm : 0 ≤ m) (hm30 : m < 30) (h1 : (op == 1) = false) (h2 : (op == 2) = false) (h3 : (op == 3) = false) (h4 : (op == 4) = false) (h5 : (op == 5) = false) (h6 : (op == 6) = false) (h7 : (op == 7) = false) (h8 : (op == 8) = false) (h9 : (op == 9) = false) (h10 : (op == 10) = false) :
    Calls Try.prog 115 #[.pointer (some ⟨C, 0, none⟩), .agg #[.int .i64 op, .int .i64 x, .int .i64 y, .int .i64 n, .slice At nt ct, .slice Ae ne ce], .int .i64 d] w fun E w' => E = .returned (.bool false) ∧ Chk C (.slice A nts c) w w' (m + 1) := by
  have hlt := heap_lt hC
  have c1 : w.cell? ⟨C, 1, none⟩ = some (.int .i64 m) := (cell_of_block hC 1).trans rfl
  have f1 := frozen_of_block hC 1
  have HC := Lib.hid hC
  clear hC
  go_enter Try.func115, Try.ntmps115
  go_wp2_with fail
  refine (kindOf_0 op x y n At Ae nt ct ne ce _ h1 h2 h3 h4 h5 h6 h7 h8 h9 h10).mono ?_
  rintro E w1 ⟨rfl, hb1⟩
  have hsz1 : ((w.setCell ⟨C, 1, none⟩ (.int .i64 (m + 1))).alloc (.cells #[.int .i64 op, .int .i64 x, .int .i64 y, .int .i64 n, .slice At nt ct, .slice Ae ne ce] 53)).heap.size = w.heap.size + 1 := by simp [World.setCell]
  rw [hsz1] at hb1
  have HB1 := Lib.hid hb1
  clear hb1 hsz1 c1 f1 h1 h2 h3 h4 h5 h6 h7 h8 h9 h10
  go_wp2_with fail
  go_quiet (fail)
  go_wp2_with fail
  go_ret
  exact ⟨rfl, chk_mk hlt HC.out HB1.out ⟨rfl, rfl, rfl, Nat.le_refl _, fun _ _ => rfl⟩⟩

end Go.Proofs.Ytcpmodkplikmcaa
