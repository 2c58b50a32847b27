/-
  A program that is answered if it is valid.
-/
import Derived.Test.YtcpmodkplikmcaaImpl
import Derived.Test.YtcpmodkplikmcaaEqual
namespace Go.Proofs.Ytcpmodkplikmcaa
open Go.RowKit Go.Deep
set_option linter.unusedVariables false

/-- The program, if it is valid. -/
def provA (ts : List Int) (s : Sts) (At As : Option Addr) (ct cs : Nat) : Value := if validB ts s = true then .agg #[.slice At ts.length ct, .slice As s.len cs] else .agg #[.slice none 0 0, .slice none 0 0]

theorem provA_true {ts : List Int} {s : Sts} (h : validB ts s = true) (At As : Option Addr) (ct cs : Nat) : provA ts s At As ct cs = .agg #[.slice At ts.length ct, .slice As s.len cs] := if_pos h

theorem provA_false {ts : List Int} {s : Sts} (h : validB ts s = false) (At As : Option Addr) (ct cs : Nat) : provA ts s At As ct cs = .agg #[.slice none 0 0, .slice none 0 0] := if_neg (by rw [h]; simp)

set_option maxRecDepth 100000 in
set_option maxHeartbeats 2000000 in
theorem provided_any (ts : List Int) (s : Sts) (At As : Option Addr) (ct cs : Nat) (w : World) (hT : IntsV w 0 w.heap.size ts At ct) (hS : RepV w 0 w.heap.size s As cs) :
    Calls Try.prog 55 #[(.func (.func 56) #[] #[]), .agg #[.slice At ts.length ct, .slice As s.len cs]] w fun E w' => E = .returned (.tuple #[provA ts s At As ct cs, .bool (validB ts s)]) ∧ Below w.heap.size w w' := by
  obtain ⟨W, hW⟩ : ∃ W, (w.alloc (.cells #[.slice At ts.length ct, .slice As s.len cs] 29)).alloc (.cells #[.slice none 0 0, .slice none 0 0] 29) = W := ⟨_, rfl⟩
  have hbW : Below w.heap.size w W := by rw [← hW]; exact ((Below.refl _ _).alloc (Nat.le_refl _) _).alloc (by simp) _
  obtain ⟨hWP, hWR, hWz⟩ := heap2 w (.cells #[.slice At ts.length ct, .slice As s.len cs] 29) (.cells #[.slice none 0 0, .slice none 0 0] 29)
  rw [hW] at hWP hWR hWz
  have hv := programValid_any ts s At As ct cs W (hT.below hbW hbW.size) (hS.below hbW hbW.size)
  have HBW := Lib.hid hbW
  have HWP := Lib.hid hWP
  have HWR := Lib.hid hWR
  have p0 : W.cell? ⟨w.heap.size, 0, none⟩ = some (.slice At ts.length ct) := (cell_of_block hWP 0).trans rfl
  have p1 : W.cell? ⟨w.heap.size, 1, none⟩ = some (.slice As s.len cs) := (cell_of_block hWP 1).trans rfl
  clear hT hS hbW hWP hWR
  go_enter Try.func55, Try.ntmps55
  go_wp2_with fail
  clear hW
  refine hv.mono ?_
  rintro E w1 ⟨rfl, hb1⟩
  have HB1 := Lib.hid (HBW.out.trans (hb1.mono (by omega)))
  have hP1 := (hb1.block w.heap.size (by omega)).trans HWP.out
  have hR1 := (hb1.block (w.heap.size + 1) (by omega)).trans HWR.out
  have q0 : w1.cell? ⟨w.heap.size, 0, none⟩ = some (.slice At ts.length ct) := (cell_of_block hP1 0).trans rfl
  have q1 : w1.cell? ⟨w.heap.size, 1, none⟩ = some (.slice As s.len cs) := (cell_of_block hP1 1).trans rfl
  have r0 : w1.cell? ⟨w.heap.size + 1, 0, none⟩ = some (.slice none 0 0) := (cell_of_block hR1 0).trans rfl
  have r1 : w1.cell? ⟨w.heap.size + 1, 1, none⟩ = some (.slice none 0 0) := (cell_of_block hR1 1).trans rfl
  have y0 := frozen_of_block hR1 0
  have y1 := frozen_of_block hR1 1
  have hwz := hb1.size
  have hB2 : Hid (∀ v v', Below w.heap.size w ((w1.setCell ⟨w.heap.size + 1, 0, none⟩ v).setCell ⟨w.heap.size + 1, 1, none⟩ v')) := fun v v' => (HB1.out.setCell (p := ⟨w.heap.size + 1, 0, none⟩) (by simp) v).setCell (p := ⟨w.heap.size + 1, 1, none⟩) (by simp) v'
  clear hv hb1 hP1 hR1 p0 p1
  cases hvb : validB ts s
  · have HD := Lib.hid hvb
    clear hvb
    go_wp2_with fail
    exact bodyPost_ret (v := .tuple #[.agg #[.slice none 0 0, .slice none 0 0], .bool false]) (by simp [results, Try.results55, go_sem, r0, r1]) rfl ⟨by rw [provA_false HD.out, HD.out], hB2.out _ _⟩
  · have HD := Lib.hid hvb
    clear hvb
    go_wp2_with fail
    exact bodyPost_ret (v := .tuple #[.agg #[.slice At ts.length ct, .slice As s.len cs], .bool true]) (by simp [results, Try.results55, go_sem, r0, r1]) rfl ⟨by rw [provA_true HD.out, HD.out], hB2.out _ _⟩

end Go.Proofs.Ytcpmodkplikmcaa
