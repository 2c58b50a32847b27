/-
  Removing a statement, as the program does it.
-/
import Derived.Test.YtcpmodkplikmcaaWout
import Derived.Test.YtcpmodkplikmcaaImpl
import Derived.Test.YtcpmodkplikmcaaEqual
namespace Go.Proofs.Ytcpmodkplikmcaa
open Go.RowKit Go.Deep
set_option linter.unusedVariables false

/-- An answer: a program of one's own, or none. -/
def AnsP (w : World) (B : Nat) (ok : Bool) (ts : List Int) (s : Sts) (v : Value) : Prop := if ok then ProgA w B ts s v else v = .agg #[.slice none 0 0, .slice none 0 0]

/-- What the answer is. -/
def dropOk (ts : List Int) (s : Sts) (k : Int) : Bool := validB ts s && (decide (0 ≤ k) && decide (k < (s.len : Int)))

set_option maxRecDepth 100000 in
set_option maxHeartbeats 2000000 in
theorem implDropStmt_any (ts : List Int) (s : Sts) (At As : Option Addr) (ct cs : Nat) (k : Int) (w : World) (hT : IntsV w 0 w.heap.size ts At ct) (hS : RepV w 0 w.heap.size s As cs) :
    Calls Try.prog 30 #[.agg #[.slice At ts.length ct, .slice As s.len cs], .int .i64 k] w fun E w' => ∃ v, E = .returned (.tuple #[v, .bool (dropOk ts s k)]) ∧ AnsP w' w.heap.size (dropOk ts s k) ts (s.del k.toNat) v ∧ Below w.heap.size w w' := by
  obtain ⟨W, hW⟩ : ∃ W, (w.alloc (.cells #[.slice At ts.length ct, .slice As s.len cs] 29)).alloc (.cells #[.slice none 0 0, .slice none 0 0] 29) = W := ⟨_, rfl⟩
  have hbW : Below w.heap.size w W := by rw [← hW]; exact ((Below.refl _ _).alloc (Nat.le_refl _) _).alloc (by simp) _
  obtain ⟨hWP, hWR, hWz⟩ := heap2 w (.cells #[.slice At ts.length ct, .slice As s.len cs] 29) (.cells #[.slice none 0 0, .slice none 0 0] 29)
  rw [hW] at hWP hWR hWz
  have hv := programValid_any ts s At As ct cs W (hT.below hbW hbW.size) (hS.below hbW hbW.size)
  have HT := Lib.hid (hT.below hbW hbW.size)
  have HS := Lib.hid (hS.below hbW hbW.size)
  have HBW := Lib.hid hbW
  have HWP := Lib.hid hWP
  have HWR := Lib.hid hWR
  have p0 : W.cell? ⟨w.heap.size, 0, none⟩ = some (.slice At ts.length ct) := (cell_of_block hWP 0).trans rfl
  have p1 : W.cell? ⟨w.heap.size, 1, none⟩ = some (.slice As s.len cs) := (cell_of_block hWP 1).trans rfl
  have hcm := hS.2.1
  have hlc := hS.1
  unfold maxLen at hcm
  clear hT hS hbW hWP hWR
  go_enter Try.func30, Try.ntmps30
  go_wp2_with fail
  clear hW
  refine hv.mono ?_
  rintro E w1 ⟨rfl, hb1⟩
  have HB1 := Lib.hid (HBW.out.trans (hb1.mono (by omega)))
  have hP1 := (hb1.block w.heap.size (by omega)).trans HWP.out
  have hR1 := (hb1.block (w.heap.size + 1) (by omega)).trans HWR.out
  have q0 : w1.cell? ⟨w.heap.size, 0, none⟩ = some (.slice At ts.length ct) := (cell_of_block hP1 0).trans rfl
  have q1 : w1.cell? ⟨w.heap.size, 1, none⟩ = some (.slice As s.len cs) := (cell_of_block hP1 1).trans rfl
  have r0 : w1.cell? ⟨w.heap.size + 1, 0, none⟩ = some (.slice none 0 0) := (cell_of_block hR1 0).trans rfl
  have r1 : w1.cell? ⟨w.heap.size + 1, 1, none⟩ = some (.slice none 0 0) := (cell_of_block hR1 1).trans rfl
  have y0 := frozen_of_block hR1 0
  have y1 := frozen_of_block hR1 1
  have hwz := hb1.size
  have HR1 := Lib.hid hR1
  have HT1 := Lib.hid (HT.out.below hb1 hwz)
  have HS1 := Lib.hid (HS.out.below hb1 hwz)
  have hno : Hid (∀ v, dropOk ts s k = false → v = Value.agg #[.slice none 0 0, .slice none 0 0] → ∀ w', AnsP w' w.heap.size (dropOk ts s k) ts (s.del k.toNat) v) := fun v h hv w' => by unfold AnsP; rw [h, if_neg (by simp)]; exact hv
  have hBz := Lib.hid ((HB1.out.setCell (p := ⟨w.heap.size + 1, 0, none⟩) (by simp) (.slice none 0 0)).setCell (p := ⟨w.heap.size + 1, 1, none⟩) (by simp) (.slice none 0 0))
  clear hv hb1 hP1 hR1 p0 p1
  cases hvb : validB ts s
  · have hd : dropOk ts s k = false := by unfold dropOk; rw [hvb]; rfl
    have HD := Lib.hid hd
    clear hd hvb HT1 HS1
    go_wp2_with fail
    exact bodyPost_ret (v := .tuple #[.agg #[.slice none 0 0, .slice none 0 0], .bool false]) (by simp [results, Try.results30, go_sem, r0, r1]) rfl ⟨_, by rw [HD.out], hno.out _ HD.out rfl _, hBz.out⟩
  · by_cases hk0 : 0 ≤ k
    · by_cases hk1 : k < (s.len : Int)
      · have hd : dropOk ts s k = true := by unfold dropOk; rw [hvb, decide_eq_true hk0, decide_eq_true hk1]; rfl
        have HD := Lib.hid hd
        obtain ⟨K, rfl⟩ : ∃ K : Nat, k = (K : Int) := ⟨k.toNat, by omega⟩
        have hsize : s.size ≤ 30 := by
          have := hvb
          unfold validB at this
          simp at this
          omega
        have htl : ts.length ≤ 6 := by
          have := hvb
          unfold validB typesB at this
          simp at this
          omega
        have hwo := withoutStmt_any ts s At As ct cs K w1 (by omega) (by omega) (by omega) HT1.out HS1.out
        clear hd hvb
        go_wp2_with fail
        refine hwo.mono ?_
        rintro E w2 ⟨v, rfl, hA, hb2⟩
        have hA2 := hA
        obtain ⟨A, A', c, c', lo, hi, rfl, _⟩ := hA
        have hz2 := hb2.size
        have hR2 := (hb2.block (w.heap.size + 1) (by omega)).trans HR1.out
        have u0 : w2.cell? ⟨w.heap.size + 1, 0, none⟩ = some (.slice none 0 0) := (cell_of_block hR2 0).trans rfl
        have u1 : w2.cell? ⟨w.heap.size + 1, 1, none⟩ = some (.slice none 0 0) := (cell_of_block hR2 1).trans rfl
        have v0 := frozen_of_block hR2 0
        have v1 := frozen_of_block hR2 1
        have HA := Lib.hid (ProgA.mono (hA2.keep (w' := (w2.setCell ⟨w.heap.size + 1, 0, none⟩ (.slice A ts.length c)).setCell ⟨w.heap.size + 1, 1, none⟩ (.slice A' (s.del K).len c')) (by simp [World.setCell]) fun q q1 q2 => (Below.heap_setCell _ _ _ _ (by show q ≠ w.heap.size + 1; omega)).trans (Below.heap_setCell _ _ _ _ (by show q ≠ w.heap.size + 1; omega))) (show w.heap.size ≤ w1.heap.size by omega))
        have hB2 := Lib.hid (((HB1.out.trans (hb2.mono (by omega))).setCell (p := ⟨w.heap.size + 1, 0, none⟩) (by simp) (.slice A ts.length c)).setCell (p := ⟨w.heap.size + 1, 1, none⟩) (by simp) (.slice A' (s.del K).len c'))
        clear hwo hA2 hb2 hR2 q0 q1 r0 r1 y0 y1 hBz hno HT1 HS1
        go_wp2_with fail
        exact bodyPost_ret (v := .tuple #[.agg #[.slice A ts.length c, .slice A' (s.del K).len c'], .bool true]) (by simp [results, Try.results30, go_sem, u0, u1]) rfl ⟨_, by rw [HD.out], by rw [HD.out]; unfold AnsP; rw [if_pos rfl]; exact HA.out, hB2.out⟩
      · have hd : dropOk ts s k = false := by unfold dropOk; rw [decide_eq_false hk1]; simp
        have HD := Lib.hid hd
        have hk2 : (s.len : Int) ≤ k := by omega
        clear hd hvb HT1 HS1
        go_wp2_with fail
        exact bodyPost_ret (v := .tuple #[.agg #[.slice none 0 0, .slice none 0 0], .bool false]) (by simp [results, Try.results30, go_sem, r0, r1]) rfl ⟨_, by rw [HD.out], hno.out _ HD.out rfl _, hBz.out⟩
    · have hd : dropOk ts s k = false := by unfold dropOk; rw [decide_eq_false hk0]; simp
      have HD := Lib.hid hd
      have hk2 : k < 0 := by omega
      clear hd hvb HT1 HS1
      go_wp2_with fail
      exact bodyPost_ret (v := .tuple #[.agg #[.slice none 0 0, .slice none 0 0], .bool false]) (by simp [results, Try.results30, go_sem, r0, r1]) rfl ⟨_, by rw [HD.out], hno.out _ HD.out rfl _, hBz.out⟩

end Go.Proofs.Ytcpmodkplikmcaa
