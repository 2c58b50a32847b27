/-
  The program's graph of a program, and the points that a point leads to.
-/
import Derived.Test.YtcaklhempmlpgaaGrC
import Derived.Test.YtcaklhempmlpgaaImpl
import Derived.Deep.RegionWith
namespace Go.Proofs.Ytcaklhempmlpgaa
open Go.RowKit Go.Deep
set_option linter.unusedVariables false

theorem valid_size {ts : List Int} {s : Sts} (h : validB ts s = true) : s.size ≤ 30 := by
  simp only [validB, Bool.and_eq_true, decide_eq_true_eq] at h
  exact h.2.2

theorem zero_size : (Try.zeroCells59).size = 428 := by kernel_rfl
theorem zero_count : (Try.zeroCells59)[427]? = some (.int .i64 0) := by kernel_rfl

theorem zero_all : Try.zeroCells59 = Array.replicate 428 (.int .i64 0) := by kernel_rfl

theorem Gr.zero (w : World) : Gr w.heap.size (w.alloc (.cells Try.zeroCells59 59)) [] :=
  ⟨_, heap_alloc_new w _, zero_size, zero_count, ⟨by simp, fun j hj => ⟨0, by rw [zero_all]; simp [hj]⟩⟩, fun k d hd => by simp at hd⟩

set_option maxRecDepth 100000 in
set_option maxHeartbeats 4000000 in
theorem graphOf_yes (ts : List Int) (s : Sts) (At As : Option Addr) (ct cs : Nat) (w : World) (hv : validB ts s = true) (hT : IntsV w 0 w.heap.size ts At ct) (hR : RepV w 0 w.heap.size s As cs) :
    Calls Try.prog 24 #[.agg #[.slice At ts.length ct, .slice As s.len cs]] w fun E w' => ∃ C, E = .returned (.tuple #[.pointer (some ⟨C, 0, none⟩), .bool true]) ∧ w.heap.size ≤ C ∧ Gr C w' (progPts s) ∧ Below w.heap.size w w' := by
  have hb0 := (Below.refl w.heap.size w).alloc (Nat.le_refl _) (.cells #[.slice At ts.length ct, .slice As s.len cs] 26)
  have hT1 : IntsV (w.alloc (.cells #[.slice At ts.length ct, .slice As s.len cs] 26)) 0 (w.alloc (.cells #[.slice At ts.length ct, .slice As s.len cs] 26)).heap.size ts At ct := hT.below hb0 (by simp)
  have hR1 : RepV (w.alloc (.cells #[.slice At ts.length ct, .slice As s.len cs] 26)) 0 (w.alloc (.cells #[.slice At ts.length ct, .slice As s.len cs] 26)).heap.size s As cs := hR.below hb0 (by simp)
  have hc0 : (w.alloc (.cells #[.slice At ts.length ct, .slice As s.len cs] 26)).heap[w.heap.size]? = _ := heap_alloc_new w _
  have hz0 : (w.alloc (.cells #[.slice At ts.length ct, .slice As s.len cs] 26)).heap.size = w.heap.size + 1 := by simp
  have h30 := valid_size hv
  have HV := Lib.hid hv
  have HC := Lib.hid hc0
  have HZ := Lib.hid hz0
  clear hc0 hz0 hv
  go_enter Try.func24, Try.ntmps24
  go_wp2_with fail
  refine (programValid_any ts s At As ct cs _ hT1 hR1).mono ?_
  rintro E w1 ⟨he, hb1⟩
  rw [HV.out] at he
  subst he
  rw [HZ.out] at hb1
  have hs1 := hb1.size
  rw [HZ.out] at hs1
  have hb1' := (hb1.block w.heap.size (by omega)).trans HC.out
  have d1 : w1.cell? ⟨w.heap.size, 1, none⟩ = some (.slice As s.len cs) := (cell_of_block hb1' 1).trans rfl
  have hb : Below w.heap.size w w1 := hb0.trans (hb1.mono (by omega))
  have HB1 := Lib.hid hb1'
  have d2 : ∀ o, (w1.alloc o).cell? ⟨w.heap.size, 1, none⟩ = some (.slice As s.len cs) := fun o => (World.cell?_alloc_lt _ _ _ (by simp; omega)).trans d1
  have hR2 := hR.below hb hb.size
  have HG := Lib.hid (Gr.zero w1)
  have hT3 := (Turn.refl w1.heap.size w1).alloc (.cells Try.zeroCells59 59)
  have hnp := s.npts_le
  have hR3 : RepV (w1.alloc (.cells Try.zeroCells59 59)) 0 w1.heap.size s As cs := hR2.keep (Nat.le_refl _) (Nat.le_refl _) fun p _ hp => World.cell?_alloc_lt _ _ _ hp
  clear hb1' hb1 hT1 hR1 hT hR2 d1
  go_wp2_with fail
  refine (addList_any (s.size + 1) w1.heap.size s As cs [] _ (by omega) (by omega) hR3 HG.out (by simp; omega)).mono ?_
  rintro E w2 ⟨rfl, hG2, hT2⟩
  have HG2 : Hid (Gr w1.heap.size w2 (s.pts 0)) := hG2
  have HL2 : Hid ((s.pts 0).length = s.npts) := s.pts_len 0
  have hT4 := hT3.trans hT2
  clear hG2 hT3 hT2 HG hR3 d2
  go_wp2_with fail
  refine (add_at w1.heap.size s.npts 11 0 0 0 _ _ HG2.out HL2 (by omega)).mono ?_
  rintro E w3 ⟨rfl, hG3, hT3⟩
  have HG3 : Hid (Gr w1.heap.size w3 (progPts s)) := hG3
  have hb3 : Below w.heap.size w w3 := hb.trans ⟨(hT4.trans hT3).os, (hT4.trans hT3).tape, (hT4.trans hT3).output, (hT4.trans hT3).size, fun k hk => (hT4.trans hT3).block k (by omega) (by omega)⟩
  clear hG3 HG2 hT3 hT4
  go_wp2_with fail
  go_ret2
  exact ⟨w1.heap.size, rfl, hb.size, HG3.out, hb3⟩

set_option maxHeartbeats 1000000 in
theorem graphOf_no (ts : List Int) (s : Sts) (At As : Option Addr) (ct cs : Nat) (w : World) (hv : validB ts s = false) (hT : IntsV w 0 w.heap.size ts At ct) (hR : RepV w 0 w.heap.size s As cs) :
    Calls Try.prog 24 #[.agg #[.slice At ts.length ct, .slice As s.len cs]] w fun E w' => E = .returned (.tuple #[.pointer none, .bool false]) ∧ Below w.heap.size w w' := by
  have hb0 := (Below.refl w.heap.size w).alloc (Nat.le_refl _) (.cells #[.slice At ts.length ct, .slice As s.len cs] 26)
  have hT1 : IntsV (w.alloc (.cells #[.slice At ts.length ct, .slice As s.len cs] 26)) 0 (w.alloc (.cells #[.slice At ts.length ct, .slice As s.len cs] 26)).heap.size ts At ct := hT.below hb0 (by simp)
  have hR1 : RepV (w.alloc (.cells #[.slice At ts.length ct, .slice As s.len cs] 26)) 0 (w.alloc (.cells #[.slice At ts.length ct, .slice As s.len cs] 26)).heap.size s As cs := hR.below hb0 (by simp)
  have HV := Lib.hid hv
  clear hv
  go_enter Try.func24, Try.ntmps24
  go_wp2_with fail
  refine (programValid_any ts s At As ct cs _ hT1 hR1).mono ?_
  rintro E w1 ⟨he, hb1⟩
  rw [HV.out] at he
  subst he
  have hb : Below w.heap.size w w1 := hb0.trans (hb1.mono (by simp))
  go_wp2_with fail
  go_ret2
  exact ⟨rfl, hb⟩

set_option maxRecDepth 100000 in
set_option maxHeartbeats 4000000 in
theorem nextOf_any (C k : Nat) (d : Nd) (ns : List Nd) (w : World) (hG : Gr C w ns) (hd : ns[k]? = some d) :
    Calls Try.prog 26 #[.pointer (some ⟨C, 0, none⟩), .int .i64 k] w fun E w' => E = .returned (.slice (some ⟨C, k * 7 + 4, none⟩) d.next.length 2) ∧ Below w.heap.size w w' := by
  have hle := hG.le
  have hk := (List.getElem?_eq_some_iff.1 hd).1
  have hways := (hG.node hd).1
  have htwo := (hG.node hd).2.2.1
  have hlt := hG.lt
  clear hG hd
  have ha2 : Try.prog.arrayLen 54 = 2 := by kernel_rfl
  have hsl : ∀ W, (Instr.sliceAt 54 (.pointer (some ⟨C, k * 7 + 4, none⟩)) none (some (.int .i64 d.next.length)) none).run Try.prog W = .ok (.slice (some ⟨C, k * 7 + 4, none⟩) d.next.length 2) W := by
    intro W
    have he : Try.prog.elem 54 = 3 := by kernel_rfl
    have hz : (sizeOf 3).run Try.prog W = .ok 1 W := by first | exact Try.sizeOf3 W | simp [Try.sizeOf3] | kernel_rfl
    rw [run_sliceAt_array_h (P := Try.prog) (w := W) (t := 54) (kh := .i64) (h := d.next.length) ⟨C, k * 7 + 4, none⟩ (by kernel_rfl) (by omega) (by rw [ha2]; omega), ha2, he, hz]
    simp [slicedAt, Addr.add]
  go_enter Try.func26, Try.ntmps26
  go_wp2_with fail
  go_region_with (fail)
  go_wp2_with fail
  go_ret
  exact ⟨rfl, by first | exact Below.refl _ _ | exact (Below.refl _ _).drew⟩

end Go.Proofs.Ytcaklhempmlpgaa
