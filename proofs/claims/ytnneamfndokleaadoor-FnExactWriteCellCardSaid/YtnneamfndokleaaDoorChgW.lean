/-
  A change of a memory by WriteCell.
-/
import Derived.Test.YtnneamfndokleaaDoorChg
namespace Go.Proofs.YtnneamfndokleaaDoor
open Go.RowKit Go.Deep
set_option linter.unusedVariables false

set_option maxRecDepth 100000 in
set_option maxHeartbeats 1000000 in
theorem changed_write (cs m2 : List CellD) (A : Option Addr) (q c : Nat) (b1 b2 : Value) (ev : Value) (k : Int) (w : World) (h : RdC w (.slice A q c) cs) (hl : cs.length + tagSum cs ≤ 1048590) (hl2 : m2.length + tagSum m2 ≤ 1048600) (hB : memB cs = true)
    (hcl : ∀ w1 A1 c1, Below w.heap.size w w1 → RdM w1 (.slice A1 cs.length c1) cs → Calls Tryd.prog 37 #[.slice A1 cs.length c1, b1, b2] w1 fun E w' => ∃ v', E = .returned (.tuple #[v', ev]) ∧ RdM w' v' m2 ∧ Below w1.heap.size w1 w')
    (hcode : ∀ w1, Below w.heap.size w w1 → Calls Tryd.prog 58 #[ev] w1 fun E w' => E = .returned (.int .i64 k) ∧ w' = w1) :
    Calls Tryd.prog 36 #[.slice A q c, .func (.func 37) #[] #[b1, b2]] w (ChgPost w m2 k) := by
  obtain ⟨hq, hc1, hc2⟩ := h.len
  subst hq
  have H := Lib.hid h
  have HL := Lib.hid hl
  have HB := Lib.hid hB
  have HCL := Lib.hid hcl
  have HCO := Lib.hid hcode
  clear h hl hB hcl hcode
  go_enter Tryd.func36, Tryd.ntmps36
  go_wp2_with fail
  refine (memoryOf_any cs A cs.length c w H.out (by have := HL.out; omega)).mono ?_
  rintro E w2 ⟨v2, rfl, hM2, hb2⟩
  obtain ⟨A2, c2, hv2, -, -, -⟩ := hM2.reads
  subst hv2
  have HM2 := Lib.hid hM2.reads
  have HB2 := Lib.hid hb2
  clear hb2 hM2
  go_wp2_with fail
  refine (implCellsValid_any cs A cs.length c w2 (H.out.below HB2.out)).mono ?_
  rintro E w3 ⟨rfl, hb3⟩
  rw [HB.out]
  have hs := HB2.out.size
  have hbb3 : Below w.heap.size w w3 := HB2.out.trans (hb3.mono hs)
  have HM3 := Lib.hid (HM2.out.below hb3)
  clear hb3
  go_wp2_with fail
  refine (HCL.out w3 A2 c2 hbb3 HM3.out).mono ?_
  rintro E w4 ⟨v4, rfl, hM4, hb4⟩
  have hbb4 : Below w.heap.size w w4 := hbb3.trans (hb4.mono hbb3.size)
  have hM4' := hM4
  obtain ⟨A4, c4, hv4, -, -, -⟩ := hM4
  subst hv4
  have HM4 := Lib.hid hM4'
  clear hb4 hbb3 hM4'
  go_wp2_with fail
  refine (plain_any m2 A4 m2.length c4 w4 HM4.out hl2).mono ?_
  rintro E w5 ⟨v5, rfl, hR, hb5⟩
  obtain ⟨A5, n5, c5, hv5⟩ := rowC_form hR
  subst hv5
  have hbb5 : Below w.heap.size w w5 := hbb4.trans (hb5.mono hbb4.size)
  have HR := Lib.hid (hR.mono hbb4.size)
  clear hR hb5
  go_wp2_with fail
  refine (HCO.out w5 hbb5).mono ?_
  rintro E w6 ⟨rfl, rfl⟩
  go_wp2_with fail
  exact bodyPost_ret (v := .tuple #[.slice A5 n5 c5, .int .i64 k]) (by simp [results, Tryd.results36, go_sem]) rfl ⟨_, _, _, rfl, HR.out, hbb5⟩

end Go.Proofs.YtnneamfndokleaaDoor
