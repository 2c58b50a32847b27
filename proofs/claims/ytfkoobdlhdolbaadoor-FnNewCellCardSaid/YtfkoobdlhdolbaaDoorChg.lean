/-
  A change of a memory: a memory that is not valid is given back; else what the change makes of it, and its code.
-/
import Derived.Test.YtfkoobdlhdolbaaDoorMemP
import Derived.Test.YtfkoobdlhdolbaaDoorCelI
import Derived.Test.YtfkoobdlhdolbaaDoorNw1
namespace Go.Proofs.YtfkoobdlhdolbaaDoor
open Go.RowKit Go.Deep
set_option linter.unusedVariables false

/-- What a change of a memory answers. -/
def MemPost (w : World) (m2 : List CellD) (ev : Value) (E : Ending) (w' : World) : Prop := ∃ v', E = .returned (.tuple #[v', ev]) ∧ RdM w' v' m2 ∧ Below w.heap.size w w'

/-- What a change answers. -/
def ChgPost (w : World) (cs : List CellD) (k : Int) (E : Ending) (w' : World) : Prop := ∃ A n c, E = .returned (.tuple #[.slice A n c, .int .i64 k]) ∧ RowC w' w.heap.size (.slice A n c) cs ∧ Below w.heap.size w w'

set_option maxRecDepth 100000 in
set_option maxHeartbeats 1000000 in
theorem changed_bad (cs : List CellD) (A : Option Addr) (q c : Nat) (f : Value) (w : World) (h : RdC w (.slice A q c) cs) (hl : cs.length + tagSum cs ≤ 1048590) (hB : memB cs = false) :
    Calls Tryd.prog 52 #[.slice A q c, f] w (ChgPost w cs 4) := by
  obtain ⟨hq, hc1, hc2⟩ := h.len
  subst hq
  have H := Lib.hid h
  have HL := Lib.hid hl
  have HB := Lib.hid hB
  clear h hl hB
  go_enter Tryd.func52, Tryd.ntmps52
  go_wp2_with fail
  refine (memoryOf_any cs A cs.length c w H.out (by have := HL.out; omega)).mono ?_
  rintro E w2 ⟨v2, rfl, hM2, hb2⟩
  obtain ⟨A2, c2, hv2, -, -, -⟩ := hM2.reads
  subst hv2
  have HM2 := Lib.hid hM2.reads
  have HB2 := Lib.hid hb2
  clear hb2 hM2
  go_wp2_with fail
  refine (implCellsValid_any cs A cs.length c w2 (H.out.below HB2.out)).mono ?_
  rintro E w3 ⟨rfl, hb3⟩
  rw [HB.out]
  have hs := HB2.out.size
  have hbb3 : Below w.heap.size w w3 := HB2.out.trans (hb3.mono hs)
  have HM3 := Lib.hid (HM2.out.below hb3)
  clear hb3
  go_wp2_with fail
  refine (plain_any cs A2 cs.length c2 w3 HM3.out (by have := HL.out; omega)).mono ?_
  rintro E w4 ⟨v4, rfl, hR, hb4⟩
  obtain ⟨A4, n4, c4, hv4⟩ := rowC_form hR
  subst hv4
  have hbf : Below w.heap.size w w4 := hbb3.trans (hb4.mono hbb3.size)
  have HR := Lib.hid (hR.mono hbb3.size)
  clear hR hb4
  go_wp2_with fail
  exact bodyPost_ret (v := .tuple #[.slice A4 n4 c4, .int .i64 4]) (by simp [results, Tryd.results52, go_sem]) rfl ⟨_, _, _, rfl, HR.out, hbf⟩

end Go.Proofs.YtfkoobdlhdolbaaDoor
