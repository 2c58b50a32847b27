/-
  The program's writes into its graph: a node more, a way more.
-/
import Derived.Test.YtcaklhempmlpgaaGr
import Derived.Lib.Hide
import Derived.Deep.RegionWith
import Derived.Deep.QuietTactic
import Derived.BigQuiet
namespace Go.Proofs.Ytcaklhempmlpgaa
open Go.RowKit Go.Deep
set_option linter.unusedVariables false

set_option maxRecDepth 100000 in
set_option maxHeartbeats 2000000 in
theorem add_any (C : Nat) (op x y n : Int) (ns : List Nd) (w : World) (hG : Gr C w ns) (h60 : ns.length < 61) :
    Calls Try.prog 39 #[.pointer (some ⟨C, 0, none⟩), .agg #[.int .i64 op, .int .i64 x, .int .i64 y, .int .i64 n, .int .i64 0, .int .i64 0, .int .i64 0]] w
      fun E w' => E = .returned (.int .i64 ns.length) ∧ Gr C w' (ns ++ [⟨op, x, y, n, []⟩]) ∧ Turn C w w' := by
  have hlt := hG.lt
  have hG1 : Gr C (w.alloc (.cells #[.int .i64 op, .int .i64 x, .int .i64 y, .int .i64 n, .int .i64 0, .int .i64 0, .int .i64 0] 56)) ns := hG.alloc _
  have hT1 : Turn C w (w.alloc (.cells #[.int .i64 op, .int .i64 x, .int .i64 y, .int .i64 n, .int .i64 0, .int .i64 0, .int .i64 0] 56)) := (Turn.refl C w).alloc _
  have hcount := hG.count
  have hbx : ∀ j u, (#[Value.int .i64 op, .int .i64 x, .int .i64 y, .int .i64 n, .int .i64 0, .int .i64 0, .int .i64 0] : Array Value)[j]? = some u → (w.alloc (.cells #[.int .i64 op, .int .i64 x, .int .i64 y, .int .i64 n, .int .i64 0, .int .i64 0, .int .i64 0] 56)).cell? ⟨w.heap.size, j, none⟩ = some u := fun j u hu => (cell_of_block (heap_alloc_new w _) j).trans hu
  have b0 := hbx 0 (.int .i64 op) rfl
  have b1 := hbx 1 (.int .i64 x) rfl
  have b2 := hbx 2 (.int .i64 y) rfl
  have b3 := hbx 3 (.int .i64 n) rfl
  have b4 := hbx 4 (.int .i64 0) rfl
  have b5 := hbx 5 (.int .i64 0) rfl
  have b6 := hbx 6 (.int .i64 0) rfl
  have HX := Lib.hid hT1
  have HG := Lib.hid hG1
  have HB := Lib.hid (And.intro b0 (And.intro b1 (And.intro b2 (And.intro b3 (And.intro b4 (And.intro b5 b6))))))
  clear hG hG1 hT1 hbx b0 b1 b2 b3 b4 b5 b6
  go_enter Try.func39, Try.ntmps39
  go_wp2_with fail
  generalize w.alloc (.cells #[.int .i64 op, .int .i64 x, .int .i64 y, .int .i64 n, .int .i64 0, .int .i64 0, .int .i64 0] 56) = w1 at HX HG HB ⊢
  obtain ⟨b0, b1, b2, b3, b4, b5, b6⟩ := HB.out
  have hfz := HG.out.frozen
  have hcount1 := HG.out.count
  obtain ⟨u0, g0⟩ := HG.out.some_ (j := ns.length * 7) (by omega)
  obtain ⟨u1, g1⟩ := HG.out.some_ (j := ns.length * 7 + 1) (by omega)
  obtain ⟨u2, g2⟩ := HG.out.some_ (j := ns.length * 7 + 2) (by omega)
  obtain ⟨u3, g3⟩ := HG.out.some_ (j := ns.length * 7 + 3) (by omega)
  obtain ⟨u4, g4⟩ := HG.out.some_ (j := ns.length * 7 + 4) (by omega)
  obtain ⟨u5, g5⟩ := HG.out.some_ (j := ns.length * 7 + 5) (by omega)
  obtain ⟨u6, g6⟩ := HG.out.some_ (j := ns.length * 7 + 6) (by omega)
  clear HB hcount
  go_region_with (fail)
  go_wp2_with fail
  go_ret
  refine ⟨rfl, Gr.drew (Gr.snoc HG.out h60 rfl fun cs hc => ?_), ?_⟩
  · have k0 := block_set hc (ns.length * 7) (.int .i64 op)
    have k1 := block_set k0 (ns.length * 7 + 1) (.int .i64 x)
    have k2 := block_set k1 (ns.length * 7 + 2) (.int .i64 y)
    have k3 := block_set k2 (ns.length * 7 + 3) (.int .i64 n)
    have k4 := block_set k3 (ns.length * 7 + 4) (.int .i64 0)
    have k5 := block_set k4 (ns.length * 7 + 5) (.int .i64 0)
    have k6 := block_set k5 (ns.length * 7 + 6) (.int .i64 0)
    have k7 := block_set k6 427 (.int .i64 ((ns.length : Int) + 1))
    exact k7
  · exact (HX.out.trans (((((((((Turn.refl C w1).setCell _ _).setCell _ _).setCell _ _).setCell _ _).setCell _ _).setCell _ _).setCell _ _).setCell _ _)).drew

set_option maxRecDepth 100000 in
set_option maxHeartbeats 2000000 in
theorem lead_any (C k : Nat) (to : Int) (d : Nd) (ns : List Nd) (w : World) (hG : Gr C w ns) (hd : ns[k]? = some d) (h1 : d.next.length < 2) :
    Calls Try.prog 60 #[.pointer (some ⟨C, 0, none⟩), .int .i64 k, .int .i64 to] w
      fun E w' => E = .returned (.tuple #[]) ∧ Gr C w' (ns.set k { d with next := d.next ++ [to] }) ∧ Turn C w w' := by
  have hle := hG.le
  have hk := (List.getElem?_eq_some_iff.1 hd).1
  have hways := (hG.node hd).1
  have hfz := hG.frozen
  have hlt := hG.lt
  obtain ⟨u0, g0⟩ := hG.some_ (j := k * 7 + 4 + d.next.length) (by omega)
  have HG := Lib.hid hG
  have HD := Lib.hid hd
  clear hG hd
  go_enter Try.func60, Try.ntmps60
  go_wp2_with fail
  go_region_with (fail)
  go_wp2_with fail
  go_end0
  refine ⟨rfl, Gr.drew (Gr.led HG.out HD.out h1 fun cs hc => ?_), ?_⟩
  · exact block_set (block_set hc (k * 7 + 4 + d.next.length) (.int .i64 to)) (k * 7 + 6) (.int .i64 ((d.next.length : Int) + 1))
  · exact (((Turn.refl C w).setCell _ _).setCell _ _).drew

end Go.Proofs.Ytcaklhempmlpgaa
