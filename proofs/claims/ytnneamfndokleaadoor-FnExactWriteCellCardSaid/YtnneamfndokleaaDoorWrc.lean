/-
  The program's WriteCell, over what write does to the memory.
-/
import Derived.Test.YtnneamfndokleaaDoorChgW
import Derived.Test.YtnneamfndokleaaDoorMwr
namespace Go.Proofs.YtnneamfndokleaaDoor
open Go.RowKit Go.Deep
set_option linter.unusedVariables false

set_option maxRecDepth 100000 in
set_option maxHeartbeats 1000000 in
theorem writeCell1_any (v : Value) (a b : Nat) (x t y : Int) (m2 : List CellD) (ev : Value) (w : World) (h0 : w.cell? ⟨a, 0, none⟩ = some (.int .i64 x)) (h1 : w.cell? ⟨a, 1, none⟩ = some (.int .i64 t)) (h2 : w.cell? ⟨b, 0, none⟩ = some (.int .i64 y))
    (hr : Calls Tryd.prog 38 #[v, .agg #[.int .i64 x, .int .i64 t], .int .i64 y] w (MemPost w m2 ev)) :
    Calls Tryd.prog 37 #[v, .pointer (some ⟨a, 0, none⟩), .pointer (some ⟨b, 0, none⟩)] w (MemPost w m2 ev) := by
  have HR := Lib.hid hr
  clear hr
  go_enter Tryd.func37, Tryd.ntmps37
  go_wp2_with fail
  refine HR.out.mono ?_
  rintro E w2 ⟨v2, rfl, hM, hb⟩
  clear h0 h1 h2 HR
  go_wp2_with fail
  exact bodyPost_ret (v := .tuple #[v2, ev]) (by simp [results, Tryd.results37, go_sem]) rfl ⟨v2, rfl, hM, hb⟩

set_option maxRecDepth 100000 in
set_option maxHeartbeats 1000000 in
theorem implWriteCell_bad (cs : List CellD) (A : Option Addr) (q c : Nat) (x t y : Int) (w : World) (h : RdC w (.slice A q c) cs) (hl : cs.length + tagSum cs ≤ 1048590) (hB : memB cs = false) :
    Calls Tryd.prog 17 #[.slice A q c, .agg #[.int .i64 x, .int .i64 t], .int .i64 y] w (ChgPost w cs 4) := by
  have hb0 := ((Below.refl w.heap.size w).alloc (Nat.le_refl _) (.cells #[.int .i64 x, .int .i64 t] 30)).alloc (by simp) (.cells #[.int .i64 y] 3)
  have HB0 := Lib.hid hb0
  have HC := Lib.hid (changed_bad cs A q c (.func (.func 37) #[] #[.pointer (some ⟨w.heap.size, 0, none⟩), .pointer (some ⟨w.heap.size + 1, 0, none⟩)]) _ (h.below hb0) hl hB)
  clear h hl hB hb0
  go_enter Tryd.func17, Tryd.ntmps17
  go_wp2_with fail
  refine HC.out.mono ?_
  rintro E w2 ⟨A2, n2, c2, rfl, hR, hb⟩
  have hs := HB0.out.size
  have HR := Lib.hid (hR.mono hs)
  have hbf := HB0.out.trans (hb.mono hs)
  clear hR hb HC
  go_wp2_with fail
  exact bodyPost_ret (v := .tuple #[.slice A2 n2 c2, .int .i64 4]) (by simp [results, Tryd.results17, go_sem]) rfl ⟨_, _, _, rfl, HR.out, hbf⟩

set_option maxRecDepth 100000 in
set_option maxHeartbeats 1000000 in
theorem implWriteCell_gen (cs m2 : List CellD) (A : Option Addr) (q c : Nat) (x t y : Int) (ev : Value) (k : Int) (w : World) (h : RdC w (.slice A q c) cs) (hl : cs.length + tagSum cs ≤ 1048590) (hl2 : m2.length + tagSum m2 ≤ 1048600) (hB : memB cs = true)
    (hcl : ∀ w1 A1 c1, Below w.heap.size w w1 → RdM w1 (.slice A1 cs.length c1) cs → Calls Tryd.prog 38 #[.slice A1 cs.length c1, .agg #[.int .i64 x, .int .i64 t], .int .i64 y] w1 (MemPost w1 m2 ev))
    (hcode : ∀ w1, Below w.heap.size w w1 → Calls Tryd.prog 58 #[ev] w1 fun E w' => E = .returned (.int .i64 k) ∧ w' = w1) :
    Calls Tryd.prog 17 #[.slice A q c, .agg #[.int .i64 x, .int .i64 t], .int .i64 y] w (ChgPost w m2 k) := by
  have hb0 := ((Below.refl w.heap.size w).alloc (Nat.le_refl _) (.cells #[.int .i64 x, .int .i64 t] 30)).alloc (by simp) (.cells #[.int .i64 y] 3)
  have hX := alloc2_first w (.cells #[.int .i64 x, .int .i64 t] 30) (.cells #[.int .i64 y] 3)
  have hX2 := alloc2_second w (.cells #[.int .i64 x, .int .i64 t] 30) (.cells #[.int .i64 y] 3)
  have hz : ((w.alloc (.cells #[.int .i64 x, .int .i64 t] 30)).alloc (.cells #[.int .i64 y] 3)).heap.size = w.heap.size + 2 := by simp
  have hs := hb0.size
  have HB0 := Lib.hid hb0
  have HC := Lib.hid (changed_write cs m2 A q c (.pointer (some ⟨w.heap.size, 0, none⟩)) (.pointer (some ⟨w.heap.size + 1, 0, none⟩)) ev k _ (h.below hb0) hl hl2 hB (fun w1 A1 c1 hb hM => by
    have hY := (hb.block w.heap.size (by omega)).trans hX
    have hY2 := (hb.block (w.heap.size + 1) (by omega)).trans hX2
    exact writeCell1_any _ _ _ x t y m2 ev w1 ((cell_of_block hY 0).trans rfl) ((cell_of_block hY 1).trans rfl) ((cell_of_block hY2 0).trans rfl) (hcl w1 A1 c1 (hb0.trans (hb.mono hs)) hM)) (fun w1 hb => hcode w1 (hb0.trans (hb.mono hs))))
  clear h hl hB hb0 hX hX2 hcl hcode hz hs
  go_enter Tryd.func17, Tryd.ntmps17
  go_wp2_with fail
  refine HC.out.mono ?_
  rintro E w2 ⟨A2, n2, c2, rfl, hR, hb⟩
  have hs := HB0.out.size
  have HR := Lib.hid (hR.mono hs)
  have hbf := HB0.out.trans (hb.mono hs)
  clear hR hb HC
  go_wp2_with fail
  exact bodyPost_ret (v := .tuple #[.slice A2 n2 c2, .int .i64 k]) (by simp [results, Tryd.results17, go_sem]) rfl ⟨_, _, _, rfl, HR.out, hbf⟩

end Go.Proofs.YtnneamfndokleaaDoor
