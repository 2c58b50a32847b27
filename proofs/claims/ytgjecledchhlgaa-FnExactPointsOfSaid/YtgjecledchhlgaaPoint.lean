/-
  Points: their sizes, copies, comparisons and readings.
-/
import Derived.Test.YtgjecledchhlgaaSize
import Derived.Test.YtgjecledchhlgaaCopy
import Derived.Test.YtgjecledchhlgaaEqual
import Derived.Test.YtgjecledchhlgaaRead
namespace Go.Proofs.Ytgjecledchhlgaa
open Go.ChangeShapes Go.WideShapes Go.ChangeAt Go.RowKit Go.Deep Go.Joins
set_option linter.unusedVariables false

theorem szPoint_any (op x y n : Int) (nx c : Nat) (A : Option Addr) (L : Int) (w : World) (hn : nx ≤ c) (hc : c ≤ maxLen) (hL : 0 ≤ L) (hL2 : L ≤ 1048576) :
    Calls Try.prog 12 #[.agg #[.int .i64 op, .int .i64 x, .int .i64 y, .int .i64 n, .slice A nx c], .int .i64 L] w fun e w' => e = .returned (.int .i64 (subI L nx)) ∧ Below w.heap.size w w' := by
  by_cases h1 : (nx : Int) ≤ L
  · have e1 : subI L nx = L - nx := if_pos h1
    have E1 := Lib.hid e1
    clear e1
    go_enter Try.func12, Try.ntmps12
    go_wp2_with fail
    refine (szIntS_any nx c A L _ hn hc hL hL2).mono ?_
    rintro e' w1 ⟨he, rfl⟩
    rw [E1.out] at he
    subst he
    go_wp2_with fail
    go_ret
    exact ⟨by rw [E1.out]; rfl, (Below.refl _ _).alloc (Nat.le_refl _) _⟩
  · have e1 : subI L nx = -1 := if_neg h1
    have E1 := Lib.hid e1
    clear e1
    go_enter Try.func12, Try.ntmps12
    go_wp2_with fail
    refine (szIntS_any nx c A L _ hn hc hL hL2).mono ?_
    rintro e' w1 ⟨he, rfl⟩
    rw [E1.out] at he
    subst he
    go_wp2_with fail
    go_ret
    exact ⟨by rw [E1.out]; rfl, (Below.refl _ _).alloc (Nat.le_refl _) _⟩

/-- What a copy of a point answers. -/
def PointPost (w : World) (op x y n : Int) (xs : List Int) (E : Ending) (w' : World) : Prop :=
  ∃ g, E = .returned (.agg #[.int .i64 op, .int .i64 x, .int .i64 y, .int .i64 n, .slice (some ⟨g, 0, none⟩) xs.length xs.length]) ∧ IntsV w' w.heap.size w'.heap.size xs (some ⟨g, 0, none⟩) xs.length ∧ Below w.heap.size w w'

set_option maxHeartbeats 1000000 in
theorem toPoint_any (op x y n : Int) (xs : List Int) (A : Option Addr) (c : Nat) (w : World) (hl : xs.length ≤ 1048576) (hI : IntsV w 0 w.heap.size xs A c) :
    Calls Try.prog 14 #[.agg #[.int .i64 op, .int .i64 x, .int .i64 y, .int .i64 n, .slice A xs.length c]] w (PointPost w op x y n xs) := by
  have hb0 := ((((Below.refl w.heap.size w).alloc (Nat.le_refl _) (.cells #[.int .i64 op, .int .i64 x, .int .i64 y, .int .i64 n, .slice A xs.length c] 24)).alloc (by simp) (.cells #[.int .i64 0, .int .i64 0, .int .i64 0, .int .i64 0, .slice none 0 0] 27)).alloc (by simp; omega) (.cells #[.int .i64 op, .int .i64 x, .int .i64 y, .int .i64 n, .slice none 0 0] 27))
  go_enter Try.func14, Try.ntmps14
  go_wp2_with fail
  refine (toIntS_any xs A c _ hl (hI.below hb0 (by simp; omega))).mono ?_
  rintro E w1 ⟨rfl, hR1, hb1⟩
  obtain ⟨q1, q2, q3, q4⟩ := heap3 w (.cells #[.int .i64 op, .int .i64 x, .int .i64 y, .int .i64 n, .slice A xs.length c] 24) (.cells #[.int .i64 0, .int .i64 0, .int .i64 0, .int .i64 0, .slice none 0 0] 27) (.cells #[.int .i64 op, .int .i64 x, .int .i64 y, .int .i64 n, .slice none 0 0] 27)
  rw [q4] at hR1 hb1 ⊢
  have hB2 := (hb1.block (w.heap.size + 1) (by omega)).trans q2
  have hB3 := (hb1.block (w.heap.size + 2) (by omega)).trans q3
  have hs1 := hb1.size
  rw [q4] at hs1
  have hb : Below w.heap.size w w1 := hb0.trans (hb1.mono (by omega))
  clear q1 q2 q3 q4 hb1 hb0
  have v0 : w1.cell? ⟨w.heap.size + 2, 0, none⟩ = some (.int .i64 op) := (cell_of_block hB3 0).trans rfl
  have v1 : w1.cell? ⟨w.heap.size + 2, 1, none⟩ = some (.int .i64 x) := (cell_of_block hB3 1).trans rfl
  have v2 : w1.cell? ⟨w.heap.size + 2, 2, none⟩ = some (.int .i64 y) := (cell_of_block hB3 2).trans rfl
  have v3 : w1.cell? ⟨w.heap.size + 2, 3, none⟩ = some (.int .i64 n) := (cell_of_block hB3 3).trans rfl
  have v4 : w1.cell? ⟨w.heap.size + 2, 4, none⟩ = some (.slice none 0 0) := (cell_of_block hB3 4).trans rfl
  have r0 : w1.cell? ⟨w.heap.size + 1, 0, none⟩ = some (.int .i64 0) := (cell_of_block hB2 0).trans rfl
  have fr0 := frozen_of_block hB2 0
  have r1 : w1.cell? ⟨w.heap.size + 1, 1, none⟩ = some (.int .i64 0) := (cell_of_block hB2 1).trans rfl
  have fr1 := frozen_of_block hB2 1
  have r2 : w1.cell? ⟨w.heap.size + 1, 2, none⟩ = some (.int .i64 0) := (cell_of_block hB2 2).trans rfl
  have fr2 := frozen_of_block hB2 2
  have r3 : w1.cell? ⟨w.heap.size + 1, 3, none⟩ = some (.int .i64 0) := (cell_of_block hB2 3).trans rfl
  have fr3 := frozen_of_block hB2 3
  have r4 : w1.cell? ⟨w.heap.size + 1, 4, none⟩ = some (.slice none 0 0) := (cell_of_block hB2 4).trans rfl
  have fr4 := frozen_of_block hB2 4
  have f4 := frozen_of_block hB3 4
  have HR1 := Lib.hid hR1
  clear hB2 hB3 hR1
  go_wp2_with fail
  refine bodyPost_ret (v := .agg #[.int .i64 op, .int .i64 x, .int .i64 y, .int .i64 n, .slice (some ⟨w.heap.size + 3, 0, none⟩) xs.length xs.length]) (by simp [results, Try.results14, go_sem, r0, r1, r2, r3, r4]) rfl ⟨w.heap.size + 3, rfl, ?_, ?_⟩
  · refine HR1.out.keep (by omega) (by simp [World.setCell]) fun p hp _ => ?_
    repeat rw [World.cell?_setCell_other _ _ _ _ (fun e => by subst e; simp at hp <;> omega)]
  · exact (((((hb.setCell (by simp; omega) _).setCell (by simp) _).setCell (by simp) _).setCell (by simp) _).setCell (by simp) _).setCell (by simp) _

set_option maxHeartbeats 1000000 in
theorem eqPoint_any (op x y n : Int) (xs : List Int) (A A' : Option Addr) (c c' : Nat) (w : World) (hI : IntsV w 0 w.heap.size xs A c) (hI' : IntsV w 0 w.heap.size xs A' c') :
    Calls Try.prog 16 #[.agg #[.int .i64 op, .int .i64 x, .int .i64 y, .int .i64 n, .slice A xs.length c], .agg #[.int .i64 op, .int .i64 x, .int .i64 y, .int .i64 n, .slice A' xs.length c']] w fun e w' => e = .returned (.bool true) ∧ Below w.heap.size w w' := by
  have hb0 := ((Below.refl w.heap.size w).alloc (Nat.le_refl _) (.cells #[.int .i64 op, .int .i64 x, .int .i64 y, .int .i64 n, .slice A xs.length c] 27)).alloc (by simp) (.cells #[.int .i64 op, .int .i64 x, .int .i64 y, .int .i64 n, .slice A' xs.length c'] 27)
  go_enter Try.func16, Try.ntmps16
  go_wp2_with fail
  refine (eqIntS_any xs A A' c c' _ (hI.below hb0 (by simp; omega)) (hI'.below hb0 (by simp; omega))).mono ?_
  rintro E w1 ⟨rfl, hb1⟩
  go_wp2_with fail
  go_ret
  exact ⟨rfl, hb0.trans (hb1.mono (by simp; omega))⟩

theorem Try.cellsPointR : Try.prog.cellsOf 24 = 5 := by kernel_rfl

theorem list5 {α : Type} {l : List α} (h : l.length = 5) : ∃ a b c d e, l = [a, b, c, d, e] := by
  match l, h with
  | [a, b, c, d, e], _ => exact ⟨a, b, c, d, e, rfl⟩

section
variable {H : Type} {enc : TypeId × Value → H} {W : World} {spare : Nat → Bool} {held : Bool}
set_option maxRecDepth 100000 in
theorem read_point {fuel : Nat} {cs : List Value} {x : DataW H × List MemPlace} (h : DataW.trod enc Try.prog W 0 spare held fuel 24 cs = some x) :
    ∃ op x y n xs A c, cs = [.int .i64 op, .int .i64 x, .int .i64 y, .int .i64 n, .slice A xs.length c] ∧ IntsV W 0 W.heap.size xs A c := by
  obtain ⟨ys, n', hn', _, hlen, hyl, hf⟩ := DataW.trod_struct Try.underlying24 h
  rw [Try.cellsPointR] at hlen
  obtain ⟨c0, c1, c2, c3, c4, rfl⟩ := list5 hlen
  have g0 : DataW.trod enc Try.prog W 0 spare held n' 3 (([c0, c1, c2, c3, c4].drop 0).take (Try.prog.cellsOf 3)) = ys[0]? := hf 0 _ rfl
  have g1 : DataW.trod enc Try.prog W 0 spare held n' 3 (([c0, c1, c2, c3, c4].drop 1).take (Try.prog.cellsOf 3)) = ys[1]? := hf 1 _ rfl
  have g2 : DataW.trod enc Try.prog W 0 spare held n' 3 (([c0, c1, c2, c3, c4].drop 2).take (Try.prog.cellsOf 3)) = ys[2]? := hf 2 _ rfl
  have g3 : DataW.trod enc Try.prog W 0 spare held n' 3 (([c0, c1, c2, c3, c4].drop 3).take (Try.prog.cellsOf 3)) = ys[3]? := hf 3 _ rfl
  have g4 : DataW.trod enc Try.prog W 0 spare held n' 22 (([c0, c1, c2, c3, c4].drop 4).take (Try.prog.cellsOf 22)) = ys[4]? := hf 4 _ rfl
  have hys : ys.length = 5 := hyl
  rw [List.getElem?_eq_getElem (by omega)] at g0 g1 g2 g3 g4
  simp only [Try.cellsIntR, Try.cellsIntsR, List.drop_succ_cons, List.drop_zero, List.take_succ_cons, List.take_zero] at g0 g1 g2 g3 g4
  obtain ⟨op, e0, _, _⟩ := DataW.trod_int Try.underlying3 g0
  obtain ⟨x, e1, _, _⟩ := DataW.trod_int Try.underlying3 g1
  obtain ⟨y, e2, _, _⟩ := DataW.trod_int Try.underlying3 g2
  obtain ⟨n, e3, _, _⟩ := DataW.trod_int Try.underlying3 g3
  obtain ⟨xs, A, c, e4, r4⟩ := read_ints g4
  injection e0 with e0 _
  injection e1 with e1 _
  injection e2 with e2 _
  injection e3 with e3 _
  exact ⟨op, x, y, n, xs, A, c, by rw [e0, e1, e2, e3, e4], r4⟩

end
end Go.Proofs.Ytgjecledchhlgaa
