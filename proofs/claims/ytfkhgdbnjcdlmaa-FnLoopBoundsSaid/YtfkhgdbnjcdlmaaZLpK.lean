/-
  The program's LoopOf, at any program.
-/
import Derived.Test.YtfkhgdbnjcdlmaaZLpI
namespace Go.Proofs.Ytfkhgdbnjcdlmaa
open Go.RowKit Go.Deep
set_option linter.unusedVariables false

/-- What LoopOf answers. -/
def AnsLp (ok : Bool) (s : Sts) (a : Int) (l : List Int) : Prop := l = loopI ok s a ∧ l.length ≤ 64

theorem AnsLp.unique {ok : Bool} {s : Sts} {a : Int} {l m : List Int} (h : AnsLp ok s a l) (k : AnsLp ok s a m) : l = m := h.1.trans k.1.symm

theorem AnsLp.length {ok : Bool} {s : Sts} {a : Int} {l : List Int} (h : AnsLp ok s a l) : l.length ≤ 64 := h.2

theorem ansLp_yes {ts : List Int} {s : Sts} {a : Int} (hv : validB ts s = true) : AnsLp (validB ts s) s a (rangeO (inner a s 0)) := by
  refine ⟨by unfold loopI; rw [hv]; rfl, ?_⟩
  cases hi : inner a s 0 with
  | none => simp [rangeO]
  | some z =>
    have := inner_range a s 0 z hi
    have := s.npts_le
    have := valid_size hv
    simp only [rangeO]
    rw [rangeI_len]
    omega

theorem ansLp_no {s : Sts} {a : Int} : AnsLp false s a [] := ⟨rfl, by simp⟩

set_option maxHeartbeats 1000000 in
theorem implLoopOf_any (ts : List Int) (s : Sts) (At As : Option Addr) (ct cs : Nat) (a : Int) (w : World) (hT : IntsV w 0 w.heap.size ts At ct) (hR : RepV w 0 w.heap.size s As cs) :
    Calls Try.prog 5 #[.agg #[.slice At ts.length ct, .slice As s.len cs], .int .i64 a] w fun E w' => ∃ v l, E = .returned v ∧ RowI w' w.heap.size v l ∧ AnsLp (validB ts s) s a l ∧ Below w.heap.size w w' := by
  cases hv : validB ts s
  · have hb0 := ((((Below.refl w.heap.size w).alloc (Nat.le_refl _) (.cells #[.slice At ts.length ct, .slice As s.len cs] 26)).alloc (by simp) (.cells #[.int .i64 a] 3))).alloc (by simp; omega) (.cells #[.slice none 0 0] 23)
    have hz0 : (((w.alloc (.cells #[.slice At ts.length ct, .slice As s.len cs] 26)).alloc (.cells #[.int .i64 a] 3)).alloc (.cells #[.slice none 0 0] 23)).heap.size = w.heap.size + 3 := by simp
    have hzB : ((w.alloc (.cells #[.slice At ts.length ct, .slice As s.len cs] 26)).alloc (.cells #[.int .i64 a] 3)).heap.size = w.heap.size + 2 := by simp
    have bR := heap_alloc_new ((w.alloc (.cells #[.slice At ts.length ct, .slice As s.len cs] 26)).alloc (.cells #[.int .i64 a] 3)) (.cells #[.slice none 0 0] 23)
    rw [hzB] at bR
    have hS := graphOf_no ts s At As ct cs (((w.alloc (.cells #[.slice At ts.length ct, .slice As s.len cs] 26)).alloc (.cells #[.int .i64 a] 3)).alloc (.cells #[.slice none 0 0] 23)) hv (hT.below hb0 (by simp; omega)) (hR.below hb0 (by simp; omega))
    have HBR := Lib.hid bR
    have HZ := Lib.hid hz0
    clear hT hR hv bR hzB hz0
    go_enter Try.func5, Try.ntmps5
    go_wp2_with fail
    refine hS.mono ?_
    rintro E w1 ⟨rfl, hb1⟩
    rw [HZ.out] at hb1
    have hb : Below w.heap.size w w1 := hb0.trans (hb1.mono (by omega))
    have bR1 := (hb1.block (w.heap.size + 2) (by omega)).trans HBR.out
    have cR : w1.cell? ⟨w.heap.size + 1 + 1, 0, none⟩ = some (.slice none 0 0) := (cell_of_block bR1 0).trans rfl
    have fR : w1.frozen? ⟨w.heap.size + 1 + 1, 0, none⟩ = false := frozen_of_row _ _ _ _ _ bR1
    have cR2 : (w1.setCell ⟨w.heap.size + 1 + 1, 0, none⟩ (.slice none 0 0)).cell? ⟨w.heap.size + 1 + 1, 0, none⟩ = some (.slice none 0 0) := World.cell?_setCell_same' _ _ _ (by rw [cR]; rfl)
    clear hb1 hS
    go_wp2_with fail
    exact bodyPost_ret (v := .slice none 0 0) (by simp [results, Try.results5, go_sem, cR2]) rfl ⟨_, [], rfl, World.ownsRow_nil _ w.heap.size 3 1, ansLp_no, hb.setCell (p := ⟨w.heap.size + 2, 0, none⟩) (by simp) _⟩
  · refine (implLoopOf_yes ts s At As ct cs a w hv hT hR).mono ?_
    rintro E w' ⟨v, rfl, hrow, hb⟩
    exact ⟨v, _, rfl, hrow, by rw [← hv]; exact ansLp_yes hv, hb⟩

end Go.Proofs.Ytfkhgdbnjcdlmaa
