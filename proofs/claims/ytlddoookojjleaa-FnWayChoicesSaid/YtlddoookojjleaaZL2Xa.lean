/-
  The model's points of a program, and its choices.
-/
import Derived.Test.YtlddoookojjleaaZPtsX
import Derived.Test.YtlddoookojjleaaZSpecX
namespace Go.Proofs.Ytlddoookojjleaa
open Go.RowKit Go.Deep
set_option linter.unusedVariables false

set_option maxRecDepth 100000 in
set_option maxHeartbeats 4000000 in
theorem l2Points_any (ts : List Int) (s : Sts) (At As : Option Addr) (ct cs : Nat) (w : World) (hsz : s.size ≤ 1000000) (hR : RepV w 0 w.heap.size s As cs) :
    Calls Try.prog 48 #[.agg #[.slice At ts.length ct, .slice As s.len cs]] w fun E w' => ∃ v, E = .returned v ∧ PRow w' w.heap.size v (progPts s) ∧ Below w.heap.size w w' := by
  have hnp := s.npts_le
  obtain ⟨i0, hi, hz0, hz1, hz2⟩ := info_parts Try.infoPoint
  have HI := Lib.hid hi
  have HZ0 := Lib.hid hz0
  have HZ1 := Lib.hid hz1
  have HZ2 := Lib.hid hz2
  clear hi hz0 hz1 hz2
  have hb0 := ((Below.refl w.heap.size w).alloc (Nat.le_refl _) (.cells #[.slice At ts.length ct, .slice As s.len cs] 31)).alloc (by simp) (.cells #[] 66)
  have hP0 : PRow ((w.alloc (.cells #[.slice At ts.length ct, .slice As s.len cs] 31)).alloc (.cells #[] 66)) w.heap.size (.slice (some ⟨w.heap.size + 1, 0, none⟩) 0 0) [] := by
    have := PRow.nil (w := (w.alloc (.cells #[.slice At ts.length ct, .slice As s.len cs] 31))) (B := w.heap.size) (by simp)
    have hz : (w.alloc (.cells #[.slice At ts.length ct, .slice As s.len cs] 31)).heap.size = w.heap.size + 1 := by simp
    rw [hz] at this
    exact this
  have hR1 : RepV ((w.alloc (.cells #[.slice At ts.length ct, .slice As s.len cs] 31)).alloc (.cells #[] 66)) 0 w.heap.size s As cs := hR.keep (Nat.le_refl _) (Nat.le_refl _) fun p _ hp => hb0.cell hp
  have HP0 := Lib.hid hP0
  have HR1 := Lib.hid hR1
  have HN : Hid ((s.pts 0).length = s.npts) := s.pts_len 0
  clear hP0 hR1
  go_enter Try.func48, Try.ntmps48
  go_wp2_with fail
  refine (l2Add_any (s.size + 1) w.heap.size s As cs [] _ _ (by omega) hsz (by simp; omega) HR1.out HP0.out (by simp; omega)).mono ?_
  rintro E w1 ⟨v1, rfl, hP1, hO1⟩
  have HP1 : Hid (PRow w1 w.heap.size v1 (s.pts 0)) := hP1
  have HO1 := Lib.hid hO1
  have hw1 : w.heap.size ≤ w1.heap.size := by have := hO1.size; simp at this; omega
  obtain ⟨Av, cv, hv⟩ := HP1.out.slice
  rw [HN.out] at hv
  subst hv
  obtain ⟨xs1, ho1, hc1⟩ := HP1.out.parts HN
  have HX1 := Lib.hid ho1
  have HC1 := Lib.hid hc1
  clear hP1 hO1 ho1 hc1
  go_wp2_with (at_builtin; refine wpList_append_lies _ rfl _ _ 51 rfl w.heap.size 66 i0 (.agg #[.int .i64 0, .int .i64 0, .int .i64 0, .int .i64 0, .slice none 0 0]) 5 56 Try.underlying51 HI.out HZ0.out HZ1.out HZ2.out rfl (by decide) _ _ _ rfl (HX1.out.alloc _) ⟨_, 0, none⟩ 1 1 [.int .i64 11, .int .i64 0, .int .i64 0, .int .i64 0, .slice none 0 0] rfl rfl ?p11 ?p12 (by decide) ?p13 ?p14 ?p15 _ rfl ?_)
  try (case p11 => exact news_cell (by simp) rfl)
  case p12 =>
    intro u hu
    simp only [List.mem_cons, List.not_mem_nil, or_false] at hu
    rcases hu with rfl | rfl | rfl | rfl | rfl <;> rfl
  case p13 => unfold maxLen; omega
  case p14 => omega
  case p15 => simp; omega
  intro g cap w2 hown' hg hat hlt'
  have hbA := (Below.refl w1.heap.size w1).alloc (Nat.le_refl _) (.cells #[.int .i64 11, .int .i64 0, .int .i64 0, .int .i64 0, .slice none 0 0] 66)
  obtain ⟨hP', hO'⟩ := PRow.appended_at (d := ⟨11, 0, 0, 0, []⟩) HN (HX1.out.alloc _) (fun k d hd => (HC1.out k d hd).kept (below_grown hbA) (fun g e => by cases e)) (.inl ⟨rfl, rfl⟩) hg (hat.imp id fun e => e.trans (by simp)) hown'
  have HP2 : Hid (PRow w2 w.heap.size (.slice (some ⟨g, 0, none⟩) (s.npts + 1) cap) (progPts s)) := hP'
  have hb2 : Below w.heap.size w w2 := hb0.trans ((HO1.out.trans ((Onto.of_below hbA _).trans hO')).below HP0.out (by simp; omega))
  clear hown' hg hat hbA hP' hO' HX1 HC1 HO1 HP1
  go_wp2_with fail
  go_ret
  exact ⟨_, rfl, HP2.out, hb2⟩

theorem PRow.mono {w : World} {B B' : Nat} {v : Value} {ns : List Nd} (h : PRow w B v ns) (hb : B' ≤ B) : PRow w B' v ns := by
  obtain ⟨xs, ho, hc⟩ := h
  refine ⟨xs, ⟨ho.1, ?_⟩, fun k d hd => ?_⟩
  · rcases ho.2 with h | ⟨g, cap, cur, h1, h2, h3⟩
    · exact .inl h
    · exact .inr ⟨g, cap, cur, h1, Nat.le_trans hb h2, h3⟩
  · obtain ⟨u, h5, hn⟩ := hc k d hd
    refine ⟨u, h5, ?_⟩
    rcases hn with hn | ⟨g, e1, e2, e3⟩
    · exact .inl hn
    · exact .inr ⟨g, e1, Nat.le_trans hb e2, e3⟩

/-- What the model's PointsOf answers. -/
def pointsB (ok : Bool) (s : Sts) : List Nd := if ok then progPts s else []

end Go.Proofs.Ytlddoookojjleaa
