/-
  The model's text of a program.
-/
import Derived.Test.YtcaklhempmlpgaaTextC
import Derived.Test.YtcaklhempmlpgaaSpecD
namespace Go.Proofs.Ytcaklhempmlpgaa
open Go.RowKit Go.Deep
set_option linter.unusedVariables false

theorem specText_any (op x y n : Int) (t e : Sts) (At Ae : Option Addr) (ct ce : Nat) (w : World) (hs : t.size + e.size ≤ 100000) (hok : 1 ≤ op ∧ op ≤ 10 ∧ (op ≤ 8 → 0 ≤ x ∧ x ≤ 5 ∧ 0 ≤ y ∧ y ≤ 5 ∧ 0 ≤ n ∧ n ≤ 9))
    (HT : ∀ w', Below w.heap.size w w' → Calls Try.prog 58 #[.slice At t.len ct] w' (Txt w' (listT t)))
    (HE : ∀ w', Below w.heap.size w w' → Calls Try.prog 58 #[.slice Ae e.len ce] w' (Txt w' (listT e))) :
    Calls Try.prog 65 #[.agg #[.int .i64 op, .int .i64 x, .int .i64 y, .int .i64 n, .slice At t.len ct, .slice Ae e.len ce]] w (Txt w (stmtT op x y n (listT t) (listT e))) := by
  obtain ⟨h1, h10, h8⟩ := hok
  by_cases e1 : op = 1
  · subst e1
    have h := h8 (by omega)
    exact specText_1 x y n _ _ w ⟨h.1, h.2.1⟩ ⟨h.2.2.1, h.2.2.2.1⟩ ⟨h.2.2.2.2.1, h.2.2.2.2.2⟩
  by_cases e2 : op = 2
  · subst e2
    have h := h8 (by omega)
    exact specText_2 x y n _ _ w ⟨h.1, h.2.1⟩ ⟨h.2.2.1, h.2.2.2.1⟩ ⟨h.2.2.2.2.1, h.2.2.2.2.2⟩
  by_cases e3 : op = 3
  · subst e3
    have h := h8 (by omega)
    exact specText_3 x y n _ _ w ⟨h.1, h.2.1⟩ ⟨h.2.2.1, h.2.2.2.1⟩ ⟨h.2.2.2.2.1, h.2.2.2.2.2⟩
  by_cases e4 : op = 4
  · subst e4
    have h := h8 (by omega)
    exact specText_4 x y n _ _ w ⟨h.1, h.2.1⟩ ⟨h.2.2.1, h.2.2.2.1⟩ ⟨h.2.2.2.2.1, h.2.2.2.2.2⟩
  by_cases e5 : op = 5
  · subst e5
    have h := h8 (by omega)
    exact specText_5 x y n _ _ w ⟨h.1, h.2.1⟩ ⟨h.2.2.1, h.2.2.2.1⟩ ⟨h.2.2.2.2.1, h.2.2.2.2.2⟩
  by_cases e6 : op = 6
  · subst e6
    have h := h8 (by omega)
    exact specText_6 x y n _ _ w ⟨h.1, h.2.1⟩ ⟨h.2.2.1, h.2.2.2.1⟩ ⟨h.2.2.2.2.1, h.2.2.2.2.2⟩
  by_cases e7 : op = 7
  · subst e7
    have h := h8 (by omega)
    exact specText_7 x y n _ _ w ⟨h.1, h.2.1⟩ ⟨h.2.2.1, h.2.2.2.1⟩ ⟨h.2.2.2.2.1, h.2.2.2.2.2⟩
  by_cases e8 : op = 8
  · subst e8
    have h := h8 (by omega)
    exact specText_8 x y n _ _ w ⟨h.1, h.2.1⟩ ⟨h.2.2.1, h.2.2.2.1⟩ ⟨h.2.2.2.2.1, h.2.2.2.2.2⟩
  by_cases e9 : op = 9
  · subst e9
    exact specText_9 x y n t e At Ae ct ce w hs HT HE
  · obtain rfl : op = 10 := by omega
    exact specText_10 x y n t e At Ae ct ce w (by omega) HT

theorem specList_any (N : Nat) : ∀ (s : Sts) (A : Option Addr) (c : Nat) (w : World), s.size < N → s.size ≤ 100000 → okT s → RepV w 0 w.heap.size s A c → Calls Try.prog 58 #[.slice A s.len c] w (Txt w (listT s)) := by
  induction N with
  | zero => intro s A c w h; omega
  | succ N ih =>
    intro s A c w hN hsz hok hR
    refine l1List_of s A c w hsz hR fun k op x y n t e At Ae ct ce w' hdr hb hRt hRe => ?_
    have hz := s.drop_size_le k
    rw [hdr] at hz
    simp only [Sts.size] at hz
    have hd := okT_drop s k hok
    rw [hdr] at hd
    exact specText_any op x y n t e At Ae ct ce w' (by omega) hd.1 (fun w2 hb2 => ih t At ct w2 (by omega) (by omega) hd.2.1 (hRt.below hb2 hb2.size)) (fun w2 hb2 => ih e Ae ce w2 (by omega) (by omega) hd.2.2.1 (hRe.below hb2 hb2.size))

end Go.Proofs.Ytcaklhempmlpgaa
