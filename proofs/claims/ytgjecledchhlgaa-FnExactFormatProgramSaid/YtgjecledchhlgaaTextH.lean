/-
  The program's texts of choices, loops and lists of statements.
-/
import Derived.Test.YtgjecledchhlgaaTextG
import Derived.Deep.RegionHeld3
namespace Go.Proofs.Ytgjecledchhlgaa
open Go.RowKit Go.Deep
set_option linter.unusedVariables false

set_option maxRecDepth 100000 in
set_option maxHeartbeats 2000000 in
theorem text_10 (x y n : Int) (t e : Sts) (At : Option Addr) (ct : Nat) (w : World) (hs : t.size ≤ 100000)
    (HT : ∀ w', Below w.heap.size w w' → Calls Try.prog 66 #[.slice At t.len ct] w' (Txt w' (listT t))) :
    Calls Try.prog 212 #[.agg #[.slice At t.len ct]] w (Txt w (stmtT 10 x y n (listT t) (listT e))) := by
  have hb0 := (Below.refl w.heap.size w).alloc (Nat.le_refl _) (.cells #[.slice At t.len ct] 126)
  have hle := listT_le t
  have ka := fun W => bytes_add Try.prog [108, 111, 111, 112, 123] (listT t) W (by simp) (by omega)
  have kb := fun W => bytes_add Try.prog ([108, 111, 111, 112, 123] ++ listT t) [125] W (by simp; omega) (by simp)
  have hst : Hid (stmtT 10 x y n (listT t) (listT e) = ([108, 111, 111, 112, 123] ++ listT t) ++ [125]) := rfl
  go_enter Try.func212, Try.ntmps212
  go_wp2_with fail
  refine (HT _ hb0).mono ?_
  rintro E w1 ⟨rfl, hb1⟩
  generalize listT t = tt at *
  go_wp2_with fail
  go_ret
  exact ⟨by rw [hst.out]; rfl, hb0.trans (hb1.mono (by simp))⟩

set_option maxRecDepth 100000 in
set_option maxHeartbeats 4000000 in
theorem text_9 (x y n : Int) (t e : Sts) (At Ae : Option Addr) (ct ce : Nat) (w : World) (hs : t.size + e.size ≤ 100000)
    (HT : ∀ w', Below w.heap.size w w' → Calls Try.prog 66 #[.slice At t.len ct] w' (Txt w' (listT t)))
    (HE : ∀ w', Below w.heap.size w w' → Calls Try.prog 66 #[.slice Ae e.len ce] w' (Txt w' (listT e))) :
    Calls Try.prog 209 #[.agg #[.slice At t.len ct, .slice Ae e.len ce]] w (Txt w (stmtT 9 x y n (listT t) (listT e))) := by
  have hb0 := (Below.refl w.heap.size w).alloc (Nat.le_refl _) (.cells #[.slice At t.len ct, .slice Ae e.len ce] 124)
  have hle := listT_le t
  have hle2 := listT_le e
  have hst : stmtT 9 x y n (listT t) (listT e) = ((([105, 102, 123] ++ listT t) ++ [125, 123]) ++ listT e) ++ [125] := rfl
  rw [hst]
  have ka := fun W => bytes_add Try.prog [105, 102, 123] (listT t) W (by simp) (by omega)
  have kb := fun W => bytes_add Try.prog ([105, 102, 123] ++ listT t) [125, 123] W (by simp; omega) (by simp)
  have kc := fun W => bytes_add Try.prog (([105, 102, 123] ++ listT t) ++ [125, 123]) (listT e) W (by simp; omega) (by omega)
  have kd := fun W => bytes_add Try.prog ((([105, 102, 123] ++ listT t) ++ [125, 123]) ++ listT e) [125] W (by simp; omega) (by simp)
  unfold Txt at HT HE ⊢
  generalize (⟨(((([105, 102, 123] ++ listT t) ++ [125, 123]) ++ listT e) ++ [125]).toArray⟩ : ByteArray) = S4 at kd ⊢
  generalize (⟨((([105, 102, 123] ++ listT t) ++ [125, 123]) ++ listT e).toArray⟩ : ByteArray) = S3 at kc kd
  generalize (⟨(([105, 102, 123] ++ listT t) ++ [125, 123]).toArray⟩ : ByteArray) = S2 at kb kc
  generalize (⟨([105, 102, 123] ++ listT t).toArray⟩ : ByteArray) = S1 at ka kb
  generalize (⟨(listT t).toArray⟩ : ByteArray) = T1 at ka HT
  generalize (⟨(listT e).toArray⟩ : ByteArray) = T2 at kc HE
  have hbw : w.heap.size < (w.alloc (.cells #[.slice At t.len ct, .slice Ae e.len ce] 124)).heap.size := by simp
  have hg := heap_alloc_new w (.cells #[.slice At t.len ct, .slice Ae e.len ce] 124)
  have q0 : (w.alloc (.cells #[.slice At t.len ct, .slice Ae e.len ce] 124)).cell? ⟨w.heap.size, 0, none⟩ = some (.slice At t.len ct) := (cell_of_block hg 0).trans rfl
  have q1 : (w.alloc (.cells #[.slice At t.len ct, .slice Ae e.len ce] 124)).cell? ⟨w.heap.size, 1, none⟩ = some (.slice Ae e.len ce) := (cell_of_block hg 1).trans rfl
  have HQ0 := Lib.hid q0
  have HQ1 := Lib.hid q1
  clear hg q0 q1 hle hle2 hst
  go_enter Try.func209, Try.ntmps209
  go_wp2_with fail
  obtain ⟨w1, hw1⟩ : ∃ w1, w1 = w.alloc (.cells #[.slice At t.len ct, .slice Ae e.len ce] 124) := ⟨_, rfl⟩
  rw [← hw1] at hb0 hbw HQ0 HQ1 ⊢
  clear hw1
  have q0 := HQ0.out
  have q1 := HQ1.out
  clear HQ0 HQ1
  go_region_held3 (fun w' => Below w1.heap.size w1 w' ∧ w'.cell? ⟨w.heap.size, 0, none⟩ = some (.slice At t.len ct) ∧ w'.cell? ⟨w.heap.size, 1, none⟩ = some (.slice Ae e.len ce))
    (first | exact ⟨(Below.refl w1.heap.size w1).drew, q0, q1⟩ | exact held_c2 hbn (And.left ‹Below w1.heap.size w1 _ ∧ _›) rfl (by omega) q0 q1)
    (first
      | (go_at_call_of 66 At; refine (HT _ ?_).mono ?_; (have hbx := And.left ‹Below w1.heap.size w1 _ ∧ _›; exact hb0.trans (hbx.mono (by omega))); rintro E w' ⟨rfl, hbn⟩)
      | (go_at_call_of 66 Ae; refine (HE _ ?_).mono ?_; (have hbx := And.left ‹Below w1.heap.size w1 _ ∧ _›; exact hb0.trans (hbx.mono (by omega))); rintro E w' ⟨rfl, hbn⟩))
  have hbl := And.left ‹Below w1.heap.size w1 _ ∧ _›
  go_wp2_with fail
  go_ret
  exact ⟨rfl, hb0.trans (hbl.mono (by omega))⟩

theorem listText_any (N : Nat) : ∀ (s : Sts) (A : Option Addr) (c : Nat) (w : World), s.size < N → s.size ≤ 1000 → okT s → RepV w 0 w.heap.size s A c →
    Calls Try.prog 66 #[.slice A s.len c] w (Txt w (listT s)) := by
  induction N with
  | zero => intro s A c w h; omega
  | succ N ih =>
    intro s A c w hN hsz hok hR
    have hrd : ∀ (u : Sts) (B : Option Addr) (cb : Nat) (wr w2 : World), Below w.heap.size w wr → RepV wr 0 w.heap.size u B cb → Below w.heap.size w w2 → RepV w2 0 w2.heap.size u B cb := fun u B cb wr w2 hbr hRu hb2 =>
      hRu.keep (Nat.le_refl _) hb2.size fun p _ hp => (hb2.cell hp).trans (hbr.cell hp).symm
    refine listText_of s A c w hsz hok hR ?_ ?_
    · intro k x y n t e At Ae ct ce w' wr hdr hbr hRt hRe hb'
      have hz := RepV.drop_sizes hdr
      have hd := okT_drop s k hok
      rw [hdr] at hd
      have hz2 : t.size + e.size ≤ s.size := by
        have := s.drop_size_le k
        rw [hdr] at this
        simp only [Sts.size] at this
        omega
      exact text_9 x y n t e At Ae ct ce w' (by omega)
        (fun w2 hb2 => ih t At ct w2 (by omega) (by omega) hd.2.1 (hrd t At ct wr w2 hbr hRt (hb'.trans (hb2.mono hb'.size))))
        (fun w2 hb2 => ih e Ae ce w2 (by omega) (by omega) hd.2.2.1 (hrd e Ae ce wr w2 hbr hRe (hb'.trans (hb2.mono hb'.size))))
    · intro k x y n t e At Ae ct ce w' wr hdr hbr hRt hRe hb'
      have hz := RepV.drop_sizes hdr
      have hd := okT_drop s k hok
      rw [hdr] at hd
      exact text_10 x y n t e At ct w' (by omega)
        (fun w2 hb2 => ih t At ct w2 (by omega) (by omega) hd.2.1 (hrd t At ct wr w2 hbr hRt (hb'.trans (hb2.mono hb'.size))))

end Go.Proofs.Ytgjecledchhlgaa
