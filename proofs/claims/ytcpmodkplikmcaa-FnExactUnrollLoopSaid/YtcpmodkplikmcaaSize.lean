/-
  The sizes of statements: what the laws' own counting of values answers.
-/
import Derived.Test.YtcpmodkplikmcaaRows
import Derived.Test.YtcpmodkplikmcaaData
import Derived.WalkKit
import Derived.WalkSpells
import Derived.Lib.Hide
namespace Go.Proofs.Ytcpmodkplikmcaa
open Go.RowKit Go.Deep

def subI (L : Int) (m : Nat) : Int := if (m : Int) ≤ L then L - m else -1

set_option maxHeartbeats 400000 in
theorem szStmt_any (op x y n : Int) (t e : Sts) (At Ae : Option Addr) (ct ce : Nat) (L : Int) (w : World) (hL : 0 ≤ L) (hL2 : L ≤ 1048576)
    (Ht : ∀ (L : Int) (w' : World), Below w.heap.size w w' → 0 ≤ L → L ≤ 1048576 → Calls Try.prog 37 #[.slice At t.len ct, .int .i64 L] w' fun e w'' => e = .returned (.int .i64 (subI L t.size)) ∧ Below w'.heap.size w' w'')
    (He : ∀ (L : Int) (w' : World), Below w.heap.size w w' → 0 ≤ L → L ≤ 1048576 → Calls Try.prog 37 #[.slice Ae e.len ce, .int .i64 L] w' fun e' w'' => e' = .returned (.int .i64 (subI L e.size)) ∧ Below w'.heap.size w' w'') :
    Calls Try.prog 77 #[.agg #[.int .i64 op, .int .i64 x, .int .i64 y, .int .i64 n, .slice At t.len ct, .slice Ae e.len ce], .int .i64 L] w fun e' w' => e' = .returned (.int .i64 (subI L (t.size + e.size))) ∧ Below w.heap.size w w' := by
  by_cases h1 : (t.size : Int) ≤ L
  · have e1 : subI L t.size = L - t.size := if_pos h1
    by_cases h2 : (t.size : Int) + e.size ≤ L
    · have e2 : subI (L - t.size) e.size = L - t.size - e.size := if_pos (by omega)
      have e3 : subI L (t.size + e.size) = L - t.size - e.size := by unfold subI; rw [if_pos (by omega)]; omega
      rw [e3]
      go_enter Try.func77, Try.ntmps77
      go_wp2_with fail
      refine (Ht L _ ((Below.refl _ _).alloc (Nat.le_refl _) _) hL hL2).mono ?_
      rintro e' w1 ⟨he, hb1⟩
      rw [e1] at he
      subst he
      have hs1 := hb1.size
      have hs0 : w.heap.size < w1.heap.size := by simp at hs1; omega
      have hc5 := hb1.cell (p := ⟨w.heap.size, 5, none⟩) (by simp)
      have hb : Below w.heap.size w w1 := ((Below.refl _ _).alloc (Nat.le_refl _) _).trans (hb1.mono (by simp))
      go_wp2_with fail
      refine (He (L - t.size) _ hb (by omega) (by omega)).mono ?_
      rintro e' w2 ⟨he, hb2⟩
      rw [e2] at he
      subst he
      go_wp2_with fail
      go_ret
      exact ⟨rfl, hb.trans (hb2.mono (by omega))⟩
    · have e2 : subI (L - t.size) e.size = -1 := if_neg (by omega)
      have e3 : subI L (t.size + e.size) = -1 := if_neg (by omega)
      rw [e3]
      go_enter Try.func77, Try.ntmps77
      go_wp2_with fail
      refine (Ht L _ ((Below.refl _ _).alloc (Nat.le_refl _) _) hL hL2).mono ?_
      rintro e' w1 ⟨he, hb1⟩
      rw [e1] at he
      subst he
      have hs1 := hb1.size
      have hs0 : w.heap.size < w1.heap.size := by simp at hs1; omega
      have hc5 := hb1.cell (p := ⟨w.heap.size, 5, none⟩) (by simp)
      have hb : Below w.heap.size w w1 := ((Below.refl _ _).alloc (Nat.le_refl _) _).trans (hb1.mono (by simp))
      go_wp2_with fail
      refine (He (L - t.size) _ hb (by omega) (by omega)).mono ?_
      rintro e' w2 ⟨he, hb2⟩
      rw [e2] at he
      subst he
      go_wp2_with fail
      go_ret
      exact ⟨rfl, hb.trans (hb2.mono (by omega))⟩
  · have e1 : subI L t.size = -1 := if_neg h1
    have e3 : subI L (t.size + e.size) = -1 := if_neg (by omega)
    rw [e3]
    go_enter Try.func77, Try.ntmps77
    go_wp2_with fail
    refine (Ht L _ ((Below.refl _ _).alloc (Nat.le_refl _) _) hL hL2).mono ?_
    rintro e' w1 ⟨he, hb1⟩
    rw [e1] at he
    subst he
    have hs1 := hb1.size
    have hb : Below w.heap.size w w1 := ((Below.refl _ _).alloc (Nat.le_refl _) _).trans (hb1.mono (by simp))
    go_wp2_with fail
    go_ret
    exact ⟨rfl, hb⟩

set_option maxHeartbeats 400000 in
theorem szStmtS_any (N : Nat) : ∀ (s : Sts) (A : Option Addr) (c : Nat) (L : Int) (w : World), s.size < N → RepV w 0 w.heap.size s A c → 0 ≤ L → L ≤ 1048576 →
    Calls Try.prog 37 #[.slice A s.len c, .int .i64 L] w fun e w' => e = .returned (.int .i64 (subI L s.size)) ∧ Below w.heap.size w w' := by
  induction N with
  | zero => intro s A c L w h; omega
  | succ N ih =>
    intro s A c L w hN hR hL hL2
    have hls := s.len_le_size
    have hm := hR.2.1
    have hlc := hR.1
    unfold maxLen at hm
    by_cases h0 : L < s.len
    · have e3 : subI L s.size = -1 := if_neg (by omega)
      rw [e3]
      go_enter Try.func37, Try.ntmps37
      go_wp2_with fail
      go_ret
      exact ⟨rfl, Below.refl _ _⟩
    · go_enter Try.func37, Try.ntmps37
      go_wp2_with fail
      have hi0 : s.size ≤ s.len + s.inner := by unfold Sts.inner; omega
      have hi1 : s.len + s.inner ≤ s.size := by unfold Sts.inner; omega
      go_loopw [1, 5] (fun l i wr => ∃ k : Nat, k ≤ s.len ∧ i = .int .i64 k ∧ l = .int .i64 (L - s.size + (s.drop k).inner) ∧ 0 ≤ L - s.size + (s.drop k).inner ∧ Below w.heap.size w wr) (fun _ i _ => s.len - (intOf i).toNat)
      case atStart => exact ⟨0, Nat.zero_le _, rfl, by show Value.int .i64 (L - s.len) = .int .i64 (L - s.size + s.inner); congr 1; omega, by show 0 ≤ L - s.size + s.inner; omega, Below.refl _ _⟩
      case round =>
        obtain ⟨k, hk, rfl, rfl, hpos, hb⟩ := hrel
        by_cases hlt : k < s.len
        · obtain ⟨b, op, x, y, n, t, e, rfl, -, hbb, hd, At, ct, Ae, ce, ⟨h0, h1, h2, h3, h4, h5⟩, hRt, hRe⟩ := (hR.below hb hb.size).elem hlt
          have hz := RepV.drop_sizes hd
          have hin : (s.drop k).inner = t.size + e.size + (s.drop (k + 1)).inner := by rw [hd]; exact Sts.inner_cons _ _ _ _ _ _ _
          have hil := s.drop_inner_le k
          have HD := Lib.hid hd
          have HI := Lib.hid hin
          clear hd hin
          go_wp2_with fail
          refine (szStmt_any op x y n t e At Ae ct ce _ _ hpos (by omega) (fun L' w' hb' h1 h2 => ih t At ct L' w' (by omega) (hRt.below hb' hb'.size) h1 h2) (fun L' w' hb' h1 h2 => ih e Ae ce L' w' (by omega) (hRe.below hb' hb'.size) h1 h2)).mono ?_
          rintro e' w1 ⟨he, hb1⟩
          by_cases h6 : (t.size : Int) + e.size ≤ L - s.size + (s.drop k).inner
          · have e3 : subI (L - s.size + (s.drop k).inner) (t.size + e.size) = L - s.size + (s.drop k).inner - t.size - e.size := by unfold subI; rw [if_pos (by omega)]; omega
            rw [e3] at he
            clear e3
            subst he
            have hbz := hb.size
            go_wp2_with fail
            go_roundw
            case rel => exact ⟨k + 1, by omega, by go_num, by have := HI.out; congr 1; omega, by have := HI.out; omega, hb.trans (hb1.mono hbz)⟩
            case measure => simp [intOf]; omega
          · have e3 : subI (L - s.size + (s.drop k).inner) (t.size + e.size) = -1 := if_neg (by omega)
            rw [e3] at he
            clear e3
            subst he
            have hbz := hb.size
            have e4 : subI L s.size = -1 := if_neg (by have := HI.out; omega)
            have E4 := Lib.hid e4
            clear e4
            go_wp2_with fail
            go_ret
            exact ⟨by rw [E4.out]; rfl, hb.trans (hb1.mono hbz)⟩
        · have hk' : k = s.len := by omega
          subst hk'
          have e5 : (s.drop s.len).inner = 0 := by rw [s.drop_len]; rfl
          rw [e5] at hpos
          have e4 : subI L s.size = L - s.size := if_pos (by simpa using hpos)
          have E4 := Lib.hid e4
          have E5 := Lib.hid e5
          clear e4 e5
          go_wp2_with fail
          go_ret
          exact ⟨by rw [E4.out]; show Ending.returned (.int .i64 (L - s.size + (s.drop s.len).inner)) = _; rw [E5.out]; simp, hb⟩

theorem szIntS_any (n c : Nat) (A : Option Addr) (L : Int) (w : World) (hn : n ≤ c) (hc : c ≤ maxLen) (hL : 0 ≤ L) (hL2 : L ≤ 1048576) :
    Calls Try.prog 36 #[.slice A n c, .int .i64 L] w fun e w' => e = .returned (.int .i64 (subI L n)) ∧ w = w' := by
  unfold maxLen at hc
  by_cases h0 : L < n
  · have e3 : subI L n = -1 := if_neg (by omega)
    rw [e3]
    go_enter Try.func36, Try.ntmps36
    go_wp2_with fail
    go_ret
    exact ⟨rfl, rfl⟩
  · have e3 : subI L n = L - n := if_pos (by omega)
    rw [e3]
    go_enter Try.func36, Try.ntmps36
    go_wp2_with fail
    go_ret
    exact ⟨rfl, rfl⟩

set_option maxHeartbeats 400000 in
theorem szProgram_any (nt ct : Nat) (At : Option Addr) (s : Sts) (A : Option Addr) (c : Nat) (L : Int) (w : World) (hn : nt ≤ ct) (hc : ct ≤ maxLen) (hR : RepV w 0 w.heap.size s A c) (hL : 0 ≤ L) (hL2 : L ≤ 1048576) :
    Calls Try.prog 11 #[.agg #[.slice At nt ct, .slice A s.len c], .int .i64 L] w fun e w' => e = .returned (.int .i64 (subI L (nt + s.size))) ∧ Below w.heap.size w w' := by
  by_cases h1 : (nt : Int) ≤ L
  · have e1 : subI L nt = L - nt := if_pos h1
    have hRa : RepV (w.alloc (.cells #[.slice At nt ct, .slice A s.len c] 25)) 0 (w.alloc (.cells #[.slice At nt ct, .slice A s.len c] 25)).heap.size s A c := hR.below ((Below.refl _ _).alloc (Nat.le_refl _) _) (by simp)
    by_cases h2 : (nt : Int) + s.size ≤ L
    · have e2 : subI (L - nt) s.size = L - nt - s.size := if_pos (by omega)
      have e3 : subI L (nt + s.size) = L - nt - s.size := by unfold subI; rw [if_pos (by omega)]; omega
      rw [e3]
      go_enter Try.func11, Try.ntmps11
      go_wp2_with fail
      refine (szIntS_any nt ct At L _ hn hc hL hL2).mono ?_
      rintro e' w1 ⟨he, rfl⟩
      rw [e1] at he
      subst he
      go_wp2_with fail
      refine (szStmtS_any (s.size + 1) s A c _ _ (by omega) hRa (by omega) (by omega)).mono ?_
      rintro e' w1 ⟨he, hb1⟩
      rw [e2] at he
      subst he
      go_wp2_with fail
      go_ret
      exact ⟨rfl, ((Below.refl _ _).alloc (Nat.le_refl _) _).trans (hb1.mono (by simp))⟩
    · have e2 : subI (L - nt) s.size = -1 := if_neg (by omega)
      have e3 : subI L (nt + s.size) = -1 := if_neg (by omega)
      rw [e3]
      go_enter Try.func11, Try.ntmps11
      go_wp2_with fail
      refine (szIntS_any nt ct At L _ hn hc hL hL2).mono ?_
      rintro e' w1 ⟨he, rfl⟩
      rw [e1] at he
      subst he
      go_wp2_with fail
      refine (szStmtS_any (s.size + 1) s A c _ _ (by omega) hRa (by omega) (by omega)).mono ?_
      rintro e' w1 ⟨he, hb1⟩
      rw [e2] at he
      subst he
      go_wp2_with fail
      go_ret
      exact ⟨rfl, ((Below.refl _ _).alloc (Nat.le_refl _) _).trans (hb1.mono (by simp))⟩
  · have e1 : subI L nt = -1 := if_neg h1
    have e3 : subI L (nt + s.size) = -1 := if_neg (by omega)
    rw [e3]
    go_enter Try.func11, Try.ntmps11
    go_wp2_with fail
    refine (szIntS_any nt ct At L _ hn hc hL hL2).mono ?_
    rintro e' w1 ⟨he, rfl⟩
    rw [e1] at he
    subst he
    go_wp2_with fail
    go_ret
    exact ⟨rfl, (Below.refl _ _).alloc (Nat.le_refl _) _⟩

end Go.Proofs.Ytcpmodkplikmcaa
