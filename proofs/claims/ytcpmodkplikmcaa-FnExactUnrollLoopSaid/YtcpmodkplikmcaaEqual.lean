/-
  Comparing programs that read alike: the laws' comparisons answer true.
-/
import Derived.Test.YtcpmodkplikmcaaRows
import Derived.Test.YtcpmodkplikmcaaData
import Derived.WalkKit
import Derived.WalkSpells
import Derived.Lib.Hide
import Derived.Deep.QuietTactic
import Derived.BigQuiet
import Derived.StillTailTactics
namespace Go.Proofs.Ytcpmodkplikmcaa
open Go.RowKit Go.Deep

set_option maxHeartbeats 400000 in
theorem eqIntS_any (xs : List Int) (A A' : Option Addr) (c c' : Nat) (w : World) (hR : IntsV w 0 w.heap.size xs A c) (hR' : IntsV w 0 w.heap.size xs A' c') :
    Calls Try.prog 27 #[.slice A xs.length c, .slice A' xs.length c'] w fun e w' => e = .returned (.bool true) ∧ Below w.heap.size w w' := by
  have hm := hR.2.1
  have hlc := hR.1
  unfold maxLen at hm
  go_enter Try.func27, Try.ntmps27
  go_wp2_with fail
  go_loopw [5] (fun i wr => ∃ k : Nat, k ≤ xs.length ∧ i = .int .i64 k ∧ Below w.heap.size w wr) (fun i _ => xs.length - (intOf i).toNat)
  case atStart => exact ⟨0, Nat.zero_le _, rfl, Below.refl _ _⟩
  case round =>
    obtain ⟨k, hk, rfl, hb⟩ := hrel
    by_cases hlt : k < xs.length
    · obtain ⟨b, v, rfl, -, hbb, hx, hc⟩ := (hR.below hb hb.size).elem hlt
      obtain ⟨b', v', rfl, -, hbb', hx', hc'⟩ := (hR'.below hb hb.size).elem hlt
      rw [hx] at hx'
      injection hx' with hx'
      subst hx'
      have HX := Lib.hid hx
      clear hx
      go_wp2_with fail
      go_quiet (fail)
      go_wp2_with fail
      go_roundw
      case rel => exact ⟨k + 1, by omega, by go_num, hb.trans ⟨rfl, rfl, rfl, Nat.le_refl _, fun _ _ => rfl⟩⟩
      case measure => simp [intOf]; omega
    · have hk' : k = xs.length := by omega
      subst hk'
      go_wp2_with fail
      go_ret
      exact ⟨rfl, hb⟩

theorem heap2 (w : World) (o1 o2 : Obj) : ((w.alloc o1).alloc o2).heap[w.heap.size]? = some o1 ∧ ((w.alloc o1).alloc o2).heap[w.heap.size + 1]? = some o2 ∧ ((w.alloc o1).alloc o2).heap.size = w.heap.size + 2 := by
  refine ⟨?_, ?_, ?_⟩
  · show ((w.heap.push o1).push o2)[w.heap.size]? = _
    simp only [Array.getElem?_push, Array.size_push]
    rw [if_neg (by omega), if_pos trivial]
  · show ((w.heap.push o1).push o2)[w.heap.size + 1]? = _
    simp only [Array.getElem?_push, Array.size_push]
    rw [if_pos trivial]
  · simp

theorem cell_of_blk {w : World} {g : Nat} {cs : Array Value} {t : TypeId} {fr : Nat × Nat} (h : w.heap[g]? = some (.cells cs t fr)) (i : Nat) : w.cell? ⟨g, i, none⟩ = cs[i]? := by
  simp [World.cell?, h]

set_option maxHeartbeats 1000000 in
theorem eqStmt_any (op x y n : Int) (t e : Sts) (At Ae At' Ae' : Option Addr) (ct ce ct' ce' : Nat) (w : World)
    (Ht : ∀ (w' : World), Below w.heap.size w w' → Calls Try.prog 45 #[.slice At t.len ct, .slice At' t.len ct'] w' fun e w'' => e = .returned (.bool true) ∧ Below w'.heap.size w' w'')
    (He : ∀ (w' : World), Below w.heap.size w w' → Calls Try.prog 45 #[.slice Ae e.len ce, .slice Ae' e.len ce'] w' fun e w'' => e = .returned (.bool true) ∧ Below w'.heap.size w' w'') :
    Calls Try.prog 83 #[.agg #[.int .i64 op, .int .i64 x, .int .i64 y, .int .i64 n, .slice At t.len ct, .slice Ae e.len ce], .agg #[.int .i64 op, .int .i64 x, .int .i64 y, .int .i64 n, .slice At' t.len ct', .slice Ae' e.len ce']] w
      fun e w' => e = .returned (.bool true) ∧ Below w.heap.size w w' := by
  go_enter Try.func83, Try.ntmps83
  go_wp2_with fail
  refine (Ht _ (((Below.refl _ _).alloc (Nat.le_refl _) _).alloc (by simp) _)).mono ?_
  rintro E w1 ⟨rfl, hb1⟩
  obtain ⟨q1, q2, q3⟩ := heap2 w _ _
  rw [q3] at hb1
  have hB1 := (hb1.block w.heap.size (by omega)).trans q1
  have hB2 := (hb1.block (w.heap.size + 1) (by omega)).trans q2
  have hs1 := hb1.size
  rw [q3] at hs1
  have hb : Below w.heap.size w w1 := (((Below.refl _ _).alloc (Nat.le_refl _) _).alloc (by simp) _).trans (hb1.mono (by omega))
  clear q1 q2 q3 hb1
  have c5 : w1.cell? ⟨w.heap.size, 5, none⟩ = some (.slice Ae e.len ce) := (cell_of_blk hB1 5).trans rfl
  have d5 : w1.cell? ⟨w.heap.size + 1, 5, none⟩ = some (.slice Ae' e.len ce') := (cell_of_blk hB2 5).trans rfl
  clear hB1 hB2
  go_wp2_with fail
  refine (He _ hb).mono ?_
  rintro E w2 ⟨rfl, hb2⟩
  go_wp2_with fail
  go_ret
  exact ⟨rfl, hb.trans (hb2.mono (by omega))⟩

set_option maxRecDepth 100000 in
set_option maxHeartbeats 1000000 in
theorem eqStmtS_any (N : Nat) : ∀ (s : Sts) (A A' : Option Addr) (c c' : Nat) (w : World), s.size < N → RepV w 0 w.heap.size s A c → RepV w 0 w.heap.size s A' c' →
    Calls Try.prog 45 #[.slice A s.len c, .slice A' s.len c'] w fun e w' => e = .returned (.bool true) ∧ Below w.heap.size w w' := by
  induction N with
  | zero => intro s A A' c c' w h; omega
  | succ N ih =>
    intro s A A' c c' w hN hR hR'
    have hm := hR.2.1
    have hlc := hR.1
    unfold maxLen at hm
    go_enter Try.func45, Try.ntmps45
    go_wp2_with fail
    go_loopw [5] (fun i wr => ∃ k : Nat, k ≤ s.len ∧ i = .int .i64 k ∧ Below w.heap.size w wr) (fun i _ => s.len - (intOf i).toNat)
    case atStart => exact ⟨0, Nat.zero_le _, rfl, Below.refl _ _⟩
    case round =>
      obtain ⟨k, hk, rfl, hb⟩ := hrel
      by_cases hlt : k < s.len
      · obtain ⟨b, op, x, y, n, t, e, rfl, -, hbb, hd, At, ct, Ae, ce, ⟨h0, h1, h2, h3, h4, h5⟩, hRt, hRe⟩ := (hR.below hb hb.size).elem hlt
        obtain ⟨b', op', x', y', n', t', e', rfl, -, hbb', hd', At', ct', Ae', ce', ⟨g0, g1, g2, g3, g4, g5⟩, hRt', hRe'⟩ := (hR'.below hb hb.size).elem hlt
        have hz := RepV.drop_sizes hd
        rw [hd] at hd'
        injection hd' with e1 e2 e3 e4 e5 e6
        subst e1 e2 e3 e4 e5 e6
        clear hd
        go_wp2_with fail
        go_still_tail 8, (by kernel_rfl)
        change wpList _ _ _ _ _ wr.drew
        have hbd : Below w.heap.size w wr.drew := hb.drew
        have hRt1 : RepV wr.drew 0 wr.drew.heap.size t At ct := hRt.keep (Nat.le_refl _) (Nat.le_refl _) fun _ _ _ => rfl
        have hRe1 : RepV wr.drew 0 wr.drew.heap.size e Ae ce := hRe.keep (Nat.le_refl _) (Nat.le_refl _) fun _ _ _ => rfl
        have hRt1' : RepV wr.drew 0 wr.drew.heap.size t At' ct' := hRt'.keep (Nat.le_refl _) (Nat.le_refl _) fun _ _ _ => rfl
        have hRe1' : RepV wr.drew 0 wr.drew.heap.size e Ae' ce' := hRe'.keep (Nat.le_refl _) (Nat.le_refl _) fun _ _ _ => rfl
        clear hRt hRe hRt' hRe' hb h0 h1 h2 h3 h4 h5 g0 g1 g2 g3 g4 g5
        generalize wr.drew = w2 at *
        go_wp2_with fail
        refine (eqStmt_any op x y n t e At Ae At' Ae' ct ce ct' ce' _ (fun w' hb' => ih t At At' ct ct' w' (by omega) (hRt1.below hb' hb'.size) (hRt1'.below hb' hb'.size)) (fun w' hb' => ih e Ae Ae' ce ce' w' (by omega) (hRe1.below hb' hb'.size) (hRe1'.below hb' hb'.size))).mono ?_
        rintro E w3 ⟨rfl, hb3⟩
        have hbz := hbd.size
        go_wp2_with fail
        go_roundw
        case rel => exact ⟨k + 1, by omega, by go_num, hbd.trans (hb3.mono hbz)⟩
        case measure => simp [intOf]; omega
      · have hk' : k = s.len := by omega
        subst hk'
        go_wp2_with fail
        go_ret
        exact ⟨rfl, hb⟩

set_option maxHeartbeats 1000000 in
theorem eqProgram_any (ts : List Int) (s : Sts) (At At' As As' : Option Addr) (ct ct' cs cs' : Nat) (w : World) (hT : IntsV w 0 w.heap.size ts At ct) (hT' : IntsV w 0 w.heap.size ts At' ct') (hR : RepV w 0 w.heap.size s As cs) (hR' : RepV w 0 w.heap.size s As' cs') :
    Calls Try.prog 15 #[.agg #[.slice At ts.length ct, .slice As s.len cs], .agg #[.slice At' ts.length ct', .slice As' s.len cs']] w fun e w' => e = .returned (.bool true) ∧ Below w.heap.size w w' := by
  go_enter Try.func15, Try.ntmps15
  go_wp2_with fail
  have hb0 := ((Below.refl w.heap.size w).alloc (Nat.le_refl _) (.cells #[.slice At ts.length ct, .slice As s.len cs] 29)).alloc (by simp) (.cells #[.slice At' ts.length ct', .slice As' s.len cs'] 29)
  refine (eqIntS_any ts At At' ct ct' _ (hT.below hb0 (by simp; omega)) (hT'.below hb0 (by simp; omega))).mono ?_
  rintro E w1 ⟨rfl, hb1⟩
  obtain ⟨q1, q2, q3⟩ := heap2 w (.cells #[.slice At ts.length ct, .slice As s.len cs] 29) (.cells #[.slice At' ts.length ct', .slice As' s.len cs'] 29)
  rw [q3] at hb1
  have hB1 := (hb1.block w.heap.size (by omega)).trans q1
  have hB2 := (hb1.block (w.heap.size + 1) (by omega)).trans q2
  have hs1 := hb1.size
  rw [q3] at hs1
  have hb : Below w.heap.size w w1 := hb0.trans (hb1.mono (by omega))
  clear q1 q2 q3 hb1 hb0
  have c1 : w1.cell? ⟨w.heap.size, 1, none⟩ = some (.slice As s.len cs) := (cell_of_blk hB1 1).trans rfl
  have d1 : w1.cell? ⟨w.heap.size + 1, 1, none⟩ = some (.slice As' s.len cs') := (cell_of_blk hB2 1).trans rfl
  clear hB1 hB2
  go_wp2_with fail
  refine (eqStmtS_any (s.size + 1) s As As' cs cs' _ (by omega) (hR.below hb hb.size) (hR'.below hb hb.size)).mono ?_
  rintro E w2 ⟨rfl, hb2⟩
  go_wp2_with fail
  go_ret
  exact ⟨rfl, hb.trans (hb2.mono (by omega))⟩

end Go.Proofs.Ytcpmodkplikmcaa
