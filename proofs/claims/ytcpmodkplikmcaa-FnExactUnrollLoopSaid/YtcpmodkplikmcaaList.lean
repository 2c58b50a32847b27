/-
  The program's check of a list of statements.
-/
import Derived.Test.YtcpmodkplikmcaaStmtF
namespace Go.Proofs.Ytcpmodkplikmcaa
open Go.RowKit Go.Deep
set_option linter.unusedVariables false

theorem Chk.refl {C : Nat} {vs : Value} {w : World} {m : Int} (hC : w.heap[C]? = some (.cells #[vs, .int .i64 m] 125 (0, 0))) : Chk C vs w w m :=
  ⟨rfl, rfl, rfl, Nat.le_refl _, fun _ _ _ => rfl, hC⟩

theorem RepV.chk {C hi hi' : Nat} {vs : Value} {w w' : World} {m : Int} {s : Sts} {A : Option Addr} {c : Nat} (h : RepV w 0 C s A c) (hk : Chk C vs w w' m) (hC : C ≤ w.heap.size) (hh : C ≤ hi') : RepV w' 0 hi' s A c :=
  h.keep (Nat.le_refl _) hh fun p _ hp => hk.cellAt (by omega) (by omega)

theorem IntsV.chk {C hi' : Nat} {vs : Value} {w w' : World} {m : Int} {xs : List Int} {A : Option Addr} {c : Nat} (h : IntsV w 0 C xs A c) (hk : Chk C vs w w' m) (hC : C ≤ w.heap.size) (hh : C ≤ hi') : IntsV w' 0 hi' xs A c :=
  h.keep (Nat.le_refl _) hh fun p _ hp => hk.cellAt (by omega) (by omega)

set_option maxHeartbeats 1000000 in
theorem listValid_any (N : Nat) (ts : List Int) (hty : typesB ts = true) (A : Option Addr) (c C : Nat) : ∀ (s : Sts) (As : Option Addr) (cs : Nat) (d m : Int) (w : World), s.size < N → 0 ≤ d → d ≤ 4 → 0 ≤ m → m ≤ 30 → IntsV w 0 C ts A c → RepV w 0 C s As cs →
    w.heap[C]? = some (.cells #[.slice A ts.length c, .int .i64 m] 125 (0, 0)) →
    Calls Try.prog 99 #[.pointer (some ⟨C, 0, none⟩), .slice As s.len cs, .int .i64 d] w (ListPost C (.slice A ts.length c) w m (bodyB ts (4 - d) s) s.size) := by
  induction N with
  | zero => intro s As cs d m w h; omega
  | succ N ih =>
    intro s As cs d m w hN hd0 hd4 hm hm30 hT hR hC
    have hms := hR.2.1
    have hlc := hR.1
    unfold maxLen at hms
    have hClt := heap_lt hC
    have hrefl := Chk.refl hC
    clear hC
    go_enter Try.func99, Try.ntmps99
    go_wp2_with fail
    go_loopw [11] (fun i wr => ∃ k : Nat, ∃ m' : Int, k ≤ s.len ∧ i = .int .i64 k ∧ Chk C (.slice A ts.length c) w wr m' ∧ 0 ≤ m' ∧ m' ≤ 30 ∧ Hid (m' + (s.drop k).size = m + s.size) ∧ Hid (bodyB ts (4 - d) (s.drop k) = bodyB ts (4 - d) s)) (fun i _ => s.len - (intOf i).toNat)
    case atStart => exact ⟨0, m, Nat.zero_le _, rfl, hrefl, hm, hm30, rfl, rfl⟩
    case round =>
      clear hrefl
      obtain ⟨k, m', hk, rfl, hchk, hm0', hm30', hsum, hbd⟩ := hrel
      by_cases hlt : k < s.len
      · obtain ⟨b, op, x, y, n, t, e, rfl, -, hbb, hdr, At, ct, Ae, ce, ⟨h0, h1, h2, h3, h4, h5⟩, hRt, hRe⟩ := (hR.chk hchk (Nat.le_of_lt hClt) (Nat.le_refl C) (hi := C)).elem hlt
        have hz := RepV.drop_sizes hdr
        have hT1 := hT.chk hchk (Nat.le_of_lt hClt) (Nat.le_refl C)
        have hbc : Hid (bodyB ts (4 - d) s = (stmtB ts (4 - d) op x y n t e && bodyB ts (4 - d) (s.drop (k + 1)))) := by
          unfold Hid
          rw [← hbd.out, hdr, bodyB_cons]
        have hsz : Hid ((s.drop k).size = 1 + t.size + e.size + (s.drop (k + 1)).size) := by
          unfold Hid
          rw [hdr]
          rfl
        clear hdr hbd
        have hcz := hchk.size
        go_wp2_with fail
        have hka := (Chk.refl hchk.cell).alloc (.cells #[.int .i64 op, .int .i64 x, .int .i64 y, .int .i64 n, .slice At t.len ct, .slice Ae e.len ce] 53)
        refine (stmtValid_any ts A c C op x y n m' d t e At Ae ct ce _ hty (hT1.chk hka (by omega) (Nat.le_refl C)) hka.cell hm0' hm30' hd0 hd4
          (fun w' m2 hk2 h1' h2' h3' => ih t At ct (d + 1) m2 w' (by omega) (by omega) (by omega) h1' h2' (hT1.chk (hka.trans hk2) (by omega) (Nat.le_refl C)) (hRt.chk (hka.trans hk2) (by omega) (Nat.le_refl C) (hi := C)) hk2.cell)
          (fun w' m2 hk2 h1' h2' h3' => ih e Ae ce (d + 1) m2 w' (by omega) (by omega) (by omega) h1' h2' (hT1.chk (hka.trans hk2) (by omega) (Nat.le_refl C)) (hRe.chk (hka.trans hk2) (by omega) (Nat.le_refl C) (hi := C)) hk2.cell)).mono ?_
        rintro E w1 ⟨m2, he, hk2, hm2⟩
        have hk3 := hchk.trans (hka.trans hk2)
        by_cases hs : (stmtB ts (4 - d) op x y n t e && decide (m' + (1 + t.size + e.size : Nat) ≤ 30)) = true
        · rw [hs] at he
          subst he
          simp only [Bool.and_eq_true, decide_eq_true_eq] at hs
          have hm2' := hm2 hs.1 hs.2
          have hbe : Hid (bodyB ts (4 - d) (s.drop (k + 1)) = bodyB ts (4 - d) s) := by
            unfold Hid
            rw [hbc.out, hs.1, Bool.true_and]
          have hse : Hid (m2 + (s.drop (k + 1)).size = m + s.size) := by
            have a1 := hsum.out
            have a2 := hsz.out
            unfold Hid
            omega
          have hq0 : 0 ≤ m2 := by omega
          have hq1 : m2 ≤ 30 := by omega
          clear hs hbc hm2 hm2' hk2 hka hsum hsz
          go_wp2_with fail
          go_roundw
          case rel => exact ⟨k + 1, m2, by omega, by go_num, hk3, hq0, hq1, hse, hbe⟩
          case measure => simp [intOf]; omega
        · have hs' : (stmtB ts (4 - d) op x y n t e && decide (m' + (1 + t.size + e.size : Nat) ≤ 30)) = false := by simpa using hs
          rw [hs'] at he
          subst he
          have hfin : Hid ((bodyB ts (4 - d) s && decide (m + s.size ≤ 30)) = false) := by
            have a1 := hsum.out
            have a2 := hsz.out
            unfold Hid
            rw [hbc.out]
            rw [Bool.and_eq_false_iff] at hs'
            rcases hs' with h | h
            · rw [h]; simp
            · have : decide (m + s.size ≤ 30) = false := by
                simp only [decide_eq_false_iff_not] at h ⊢
                omega
              rw [this, Bool.and_false]
          clear hs hs' hbc hm2 hk2 hka hsum hsz
          go_wp2_with fail
          go_ret
          refine ⟨m2, ret_bool hfin.out.symm, hk3, fun g1 g2 => ?_⟩
          exfalso
          have := hfin.out
          rw [g1] at this
          simp at this
          omega
      · have hk' : k = s.len := by omega
        subst hk'
        have hbe : Hid (bodyB ts (4 - d) s = true) := by
          unfold Hid
          rw [← hbd.out, s.drop_len, bodyB_nil]
        have hse : Hid (m' = m + s.size) := by
          have a1 := hsum.out
          rw [s.drop_len] at a1
          unfold Hid
          simp only [Sts.size] at a1
          omega
        clear hbd hsum
        go_wp2_with fail
        go_ret
        refine ⟨m', ret_bool ?_, hchk, fun _ _ => hse.out⟩
        rw [hbe.out]
        have := hse.out
        simp
        omega

end Go.Proofs.Ytcpmodkplikmcaa
