/-
  The program's points of a list of statements: the list.
-/
import Derived.Test.YtcaklhempmlpgaaGrB
namespace Go.Proofs.Ytcaklhempmlpgaa
open Go.RowKit Go.Deep
set_option linter.unusedVariables false

theorem addStmt_of (C : Nat) (op x y n : Int) (t e : Sts) (At Ae : Option Addr) (ct ce : Nat) (ns : List Nd) (w : World) (hG : Gr C w ns) (hl : ns.length + stN op t.npts e.npts ≤ 61)
    (HT : ∀ ns' w', Turn C w w' → Gr C w' ns' → ns'.length + t.npts ≤ 61 → Calls Try.prog 38 #[.pointer (some ⟨C, 0, none⟩), .slice At t.len ct] w' (AddPost C w' ns' (t.pts ns'.length)))
    (HE : ∀ ns' w', Turn C w w' → Gr C w' ns' → ns'.length + e.npts ≤ 61 → Calls Try.prog 38 #[.pointer (some ⟨C, 0, none⟩), .slice Ae e.len ce] w' (AddPost C w' ns' (e.pts ns'.length))) :
    Calls Try.prog 50 #[.pointer (some ⟨C, 0, none⟩), .agg #[.int .i64 op, .int .i64 x, .int .i64 y, .int .i64 n, .slice At t.len ct, .slice Ae e.len ce]] w
      (AddPost C w ns (stPts op x y n ns.length t.npts e.npts (t.pts (ns.length + 1)) (e.pts (ns.length + 2 + t.npts)))) := by
  by_cases h9 : op = 9
  · subst h9
    exact addStmt_9 C x y n t e At Ae ct ce ns w hG (by simpa [stN] using hl) HT HE
  · by_cases h10 : op = 10
    · subst h10
      exact addStmt_10 C x y n t e At Ae ct ce ns w hG (by simpa [stN] using hl) HT
    · exact addStmt_simple C op x y n t.len ct e.len ce At Ae _ _ _ _ ns w hG (by simpa using h9) (by simpa using h10) (by simpa [stN, h9, h10] using hl)

theorem Sts.pts_drop (s : Sts) (k : Nat) (op x y n : Int) (t e r : Sts) (cur : List Nd) (h : s.drop k = .cons op x y n t e r) :
    cur ++ (s.drop k).pts cur.length = (cur ++ stPts op x y n cur.length t.npts e.npts (t.pts (cur.length + 1)) (e.pts (cur.length + 2 + t.npts))) ++ r.pts (cur ++ stPts op x y n cur.length t.npts e.npts (t.pts (cur.length + 1)) (e.pts (cur.length + 2 + t.npts))).length := by
  rw [h, Sts.pts_cons, List.length_append, stPts_len _ _ _ _ _ _ _ _ _ (t.pts_len _) (e.pts_len _), List.append_assoc]

set_option maxRecDepth 100000 in
set_option maxHeartbeats 2000000 in
theorem addList_any (N C : Nat) : ∀ (s : Sts) (A : Option Addr) (c : Nat) (ns : List Nd) (w : World), s.size < N → s.size ≤ 1000000 → RepV w 0 C s A c → Gr C w ns → ns.length + s.npts ≤ 61 →
    Calls Try.prog 38 #[.pointer (some ⟨C, 0, none⟩), .slice A s.len c] w (AddPost C w ns (s.pts ns.length)) := by
  induction N with
  | zero => intro s A c ns w h; omega
  | succ N ih =>
    intro s A c ns w hN hsz hR hG hl
    have hm := hR.2.1
    have hlc := hR.1
    have hls := s.len_le_size
    unfold maxLen at hm
    have HG := Lib.hid hG
    have hCw0 := hG.lt
    have hT0 := Turn.refl C w
    have HL : Hid ((ns ++ s.pts ns.length).length ≤ 61) := by unfold Hid; rw [List.length_append, Sts.pts_len]; exact hl
    clear hG
    go_enter Try.func38, Try.ntmps38
    go_wp2_with fail
    go_loopw [8] (fun i wr => ∃ (k : Nat) (cur : List Nd), k ≤ s.len ∧ i = .int .i64 k ∧ Turn C w wr ∧ Hid (Gr C wr cur) ∧ Hid (ns ++ s.pts ns.length = cur ++ (s.drop k).pts cur.length)) (fun i _ => s.len - (intOf i).toNat)
    case atStart => exact ⟨0, ns, Nat.zero_le _, rfl, hT0, HG, rfl⟩
    case round =>
      obtain ⟨k, cur, hk, rfl, hT, hGc, hpt⟩ := hrel
      clear hT0 HG
      have hCw := hGc.out.lt
      by_cases hlt : k < s.len
      · have hR1 : RepV wr 0 C s A c := hR.keep (Nat.le_refl _) (Nat.le_refl _) fun p _ hp => hT.cellAt (by omega) (by omega)
        obtain ⟨b, op, x, y, n, t, e, rfl, -, hbb, hdr, At, ct, Ae, ce, ⟨h0, h1, h2, h3, h4, h5⟩, hRt, hRe⟩ := hR1.elem hlt
        have hz := RepV.drop_sizes hdr
        have hpd := Sts.pts_drop s k op x y n t e _ cur hdr
        have hlen : cur.length + stN op t.npts e.npts ≤ 61 := by
          have h1 := HL.out
          rw [hpt.out, hpd, List.length_append, List.length_append, stPts_len _ _ _ _ _ _ _ _ _ (t.pts_len _) (e.pts_len _)] at h1
          omega
        have hpt2 : Hid (ns ++ s.pts ns.length = (cur ++ stPts op x y n cur.length t.npts e.npts (t.pts (cur.length + 1)) (e.pts (cur.length + 2 + t.npts))) ++ (s.drop (k + 1)).pts (cur ++ stPts op x y n cur.length t.npts e.npts (t.pts (cur.length + 1)) (e.pts (cur.length + 2 + t.npts))).length) := by
          unfold Hid
          rw [hpt.out, hpd]
        have hTA := (Turn.refl C wr).alloc (.cells #[.int .i64 op, .int .i64 x, .int .i64 y, .int .i64 n, .slice At t.len ct, .slice Ae e.len ce] 41)
        have hA := addStmt_of C op x y n t e At Ae ct ce cur _ (hGc.out.alloc (.cells #[.int .i64 op, .int .i64 x, .int .i64 y, .int .i64 n, .slice At t.len ct, .slice Ae e.len ce] 41)) hlen
          (fun ns' w' hT' hG' hl' => ih t At ct ns' w' (by omega) (by omega) (hRt.keep (Nat.le_refl _) (Nat.le_refl _) fun p _ hp => (hTA.trans hT').cellAt (by omega) (by omega)) hG' hl')
          (fun ns' w' hT' hG' hl' => ih e Ae ce ns' w' (by omega) (by omega) (hRe.keep (Nat.le_refl _) (Nat.le_refl _) fun p _ hp => (hTA.trans hT').cellAt (by omega) (by omega)) hG' hl')
        clear hpt hpd hdr hR1 hRt hRe hlen
        generalize stPts op x y n cur.length t.npts e.npts (t.pts (cur.length + 1)) (e.pts (cur.length + 2 + t.npts)) = ds at hpt2 hA
        go_wp2_with fail
        refine hA.mono ?_
        rintro E w1 ⟨rfl, hG1, hT1⟩
        have HG1 := Lib.hid hG1
        clear hG1
        go_wp2_with fail
        go_roundw
        case rel => exact ⟨k + 1, cur ++ ds, by omega, by go_num, hT.trans (hTA.trans hT1), HG1, hpt2⟩
        case measure => simp [intOf]; omega
      · have hk' : k = s.len := by omega
        subst hk'
        have hfin : Hid (ns ++ s.pts ns.length = cur) := by
          unfold Hid
          rw [hpt.out, s.drop_len]
          simp [Sts.pts]
        clear hpt
        go_wp2_with fail
        go_end0
        exact ⟨rfl, by rw [hfin.out]; exact hGc.out, hT⟩

end Go.Proofs.Ytcaklhempmlpgaa
