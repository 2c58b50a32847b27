/-
  The model's LoopOf.
-/
import Derived.Test.YtfkhgdbnjcdlmaaZL2Xb
import Derived.Test.YtfkhgdbnjcdlmaaZLpK
namespace Go.Proofs.Ytfkhgdbnjcdlmaa
open Go.RowKit Go.Deep
set_option linter.unusedVariables false

theorem pRow_lenP {w : World} {B : Nat} {v : Value} {ns : List Nd} (h : PRow w B v ns) : ∃ A c, v = .slice A ns.length c := by
  obtain ⟨xs, ho, _⟩ := h
  rcases ho.2 with ⟨hv, h0⟩ | ⟨g, cap, cur, hv, _⟩
  · exact ⟨none, 0, by rw [hv, h0]⟩
  · exact ⟨_, _, hv⟩

/-- The choice of a loop has two next points. -/
theorem pts_loop2 (s : Sts) : ∀ k, ∀ d ∈ s.pts k, d.op = 10 → d.n = 0 → ∃ x y, d.next = [x, y] := by
  induction s with
  | nil => intro k d hd; cases hd
  | cons op x y n t e r iht ihe ihr =>
    intro k d hd h10 h0
    rw [Sts.pts_cons, List.mem_append] at hd
    rcases hd with hd | hd
    · unfold stPts at hd
      by_cases h9 : op = 9
      · rw [if_pos h9] at hd
        simp only [List.mem_cons, List.mem_append] at hd
        rcases hd with rfl | hd | rfl | hd
        · exact ⟨_, _, rfl⟩
        · exact iht _ d hd h10 h0
        · simp at h0
        · exact ihe _ d hd h10 h0
      · rw [if_neg h9] at hd
        by_cases h10' : op = 10
        · rw [if_pos h10'] at hd
          simp only [List.mem_cons, List.mem_append, List.not_mem_nil, or_false] at hd
          rcases hd with rfl | hd | rfl
          · exact ⟨_, _, rfl⟩
          · exact iht _ d hd h10 h0
          · simp at h0
        · rw [if_neg h10'] at hd
          simp only [List.mem_cons, List.not_mem_nil, or_false] at hd
          subst hd
          exact absurd h10 h10'
    · exact ihr _ d hd h10 h0

theorem prog_loop2 {s : Sts} {d : Nd} (hd : d ∈ progPts s) (h10 : d.op = 10) (h0 : d.n = 0) : ∃ x y, d.next = [x, y] ∧ 0 ≤ y ∧ y ≤ ((progPts s).length : Int) := by
  unfold progPts at hd
  rw [List.mem_append] at hd
  rcases hd with hd | hd
  · obtain ⟨x, y, e⟩ := pts_loop2 s 0 d hd h10 h0
    have := (s.pts_ok 0 d hd).2.2 y (by rw [e]; simp)
    rw [progPts_len]
    exact ⟨x, y, e, by omega, by omega⟩
  · simp only [List.mem_cons, List.not_mem_nil, or_false] at hd
    subst hd
    cases h10

theorem foldM_at {a : Int} {ds : List Nd} {k : Nat} {d : Nd} (h : ds[k]? = some d) : foldM a (ds.take (k + 1)) 0 none = stepM a k d (foldM a (ds.take k) 0 none) := by
  have hl := (List.getElem?_eq_some_iff.mp h).1
  rw [List.take_add_one, h]
  show foldM a (ds.take k ++ [d]) 0 none = _
  rw [foldM_snoc, List.length_take, Nat.min_eq_left (by omega), Nat.zero_add]

theorem stepM_no {a : Int} {k : Nat} {d : Nd} {b : Option (Int × Int)} (h : ¬ (d.op = 10 ∧ d.n = 0 ∧ (k : Int) ≤ a ∧ a < d.next.getD 1 0)) : stepM a k d b = b := if_neg h

set_option maxRecDepth 100000 in
set_option maxHeartbeats 2000000 in
theorem specLoopOf_any (ts : List Int) (s : Sts) (At As : Option Addr) (ct cs : Nat) (a : Int) (w : World) (hsz : s.size ≤ 1048576) (hT : IntsV w 0 w.heap.size ts At ct) (hR : RepV w 0 w.heap.size s As cs) :
    Calls Try.prog 8 #[.agg #[.slice At ts.length ct, .slice As s.len cs], .int .i64 a] w fun E w' => ∃ v l, E = .returned v ∧ RowI w' w.heap.size v l ∧ AnsLp (validB ts s) s a l ∧ Below w.heap.size w w' := by
  have hb0 := (Below.refl w.heap.size w).alloc (Nat.le_refl _) (.cells #[.slice At ts.length ct, .slice As s.len cs] 26)
  have hT1 : IntsV (w.alloc (.cells #[.slice At ts.length ct, .slice As s.len cs] 26)) 0 (w.alloc (.cells #[.slice At ts.length ct, .slice As s.len cs] 26)).heap.size ts At ct := hT.below hb0 (by simp)
  have hR1 : RepV (w.alloc (.cells #[.slice At ts.length ct, .slice As s.len cs] 26)) 0 (w.alloc (.cells #[.slice At ts.length ct, .slice As s.len cs] 26)).heap.size s As cs := hR.below hb0 (by simp)
  have hz0 : (w.alloc (.cells #[.slice At ts.length ct, .slice As s.len cs] 26)).heap.size = w.heap.size + 1 := by simp
  have hS := specPointsOf_any ts s At As ct cs _ hsz hT1 hR1
  have HZ := Lib.hid hz0
  clear hz0 hT1 hR1
  by_cases hout : a < 0 ∨ ((pointsB (validB ts s) s).length : Int) ≤ a
  · have hans : Hid (AnsLp (validB ts s) s a []) := by
      cases hv : validB ts s
      · exact ansLp_no
      · rw [hv] at hout
        simp only [pointsB, if_true] at hout
        have := ansLp_yes (a := a) hv
        rw [inner_out hout, hv] at this
        exact this
    generalize pointsB (validB ts s) s = ds at hS hout
    have hd1 : decide (a < 0) = true ∨ (decide (a < 0) = false ∧ decide ((ds.length : Int) ≤ a) = true) := by
      by_cases h : a < 0
      · exact .inl (decide_eq_true h)
      · exact .inr ⟨decide_eq_false h, decide_eq_true (by omega)⟩
    clear hout
    go_enter Try.func8, Try.ntmps8
    go_wp2_with fail
    refine hS.mono ?_
    rintro E w1 ⟨v, rfl, hP, hb1⟩
    obtain ⟨Av, cv, hv⟩ := pRow_lenP hP
    subst hv
    rw [HZ.out] at hb1
    have hbw : Below w.heap.size w w1 := hb0.trans (hb1.mono (by omega))
    have hs1 := hbw.size
    have hrow0 : RowI (w1.alloc (.cells #[] 3)) w.heap.size (.slice (some ⟨w1.heap.size, 0, none⟩) 0 0) [] := World.ownsRow_lit (base := w.heap.size) (e := 3) (size := 1) w1 #[] 0 (by omega) (by simp [maxLen]) rfl
    have hbz := hbw.alloc hs1 (.cells #[] 3)
    clear hP hb1 hS
    rcases hd1 with hd1 | ⟨hd1, hd2⟩
    · go_wp2_with fail
      go_ret
      exact ⟨_, [], rfl, hrow0, hans.out, by first | exact hbz | exact hbz.drew⟩
    · go_wp2_with fail
      go_ret
      exact ⟨_, [], rfl, hrow0, hans.out, by first | exact hbz | exact hbz.drew⟩
  obtain ⟨hv, hpb⟩ : validB ts s = true ∧ pointsB (validB ts s) s = progPts s := by
    cases hv : validB ts s
    · rw [hv] at hout
      simp [pointsB] at hout
      omega
    · exact ⟨rfl, by simp [pointsB]⟩
  rw [hpb] at hS hout
  have hans : Hid (AnsLp (validB ts s) s a (rangeO (foldM a (progPts s) 0 none))) := by unfold Hid; rw [foldM_prog]; exact ansLp_yes hv
  have HL2 : Hid (∀ d ∈ progPts s, d.op = 10 → d.n = 0 → ∃ x y, d.next = [x, y] ∧ 0 ≤ y ∧ y ≤ ((progPts s).length : Int)) := fun d hd h1 h2 => prog_loop2 hd h1 h2
  have hle : (progPts s).length ≤ 61 := by
    have := s.npts_le
    have := valid_size hv
    rw [progPts_len]
    omega
  generalize progPts s = ds at hS hout hans HL2 hle
  have hd1 : decide (a < 0) = false := decide_eq_false (by omega)
  have hd2 : decide ((ds.length : Int) ≤ a) = false := decide_eq_false (by omega)
  have ha0 : 0 ≤ a := by omega
  have han : a < (ds.length : Int) := by omega
  obtain ⟨i0, hi, hzz0, hzz1, hzz2⟩ := info_parts Try.infoInt
  have HI := Lib.hid hi
  have HZ0 := Lib.hid hzz0
  have HZ1 := Lib.hid hzz1
  have HZ2 := Lib.hid hzz2
  clear hi hzz0 hzz1 hzz2 hout hpb hv
  go_enter Try.func8, Try.ntmps8
  go_wp2_with fail
  refine hS.mono ?_
  rintro E w1 ⟨v, rfl, hP, hb1⟩
  obtain ⟨g, cap, hv, hgB, hgl, -, -⟩ := hP.form (by omega)
  subst hv
  rw [HZ.out] at hb1
  have hbw : Below w.heap.size w w1 := hb0.trans (hb1.mono (by omega))
  have hs1 := hbw.size
  have HP := Lib.hid hP
  have hrow0 : RowI (w1.alloc (.cells #[] 3)) w1.heap.size (.slice (some ⟨w1.heap.size, 0, none⟩) 0 0) (rangeO (foldM a (ds.take 0) 0 none)) := World.ownsRow_lit (base := w1.heap.size) (e := 3) (size := 1) w1 #[] 0 (Nat.le_refl _) (by simp [maxLen]) rfl
  have HROW0 := Lib.hid hrow0
  have hbz := (Below.refl w1.heap.size w1).alloc (Nat.le_refl _) (.cells #[] 3)
  clear hP hb1 hS hrow0
  go_wp2_with fail
  go_loopw [6, 7] (fun o i wr => ∃ k : Nat, i = .int .i64 k ∧ k ≤ ds.length ∧ Hid (RowI wr w1.heap.size o (rangeO (foldM a (ds.take k) 0 none))) ∧ Below w1.heap.size w1 wr) (fun _ i _ => ds.length - (intOf i).toNat)
  case atStart => exact ⟨0, rfl, Nat.zero_le _, HROW0, hbz⟩
  case round =>
    clear HROW0 hbz
    obtain ⟨k, rfl, hk, HROW, hb⟩ := hrel
    have hbz := hb.size
    obtain ⟨Ao, co, ho⟩ := HROW.out.slice
    obtain ⟨lo, hlo⟩ : ∃ lo, (rangeO (foldM a (ds.take k) 0 none)).length = lo := ⟨_, rfl⟩
    rw [hlo] at ho
    subst ho
    by_cases hlt : k < ds.length
    · have hdk : decide ((k : Int) < (ds.length : Int)) = true := decide_eq_true (by omega)
      have f1 : IntKind.i64.wrap ((k : Int) + 1) = (k : Int) + 1 := IntWalk.i64_in _ (by omega)
      obtain ⟨d, hd⟩ : ∃ d, ds[k]? = some d := ⟨ds[k], List.getElem?_eq_getElem hlt⟩
      have HDD := Lib.hid hd
      have HNX := Lib.hid (foldM_at (a := a) hd)
      obtain ⟨u, ⟨c0, -, -, c3, c4⟩, hu⟩ := (HP.out.below hb).cells hd
      have hmem := List.mem_of_getElem? hd
      clear hd hlo
      by_cases h10 : ¬ d.op = 10
      · have e1 : (d.op != 10) = true := by simpa using h10
        have e2 : decide (d.op = 10) = false := decide_eq_false h10
        have HB2 : Hid (RowI wr w1.heap.size (.slice Ao lo co) (rangeO (foldM a (ds.take (k + 1)) 0 none))) := by unfold Hid; rw [HNX.out, stepM_no (fun h => h10 h.1)]; exact HROW.out
        have c00 := c0
        clear HROW
        go_wp2_with fail
        go_roundw
        case rel => exact ⟨k + 1, by go_num, by omega, HB2, hb⟩
        case measure => simp [intOf]; omega
      have h10' : d.op = 10 := Classical.byContradiction h10
      have e1 : (d.op != 10) = false := by simp [h10']
      have e2 : decide (d.op = 10) = true := decide_eq_true h10'
      by_cases hn0 : ¬ d.n = 0
      · have e3 : (d.n != 0) = true := by simpa using hn0
        have e4 : decide (d.n = 0) = false := decide_eq_false hn0
        have HB2 : Hid (RowI wr w1.heap.size (.slice Ao lo co) (rangeO (foldM a (ds.take (k + 1)) 0 none))) := by unfold Hid; rw [HNX.out, stepM_no (fun h => hn0 h.2.1)]; exact HROW.out
        clear HROW
        go_wp2_with fail
        go_roundw
        case rel => exact ⟨k + 1, by go_num, by omega, HB2, hb⟩
        case measure => simp [intOf]; omega
      have hn0' : d.n = 0 := Classical.byContradiction hn0
      have e3 : (d.n != 0) = false := by simp [hn0']
      have e4 : decide (d.n = 0) = true := decide_eq_true hn0'
      obtain ⟨x, y, hxy, hy0, hyn⟩ := HL2.out d hmem h10' hn0'
      have HXY := Lib.hid hxy
      have hgd : d.next.getD 1 0 = y := by rw [hxy]; rfl
      have HGD := Lib.hid hgd
      have HOP := Lib.hid h10'
      have HN0 := Lib.hid hn0'
      rw [hxy] at hu
      clear hxy hgd h10' hn0' h10 hn0 hmem
      by_cases hai : a < (k : Int)
      · have e5 : decide (a < (k : Int)) = true := decide_eq_true hai
        have HB2 : Hid (RowI wr w1.heap.size (.slice Ao lo co) (rangeO (foldM a (ds.take (k + 1)) 0 none))) := by unfold Hid; rw [HNX.out, stepM_no (fun h => by have := h.2.2.1; omega)]; exact HROW.out
        clear HROW hu
        go_wp2_with fail
        go_roundw
        case rel => exact ⟨k + 1, by go_num, by omega, HB2, hb⟩
        case measure => simp [intOf]; omega
      have e5 : decide (a < (k : Int)) = false := decide_eq_false hai
      have hcell : ∀ W, Below wr.heap.size wr W → ∃ g2, u = .slice (some ⟨g2, 0, none⟩) 2 2 ∧ W.cell? ⟨g2, 1, none⟩ = some (.int .i64 y) ∧ g2 < wr.heap.size := by
        intro W hW
        rcases hu with ⟨h2, _⟩ | ⟨g2, h1, _, h3⟩
        · cases h2
        · exact ⟨g2, h1, (cell_of_block ((hW.block g2 (heap_lt h3)).trans h3) 1).trans rfl, heap_lt h3⟩
      obtain ⟨g2, hu2, c5, hg2⟩ := hcell wr (Below.refl _ _)
      subst hu2
      by_cases hay : y ≤ a
      · have e6 : decide (y ≤ a) = true := decide_eq_true hay
        have HB2 : Hid (RowI wr w1.heap.size (.slice Ao lo co) (rangeO (foldM a (ds.take (k + 1)) 0 none))) := by unfold Hid; rw [HNX.out, stepM_no (fun h => by have := h.2.2.2; rw [HGD.out] at this; omega)]; exact HROW.out
        clear HROW hu hcell
        go_wp2_with fail
        go_roundw
        case rel => exact ⟨k + 1, by go_num, by omega, HB2, hb⟩
        case measure => simp [intOf]; omega
      have e6 : decide (y ≤ a) = false := decide_eq_false hay
      have HST : Hid (rangeO (foldM a (ds.take (k + 1)) 0 none) = rangeI (k : Int) (y - 1)) := by
        unfold Hid
        rw [HNX.out]
        unfold stepM
        rw [if_pos ⟨HOP.out, HN0.out, by omega, by rw [HGD.out]; omega⟩, HGD.out]
        rfl
      obtain ⟨m, hm⟩ : ∃ m : Nat, y = (k : Int) + (m : Int) := ⟨(y - k).toNat, by omega⟩
      have hm9 : m ≤ 61 := by omega
      have HM : Hid ((y - 1 + 1 - (k : Int)).toNat = m) := by unfold Hid; omega
      have hbL := hb.alloc hbz (.cells #[] 3)
      have hbL1 := (Below.refl wr.heap.size wr).alloc (Nat.le_refl _) (.cells #[] 3)
      have hrowL : Hid (RowI (wr.alloc (.cells #[] 3)) w1.heap.size (.slice (some ⟨wr.heap.size, 0, none⟩) 0 0) ((rangeI (k : Int) (y - 1)).take 0)) := World.ownsRow_lit (base := w1.heap.size) (e := 3) (size := 1) wr #[] 0 hbz (by simp [maxLen]) rfl
      have HU := Lib.hid hu
      clear HROW hcell hu HNX HGD
      go_wp2_with fail
      obtain ⟨wo, rfl⟩ : ∃ z, z = wr := ⟨_, rfl⟩
      go_loopw [6, 8] (fun o i wr => ∃ j : Nat, i = .int .i64 ((k : Int) + (j : Int)) ∧ j ≤ m ∧ Hid (RowI wr w1.heap.size o ((rangeI (k : Int) (y - 1)).take j)) ∧ Below w1.heap.size w1 wr) (fun _ i _ => (y - intOf i).toNat)
      case atStart => exact ⟨0, by simp, Nat.zero_le _, hrowL, hbL⟩
      case round =>
        clear hrowL hbL hbL1 c0 c3 c4 c5 hb hbz HU hg2
        obtain ⟨j, rfl, hj, HRJ, hb⟩ := hrel
        have hbz := hb.size
        obtain ⟨u3, ⟨c0, -, -, c3, c4⟩, hu3⟩ := (HP.out.below hb).cells HDD.out
        rw [HXY.out] at hu3
        obtain ⟨g3, hu4, c5⟩ : ∃ g3, u3 = .slice (some ⟨g3, 0, none⟩) 2 2 ∧ wr.cell? ⟨g3, 1, none⟩ = some (.int .i64 y) := by
          rcases hu3 with ⟨h2, _⟩ | ⟨g3, h1, _, h3⟩
          · cases h2
          · exact ⟨g3, h1, (cell_of_block h3 1).trans rfl⟩
        subst hu4
        clear hu3 c0 c3
        by_cases hjm : j < m
        · have hdj : decide ((k : Int) + (j : Int) < y) = true := decide_eq_true (by omega)
          have f2 : IntKind.i64.wrap ((k : Int) + (j : Int) + 1) = (k : Int) + (j : Int) + 1 := IntWalk.i64_in _ (by omega)
          have hnext := Lib.hid (rangeI_take (i := (k : Int)) (j := y - 1) (k := j) (by rw [HM.out]; exact hjm))
          have hlen : ((rangeI (k : Int) (y - 1)).take j).length = j := by rw [List.length_take, rangeI_len, HM.out]; omega
          obtain ⟨cur, hcur⟩ : ∃ cur, (rangeI (k : Int) (y - 1)).take j = cur := ⟨_, rfl⟩
          rw [hcur] at HRJ hnext hlen
          have HLEN := Lib.hid hlen
          clear hlen hcur
          go_wp2_with (at_builtin; refine wpList_append_own _ rfl _ _ 23 rfl w1.heap.size 3 i0 (.int .i64 0) 1 8 Try.underlying23 HI.out HZ0.out HZ1.out HZ2.out rfl (by decide) _ _ _ rfl ((RowI.own HRJ.out).alloc _) ⟨_, 0, none⟩ 1 1 [.int .i64 ((k : Int) + (j : Int))] rfl rfl ?ra1 ?ra2 ?ra3 ?ra4 ?ra5 ?_)
          try (case ra1 => exact news1 (by simp) rfl)
          try (case ra2 => intro u hu; simp only [List.mem_cons, List.not_mem_nil, or_false] at hu; subst hu; rfl)
          try (case ra3 => have := HLEN.out; unfold maxLen; omega)
          try (case ra4 => have := HLEN.out; omega)
          try (case ra5 => simp; omega)
          intro v' w' hown' hgr hne
          have hb' := (hb.alloc (by omega) (.cells #[Value.int .i64 ((k : Int) + (j : Int))] 3)).grown hgr (by simp; omega) (fun g hg' => ((RowI.own HRJ.out).lt g hg').1)
          have HR' : Hid (RowI w' w1.heap.size v' (cur ++ [(k : Int) + (j : Int)])) := RowI.snoc hown'
          clear hown' hgr hne c4 c5
          go_wp2_with fail
          refine ⟨⟨j + 1, ?_, by omega, by rw [hnext.out]; exact HR', hb'⟩, ?_⟩
          · congr 1 <;> omega
          · simp only [intOf]
            omega
        · have hdj : decide ((k : Int) + (j : Int) < y) = false := decide_eq_false (by omega)
          have HFIN : Hid (∀ o, RowI wr w1.heap.size o ((rangeI (k : Int) (y - 1)).take j) → RowI wr w1.heap.size o (rangeO (foldM a (ds.take (k + 1)) 0 none))) := by
            intro o h
            rw [HST.out]
            rwa [List.take_of_length_le (by rw [rangeI_len, HM.out]; omega)] at h
          have HR2 := Lib.hid (HFIN.out _ HRJ.out)
          clear HRJ HFIN
          go_wp2_with fail
          go_roundw
          case rel => exact ⟨k + 1, by go_num, by omega, HR2, hb⟩
          case measure => simp [intOf]; omega
    · have hdk : decide ((k : Int) < (ds.length : Int)) = false := decide_eq_false (by omega)
      have HFIN : Hid (AnsLp (validB ts s) s a (rangeO (foldM a (ds.take k) 0 none))) := by unfold Hid; rw [List.take_of_length_le (by omega)]; exact hans.out
      have HBF := Lib.hid (hbw.trans (hb.mono hs1))
      have HRF := Lib.hid (HROW.out.mono (B' := w.heap.size) hs1)
      clear HROW
      go_wp2_with fail
      go_ret
      exact ⟨_, _, rfl, HRF.out, HFIN.out, by first | exact HBF.out | exact HBF.out.drew⟩

end Go.Proofs.Ytfkhgdbnjcdlmaa
