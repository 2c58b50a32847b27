/-
  CountChoices of the program and of its model.
-/
import Derived.Test.YtgjecledchhlgaaL2P
import Derived.Test.YtgjecledchhlgaaGrD
namespace Go.Proofs.Ytgjecledchhlgaa
open Go.RowKit Go.Deep
set_option linter.unusedVariables false

theorem choicesOf_take (ds : List Nd) {k : Nat} {d : Nd} (h : ds[k]? = some d) : choicesOf (ds.take (k + 1)) = choicesOf (ds.take k) + (if d.next.length = 2 then 1 else 0) := by
  unfold choicesOf
  rw [List.take_add_one, h, List.filter_append, List.length_append]
  by_cases h2 : d.next.length = 2 <;> simp [h2]

theorem choicesOf_le (ds : List Nd) (k : Nat) : choicesOf (ds.take k) ≤ k := by
  unfold choicesOf
  exact Nat.le_trans (List.length_filter_le _ _) (List.length_take_le _ _)

theorem NextV.slice {w : World} {B : Nat} {u : Value} {next : List Int} (h : NextV w B u next) : ∃ A c, u = .slice A next.length c := by
  rcases h with ⟨h1, h2⟩ | ⟨g, h1, _⟩
  · subst h1 h2
    exact ⟨none, 0, rfl⟩
  · exact ⟨_, _, h1⟩

theorem PRow.cells_at {w : World} {B g cap k q : Nat} {ns : List Nd} {d : Nd} (h : PRow w B (.slice (some ⟨g, 0, none⟩) q cap) ns) (hn : Hid (ns.length = q)) (hd : ns[k]? = some d) :
    ∃ u, (w.cell? ⟨g, k * 5, none⟩ = some (.int .i64 d.op) ∧ w.cell? ⟨g, k * 5 + 1, none⟩ = some (.int .i64 d.x) ∧ w.cell? ⟨g, k * 5 + 2, none⟩ = some (.int .i64 d.y) ∧ w.cell? ⟨g, k * 5 + 3, none⟩ = some (.int .i64 d.n) ∧ w.cell? ⟨g, k * 5 + 4, none⟩ = some u) ∧ NextV w B u d.next := by
  have := hn.out
  subst this
  exact h.cells hd

set_option maxRecDepth 100000 in
set_option maxHeartbeats 2000000 in
theorem specCountChoices_any (ts : List Int) (s : Sts) (At As : Option Addr) (ct cs : Nat) (w : World) (hsz : s.size ≤ 1048576) (hT : IntsV w 0 w.heap.size ts At ct) (hR : RepV w 0 w.heap.size s As cs) :
    Calls Try.prog 18 #[.agg #[.slice At ts.length ct, .slice As s.len cs]] w fun E w' => E = .returned (.int .i64 (choicesOf (pointsB (validB ts s) s))) ∧ Below w.heap.size w w' := by
  have hb0 := (Below.refl w.heap.size w).alloc (Nat.le_refl _) (.cells #[.slice At ts.length ct, .slice As s.len cs] 38)
  have hT1 : IntsV (w.alloc (.cells #[.slice At ts.length ct, .slice As s.len cs] 38)) 0 (w.alloc (.cells #[.slice At ts.length ct, .slice As s.len cs] 38)).heap.size ts At ct := hT.below hb0 (by simp)
  have hR1 : RepV (w.alloc (.cells #[.slice At ts.length ct, .slice As s.len cs] 38)) 0 (w.alloc (.cells #[.slice At ts.length ct, .slice As s.len cs] 38)).heap.size s As cs := hR.below hb0 (by simp)
  have hnp := s.npts_le
  have hq0 : (pointsB (validB ts s) s).length ≤ 3000000 := by
    unfold pointsB
    split
    · rw [progPts_len]; omega
    · simp
  have hS := specPointsOf_any ts s At As ct cs _ hsz hT1 hR1
  generalize pointsB (validB ts s) s = ds at hS hq0 ⊢
  obtain ⟨q, hq⟩ : ∃ q, q = ds.length := ⟨_, rfl⟩
  rw [← hq] at hq0
  have HN : Hid (ds.length = q) := hq.symm
  clear hq
  go_enter Try.func18, Try.ntmps18
  go_wp2_with fail
  refine hS.mono ?_
  rintro E w1 ⟨v, rfl, hP, hb1⟩
  have hb : Below w.heap.size w w1 := hb0.trans (hb1.mono (by simp))
  obtain ⟨Av, cv, hv⟩ := hP.slice
  rw [HN.out] at hv
  subst hv
  have HP := Lib.hid hP
  clear hP hb1 hT1 hR1 hS
  go_wp2_with fail
  go_loop [3, 5] (fun c i => ∃ k m : Nat, k ≤ q ∧ i = .int .i64 k ∧ c = .int .i64 m ∧ m ≤ k ∧ Hid (choicesOf (ds.take k) = m)) (fun _ i => q - (intOf i).toNat)
  case atStart => exact ⟨0, 0, Nat.zero_le _, rfl, rfl, Nat.le_refl _, rfl⟩
  case round =>
    obtain ⟨k, m, hk, rfl, rfl, hmk, hinv⟩ := hrel
    by_cases hlt : k < q
    · obtain ⟨g, cap, hv2, -, -⟩ := HP.out.named HN (by omega)
      injection hv2 with hA _ hc
      subst hA hc
      have hkd : k < ds.length := by rw [HN.out]; exact hlt
      obtain ⟨u, ⟨-, -, -, -, h4⟩, hnx⟩ := HP.out.cells_at HN (List.getElem?_eq_getElem hkd)
      obtain ⟨Au, cu, hu⟩ := hnx.slice
      have hst := choicesOf_take ds (List.getElem?_eq_getElem hkd)
      rw [hinv.out] at hst
      generalize ds[k].next.length = z at hst hu
      subst hu
      have HST := Lib.hid hst
      clear hst hnx hinv hkd
      by_cases hz : z = 2
      · subst hz
        go_wp2_with fail
        go_round
        case rel => exact ⟨k + 1, m + 1, by omega, by go_num, by go_num, by omega, HST.out⟩
        case measure => simp [intOf]; omega
      · have hz' : ¬ (z : Int) = 2 := by omega
        have hz3 : ((z : Int) == 2) = false := by simpa using hz'
        have HS2 : Hid (choicesOf (ds.take (k + 1)) = m) := by
          have := HST.out
          rw [if_neg hz] at this
          exact this
        clear HST hz
        go_wp2_with fail
        go_round
        case rel => exact ⟨k + 1, m, by omega, by go_num, rfl, by omega, HS2⟩
        case measure => simp [intOf]; omega
    · have hk' : k = q := by omega
      subst hk'
      have hfin : Hid (choicesOf ds = m) := by
        unfold Hid
        rw [← hinv.out, List.take_of_length_le (by rw [HN.out]; exact Nat.le_refl _)]
      clear hinv
      go_wp2_with fail
      go_ret
      exact ⟨by rw [hfin.out]; rfl, hb⟩

set_option maxRecDepth 100000 in
set_option maxHeartbeats 2000000 in
theorem implCountChoices_any (ts : List Int) (s : Sts) (At As : Option Addr) (ct cs : Nat) (w : World) (hT : IntsV w 0 w.heap.size ts At ct) (hR : RepV w 0 w.heap.size s As cs) :
    Calls Try.prog 20 #[.agg #[.slice At ts.length ct, .slice As s.len cs]] w fun E w' => E = .returned (.int .i64 (choicesOf (pointsB (validB ts s) s))) ∧ Below w.heap.size w w' := by
  have hb0 := (Below.refl w.heap.size w).alloc (Nat.le_refl _) (.cells #[.slice At ts.length ct, .slice As s.len cs] 38)
  have hT1 : IntsV (w.alloc (.cells #[.slice At ts.length ct, .slice As s.len cs] 38)) 0 (w.alloc (.cells #[.slice At ts.length ct, .slice As s.len cs] 38)).heap.size ts At ct := hT.below hb0 (by simp)
  have hR1 : RepV (w.alloc (.cells #[.slice At ts.length ct, .slice As s.len cs] 38)) 0 (w.alloc (.cells #[.slice At ts.length ct, .slice As s.len cs] 38)).heap.size s As cs := hR.below hb0 (by simp)
  have hz0 : (w.alloc (.cells #[.slice At ts.length ct, .slice As s.len cs] 38)).heap.size = w.heap.size + 1 := by simp
  by_cases h1 : validB ts s = true
  · have e0 : Hid (choicesOf (pointsB (validB ts s) s) = choicesOf (progPts s)) := by simp [Hid, pointsB, h1]
    have hS := graphOf_yes ts s At As ct cs _ h1 hT1 hR1
    have hq0 : (progPts s).length ≤ 61 := by
      have := s.npts_le
      have := valid_size h1
      rw [progPts_len]
      omega
    generalize progPts s = ds at hS hq0 e0
    obtain ⟨q, hq⟩ : ∃ q, q = ds.length := ⟨_, rfl⟩
    rw [← hq] at hq0
    have HN : Hid (ds.length = q) := hq.symm
    have HZ := Lib.hid hz0
    clear hq h1 hz0
    go_enter Try.func20, Try.ntmps20
    go_wp2_with fail
    refine hS.mono ?_
    rintro E w1 ⟨C, rfl, hC, hG, hb1⟩
    rw [HZ.out] at hC hb1
    have hb : Below w.heap.size w w1 := hb0.trans (hb1.mono (by omega))
    have hcnt := hG.count
    rw [HN.out] at hcnt
    have HG := Lib.hid hG
    clear hG hb1 hT1 hR1 hS
    go_wp2_with fail
    go_loopw [5, 18] (fun c i wr => ∃ k m : Nat, k ≤ q ∧ i = .int .i64 k ∧ c = .int .i64 m ∧ m ≤ k ∧ Hid (choicesOf (ds.take k) = m) ∧ Below w1.heap.size w1 wr) (fun _ i _ => q - (intOf i).toNat)
    case atStart => exact ⟨0, 0, Nat.zero_le _, rfl, rfl, Nat.le_refl _, rfl, Below.refl _ _⟩
    case round =>
      obtain ⟨k, m, hk, rfl, rfl, hmk, hinv, hbr⟩ := hrel
      by_cases hlt : k < q
      · have hkd : k < ds.length := by rw [HN.out]; exact hlt
        have hGr : Gr C wr ds := HG.out.kept (hbr.block C HG.out.lt)
        have hno := nextOf_any C k ds[k] ds wr hGr (List.getElem?_eq_getElem hkd)
        have h2 := (hGr.node (List.getElem?_eq_getElem hkd)).2.2.1
        have hst := choicesOf_take ds (List.getElem?_eq_getElem hkd)
        rw [hinv.out] at hst
        generalize ds[k].next.length = z at hst hno h2
        have HST := Lib.hid hst
        clear hst hinv hkd hGr hcnt
        by_cases hz : z = 2
        · subst hz
          go_wp2_with fail
          refine hno.mono ?_
          rintro E w2 ⟨rfl, hb2⟩
          clear hno
          go_wp2_with fail
          go_roundw
          case rel => exact ⟨k + 1, m + 1, by omega, by go_num, by go_num, by omega, HST.out, hbr.trans (hb2.mono hbr.size)⟩
          case measure => simp [intOf]; omega
        · have hz3 : (z : Int) ≤ 1 := by omega
          have HS2 : Hid (choicesOf (ds.take (k + 1)) = m) := by
            have := HST.out
            rw [if_neg hz] at this
            exact this
          clear HST hz
          go_wp2_with fail
          refine hno.mono ?_
          rintro E w2 ⟨rfl, hb2⟩
          clear hno
          go_wp2_with fail
          go_roundw
          case rel => exact ⟨k + 1, m, by omega, by go_num, rfl, by omega, HS2, hbr.trans (hb2.mono hbr.size)⟩
          case measure => simp [intOf]; omega
      · have hk' : k = q := by omega
        subst hk'
        have hfin : Hid (choicesOf ds = m) := by
          unfold Hid
          rw [← hinv.out, List.take_of_length_le (by rw [HN.out]; exact Nat.le_refl _)]
        clear hinv
        go_wp2_with fail
        go_ret
        exact ⟨by rw [e0.out, hfin.out]; rfl, hb.trans (hbr.mono hb.size)⟩
  · have h1' : validB ts s = false := by simpa using h1
    have e0 : Hid (choicesOf (pointsB (validB ts s) s) = 0) := by simp [Hid, pointsB, h1', choicesOf]
    have hS := graphOf_no ts s At As ct cs _ h1' hT1 hR1
    have HZ := Lib.hid hz0
    clear h1 h1' hz0
    go_enter Try.func20, Try.ntmps20
    go_wp2_with fail
    refine hS.mono ?_
    rintro E w1 ⟨rfl, hb1⟩
    rw [HZ.out] at hb1
    clear hS
    go_wp2_with fail
    go_ret
    exact ⟨by rw [e0.out]; rfl, hb0.trans (hb1.mono (by omega))⟩

end Go.Proofs.Ytgjecledchhlgaa
