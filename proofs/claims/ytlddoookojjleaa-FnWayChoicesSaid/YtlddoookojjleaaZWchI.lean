/-
  The program's WayChoices.
-/
import Derived.Test.YtlddoookojjleaaZWch
import Derived.Test.YtlddoookojjleaaZStmtY
import Derived.Test.YtlddoookojjleaaZBase
import Derived.Test.YtlddoookojjleaaZAppG
import Derived.DataElems
import Derived.Deep.RegionHeld3
import Derived.Deep.LoopGhost
namespace Go.Proofs.Ytlddoookojjleaa
open Go.RowKit Go.Deep
set_option linter.unusedVariables false

/-- A slice without its first. -/
theorem tail_any (b : Addr) (n c : Nat) (hc : 1 ≤ c) (W : World) : (Instr.sliceAt 22 (.slice (some b) (n + 1) c) (some (.int .i64 1)) none none).run Try.prog W = .ok (.slice (some (if c = 1 then b else b.add 1)) n (c - 1)) W := by
  have he : Try.prog.elem 22 = 3 := by kernel_rfl
  have hz : (sizeOf 3).run Try.prog W = .ok 1 W := by first | exact Try.sizeOf3 W | simp [Try.sizeOf3] | kernel_rfl
  rw [run_sliceAt_slice W 22 _ _ _ _ (by kernel_rfl), run_slice_l W 22 (some b) (n + 1) c (by kernel_rfl) .i64 1 (by omega) (by omega), he, hz]
  by_cases h : c = 1
  · simp [sliced, h]
  · simp [sliced, h]

set_option maxRecDepth 100000 in
set_option maxHeartbeats 2000000 in
theorem choicesOf_any (C q : Nat) (ds : List Nd) (l : List Int) (A : Option Addr) (c : Nat) (w : World) (hD : PtsOk q ds) (hle : ds.length ≤ 61) (hl : l.length ≤ 1048576) (hG : Gr C w ds) (hX : IntsV w 0 w.heap.size (0 :: l) A c) :
    Calls Try.prog 38 #[.pointer (some ⟨C, 0, none⟩), .slice A (l.length + 1) c] w (WchPost (wchP ds 0 l) w) := by
  obtain ⟨b, hA, hb0, hbl, hcell⟩ := hX.2.2 (by simp)
  subst hA
  have hlc := hX.1
  have hcm := hX.2.1
  rw [List.length_cons] at hlc
  unfold maxLen at hcm
  have hsl := tail_any b l.length c (by omega)
  obtain ⟨b1, hb1e⟩ : ∃ b1, (if c = 1 then b else b.add 1) = b1 := ⟨_, rfl⟩
  simp only [hb1e] at hsl
  have hb1b : b1.block = b.block := by
    rw [← hb1e]
    split
    · rfl
    · exact block_add b 1
  have HXC : Hid (∀ j v, (0 :: l)[j]? = some v → w.cell? (b.add j) = some (.int .i64 v)) := hcell
  have HX1 : Hid (∀ j v, l[j]? = some v → w.cell? (b1.add j) = some (.int .i64 v)) := by
    intro j v hv
    have hj := (List.getElem?_eq_some_iff.mp hv).1
    rw [← hb1e, if_neg (by omega), Addr.add_add, Nat.add_comm]
    exact hcell (j + 1) v (by simpa using hv)
  have HG := Lib.hid hG
  have HD := Lib.hid hD
  have hC := hG.lt
  have hq : 0 < ds.length := by have := hD.1; omega
  obtain ⟨all, hall⟩ : ∃ all, all = wchP ds 0 l := ⟨_, rfl⟩
  have HST : Hid (WchAt ds all [] 0 (l.drop 0)) := Lib.hid (by rw [hall]; exact WchAt.start ds 0 l)
  have HRW : Hid (RowI w w.heap.size (.slice none 0 0) []) := World.ownsRow_nil w w.heap.size 3 1
  rw [← hall]
  clear hX hcell hG hD hb1e hall
  go_enter Try.func38, Try.ntmps38
  go_wp2_with fail
  go_loopg [6, 14] l.length (fun gg o kk wr => ∃ (k a : Nat) (cur : List Int), kk = .int .i64 (k : Int) ∧ k ≤ l.length ∧ gg = l.length - k ∧ cur.length ≤ k ∧ a < ds.length ∧ Hid ((0 :: l)[k]? = some (a : Int)) ∧ Hid (WchAt ds all cur a (l.drop k)) ∧ Hid (RowI wr w.heap.size o cur) ∧ Hid (Below w.heap.size w wr))
  case atStart => exact ⟨0, 0, [], rfl, Nat.zero_le _, rfl, Nat.le_refl _, hq, Lib.hid rfl, HST, HRW, Lib.hid (Below.refl _ _)⟩
  case round =>
    clear HST HRW
    obtain ⟨k, a, cur, rfl, hk, hgg, hcl, han, HA, HW, HO, HB⟩ := hrel
    have hbz := HB.out.size
    by_cases hlt : k < l.length
    · obtain ⟨v, hv⟩ : ∃ v, l[k]? = some v := ⟨l[k], List.getElem?_eq_getElem hlt⟩
      have HW2 : Hid (WchAt ds all cur a (v :: l.drop (k + 1))) := Lib.hid (by rw [← drop_get hv]; exact HW.out)
      have hc1 : wr.cell? (b1.add k) = some (.int .i64 v) := (HB.out.cell (show (b1.add k).block < w.heap.size by rw [block_add, hb1b]; exact hbl)).trans (HX1.out k v hv)
      have hc2 : wr.cell? (b.add k) = some (.int .i64 (a : Int)) := (HB.out.cell (show (b.add k).block < w.heap.size by rw [block_add]; exact hbl)).trans (HXC.out k _ HA.out)
      obtain ⟨d, hd⟩ : ∃ d, ds[a]? = some d := ⟨ds[a], List.getElem?_eq_getElem han⟩
      have htwo := nextN_two HD.out hd
      have hGr := HG.out.kept (HB.out.block C hC)
      have hno := nextOf_any C a d ds wr hGr hd
      have hnx : nextP ds a = d.next := nextP_some hd
      have HDA := Lib.hid hd
      have HNX := Lib.hid hnx
      have HGG := Lib.hid hgg
      have HNA : Hid ((0 :: l)[k + 1]? = some v) := Lib.hid (by simpa using hv)
      clear hv hd hnx hgg HW HA
      go_wp2_with fail
      refine hno.mono ?_
      rintro E w5 ⟨rfl, hb5⟩
      have HB5 := Lib.hid (HB.out.trans (hb5.mono hbz))
      have HO5 := Lib.hid (HO.out.below hb5)
      have hz5 := HB5.out.size
      have hG5 := HG.out.kept (HB5.out.block C hC)
      have hnode := (hG5.node HDA.out).2.1
      have hIN : IntsV w5 0 w5.heap.size d.next (some ⟨C, a * 7 + 4, none⟩) 2 := ⟨htwo, by unfold maxLen; omega, fun _ => ⟨_, rfl, Nat.zero_le _, hG5.lt, fun j u hj => by rw [add_block]; exact hnode j u hj⟩⟩
      have hix := index_any d.next v _ _ w5 (by omega) hIN
      have HC := Lib.hid (chc_index (b := v) htwo)
      have hge := idxI_ge d.next v 0
      clear hno hb5 hGr hG5 hnode hIN HB HO hc1 hc2
      go_wp2_with fail
      refine hix.mono ?_
      rintro E w6 ⟨rfl, e6⟩
      rw [← e6]
      obtain ⟨t, ht⟩ : ∃ t, idxI d.next v 0 = t := ⟨_, rfl⟩
      rw [ht] at HC hge
      rw [ht]
      clear hix e6 ht
      by_cases hmem : v ∈ d.next
      · have ht0 : ¬ t < 0 := by have := hge.mpr hmem; omega
        obtain ⟨n, hn, hnn⟩ := next_nat HD.out HDA.out hmem
        have hst := HW2.out.step (by rw [HNX.out]; exact hmem)
        rw [HNX.out, hn, Int.toNat_natCast] at hst
        rw [hn] at HNA HC
        have hmem2 : (n : Int) ∈ d.next := by rw [← hn]; exact hmem
        have HST2 := Lib.hid hst
        clear hge hst hmem hn HW2
        by_cases h2 : 1 < d.next.length
        · have hce := (HC.out hmem2).1 h2
          have HST3 : Hid (WchAt ds all (cur ++ [t]) n (l.drop (k + 1))) := Lib.hid (by have h9 := HST2.out; rw [hce] at h9; exact h9)
          have h2i : (1 : Int) < d.next.length := by omega
          obtain ⟨Ao, co, ho⟩ := HO5.out.slice
          have hrowL : RowI (w5.alloc (.cells #[.int .i64 t] 3)) w5.heap.size (.slice (some ⟨w5.heap.size, 0, none⟩) 1 1) [t] := World.ownsRow_lit (base := w5.heap.size) (e := 3) (size := 1) w5 #[.int .i64 t] 1 (by omega) (by simp [maxLen]) rfl
          have hba := (Below.refl w5.heap.size w5).alloc (Nat.le_refl _) (.cells #[.int .i64 t] 3)
          have HRL := Lib.hid hrowL
          have HO6 := Lib.hid (HO5.out.below hba)
          have HB6 := Lib.hid (HB5.out.alloc hz5 (.cells #[.int .i64 t] 3))
          subst ho
          clear hce HC hrowL hba HO5 HB5 HST2
          go_wp2_with (at_builtin; refine wpList_append_rows rfl _ _ rfl w.heap.size w5.heap.size _ _ cur [t] (by rfl) rfl HO6.out HRL.out ?rb1 ?rb2 ?_)
          try (case rb1 => simp only [List.length_cons, List.length_nil]; omega)
          try (case rb2 => simp; omega)
          intro v' w' hr' hgr'
          have hown := HO6.out
          have hb' := HB6.out.grown hgr' (by simp; omega) (fun k hk => ((RowI.own hown).lt k hk).1)
          have HR' := Lib.hid hr'
          have HBB := Lib.hid hb'
          clear hr' hgr' hb' hown
          go_wp2_with fail
          go_roundg (l.length - (k + 1))
          case measure => rw [HGG.out]; omega
          case rel => exact ⟨k + 1, n, cur ++ [t], by go_num, by omega, rfl, by simp; omega, hnn, HNA, HST3, HR', HBB⟩
        · have hce := (HC.out hmem2).2 h2
          have HST3 : Hid (WchAt ds all cur n (l.drop (k + 1))) := Lib.hid (by have h9 := HST2.out; rw [hce, List.append_nil] at h9; exact h9)
          have h2i : ¬ (1 : Int) < d.next.length := by omega
          clear hce HC HST2
          go_wp2_with fail
          go_roundg (l.length - (k + 1))
          case measure => rw [HGG.out]; omega
          case rel => exact ⟨k + 1, n, cur, by go_num, by omega, rfl, by omega, hnn, HNA, HST3, HO5, HB5⟩
      · have ht0 : t < 0 := by
          by_cases h : t < 0
          · exact h
          · exact absurd (hge.mp (by omega)) hmem
        have hbad := HW2.out.bad (by rw [HNX.out]; exact hmem)
        have HBAD := Lib.hid hbad
        have HNR : Hid (RowI w5 w.heap.size (.slice none 0 0) []) := World.ownsRow_nil w5 w.heap.size 3 1
        clear hge hbad HW2 HC hmem
        go_wp2_with fail
        go_ret2
        exact ⟨_, .inr ⟨HBAD.out, rfl, HNR.out⟩, HB5.out⟩
    · have hke : k = l.length := by omega
      have hls := HW.out
      rw [hke, List.drop_length] at hls
      have HLS := Lib.hid hls.last
      clear hls HW hke hgg
      go_wp2_with fail
      go_ret2
      exact ⟨_, .inl ⟨cur, HLS.out, rfl, HO.out⟩, HB.out⟩

set_option maxRecDepth 100000 in
set_option maxHeartbeats 2000000 in
theorem implWayChoices_any (ts : List Int) (s : Sts) (At As : Option Addr) (ct cs : Nat) (xs : List Int) (A : Option Addr) (c : Nat) (w : World) (hxl : xs.length ≤ 1048576) (hT : IntsV w 0 w.heap.size ts At ct) (hR : RepV w 0 w.heap.size s As cs) (hX : IntsV w 0 w.heap.size xs A c) :
    Calls Try.prog 19 #[.agg #[.slice At ts.length ct, .slice As s.len cs], .slice A xs.length c] w fun E w' => ∃ v, E = .returned (.tuple #[v, .bool (wchI (validB ts s) s xs).2]) ∧ RowI w' w.heap.size v (wchI (validB ts s) s xs).1 ∧ Below w.heap.size w w' := by
  have hb0 := (Below.refl w.heap.size w).alloc (Nat.le_refl _) (.cells #[.slice At ts.length ct, .slice As s.len cs] 31)
  have hT1 : IntsV (w.alloc (.cells #[.slice At ts.length ct, .slice As s.len cs] 31)) 0 (w.alloc (.cells #[.slice At ts.length ct, .slice As s.len cs] 31)).heap.size ts At ct := hT.below hb0 (by simp)
  have hR1 : RepV (w.alloc (.cells #[.slice At ts.length ct, .slice As s.len cs] 31)) 0 (w.alloc (.cells #[.slice At ts.length ct, .slice As s.len cs] 31)).heap.size s As cs := hR.below hb0 (by simp)
  have hz0 : (w.alloc (.cells #[.slice At ts.length ct, .slice As s.len cs] 31)).heap.size = w.heap.size + 1 := by simp
  have HZ := Lib.hid hz0
  have hXm := hX.2.1
  have hXl := hX.1
  unfold maxLen at hXm
  have hrow : ∀ (W : World), Hid (RowI W w.heap.size (.slice none 0 0) []) := fun W => World.ownsRow_nil W w.heap.size 3 1
  clear hz0
  cases hv : validB ts s
  · have hS := graphOf_no ts s At As ct cs _ hv hT1 hR1
    have e0 : Hid (wchI false s xs = ([], false)) := wchI_no (fun h => by cases h.1)
    clear hT1 hR1 hv
    go_enter Try.func19, Try.ntmps19
    go_wp2_with fail
    refine hS.mono ?_
    rintro E w1 ⟨rfl, hb1⟩
    rw [HZ.out] at hb1
    have hb := hb0.trans (hb1.mono (by omega))
    clear hb1 hS
    go_wp2_with fail
    go_ret2
    exact ⟨_, by rw [e0.out]; rfl, by rw [e0.out]; exact (hrow _).out, hb⟩
  have hS := graphOf_yes ts s At As ct cs _ hv hT1 hR1
  have HD := Lib.hid (progPts_ok s (valid_ok hv).2.1)
  have HLE : Hid ((progPts s).length ≤ 61) := by
    have := s.npts_le
    have := valid_size hv
    unfold Hid
    rw [progPts_len]
    omega
  clear hT1 hR1 hv
  cases xs with
  | nil =>
    have e0 : Hid (wchI true s [] = ([], false)) := rfl
    go_enter Try.func19, Try.ntmps19
    go_wp2_with fail
    refine hS.mono ?_
    rintro E w1 ⟨C, rfl, hC, hG, hb1⟩
    rw [HZ.out] at hb1
    have hb := hb0.trans (hb1.mono (by omega))
    clear hb1 hS hG
    go_wp2_with fail
    go_ret2
    exact ⟨_, by rw [e0.out]; rfl, by rw [e0.out]; exact (hrow _).out, hb⟩
  | cons x l =>
    rw [List.length_cons] at hXl hxl ⊢
    obtain ⟨b, hA, hbl0, hbl, hcell⟩ := hX.2.2 (by simp)
    subst hA
    have hc0 := hcell 0 x rfl
    rw [add_zero13] at hc0
    by_cases hx : x = 0
    · subst hx
      have HX := Lib.hid hX
      clear hcell hX
      go_enter Try.func19, Try.ntmps19
      go_wp2_with fail
      refine hS.mono ?_
      rintro E w1 ⟨C, rfl, hC, hG, hb1⟩
      rw [HZ.out] at hb1
      have hb := hb0.trans (hb1.mono (by omega))
      have hbz := hb.size
      have hc1 : w1.cell? b = some (.int .i64 0) := (hb.cell hbl).trans hc0
      have hch := choicesOf_any C s.npts (progPts s) l (some b) c w1 HD.out HLE.out (by omega) hG (HX.out.below hb hbz)
      clear hb1 hS hG hc0
      go_wp2_with fail
      refine hch.mono ?_
      intro E w2 hp
      obtain ⟨v, rfl, hrw, hb2⟩ := WchPost.ans hp
      have HRW := Lib.hid (hrw.mono hbz)
      have hbE := hb.trans (hb2.mono hbz)
      clear hch hp hrw hb2 hc1
      go_wp2_with fail
      go_ret2
      exact ⟨v, rfl, HRW.out, hbE⟩
    · have e0 : Hid (wchI true s (x :: l) = ([], false)) := wchI_no (fun h => by obtain ⟨_, l', h2⟩ := h; injection h2 with h3 h4; exact hx h3)
      have hxn : (x != 0) = true := by simp [hx]
      clear hcell hX
      go_enter Try.func19, Try.ntmps19
      go_wp2_with fail
      refine hS.mono ?_
      rintro E w1 ⟨C, rfl, hC, hG, hb1⟩
      rw [HZ.out] at hb1
      have hb := hb0.trans (hb1.mono (by omega))
      have hc1 : w1.cell? b = some (.int .i64 x) := (hb.cell hbl).trans hc0
      clear hb1 hS hG hc0
      go_wp2_with fail
      go_ret2
      exact ⟨_, by rw [e0.out]; rfl, by rw [e0.out]; exact (hrow _).out, hb⟩

end Go.Proofs.Ytlddoookojjleaa
