/-
  The model's points of a list of statements.
-/
import Derived.Test.YtcaklhempmlpgaaPRowB
import Derived.Test.YtcaklhempmlpgaaGrC
import Derived.Lib.Hide
namespace Go.Proofs.Ytcaklhempmlpgaa
open Go.RowKit Go.Deep
set_option linter.unusedVariables false

theorem Try.infoPoint : (Try.prog.info? 36).map (fun i => (i.zero, i.size, i.bytes)) = some (some (.agg #[.int .i64 0, .int .i64 0, .int .i64 0, .int .i64 0, .slice none 0 0]), 5, 56) := by kernel_rfl

theorem news_cell {w : World} {H : Nat} {cs : Array Value} {t : TypeId} {l : List Value} (hH : w.heap.size = H) (hl : l.toArray = cs) : ∀ j u, l[j]? = some u → (w.alloc (.cells cs t)).cell? ((⟨H, 0, none⟩ : Addr).add j) = some u := by
  subst hH hl
  intro j u hj
  rw [add_block, Nat.zero_add, cell_of_block (heap_alloc_new _ _)]
  simpa using hj

/-- What the model's adding of a list answers. -/
def L2Post (B : Nat) (w : World) (v : Value) (ns ds : List Nd) (E : Ending) (w' : World) : Prop := ∃ v', E = .returned v' ∧ PRow w' B v' (ns ++ ds) ∧ Onto w w' v v'

set_option maxRecDepth 100000 in
set_option maxHeartbeats 4000000 in
theorem l2Add_any (N B : Nat) : ∀ (s : Sts) (A : Option Addr) (c : Nat) (ns : List Nd) (v : Value) (w : World), s.size < N → s.size ≤ 1000000 → B ≤ w.heap.size → RepV w 0 B s A c → PRow w B v ns → ns.length + s.npts ≤ 4000000 →
    Calls Try.prog 43 #[v, .slice A s.len c] w (L2Post B w v ns (s.pts ns.length)) := by
  induction N with
  | zero => intro s A c ns v w h; omega
  | succ N ih =>
    intro s A c ns v w hN hsz hBw hR hP hl
    have hm := hR.2.1
    have hlc := hR.1
    have hls := s.len_le_size
    unfold maxLen at hm
    obtain ⟨i0, hi, hz0, hz1, hz2⟩ := info_parts Try.infoPoint
    have HI := Lib.hid hi
    have HZ0 := Lib.hid hz0
    have HZ1 := Lib.hid hz1
    have HZ2 := Lib.hid hz2
    clear hi hz0 hz1 hz2
    have HP := Lib.hid hP
    have HL : Hid ((ns ++ s.pts ns.length).length ≤ 4000000) := by unfold Hid; rw [List.length_append, Sts.pts_len]; exact hl
    clear hP
    go_enter Try.func43, Try.ntmps43
    go_wp2_with fail
    go_loopw [0, 5] (fun u i wr => ∃ (k : Nat) (cur : List Nd), k ≤ s.len ∧ i = .int .i64 k ∧ Hid (PRow wr B u cur) ∧ Onto w wr v u ∧ Hid (ns ++ s.pts ns.length = cur ++ (s.drop k).pts cur.length)) (fun _ i _ => s.len - (intOf i).toNat)
    case atStart => exact ⟨0, ns, Nat.zero_le _, rfl, HP, Onto.refl _ _, rfl⟩
    case round =>
      obtain ⟨k, cur, hk, rfl, hPc, hO, hpt⟩ := hrel
      have hBr : B ≤ wr.heap.size := Nat.le_trans hBw hO.size
      have hbel := hO.below HP.out hBw
      by_cases hlt : k < s.len
      · have hR1 : RepV wr 0 B s A c := hR.keep (Nat.le_refl _) (Nat.le_refl _) fun p _ hp => hbel.cell hp
        obtain ⟨b, op, x, y, n, t, e, rfl, -, hbb, hdr, At, ct, Ae, ce, ⟨h0, h1, h2, h3, h4, h5⟩, hRt, hRe⟩ := hR1.elem hlt
        have hz := RepV.drop_sizes hdr
        have hpd := Sts.pts_drop s k op x y n t e _ cur hdr
        have hlen : cur.length + stN op t.npts e.npts ≤ 4000000 := by
          have h1 := HL.out
          rw [hpt.out, hpd, List.length_append, List.length_append, stPts_len _ _ _ _ _ _ _ _ _ (t.pts_len _) (e.pts_len _)] at h1
          omega
        have hpt2 : Hid (ns ++ s.pts ns.length = (cur ++ stPts op x y n cur.length t.npts e.npts (t.pts (cur.length + 1)) (e.pts (cur.length + 2 + t.npts))) ++ (s.drop (k + 1)).pts (cur ++ stPts op x y n cur.length t.npts e.npts (t.pts (cur.length + 1)) (e.pts (cur.length + 2 + t.npts))).length) := by
          unfold Hid
          rw [hpt.out, hpd]
        obtain ⟨Au, cu, hu⟩ := hPc.out.slice
        obtain ⟨xs, ho, hc⟩ := hPc.out
        have HO := Lib.hid ho
        have HC := Lib.hid hc
        have HRt := Lib.hid hRt
        have HRe := Lib.hid hRe
        subst hu
        clear hpt hpd hdr hR1 ho hc hRt hRe
        by_cases e9 : op = 9
        · subst e9
          obtain ⟨T, hTT⟩ : ∃ T, T = t.pts (cur.length + 1) := ⟨_, rfl⟩
          obtain ⟨L, hLL⟩ : ∃ L, L = e.pts (cur.length + 2 + t.npts) := ⟨_, rfl⟩
          obtain ⟨m, hm'⟩ : ∃ m, m = cur.length + 1 + t.npts := ⟨_, rfl⟩
          obtain ⟨q, hq'⟩ : ∃ q, q = cur.length + 2 + t.npts + e.npts := ⟨_, rfl⟩
          have htl : T.length = t.npts := by rw [hTT, Sts.pts_len]
          have hll : L.length = e.npts := by rw [hLL, Sts.pts_len]
          have hlen2 : cur.length + (2 + t.npts + e.npts) ≤ 4000000 := by simpa [stN] using hlen
          have HM : Hid ((cur ++ (⟨9, 0, 0, 0, []⟩ : Nd) :: T).length = m) := by unfold Hid; simp; omega
          have HM3 : Hid ((cur ++ (⟨9, 0, 0, 0, []⟩ : Nd) :: (T ++ [(⟨10, 0, 0, 1, []⟩ : Nd)])).length = m + 1) := by unfold Hid; simp; omega
          have HQ : Hid (((cur ++ (⟨9, 0, 0, 0, []⟩ : Nd) :: T) ++ (⟨10, 0, 0, 1, []⟩ : Nd) :: L).length = q) := by unfold Hid; simp; omega
          have HQ2 : Hid ((cur ++ (⟨9, 0, 0, 0, []⟩ : Nd) :: (T ++ (⟨10, 0, 0, 1, [(q : Int)]⟩ : Nd) :: L)).length = q) := by unfold Hid; simp; omega
          have hst : Hid (stPts 9 x y n cur.length t.npts e.npts (t.pts (cur.length + 1)) (e.pts (cur.length + 2 + t.npts)) = ⟨9, 0, 0, 0, [((cur.length + 1 : Nat) : Int), ((m + 1 : Nat) : Int)]⟩ :: (T ++ ⟨10, 0, 0, 1, [(q : Int)]⟩ :: L)) := by
            unfold Hid
            rw [← hTT, ← hLL, hm', hq', show cur.length + 1 + t.npts + 1 = cur.length + 2 + t.npts by omega]
            rfl
          have hcm : cur.length < m := by omega
          have hmq : m < q := by omega
          have hm4 : m ≤ 4000000 := by omega
          have hme : m + 1 + e.npts ≤ 4000000 := by omega
          have hmt : cur.length + 1 + t.npts ≤ 4000000 := by omega
          have HMQ : Hid (m + 1 = cur.length + 2 + t.npts) := by unfold Hid; omega
          have HTT := Lib.hid hTT
          have HLL := Lib.hid hLL
          have hbX := (Below.refl wr.heap.size wr).alloc (Nat.le_refl _) (.cells #[.int .i64 9, .int .i64 x, .int .i64 y, .int .i64 n, .slice At t.len ct, .slice Ae e.len ce] 41)
          have HOX := Lib.hid (Onto.of_below hbX (Value.slice Au cur.length cu))
          have hzX : (wr.alloc (.cells #[.int .i64 9, .int .i64 x, .int .i64 y, .int .i64 n, .slice At t.len ct, .slice Ae e.len ce] 41)).heap.size = wr.heap.size + 1 := by simp
          have HZX := Lib.hid hzX
          have HNE : Hid (some wr.heap.size ≠ (Value.slice Au cur.length cu).ownBlock) := fun e => by have := (hPc.out.own _ e.symm).2; omega
          have HBX := Lib.hid (heap_alloc_new wr (.cells #[.int .i64 9, .int .i64 x, .int .i64 y, .int .i64 n, .slice At t.len ct, .slice Ae e.len ce] 41))
          clear hTT hLL hm' hq' htl hll hlen hlen2 hbX hzX
          go_wp2_with (at_builtin; refine wpList_append_lies _ rfl _ _ 32 rfl B 36 i0 (.agg #[.int .i64 0, .int .i64 0, .int .i64 0, .int .i64 0, .slice none 0 0]) 5 56 Try.underlying32 HI.out HZ0.out HZ1.out HZ2.out rfl (by decide) _ _ _ rfl ((HO.out.alloc _).alloc _) ⟨_, 0, none⟩ 1 1 [.int .i64 9, .int .i64 0, .int .i64 0, .int .i64 0, .slice none 0 0] rfl rfl ?e91 ?e92 (by decide) ?e93 ?e94 ?e95 _ rfl ?_)
          try (case e91 => exact news_cell (by simp) rfl)
          case e92 =>
            intro u hu
            simp only [List.mem_cons, List.not_mem_nil, or_false] at hu
            rcases hu with rfl | rfl | rfl | rfl | rfl <;> rfl
          case e93 => unfold maxLen; omega
          case e94 => omega
          case e95 => simp; omega
          intro g1 cap1 w1 hown' hg hat hlt'
          have hbA := (Below.refl (wr.alloc (.cells #[.int .i64 9, .int .i64 x, .int .i64 y, .int .i64 n, .slice At t.len ct, .slice Ae e.len ce] 41)).heap.size (wr.alloc (.cells #[.int .i64 9, .int .i64 x, .int .i64 y, .int .i64 n, .slice At t.len ct, .slice Ae e.len ce] 41))).alloc (Nat.le_refl _) (.cells #[.int .i64 9, .int .i64 0, .int .i64 0, .int .i64 0, .slice none 0 0] 36)
          obtain ⟨hP', hO'⟩ := PRow.appended_at (d := (⟨9, 0, 0, 0, []⟩ : Nd)) (show Hid (cur.length = cur.length) from rfl) ((HO.out.alloc _).alloc _) (fun k d hd => (HC.out k d hd).kept (below_grown (((Below.refl wr.heap.size wr).alloc (Nat.le_refl _) (.cells #[.int .i64 9, .int .i64 x, .int .i64 y, .int .i64 n, .slice At t.len ct, .slice Ae e.len ce] 41)).alloc (by simp) (.cells #[.int .i64 9, .int .i64 0, .int .i64 0, .int .i64 0, .slice none 0 0] 36))) (fun g e => by cases e)) (.inl ⟨rfl, rfl⟩) hg (hat.imp id fun e => e.trans (by simp)) hown'
          have HP1 := Lib.hid hP'
          have HO1 := Lib.hid ((Onto.of_below hbA _).trans hO')
          have HB1 := Lib.hid ((HO1.out.block (k := wr.heap.size) (by rw [HZX.out]; omega) HNE.out).trans HBX.out)
          have c4 : w1.cell? ⟨wr.heap.size, 4, none⟩ = some (.slice At t.len ct) := (cell_of_block HB1.out 4).trans rfl
          have hwb1 : wr.heap.size < w1.heap.size := heap_lt HB1.out
          have HR1 := Lib.hid (HRt.out.keep (Nat.le_refl _) (Nat.le_refl _) fun p _ hp => (((HOX.out.trans HO1.out).below hPc.out hBr).cell hp))
          clear hown' hg hat hbA hP' hO' HO HC
          go_wp2_with fail
          refine (ih t At ct (cur ++ [(⟨9, 0, 0, 0, []⟩ : Nd)]) _ w1 (by omega) (by omega) (by omega) HR1.out HP1.out (by simp; omega)).mono ?_
          rintro E w2 ⟨v2, rfl, hP2, hO2⟩
          have HP2 : Hid (PRow w2 B v2 (cur ++ (⟨9, 0, 0, 0, []⟩ : Nd) :: T)) := by
            unfold Hid
            have hln : (cur ++ [(⟨9, 0, 0, 0, []⟩ : Nd)]).length = cur.length + 1 := by simp
            have := hP2
            rw [hln, List.append_assoc, ← HTT.out] at this
            exact this
          obtain ⟨g2, cap2, hv2, hgB2, hgl2⟩ := HP2.out.named HM (by omega)
          subst hv2
          have HO2 := Lib.hid (HO1.out.trans hO2)
          have hw2 := hO2.size
          obtain ⟨xs2, ho2, hc2⟩ := HP2.out.parts HM
          have HX2 := Lib.hid ho2
          have HC2 := Lib.hid hc2
          clear ho2 hc2 hP2 hO2 c4 HB1 HR1 HP1 HO1
          go_wp2_with (at_builtin; refine wpList_append_lies _ rfl _ _ 32 rfl B 36 i0 (.agg #[.int .i64 0, .int .i64 0, .int .i64 0, .int .i64 0, .slice none 0 0]) 5 56 Try.underlying32 HI.out HZ0.out HZ1.out HZ2.out rfl (by decide) _ _ _ rfl (HX2.out.alloc _) ⟨_, 0, none⟩ 1 1 [.int .i64 10, .int .i64 0, .int .i64 0, .int .i64 1, .slice none 0 0] rfl rfl ?f91 ?f92 (by decide) ?f93 ?f94 ?f95 _ rfl ?_)
          try (case f91 => exact news_cell (by simp) rfl)
          case f92 =>
            intro u hu
            simp only [List.mem_cons, List.not_mem_nil, or_false] at hu
            rcases hu with rfl | rfl | rfl | rfl | rfl <;> rfl
          case f93 => unfold maxLen; omega
          case f94 => omega
          case f95 => simp; omega
          intro g3 cap3 w3 hown' hg hat hlt'
          have hbA := (Below.refl w2.heap.size w2).alloc (Nat.le_refl _) (.cells #[.int .i64 10, .int .i64 0, .int .i64 0, .int .i64 1, .slice none 0 0] 36)
          obtain ⟨hP', hO'⟩ := PRow.appended_at (d := (⟨10, 0, 0, 1, []⟩ : Nd)) HM (HX2.out.alloc _) (fun k d hd => (HC2.out k d hd).kept (below_grown hbA) (fun g e => by cases e)) (.inl ⟨rfl, rfl⟩) hg (hat.imp id fun e => e.trans (by simp)) hown'
          have HP3 : Hid (PRow w3 B (.slice (some ⟨g3, 0, none⟩) (m + 1) cap3) (cur ++ (⟨9, 0, 0, 0, []⟩ : Nd) :: (T ++ [(⟨10, 0, 0, 1, []⟩ : Nd)]))) := by
            unfold Hid
            rw [List.append_assoc, List.cons_append] at hP'
            exact hP'
          have HO3 := Lib.hid (HO2.out.trans ((Onto.of_below hbA _).trans hO'))
          have HB3 := Lib.hid ((HO3.out.block (k := wr.heap.size) (by rw [HZX.out]; omega) HNE.out).trans HBX.out)
          have c5 : w3.cell? ⟨wr.heap.size, 5, none⟩ = some (.slice Ae e.len ce) := (cell_of_block HB3.out 5).trans rfl
          have hwb3 : wr.heap.size < w3.heap.size := heap_lt HB3.out
          have HR3 := Lib.hid (HRe.out.keep (Nat.le_refl _) (Nat.le_refl _) fun p _ hp => (((HOX.out.trans HO3.out).below hPc.out hBr).cell hp))
          clear hown' hg hat hbA hP' hO' HX2 HC2 HP2 HO2
          go_wp2_with fail
          refine (ih e Ae ce (cur ++ (⟨9, 0, 0, 0, []⟩ : Nd) :: (T ++ [(⟨10, 0, 0, 1, []⟩ : Nd)])) _ w3 (by omega) (by omega) (by omega) HR3.out HP3.out (by rw [HM3.out]; exact hme)).mono ?_
          rintro E w4 ⟨v4, rfl, hP4, hO4⟩
          have HP4 : Hid (PRow w4 B v4 ((cur ++ (⟨9, 0, 0, 0, []⟩ : Nd) :: T) ++ (⟨10, 0, 0, 1, []⟩ : Nd) :: L)) := by
            unfold Hid
            have := hP4
            rw [HM3.out, HMQ.out, ← HLL.out] at this
            simpa using this
          obtain ⟨g4, cap4, hv4, hgB4, hgl4⟩ := HP4.out.named HQ (by omega)
          subst hv4
          have HO4 := Lib.hid (HO3.out.trans hO4)
          have hw4 := hO4.size
          obtain ⟨⟨u5, hu5⟩, hf5⟩ := HP4.out.nextCell HQ HM
          have HP4b : Hid (PRow w4 B (.slice (some ⟨g4, 0, none⟩) q cap4) (cur ++ (⟨9, 0, 0, 0, []⟩ : Nd) :: (T ++ (⟨10, 0, 0, 1, []⟩ : Nd) :: L))) := by
            unfold Hid
            have := HP4.out
            rw [List.append_assoc, List.cons_append] at this
            exact this
          have HQb : Hid ((cur ++ (⟨9, 0, 0, 0, []⟩ : Nd) :: (T ++ (⟨10, 0, 0, 1, []⟩ : Nd) :: L)).length = q) := by
            have := HQ.out
            rw [List.append_assoc, List.cons_append] at this
            exact this
          obtain ⟨⟨u6', hu6⟩, hf6⟩ := HP4b.out.nextCell HQb (show Hid (cur.length = cur.length) from rfl)
          obtain ⟨hP5, hO5⟩ := HP4.out.next_new (next := [(q : Int)]) (cs := #[.int .i64 (q : Int)]) HQ HM (by omega) rfl rfl
          have HP5 : Hid (PRow ((w4.setCell ⟨g4, m * 5 + 4, none⟩ (.slice (some ⟨w4.heap.size, 0, none⟩) 1 1)).alloc (.cells #[.int .i64 (q : Int)] 3)) B (.slice (some ⟨g4, 0, none⟩) q cap4) (cur ++ (⟨9, 0, 0, 0, []⟩ : Nd) :: (T ++ (⟨10, 0, 0, 1, [(q : Int)]⟩ : Nd) :: L))) := by
            unfold Hid
            rw [List.append_assoc, List.cons_append] at hP5
            exact hP5
          obtain ⟨hP6, hO6⟩ := HP5.out.next_new (next := [((cur.length + 1 : Nat) : Int), ((m + 1 : Nat) : Int)]) (cs := #[.int .i64 ((cur.length : Int) + 1), .int .i64 ((m : Int) + 1)]) HQ2 (show Hid (cur.length = cur.length) from rfl) (by simp [World.setCell]; omega) rfl rfl
          have hzz : ((w4.setCell ⟨g4, m * 5 + 4, none⟩ (.slice (some ⟨w4.heap.size, 0, none⟩) 1 1)).alloc (.cells #[.int .i64 (q : Int)] 3)).heap.size = w4.heap.size + 1 := by simp [World.setCell]
          rw [hzz, World.setCell_alloc_past _ _ _ _ (by simp [World.setCell]; exact hgl4)] at hP6 hO6
          have HP6 := Lib.hid hP6
          have HO6 := Lib.hid (hO.trans (HOX.out.trans (HO4.out.trans (hO5.trans hO6))))
          have hcq : cur.length < q := by omega
          clear hP4 hO4 c5 HB3 HR3 HP3 HO3 HP5 hP5 hO5 hP6 hO6 hzz
          go_wp2_with fail
          go_roundw
          case rel => exact ⟨k + 1, _, by omega, by go_num, HP6, HO6.out, by rw [← hst.out]; exact hpt2⟩
          case measure => simp [intOf]; omega
        · by_cases e10 : op = 10
          · subst e10
            obtain ⟨T, hTT⟩ : ∃ T, T = t.pts (cur.length + 1) := ⟨_, rfl⟩
            obtain ⟨m, hm'⟩ : ∃ m, m = cur.length + 1 + t.npts := ⟨_, rfl⟩
            have htl : T.length = t.npts := by rw [hTT, Sts.pts_len]
            have HM : Hid ((cur ++ (⟨10, 0, 0, 0, []⟩ : Nd) :: T).length = m) := by unfold Hid; simp; omega
            have hcm : cur.length < m := by omega
            have hst : Hid (stPts 10 x y n cur.length t.npts e.npts (t.pts (cur.length + 1)) (e.pts (cur.length + 2 + t.npts)) = ⟨10, 0, 0, 0, [((cur.length + 1 : Nat) : Int), ((m + 1 : Nat) : Int)]⟩ :: (T ++ [⟨10, 0, 0, 1, [(cur.length : Int)]⟩])) := by
              unfold Hid
              rw [← hTT, hm', show cur.length + 1 + t.npts + 1 = cur.length + 2 + t.npts by omega]
              rfl
            have hlen2 : cur.length + (2 + t.npts) ≤ 4000000 := by simpa [stN] using hlen
            have hm4 : m ≤ 4000000 := by omega
            have HM2 : Hid ((cur ++ (⟨10, 0, 0, 0, []⟩ : Nd) :: (T ++ [(⟨10, 0, 0, 1, [(cur.length : Int)]⟩ : Nd)])).length = m + 1) := by unfold Hid; simp; omega
            have HTT := Lib.hid hTT
            clear hTT hm' htl hlen
            go_wp2_with (at_builtin; refine wpList_append_lies _ rfl _ _ 32 rfl B 36 i0 (.agg #[.int .i64 0, .int .i64 0, .int .i64 0, .int .i64 0, .slice none 0 0]) 5 56 Try.underlying32 HI.out HZ0.out HZ1.out HZ2.out rfl (by decide) _ _ _ rfl ((HO.out.alloc _).alloc _) ⟨_, 0, none⟩ 1 1 [.int .i64 10, .int .i64 0, .int .i64 0, .int .i64 0, .slice none 0 0] rfl rfl ?a101 ?a102 (by decide) ?a103 ?a104 ?a105 _ rfl ?_)
            try (case a101 => exact news_cell (by simp) rfl)
            case a102 =>
              intro u hu
              simp only [List.mem_cons, List.not_mem_nil, or_false] at hu
              rcases hu with rfl | rfl | rfl | rfl | rfl <;> rfl
            case a103 => unfold maxLen; omega
            case a104 => omega
            case a105 => simp; omega
            intro g1 cap1 w1 hown' hg hat hlt'
            have hbA := ((Below.refl wr.heap.size wr).alloc (Nat.le_refl _) (.cells #[.int .i64 10, .int .i64 x, .int .i64 y, .int .i64 n, .slice At t.len ct, .slice Ae e.len ce] 41)).alloc (by simp) (.cells #[.int .i64 10, .int .i64 0, .int .i64 0, .int .i64 0, .slice none 0 0] 36)
            obtain ⟨hP', hO'⟩ := PRow.appended_at (d := (⟨10, 0, 0, 0, []⟩ : Nd)) (show Hid (cur.length = cur.length) from rfl) ((HO.out.alloc _).alloc _) (fun k d hd => (HC.out k d hd).kept (below_grown hbA) (fun g e => by cases e)) (.inl ⟨rfl, rfl⟩) hg (hat.imp id fun e => e.trans (by simp)) hown'
            have HP1 := Lib.hid hP'
            have HO1 := Lib.hid ((Onto.of_below hbA _).trans hO')
            have hw1 := HO1.out.size
            have HB1 := Lib.hid ((hO'.block (k := wr.heap.size) (by simp <;> omega) (fun e => by have := (hPc.out.own _ e.symm).2; omega)).trans ((Below.heap_alloc _ _ _ (by simp <;> omega)).trans (heap_alloc_new wr (.cells #[.int .i64 10, .int .i64 x, .int .i64 y, .int .i64 n, .slice At t.len ct, .slice Ae e.len ce] 41))))
            have c4 : w1.cell? ⟨wr.heap.size, 4, none⟩ = some (.slice At t.len ct) := (cell_of_block HB1.out 4).trans rfl
            have hwb1 : wr.heap.size < w1.heap.size := heap_lt HB1.out
            have HR1 := Lib.hid (HRt.out.keep (Nat.le_refl _) (Nat.le_refl _) fun p _ hp => ((HO1.out.below hPc.out hBr).cell hp))
            clear hown' hg hat hbA hP' hO' HO HC
            go_wp2_with fail
            refine (ih t At ct (cur ++ [(⟨10, 0, 0, 0, []⟩ : Nd)]) _ w1 (by omega) (by omega) (by omega) HR1.out HP1.out (by simp; omega)).mono ?_
            rintro E w2 ⟨v2, rfl, hP2, hO2⟩
            have HP2 : Hid (PRow w2 B v2 (cur ++ (⟨10, 0, 0, 0, []⟩ : Nd) :: T)) := by
              unfold Hid
              have hln : (cur ++ [(⟨10, 0, 0, 0, []⟩ : Nd)]).length = cur.length + 1 := by simp
              have := hP2
              rw [hln, List.append_assoc, ← HTT.out] at this
              exact this
            obtain ⟨g2, cap2, hv2, hgB2, hgl2⟩ := HP2.out.named HM (by omega)
            subst hv2
            have HO2 := Lib.hid (HO1.out.trans hO2)
            have hw2 := hO2.size
            obtain ⟨xs2, ho2, hc2⟩ := HP2.out.parts HM
            have HX2 := Lib.hid ho2
            have HC2 := Lib.hid hc2
            clear ho2 hc2 hP2 hO2 c4 HB1 HR1 HP1 HO1
            go_wp2_with (at_builtin; refine wpList_append_lies _ rfl _ _ 32 rfl B 36 i0 (.agg #[.int .i64 0, .int .i64 0, .int .i64 0, .int .i64 0, .slice none 0 0]) 5 56 Try.underlying32 HI.out HZ0.out HZ1.out HZ2.out rfl (by decide) _ _ _ rfl ((HX2.out.alloc _).alloc _) ⟨_, 0, none⟩ 1 1 [.int .i64 10, .int .i64 0, .int .i64 0, .int .i64 1, .slice (some ⟨w2.heap.size, 0, none⟩) 1 1] rfl rfl ?b101 ?b102 (by decide) ?b103 ?b104 ?b105 _ rfl ?_)
            try (case b101 => exact news_cell (by simp) rfl)
            case b102 =>
              intro u hu
              simp only [List.mem_cons, List.not_mem_nil, or_false] at hu
              rcases hu with rfl | rfl | rfl | rfl | rfl <;> rfl
            case b103 => unfold maxLen; omega
            case b104 => omega
            case b105 => simp; omega
            intro g3 cap3 w3 hown' hg hat hlt'
            have hbA := ((Below.refl w2.heap.size w2).alloc (Nat.le_refl _) (.cells #[.int .i64 (cur.length : Int)] 3)).alloc (by simp) (.cells #[.int .i64 10, .int .i64 0, .int .i64 0, .int .i64 1, .slice (some ⟨w2.heap.size, 0, none⟩) 1 1] 36)
            have hnv : NextV ((w2.alloc (.cells #[.int .i64 (cur.length : Int)] 3)).alloc (.cells #[.int .i64 10, .int .i64 0, .int .i64 0, .int .i64 1, .slice (some ⟨w2.heap.size, 0, none⟩) 1 1] 36)) B (.slice (some ⟨w2.heap.size, 0, none⟩) 1 1) [(cur.length : Int)] :=
              (NextV.lit (w := w2) (B := B) (by omega) [(cur.length : Int)]).below ((Below.refl _ _).alloc (Nat.le_refl _) _)
            obtain ⟨hP', hO'⟩ := PRow.appended_at (d := ⟨10, 0, 0, 1, [(cur.length : Int)]⟩) HM ((HX2.out.alloc _).alloc _) (fun k d hd => (HC2.out k d hd).kept (below_grown hbA) (fun g e => by cases e)) hnv hg (hat.imp id fun e => e.trans (by simp)) hown'
            have HP3 : Hid (PRow w3 B (.slice (some ⟨g3, 0, none⟩) (m + 1) cap3) (cur ++ (⟨10, 0, 0, 0, []⟩ : Nd) :: (T ++ [(⟨10, 0, 0, 1, [(cur.length : Int)]⟩ : Nd)]))) := by
              unfold Hid
              rw [List.append_assoc, List.cons_append] at hP'
              exact hP'
            have HO3 := Lib.hid (HO2.out.trans ((Onto.of_below hbA _).trans hO'))
            have hw3 := HO3.out.size
            have hgl3 := (HP3.out.own g3 rfl).2
            obtain ⟨⟨u4, hu4⟩, hf4⟩ := HP3.out.nextCell HM2 (show Hid (cur.length = cur.length) from rfl)
            have hcm2 : cur.length < m + 1 := by omega
            clear hown' hg hat hbA hnv hP' hO' HX2 HC2 HP2 HO2
            go_wp2_with fail
            obtain ⟨hP5, hO5⟩ := HP3.out.next_new (next := [((cur.length + 1 : Nat) : Int), ((m + 1 : Nat) : Int)]) HM2 (show Hid (cur.length = cur.length) from rfl) (by omega) rfl rfl
            have HP5 := Lib.hid hP5
            have HO5 := Lib.hid (hO.trans (HO3.out.trans hO5))
            clear hP5 hO5
            go_roundw
            case rel => exact ⟨k + 1, _, by omega, by go_num, HP5, HO5.out, by rw [← hst.out]; exact hpt2⟩
            case measure => simp [intOf]; omega
          · have hn9 : (op == 9) = false := by simpa using e9
            have hn10 : (op == 10) = false := by simpa using e10
            have hst : Hid (stPts op x y n cur.length t.npts e.npts (t.pts (cur.length + 1)) (e.pts (cur.length + 2 + t.npts)) = [⟨op, x, y, n, [((cur.length + 1 : Nat) : Int)]⟩]) := by simp [Hid, stPts, e9, e10]
            have hln : cur.length ≤ 4000000 := by omega
            go_wp2_with (at_builtin; refine wpList_append_lies _ rfl _ _ 32 rfl B 36 i0 (.agg #[.int .i64 0, .int .i64 0, .int .i64 0, .int .i64 0, .slice none 0 0]) 5 56 Try.underlying32 HI.out HZ0.out HZ1.out HZ2.out rfl (by decide) _ _ _ rfl (((HO.out.alloc _).alloc _).alloc _) ⟨_, 0, none⟩ 1 1 [.int .i64 op, .int .i64 x, .int .i64 y, .int .i64 n, .slice (some ⟨wr.heap.size + 1, 0, none⟩) 1 1] rfl rfl ?d1 ?d2 (by decide) ?d3 ?d4 ?d5 _ rfl ?_)
            try (case d1 => exact news_cell (by simp) rfl)
            case d2 =>
              intro u hu
              simp only [List.mem_cons, List.not_mem_nil, or_false] at hu
              rcases hu with rfl | rfl | rfl | rfl | rfl <;> rfl
            case d3 => unfold maxLen; omega
            case d4 => omega
            case d5 => simp; omega
            intro g cap w' hown' hg hat hlt'
            have hzb : (wr.alloc (.cells #[.int .i64 op, .int .i64 x, .int .i64 y, .int .i64 n, .slice At t.len ct, .slice Ae e.len ce] 41)).heap.size = wr.heap.size + 1 := by simp
            have hbA := (((Below.refl wr.heap.size wr).alloc (Nat.le_refl _) (.cells #[.int .i64 op, .int .i64 x, .int .i64 y, .int .i64 n, .slice At t.len ct, .slice Ae e.len ce] 41)).alloc (by simp) (.cells #[.int .i64 ((cur.length : Int) + 1)] 3)).alloc (by simp; omega) (.cells #[.int .i64 op, .int .i64 x, .int .i64 y, .int .i64 n, .slice (some ⟨wr.heap.size + 1, 0, none⟩) 1 1] 36)
            have hnv : NextV ((((wr.alloc (.cells #[.int .i64 op, .int .i64 x, .int .i64 y, .int .i64 n, .slice At t.len ct, .slice Ae e.len ce] 41))).alloc (.cells #[.int .i64 ((cur.length : Int) + 1)] 3)).alloc (.cells #[.int .i64 op, .int .i64 x, .int .i64 y, .int .i64 n, .slice (some ⟨wr.heap.size + 1, 0, none⟩) 1 1] 36)) B (.slice (some ⟨wr.heap.size + 1, 0, none⟩) 1 1) [((cur.length + 1 : Nat) : Int)] := by
              have := NextV.lit (w := (wr.alloc (.cells #[.int .i64 op, .int .i64 x, .int .i64 y, .int .i64 n, .slice At t.len ct, .slice Ae e.len ce] 41))) (B := B) (by simp; omega) [((cur.length + 1 : Nat) : Int)]
              rw [hzb] at this
              exact this.below ((Below.refl _ _).alloc (Nat.le_refl _) _)
            obtain ⟨hP', hO'⟩ := PRow.appended (d := ⟨op, x, y, n, [((cur.length + 1 : Nat) : Int)]⟩) (((HO.out.alloc _).alloc _).alloc _) (fun k d hd => (HC.out k d hd).kept (below_grown hbA) (fun g e => by cases e)) hnv hg (hat.imp id fun e => e.trans (by simp)) hown'
            have HP' := Lib.hid hP'
            have HO' := Lib.hid (hO.trans ((Onto.of_below hbA _).trans hO'))
            clear hown' hg hat hnv hbA hP' hO' hO
            go_wp2_with fail
            go_roundw
            case rel => exact ⟨k + 1, _, by omega, by go_num, HP', HO'.out, by rw [← hst.out]; exact hpt2⟩
            case measure => simp [intOf]; omega
      · have hk' : k = s.len := by omega
        subst hk'
        have hfin : Hid (ns ++ s.pts ns.length = cur) := by
          unfold Hid
          rw [hpt.out, s.drop_len]
          simp [Sts.pts]
        clear hpt
        go_wp2_with fail
        go_ret
        exact ⟨_, rfl, by rw [hfin.out]; exact hPc.out, hO⟩

end Go.Proofs.Ytcaklhempmlpgaa
