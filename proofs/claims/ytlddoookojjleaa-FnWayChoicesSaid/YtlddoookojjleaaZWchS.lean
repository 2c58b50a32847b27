/-
  The model's WayChoices.
-/
import Derived.Test.YtlddoookojjleaaZWch
import Derived.Test.YtlddoookojjleaaZHas2
import Derived.Test.YtlddoookojjleaaZRunD
import Derived.Test.YtlddoookojjleaaZL2Xb
import Derived.Test.YtlddoookojjleaaZBase
import Derived.DataElems
import Derived.Deep.RegionHeld3
import Derived.Deep.LoopGhost
import Derived.Deep.AppendLies
namespace Go.Proofs.Ytlddoookojjleaa
open Go.RowKit Go.Deep
set_option linter.unusedVariables false

theorem rowNilS (w w1 : World) (h : w.heap.size ≤ w1.heap.size) : RowI (w1.alloc (.cells #[] 3)) w.heap.size (.slice (some ⟨w1.heap.size, 0, none⟩) 0 0) [] := World.ownsRow_lit (base := w.heap.size) (e := 3) (size := 1) w1 #[] 0 h (by simp [maxLen]) rfl

theorem held_w3 {w0 w1 w' : World} {p q r : Addr} {a b c : Value} (hb : Below w1.heap.size w1 w') (h : Below w0.heap.size w0 w1) (hp : p.block < w0.heap.size) (hq : q.block < w0.heap.size) (hr : r.block < w0.heap.size) (kp : w0.cell? p = some a) (kq : w0.cell? q = some b) (kr : w0.cell? r = some c) :
    Below w0.heap.size w0 w' ∧ w'.cell? p = some a ∧ w'.cell? q = some b ∧ w'.cell? r = some c := by
  have hbb : Below w0.heap.size w0 w' := h.trans (hb.mono h.size)
  exact ⟨hbb, (hbb.cell hp).trans kp, (hbb.cell hq).trans kq, (hbb.cell hr).trans kr⟩

set_option maxRecDepth 100000 in
set_option maxHeartbeats 4000000 in
theorem specWayChoices_any (ts : List Int) (s : Sts) (At As : Option Addr) (ct cs : Nat) (xs : List Int) (A : Option Addr) (c : Nat) (w : World) (hsz : s.size ≤ 1048576) (hxl : xs.length ≤ 1048576) (hT : IntsV w 0 w.heap.size ts At ct) (hR : RepV w 0 w.heap.size s As cs) (hX : IntsV w 0 w.heap.size xs A c) :
    Calls Try.prog 17 #[.agg #[.slice At ts.length ct, .slice As s.len cs], .slice A xs.length c] w fun E w' => ∃ v, E = .returned (.tuple #[v, .bool (wchI (validB ts s) s xs).2]) ∧ RowI w' w.heap.size v (wchI (validB ts s) s xs).1 ∧ Below w.heap.size w w' := by
  have hb0 := ((Below.refl w.heap.size w).alloc (Nat.le_refl _) (.cells #[.slice At ts.length ct, .slice As s.len cs] 31)).alloc (by simp) (.cells #[] 3)
  have hT1 := hT.below hb0 (by simp; omega : w.heap.size ≤ ((w.alloc (.cells #[.slice At ts.length ct, .slice As s.len cs] 31)).alloc (.cells #[] 3)).heap.size)
  have hR1 := hR.below hb0 (by simp; omega : w.heap.size ≤ ((w.alloc (.cells #[.slice At ts.length ct, .slice As s.len cs] 31)).alloc (.cells #[] 3)).heap.size)
  have hz0 : ((w.alloc (.cells #[.slice At ts.length ct, .slice As s.len cs] 31)).alloc (.cells #[] 3)).heap.size = w.heap.size + 2 := by simp
  have hrow0 : RowI ((w.alloc (.cells #[.slice At ts.length ct, .slice As s.len cs] 31)).alloc (.cells #[] 3)) w.heap.size (.slice (some ⟨w.heap.size + 1, 0, none⟩) 0 0) [] := by
    have := rowNilS w (w.alloc (.cells #[.slice At ts.length ct, .slice As s.len cs] 31)) (by simp)
    have hz : (w.alloc (.cells #[.slice At ts.length ct, .slice As s.len cs] 31)).heap.size = w.heap.size + 1 := by simp
    rw [hz] at this
    exact this
  have hS := specPointsOf_any ts s At As ct cs _ hsz hT1 hR1
  have HROW0 := Lib.hid hrow0
  have HZ := Lib.hid hz0
  have hXm := hX.2.1
  have hXl := hX.1
  unfold maxLen at hXm
  clear hrow0 hz0 hT1 hR1
  by_cases hyes : validB ts s = true ∧ ∃ l, xs = 0 :: l
  · obtain ⟨hv, l, rfl⟩ := hyes
    have hD := progPts_ok s (valid_ok hv).2.1
    have e0 : pointsB (validB ts s) s = progPts s := by simp [pointsB, hv]
    have HAN : Hid (∀ (E : Ending) (w' : World), WchPost (wchP (progPts s) 0 l) w E w' → ∃ v, E = .returned (.tuple #[v, .bool (wchI (validB ts s) s (0 :: l)).2]) ∧ RowI w' w.heap.size v (wchI (validB ts s) s (0 :: l)).1 ∧ Below w.heap.size w w') := by
      intro E w' h
      have h2 := h.ans
      rw [← hv] at h2
      exact h2
    rw [e0] at hS
    have hn61 : (progPts s).length ≤ 61 := by
      have := s.npts_le
      have := valid_size13 hv
      rw [progPts_len]
      omega
    refine Calls.mono ?_ (fun E w' h => HAN.out E w' h)
    clear HAN e0 hv
    generalize progPts s = ds at hS hD hn61 ⊢
    generalize s.npts = q at hD
    have HD := Lib.hid hD
    have hq0 : 0 < ds.length := by have := hD.1; omega
    obtain ⟨b, hA, hbl0, hbl, hcell⟩ := hX.2.2 (by simp)
    subst hA
    have HXC := Lib.hid hcell
    have hc0 := hcell 0 0 rfl
    rw [add_zero13] at hc0
    rw [List.length_cons] at hXl hxl ⊢
    obtain ⟨all, hall⟩ : ∃ all, all = wchP ds 0 l := ⟨_, rfl⟩
    have HST : Hid (WchAt ds all [] 0 (l.drop 0)) := Lib.hid (by rw [hall]; exact WchAt.start ds 0 l)
    rw [← hall]
    obtain ⟨i0, hi, hzz0, hzz1, hzz2⟩ := info_parts Try.infoInt
    have HI := Lib.hid hi
    have HZ0 := Lib.hid hzz0
    have HZ1 := Lib.hid hzz1
    have HZ2 := Lib.hid hzz2
    clear hX hcell hD hall hi hzz0 hzz1 hzz2
    go_enter Try.func17, Try.ntmps17
    go_wp2_with fail
    refine hS.mono ?_
    rintro E w1 ⟨v, rfl, hP, hb1⟩
    rw [HZ.out] at hP hb1
    have hs1 := hb1.size
    rw [HZ.out] at hs1
    have hbw : Below w.heap.size w w1 := hb0.trans (hb1.mono (by omega))
    obtain ⟨g, cap, hvv, hgB, hgl, -, -⟩ := hP.form (by omega)
    subst hvv
    have HP := Lib.hid hP
    have HR0 : Hid (RowI w1 w.heap.size (.slice (some ⟨w.heap.size + 1, 0, none⟩) 0 0) []) := HROW0.out.below (by rw [HZ.out]; exact hb1)
    have hc1 : w1.cell? b = some (.int .i64 0) := (hbw.cell hbl).trans hc0
    have hpn : ((ds.length : Int) == 0) = false := by rw [beq_eq_false_iff_ne]; omega
    have hln : ((l.length : Int) + 1 == 0) = false := by rw [beq_eq_false_iff_ne]; omega
    have HOWN0 : Hid (∀ k, (Value.slice (some ⟨w.heap.size + 1, 0, none⟩) 0 0).ownBlock = some k → k = w.heap.size + 1) := by
      intro k hk
      have : w.heap.size + 1 = k := by simpa [Value.ownBlock] using hk
      exact this.symm
    clear hP hb1 hS HROW0 hc0
    go_wp2_with fail
    clear hc1 hpn hln
    go_loopg [6, 8] l.length (fun gg o ii wr => ∃ (k a : Nat) (cur : List Int), ii = .int .i64 ((k : Int) + 1) ∧ k ≤ l.length ∧ gg = l.length - k ∧ cur.length ≤ k ∧ a < ds.length ∧ Hid ((0 :: l)[k]? = some (a : Int)) ∧ Hid (WchAt ds all cur a (l.drop k)) ∧ lenV o = cur.length ∧ Hid (RowI wr w.heap.size o cur) ∧ Hid (Onto w1 wr (.slice (some ⟨w.heap.size + 1, 0, none⟩) 0 0) o))
    case atStart => exact ⟨0, 0, [], rfl, Nat.zero_le _, rfl, Nat.le_refl _, by omega, Lib.hid rfl, HST, rfl, HR0, Lib.hid (Onto.refl _ _)⟩
    case round =>
      clear HST HR0
      obtain ⟨k, a, cur, rfl, hk, hgg, hcl, han, HA, HW, hlv, HO, HN⟩ := hrel
      obtain ⟨Ao, co, ho⟩ := HO.out.slice
      subst ho
      have hzr := HN.out.size
      have hHP := Lib.hid (HP.out.onto HN.out (fun k hk => by have := HOWN0.out k hk; omega))
      have hbr : Below w.heap.size w1 wr := HN.out.belowI (by omega) (fun k hk => by have := HOWN0.out k hk; omega)
      have hbW := hbw.trans hbr
      have hzw : w.heap.size ≤ wr.heap.size := by omega
      by_cases hlt : k < l.length
      · obtain ⟨v, hv⟩ : ∃ v, l[k]? = some v := ⟨l[k], List.getElem?_eq_getElem hlt⟩
        have HW2 : Hid (WchAt ds all cur a (v :: l.drop (k + 1))) := Lib.hid (by rw [← drop_get hv]; exact HW.out)
        have hq1 : wr.cell? (b.add (k + 1)) = some (.int .i64 v) := (hbW.cell (show (b.add (k + 1)).block < w.heap.size by rw [block_add]; exact hbl)).trans (HXC.out (k + 1) v (by simpa using hv))
        have hbk : b.add (k + 1) = ⟨b.block, b.off + (k + 1), none⟩ := by unfold Addr.add; rw [if_neg (by omega)]
        have hq1b := hq1
        rw [hbk] at hq1b
        have hq2 : wr.cell? (b.add k) = some (.int .i64 (a : Int)) := (hbW.cell (show (b.add k).block < w.heap.size by rw [block_add]; exact hbl)).trans (HXC.out k _ HA.out)
        obtain ⟨d, hd⟩ : ∃ d, ds[a]? = some d := ⟨ds[a], List.getElem?_eq_getElem han⟩
        have htwo := nextN_two HD.out hd
        obtain ⟨un, ⟨-, -, -, -, hq3⟩, hun⟩ := hHP.out.cells hd
        obtain ⟨An, cn, hsn, hIN⟩ := nextV_ints hun htwo
        subst hsn
        have hnx : nextP ds a = d.next := nextP_some hd
        have HDA := Lib.hid hd
        have HNX := Lib.hid hnx
        have HGG := Lib.hid hgg
        have HNA : Hid ((0 :: l)[k + 1]? = some v) := Lib.hid (by simpa using hv)
        have HUN := Lib.hid hun
        have HIN := Lib.hid hIN
        have HCH := Lib.hid (chc_index (b := v) htwo)
        have hb1l : b.block < wr.heap.size := by omega
        have hb2l : (b.add k).block < wr.heap.size := by rw [block_add]; omega
        have hb3l : (⟨g, a * 5 + 4, none⟩ : Addr).block < wr.heap.size := by show g < _; omega
        have f1 : IntKind.i64.wrap (k : Int) = (k : Int) := IntWalk.i64_in _ (by omega)
        have f2 : IntKind.i64.wrap ((k : Int) + 1 - 1) = (k : Int) := by rw [Int.add_sub_cancel]; exact f1
        have hk0 : (0 : Int) ≤ (k : Int) := by omega
        have hk1 : (k : Int) < (l.length : Int) + 1 := by omega
        have hk2 : (k : Int) + 1 < (l.length : Int) + 1 := by omega
        have hk3 : (0 : Int) ≤ (k : Int) + 1 := by omega
        have hai : (a : Int) < (ds.length : Int) := by omega
        have HLH : Hid (∀ W : World, Below wr.heap.size wr W → Calls Try.prog 37 #[.slice An d.next.length cn, .int .i64 v] W fun E w' => E = .returned (.bool (decide (v ∈ d.next))) ∧ Below W.heap.size W w') := fun W hW =>
          (l2Has_ints d.next v An cn W (by omega) (hIN.below hW hW.size)).mono fun E w' h => ⟨h.1, by rw [← h.2]; exact Below.refl _ _⟩
        clear hv hd hnx hgg HW HA hun hIN hlv hq1 hbk
        go_wp2_with fail
        go_region_held3 (fun w' => Below wr.heap.size wr w' ∧ w'.cell? ⟨b.block, b.off + (k + 1), none⟩ = some (.int .i64 v) ∧ w'.cell? (b.add k) = some (.int .i64 (a : Int)) ∧ w'.cell? ⟨g, a * 5 + 4, none⟩ = some (.slice An d.next.length cn))
          (first | exact ⟨(Below.refl wr.heap.size wr).drew, hq1b, hq2, hq3⟩ | exact held_w3 (p := ⟨b.block, b.off + (k + 1), none⟩) hbn (And.left ‹Below wr.heap.size wr _ ∧ _›) hb1l hb2l hb3l hq1b hq2 hq3)
          (first | (go_at_call 37; refine (HLH.out _ (And.left ‹Below wr.heap.size wr _ ∧ _›)).mono ?_; rintro E w' ⟨rfl, hbn⟩) | fail)
        obtain ⟨hbl, hl1, hl2, hl3⟩ := ‹Below wr.heap.size wr _ ∧ _›
        replace HN := Lib.hid (HN.out.trans (Onto.of_below hbl (Value.slice Ao cur.length co)))
        replace HO := Lib.hid (HO.out.below hbl)
        have hzl := hbl.size
        replace hzw : w.heap.size ≤ w'.heap.size := by omega
        have hb8 : Hid (Below w.heap.size w w') := Lib.hid (hbW.trans (hbl.mono (by omega)))
        have HNC : Hid (∀ x0, d.next[0]? = some x0 → d.next.length = 2 → ∃ gn, An = some ⟨gn, 0, none⟩ ∧ w'.cell? ⟨gn, 0, none⟩ = some (.int .i64 x0)) := by
          intro x0 hx0 hlen
          rcases HUN.out with ⟨h1, _⟩ | ⟨gn, h1, _, h3⟩
          · rw [h1] at hlen; simp at hlen
          · simp only [Value.slice.injEq] at h1
            refine ⟨gn, h1.1, (hbl.cell (show gn < wr.heap.size from heap_lt h3)).trans ?_⟩
            rw [cell_of_block h3]
            simp [hx0]
        clear hbl hq1b hq2 hq3 HLH HIN hHP hbr hbW HUN hb1l hb2l hb3l
        cases hdec : decide (v ∈ d.next)
        rotate_left
        · have hmem : v ∈ d.next := of_decide_eq_true hdec
          clear hdec
          obtain ⟨n, hn, hnn⟩ := next_nat HD.out HDA.out hmem
          have hst := HW2.out.step (by rw [HNX.out]; exact hmem)
          rw [HNX.out, hn, Int.toNat_natCast] at hst
          rw [hn] at HNA
          have HST2 := Lib.hid hst
          have HVN := Lib.hid hn
          clear hst HW2 hn
          by_cases h2 : d.next.length = 2
          · obtain ⟨x0, hx0⟩ : ∃ x0, d.next[0]? = some x0 := ⟨d.next[0], List.getElem?_eq_getElem (by omega)⟩
            obtain ⟨gn, hAn, hcn⟩ := HNC.out x0 hx0 h2
            subst hAn
            have hl2i : ((d.next.length : Int) == 2) = true := by rw [beq_iff_eq]; omega
            have hgt : (0 : Int) < (d.next.length : Int) := by omega
            have hgt2 : 0 < d.next.length := by omega
            have hgt3 : ¬ d.next = [] := fun e => by rw [e] at h2; simp at h2
            have HX0 := Lib.hid hx0
            have HL2 := Lib.hid h2
            clear hx0 h2 HNC hmem
            go_wp2_with fail
            go_region_held3 (fun W => Below w'.heap.size w' W ∧ W.cell? ⟨b.block, b.off + (k + 1), none⟩ = some (.int .i64 v) ∧ W.cell? (b.add k) = some (.int .i64 (a : Int)) ∧ W.cell? ⟨g, a * 5 + 4, none⟩ = some (.slice (some ⟨gn, 0, none⟩) d.next.length cn) ∧ W.cell? ⟨gn, 0, none⟩ = some (.int .i64 x0))
              (first | exact ⟨(Below.refl w'.heap.size w').drew, hl1, hl2, hl3, hcn⟩ | fail)
              (fail)
            have hS9 := ‹Below w'.heap.size w' _ ∧ _›
            clear hS9
            replace HN := Lib.hid HN.out.drew
            replace HO : Hid (RowI w'.drew w.heap.size (.slice Ao cur.length co) cur) := HO.out
            replace hzw : w.heap.size ≤ w'.drew.heap.size := hzw
            clear hl1 hl2 hl3 hcn hb8
            by_cases hx : x0 = v
            · have hxb : (x0 != v) = false := by simp [hx]
              have HST3 : Hid (WchAt ds all (cur ++ [0]) n (l.drop (k + 1))) := Lib.hid (by
                have h9 := HST2.out
                rw [← HVN.out] at h9
                unfold chc at h9
                rw [if_pos HL2.out, HX0.out, if_pos (by rw [hx])] at h9
                exact h9)
              clear HST2 hx
              generalize w'.drew = w9 at *
              go_wp2_with (at_builtin; refine wpList_append_lies _ rfl _ _ 22 rfl w.heap.size 3 i0 (.int .i64 0) 1 8 Try.underlying22 HI.out HZ0.out HZ1.out HZ2.out rfl (by decide) _ _ _ rfl ((RowI.own HO.out).alloc _) ⟨_, 0, none⟩ 1 1 [.int .i64 0] rfl rfl ?sa1 ?sa2 (by decide) ?sa3 ?sa4 ?sa5 _ rfl ?_)
              try (case sa1 => exact news1 (by simp) rfl)
              try (case sa2 => rfl)
              try (case sa2 => intro u hu; simp only [List.mem_cons, List.not_mem_nil, or_false] at hu; subst hu; rfl)
              try (case sa3 => unfold maxLen; omega)
              try (case sa4 => omega)
              try (case sa5 => first | omega | (simp; omega) | (simp only [World.heap_size_alloc]; omega) | (have := hzw; simp; exact Nat.le_succ_of_le this))
              intro g2 cap2 w' hown' hg hat hlt'
              have hbA := (Below.refl w9.heap.size w9).alloc (Nat.le_refl _) (.cells #[Value.int .i64 0] 3)
              have hO2 := (Onto.of_below hbA (Value.slice Ao cur.length co)).trans (onto_of (n := cur.length + 1) (cap := cap2) hg (hat.imp id fun e => e.trans (by simp)))
              have HO' := Lib.hid (HN.out.trans hO2)
              have HR' : Hid (RowI w' w.heap.size (.slice (some ⟨g2, 0, none⟩) (cur.length + 1) cap2) (cur ++ [0])) := RowI.snoc hown'
              clear hown' hg hat hbA hO2
              go_wp2_with fail
              go_roundg (l.length - (k + 1))
              case measure => rw [HGG.out]; omega
              case rel => exact ⟨k + 1, n, cur ++ [0], by go_num, by omega, rfl, by simp; omega, hnn, HNA, HST3, by simp [lenV], HR', HO'⟩
            · have hxb : (x0 != v) = true := by simp [hx]
              have HST3 : Hid (WchAt ds all (cur ++ [1]) n (l.drop (k + 1))) := Lib.hid (by
                have h9 := HST2.out
                rw [← HVN.out] at h9
                unfold chc at h9
                rw [if_pos HL2.out, HX0.out, if_neg (fun e => by injection e with e; exact hx e)] at h9
                exact h9)
              clear HST2 hx
              generalize w'.drew = w9 at *
              go_wp2_with (at_builtin; refine wpList_append_lies _ rfl _ _ 22 rfl w.heap.size 3 i0 (.int .i64 0) 1 8 Try.underlying22 HI.out HZ0.out HZ1.out HZ2.out rfl (by decide) _ _ _ rfl ((RowI.own HO.out).alloc _) ⟨_, 0, none⟩ 1 1 [.int .i64 1] rfl rfl ?sb1 ?sb2 (by decide) ?sb3 ?sb4 ?sb5 _ rfl ?_)
              try (case sb1 => exact news1 (by simp) rfl)
              try (case sb2 => rfl)
              try (case sb2 => intro u hu; simp only [List.mem_cons, List.not_mem_nil, or_false] at hu; subst hu; rfl)
              try (case sb3 => unfold maxLen; omega)
              try (case sb4 => omega)
              try (case sb5 => first | omega | (simp; omega) | (simp only [World.heap_size_alloc]; omega) | (have := hzw; simp; exact Nat.le_succ_of_le this))
              intro g2 cap2 w' hown' hg hat hlt'
              have hbA := (Below.refl w9.heap.size w9).alloc (Nat.le_refl _) (.cells #[Value.int .i64 1] 3)
              have hO2 := (Onto.of_below hbA (Value.slice Ao cur.length co)).trans (onto_of (n := cur.length + 1) (cap := cap2) hg (hat.imp id fun e => e.trans (by simp)))
              have HO' := Lib.hid (HN.out.trans hO2)
              have HR' : Hid (RowI w' w.heap.size (.slice (some ⟨g2, 0, none⟩) (cur.length + 1) cap2) (cur ++ [1])) := RowI.snoc hown'
              clear hown' hg hat hbA hO2
              go_wp2_with fail
              go_roundg (l.length - (k + 1))
              case measure => rw [HGG.out]; omega
              case rel => exact ⟨k + 1, n, cur ++ [1], by go_num, by omega, rfl, by simp; omega, hnn, HNA, HST3, by simp [lenV], HR', HO'⟩
          · have hl2i : ((d.next.length : Int) == 2) = false := by rw [beq_eq_false_iff_ne]; omega
            have HST3 : Hid (WchAt ds all cur n (l.drop (k + 1))) := Lib.hid (by
              have h9 := HST2.out
              unfold chc at h9
              rw [if_neg h2, List.append_nil] at h9
              exact h9)
            clear HST2 h2 HNC hmem
            go_wp2_with fail
            go_roundg (l.length - (k + 1))
            case measure => rw [HGG.out]; omega
            case rel => exact ⟨k + 1, n, cur, by go_num, by omega, rfl, by omega, hnn, HNA, HST3, rfl, HO, HN⟩
        · have hmem : v ∉ d.next := of_decide_eq_false hdec
          clear hdec
          have hbad := HW2.out.bad (by rw [HNX.out]; exact hmem)
          have HBAD := Lib.hid hbad
          have HRN := Lib.hid (rowNilS w w' hzw)
          have HBN := Lib.hid (hb8.out.alloc hzw (.cells #[] 3))
          clear hbad HW2 hmem HNC hl1 hl2 hl3
          go_wp2_with fail
          go_ret2
          exact ⟨_, .inr ⟨HBAD.out, rfl, HRN.out⟩, HBN.out⟩
      · have hke : k = l.length := by omega
        have hls := HW.out
        rw [hke, List.drop_length] at hls
        have HLS := Lib.hid hls.last
        have HB9 := Lib.hid hbW
        have hend : ¬ ((k : Int) + 1 < (l.length : Int) + 1) := by omega
        have hend2 : decide ((k : Int) + 1 < (l.length : Int) + 1) = false := decide_eq_false hend
        clear hls HW hke hgg hHP hbr hbW
        go_wp2_with fail
        go_ret2
        exact ⟨_, .inl ⟨cur, HLS.out, rfl, HO.out⟩, HB9.out⟩
  · have e0 : Hid (wchI (validB ts s) s xs = ([], false)) := wchI_no (fun h => hyes h)
    have hpl : (pointsB (validB ts s) s).length ≤ 3000000 := by
      have := s.npts_le
      unfold pointsB
      split
      · rw [progPts_len]; omega
      · simp
    have hcase : (pointsB (validB ts s) s).length = 0 ∨ (0 < (pointsB (validB ts s) s).length ∧ xs = []) ∨ (0 < (pointsB (validB ts s) s).length ∧ ∃ x l, xs = x :: l ∧ x ≠ 0) := by
      cases hv : validB ts s
      · exact .inl (by simp [pointsB])
      · have h0 : 0 < (pointsB true s).length := by simp [pointsB, progPts_len]
        cases xs with
        | nil => exact .inr (.inl ⟨h0, rfl⟩)
        | cons x l => exact .inr (.inr ⟨h0, x, l, rfl, fun e => hyes ⟨hv, l, by rw [e]⟩⟩)
    have HCS := Lib.hid hcase
    generalize pointsB (validB ts s) s = ds at hS hpl HCS
    clear hcase hyes
    have HX := Lib.hid hX
    clear hX
    go_enter Try.func17, Try.ntmps17
    go_wp2_with fail
    refine hS.mono ?_
    rintro E w1 ⟨v, rfl, hP, hb1⟩
    rw [HZ.out] at hb1
    have hbw : Below w.heap.size w w1 := hb0.trans (hb1.mono (by omega))
    have hs1 := hbw.size
    obtain ⟨Av, cv, hv⟩ := hP.slice
    subst hv
    have HRN := Lib.hid (rowNilS w w1 hs1)
    have HBN := Lib.hid (hbw.alloc hs1 (.cells #[] 3))
    clear hb1 hS hP HROW0
    rcases HCS.out with h1 | ⟨h1, rfl⟩ | ⟨h1, x, l, rfl, hx⟩
    · have d1 : ((ds.length : Int) == 0) = true := by rw [beq_iff_eq]; omega
      clear h1 HCS
      go_wp2_with fail
      go_ret2
      exact ⟨_, by rw [e0.out]; rfl, by rw [e0.out]; exact HRN.out, HBN.out⟩
    · have d1 : ((ds.length : Int) == 0) = false := by rw [beq_eq_false_iff_ne]; omega
      clear h1 HCS
      go_wp2_with fail
      go_ret2
      exact ⟨_, by rw [e0.out]; rfl, by rw [e0.out]; exact HRN.out, HBN.out⟩
    · have d1 : ((ds.length : Int) == 0) = false := by rw [beq_eq_false_iff_ne]; omega
      obtain ⟨b, hA, hbl0, hbl, hcell⟩ := HX.out.2.2 (by simp)
      subst hA
      have hc0 := hcell 0 x rfl
      rw [add_zero13] at hc0
      have hc1 : w1.cell? b = some (.int .i64 x) := (hbw.cell hbl).trans hc0
      have hxn : (x != 0) = true := by simp [hx]
      rw [List.length_cons] at hXl hxl ⊢
      have hln : ((l.length : Int) + 1 == 0) = false := by rw [beq_eq_false_iff_ne]; omega
      clear h1 HCS hcell hc0 HX
      go_wp2_with fail
      go_ret2
      exact ⟨_, by rw [e0.out]; rfl, by rw [e0.out]; exact HRN.out, HBN.out⟩

end Go.Proofs.Ytlddoookojjleaa
