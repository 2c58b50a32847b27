/-
  The variables of a statement, as the model collects them.
-/
import Derived.Test.YtfjfbooiegjplaaVarsI
import Derived.Deep.DeepCutAuto
namespace Go.Proofs.Ytfjfbooiegjplaa
open Go.RowKit Go.Deep
set_option linter.unusedVariables false

theorem two_or {op : Int} : (decide (3 ≤ op) && decide (op ≤ 7)) = true ∨ (op ≠ 3 ∧ op ≠ 4 ∧ op ≠ 5 ∧ op ≠ 6 ∧ op ≠ 7 ∧ (decide (3 ≤ op) && decide (op ≤ 7)) = false) := by
  by_cases h : 3 ≤ op ∧ op ≤ 7
  · exact .inl (by simp; omega)
  · exact .inr ⟨by omega, by omega, by omega, by omega, by omega, by simp; omega⟩

theorem flag_no {c : Bool} {x : Int} (h : false = (c && (decide (0 ≤ x) && decide (x < 6)))) {v : Nat} (hv : v < 6) : (c && decide (x = (v : Int))) = false := by
  cases c
  · rfl
  · rw [Bool.true_and] at h ⊢
    exact nonV h.symm hv

theorem flag_yes {c : Bool} {x : Int} (h : true = (c && (decide (0 ≤ x) && decide (x < 6)))) : c = true ∧ ∃ X : Nat, x = (X : Int) ∧ X < 6 := by
  cases c
  · cases h
  · rw [Bool.true_and] at h
    have h2 := h.symm
    simp only [Bool.and_eq_true, decide_eq_true_eq] at h2
    exact ⟨rfl, x.toNat, by omega, by omega⟩

set_option maxRecDepth 100000 in
set_option maxHeartbeats 4000000 in
theorem l1Uses_any (M : Nat) : ∀ (op x y n : Int) (t e : Sts) (At Ae : Option Addr) (ct ce hi G : Nat) (F : Nat → Bool) (w : World), 1 + t.size + e.size < M → 1 + t.size + e.size ≤ 1500000 → RepV w 0 hi t At ct → RepV w 0 hi e Ae ce → hi ≤ G → G < w.heap.size → FlagsAt w G 4 F →
    Calls Try.prog 32 #[.slice (some ⟨G, 0, none⟩) 6 6, .agg #[.int .i64 op, .int .i64 x, .int .i64 y, .int .i64 n, .slice At t.len ct, .slice Ae e.len ce]] w fun E w' => E = .returned (.slice (some ⟨G, 0, none⟩) 6 6) ∧ FlagsAt w' G 4 (fun v => F v || (ownB op x y v || varS t v || varS e v)) ∧ Keeps (fun k => k < w.heap.size ∧ k ≠ G) w w' := by
  induction M with
  | zero => intro op x y n t e At Ae ct ce hi G F w h; omega
  | succ M ih =>
    intro op x y n t e At Ae ct ce hi G F w hM hsz hT hE hhi hG hF
    obtain ⟨wb, hwb⟩ : ∃ z, w.alloc (.cells #[.int .i64 op, .int .i64 x, .int .i64 y, .int .i64 n, .slice At t.len ct, .slice Ae e.len ce] 30) = z := ⟨_, rfl⟩
    have hbw : Below w.heap.size w wb := by rw [← hwb]; exact (Below.refl _ _).alloc (Nat.le_refl _) _
    have hwz : wb.heap.size = w.heap.size + 1 := by rw [← hwb]; simp
    have hbx : wb.heap[w.heap.size]? = some (.cells #[.int .i64 op, .int .i64 x, .int .i64 y, .int .i64 n, .slice At t.len ct, .slice Ae e.len ce] 30 (0, 0)) := by rw [← hwb]; exact heap_alloc_new w _
    have HBX := Lib.hid hbx
    have HBW := Lib.hid hbw
    have HF := Lib.hid (show FlagsAt wb G 4 F from (hbw.block G hG).trans hF)
    have HT := Lib.hid (hT.keep (w' := wb) (Nat.le_refl _) (Nat.le_refl _) fun p _ hp => hbw.cell (by omega))
    have HE := Lib.hid (hE.keep (w' := wb) (Nat.le_refl _) (Nat.le_refl _) fun p _ hp => hbw.cell (by omega))
    have hct := hT.2.1
    have hce := hE.2.1
    have hlt := hT.1
    have hle := hE.1
    unfold maxLen at hct hce
    have b0 : wb.cell? ⟨w.heap.size, 0, none⟩ = some (.int .i64 op) := (cell_of_block hbx 0).trans rfl
    have b1 : wb.cell? ⟨w.heap.size, 1, none⟩ = some (.int .i64 x) := (cell_of_block hbx 1).trans rfl
    have b2 : wb.cell? ⟨w.heap.size, 2, none⟩ = some (.int .i64 y) := (cell_of_block hbx 2).trans rfl
    clear hT hE hF hbw hbx
    replace ih := Lib.hid ih
    go_enter Try.func32, Try.ntmps32
    go_upto_region 1 with (fail)
    clear hwb
    go_cut [5] (fun s5 wx => ∃ tw : Bool, wb = wx ∧ s5 = .bool tw ∧ Hid (tw = (decide (3 ≤ op) && decide (op ≤ 7))))
    case first =>
      rcases two_or (op := op) with h | ⟨h3, h4, h5, h6, h7, h⟩
      · have h2 : op = 3 ∨ op = 4 ∨ op = 5 ∨ op = 6 ∨ op = 7 := by simp at h; omega
        clear h
        rcases h2 with rfl | rfl | rfl | rfl | rfl
        all_goals (go_wp2_with fail; go_meet; exact ⟨true, rfl, rfl, rfl⟩)
      · go_wp2_with fail
        go_meet
        exact ⟨false, rfl, (by simp [h3, h4, h5, h6, h7]), h.symm⟩
    case rest =>
      obtain ⟨tw, hwc, rfl, HTW⟩ := hcut
      subst hwc
      have hfz := fun i => frozen_of_block HF.out i
      go_upto_region 2 with (fail)
      go_cut [45] (fun s45 wx => ∃ b : Bool, wb = wx ∧ s45 = .bool b ∧ Hid (b = (decide (op < 9) && (decide (0 ≤ x) && decide (x < 6)))))
      case first =>
        by_cases h9 : op < 9
        · by_cases xi0 : 0 ≤ x
          · go_wp2_with fail
            go_meet
            exact ⟨_, rfl, rfl, by unfold Hid; simp [h9, xi0]⟩
          · go_wp2_with fail
            go_meet
            exact ⟨false, rfl, rfl, by unfold Hid; simp; omega⟩
        · go_wp2_with fail
          go_meet
          exact ⟨false, rfl, rfl, by unfold Hid; simp; omega⟩
      case rest =>
        obtain ⟨b, hwc, rfl, HB⟩ := hcut
        subst hwc
        go_upto_if 45 with (fail)
        go_cut [] (fun wx => ∃ F1, Hid (FlagsAt wx G 4 F1) ∧ Hid (∀ v, v < 6 → F1 v = (F v || (decide (op < 9) && decide (x = (v : Int))))) ∧ Hid (Keeps (fun k => k ≠ G) wb wx))
        case first =>
          cases b
          · go_wp2_with fail
            go_meet
            exact ⟨_, HF, fun v hv => (by rw [flag_no HB.out hv]; simp), Keeps.refl _ _⟩
          · obtain ⟨hc, X, hX, hX6⟩ := flag_yes HB.out
            subst hX
            have hcx := HF.out.cell hX6
            have HF2 := Lib.hid (HF.out.set hX6)
            have xi1 : (X : Int) < 6 := by omega
            go_wp2_with fail
            go_meet
            exact ⟨_, HF2, fun v hv => (by rw [hc]; simp [Int.natCast_inj]), keeps_set G _ X _⟩
        case rest =>
          obtain ⟨F1, HF1, HE1, HK1⟩ := hcut
          have hbl1 : ∀ k, k ≠ G → wc.heap[k]? = wb.heap[k]? := fun k hk => HK1.out.block k hk
          have hfz1 := fun i => frozen_of_block HF1.out i
          have c2 : wc.cell? ⟨w.heap.size, 2, none⟩ = some (.int .i64 y) := (World.cell?_of_block (w := wb) (hbl1 w.heap.size (by omega))).trans b2
          clear b0 b1 b2 hfz HF
          go_upto_region 4 with (fail)
          go_cut [62] (fun s62 wx => ∃ b : Bool, wc = wx ∧ s62 = .bool b ∧ Hid (b = (tw && (decide (0 ≤ y) && decide (y < 6)))))
          case first =>
            cases tw
            · go_wp2_with fail
              go_meet
              exact ⟨false, rfl, rfl, rfl⟩
            · by_cases xi0 : 0 ≤ y
              · go_wp2_with fail
                go_meet
                exact ⟨_, rfl, rfl, by unfold Hid; simp [xi0]⟩
              · go_wp2_with fail
                go_meet
                exact ⟨false, rfl, rfl, by unfold Hid; simp; omega⟩
          case rest =>
            obtain ⟨b', hwd, rfl, HB'⟩ := hcut
            subst hwd
            go_upto_if 62 with (fail)
            go_cut [] (fun wx => ∃ F2, Hid (FlagsAt wx G 4 F2) ∧ Hid (∀ v, v < 6 → F2 v = (F1 v || (tw && decide (y = (v : Int))))) ∧ Hid (Keeps (fun k => k ≠ G) wc wx))
            case first =>
              cases b'
              · go_wp2_with fail
                go_meet
                exact ⟨_, HF1, fun v hv => (by rw [flag_no HB'.out hv]; simp), Keeps.refl _ _⟩
              · obtain ⟨hc, X, hX, hX6⟩ := flag_yes HB'.out
                subst hX
                have hcx := HF1.out.cell hX6
                have HF2 := Lib.hid (HF1.out.set hX6)
                have xi1 : (X : Int) < 6 := by omega
                go_wp2_with fail
                go_meet
                exact ⟨_, HF2, fun v hv => (by rw [hc]; simp [Int.natCast_inj]), keeps_set G _ X _⟩
            case rest =>
              obtain ⟨F2, HF2, HE2, HK2⟩ := hcut
              have HKB : Hid (Keeps (fun k => k < w.heap.size + 1 ∧ k ≠ G) wb wc) := HK1.out.trans HK2.out (fun _ h => h.2) fun _ h => h.2
              have hsw := HKB.out.size
              have hbx1 : wc.heap[w.heap.size]? = some (.cells #[.int .i64 op, .int .i64 x, .int .i64 y, .int .i64 n, .slice At t.len ct, .slice Ae e.len ce] 30 (0, 0)) := (HKB.out.block _ (by omega)).trans HBX.out
              clear HF1 HK1 HK2 hbl1 hfz1 c2 b' HB' hbx1
              go_wp2_with fail
              go_loopw [0, 6] (fun q i wr => ∃ (j : Nat) (Fi : Nat → Bool), q = .slice (some ⟨G, 0, none⟩) 6 6 ∧ i = .int .i64 j ∧ j ≤ t.len ∧ Hid (FlagsAt wr G 4 Fi) ∧ Hid (∀ v, (Fi v || varS (t.drop j) v) = (F2 v || varS t v)) ∧ Hid (Keeps (fun k => k < w.heap.size + 1 ∧ k ≠ G) wb wr)) (fun _ i _ => t.len - (intOf i).toNat)
              case atStart => exact ⟨0, F2, rfl, rfl, Nat.zero_le _, HF2, fun v => rfl, HKB⟩
              case round =>
                obtain ⟨j, Fi, rfl, rfl, hj, hFi, hEi, hKi⟩ := hrel
                have hbx : wr.heap[w.heap.size]? = some (.cells #[.int .i64 op, .int .i64 x, .int .i64 y, .int .i64 n, .slice At t.len ct, .slice Ae e.len ce] 30 (0, 0)) := (hKi.out.block _ (by omega)).trans HBX.out
                have d4 : wr.cell? ⟨w.heap.size, 4, none⟩ = some (.slice At t.len ct) := (cell_of_block hbx 4).trans rfl
                have hRr : RepV wr 0 hi t At ct := HT.out.keep (Nat.le_refl _) (Nat.le_refl _) fun p _ hp => World.cell?_of_block (w := wb) (hKi.out.block _ (by omega))
                have HRr := Lib.hid hRr
                clear hRr hbx
                by_cases hltj : j < t.len
                · obtain ⟨b, op', x', y', n', t', e', rfl, -, hbb, hdr, At', ct', Ae', ce', ⟨h0, h1, h2, h3, h4, h5⟩, hRt, hRe⟩ := HRr.out.elem (k := j) hltj
                  have hdz := t.drop_size_le j
                  rw [hdr] at hdz
                  simp only [Sts.size] at hdz
                  have hih := ih.out op' x' y' n' t' e' At' Ae' ct' ce' hi G Fi wr (by omega) (by omega) hRt hRe hhi (by have := hKi.out.size; omega) hFi.out
                  have hnext : Hid (∀ v, ((Fi v || (ownB op' x' y' v || varS t' v || varS e' v)) || varS (t.drop (j + 1)) v) = (F2 v || varS t v)) := fun v => by
                    have := hEi.out v
                    rw [hdr] at this
                    rw [← this]
                    simp only [varS, Bool.or_assoc]
                  have hsz3 := hKi.out.size
                  clear hdr hRt hRe hdz
                  go_wp2_with fail
                  refine hih.mono ?_
                  rintro E w9 ⟨rfl, hF9, hK9⟩
                  have HF9 := Lib.hid hF9
                  have HK9 : Hid (Keeps (fun k => k < w.heap.size + 1 ∧ k ≠ G) wb w9) := hKi.out.trans hK9 (fun _ h => h) fun k h => ⟨by omega, h.2⟩
                  clear hih hF9 hK9 h0 h1 h2 h3 h4 h5 hFi hEi
                  go_wp2_with fail
                  go_roundw
                  case rel => exact ⟨j + 1, _, rfl, by go_num, by omega, HF9, hnext, HK9⟩
                  case measure => simp [intOf]; omega
                · obtain rfl : j = t.len := by omega
                  have hfin : Hid (∀ v, Fi v = (F2 v || varS t v)) := fun v => by
                    have := hEi.out v
                    rw [t.drop_len] at this
                    rw [← this]
                    simp [varS]
                  clear hEi HRr
                  go_wp2_with fail
                  go_loopw [0, 7] (fun q i wr => ∃ (j : Nat) (Fj : Nat → Bool), q = .slice (some ⟨G, 0, none⟩) 6 6 ∧ i = .int .i64 j ∧ j ≤ e.len ∧ Hid (FlagsAt wr G 4 Fj) ∧ Hid (∀ v, (Fj v || varS (e.drop j) v) = (Fi v || varS e v)) ∧ Hid (Keeps (fun k => k < w.heap.size + 1 ∧ k ≠ G) wb wr)) (fun _ i _ => e.len - (intOf i).toNat)
                  case atStart => exact ⟨0, Fi, rfl, rfl, Nat.zero_le _, hFi, fun v => rfl, hKi⟩
                  case round =>
                    obtain ⟨j, Fj, rfl, rfl, hj, hFj, hEj, hKj⟩ := hrel
                    have hbx : wr.heap[w.heap.size]? = some (.cells #[.int .i64 op, .int .i64 x, .int .i64 y, .int .i64 n, .slice At t.len ct, .slice Ae e.len ce] 30 (0, 0)) := (hKj.out.block _ (by omega)).trans HBX.out
                    have d4 : wr.cell? ⟨w.heap.size, 5, none⟩ = some (.slice Ae e.len ce) := (cell_of_block hbx 5).trans rfl
                    have hRr : RepV wr 0 hi e Ae ce := HE.out.keep (Nat.le_refl _) (Nat.le_refl _) fun p _ hp => World.cell?_of_block (w := wb) (hKj.out.block _ (by omega))
                    have HRr := Lib.hid hRr
                    clear hRr hbx
                    by_cases hltj : j < e.len
                    · obtain ⟨b, op', x', y', n', t', e', rfl, -, hbb, hdr, At', ct', Ae', ce', ⟨h0, h1, h2, h3, h4, h5⟩, hRt, hRe⟩ := HRr.out.elem (k := j) hltj
                      have hdz := e.drop_size_le j
                      rw [hdr] at hdz
                      simp only [Sts.size] at hdz
                      have hih := ih.out op' x' y' n' t' e' At' Ae' ct' ce' hi G Fj wr (by omega) (by omega) hRt hRe hhi (by have := hKj.out.size; omega) hFj.out
                      have hnext : Hid (∀ v, ((Fj v || (ownB op' x' y' v || varS t' v || varS e' v)) || varS (e.drop (j + 1)) v) = (Fi v || varS e v)) := fun v => by
                        have := hEj.out v
                        rw [hdr] at this
                        rw [← this]
                        simp only [varS, Bool.or_assoc]
                      have hsz3 := hKj.out.size
                      clear hdr hRt hRe hdz
                      go_wp2_with fail
                      refine hih.mono ?_
                      rintro E w9 ⟨rfl, hF9, hK9⟩
                      have HF9 := Lib.hid hF9
                      have HK9 : Hid (Keeps (fun k => k < w.heap.size + 1 ∧ k ≠ G) wb w9) := hKj.out.trans hK9 (fun _ h => h) fun k h => ⟨by omega, h.2⟩
                      clear hih hF9 hK9 h0 h1 h2 h3 h4 h5 hFj hEj
                      go_wp2_with fail
                      go_roundw
                      case rel => exact ⟨j + 1, _, rfl, by go_num, by omega, HF9, hnext, HK9⟩
                      case measure => simp [intOf]; omega
                    · obtain rfl : j = e.len := by omega
                      have hfin2 : Hid (∀ v, Fj v = (Fi v || varS e v)) := fun v => by
                        have := hEj.out v
                        rw [e.drop_len] at this
                        rw [← this]
                        simp [varS]
                      clear hEj HRr
                      go_wp2_with fail
                      go_ret
                      refine ⟨rfl, hFj.out.congr fun v hv => ?_, ?_⟩
                      · rw [hfin2.out v, hfin.out v, HE2.out v hv, HE1.out v hv, HTW.out]
                        unfold ownB
                        simp only [Bool.or_assoc]
                      · exact ⟨hKj.out.os.trans HBW.out.os, hKj.out.tape.trans HBW.out.tape, hKj.out.output.trans HBW.out.output, by have := hKj.out.size; omega, fun k hk => (hKj.out.block k ⟨by omega, hk.2⟩).trans (HBW.out.block k hk.1)⟩

end Go.Proofs.Ytfjfbooiegjplaa
