/-
  Rows of flags joined and compared, by the model.
-/
import Derived.Test.YtbffldgiccijlaaGreatDoorZFlW
namespace Go.Proofs.YtbffldgiccijlaaGreatDoor
open Go.RowKit Go.Deep
set_option linter.unusedVariables false

theorem below_drewN {B : Nat} {w w' : World} (n : Nat) (h : Below B w w') : Below B w (w'.drewN n) := ⟨h.os, h.tape, h.output, h.size, h.block⟩

/-- A row joined with nothing: copied. -/
theorem l3Join_nil (T F c : Nat) (fl : Nat → Bool) (all : Bool) (w : World) (hT : T ≤ 6) (hF : FlW w F T fl) (hc1 : T ≤ c) (hc2 : c ≤ maxLen) :
    Calls Tryz.prog 89 #[.slice none 0 0, .slice (some ⟨F, 0, none⟩) T c, .bool all] w
      fun E w' => ∃ G cap, E = .returned (.slice (some ⟨G, 0, none⟩) T cap) ∧ T ≤ cap ∧ cap ≤ maxLen ∧ w.heap.size ≤ G ∧ FlW w' G T fl ∧ Below w.heap.size w w' := by
  have hbl := (Below.refl w.heap.size w).alloc (Nat.le_refl _) (.cells #[] 4)
  have hL0 := heap_alloc_new w (.cells #[] 4)
  have hz1 : (w.alloc (.cells #[] 4)).heap.size = w.heap.size + 1 := by simp
  have hF1 := hF.keep (hbl.block F hF.lt)
  have HL0 := Lib.hid hL0
  have HF1 := Lib.hid hF1
  have HBL := Lib.hid hbl
  have HZ1 := Lib.hid hz1
  unfold maxLen at hc2
  clear hL0 hF1 hbl hz1 hF
  go_enter Tryz.func89, Tryz.ntmps89
  go_wp2_with (at_builtin; refine wpList_append_flags rfl _ _ rfl w.heap.size F c T fl rfl HL0.out rfl HF1.out (by omega) ?_)
  intro G cap w1 hG hcap hcm hGl hgr
  have hbw : Below w.heap.size w w1 := HBL.out.grown hgr (by rw [HZ1.out]; omega) (fun k hk => by cases hk)
  have HG := Lib.hid hG
  have HBW := Lib.hid hbw
  clear hgr hG hbw
  go_wp2_with fail
  go_loopw [8] (fun i wr => i = .int .i64 0 ∧ wr = w1) (fun i wr => 0)
  case atStart => exact ⟨rfl, rfl⟩
  case round =>
    obtain ⟨rfl, rfl⟩ := hrel
    go_wp2_with fail
    go_ret
    exact ⟨G, cap, rfl, hcap, hcm, hGl, HG.out, HBW.out⟩

/-- A row joined with a row. -/
theorem l3Join_two (T F c F2 c2 : Nat) (x y : Nat → Bool) (all : Bool) (w : World) (hT : T ≤ 6) (hF : FlW w F T y) (hF2 : FlW w F2 T x) (hc1 : T ≤ c) (hc2 : c ≤ maxLen) (hd1 : T ≤ c2) (hd2 : c2 ≤ maxLen) :
    Calls Tryz.prog 89 #[.slice (some ⟨F2, 0, none⟩) T c2, .slice (some ⟨F, 0, none⟩) T c, .bool all] w
      fun E w' => ∃ G cap, E = .returned (.slice (some ⟨G, 0, none⟩) T cap) ∧ T ≤ cap ∧ cap ≤ maxLen ∧ w.heap.size ≤ G ∧ FlW w' G T (jr all x y) ∧ Below w.heap.size w w' := by
  have hbl := (Below.refl w.heap.size w).alloc (Nat.le_refl _) (.cells #[] 4)
  have hL0 := heap_alloc_new w (.cells #[] 4)
  have hz1 : (w.alloc (.cells #[] 4)).heap.size = w.heap.size + 1 := by simp
  have hF1 := hF.keep (hbl.block F hF.lt)
  have HL0 := Lib.hid hL0
  have HF1 := Lib.hid hF1
  have HBL := Lib.hid hbl
  have HZ1 := Lib.hid hz1
  have HFA := Lib.hid hF
  have HFB := Lib.hid hF2
  unfold maxLen at hc2 hd2
  clear hL0 hF1 hbl hz1 hF hF2
  go_enter Tryz.func89, Tryz.ntmps89
  go_wp2_with (at_builtin; refine wpList_append_flags rfl _ _ rfl w.heap.size F c T y rfl HL0.out rfl HF1.out (by omega) ?_)
  intro G cap w1 hG hcap hcm hGl hgr
  have hbw : Below w.heap.size w w1 := HBL.out.grown hgr (by rw [HZ1.out]; omega) (fun k hk => by cases hk)
  have HG := Lib.hid hG
  have HBW := Lib.hid hbw
  have hcm2 := hcm
  unfold maxLen at hcm2
  clear hgr hG hbw
  go_wp2_with fail
  go_loopw [8] (fun i wr => ∃ k : Nat, i = .int .i64 k ∧ k ≤ T ∧ Hid (FlW wr G T (fun v => if v < k then jr all x y v else y v)) ∧ Hid (Below w.heap.size w wr)) (fun i wr => T - (intOf i).toNat)
  case atStart => exact ⟨0, rfl, Nat.zero_le _, Lib.hid (HG.out.congr (fun i _ => by simp)), HBW⟩
  case round =>
    clear HG HBW
    obtain ⟨k, rfl, hk, HG, HB⟩ := hrel
    by_cases hlt : k < T
    · have hFr := HFA.out.keep (HB.out.block F HFA.out.lt)
      have hF2r := HFB.out.keep (HB.out.block F2 HFB.out.lt)
      have a0 := hFr.cell hlt
      have b0 := hF2r.cell hlt
      have sG := HG.out.soft k
      have cG := HG.out.cell hlt
      have hnx : ∀ v : Bool, v = jr all x y k → Hid (FlW (wr.setCell ⟨G, k, none⟩ (.bool v)) G T (fun v => if v < k + 1 then jr all x y v else y v)) := fun v hv => (HG.out.put hlt v).congr (fun i _ => by
        unfold setR
        by_cases hik : i = k
        · subst hik
          rw [if_pos rfl, if_pos (by omega), hv]
        · rw [if_neg hik]
          show (if i < k + 1 then jr all x y i else y i) = if i < k then jr all x y i else y i
          by_cases h9 : i < k
          · rw [if_pos h9, if_pos (by omega)]
          · rw [if_neg h9, if_neg (by omega)])
      have hbx : ∀ v : Value, Hid (Below w.heap.size w (wr.setCell ⟨G, k, none⟩ v)) := fun v => below_set HB.out hGl
      have HNX := Lib.hid hnx
      have HBX := Lib.hid hbx
      clear hFr hF2r hnx hbx HG HB
      cases all <;> cases hxk : x k <;> cases hyk : y k
      all_goals
        rw [hxk] at b0
        rw [hyk] at a0
        have HXK := Lib.hid hxk
        have HYK := Lib.hid hyk
        clear hxk hyk
        go_wp2_with fail
        refine ⟨⟨k + 1, by simp, by omega, HNX.out _ (by unfold jr; rw [HXK.out, HYK.out]; rfl), HBX.out _⟩, ?_⟩
        simp only [intOf]
        omega
    · have hke : k = T := by omega
      have HFIN : Hid (FlW wr G T (jr all x y)) := HG.out.congr (fun i hi => by rw [if_pos (by omega)])
      subst hke
      clear HG
      go_wp2_with fail
      go_ret
      exact ⟨G, cap, rfl, hcap, hcm, hGl, HFIN.out, HB.out⟩

/-- Two rows compared. -/
theorem l3Equal_any (T F c F2 c2 : Nat) (x y : Nat → Bool) (w : World) (hT : T ≤ 6) (hF : FlW w F T x) (hF2 : FlW w F2 T y) (hc1 : T ≤ c) (hc2 : c ≤ maxLen) (hd1 : T ≤ c2) (hd2 : c2 ≤ maxLen) :
    Calls Tryz.prog 90 #[.slice (some ⟨F, 0, none⟩) T c, .slice (some ⟨F2, 0, none⟩) T c2] w
      fun E w' => ∃ r : Bool, E = .returned (.bool r) ∧ (r = true ↔ ∀ v, v < T → x v = y v) ∧ Below w.heap.size w w' := by
  unfold maxLen at hc2 hd2
  have HFA := Lib.hid hF
  have HFB := Lib.hid hF2
  clear hF hF2
  go_enter Tryz.func90, Tryz.ntmps90
  go_wp2_with fail
  go_loopw [5] (fun i wr => ∃ k : Nat, i = .int .i64 k ∧ k ≤ T ∧ Hid (∀ v, v < k → x v = y v) ∧ Hid (Below w.heap.size w wr)) (fun i wr => T - (intOf i).toNat)
  case atStart => exact ⟨0, rfl, Nat.zero_le _, fun v hv => absurd hv (Nat.not_lt_zero _), Below.refl _ _⟩
  case round =>
    obtain ⟨k, rfl, hk, HE, HB⟩ := hrel
    by_cases hlt : k < T
    · have hFr := HFA.out.keep (HB.out.block F HFA.out.lt)
      have hF2r := HFB.out.keep (HB.out.block F2 HFB.out.lt)
      have a0 := hFr.cell hlt
      have b0 := hF2r.cell hlt
      clear hFr hF2r
      have HSAME : Hid (x k = y k → Hid (∀ v, v < k + 1 → x v = y v)) := fun he v hv => by
        by_cases hvk : v = k
        · subst hvk; exact he
        · exact HE.out v (by omega)
      have HNE : Hid (x k ≠ y k → ¬ ∀ v, v < T → x v = y v) := fun he h => he (h k hlt)
      cases hxk : x k <;> cases hyk : y k
      all_goals
        rw [hxk] at a0
        rw [hyk] at b0
        have HXK := Lib.hid hxk
        have HYK := Lib.hid hyk
        clear hxk hyk HE
        go_wp2_with fail
        go_quiet (fail)
        go_wp2_with fail
      · refine ⟨⟨k + 1, by simp, by omega, HSAME.out (by rw [HXK.out, HYK.out]), below_drewN _ HB.out⟩, ?_⟩
        simp only [intOf]
        omega
      · go_ret
        exact ⟨false, rfl, ⟨fun h => (by cases h), fun h => absurd h (HNE.out (by rw [HXK.out, HYK.out]; decide))⟩, below_drewN _ HB.out⟩
      · go_ret
        exact ⟨false, rfl, ⟨fun h => (by cases h), fun h => absurd h (HNE.out (by rw [HXK.out, HYK.out]; decide))⟩, below_drewN _ HB.out⟩
      · refine ⟨⟨k + 1, by simp, by omega, HSAME.out (by rw [HXK.out, HYK.out]), below_drewN _ HB.out⟩, ?_⟩
        simp only [intOf]
        omega
    · have hke : k = T := by omega
      subst hke
      go_wp2_with fail
      go_ret
      exact ⟨true, rfl, ⟨fun _ => HE.out, fun _ => rfl⟩, HB.out⟩

end Go.Proofs.YtbffldgiccijlaaGreatDoor
