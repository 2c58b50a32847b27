/-
  slices.Reverse on a row of numbers that a call owns.
-/
import Derived.Test.YtlddoookojjleaaGreatDoorZMem
import Derived.Deep.RegionHeld3
import Derived.Deep.LoopGhost
namespace Go.Proofs.YtlddoookojjleaaGreatDoor
open Go.RowKit Go.Deep
set_option linter.unusedVariables false

theorem RowI.stored13 {w : World} {B g c : Nat} {xs : List Int} (h : RowI w B (.slice (some ⟨g, 0, none⟩) xs.length c) xs) (j : Nat) (z : Int) :
    RowI (w.setCell ⟨g, j, none⟩ (.int .i64 z)) B (.slice (some ⟨g, 0, none⟩) xs.length c) (xs.set j z) := by
  have h1 := (World.ownsRow.stored h j (.int .i64 z)).1
  unfold RowI
  rw [List.length_set]
  have e : (xs.set j z).map (Value.int .i64) = (xs.map (Value.int .i64)).set j (.int .i64 z) := List.map_set
  rw [e]
  exact h1

theorem RowI.cell13 {w : World} {B g c j : Nat} {xs : List Int} (h : RowI w B (.slice (some ⟨g, 0, none⟩) xs.length c) xs) {z : Int} (hz : xs[j]? = some z) : w.cell? ⟨g, j, none⟩ = some (.int .i64 z) ∧ w.frozen? ⟨g, j, none⟩ = false := by
  have h1 := World.ownsRow.cellAt h (j := j) (by have := (List.getElem?_eq_some_iff.mp hz).1; omega)
  refine ⟨?_, World.ownsRow.frozenAt h j⟩
  rw [h1, List.getElem?_map, hz]
  rfl

/-- A list whose ends are exchanged up to a place. -/
def Revd (xs ys : List Int) (k : Nat) : Prop := ys.length = xs.length ∧ ∀ m, m < xs.length → ys[m]? = if m < k ∨ xs.length ≤ m + k then xs[xs.length - 1 - m]? else xs[m]?

theorem Revd.start (xs : List Int) : Revd xs xs 0 := ⟨rfl, fun m hm => by rw [if_neg (by omega)]⟩

theorem Revd.step {xs ys : List Int} {k i j : Nat} {zi zj : Int} (h : Revd xs ys k) (hi : i = k) (hj : j + k + 1 = xs.length) (hij : i < j) (hzi : ys[i]? = some zi) (hzj : ys[j]? = some zj) : Revd xs ((ys.set i zj).set j zi) (k + 1) := by
  subst hi
  have e1 := h.2 i (by omega)
  have e2 := h.2 j (by omega)
  rw [if_neg (by omega), hzi] at e1
  rw [if_neg (by omega), hzj] at e2
  refine ⟨by rw [List.length_set, List.length_set]; exact h.1, fun m hm => ?_⟩
  rw [List.getElem?_set]
  by_cases h1 : j = m
  · subst h1
    rw [if_pos rfl, if_pos (by rw [List.length_set, h.1]; omega), if_pos (by omega), show xs.length - 1 - j = i by omega]
    exact e1
  · rw [if_neg h1, List.getElem?_set]
    by_cases h2 : i = m
    · subst h2
      rw [if_pos rfl, if_pos (by rw [h.1]; omega), if_pos (by omega), show xs.length - 1 - i = j by omega]
      exact e2
    · rw [if_neg h2, h.2 m hm]
      by_cases h3 : m < i ∨ xs.length ≤ m + i
      · rw [if_pos h3, if_pos (by omega)]
      · rw [if_neg h3, if_neg (by omega)]

theorem Revd.done {xs ys : List Int} {k : Nat} (h : Revd xs ys k) (hk : xs.length ≤ 2 * k + 1) : ys = xs.reverse := by
  apply List.ext_getElem?
  intro m
  rcases Nat.lt_or_ge m xs.length with hm | hm
  · rw [List.getElem?_reverse hm, h.2 m hm]
    by_cases h3 : m < k ∨ xs.length ≤ m + k
    · rw [if_pos h3]
    · rw [if_neg h3, show xs.length - 1 - m = m by omega]
  · rw [List.getElem?_eq_none (by rw [h.1]; exact hm), List.getElem?_eq_none (by rw [List.length_reverse]; exact hm)]

set_option maxRecDepth 100000 in
set_option maxHeartbeats 2000000 in
theorem reverse_any (xs : List Int) (g c B : Nat) (w : World) (hB : B ≤ g) (hlen : xs.length ≤ 1000000) (hR : RowI w B (.slice (some ⟨g, 0, none⟩) xs.length c) xs) :
    Calls Tryz.prog 31 #[.slice (some ⟨g, 0, none⟩) xs.length c] w fun E w' => E = .returned (.tuple #[]) ∧ RowI w' B (.slice (some ⟨g, 0, none⟩) xs.length c) xs.reverse ∧ Below g w w' := by
  obtain ⟨n, hn⟩ : ∃ n, xs.length = n := ⟨_, rfl⟩
  have HN := Lib.hid hn
  have hcm : n ≤ c ∧ c ≤ maxLen := by
    rcases hR.2 with ⟨h1, _⟩ | ⟨g', cap, cur, h1, h2, h3, h4, h5, h6, h7⟩
    · simp at h1
    · simp only [Value.slice.injEq, true_and] at h1
      omega
  unfold maxLen at hcm
  have HR0 : Hid (RowI w B (.slice (some ⟨g, 0, none⟩) n c) xs) := Lib.hid (by rw [← hn]; exact hR)
  have HV0 := Lib.hid (Revd.start xs)
  have HB0 := Lib.hid (Below.refl g w)
  rw [hn] at hlen ⊢
  clear hR hn
  go_enter Tryz.func31, Tryz.ntmps31
  go_wp2_with fail
  go_loopg [2, 3] n (fun gg i j wr => ∃ (k : Nat) (ys : List Int), i = .int .i64 (k : Int) ∧ j = .int .i64 ((n : Int) - 1 - k) ∧ 2 * k ≤ n + 1 ∧ gg = n - k ∧ Hid (RowI wr B (.slice (some ⟨g, 0, none⟩) n c) ys) ∧ Hid (Revd xs ys k) ∧ Hid (Below g w wr))
  case atStart => exact ⟨0, xs, rfl, by simp, by omega, rfl, HR0, HV0, HB0⟩
  case round =>
    clear HR0 HV0 HB0
    obtain ⟨k, ys, rfl, rfl, hk, hgg, HR, HV, HB⟩ := hrel
    by_cases hlt : 2 * k + 1 < n
    · obtain ⟨i, hi⟩ : ∃ i, i = k := ⟨k, rfl⟩
      obtain ⟨j, hj⟩ : ∃ j, j + k + 1 = n := ⟨n - 1 - k, by omega⟩
      have hje : (n : Int) - 1 - k = (j : Int) := by omega
      have hyl : ys.length = n := by rw [HV.out.1]; exact HN.out
      have hij : i < j := by omega
      obtain ⟨zi, hzi⟩ : ∃ z, ys[i]? = some z := ⟨ys[i]'(by omega), List.getElem?_eq_getElem (by omega)⟩
      obtain ⟨zj, hzj⟩ : ∃ z, ys[j]? = some z := ⟨ys[j]'(by omega), List.getElem?_eq_getElem (by omega)⟩
      have hR1 : RowI wr.drew B (.slice (some ⟨g, 0, none⟩) ys.length c) ys := by rw [hyl]; exact HR.out
      have ci := hR1.cell13 hzi
      have cj := hR1.cell13 hzj
      have hR2 := hR1.stored13 i zj
      have hl2 : (ys.set i zj).length = ys.length := List.length_set
      rw [← hl2] at hR2
      have cj2 := hR2.cell13 (j := j) (z := zj) (by rw [List.getElem?_set_ne (by omega)]; exact hzj)
      have hR3 := hR2.stored13 j zi
      rw [hl2, hyl] at hR3
      have hVN := HV.out.step hi (by rw [HN.out]; exact hj) hij hzi hzj
      have HR3 := Lib.hid hR3
      have HVN := Lib.hid hVN
      have HBN : Hid (Below g w ((wr.drew.setCell ⟨g, i, none⟩ (.int .i64 zj)).setCell ⟨g, j, none⟩ (.int .i64 zi))) := by
        have hb := HB.out.drew
        exact ⟨hb.os, hb.tape, hb.output, by have := hb.size; simpa [World.setCell] using this, fun k hk => (heap_setCell_other _ _ _ _ (by simp; omega)).trans ((heap_setCell_other _ _ _ _ (by simp; omega)).trans (hb.block k hk))⟩
      obtain ⟨ci1, ci2⟩ := ci
      obtain ⟨cj1, cj2'⟩ := cj
      obtain ⟨cj3, cj4⟩ := cj2
      have hdl : decide ((i : Int) < (j : Int)) = true := decide_eq_true (by omega)
      have hci : (i : Int) < n := by omega
      have hcj : (j : Int) < n := by omega
      have f1 : IntKind.i64.wrap ((i : Int) + 1) = (i : Int) + 1 := IntWalk.i64_in _ (by omega)
      have f2 : IntKind.i64.wrap ((j : Int) - 1) = (j : Int) - 1 := IntWalk.i64_in _ (by omega)
      have HJ := Lib.hid hj
      have HGG := Lib.hid hgg
      rw [hje]
      subst hi
      clear hje hyl hR1 hR2 hR3 hVN HR HV HB hzi hzj hl2 hj hgg
      go_wp2_with fail
      have HFIN : True := trivial
      refine wp_region_held_drew (S := fun _ => True) (by kernel_rfl) trivial (fun hHeld => ?_)
      generalize wr.drew = wd at *
      refine wpAnyH_take (i := 0) (oi := ⟨_, _, _, _, _, _⟩) (v := .slice (some ⟨g, 0, none⟩) n c) rfl (by kernel_rfl) (by kernel_rfl) (by kernel_rfl) (fun _ _ _ h => h) (Or.inl ⟨by rfl, fun w hSw => by go_simp⟩) hHeld ?_
      try simp only [Act.put, List.setIfInBounds_toArray, List.set_cons_zero, List.set_cons_succ]
      refine wpAnyH_take (i := 1) (oi := ⟨_, _, _, _, _, _⟩) (v := .int .i64 (i : Int)) rfl (by kernel_rfl) (by kernel_rfl) (by kernel_rfl) (fun _ _ _ h => h) (Or.inl ⟨by rfl, fun w hSw => by go_simp⟩) hHeld ?_
      try simp only [Act.put, List.setIfInBounds_toArray, List.set_cons_zero, List.set_cons_succ]
      refine wpAnyH_take (i := 2) (oi := ⟨_, _, _, _, _, _⟩) (v := .slice (some ⟨g, 0, none⟩) n c) rfl (by kernel_rfl) (by kernel_rfl) (by kernel_rfl) (fun _ _ _ h => h) (Or.inl ⟨by rfl, fun w hSw => by go_simp⟩) hHeld ?_
      try simp only [Act.put, List.setIfInBounds_toArray, List.set_cons_zero, List.set_cons_succ]
      refine wpAnyH_take (i := 3) (oi := ⟨_, _, _, _, _, _⟩) (v := .int .i64 (j : Int)) rfl (by kernel_rfl) (by kernel_rfl) (by kernel_rfl) (fun _ _ _ h => h) (Or.inl ⟨by rfl, fun w hSw => by go_simp⟩) hHeld ?_
      try simp only [Act.put, List.setIfInBounds_toArray, List.set_cons_zero, List.set_cons_succ]
      refine wpAnyH_take (i := 4) (oi := ⟨_, _, _, _, _, _⟩) (v := .slice (some ⟨g, 0, none⟩) n c) rfl (by kernel_rfl) (by kernel_rfl) (by kernel_rfl) (fun _ _ _ h => h) (Or.inl ⟨by rfl, fun w hSw => by go_simp⟩) hHeld ?_
      try simp only [Act.put, List.setIfInBounds_toArray, List.set_cons_zero, List.set_cons_succ]
      refine wpAnyH_take (i := 5) (oi := ⟨_, _, _, _, _, _⟩) (v := .int .i64 (j : Int)) rfl (by kernel_rfl) (by kernel_rfl) (by kernel_rfl) (fun _ _ _ h => h) (Or.inl ⟨by rfl, fun w hSw => by go_simp⟩) hHeld ?_
      try simp only [Act.put, List.setIfInBounds_toArray, List.set_cons_zero, List.set_cons_succ]
      refine wpAnyH_take (i := 6) (oi := ⟨_, _, _, _, _, _⟩) (v := .pointer (some ⟨g, j, none⟩)) rfl (by kernel_rfl) (by kernel_rfl) (by kernel_rfl) (fun _ _ _ h => h) (Or.inl ⟨by rfl, fun w hSw => by go_simp⟩) hHeld ?_
      try simp only [Act.put, List.setIfInBounds_toArray, List.set_cons_zero, List.set_cons_succ]
      refine wpAnyH_take (i := 8) (oi := ⟨_, _, _, _, _, _⟩) (v := .slice (some ⟨g, 0, none⟩) n c) rfl (by kernel_rfl) (by kernel_rfl) (by kernel_rfl) (fun _ _ _ h => h) (Or.inl ⟨by rfl, fun w hSw => by go_simp⟩) hHeld ?_
      try simp only [Act.put, List.setIfInBounds_toArray, List.set_cons_zero, List.set_cons_succ]
      refine wpAnyH_take (i := 9) (oi := ⟨_, _, _, _, _, _⟩) (v := .int .i64 (i : Int)) rfl (by kernel_rfl) (by kernel_rfl) (by kernel_rfl) (fun _ _ _ h => h) (Or.inl ⟨by rfl, fun w hSw => by go_simp⟩) hHeld ?_
      try simp only [Act.put, List.setIfInBounds_toArray, List.set_cons_zero, List.set_cons_succ]
      refine wpAnyH_take (i := 10) (oi := ⟨_, _, _, _, _, _⟩) (v := .pointer (some ⟨g, i, none⟩)) rfl (by kernel_rfl) (by kernel_rfl) (by kernel_rfl) (fun _ _ _ h => h) (Or.inl ⟨by rfl, fun w hSw => by go_simp⟩) hHeld ?_
      try simp only [Act.put, List.setIfInBounds_toArray, List.set_cons_zero, List.set_cons_succ]
      refine wpAnyH_ready (rs := [7, 11]) (by kernel_rfl) (by simp) ?_
      refine AllReadyH.cons (o := ⟨_, _, _, _, _, _⟩) rfl (fun K hK => ?_) ?_
      · skip
        go_simp
        refine hK.out _ _ trivial (fun hHeld => ?_)
        clear hK K
        refine wpAnyH_ready (rs := [11]) (by kernel_rfl) (by simp) ?_
        refine AllReadyH.cons (o := ⟨_, _, _, _, _, _⟩) rfl (fun K hK => ?_) AllReadyH.nil
        go_simp
        refine hK.out _ _ trivial (fun hHeld => ?_)
        clear hK K
        refine wpAnyH_take (i := 12) (oi := ⟨_, _, _, _, _, _⟩) (v := .pointer (some ⟨g, i, none⟩)) rfl (by kernel_rfl) (by kernel_rfl) (by kernel_rfl) (fun _ _ _ h => h) (Or.inl ⟨by rfl, fun w hSw => by go_simp⟩) hHeld ?_
        try simp only [Act.put, List.setIfInBounds_toArray, List.set_cons_zero, List.set_cons_succ]
        refine wpAnyH_ready (rs := [13]) (by kernel_rfl) (by simp) ?_
        refine AllReadyH.cons (o := ⟨_, _, _, _, _, _⟩) rfl (fun K hK => ?_) AllReadyH.nil
        go_simp
        refine hK.out _ _ trivial (fun hHeld => ?_)
        clear hK K
        refine wpAnyH_take (i := 14) (oi := ⟨_, _, _, _, _, _⟩) (v := .pointer (some ⟨g, j, none⟩)) rfl (by kernel_rfl) (by kernel_rfl) (by kernel_rfl) (fun _ _ _ h => h) (Or.inl ⟨by rfl, fun w hSw => by go_simp⟩) hHeld ?_
        try simp only [Act.put, List.setIfInBounds_toArray, List.set_cons_zero, List.set_cons_succ]
        refine wpAnyH_ready (rs := [15]) (by kernel_rfl) (by simp) ?_
        refine AllReadyH.cons (o := ⟨_, _, _, _, _, _⟩) rfl (fun K hK => ?_) AllReadyH.nil
        go_simp
        refine hK.out _ _ trivial (fun hHeld => ?_)
        clear hK K
        refine wpAnyH_done (by kernel_rfl) ?_ _
        clear hHeld
        clear ci1 ci2 cj1 cj2' cj3 cj4
        generalize (wd.setCell ⟨g, i, none⟩ (.int .i64 zj)).setCell ⟨g, j, none⟩ (.int .i64 zi) = w9 at *
        go_wp2_with fail
        go_roundg (n - (i + 1))
        case measure => rw [HGG.out]; omega
        case rel => exact ⟨i + 1, _, by go_num, by have := HJ.out; go_num, by omega, rfl, HR3, HVN, HBN⟩
      refine AllReadyH.cons (o := ⟨_, _, _, _, _, _⟩) rfl (fun K hK => ?_) AllReadyH.nil
      go_simp
      refine hK.out _ _ trivial (fun hHeld => ?_)
      clear hK K
      refine wpAnyH_ready (rs := [7]) (by kernel_rfl) (by simp) ?_
      refine AllReadyH.cons (o := ⟨_, _, _, _, _, _⟩) rfl (fun K hK => ?_) AllReadyH.nil
      go_simp
      refine hK.out _ _ trivial (fun hHeld => ?_)
      clear hK K
      refine wpAnyH_take (i := 12) (oi := ⟨_, _, _, _, _, _⟩) (v := .pointer (some ⟨g, i, none⟩)) rfl (by kernel_rfl) (by kernel_rfl) (by kernel_rfl) (fun _ _ _ h => h) (Or.inl ⟨by rfl, fun w hSw => by go_simp⟩) hHeld ?_
      try simp only [Act.put, List.setIfInBounds_toArray, List.set_cons_zero, List.set_cons_succ]
      refine wpAnyH_ready (rs := [13]) (by kernel_rfl) (by simp) ?_
      refine AllReadyH.cons (o := ⟨_, _, _, _, _, _⟩) rfl (fun K hK => ?_) AllReadyH.nil
      go_simp
      refine hK.out _ _ trivial (fun hHeld => ?_)
      clear hK K
      refine wpAnyH_take (i := 14) (oi := ⟨_, _, _, _, _, _⟩) (v := .pointer (some ⟨g, j, none⟩)) rfl (by kernel_rfl) (by kernel_rfl) (by kernel_rfl) (fun _ _ _ h => h) (Or.inl ⟨by rfl, fun w hSw => by go_simp⟩) hHeld ?_
      try simp only [Act.put, List.setIfInBounds_toArray, List.set_cons_zero, List.set_cons_succ]
      refine wpAnyH_ready (rs := [15]) (by kernel_rfl) (by simp) ?_
      refine AllReadyH.cons (o := ⟨_, _, _, _, _, _⟩) rfl (fun K hK => ?_) AllReadyH.nil
      go_simp
      refine hK.out _ _ trivial (fun hHeld => ?_)
      clear hK K
      refine wpAnyH_done (by kernel_rfl) ?_ _
      clear hHeld
      clear ci1 ci2 cj1 cj2' cj3 cj4
      generalize (wd.setCell ⟨g, i, none⟩ (.int .i64 zj)).setCell ⟨g, j, none⟩ (.int .i64 zi) = w9 at *
      go_wp2_with fail
      go_roundg (n - (i + 1))
      case measure => rw [HGG.out]; omega
      case rel => exact ⟨i + 1, _, by go_num, by have := HJ.out; go_num, by omega, rfl, HR3, HVN, HBN⟩
    · have hge : ¬ ((k : Int) < (n : Int) - 1 - k) := by omega
      have hdl : decide ((k : Int) < (n : Int) - 1 - k) = false := decide_eq_false hge
      have hys : ys = xs.reverse := HV.out.done (by rw [HN.out]; omega)
      clear HV hgg
      go_wp2_with fail
      go_end0
      exact ⟨rfl, by rw [← hys]; exact HR.out, HB.out⟩

end Go.Proofs.YtlddoookojjleaaGreatDoor
