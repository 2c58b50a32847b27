/-
  A table takes what another one has, and tells whether something is new: l10Merge.
-/
import Derived.Test.YtnoejapnjhogaaaGreatDoorZTWr
import Derived.StillTailTactics
namespace Go.Proofs.YtnoejapnjhogaaaGreatDoor.tr
open Go.RowKit Go.Deep
set_option linter.unusedVariables false

set_option maxRecDepth 100000 in
set_option maxHeartbeats 4000000 in
theorem l10Merge_any (B B' T z : Nat) (m m' : M4) (x y : Nat → Nat → Bool) (w : World) (hT : T ≤ 6) (hz : z ≤ 61) (h : S4 w B T z m y) (h' : S4 w B' T z m' x) (hne : ∀ u v, u < T → v < T → m.bl u ≠ m'.bl v) :
    Calls Tryz.prog 72 #[m.val T, m'.val T] w fun E w' => ∃ r : Bool, E = .returned (.bool r) ∧ (r = true ↔ ¬ within T z x y) ∧ Wr w w' (rowsOf T m) ∧ S4 w' B T z m (fun v l => y v l || x v l) := by
  have HP : Hid (∀ W, Wr w W (rowsOf T m) → S4 W B' T z m' x) := Lib.hid (fun W hW => h'.wr hW (fun u hu hr => by obtain ⟨v, hv, e⟩ := hr; exact hne v u hv hu e.symm) (fun h0 => h.g_off h' h0))
  obtain ⟨hc1, hc2⟩ := h.cf
  obtain ⟨hd1, hd2⟩ := h'.cf
  unfold maxLen at hc2 hd2
  have HFA := Lib.hid h.fa
  have HFB := Lib.hid h'.fa
  have HS0 : Hid (S4 w B T z m (mrg x y 0 0)) := Lib.hid (h.congr fun v l _ _ => mrg_start x y v l)
  have HW0 := Lib.hid (Wr.refl w (rowsOf T m))
  clear h h' hne
  unfold M4.val
  obtain ⟨A, hA⟩ : ∃ A, A = m.fa := ⟨_, rfl⟩
  obtain ⟨A', hA'⟩ : ∃ A', A' = m'.fa := ⟨_, rfl⟩
  rw [← hA] at HFA ⊢
  rw [← hA'] at HFB ⊢
  clear hA hA'
  go_enter Tryz.func72, Tryz.ntmps72
  go_wp2_with fail
  go_loopw [5, 6, 7] (fun c v i wr => ∃ (k : Nat) (cb : Bool), c = .bool cb ∧ v = .int .i64 k ∧ k ≤ T ∧ Hid (cb = true ↔ fresh T z x y k 0) ∧ Hid (S4 wr B T z m (mrg x y k 0)) ∧ Hid (Wr w wr (rowsOf T m))) (fun c v i _ => T - (intOf v).toNat)
  case atStart => exact ⟨0, false, rfl, rfl, Nat.zero_le _, Lib.hid ⟨fun h => (by cases h), fun h => absurd h fresh_start⟩, HS0, HW0⟩
  case round =>
    clear HS0 HW0
    obtain ⟨k, cb, rfl, rfl, hk, HC, HS, HW⟩ := hrel
    by_cases hlt : k < T
    · obtain rfl := HFA.out (by omega)
      obtain rfl := HFB.out (by omega)
      have ki0 : (0 : Int) ≤ (k : Int) := by omega
      have ki1 : (k : Int) < (T : Int) := by omega
      go_wp2_with fail
      go_loopw [5, 7] (fun c i wr => ∃ (j : Nat) (cb : Bool), c = .bool cb ∧ i = .int .i64 j ∧ j ≤ z ∧ Hid (cb = true ↔ fresh T z x y k j) ∧ Hid (S4 wr B T z m (mrg x y k j)) ∧ Hid (Wr w wr (rowsOf T m))) (fun c i _ => z - (intOf i).toNat)
      case atStart => exact ⟨0, cb, rfl, rfl, Nat.zero_le _, HC, HS, HW⟩
      case round =>
        clear HC HS HW
        obtain ⟨j, cb, rfl, rfl, hj, HC, HS, HW⟩ := hrel
        have hP := HP.out _ HW.out
        have s1 := hP.slot hlt
        have s2 := HS.out.slot hlt
        obtain ⟨q1, q2⟩ := hP.cp k hlt
        obtain ⟨r1, r2⟩ := HS.out.cp k hlt
        unfold maxLen at q2 r2
        by_cases hjl : j < z
        · have c1 := (hP.fl k hlt).cell hjl
          have c2 := (HS.out.fl k hlt).cell hjl
          have e2 := (HS.out.fl k hlt).soft j
          rw [mrg_here] at c2
          have ji0 : (0 : Int) ≤ (j : Int) := by omega
          have ji1 : (j : Int) < (z : Int) := by omega
          obtain ⟨a, ha⟩ : ∃ a, a = x k j := ⟨_, rfl⟩
          obtain ⟨b, hb⟩ : ∃ b, b = y k j := ⟨_, rfl⟩
          rw [← ha] at c1
          rw [← hb] at c2
          have HA := Lib.hid ha
          have HB := Lib.hid hb
          clear ha hb hP
          by_cases hab : a = true ∧ b = false
          · obtain ⟨rfl, rfl⟩ := hab
            have hg := Lib.grownBy_setCell wr (m.bl k) j (.bool true)
            have HN : Hid (S4 (wr.setCell ⟨m.bl k, j, none⟩ (.bool true)) B T z m (mrg x y k (j + 1))) := Lib.hid ((HS.out.write hlt hg ((HS.out.fl k hlt).put hjl true)).congr fun v l _ _ => mrg_put HA.out.symm v l)
            have HWN : Hid (Wr w (wr.setCell ⟨m.bl k, j, none⟩ (.bool true)) (rowsOf T m)) := Lib.hid (HW.out.set ⟨k, hlt, rfl⟩ _)
            have HF : Hid (true = true ↔ fresh T z x y k (j + 1)) := Lib.hid ⟨fun _ => fresh_put hlt hjl HA.out.symm HB.out.symm, fun _ => rfl⟩
            clear hg HC HS HW
            go_wp2_with fail
            refine ⟨⟨j + 1, true, rfl, by simp, by omega, HF, HN, HWN⟩, ?_⟩
            simp only [intOf]
            omega
          · have hxy : x k j = true → y k j = true := fun h9 => by
              rw [← HB.out]
              rw [← HA.out] at h9
              cases b
              · exact absurd ⟨h9, rfl⟩ hab
              · rfl
            have HN : Hid (S4 wr B T z m (mrg x y k (j + 1))) := Lib.hid (HS.out.congr fun v l _ _ => mrg_skip hxy v l)
            have HF : Hid (cb = true ↔ fresh T z x y k (j + 1)) := Lib.hid (HC.out.trans (fresh_skip hxy).symm)
            have hcases : a = false ∨ (a = true ∧ b = true) := by
              cases a <;> cases b <;> simp_all
            clear hxy HC HS hab HA HB
            rcases hcases with rfl | ⟨rfl, rfl⟩
            all_goals
              go_wp2_with fail
              refine ⟨⟨j + 1, cb, rfl, by simp, by omega, HF, HN, HW⟩, ?_⟩
              simp only [intOf]
              omega
        · have hjz : j = z := by omega
          have HN : Hid (S4 wr B T z m (mrg x y (k + 1) 0)) := Lib.hid (HS.out.congr fun v l _ hl => by rw [hjz]; exact mrg_row hl)
          have HF : Hid (cb = true ↔ fresh T z x y (k + 1) 0) := Lib.hid (HC.out.trans (by rw [hjz]; exact fresh_row.symm))
          clear hP HC HS hjz
          go_wp2_with fail
          refine ⟨⟨k + 1, cb, rfl, by simp, by omega, HF, HN, HW⟩, ?_⟩
          simp only [intOf]
          omega
    · have hke : k = T := by omega
      subst hke
      have HN : Hid (S4 wr B k z m (fun v l => y v l || x v l)) := Lib.hid (HS.out.congr fun v l hv _ => (mrg_last hv).symm)
      have HF := Lib.hid (HC.out.trans fresh_last)
      clear HC HS
      go_wp2_with fail
      go_ret
      exact ⟨cb, rfl, HF.out, HW.out, HN.out⟩

end Go.Proofs.YtnoejapnjhogaaaGreatDoor.tr
