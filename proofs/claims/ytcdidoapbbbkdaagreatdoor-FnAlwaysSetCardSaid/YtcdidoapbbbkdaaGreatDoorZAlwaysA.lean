/-
  AlwaysSet of the model.
-/
import Derived.Test.YtcdidoapbbbkdaaGreatDoorZFwdG
import Derived.Test.YtcdidoapbbbkdaaGreatDoorZL2Xb
import Derived.Test.YtcdidoapbbbkdaaGreatDoorZAlwaysI
import Derived.Deep.RegionHeld3
namespace Go.Proofs.YtcdidoapbbbkdaaGreatDoor
open Go.RowKit Go.Deep
set_option linter.unusedVariables false

theorem pRow_len_AlwaysSet {w : World} {B : Nat} {v : Value} {ns : List Nd} (h : PRow w B v ns) : ∃ A c, v = .slice A ns.length c := by
  obtain ⟨xs, ho, _⟩ := h
  rcases ho.2 with ⟨hv, h0⟩ | ⟨g, cap, cur, hv, _⟩
  · exact ⟨none, 0, by rw [hv, h0]⟩
  · exact ⟨_, _, hv⟩

set_option maxRecDepth 100000 in
set_option maxHeartbeats 4000000 in
theorem specAlwaysSet_any (ts : List Int) (s : Sts) (At As : Option Addr) (ct cs : Nat) (a : Int) (w : World) (hsz : s.size ≤ 1048576) (hT : IntsV w 0 w.heap.size ts At ct) (hR : RepV w 0 w.heap.size s As cs) :
    Calls Tryz.prog 9 #[.agg #[.slice At ts.length ct, .slice As s.len cs], .int .i64 a] w fun E w' => ∃ v l, E = .returned v ∧ RowI w' w.heap.size v l ∧ AnsAt (flowAll.Rel ts) (validB ts s) s a l ∧ Below w.heap.size w w' := by
  have hb0 := (Below.refl w.heap.size w).alloc (Nat.le_refl _) (.cells #[.slice At ts.length ct, .slice As s.len cs] 26)
  have hz0 : (w.alloc (.cells #[.slice At ts.length ct, .slice As s.len cs] 26)).heap.size = w.heap.size + 1 := by simp
  have hB0 := heap_alloc_new w (.cells #[.slice At ts.length ct, .slice As s.len cs] 26)
  have hP0 := specPointsOf_any ts s At As ct cs _ hsz (hT.below hb0 (by simp)) (hR.below hb0 (by simp))
  have HZ := Lib.hid hz0
  have HB := Lib.hid hB0
  by_cases h0 : a < 0
  · have hd : decide (a < 0) = true := decide_eq_true h0
    have hans : AnsAt (flowAll.Rel ts) (validB ts s) s a [] := .inr ⟨fun h => by have := h.2.1; omega, rfl⟩
    have hrow : RowI ((w.alloc (.cells #[.slice At ts.length ct, .slice As s.len cs] 26)).alloc (.cells #[] 3)) w.heap.size (.slice (some ⟨w.heap.size + 1, 0, none⟩) 0 0) [] := by
      have := World.ownsRow_lit (base := w.heap.size) (e := 3) (size := 1) (w.alloc (.cells #[.slice At ts.length ct, .slice As s.len cs] 26)) #[] 0 (by simp) (by simp [maxLen]) rfl
      rw [hz0] at this
      exact this
    have hbe := hb0.alloc (by simp) (.cells #[] 3)
    have HROW := Lib.hid hrow
    have HANS := Lib.hid hans
    clear hrow hans hP0 hz0 hB0 hT hR
    go_enter Tryz.func9, Tryz.ntmps9
    go_wp2_with fail
    go_ret
    exact ⟨_, _, rfl, HROW.out, HANS.out, hbe⟩
  by_cases hin : validB ts s = true ∧ a < ((progPts s).length : Int)
  · obtain ⟨h1, h2⟩ := hin
    obtain ⟨k, rfl⟩ : ∃ k : Nat, a = (k : Int) := ⟨a.toNat, by omega⟩
    have hk : k < (progPts s).length := by omega
    have e0 : pointsB (validB ts s) s = progPts s := by simp [pointsB, h1]
    rw [e0] at hP0
    have hd : decide ((k : Int) < 0) = false := decide_eq_false h0
    have ht6 := (progPts_allTyped h1).1
    have hAT := progPts_allTyped h1
    have hlv : ∀ W : World, Below w.heap.size w W → Calls Tryz.prog 25 #[.agg #[.slice At ts.length ct, .slice As s.len cs], .bool true] W (FwPost ts (progPts s) true (fun _ => True) (fun k v => usesN ts (progPts s) k v 2 ∧ ¬ setsN (progPts s) k v) (fun k v => setsN (progPts s) k v) W) := fun W hW => l3Forward_any ts s At As ct cs true _ _ _ W h1 (hT.below hW hW.size) (hR.below hW hW.size) (fun k d r v hd => behindR_miss hd r v) (fun v => by simp [db])
    have hmk : ∀ l : List Int, IsPathsB ((fun k v => v < ts.length ∧ ¬ MissB ts (progPts s) k v) k) l → AnsAt (flowAll.Rel ts) (validB ts s) s (k : Int) l := fun l hl => .inl ⟨h1, by omega, h2, by rw [Int.toNat_natCast]; exact hl⟩
    have hle : (progPts s).length ≤ 61 := by
      have h8 := s.npts_le
      have h9 := valid_size h1
      rw [progPts_len]
      omega
    generalize progPts s = ds at hP0 hlv hmk hk hAT hle
    have HLE := Lib.hid hle
    have HLV := Lib.hid hlv
    have HMK := Lib.hid hmk
    have HAT := Lib.hid hAT
    clear hlv hmk hAT hz0 hB0 hT hR h0 h1 h2 e0
    go_enter Tryz.func9, Tryz.ntmps9
    go_wp2_with fail
    refine hP0.mono ?_
    rintro E w1 ⟨v, rfl, hP, hb1⟩
    obtain ⟨Av, cv, hv⟩ := pRow_len_AlwaysSet hP
    subst hv
    rw [HZ.out] at hb1
    have hs1 := hb1.size
    rw [HZ.out] at hs1
    have hbw : Below w.heap.size w w1 := hb0.trans (hb1.mono (by omega))
    have hB1 := (hb1.block w.heap.size (by omega)).trans HB.out
    have p0 : w1.cell? ⟨w.heap.size, 0, none⟩ = some (.slice At ts.length ct) := (cell_of_block hB1 0).trans rfl
    have p1 : w1.cell? ⟨w.heap.size, 1, none⟩ = some (.slice As s.len cs) := (cell_of_block hB1 1).trans rfl
    have hl3 := HLV.out w1 hbw
    clear hP hb1 hP0 hB1
    go_wp2_with fail
    refine hl3.mono ?_
    rintro E w2 ⟨Rb, Sb, seen, o, rfl, hM, hS, hiff⟩
    obtain ⟨rv, hcell, -, -, hrv⟩ := hM.rowCell hk
    obtain ⟨Fr, cr, hrve, hcr1, hcr2, -, hfl⟩ : ∃ F c, rv = .slice (some ⟨F, 0, none⟩) ts.length c ∧ ts.length ≤ c ∧ c ≤ maxLen ∧ F ≠ Sb ∧ FlW w2 F ts.length (o k) := by
      rcases hrv with ⟨h9, _⟩ | ⟨_, h9⟩
      · rw [hS k hk] at h9; cases h9
      · exact h9
    subst hrve
    have hbl := hM.below
    have hbls := hbl.size
    have hnum := l3Numbers_w Fr ts.length cr (o k) w2 (by omega) hcr1 hcr2 hfl.lt hfl
    have hle0 : ds.length ≤ 61 := HLE.out
    have hib : IsPathsB ((fun k v => v < ts.length ∧ ¬ MissB ts ds k v) k) (firstN (o k) ts.length) := isPathsB_of (by omega) fun i => ⟨fun h => ⟨h.1, fun h9 => by
      have h8 := (hiff k i hk h.1).mpr h9
      unfold db at h8
      rw [h.2] at h8
      cases h8⟩, fun h => ⟨h.1, by
      cases h9 : o k i
      · exact absurd ((hiff k i hk h.1).mp (by unfold db; rw [h9]; rfl)) h.2
      · rfl⟩⟩
    have HANS := Lib.hid (HMK.out _ hib)
    have hbw2 : Below w.heap.size w w2 := hbw.trans (hbl.mono (by omega))
    clear hl3 hM hiff hfl hbl hib p0 p1 hrv hS hcr1 hcr2
    go_wp2_with fail
    refine hnum.mono ?_
    rintro E w3 ⟨vr, rfl, hrow, hb3⟩
    have HROW := Lib.hid (hrow.mono (B' := w.heap.size) (by omega))
    have hbw3 : Below w.heap.size w w3 := hbw2.trans (hb3.mono (by omega))
    clear hnum hrow hb3 hcell
    go_wp2_with fail
    go_ret
    exact ⟨_, _, rfl, HROW.out, HANS.out, hbw3⟩
  · have hd : decide (a < 0) = false := decide_eq_false h0
    have hans : AnsAt (flowAll.Rel ts) (validB ts s) s a [] := .inr ⟨fun h => hin ⟨h.1, h.2.2⟩, rfl⟩
    have hle : ((pointsB (validB ts s) s).length : Int) ≤ a := by
      cases h1 : validB ts s
      · simp [pointsB]
        omega
      · simp only [pointsB, if_true]
        rcases Int.lt_or_le a ((progPts s).length : Int) with h | h
        · exact absurd ⟨h1, h⟩ hin
        · exact h
    generalize pointsB (validB ts s) s = ds at hP0 hle
    have hd2 : decide ((ds.length : Int) ≤ a) = true := decide_eq_true hle
    have HANS := Lib.hid hans
    clear hans hz0 hB0 hT hR hin
    go_enter Tryz.func9, Tryz.ntmps9
    go_wp2_with fail
    refine hP0.mono ?_
    rintro E w1 ⟨v, rfl, hP, hb1⟩
    obtain ⟨Av, cv, hv⟩ := pRow_len_AlwaysSet hP
    subst hv
    rw [HZ.out] at hb1
    have hs1 := hb1.size
    rw [HZ.out] at hs1
    have hbw : Below w.heap.size w w1 := hb0.trans (hb1.mono (by omega))
    have hbe : Below w.heap.size w (w1.alloc (.cells #[] 3)) := hbw.alloc (by omega) _
    have hrow : RowI (w1.alloc (.cells #[] 3)) w.heap.size (.slice (some ⟨w1.heap.size, 0, none⟩) 0 0) [] := World.ownsRow_lit (base := w.heap.size) (e := 3) (size := 1) w1 #[] 0 (by omega) (by simp [maxLen]) rfl
    have HROW := Lib.hid hrow
    clear hP hb1 hP0 hrow
    go_wp2_with fail
    go_ret
    exact ⟨_, _, rfl, HROW.out, HANS.out, hbe⟩

end Go.Proofs.YtcdidoapbbbkdaaGreatDoor
