/-
  The program's PathsFrom.
-/
import Derived.Test.YtlddoookojjleaaGreatDoorZBase
import Derived.Test.YtlddoookojjleaaGreatDoorZStmtY
import Derived.Test.YtlddoookojjleaaGreatDoorZPathX
import Derived.Test.YtlddoookojjleaaGreatDoorZMem
import Derived.Test.YtlddoookojjleaaGreatDoorZGrX
import Derived.Deep.RegionWith
namespace Go.Proofs.YtlddoookojjleaaGreatDoor
open Go.RowKit Go.Deep
set_option linter.unusedVariables false

/-- A row of the numbers that R has with a, in order. -/
def IsPaths (R : Nat → Prop) (l : List Int) : Prop := ∃ y : Nat, l = intsOf y ∧ ∀ x, (x < 64 ∧ y.testBit x = true) ↔ R x

theorem IsPaths.unique {R : Nat → Prop} {l m : List Int} (h : IsPaths R l) (k : IsPaths R m) : l = m := by
  obtain ⟨y, rfl, h2⟩ := h
  obtain ⟨z, rfl, k2⟩ := k
  unfold intsOf
  rw [bitsOf_filter, bitsOf_filter]
  congr 1
  apply List.filter_congr
  intro x hx
  have hx64 := List.mem_range.mp hx
  have e := (h2 x).trans (k2 x).symm
  simp only [hx64, true_and] at e
  exact Bool.eq_iff_iff.mpr e

set_option maxRecDepth 100000 in
set_option maxHeartbeats 4000000 in
theorem implPathsFrom_yes (ts : List Int) (s : Sts) (At As : Option Addr) (ct cs : Nat) (a : Nat) (w : World) (hv : validB ts s = true) (ha : a < (progPts s).length) (hT : IntsV w 0 w.heap.size ts At ct) (hR : RepV w 0 w.heap.size s As cs)
    (hTab : TabAt 0 Lib.deBruijn64tab w) (hg : 0 < w.heap.size) :
    Calls Tryz.prog 9 #[.agg #[.slice At ts.length ct, .slice As s.len cs], .int .i64 a] w fun E w' => ∃ v l, E = .returned v ∧ RowI w' w.heap.size v l ∧ IsPaths (Reach (nextN (progPts s)) a) l ∧ Below w.heap.size w w' := by
  have hb0 := (Below.refl w.heap.size w).alloc (Nat.le_refl _) (.cells #[.slice At ts.length ct, .slice As s.len cs] 26)
  have hT1 : IntsV (w.alloc (.cells #[.slice At ts.length ct, .slice As s.len cs] 26)) 0 (w.alloc (.cells #[.slice At ts.length ct, .slice As s.len cs] 26)).heap.size ts At ct := hT.below hb0 (by simp)
  have hR1 : RepV (w.alloc (.cells #[.slice At ts.length ct, .slice As s.len cs] 26)) 0 (w.alloc (.cells #[.slice At ts.length ct, .slice As s.len cs] 26)).heap.size s As cs := hR.below hb0 (by simp)
  have hz0 : (w.alloc (.cells #[.slice At ts.length ct, .slice As s.len cs] 26)).heap.size = w.heap.size + 1 := by simp
  have hS := graphOf_yes ts s At As ct cs _ hv hT1 hR1
  have hD := progPts_ok s (valid_ok hv).2.1
  have hq0 : (progPts s).length ≤ 61 := by
    have := s.npts_le
    have := valid_size hv
    rw [progPts_len]
    omega
  generalize progPts s = ds at hS hD hq0 ha ⊢
  generalize s.npts = q at hD
  have HZ := Lib.hid hz0
  have HD := Lib.hid hD
  have HT := Lib.hid hTab
  clear hz0 hD hTab hT1 hR1 hv
  go_enter Tryz.func9, Tryz.ntmps9
  go_wp2_with fail
  refine hS.mono ?_
  rintro E w1 ⟨C, rfl, hC, hG, hb1⟩
  rw [HZ.out] at hC hb1
  have hb : Below w.heap.size w w1 := hb0.trans (hb1.mono (by omega))
  have hbz := hb.size
  have hhas := has_yes C a ds w1 hG ha
  have HG := Lib.hid hG
  clear hG hb1 hS
  go_wp2_with fail
  refine hhas.mono ?_
  rintro E w2 ⟨rfl, hb2⟩
  have hbB := hb.trans (hb2.mono hbz)
  have hzB := hbB.size
  have HG2 := Lib.hid (HG.out.kept (hb2.block C (by have := HG.out.lt; omega)))
  have hst := steps_any C q ds w2 HD.out HG2.out
  clear hhas hb2
  go_wp2_with fail
  refine hst.mono ?_
  rintro E w3 ⟨xs, ys, ah, bk, rfl, hx, hy, hs2, hb3⟩
  have hbC := hbB.trans (hb3.mono hzB)
  have hzC := hbC.size
  obtain ⟨W5, W6, s1, s2, hb6, h6a, h6b, hz6⟩ := lay_two w3 xs ys ah bk hx hy
  unfold noSets at s1
  have hxz := hx.1
  have hyz := hy.1
  have HX := Lib.hid hx
  have HY := Lib.hid hy
  have HS2 := Lib.hid hs2
  have hbD : Below w.heap.size w W6 := hbC.trans (hb6.mono hzC)
  have hSA : SetsAt W6 w3.heap.size (clip ah) := by
    intro k hk
    rw [cell_of_block h6a]
    unfold clip
    rw [if_pos hk]
    exact HX.out.2 k hk
  have hpf := pathsFrom_any w3.heap.size a (clip ah) (clip_lt HS2.out.ahLt) (fun k x hx => ((mem_nextN HD.out hq0 k x).mp ((clip_ah HD.out hq0 HS2.out k x).mp hx)).lt HD.out hq0 |>.2) (by omega) W6 (by omega) hSA (tab_below HT.out hg hbD) (by omega)
  have HPF := Lib.hid hpf
  clear hst hb3 hx hy hs2 hb6 h6a h6b hSA hpf
  go_wp2_with fail
  refine HPF.out.mono ?_
  rintro E w7 ⟨y, rfl, hyl, hyr, hb7⟩
  have hbE : Below w.heap.size w w7 := hbD.trans (hb7.mono (by omega))
  have hz7 := hbE.size
  have hls := setList_any y hyl w7 (tab_below HT.out hg hbE) (by omega)
  have HYR := Lib.hid hyr
  clear hyr hb7 s1 s2
  go_wp2_with fail
  refine hls.mono ?_
  rintro E w8 ⟨v, rfl, hrow, hb8⟩
  have hbF : Below w.heap.size w w8 := hbE.trans (hb8.mono hz7)
  have HROW := Lib.hid (hrow.mono hz7)
  clear hls hrow hb8
  go_wp2_with fail
  go_ret
  refine ⟨v, intsOf y, rfl, HROW.out, ⟨y, rfl, fun x => (HYR.out x).trans ⟨fun h => h.congr (fun k b => (clip_ah HD.out hq0 HS2.out k b).mp), fun h => h.congr (fun k b => (clip_ah HD.out hq0 HS2.out k b).mpr)⟩⟩, hbF⟩


set_option maxRecDepth 100000 in
set_option maxHeartbeats 4000000 in
theorem implPathsFrom_no (ts : List Int) (s : Sts) (At As : Option Addr) (ct cs : Nat) (a : Int) (w : World) (hv : validB ts s = false ∨ a < 0 ∨ ((progPts s).length : Int) ≤ a) (hT : IntsV w 0 w.heap.size ts At ct) (hR : RepV w 0 w.heap.size s As cs) :
    Calls Tryz.prog 9 #[.agg #[.slice At ts.length ct, .slice As s.len cs], .int .i64 a] w fun E w' => ∃ v, E = .returned v ∧ RowI w' w.heap.size v [] ∧ Below w.heap.size w w' := by
  have hb0 := (Below.refl w.heap.size w).alloc (Nat.le_refl _) (.cells #[.slice At ts.length ct, .slice As s.len cs] 26)
  have hT1 : IntsV (w.alloc (.cells #[.slice At ts.length ct, .slice As s.len cs] 26)) 0 (w.alloc (.cells #[.slice At ts.length ct, .slice As s.len cs] 26)).heap.size ts At ct := hT.below hb0 (by simp)
  have hR1 : RepV (w.alloc (.cells #[.slice At ts.length ct, .slice As s.len cs] 26)) 0 (w.alloc (.cells #[.slice At ts.length ct, .slice As s.len cs] 26)).heap.size s As cs := hR.below hb0 (by simp)
  have hz0 : (w.alloc (.cells #[.slice At ts.length ct, .slice As s.len cs] 26)).heap.size = w.heap.size + 1 := by simp
  have hnil : ∀ W : World, RowI W w.heap.size (.slice none 0 0) [] := fun W => World.ownsRow_nil W w.heap.size 3 1
  cases h1 : validB ts s
  · have hS := graphOf_no ts s At As ct cs _ h1 hT1 hR1
    have HZ := Lib.hid hz0
    clear hz0 hT1 hR1 h1 hv
    go_enter Tryz.func9, Tryz.ntmps9
    go_wp2_with fail
    refine hS.mono ?_
    rintro E w1 ⟨rfl, hb1⟩
    rw [HZ.out] at hb1
    have hb : Below w.heap.size w w1 := hb0.trans (hb1.mono (by omega))
    clear hb1 hS
    go_wp2_with fail
    go_ret
    exact ⟨_, rfl, hnil _, by first | exact hb | exact hb.drew⟩
  · have hr : a < 0 ∨ ((progPts s).length : Int) ≤ a := by
      rcases hv with h | h
      · rw [h1] at h; cases h
      · exact h
    have hS := graphOf_yes ts s At As ct cs _ h1 hT1 hR1
    generalize progPts s = ds at hS hr hv
    have HZ := Lib.hid hz0
    clear hz0 hT1 hR1 h1 hv
    go_enter Tryz.func9, Tryz.ntmps9
    go_wp2_with fail
    refine hS.mono ?_
    rintro E w1 ⟨C, rfl, hC, hG, hb1⟩
    rw [HZ.out] at hC hb1
    have hb : Below w.heap.size w w1 := hb0.trans (hb1.mono (by omega))
    have hbz := hb.size
    have hhas := has_no C a ds w1 hG hr
    clear hG hb1 hS hr
    go_wp2_with fail
    refine hhas.mono ?_
    rintro E w2 ⟨rfl, hb2⟩
    have hbB := hb.trans (hb2.mono hbz)
    clear hhas hb2
    go_wp2_with fail
    go_ret
    exact ⟨_, rfl, hnil _, by first | exact hbB | exact hbB.drew⟩

theorem IsPaths.toB {R : Nat → Prop} {l : List Int} (h : IsPaths R l) : IsPathsB R l := by
  obtain ⟨y, rfl, h2⟩ := h
  refine ⟨fun k => y.testBit k, ?_, h2⟩
  unfold intsOf
  rw [bitsOf_filter]

/-- What PathsFrom answers. -/
def AnsPathsFrom (ok : Bool) (s : Sts) (a : Int) (l : List Int) : Prop :=
  (ok = true ∧ 0 ≤ a ∧ a < ((progPts s).length : Int) ∧ IsPathsB (Reach (nextN (progPts s)) a.toNat) l) ∨ (¬ (ok = true ∧ 0 ≤ a ∧ a < ((progPts s).length : Int)) ∧ l = [])

theorem AnsPathsFrom.unique {ok : Bool} {s : Sts} {a : Int} {l m : List Int} (h : AnsPathsFrom ok s a l) (k : AnsPathsFrom ok s a m) : l = m := by
  rcases h with ⟨h1, h2, h3, h4⟩ | ⟨h1, h2⟩
  · rcases k with ⟨_, _, _, k4⟩ | ⟨k1, _⟩
    · exact h4.unique k4
    · exact absurd ⟨h1, h2, h3⟩ k1
  · rcases k with ⟨k1, k2, k3, _⟩ | ⟨_, k2⟩
    · exact absurd ⟨k1, k2, k3⟩ h1
    · rw [h2, k2]

theorem AnsPathsFrom.length {ok : Bool} {s : Sts} {a : Int} {l : List Int} (h : AnsPathsFrom ok s a l) : l.length ≤ 64 := by
  rcases h with ⟨_, _, _, p, rfl, _⟩ | ⟨_, rfl⟩
  · have := List.length_filter_le p (List.range 64)
    simpa using this
  · simp

theorem implPathsFrom_any (ts : List Int) (s : Sts) (At As : Option Addr) (ct cs : Nat) (a : Int) (w : World) (hT : IntsV w 0 w.heap.size ts At ct) (hR : RepV w 0 w.heap.size s As cs)
    (hTab : TabAt 0 Lib.deBruijn64tab w) (hg : 0 < w.heap.size) :
    Calls Tryz.prog 9 #[.agg #[.slice At ts.length ct, .slice As s.len cs], .int .i64 a] w fun E w' => ∃ v l, E = .returned v ∧ RowI w' w.heap.size v l ∧ AnsPathsFrom (validB ts s) s a l ∧ Below w.heap.size w w' := by
  by_cases h : validB ts s = true ∧ 0 ≤ a ∧ a < ((progPts s).length : Int)
  · obtain ⟨h1, h2, h3⟩ := h
    obtain ⟨n, rfl⟩ : ∃ n : Nat, a = (n : Int) := ⟨a.toNat, by omega⟩
    refine (implPathsFrom_yes ts s At As ct cs n w h1 (by omega) hT hR hTab hg).mono ?_
    rintro E w' ⟨v, l, rfl, hv, hl, hb⟩
    exact ⟨v, l, rfl, hv, .inl ⟨h1, h2, h3, by have := hl.toB; simpa using this⟩, hb⟩
  · have hno : validB ts s = false ∨ a < 0 ∨ ((progPts s).length : Int) ≤ a := by
      cases hv : validB ts s
      · exact .inl rfl
      · refine .inr ?_
        by_cases h0 : a < 0
        · exact .inl h0
        · refine .inr ?_
          rcases Int.lt_or_le a ((progPts s).length : Int) with h1 | h1
          · exact absurd ⟨hv, by omega, h1⟩ h
          · exact h1
    refine (implPathsFrom_no ts s At As ct cs a w hno hT hR).mono ?_
    rintro E w' ⟨v, rfl, hv, hb⟩
    exact ⟨v, [], rfl, hv, .inr ⟨h, rfl⟩, hb⟩

end Go.Proofs.YtlddoookojjleaaGreatDoor
