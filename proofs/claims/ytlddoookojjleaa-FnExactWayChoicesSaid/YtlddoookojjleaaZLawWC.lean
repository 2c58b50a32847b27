/-
  At every program and way, WayChoices of the program answers as its model does, writes into nothing, and its answer is its own. Conditions: none.
-/
import Derived.Test.YtlddoookojjleaaZArgs
import Derived.Test.YtlddoookojjleaaZWchI
import Derived.Test.YtlddoookojjleaaZWchS
import Derived.Test.YtlddoookojjleaaZMarks
import Derived.Deep.RegionHeld3
namespace Go.Proofs.Ytlddoookojjleaa.fnWayChoices
open Go.ChangeShapes Go.WideShapes Go.ChangeAt Go.RowKit Go.Deep Go.Joins
set_option linter.unusedVariables false

/-- What holds all along the third test: what was there stays, and so the cells that the test loads. -/
theorem held_P {C B K : Nat} {w1 wo w' : World} {b0 b1 c0 c1 : Value} (hb : Below wo.heap.size wo w') (h : Below K w1 wo) (hK : K = w1.heap.size) (hC : C < w1.heap.size) (hB : B < w1.heap.size)
    (q0 : w1.cell? ⟨B, 0, none⟩ = some b0) (q1 : w1.cell? ⟨B, 1, none⟩ = some b1) (q2 : w1.cell? ⟨C, 0, none⟩ = some c0) (q3 : w1.cell? ⟨C, 1, none⟩ = some c1) :
    Below K w1 w' ∧ w'.cell? ⟨B, 0, none⟩ = some b0 ∧ w'.cell? ⟨B, 1, none⟩ = some b1 ∧ w'.cell? ⟨C, 0, none⟩ = some c0 ∧ w'.cell? ⟨C, 1, none⟩ = some c1 := by
  subst hK
  have hbb : Below w1.heap.size w1 w' := h.trans (hb.mono h.size)
  exact ⟨hbb, (hbb.cell hB).trans q0, (hbb.cell hB).trans q1, (hbb.cell hC).trans q2, (hbb.cell hC).trans q3⟩

theorem markIntS_ints (xs : List Int) (g lo hi : Nat) (k : Int) (w : World) (hl : xs.length ≤ 2000000) (hk : 0 ≤ k) (hk2 : k ≤ 100000000) (hT : IntsV w lo hi xs (some ⟨g, 0, none⟩) xs.length) (hS : SoftIn lo hi w) :
    Calls Try.prog 15 #[.slice (some ⟨g, 0, none⟩) xs.length xs.length, .int .i64 k] w fun E w' => E = .returned (.int .i64 (k + xs.length)) ∧ MarkRel lo hi w w' := by
  by_cases h0 : xs.length = 0
  · rw [h0]
    refine (markIntS_nil (some ⟨g, 0, none⟩) 0 k _).mono ?_
    rintro E w' ⟨rfl, rfl⟩
    exact ⟨by simp, MarkRel.refl _ _ _⟩
  · obtain ⟨b, hb, hb1, hb2, hcl⟩ := hT.2.2 (by omega)
    injection hb with hb
    subst hb
    refine (markIntS_row xs.length xs.length g k _ (Nat.le_refl _) (by omega) hT.2.1 hk hk2 (fun j hj => ⟨xs[j], by have := hcl j _ (List.getElem?_eq_getElem hj); rwa [add_block, Nat.zero_add] at this⟩) (fun o => hS _ hb1 hb2)).mono ?_
    rintro E w' ⟨rfl, hM, _⟩
    exact ⟨rfl, hM.wide hb1 (by have : g < hi := hb2; omega)⟩

set_option maxRecDepth 100000 in
set_option maxHeartbeats 8000000 in
theorem walk (ts : List Int) (s : Sts) (At As : Option Addr) (ct cs : Nat) (xs : List Int) (A : Option Addr) (c : Nat) (W : World) (hT : IntsV W 0 W.heap.size ts At ct) (hR : RepV W 0 W.heap.size s As cs) (hX : IntsV W 0 W.heap.size xs A c) :
    Calls Try.prog 4 #[.agg #[.slice At ts.length ct, .slice As s.len cs], .slice A xs.length c] W fun e w' => e = .returned (.bool true) ∧ Below W.heap.size W w' := by
  have hTl := hT.1
  have hTm := hT.2.1
  have hXl := hX.1
  have hXm : c ≤ 2 ^ 63 - 1 := hX.2.1
  have hb0 := (Below.refl W.heap.size W).alloc (Nat.le_refl _) (.cells #[.slice At ts.length ct, .slice As s.len cs] 25)
  have hz0 : (W.alloc (.cells #[.slice At ts.length ct, .slice As s.len cs] 25)).heap.size = W.heap.size + 1 := by simp
  have hT0 : IntsV (W.alloc (.cells #[.slice At ts.length ct, .slice As s.len cs] 25)) 0 (W.alloc (.cells #[.slice At ts.length ct, .slice As s.len cs] 25)).heap.size ts At ct := hT.below hb0 (by simp)
  have hR0 : RepV (W.alloc (.cells #[.slice At ts.length ct, .slice As s.len cs] 25)) 0 (W.alloc (.cells #[.slice At ts.length ct, .slice As s.len cs] 25)).heap.size s As cs := hR.below hb0 (by simp)
  have hB := heap_alloc_new W (.cells #[.slice At ts.length ct, .slice As s.len cs] 25)
  have HB := Lib.hid hB
  have HZ := Lib.hid hz0
  clear hB hz0
  rcases Nat.lt_or_ge 1048576 xs.length with hxs | hxs
  · have hx2 : (1048576 : Int) < xs.length := by omega
    go_enter Try.func4, Try.ntmps4
    go_wp2_with fail
    go_ret
    exact ⟨rfl, hb0⟩
  have hx2 : (xs.length : Int) ≤ 1048576 := by omega
  by_cases hsz : ts.length + s.size ≤ 1048576
  · have hsub : Hid (subI 1048576 (ts.length + s.size) = 1048576 - (ts.length + s.size : Nat)) := if_pos (by omega)
    go_enter Try.func4, Try.ntmps4
    go_wp2_with fail
    refine (szProgram_any ts.length ct At s As cs 1048576 _ hTl hTm hR0 (by omega) (by omega)).mono ?_
    rintro E w1 ⟨he, hb1⟩
    rw [hsub.out] at he
    subst he
    rw [HZ.out] at hb1
    have hs1 := hb1.size
    rw [HZ.out] at hs1
    have hB1 := (hb1.block W.heap.size (by omega)).trans HB.out
    have p0 : w1.cell? ⟨W.heap.size, 0, none⟩ = some (.slice At ts.length ct) := (cell_of_block hB1 0).trans rfl
    have p1 : w1.cell? ⟨W.heap.size, 1, none⟩ = some (.slice As s.len cs) := (cell_of_block hB1 1).trans rfl
    have hbb1 : Below W.heap.size W w1 := hb0.trans (hb1.mono (by omega))
    have HB1 := Lib.hid hB1
    clear hB1 hb1 hT0 hR0
    go_wp2_with fail
    refine (toProgram_any ts s At As ct cs _ (by omega) (by omega) (hT.below hbb1 hbb1.size) (hR.below hbb1 hbb1.size)).mono ?_
    rintro E w2 ⟨g1, g2, rfl, hI2, hS2, hb2⟩
    have hs2 := hb2.size
    have HB2 := Lib.hid ((hb2.block W.heap.size (by omega)).trans HB1.out)
    have hbb2 : Below W.heap.size W w2 := hbb1.trans (hb2.mono (by omega))
    clear hb2 p0 p1
    go_wp2_with fail
    refine (toIntS_any xs A c w2 hxs (hX.below hbb2 hbb2.size)).mono ?_
    rintro E w2b ⟨rfl, hX2, hb2b⟩
    have hs2b := hb2b.size
    have HB2b := Lib.hid ((hb2b.block W.heap.size (by omega)).trans HB2.out)
    have hbb2b : Below W.heap.size W w2b := hbb2.trans (hb2b.mono (by omega))
    have hI2b := Lib.hid (hI2.below hb2b hs2b)
    have hS2b := Lib.hid (hS2.below hb2b hs2b)
    have hX2b := Lib.hid (hX2.keep (Nat.zero_le _) (Nat.le_refl _) fun _ _ _ => rfl)
    clear hb2b hI2 hS2 hX2
    go_wp2_with fail
    refine (specWayChoices_any ts s _ _ _ _ xs _ _ w2b (by omega) (by omega) hI2b.out hS2b.out hX2b.out).mono ?_
    rintro E w3 ⟨vs, rfl, hvs, hb3⟩
    have hs3 := hb3.size
    have HVS := Lib.hid hvs
    have hB3 := (hb3.block W.heap.size (by omega)).trans HB2b.out
    have p0 : w3.cell? ⟨W.heap.size, 0, none⟩ = some (.slice At ts.length ct) := (cell_of_block hB3 0).trans rfl
    have p1 : w3.cell? ⟨W.heap.size, 1, none⟩ = some (.slice As s.len cs) := (cell_of_block hB3 1).trans rfl
    have hbb3 : Below W.heap.size W w3 := hbb2b.trans (hb3.mono (by omega))
    have HB3 := Lib.hid hB3
    have hvso := Lib.hid hvs.lt
    clear hB3 hb3 hvs hI2b hS2b hX2b
    go_wp2_with fail
    refine (toProgram_s ts s At As ct cs _ (by omega) (by omega) (hT.below hbb3 hbb3.size) (hR.below hbb3 hbb3.size)).mono ?_
    rintro E w4 ⟨⟨k1, k2, rfl, hI4, hS4, hb4⟩, hsf4⟩
    have hs4 := hb4.size
    have HB4 := Lib.hid ((hb4.block W.heap.size (by omega)).trans HB3.out)
    have hbb4 : Below W.heap.size W w4 := hbb3.trans (hb4.mono (by omega))
    have HI4 := Lib.hid hI4
    have HS4 := Lib.hid hS4
    have HF4 := Lib.hid hsf4
    have HVS4 := Lib.hid (HVS.out.below hb4)
    clear hb4 p0 p1 hI4 hS4 hsf4
    have hba := (Below.refl w4.heap.size w4).alloc (Nat.le_refl _) (.cells #[.slice (some ⟨k1, 0, none⟩) ts.length ts.length, .slice (some ⟨k2, 0, none⟩) s.len s.len] 31)
    have hza : (w4.alloc (.cells #[.slice (some ⟨k1, 0, none⟩) ts.length ts.length, .slice (some ⟨k2, 0, none⟩) s.len s.len] 31)).heap.size = w4.heap.size + 1 := by simp
    have hXa := heap_alloc_new w4 (.cells #[.slice (some ⟨k1, 0, none⟩) ts.length ts.length, .slice (some ⟨k2, 0, none⟩) s.len s.len] 31)
    have hbb4a : Below W.heap.size W (w4.alloc (.cells #[.slice (some ⟨k1, 0, none⟩) ts.length ts.length, .slice (some ⟨k2, 0, none⟩) s.len s.len] 31)) := hbb4.trans (hba.mono (by omega))
    have HXA := Lib.hid hXa
    have HZA := Lib.hid hza
    clear hXa hza
    go_wp2_with fail
    refine (toIntS_s xs A c _ hxs (hX.below hbb4a hbb4a.size)).mono ?_
    rintro E w5 ⟨rfl, hX5, hb5, hsf5⟩
    rw [HZA.out] at hX5 hb5 hsf5 ⊢
    have hs5 := hb5.size
    rw [HZA.out] at hs5
    have hX5a := (hb5.block w4.heap.size (by omega)).trans HXA.out
    have hb45 : Below w4.heap.size w4 w5 := hba.trans (hb5.mono (by omega))
    have x0 : w5.cell? ⟨w4.heap.size, 0, none⟩ = some (.slice (some ⟨k1, 0, none⟩) ts.length ts.length) := (cell_of_block hX5a 0).trans rfl
    have x1 : w5.cell? ⟨w4.heap.size, 1, none⟩ = some (.slice (some ⟨k2, 0, none⟩) s.len s.len) := (cell_of_block hX5a 1).trans rfl
    have hbb5 : Below W.heap.size W w5 := hbb4.trans (hb45.mono (by omega))
    have HB5 := Lib.hid ((hb45.block W.heap.size (by omega)).trans HB4.out)
    have HX5a := Lib.hid hX5a
    have HX5 := Lib.hid hX5
    have HF5 := Lib.hid hsf5
    have HVS5 := Lib.hid (HVS4.out.below hb45)
    have HI5 := Lib.hid (HI4.out.below hb45 hb45.size)
    have HS5 := Lib.hid (HS4.out.below hb45 hb45.size)
    have HX5c := Lib.hid (hX5.keep (Nat.zero_le _) (Nat.le_refl _) fun _ _ _ => rfl)
    clear hX5a hX5 hsf5 hb5 hba
    go_wp2_with fail
    refine (implWayChoices_any ts s _ _ _ _ xs _ _ w5 (by omega) HI5.out HS5.out HX5c.out).mono ?_
    rintro E w6 ⟨vg, rfl, hvg, hb6⟩
    have hs6 := hb6.size
    have HVG := Lib.hid hvg
    have hvgo := Lib.hid hvg.lt
    have HVS6 := Lib.hid (HVS5.out.below hb6)
    have hb46 : Below w4.heap.size w4 w6 := hb45.trans (hb6.mono (by omega))
    have hbb6 : Below W.heap.size W w6 := hbb5.trans (hb6.mono (by omega))
    have HB6 := Lib.hid ((hb6.block W.heap.size (by omega)).trans HB5.out)
    have HX6a := Lib.hid ((hb6.block w4.heap.size (by omega)).trans HX5a.out)
    have HX6 := Lib.hid (HX5.out.below' hb6 (Nat.le_refl _))
    have hrl := wchI_len (validB ts s) s xs
    clear hvg HI5 HS5 HX5c x0 x1
    have hre : Hid (∃ r, (wchI (validB ts s) s xs) = r) := ⟨_, rfl⟩
    generalize hr : (wchI (validB ts s) s xs) = r at *
    obtain ⟨rl, rb⟩ := r
    have HRR := Lib.hid hr
    clear hr hre
    have hrl : rl.length ≤ xs.length := hrl
    have hrb : (rb != rb) = false := by simp
    obtain ⟨Ag, cg, hvgs, hIg⟩ := HVG.out.ints
    obtain ⟨Avs, cvs, hvss, hIs⟩ := HVS6.out.ints
    subst hvgs hvss
    have HIg := Lib.hid hIg
    have HIs := Lib.hid hIs
    clear hIg hIs
    go_wp2_with fail
    refine (eqIntS_any rl _ _ _ _ w6 HIg.out HIs.out).mono ?_
    rintro E w7 ⟨rfl, hb7⟩
    have hs7 := hb7.size
    have hB7 := (hb7.block W.heap.size (by omega)).trans HB6.out
    have hX7a := (hb7.block w4.heap.size (by omega)).trans HX6a.out
    have hb47 : Below w4.heap.size w4 w7 := hb46.trans (hb7.mono (by omega))
    have hbb7 : Below W.heap.size W w7 := hbb6.trans (hb7.mono (by omega))
    have hI7 : IntsV w7 0 w7.heap.size ts (some ⟨k1, 0, none⟩) ts.length := HI4.out.below hb47 hb47.size
    have hS7 : RepV w7 0 w7.heap.size s (some ⟨k2, 0, none⟩) s.len := HS4.out.below hb47 hb47.size
    have HB7 := Lib.hid hB7
    have HX7a := Lib.hid hX7a
    have HX7 := Lib.hid (HX6.out.below' (hb7.mono (by omega)) (Nat.le_refl _))
    have HVG7 := Lib.hid (HVG.out.below hb7)
    have HVS7 := Lib.hid (HVS6.out.below hb7)
    have p0 : w7.cell? ⟨W.heap.size, 0, none⟩ = some (.slice At ts.length ct) := (cell_of_block hB7 0).trans rfl
    have p1 : w7.cell? ⟨W.heap.size, 1, none⟩ = some (.slice As s.len cs) := (cell_of_block hB7 1).trans rfl
    have x0 : w7.cell? ⟨w4.heap.size, 0, none⟩ = some (.slice (some ⟨k1, 0, none⟩) ts.length ts.length) := (cell_of_block hX7a 0).trans rfl
    have x1 : w7.cell? ⟨w4.heap.size, 1, none⟩ = some (.slice (some ⟨k2, 0, none⟩) s.len s.len) := (cell_of_block hX7a 1).trans rfl
    clear hB7 hX7a HIg HIs
    go_wp2_with fail
    go_region_held3 (fun w' => Below w7.heap.size w7 w' ∧ w'.cell? ⟨W.heap.size, 0, none⟩ = some (.slice At ts.length ct) ∧ w'.cell? ⟨W.heap.size, 1, none⟩ = some (.slice As s.len cs) ∧ w'.cell? ⟨w4.heap.size, 0, none⟩ = some (.slice (some ⟨k1, 0, none⟩) ts.length ts.length) ∧ w'.cell? ⟨w4.heap.size, 1, none⟩ = some (.slice (some ⟨k2, 0, none⟩) s.len s.len))
      (first | exact ⟨(Below.refl w7.heap.size w7).drew, p0, p1, x0, x1⟩ | exact held_P hbn (And.left ‹Below w7.heap.size w7 _ ∧ _›) rfl (by omega) (by omega) p0 p1 x0 x1)
      (first
        | (go_at_call 10; refine (toProgram_any ts s At As ct cs _ (by omega) (by omega) ?_ ?_).mono ?_; (have hbx := And.left ‹Below w7.heap.size w7 _ ∧ _›; exact hT.below (hbb7.trans (hbx.mono (by omega))) (by have := hbx.size; omega)); (have hbx := And.left ‹Below w7.heap.size w7 _ ∧ _›; exact hR.below (hbb7.trans (hbx.mono (by omega))) (by have := hbx.size; omega)); rintro E w' ⟨j1, j2, rfl, hI8, hS8, hbn⟩)
        | (go_at_call 13; refine (eqProgram_any ts s _ _ _ _ _ _ _ _ _ ?_ (hI8.keep (Nat.zero_le _) (Nat.le_refl _) fun _ _ _ => rfl) ?_ (hS8.keep (Nat.zero_le _) (Nat.le_refl _) fun _ _ _ => rfl)).mono ?_; (have hbx := And.left ‹Below w7.heap.size w7 _ ∧ _›; exact hI7.below hbx hbx.size); (have hbx := And.left ‹Below w7.heap.size w7 _ ∧ _›; exact hS7.below hbx hbx.size); rintro E w' ⟨rfl, hbn⟩))
    have hbl := And.left ‹Below w7.heap.size w7 _ ∧ _›
    have hsl := hbl.size
    clear p0 p1 x0 x1 hI7 hS7
    go_wp2_with fail
    refine (toIntS_any xs A c _ hxs (hX.below (hbb7.trans (hbl.mono (by omega))) (by omega))).mono ?_
    rintro E w9 ⟨rfl, hX9, hb9⟩
    have hs9 := hb9.size
    have hb79 := hbl.trans (hb9.mono hsl)
    clear hb9 hbl
    have HX9 := Lib.hid (hX9.keep (Nat.zero_le _) (Nat.le_refl _) fun _ _ _ => rfl)
    have HX9b := Lib.hid (HX7.out.below' (hb79.mono (by omega)) (Nat.le_refl _))
    clear hX9
    go_wp2_with fail
    refine (eqIntS_any xs _ _ _ _ w9 (HX9b.out.keep (Nat.zero_le _) (by omega) fun _ _ _ => rfl) HX9.out).mono ?_
    rintro E wa ⟨rfl, hba2⟩
    have hsa := hba2.size
    have hb7a : Below w7.heap.size w7 wa := hb79.trans (hba2.mono (by omega))
    have hb4a : Below w4.heap.size w4 wa := hb47.trans (hb7a.mono (by omega))
    have hBa := (hb7a.block W.heap.size (by omega)).trans HB7.out
    have hXaa := (hb7a.block w4.heap.size (by omega)).trans HX7a.out
    have x0 : wa.cell? ⟨w4.heap.size, 0, none⟩ = some (.slice (some ⟨k1, 0, none⟩) ts.length ts.length) := (cell_of_block hXaa 0).trans rfl
    have x1 : wa.cell? ⟨w4.heap.size, 1, none⟩ = some (.slice (some ⟨k2, 0, none⟩) s.len s.len) := (cell_of_block hXaa 1).trans rfl
    have HBa := Lib.hid hBa
    have HXa := Lib.hid (HX7.out.below' (hb7a.mono (by omega)) (Nat.le_refl _))
    have HVGa := Lib.hid (HVG7.out.below hb7a)
    have HVSa := Lib.hid (HVS7.out.below hb7a)
    have hIa : IntsV wa w3.heap.size w4.heap.size ts (some ⟨k1, 0, none⟩) ts.length := HI4.out.below' hb4a (Nat.le_refl _)
    have hSa : RepV wa w3.heap.size w4.heap.size s (some ⟨k2, 0, none⟩) s.len := HS4.out.below' hb4a (Nat.le_refl _)
    have hFa : SoftIn w3.heap.size w4.heap.size wa := fun p h1 h2 => (World.frozen?_of_block (hb4a.block p.block h2)).trans (HF4.out _ _ h1)
    have hFx : SoftIn (w4.heap.size + 1) w5.heap.size wa := fun p h1 h2 => (World.frozen?_of_block (hb7a.block p.block (by omega))).trans ((World.frozen?_of_block (hb7.block p.block (by omega))).trans ((World.frozen?_of_block (hb6.block p.block h2)).trans (HF5.out _ _ h1)))
    have hsza := hb4a.size
    have HIa := Lib.hid hIa
    have HSa := Lib.hid hSa
    have HFa := Lib.hid hFa
    have HFx := Lib.hid hFx
    have hbba : Below W.heap.size W wa := hbb7.trans (hb7a.mono (by omega))
    clear hIa hSa hFa hFx hBa hXaa hba2 hb79
    go_wp2_with fail
    refine (markProgram_any ts s k1 k2 w3.heap.size w4.heap.size 1 wa (by omega) (by omega) (by omega) (by omega) hsza hs4 HIa.out HSa.out HFa.out).mono ?_
    rintro E wb ⟨rfl, hspb⟩
    have hsb := hspb.size
    have HXb : Hid (IntsV wb (w4.heap.size + 1) w5.heap.size xs (some ⟨w4.heap.size + 1, 0, none⟩) xs.length) :=
      HXa.out.keep (Nat.le_refl _) (Nat.le_refl _) fun p h1 h2 => World.cell?_of_block (hspb.block p.block (by omega) (.inr (by omega)))
    have HFxb : Hid (SoftIn (w4.heap.size + 1) w5.heap.size wb) := fun p h1 h2 => (World.frozen?_of_block (hspb.block p.block (by omega) (.inr (by omega)))).trans (HFx.out p h1 h2)
    have HVGb := Lib.hid (HVGa.out.keep fun g hg => hspb.block g (by have := hvgo.out g hg; omega) (.inr (by have := hvgo.out g hg; omega)))
    have HVSb := Lib.hid (HVSa.out.keep fun g hg => hspb.block g (by have := hvso.out g hg; omega) (.inl (by have := hvso.out g hg; omega)))
    have HBb := Lib.hid ((hspb.block W.heap.size (by omega) (.inl (by omega))).trans HBa.out)
    have hbbb : Below W.heap.size W wb := hbba.trans (hspb.below (by omega) (by omega))
    clear hspb x0 x1
    go_wp2_with fail
    refine (markIntS_ints xs (w4.heap.size + 1) (w4.heap.size + 1) w5.heap.size (1 + ts.length + 4 * s.size) wb (by omega) (by omega) (by omega) HXb.out HFxb.out).mono ?_
    rintro E wc ⟨rfl, hMc⟩
    have hspc : Span (w4.heap.size + 1) w5.heap.size wb wc := Span.of_mark hMc
    have hsc := hspc.size
    have HVGc := Lib.hid (HVGb.out.keep fun g hg => hspc.block g (by have := hvgo.out g hg; omega) (.inr (by have := hvgo.out g hg; omega)))
    have HVSc := Lib.hid (HVSb.out.keep fun g hg => hspc.block g (by have := hvso.out g hg; omega) (.inl (by have := hvso.out g hg; omega)))
    have HBc := Lib.hid ((hspc.block W.heap.size (by omega) (.inl (by omega))).trans HBb.out)
    have hbbc : Below W.heap.size W wc := hbbb.trans (hspc.below (by omega) (by omega))
    have hkd : decide ((1 : Int) + ts.length + 4 * s.size + xs.length < 0) = false := decide_eq_false (by omega)
    clear hMc hspc HXb HFxb
    go_wp2_with fail
    refine (eqIntS_any rl _ _ _ _ wc HVGc.out.intsV HVSc.out.intsV).mono ?_
    rintro E wd ⟨rfl, hbd⟩
    have hsd := hbd.size
    have HVGd := Lib.hid (HVGc.out.below hbd)
    have HVSd := Lib.hid (HVSc.out.below hbd)
    have HBd := Lib.hid ((hbd.block W.heap.size (by omega)).trans HBc.out)
    have hbbd : Below W.heap.size W wd := hbbc.trans (hbd.mono (by omega))
    clear hbd
    go_wp2_with fail
    refine (markIntS_val w5.heap.size _ rl 1 wd HVGd.out (by omega) (by omega) (by omega)).mono ?_
    rintro E we ⟨rfl, hmk, hbe⟩
    have hse := hbe.size
    have HMK := Lib.hid hmk
    have HVSe := Lib.hid (HVSd.out.keep fun g hg => hbe.block g (by have := hvso.out g hg; omega))
    have hBe := (hbe.block W.heap.size (by omega)).trans HBd.out
    have p0 : we.cell? ⟨W.heap.size, 0, none⟩ = some (.slice At ts.length ct) := (cell_of_block hBe 0).trans rfl
    have p1 : we.cell? ⟨W.heap.size, 1, none⟩ = some (.slice As s.len cs) := (cell_of_block hBe 1).trans rfl
    have hbbe : Below W.heap.size W we := hbbd.trans (hbe.mono (by omega))
    clear hmk hbe hBe
    go_wp2_with fail
    refine (heldIntS_val _ rl.length 1 we HMK.out (by omega) (by omega) (by omega)).mono ?_
    rintro E w' ⟨rfl, rfl⟩
    have hq0 : ¬ (1 : Int) + rl.length < 0 := by omega
    go_wp2_with fail
    refine (toProgram_any ts s At As ct cs we (by omega) (by omega) (hT.below hbbe (by omega)) (hR.below hbbe (by omega))).mono ?_
    rintro E wf ⟨j1, j2, rfl, hIf, hSf, hbf⟩
    have hsf := hbf.size
    have hbbf : Below W.heap.size W wf := hbbe.trans (hbf.mono (by omega))
    have HIf := Lib.hid hIf
    have HSf := Lib.hid hSf
    clear hIf hSf
    go_wp2_with fail
    refine (toIntS_any xs A c wf hxs (hX.below hbbf (by omega))).mono ?_
    rintro E wg ⟨rfl, hXg, hbg⟩
    have hsg := hbg.size
    have hbbg : Below W.heap.size W wg := hbbf.trans (hbg.mono (by omega))
    have HXg := Lib.hid (hXg.keep (Nat.zero_le _) (Nat.le_refl _) fun _ _ _ => rfl)
    have hS9 := implWayChoices_any ts s _ _ _ _ xs _ _ wg (by omega) (HIf.out.below hbg hsg) (HSf.out.below hbg hsg) HXg.out
    rw [HRR.out] at hS9
    have hbeg := hbf.trans (hbg.mono hsf)
    clear hXg hbf hbg
    go_wp2_with fail
    refine hS9.mono ?_
    rintro E wh ⟨vh, rfl, hvh, hbh⟩
    have hsh := hbh.size
    obtain ⟨Ah, ch, hvhs, hIh⟩ := hvh.ints
    subst hvhs
    have hbeh := hbeg.trans (hbh.mono (by omega))
    have HIh := Lib.hid hIh
    have HVSh := Lib.hid (HVSe.out.below hbeh)
    have hbbh : Below W.heap.size W wh := hbbg.trans (hbh.mono (by omega))
    clear hvh hIh hS9 hbh hbeg
    go_wp2_with fail
    refine (eqIntS_any rl _ _ _ _ wh HIh.out HVSh.out.intsV).mono ?_
    rintro E wi ⟨rfl, hbi⟩
    have HMKi := Lib.hid (HMK.out.below (hbeh.trans (hbi.mono (by omega))))
    have hbbi : Below W.heap.size W wi := hbbh.trans (hbi.mono (by omega))
    clear hbi hbeh
    go_wp2_with fail
    refine (heldIntS_val _ rl.length 1 wi HMKi.out (by omega) (by omega) (by omega)).mono ?_
    rintro E w' ⟨rfl, rfl⟩
    go_wp2_with fail
    go_ret
    exact ⟨rfl, hbbi⟩
  · have hsub : Hid (subI 1048576 (ts.length + s.size) = -1) := if_neg (by omega)
    go_enter Try.func4, Try.ntmps4
    go_wp2_with fail
    refine (szProgram_any ts.length ct At s As cs 1048576 _ hTl hTm hR0 (by omega) (by omega)).mono ?_
    rintro E w1 ⟨he, hb1⟩
    rw [hsub.out] at he
    subst he
    rw [HZ.out] at hb1
    go_wp2_with fail
    go_ret
    exact ⟨rfl, hb0.trans (hb1.mono (by omega))⟩

theorem own : ownKnob Try.prog.godebug = none := by kernel_rfl
theorem laidOut : laidOutB Try.prog = true := by kernel_rfl

set_option maxRecDepth 100000 in
theorem lifted (os : Os) (started : os.Started) (H : Type) (enc : TypeId × Value → H) :
    ReturnsInHanded {} Try.checked os 4 .any (Rows.fnExactWayChoicesSpec.pre6 enc Try.prog Try.f4 Rows.fnExactWayChoicesRow.domain false) (Rows.fnExactWayChoicesSpec.post enc Try.prog Try.f4 false true false false) := by
  refine returnsInHanded_of_change (C := Try.checked) own started (by kernel_rfl) Try.func4
    (ChangeSpec.witness6 (enc := enc) (C := Try.checked) false ⟨#[], #[.agg #[.slice none 0 0, .slice none 0 0], .slice none 0 0], []⟩ 8 (by kernel_rfl) (by kernel_rfl) (by kernel_rfl) (by kernel_rfl)) ?_
  intro W base args ds gs before hval0 hW hcnd _
  have hval : ∀ (j : Nat) t v, Try.f4.params[j]? = some t → args[j]? = some v → Value.okWide Try.prog W .any base t v := hval0
  have hW' := hW
  obtain ⟨p, q, hA0, hV, rfl, hfz, hnd⟩ := hW
  have hA : DataW.TrodAll enc Try.prog W 0 (fun _ => true) true Try.f4.params.toList args.toList ds p := hA0
  rw [Try.params4] at hA hval
  obtain ⟨v0, vs0, d0, ds0, p0, q0, hargs, rfl, rfl, h0, r0⟩ := trodAll_cons hA
  obtain ⟨v1, vs1, d1, ds1, p1, q1, rfl, rfl, rfl, h1, r1⟩ := trodAll_cons r0
  obtain ⟨rfl, rfl, rfl⟩ := trodAll_nil r1
  obtain rfl : args = #[v0, v1] := by cases args; simp_all
  obtain ⟨rfl, rfl⟩ := trodVars_none hV
  have k0 := h0
  have lt0 : ∀ x ∈ p0, x.block < W.heap.size := by obtain ⟨m, hm⟩ := k0; exact DataW.trod_lt m _ _ _ hm
  obtain ⟨c0, e0, y0, z0, n0, rfl, hd0, hp0, hy0, hz0⟩ := open_agg2 Try.underlying25 (by kernel_rfl) Try.cellsProgR (hval 0 25 v0 rfl rfl) h0
  obtain ⟨ts0, At0, ct0, rfl, hT0⟩ := read_ints hy0
  obtain ⟨s0, As0, cs0, rfl, hR0⟩ := read_stmts _ _ _ hz0
  have k1 := h1
  have lt1 : ∀ x ∈ p1, x.block < W.heap.size := by obtain ⟨m, hm⟩ := k1; exact DataW.trod_lt m _ _ _ hm
  obtain ⟨a1, len1, cap1, rfl⟩ := okWide_slice Try.underlying22 (hval 1 22 v1 rfl rfl)
  obtain ⟨fu1, hf1⟩ := h1
  obtain ⟨ts1, At1, ct1, hv1, hT1⟩ := read_ints hf1
  injection hv1 with hv1 hv1' hv1''
  subst hv1 hv1' hv1''
  clear hA0 hval0
  simp only [List.append_nil] at hW'
  refine (walk ts0 s0 At0 As0 ct0 cs0 ts1 _ _ W hT0 hR0 hT1).mono fun e W' ⟨he, bel⟩ => ?_
  subst he
  exact ⟨_, rfl, _, _, _, [], _, [], hW', trodAll_mk1 (shut_bool Try.underlying4 _), (trodAll_cons_mk (Below.trod laidOut (by kernel_rfl) (of_decide_eq_true (by kernel_rfl)) k0 bel lt0) (trodAll_cons_mk (Below.trod laidOut (by kernel_rfl) (of_decide_eq_true (by kernel_rfl)) k1 bel lt1) trodAll_mk0)), rfl, bel.frame _, fun h => by cases h⟩

theorem over : Rows.fnExactWayChoicesRow.holds Try.pinned (OpenSpec.ofChange Rows.fnExactWayChoicesSpec) :=
  OpenClaim.holds_of_wide 4 Try.f4 rfl rfl rfl rfl rfl rfl rfl ⟨rfl, rfl, rfl, rfl, rfl⟩ rfl rfl rfl rfl rfl (by kernel_rfl) Try.func4 (by kernel_rfl)
    (of_decide_eq_true (by kernel_rfl)) (by unfold Func.isWrapper; first | (rw [if_pos (by decide +kernel)]; kernel_rfl) | (rw [if_neg (by decide +kernel)]; exact ⟨rfl, rfl⟩))
    (fun os started H enc _ => lifted os started H enc)

theorem proved : Rows.FnExactWayChoicesSaid :=
  over
#print axioms proved
end Go.Proofs.Ytlddoookojjleaa.fnWayChoices
