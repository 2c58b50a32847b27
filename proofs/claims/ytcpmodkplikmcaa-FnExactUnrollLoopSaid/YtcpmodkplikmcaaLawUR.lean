/-
  At every program and number, UnrollLoop of the program answers as its model does, writes into nothing, and its answer is its own. Conditions: none.
-/
import Derived.Test.YtcpmodkplikmcaaSize
import Derived.Test.YtcpmodkplikmcaaCopy
import Derived.Test.YtcpmodkplikmcaaEqual
import Derived.Test.YtcpmodkplikmcaaMarkP
import Derived.Test.YtcpmodkplikmcaaMarkPr
import Derived.Test.YtcpmodkplikmcaaRead
import Derived.Test.YtcpmodkplikmcaaUnrS
import Derived.Deep.RegionHeld3
namespace Go.Proofs.Ytcpmodkplikmcaa.fnUnrollLoop
open Go.ChangeShapes Go.WideShapes Go.ChangeAt Go.RowKit Go.Deep Go.Joins
set_option linter.unusedVariables false

/-- What holds all along the third test: what was there stays, and so the cells that the test loads. -/
theorem held_P {C B K : Nat} {w1 wo w' : World} {b0 b1 c0 c1 : Value} (hb : Below wo.heap.size wo w') (h : Below K w1 wo) (hK : K = w1.heap.size) (hC : C < w1.heap.size) (hB : B < w1.heap.size)
    (q0 : w1.cell? ⟨B, 0, none⟩ = some b0) (q1 : w1.cell? ⟨B, 1, none⟩ = some b1) (q2 : w1.cell? ⟨C, 0, none⟩ = some c0) (q3 : w1.cell? ⟨C, 1, none⟩ = some c1) :
    Below K w1 w' ∧ w'.cell? ⟨B, 0, none⟩ = some b0 ∧ w'.cell? ⟨B, 1, none⟩ = some b1 ∧ w'.cell? ⟨C, 0, none⟩ = some c0 ∧ w'.cell? ⟨C, 1, none⟩ = some c1 := by
  subst hK
  have hbb : Below w1.heap.size w1 w' := h.trans (hb.mono h.size)
  exact ⟨hbb, (hbb.cell hB).trans q0, (hbb.cell hB).trans q1, (hbb.cell hC).trans q2, (hbb.cell hC).trans q3⟩

set_option maxRecDepth 100000 in
set_option maxHeartbeats 8000000 in
theorem walk (ts : List Int) (s : Sts) (At As : Option Addr) (ct cs : Nat) (k : Int) (W : World) (hT : IntsV W 0 W.heap.size ts At ct) (hR : RepV W 0 W.heap.size s As cs) :
    Calls Try.prog 5 #[.agg #[.slice At ts.length ct, .slice As s.len cs], .int .i64 k] W fun e w' => e = .returned (.bool true) ∧ Below W.heap.size W w' := by
  have hTl := hT.1
  have hTm := hT.2.1
  have hb0 := (Below.refl W.heap.size W).alloc (Nat.le_refl _) (.cells #[.slice At ts.length ct, .slice As s.len cs] 25)
  have hz0 : (W.alloc (.cells #[.slice At ts.length ct, .slice As s.len cs] 25)).heap.size = W.heap.size + 1 := by simp
  have hT0 : IntsV (W.alloc (.cells #[.slice At ts.length ct, .slice As s.len cs] 25)) 0 (W.alloc (.cells #[.slice At ts.length ct, .slice As s.len cs] 25)).heap.size ts At ct := hT.below hb0 (by simp)
  have hR0 : RepV (W.alloc (.cells #[.slice At ts.length ct, .slice As s.len cs] 25)) 0 (W.alloc (.cells #[.slice At ts.length ct, .slice As s.len cs] 25)).heap.size s As cs := hR.below hb0 (by simp)
  have hB := heap_alloc_new W (.cells #[.slice At ts.length ct, .slice As s.len cs] 25)
  have HB := Lib.hid hB
  have HZ := Lib.hid hz0
  clear hB hz0
  by_cases hsz : ts.length + s.size ≤ 1048576
  · have hsub : Hid (subI 1048576 (ts.length + s.size) = 1048576 - (ts.length + s.size : Nat)) := if_pos (by omega)
    obtain ⟨okb, hokb⟩ : ∃ b, unrOk ts s k = b := ⟨_, rfl⟩
    obtain ⟨T2, hT2⟩ : ∃ t, (if okb then ts else []) = t := ⟨_, rfl⟩
    obtain ⟨S2, hS2⟩ : ∃ t, (if okb then unrR s k.toNat else .nil) = t := ⟨_, rfl⟩
    have hT2l : T2.length ≤ 2000000 := by
      rw [← hT2]
      cases okb
      · simp
      · show ts.length ≤ 2000000; omega
    have hS2l : S2.size ≤ 2000000 := by
      rw [← hS2]
      cases okb
      · simp [Sts.size]
      · have := unrOk_size hokb; show (unrR s k.toNat).size ≤ 2000000; omega
    have HSPEC : Hid (∀ (A1 A2 : Option Addr) (c1 c2 : Nat) (X : World), IntsV X 0 X.heap.size ts A1 c1 → RepV X 0 X.heap.size s A2 c2 → Calls Try.prog 20 #[.agg #[.slice A1 ts.length c1, .slice A2 s.len c2], .int .i64 k] X fun E w' => ∃ (A A' : Option Addr) (c c' : Nat), E = .returned (.tuple #[.agg #[.slice A T2.length c, .slice A' S2.len c'], .bool okb]) ∧ IntsV w' X.heap.size w'.heap.size T2 A c ∧ RepV w' X.heap.size w'.heap.size S2 A' c' ∧ Below X.heap.size X w') := fun A1 A2 c1 c2 X h1 h2 => by
      refine (specUnrollLoop_any ts s A1 A2 c1 c2 k X (by omega) h1 h2).mono ?_
      rintro E w' ⟨v, rfl, hv, hb⟩
      rw [hokb] at hv ⊢
      unfold AnsS at hv
      rw [← hT2, ← hS2]
      cases okb
      · rw [if_neg (by simp)] at hv
        subst hv
        exact ⟨none, none, 0, 0, rfl, ⟨Nat.le_refl _, by simp [maxLen], fun h => absurd h (by simp)⟩, ⟨Nat.le_refl _, by simp [maxLen], fun h => absurd h (by simp [Sts.len])⟩, hb⟩
      · rw [if_pos rfl] at hv
        obtain ⟨A, A', c, c', rfl, q1, q2⟩ := hv
        exact ⟨A, A', c, c', rfl, q1, q2, hb⟩
    have HIMPL : Hid (∀ (A1 A2 : Option Addr) (c1 c2 : Nat) (X : World), IntsV X 0 X.heap.size ts A1 c1 → RepV X 0 X.heap.size s A2 c2 → Calls Try.prog 21 #[.agg #[.slice A1 ts.length c1, .slice A2 s.len c2], .int .i64 k] X fun E w' => ∃ (A A' : Option Addr) (c c' : Nat), E = .returned (.tuple #[.agg #[.slice A T2.length c, .slice A' S2.len c'], .bool okb]) ∧ ProgA w' X.heap.size T2 S2 (.agg #[.slice A T2.length c, .slice A' S2.len c']) ∧ Below X.heap.size X w') := fun A1 A2 c1 c2 X h1 h2 => by
      refine (implUnrollLoop_any ts s A1 A2 c1 c2 k X h1 h2).mono ?_
      rintro E w' ⟨v, rfl, hv, hb⟩
      rw [hokb] at hv ⊢
      unfold AnsP at hv
      rw [← hT2, ← hS2]
      cases okb
      · rw [if_neg (by simp)] at hv
        subst hv
        exact ⟨none, none, 0, 0, rfl, ⟨none, none, 0, 0, X.heap.size, X.heap.size, rfl, World.ownsRow_nil _ _ _ _, SubI.nil _ _ _ _ (by simp [maxLen]), Nat.le_refl _, hb.size, fun k hk => by cases hk⟩, hb⟩
      · rw [if_pos rfl] at hv
        have hv2 := hv
        obtain ⟨A, A', c, c', lo, hi, rfl, _⟩ := hv
        exact ⟨A, A', c, c', rfl, hv2, hb⟩
    clear hT2 hS2 hokb
    go_enter Try.func5, Try.ntmps5
    go_wp2_with fail
    refine (szProgram_any ts.length ct At s As cs 1048576 _ hTl hTm hR0 (by omega) (by omega)).mono ?_
    rintro E w1 ⟨he, hb1⟩
    rw [hsub.out] at he
    subst he
    rw [HZ.out] at hb1
    have hs1 := hb1.size
    rw [HZ.out] at hs1
    have hB1 := (hb1.block W.heap.size (by omega)).trans HB.out
    have p0 : w1.cell? ⟨W.heap.size, 0, none⟩ = some (.slice At ts.length ct) := (cell_of_block hB1 0).trans rfl
    have p1 : w1.cell? ⟨W.heap.size, 1, none⟩ = some (.slice As s.len cs) := (cell_of_block hB1 1).trans rfl
    have hbb1 : Below W.heap.size W w1 := hb0.trans (hb1.mono (by omega))
    have HB1 := Lib.hid hB1
    clear hB1 hb1 hT0 hR0
    go_wp2_with fail
    refine (toProgram_any ts s At As ct cs w1 (by omega) (by omega) (hT.below hbb1 hbb1.size) (hR.below hbb1 hbb1.size)).mono ?_
    rintro E w2 ⟨g1, g2, rfl, hI2, hS2, hb2⟩
    have hs2 := hb2.size
    have HB2 := Lib.hid ((hb2.block W.heap.size (by omega)).trans HB1.out)
    have hbb2 : Below W.heap.size W w2 := hbb1.trans (hb2.mono (by omega))
    have HI2 := Lib.hid (hI2.keep (Nat.zero_le _) (Nat.le_refl _) fun _ _ _ => rfl)
    have HS2 := Lib.hid (hS2.keep (Nat.zero_le _) (Nat.le_refl _) fun _ _ _ => rfl)
    clear hb2 p0 p1 hI2 hS2
    go_wp2_with fail
    refine (HSPEC.out _ _ _ _ w2 HI2.out HS2.out).mono ?_
    rintro E w3 ⟨As2, Bs2, ca2, cb2, rfl, hI3, hS3, hb3⟩
    have hs3 := hb3.size
    have HI3 := Lib.hid hI3
    have HS3 := Lib.hid hS3
    have HB3 := Lib.hid ((hb3.block W.heap.size (by omega)).trans HB2.out)
    have hbb3 : Below W.heap.size W w3 := hbb2.trans (hb3.mono (by omega))
    clear hb3 hI3 hS3 HI2 HS2
    have hba := (Below.refl w3.heap.size w3).alloc (Nat.le_refl _) (.cells #[.slice As2 T2.length ca2, .slice Bs2 S2.len cb2] 29)
    have hza : (w3.alloc (.cells #[.slice As2 T2.length ca2, .slice Bs2 S2.len cb2] 29)).heap.size = w3.heap.size + 1 := by simp
    have hVb := heap_alloc_new w3 (.cells #[.slice As2 T2.length ca2, .slice Bs2 S2.len cb2] 29)
    obtain ⟨w3b, hw3b⟩ : ∃ z, w3.alloc (.cells #[.slice As2 T2.length ca2, .slice Bs2 S2.len cb2] 29) = z := ⟨_, rfl⟩
    rw [hw3b] at hba hza hVb
    have HO3 := Lib.hid hVb
    have HBA3 := Lib.hid hba
    have hB3b := (hba.block W.heap.size (by omega)).trans HB3.out
    have HB3b := Lib.hid hB3b
    have hbb3b : Below W.heap.size W w3b := hbb3.trans (hba.mono (by omega))
    have p0 : w3b.cell? ⟨W.heap.size, 0, none⟩ = some (.slice At ts.length ct) := (cell_of_block hB3b 0).trans rfl
    have p1 : w3b.cell? ⟨W.heap.size, 1, none⟩ = some (.slice As s.len cs) := (cell_of_block hB3b 1).trans rfl
    clear hba hVb hB3b
    go_wp2_with fail
    clear hw3b
    refine (toProgram_s ts s At As ct cs w3b (by omega) (by omega) (hT.below hbb3b hbb3b.size) (hR.below hbb3b hbb3b.size)).mono ?_
    rintro E w4 ⟨⟨k1, k2, rfl, hI4, hS4, hb4⟩, hsf4⟩
    have hs4 := hb4.size
    have HI4 := Lib.hid hI4
    have HS4 := Lib.hid hS4
    have HF4 := Lib.hid hsf4
    have HB4 := Lib.hid ((hb4.block W.heap.size (by omega)).trans HB3b.out)
    have HO4 := Lib.hid ((hb4.block w3.heap.size (by omega)).trans HO3.out)
    have hbb4 : Below W.heap.size W w4 := hbb3b.trans (hb4.mono (by omega))
    have HV4 := Lib.hid (HBA3.out.trans (hb4.mono (by omega)))
    clear hI4 hS4 hsf4 hb4 p0 p1
    have hba := (Below.refl w4.heap.size w4).alloc (Nat.le_refl _) (.cells #[.slice (some ⟨k1, 0, none⟩) ts.length ts.length, .slice (some ⟨k2, 0, none⟩) s.len s.len] 29)
    have hza4 : (w4.alloc (.cells #[.slice (some ⟨k1, 0, none⟩) ts.length ts.length, .slice (some ⟨k2, 0, none⟩) s.len s.len] 29)).heap.size = w4.heap.size + 1 := by simp
    have hXa := heap_alloc_new w4 (.cells #[.slice (some ⟨k1, 0, none⟩) ts.length ts.length, .slice (some ⟨k2, 0, none⟩) s.len s.len] 29)
    obtain ⟨w5, hw5⟩ : ∃ z, w4.alloc (.cells #[.slice (some ⟨k1, 0, none⟩) ts.length ts.length, .slice (some ⟨k2, 0, none⟩) s.len s.len] 29) = z := ⟨_, rfl⟩
    rw [hw5] at hba hza4 hXa
    have x0 : w5.cell? ⟨w4.heap.size, 0, none⟩ = some (.slice (some ⟨k1, 0, none⟩) ts.length ts.length) := (cell_of_block hXa 0).trans rfl
    have x1 : w5.cell? ⟨w4.heap.size, 1, none⟩ = some (.slice (some ⟨k2, 0, none⟩) s.len s.len) := (cell_of_block hXa 1).trans rfl
    have HX5 := Lib.hid hXa
    have HBA5 := Lib.hid hba
    have HB5 := Lib.hid ((hba.block W.heap.size (by omega)).trans HB4.out)
    have HO5 := Lib.hid ((hba.block w3.heap.size (by omega)).trans HO4.out)
    have hbb5 : Below W.heap.size W w5 := hbb4.trans (hba.mono (by omega))
    have hI5 := HI4.out.below hba hba.size
    have hS5 := HS4.out.below hba hba.size
    clear hba hXa
    go_wp2_with fail
    clear hw5
    refine (HIMPL.out _ _ _ _ w5 hI5 hS5).mono ?_
    rintro E w6 ⟨Ag, Bg, cag, cbg, rfl, hA6, hb6⟩
    have hs6 := hb6.size
    have HU6 := Lib.hid hA6.up
    have HB6 := Lib.hid ((hb6.block W.heap.size (by omega)).trans HB5.out)
    have HO6 := Lib.hid ((hb6.block w3.heap.size (by omega)).trans HO5.out)
    have HX6 := Lib.hid ((hb6.block w4.heap.size (by omega)).trans HX5.out)
    have hb46 := HBA5.out.trans (hb6.mono (by omega))
    have HB46 := Lib.hid hb46
    have HV6 := Lib.hid (HV4.out.trans (hb46.mono (by omega)))
    have hbb6 : Below W.heap.size W w6 := hbb5.trans (hb6.mono (by omega))
    clear hA6 hb6 hb46 x0 x1 hI5 hS5
    have hba := (Below.refl w6.heap.size w6).alloc (Nat.le_refl _) (.cells #[.slice Ag T2.length cag, .slice Bg S2.len cbg] 29)
    have hza6 : (w6.alloc (.cells #[.slice Ag T2.length cag, .slice Bg S2.len cbg] 29)).heap.size = w6.heap.size + 1 := by simp
    have hGa := heap_alloc_new w6 (.cells #[.slice Ag T2.length cag, .slice Bg S2.len cbg] 29)
    obtain ⟨w7, hw7⟩ : ∃ z, w6.alloc (.cells #[.slice Ag T2.length cag, .slice Bg S2.len cbg] 29) = z := ⟨_, rfl⟩
    rw [hw7] at hba hza6 hGa
    have g0 : w7.cell? ⟨w6.heap.size, 0, none⟩ = some (.slice Ag T2.length cag) := (cell_of_block hGa 0).trans rfl
    have g1 : w7.cell? ⟨w6.heap.size, 1, none⟩ = some (.slice Bg S2.len cbg) := (cell_of_block hGa 1).trans rfl
    have HG7 := Lib.hid hGa
    have HU7 := Lib.hid (HU6.out.keep fun q _ q2 => hba.block q q2)
    have HB7 := Lib.hid ((hba.block W.heap.size (by omega)).trans HB6.out)
    have hO7 := (hba.block w3.heap.size (by omega)).trans HO6.out
    have HO7 := Lib.hid hO7
    have v0 : w7.cell? ⟨w3.heap.size, 0, none⟩ = some (.slice As2 T2.length ca2) := (cell_of_block hO7 0).trans rfl
    have v1 : w7.cell? ⟨w3.heap.size, 1, none⟩ = some (.slice Bs2 S2.len cb2) := (cell_of_block hO7 1).trans rfl
    have HX7 := Lib.hid ((hba.block w4.heap.size (by omega)).trans HX6.out)
    have HB47 := Lib.hid (HB46.out.trans (hba.mono (by omega)))
    have HV7 := Lib.hid (HV6.out.trans (hba.mono (by omega)))
    have hbb7 : Below W.heap.size W w7 := hbb6.trans (hba.mono (by omega))
    obtain ⟨Ag2, Bg2, cag2, cbg2, hge, hIg, hSg⟩ := HU7.out.reads (by omega)
    have HGE := Lib.hid hge
    simp only [Value.agg.injEq, Array.mk.injEq, List.cons.injEq, Value.slice.injEq, and_true, true_and] at hge
    obtain ⟨⟨rfl, rfl⟩, rfl, rfl⟩ := hge
    have hIv : IntsV w7 0 w7.heap.size T2 As2 ca2 := HI3.out.keep (Nat.zero_le _) (by omega) fun p _ h2 => HV7.out.cell h2
    have hSv : RepV w7 0 w7.heap.size S2 Bs2 cb2 := HS3.out.keep (Nat.zero_le _) (by omega) fun p _ h2 => HV7.out.cell h2
    have heq := eqProgram_any T2 S2 _ _ _ _ _ _ _ _ w7 hIg hIv hSg hSv
    have hok : (okb != okb) = false := by simp
    clear hba hGa hO7 hIg hSg hIv hSv HGE
    go_wp2_with fail
    clear hw7
    refine heq.mono ?_
    rintro E w8 ⟨rfl, hb8⟩
    have hs8 := hb8.size
    have hB8 := (hb8.block W.heap.size (by omega)).trans HB7.out
    have hX8 := (hb8.block w4.heap.size (by omega)).trans HX7.out
    have HB8 := Lib.hid hB8
    have HX8 := Lib.hid hX8
    have HO8 := Lib.hid ((hb8.block w3.heap.size (by omega)).trans HO7.out)
    have HG8 := Lib.hid ((hb8.block w6.heap.size (by omega)).trans HG7.out)
    have HU8 := Lib.hid (HU7.out.keep fun q _ q2 => hb8.block q (by omega))
    have hb48 := HB47.out.trans (hb8.mono (by omega))
    have HV8 := Lib.hid (HV7.out.trans (hb8.mono (by omega)))
    have hbb8 : Below W.heap.size W w8 := hbb7.trans (hb8.mono (by omega))
    have hI8 : IntsV w8 0 w8.heap.size ts (some ⟨k1, 0, none⟩) ts.length := HI4.out.below hb48 hb48.size
    have hS8 : RepV w8 0 w8.heap.size s (some ⟨k2, 0, none⟩) s.len := HS4.out.below hb48 hb48.size
    have HB48 := Lib.hid hb48
    have p0 : w8.cell? ⟨W.heap.size, 0, none⟩ = some (.slice At ts.length ct) := (cell_of_block hB8 0).trans rfl
    have p1 : w8.cell? ⟨W.heap.size, 1, none⟩ = some (.slice As s.len cs) := (cell_of_block hB8 1).trans rfl
    have x0 : w8.cell? ⟨w4.heap.size, 0, none⟩ = some (.slice (some ⟨k1, 0, none⟩) ts.length ts.length) := (cell_of_block hX8 0).trans rfl
    have x1 : w8.cell? ⟨w4.heap.size, 1, none⟩ = some (.slice (some ⟨k2, 0, none⟩) s.len s.len) := (cell_of_block hX8 1).trans rfl
    clear heq hB8 hX8 g0 g1 v0 v1 hb8 hb48
    go_wp2_with fail
    go_region_held3 (fun w' => Below w8.heap.size w8 w' ∧ w'.cell? ⟨W.heap.size, 0, none⟩ = some (.slice At ts.length ct) ∧ w'.cell? ⟨W.heap.size, 1, none⟩ = some (.slice As s.len cs) ∧ w'.cell? ⟨w4.heap.size, 0, none⟩ = some (.slice (some ⟨k1, 0, none⟩) ts.length ts.length) ∧ w'.cell? ⟨w4.heap.size, 1, none⟩ = some (.slice (some ⟨k2, 0, none⟩) s.len s.len))
      (first | exact ⟨(Below.refl w8.heap.size w8).drew, p0, p1, x0, x1⟩ | exact held_P hbn (And.left ‹Below w8.heap.size w8 _ ∧ _›) rfl (by omega) (by omega) p0 p1 x0 x1)
      (first
        | (go_at_call 13; refine (toProgram_any ts s At As ct cs _ (by omega) (by omega) ?_ ?_).mono ?_; (have hbx := And.left ‹Below w8.heap.size w8 _ ∧ _›; exact hT.below (hbb8.trans (hbx.mono (by omega))) (by have := hbx.size; omega)); (have hbx := And.left ‹Below w8.heap.size w8 _ ∧ _›; exact hR.below (hbb8.trans (hbx.mono (by omega))) (by have := hbx.size; omega)); rintro E w' ⟨j1, j2, rfl, hI9, hS9, hbn⟩)
        | (go_at_call 15; refine (eqProgram_any ts s _ _ _ _ _ _ _ _ _ ?_ (hI9.keep (Nat.zero_le _) (Nat.le_refl _) fun _ _ _ => rfl) ?_ (hS9.keep (Nat.zero_le _) (Nat.le_refl _) fun _ _ _ => rfl)).mono ?_; (have hbx := And.left ‹Below w8.heap.size w8 _ ∧ _›; exact hI8.below hbx hbx.size); (have hbx := And.left ‹Below w8.heap.size w8 _ ∧ _›; exact hS8.below hbx hbx.size); rintro E w' ⟨rfl, hbn⟩))
    obtain ⟨hbl, -, -, y0, y1⟩ := ‹Below w8.heap.size w8 _ ∧ _›
    obtain ⟨wa, hwa⟩ : ∃ z, w' = z := ⟨_, rfl⟩
    rw [hwa] at hbl y0 y1 ⊢
    have hsl := hbl.size
    have HBa := Lib.hid ((hbl.block W.heap.size (by omega)).trans HB8.out)
    have HOa := Lib.hid ((hbl.block w3.heap.size (by omega)).trans HO8.out)
    have HGa := Lib.hid ((hbl.block w6.heap.size (by omega)).trans HG8.out)
    have HUa := Lib.hid (HU8.out.keep fun q _ q2 => hbl.block q (by omega))
    have hb4a := HB48.out.trans (hbl.mono (by omega))
    have HVa := Lib.hid (HV8.out.trans (hbl.mono (by omega)))
    have hbba : Below W.heap.size W wa := hbb8.trans (hbl.mono (by omega))
    have HIa := Lib.hid (HI4.out.below' hb4a (Nat.le_refl _))
    have HSa := Lib.hid (HS4.out.below' hb4a (Nat.le_refl _))
    have HFa : Hid (SoftIn w3b.heap.size w4.heap.size wa) := fun p h1 h2 => (World.frozen?_of_block (hb4a.block p.block h2)).trans (HF4.out _ _ h1)
    have hsza := hb4a.size
    clear hI9 hS9 hbn hbl hI8 hS8 p0 p1 x0 x1 hwa hb4a
    go_wp2_with fail
    refine (markProgram_any ts s k1 k2 w3b.heap.size w4.heap.size 1 wa (by omega) (by omega) (by omega) (by omega) hsza hs4 HIa.out HSa.out HFa.out).mono ?_
    rintro E wb ⟨rfl, hspb⟩
    have hsb := hspb.size
    have hGb := (hspb.block w6.heap.size (by omega) (.inr (by omega))).trans HGa.out
    have hOb := (hspb.block w3.heap.size (by omega) (.inl (by omega))).trans HOa.out
    have HGb := Lib.hid hGb
    have HOb := Lib.hid hOb
    have HBb := Lib.hid ((hspb.block W.heap.size (by omega) (.inl (by omega))).trans HBa.out)
    have HUb := Lib.hid (HUa.out.keep fun q q1 q2 => hspb.block q (by omega) (.inr (by omega)))
    have HVb : Hid (∀ q, q < w3.heap.size → wb.heap[q]? = w3.heap[q]?) := fun q hq => (hspb.block q (by omega) (.inl (by omega))).trans (HVa.out.block q hq)
    have hbbb : Below W.heap.size W wb := hbba.trans (hspb.below (by omega) (by omega))
    have hkd : decide ((1 : Int) + ts.length + 4 * s.size < 0) = false := decide_eq_false (by omega)
    have g0 : wb.cell? ⟨w6.heap.size, 0, none⟩ = some (.slice Ag T2.length cag) := (cell_of_block hGb 0).trans rfl
    have g1 : wb.cell? ⟨w6.heap.size, 1, none⟩ = some (.slice Bg S2.len cbg) := (cell_of_block hGb 1).trans rfl
    have v0 : wb.cell? ⟨w3.heap.size, 0, none⟩ = some (.slice As2 T2.length ca2) := (cell_of_block hOb 0).trans rfl
    have v1 : wb.cell? ⟨w3.heap.size, 1, none⟩ = some (.slice Bs2 S2.len cb2) := (cell_of_block hOb 1).trans rfl
    obtain ⟨Ag2, Bg2, cag2, cbg2, hge, hIg, hSg⟩ := HUb.out.reads (by omega)
    simp only [Value.agg.injEq, Array.mk.injEq, List.cons.injEq, Value.slice.injEq, and_true, true_and] at hge
    obtain ⟨⟨rfl, rfl⟩, rfl, rfl⟩ := hge
    have hIv : IntsV wb 0 wb.heap.size T2 As2 ca2 := HI3.out.keep (Nat.zero_le _) (by omega) fun p _ h2 => World.cell?_of_block (w := w3) (HVb.out p.block h2)
    have hSv : RepV wb 0 wb.heap.size S2 Bs2 cb2 := HS3.out.keep (Nat.zero_le _) (by omega) fun p _ h2 => World.cell?_of_block (w := w3) (HVb.out p.block h2)
    have heq := eqProgram_any T2 S2 _ _ _ _ _ _ _ _ wb hIg hIv hSg hSv
    clear hspb hGb hOb hIg hSg hIv hSv y0 y1
    go_wp2_with fail
    refine heq.mono ?_
    rintro E wd ⟨rfl, hbd⟩
    have hsd := hbd.size
    have hGd := (hbd.block w6.heap.size (by omega)).trans HGb.out
    have HGd := Lib.hid hGd
    have HOd := Lib.hid ((hbd.block w3.heap.size (by omega)).trans HOb.out)
    have HBd := Lib.hid ((hbd.block W.heap.size (by omega)).trans HBb.out)
    have HUd := Lib.hid (HUb.out.keep fun q _ q2 => hbd.block q (by omega))
    have HVd : Hid (∀ q, q < w3.heap.size → wd.heap[q]? = w3.heap[q]?) := fun q hq => (hbd.block q (by omega)).trans (HVb.out q hq)
    have hbbd : Below W.heap.size W wd := hbbb.trans (hbd.mono (by omega))
    clear hbd heq g0 g1 v0 v1
    have g0 : wd.cell? ⟨w6.heap.size, 0, none⟩ = some (.slice Ag T2.length cag) := (cell_of_block hGd 0).trans rfl
    have g1 : wd.cell? ⟨w6.heap.size, 1, none⟩ = some (.slice Bg S2.len cbg) := (cell_of_block hGd 1).trans rfl
    clear hGd
    go_wp2_with fail
    refine (markProgram_own w5.heap.size w6.heap.size T2 S2 _ 1 wd HUd.out (by omega) (by omega) (by omega) (by omega) (by omega)).mono ?_
    rintro E we ⟨rfl, hH, hspe⟩
    have hse := hspe.size
    have HHe := Lib.hid hH
    have hGe := (hspe.block w6.heap.size (by omega) (.inr (Nat.le_refl _))).trans HGd.out
    have HGe := Lib.hid hGe
    have HOe := Lib.hid ((hspe.block w3.heap.size (by omega) (.inl (by omega))).trans HOd.out)
    have HBe := Lib.hid ((hspe.block W.heap.size (by omega) (.inl (by omega))).trans HBd.out)
    have HVe : Hid (∀ q, q < w3.heap.size → we.heap[q]? = w3.heap[q]?) := fun q hq => (hspe.block q (by omega) (.inl (by omega))).trans (HVd.out q hq)
    have hbbe : Below W.heap.size W we := hbbd.trans (hspe.below (by omega) (by omega))
    clear hH hspe g0 g1
    have g0 : we.cell? ⟨w6.heap.size, 0, none⟩ = some (.slice Ag T2.length cag) := (cell_of_block hGe 0).trans rfl
    have g1 : we.cell? ⟨w6.heap.size, 1, none⟩ = some (.slice Bg S2.len cbg) := (cell_of_block hGe 1).trans rfl
    clear hGe
    go_wp2_with fail
    refine (heldProgram_own T2 S2 _ 1 we HHe.out (by omega) (by omega) (by omega) (by omega)).mono ?_
    rintro E wf ⟨rfl, hbf⟩
    have hsf := hbf.size
    have hq0 : ¬ (1 : Int) + T2.length + 4 * S2.size < 0 := by omega
    have HHf := Lib.hid (HHe.out.below hbf)
    have hBf := (hbf.block W.heap.size (by omega)).trans HBe.out
    have HGf := Lib.hid ((hbf.block w6.heap.size (by omega)).trans HGe.out)
    have HOf := Lib.hid ((hbf.block w3.heap.size (by omega)).trans HOe.out)
    have HVf : Hid (∀ q, q < w3.heap.size → wf.heap[q]? = w3.heap[q]?) := fun q hq => (hbf.block q (by omega)).trans (HVe.out q hq)
    have hbbf : Below W.heap.size W wf := hbbe.trans (hbf.mono (by omega))
    clear hbf g0 g1
    have p0 : wf.cell? ⟨W.heap.size, 0, none⟩ = some (.slice At ts.length ct) := (cell_of_block hBf 0).trans rfl
    have p1 : wf.cell? ⟨W.heap.size, 1, none⟩ = some (.slice As s.len cs) := (cell_of_block hBf 1).trans rfl
    clear hBf
    go_wp2_with fail
    refine (toProgram_any ts s At As ct cs wf (by omega) (by omega) (hT.below hbbf (by omega)) (hR.below hbbf (by omega))).mono ?_
    rintro E wg ⟨j1, j2, rfl, hIg, hSg, hbg⟩
    have hsg := hbg.size
    have HHg := Lib.hid (HHf.out.below hbg)
    have HGg := Lib.hid ((hbg.block w6.heap.size (by omega)).trans HGf.out)
    have HOg := Lib.hid ((hbg.block w3.heap.size (by omega)).trans HOf.out)
    have HVg : Hid (∀ q, q < w3.heap.size → wg.heap[q]? = w3.heap[q]?) := fun q hq => (hbg.block q (by omega)).trans (HVf.out q hq)
    have hbbg : Below W.heap.size W wg := hbbf.trans (hbg.mono (by omega))
    have himp := HIMPL.out _ _ _ _ wg (hIg.keep (Nat.zero_le _) (Nat.le_refl _) fun _ _ _ => rfl) (hSg.keep (Nat.zero_le _) (Nat.le_refl _) fun _ _ _ => rfl)
    clear hIg hSg hbg p0 p1
    go_wp2_with fail
    refine himp.mono ?_
    rintro E wh ⟨Ah, Bh, cah, cbh, rfl, hAh, hbh⟩
    have hsh := hbh.size
    have HHh := Lib.hid (HHg.out.below hbh)
    have HGh := Lib.hid ((hbh.block w6.heap.size (by omega)).trans HGg.out)
    have HOh := Lib.hid ((hbh.block w3.heap.size (by omega)).trans HOg.out)
    have HVh : Hid (∀ q, q < w3.heap.size → wh.heap[q]? = w3.heap[q]?) := fun q hq => (hbh.block q (by omega)).trans (HVg.out q hq)
    have hbbh : Below W.heap.size W wh := hbbg.trans (hbh.mono (by omega))
    have HUh := Lib.hid hAh.up
    clear himp hAh hbh
    have hba := (Below.refl wh.heap.size wh).alloc (Nat.le_refl _) (.cells #[.slice Ah T2.length cah, .slice Bh S2.len cbh] 29)
    have hzah : (wh.alloc (.cells #[.slice Ah T2.length cah, .slice Bh S2.len cbh] 29)).heap.size = wh.heap.size + 1 := by simp
    have hHa := heap_alloc_new wh (.cells #[.slice Ah T2.length cah, .slice Bh S2.len cbh] 29)
    obtain ⟨wi, hwi⟩ : ∃ z, wh.alloc (.cells #[.slice Ah T2.length cah, .slice Bh S2.len cbh] 29) = z := ⟨_, rfl⟩
    rw [hwi] at hba hzah hHa
    have h0 : wi.cell? ⟨wh.heap.size, 0, none⟩ = some (.slice Ah T2.length cah) := (cell_of_block hHa 0).trans rfl
    have h1 : wi.cell? ⟨wh.heap.size, 1, none⟩ = some (.slice Bh S2.len cbh) := (cell_of_block hHa 1).trans rfl
    have hOi := (hba.block w3.heap.size (by omega)).trans HOh.out
    have v0 : wi.cell? ⟨w3.heap.size, 0, none⟩ = some (.slice As2 T2.length ca2) := (cell_of_block hOi 0).trans rfl
    have v1 : wi.cell? ⟨w3.heap.size, 1, none⟩ = some (.slice Bs2 S2.len cb2) := (cell_of_block hOi 1).trans rfl
    have HHi := Lib.hid (HHh.out.below hba)
    have HGi := Lib.hid ((hba.block w6.heap.size (by omega)).trans HGh.out)
    have HVi : Hid (∀ q, q < w3.heap.size → wi.heap[q]? = w3.heap[q]?) := fun q hq => (hba.block q (by omega)).trans (HVh.out q hq)
    have hbbi : Below W.heap.size W wi := hbbh.trans (hba.mono (by omega))
    obtain ⟨Ah2, Bh2, cah2, cbh2, hge, hIg, hSg⟩ := (HUh.out.keep (w' := wi) fun q _ q2 => hba.block q q2).reads (by omega)
    simp only [Value.agg.injEq, Array.mk.injEq, List.cons.injEq, Value.slice.injEq, and_true, true_and] at hge
    obtain ⟨⟨rfl, rfl⟩, rfl, rfl⟩ := hge
    have hIv : IntsV wi 0 wi.heap.size T2 As2 ca2 := HI3.out.keep (Nat.zero_le _) (by omega) fun p _ h2 => World.cell?_of_block (w := w3) (HVi.out p.block h2)
    have hSv : RepV wi 0 wi.heap.size S2 Bs2 cb2 := HS3.out.keep (Nat.zero_le _) (by omega) fun p _ h2 => World.cell?_of_block (w := w3) (HVi.out p.block h2)
    have heq := eqProgram_any T2 S2 _ _ _ _ _ _ _ _ wi hIg hIv hSg hSv
    clear hba hHa hOi hIg hSg hIv hSv
    go_wp2_with fail
    clear hwi
    refine heq.mono ?_
    rintro E wj ⟨rfl, hbj⟩
    have hsj := hbj.size
    have hGj := (hbj.block w6.heap.size (by omega)).trans HGi.out
    have HHj := Lib.hid (HHi.out.below hbj)
    have hbbj : Below W.heap.size W wj := hbbi.trans (hbj.mono (by omega))
    clear heq hbj h0 h1 v0 v1
    have g0 : wj.cell? ⟨w6.heap.size, 0, none⟩ = some (.slice Ag T2.length cag) := (cell_of_block hGj 0).trans rfl
    have g1 : wj.cell? ⟨w6.heap.size, 1, none⟩ = some (.slice Bg S2.len cbg) := (cell_of_block hGj 1).trans rfl
    clear hGj
    go_wp2_with fail
    refine (heldProgram_own T2 S2 _ 1 wj HHj.out (by omega) (by omega) (by omega) (by omega)).mono ?_
    rintro E wk ⟨rfl, hbk⟩
    have HBk := Lib.hid (hbbj.trans (hbk.mono (by omega)))
    clear hbk g0 g1
    go_wp2_with fail
    go_ret
    exact ⟨rfl, HBk.out⟩
  · have hsub : Hid (subI 1048576 (ts.length + s.size) = -1) := if_neg (by omega)
    go_enter Try.func5, Try.ntmps5
    go_wp2_with fail
    refine (szProgram_any ts.length ct At s As cs 1048576 _ hTl hTm hR0 (by omega) (by omega)).mono ?_
    rintro E w1 ⟨he, hb1⟩
    rw [hsub.out] at he
    subst he
    rw [HZ.out] at hb1
    go_wp2_with fail
    go_ret
    exact ⟨rfl, hb0.trans (hb1.mono (by omega))⟩

theorem own : ownKnob Try.prog.godebug = none := by kernel_rfl
theorem laidOut : laidOutB Try.prog = true := by kernel_rfl

set_option maxRecDepth 100000 in
theorem lifted (os : Os) (started : os.Started) (H : Type) (enc : TypeId × Value → H) :
    ReturnsInHanded {} Try.checked os 5 .any (Rows.fnExactUnrollLoopSpec.pre6 enc Try.prog Try.f5 Rows.fnExactUnrollLoopRow.domain false) (Rows.fnExactUnrollLoopSpec.post enc Try.prog Try.f5 false true false false) := by
  refine returnsInHanded_of_change (C := Try.checked) own started (by kernel_rfl) Try.func5
    (ChangeSpec.witness6 (enc := enc) (C := Try.checked) false ⟨#[], #[.agg #[.slice none 0 0, .slice none 0 0], .int .i64 0], []⟩ 8 (by kernel_rfl) (by kernel_rfl) (by kernel_rfl) (by kernel_rfl)) ?_
  intro W base args ds gs before hval0 hW hcnd _
  have hval : ∀ (j : Nat) t v, Try.f5.params[j]? = some t → args[j]? = some v → Value.okWide Try.prog W .any base t v := hval0
  have hW' := hW
  obtain ⟨p, q, hA0, hV, rfl, hfz, hnd⟩ := hW
  have hA : DataW.TrodAll enc Try.prog W 0 (fun _ => true) true Try.f5.params.toList args.toList ds p := hA0
  rw [Try.params5] at hA hval
  obtain ⟨v0, vs0, d0, ds0, p0, q0, hargs, rfl, rfl, h0, r0⟩ := trodAll_cons hA
  obtain ⟨v1, vs1, d1, ds1, p1, q1, rfl, rfl, rfl, h1, r1⟩ := trodAll_cons r0
  obtain ⟨rfl, rfl, rfl⟩ := trodAll_nil r1
  obtain rfl : args = #[v0, v1] := by cases args; simp_all
  obtain ⟨rfl, rfl⟩ := trodVars_none hV
  have k0 := h0
  have lt0 : ∀ x ∈ p0, x.block < W.heap.size := by obtain ⟨m, hm⟩ := k0; exact DataW.trod_lt m _ _ _ hm
  obtain ⟨c0, e0, y0, z0, n0, rfl, hd0, hp0, hy0, hz0⟩ := open_agg2 Try.underlying25 (by kernel_rfl) Try.cellsProgR (hval 0 25 v0 rfl rfl) h0
  obtain ⟨ts0, At0, ct0, rfl, hT0⟩ := read_ints hy0
  obtain ⟨s0, As0, cs0, rfl, hR0⟩ := read_stmts _ _ _ hz0
  have k1 := h1
  have lt1 : ∀ x ∈ p1, x.block < W.heap.size := by obtain ⟨m, hm⟩ := k1; exact DataW.trod_lt m _ _ _ hm
  obtain ⟨z1, rfl, rfl, rfl, wf1⟩ := open_int Try.underlying3 (hval 1 3 v1 rfl rfl) h1
  clear hA0 hval0
  simp only [List.append_nil] at hW'
  refine (walk ts0 s0 At0 As0 ct0 cs0 z1 W hT0 hR0).mono fun e W' ⟨he, bel⟩ => ?_
  subst he
  exact ⟨_, rfl, _, _, _, [], _, [], hW', trodAll_mk1 (shut_bool Try.underlying4 _), (trodAll_cons_mk (Below.trod laidOut (by kernel_rfl) (of_decide_eq_true (by kernel_rfl)) k0 bel lt0) (trodAll_cons_mk (Below.trod laidOut (by kernel_rfl) (of_decide_eq_true (by kernel_rfl)) k1 bel lt1) trodAll_mk0)), rfl, bel.frame _, fun h => by cases h⟩

theorem over : Rows.fnExactUnrollLoopRow.holds Try.pinned (OpenSpec.ofChange Rows.fnExactUnrollLoopSpec) :=
  OpenClaim.holds_of_wide 5 Try.f5 rfl rfl rfl rfl rfl rfl rfl ⟨rfl, rfl, rfl, rfl, rfl⟩ rfl rfl rfl rfl rfl (by kernel_rfl) Try.func5 (by kernel_rfl)
    (of_decide_eq_true (by kernel_rfl)) (by unfold Func.isWrapper; first | (rw [if_pos (by decide +kernel)]; kernel_rfl) | (rw [if_neg (by decide +kernel)]; exact ⟨rfl, rfl⟩))
    (fun os started H enc _ => lifted os started H enc)

theorem proved : Rows.FnExactUnrollLoopSaid :=
  over
#print axioms proved
end Go.Proofs.Ytcpmodkplikmcaa.fnUnrollLoop
