/-
  Whether a point uses what has no value, by the model.
-/
import Derived.Test.YtbffldgiccijlaaGreatDoorZFlW
namespace Go.Proofs.YtbffldgiccijlaaGreatDoor
open Go.RowKit Go.Deep
set_option linter.unusedVariables false

set_option maxRecDepth 100000 in
set_option maxHeartbeats 4000000 in
theorem l3Unset_any (ts : List Int) (At : Option Addr) (ct : Nat) (d : Nd) (u : Value) (F c : Nat) (fl : Nat → Bool) (w : World) (ht6 : ts.length ≤ 6) (hT : IntsV w 0 w.heap.size ts At ct) (hF : FlW w F ts.length fl) (hc1 : ts.length ≤ c) (hc2 : c ≤ maxLen) :
    Calls Tryz.prog 69 #[.slice At ts.length ct, .agg #[.int .i64 d.op, .int .i64 d.x, .int .i64 d.y, .int .i64 d.n, u], .slice (some ⟨F, 0, none⟩) ts.length c] w
      fun E w' => ∃ r : Bool, E = .returned (.bool r) ∧ (r = true ↔ ∃ v, v < ts.length ∧ useI ts d v ≠ 0 ∧ fl v = false) ∧ Below w.heap.size w w' := by
  have hb0 := (Below.refl w.heap.size w).alloc (Nat.le_refl _) (.cells #[.int .i64 d.op, .int .i64 d.x, .int .i64 d.y, .int .i64 d.n, u] 34)
  have hz0 : (w.alloc (.cells #[.int .i64 d.op, .int .i64 d.x, .int .i64 d.y, .int .i64 d.n, u] 34)).heap.size = w.heap.size + 1 := by simp
  have hB0 := heap_alloc_new w (.cells #[.int .i64 d.op, .int .i64 d.x, .int .i64 d.y, .int .i64 d.n, u] 34)
  have hu : ∀ W : World, Below w.heap.size w W → ∀ v : Nat, v < ts.length → Calls Tryz.prog 56 #[.slice At ts.length ct, .agg #[.int .i64 d.op, .int .i64 d.x, .int .i64 d.y, .int .i64 d.n, u], .int .i64 v] W fun E w' => E = .returned (.int .i64 (useI ts d v)) ∧ Below W.heap.size W w' := fun W hW v hv => l3Use_any ts At ct d.op d.x d.y d.n d.next u v W hv (hT.below hW hW.size)
  have HU := Lib.hid hu
  have HFA := Lib.hid hF
  unfold maxLen at hc2
  clear hu hT hF
  go_enter Tryz.func69, Tryz.ntmps69
  go_wp2_with fail
  generalize w.alloc (.cells #[.int .i64 d.op, .int .i64 d.x, .int .i64 d.y, .int .i64 d.n, u] 34) = w1 at *
  have HX := Lib.hid hB0
  have HBW := Lib.hid hb0
  have HZ := Lib.hid hz0
  clear hB0 hb0 hz0
  go_loopw [7] (fun i wr => ∃ k : Nat, i = .int .i64 k ∧ k ≤ ts.length ∧ Hid (∀ v, v < k → useI ts d v ≠ 0 → fl v = true) ∧ Hid (Below w1.heap.size w1 wr)) (fun i wr => ts.length - (intOf i).toNat)
  case atStart => exact ⟨0, rfl, Nat.zero_le _, fun v hv => absurd hv (Nat.not_lt_zero _), Below.refl _ _⟩
  case round =>
    obtain ⟨k, rfl, hk, HE, HB⟩ := hrel
    have hbs := HB.out.size
    have hz := HZ.out
    have hXr := (HB.out.block w.heap.size (by omega)).trans HX.out
    have q0 : wr.cell? ⟨w.heap.size, 0, none⟩ = some (.int .i64 d.op) := (cell_of_block hXr 0).trans rfl
    have q1 : wr.cell? ⟨w.heap.size, 1, none⟩ = some (.int .i64 d.x) := (cell_of_block hXr 1).trans rfl
    have q2 : wr.cell? ⟨w.heap.size, 2, none⟩ = some (.int .i64 d.y) := (cell_of_block hXr 2).trans rfl
    have q3 : wr.cell? ⟨w.heap.size, 3, none⟩ = some (.int .i64 d.n) := (cell_of_block hXr 3).trans rfl
    have q4 : wr.cell? ⟨w.heap.size, 4, none⟩ = some u := (cell_of_block hXr 4).trans rfl
    have hbwr : Below w.heap.size w wr := HBW.out.trans (HB.out.mono (by omega))
    clear hXr hz
    by_cases hlt : k < ts.length
    · have hu := HU.out wr hbwr k hlt
      obtain ⟨U, hU⟩ : ∃ U, useI ts d k = U := ⟨_, rfl⟩
      rw [hU] at hu
      have HUE := Lib.hid hU
      clear hU
      have hFr := HFA.out.keep (hbwr.block F HFA.out.lt)
      have cF := hFr.cell hlt
      by_cases h0 : U = 0
      · subst h0
        have HE2 : Hid (∀ v, v < k + 1 → useI ts d v ≠ 0 → fl v = true) := fun v hv h9 => by
          by_cases hvk : v = k
          · subst hvk
            exact absurd HUE.out h9
          · exact HE.out v (by omega) h9
        clear hFr HE
        go_wp2_with fail
        refine hu.mono ?_
        rintro E w3 ⟨rfl, hb3⟩
        have HB3 : Hid (Below w1.heap.size w1 w3) := HB.out.trans (hb3.mono hbs)
        clear hu hb3
        go_wp2_with fail
        refine ⟨⟨k + 1, by simp, by omega, HE2, HB3⟩, ?_⟩
        simp only [intOf]
        omega
      · have hd0 : (U != 0) = true := bne_iff_ne.mpr h0
        go_wp2_with fail
        refine hu.mono ?_
        rintro E w3 ⟨rfl, hb3⟩
        have HB3 : Hid (Below w1.heap.size w1 w3) := HB.out.trans (hb3.mono hbs)
        have cF3 : w3.cell? ⟨F, k, none⟩ = some (.bool (fl k)) := (hb3.cell hFr.lt).trans cF
        have hbw3 : Below w.heap.size w w3 := hbwr.trans (hb3.mono hbwr.size)
        clear hu hb3 hFr cF q0 q1 q2 q3 q4
        cases hfk : fl k
        · rw [hfk] at cF3
          have HFIN : Hid (∃ v, v < ts.length ∧ useI ts d v ≠ 0 ∧ fl v = false) := ⟨k, hlt, by rw [HUE.out]; exact h0, hfk⟩
          clear hfk HE
          go_wp2_with fail
          go_ret
          exact ⟨true, rfl, ⟨fun _ => HFIN.out, fun _ => rfl⟩, hbw3⟩
        · rw [hfk] at cF3
          have HE2 : Hid (∀ v, v < k + 1 → useI ts d v ≠ 0 → fl v = true) := fun v hv h9 => by
            by_cases hvk : v = k
            · subst hvk
              exact hfk
            · exact HE.out v (by omega) h9
          clear hfk HE
          go_wp2_with fail
          refine ⟨⟨k + 1, by simp, by omega, HE2, HB3⟩, ?_⟩
          simp only [intOf]
          omega
    · have hke : k = ts.length := by omega
      subst hke
      have HFIN : Hid (¬ ∃ v, v < ts.length ∧ useI ts d v ≠ 0 ∧ fl v = false) := fun ⟨v, h1, h2, h3⟩ => by
        rw [HE.out v h1 h2] at h3
        cases h3
      clear HE
      go_wp2_with fail
      go_ret
      exact ⟨false, rfl, ⟨fun h => (by cases h), fun h => absurd h HFIN.out⟩, hbwr⟩

end Go.Proofs.YtbffldgiccijlaaGreatDoor
