/-
  The program's DominatorsOf.
-/
import Derived.Test.YtfkhgdbnjcdlmaaGreatDoorZUpF
import Derived.Test.YtfkhgdbnjcdlmaaGreatDoorZGrX
import Derived.Test.YtfkhgdbnjcdlmaaGreatDoorZBase
import Derived.Test.YtfkhgdbnjcdlmaaGreatDoorZL12H
namespace Go.Proofs.YtfkhgdbnjcdlmaaGreatDoor
open Go.RowKit Go.Deep
set_option linter.unusedVariables false

/-- What DominatorsOf answers. -/
def AnsDm (ok : Bool) (s : Sts) (a : Int) (l : List Int) : Prop :=
  (ok = true ∧ 0 ≤ a ∧ a < ((progPts s).length : Int) ∧ IsPathsB (fun x => DomP (nextN (progPts s)) x a.toNat) l) ∨ (¬ (ok = true ∧ 0 ≤ a ∧ a < ((progPts s).length : Int)) ∧ l = [])

theorem AnsDm.unique {ok : Bool} {s : Sts} {a : Int} {l m : List Int} (h : AnsDm ok s a l) (k : AnsDm ok s a m) : l = m := by
  rcases h with ⟨h1, h2, h3, h4⟩ | ⟨h1, h2⟩
  · rcases k with ⟨_, _, _, k4⟩ | ⟨k1, _⟩
    · exact h4.unique k4
    · exact absurd ⟨h1, h2, h3⟩ k1
  · rcases k with ⟨k1, k2, k3, _⟩ | ⟨_, k2⟩
    · exact absurd ⟨k1, k2, k3⟩ h1
    · rw [h2, k2]

theorem AnsDm.length {ok : Bool} {s : Sts} {a : Int} {l : List Int} (h : AnsDm ok s a l) : l.length ≤ 64 := by
  rcases h with ⟨_, _, _, p, rfl, _⟩ | ⟨_, rfl⟩
  · have := List.length_filter_le p (List.range 64)
    simpa using this
  · simp

theorem AnsDm.mem {ok : Bool} {s : Sts} {a : Int} {l : List Int} (h : AnsDm ok s a l) (v : Int) : v ∈ l ↔ (ok = true ∧ 0 ≤ a ∧ a < ((progPts s).length : Int) ∧ ∃ k : Nat, v = (k : Int) ∧ DomP (nextN (progPts s)) k a.toNat) := by
  rcases h with ⟨h1, h2, h3, p, rfl, hp⟩ | ⟨h1, rfl⟩
  · simp only [List.mem_map, List.mem_filter, List.mem_range]
    constructor
    · rintro ⟨k, hk, rfl⟩
      exact ⟨h1, h2, h3, k, rfl, (hp k).mp hk⟩
    · rintro ⟨_, _, _, k, rfl, hk⟩
      exact ⟨k, (hp k).mpr hk, rfl⟩
  · constructor
    · intro h; simp at h
    · rintro ⟨k1, k2, k3, _⟩
      exact absurd ⟨k1, k2, k3⟩ h1

theorem isPathsB_bits {R : Nat → Prop} {y : Nat} (h : ∀ x, (x < 64 ∧ y.testBit x = true) ↔ R x) : IsPathsB R (intsOf y) := by
  refine ⟨fun k => y.testBit k, ?_, h⟩
  unfold intsOf
  rw [bitsOf_filter]

set_option maxRecDepth 100000 in
set_option maxHeartbeats 1000000 in
theorem implDominatorsOf_any (ts : List Int) (s : Sts) (At As : Option Addr) (ct cs : Nat) (a : Int) (w : World) (hT : IntsV w 0 w.heap.size ts At ct) (hR : RepV w 0 w.heap.size s As cs) (hTab : TabAt 0 Lib.deBruijn64tab w) (hg : 0 < w.heap.size) :
    Calls Tryz.prog 17 #[.agg #[.slice At ts.length ct, .slice As s.len cs], .int .i64 a] w fun E w' => ∃ v l, E = .returned v ∧ RowI w' w.heap.size v l ∧ AnsDm (validB ts s) s a l ∧ Below w.heap.size w w' := by
  have hb0 := (Below.refl w.heap.size w).alloc (Nat.le_refl _) (.cells #[.slice At ts.length ct, .slice As s.len cs] 26)
  have hT1 : IntsV (w.alloc (.cells #[.slice At ts.length ct, .slice As s.len cs] 26)) 0 (w.alloc (.cells #[.slice At ts.length ct, .slice As s.len cs] 26)).heap.size ts At ct := hT.below hb0 (by simp)
  have hR1 : RepV (w.alloc (.cells #[.slice At ts.length ct, .slice As s.len cs] 26)) 0 (w.alloc (.cells #[.slice At ts.length ct, .slice As s.len cs] 26)).heap.size s As cs := hR.below hb0 (by simp)
  have hz0 : (w.alloc (.cells #[.slice At ts.length ct, .slice As s.len cs] 26)).heap.size = w.heap.size + 1 := by simp
  have HZ := Lib.hid hz0
  clear hz0
  have hnil : ∀ W : World, RowI W w.heap.size (.slice none 0 0) [] := fun W => World.ownsRow_nil W w.heap.size 3 1
  cases hv : validB ts s
  · have hS := graphOf_no ts s At As ct cs _ hv hT1 hR1
    have hans : Hid (AnsDm false s a []) := .inr ⟨(fun h => by cases h.1), rfl⟩
    clear hT1 hR1 hv
    go_enter Tryz.func17, Tryz.ntmps17
    go_wp2_with fail
    refine hS.mono ?_
    rintro E w1 ⟨rfl, hb1⟩
    rw [HZ.out] at hb1
    have hb : Below w.heap.size w w1 := hb0.trans (hb1.mono (by omega))
    clear hb1 hS
    go_wp2_with fail
    go_ret
    exact ⟨_, [], rfl, hnil _, hans.out, by first | exact hb | exact hb.drew⟩
  have hS := graphOf_yes ts s At As ct cs _ hv hT1 hR1
  have hD := progPts_ok s (valid_ok hv).2.1
  have hq0 := progPts_61 hv
  have hA := progPts_asc s
  have hans : Hid (∀ l, ((0 ≤ a ∧ a < ((progPts s).length : Int) ∧ IsPathsB (fun x => DomP (nextN (progPts s)) x a.toNat) l) ∨ (¬ (0 ≤ a ∧ a < ((progPts s).length : Int)) ∧ l = [])) → AnsDm true s a l) := by
    rintro l (⟨h1, h2, h3⟩ | ⟨h1, h2⟩)
    · exact .inl ⟨rfl, h1, h2, h3⟩
    · exact .inr ⟨fun h => h1 ⟨h.2.1, h.2.2⟩, h2⟩
  generalize progPts s = ds at hS hD hq0 hA hans
  generalize s.npts = q at hD
  have HD := Lib.hid hD
  have HA := Lib.hid hA
  have HT := Lib.hid hTab
  clear hD hTab hT1 hR1 hv hA
  by_cases ha : a < 0 ∨ (ds.length : Int) ≤ a
  · have hans2 : Hid (AnsDm true s a []) := hans.out [] (.inr ⟨by omega, rfl⟩)
    clear hans
    go_enter Tryz.func17, Tryz.ntmps17
    go_wp2_with fail
    refine hS.mono ?_
    rintro E w1 ⟨C, rfl, hC, hG, hb1⟩
    rw [HZ.out] at hC hb1
    have hb : Below w.heap.size w w1 := hb0.trans (hb1.mono (by omega))
    have hbz := hb.size
    have hhas := has_no C a ds w1 hG ha
    clear hG hb1 hS ha
    go_wp2_with fail
    refine hhas.mono ?_
    rintro E w2 ⟨rfl, hb2⟩
    have hbB := hb.trans (hb2.mono hbz)
    clear hhas hb2
    go_wp2_with fail
    go_ret
    exact ⟨_, [], rfl, hnil _, hans2.out, by first | exact hbB | exact hbB.drew⟩
  obtain ⟨a, rfl⟩ : ∃ n : Nat, a = (n : Int) := ⟨a.toNat, by omega⟩
  have ha : a < ds.length := by omega
  go_enter Tryz.func17, Tryz.ntmps17
  go_wp2_with fail
  refine hS.mono ?_
  rintro E w1 ⟨C, rfl, hC, hG, hb1⟩
  rw [HZ.out] at hC hb1
  have hb : Below w.heap.size w w1 := hb0.trans (hb1.mono (by omega))
  have hbz := hb.size
  have hhas := has_yes C a ds w1 hG ha
  have HG := Lib.hid hG
  clear hG hb1 hS
  go_wp2_with fail
  refine hhas.mono ?_
  rintro E w2 ⟨rfl, hb2⟩
  have hbB := hb.trans (hb2.mono hbz)
  have hzB := hbB.size
  have HG2 := Lib.hid (HG.out.kept (hb2.block C (by have := HG.out.lt; omega)))
  have hdm := dominators_any C q ds w2 HD.out hq0 HG2.out (tab_below HT.out hg hbB) (by omega)
  clear hhas hb2
  go_wp2_with fail
  refine hdm.mono ?_
  rintro E w3 ⟨K, rfl, hK, hTr, hb3⟩
  have hbC := hbB.trans (hb3.mono hzB)
  have hzC := hbC.size
  have hup := upFrom_any K ds.length a (nextN ds) w3 hq0 ha HA.out hTr
  clear hdm hTr hb3
  go_wp2_with fail
  refine hup.mono ?_
  rintro E w4 ⟨y, rfl, hyl, hyw, hb4⟩
  have hbD := hbC.trans (hb4.mono hzC)
  have hzD := hbD.size
  have hls := setList_any y hyl w4 (tab_below HT.out hg hbD) (by omega)
  have hans2 : Hid (AnsDm true s a (intsOf y)) := hans.out _ (.inl ⟨by omega, by omega, by
    refine isPathsB_bits fun x => ?_
    rw [Int.toNat_natCast]
    constructor
    · rintro ⟨h1, h2⟩
      exact (hyw x h1).mp h2
    · intro h
      have : x < 64 := by have := h.le HA.out ha; omega
      exact ⟨this, (hyw x this).mpr h⟩⟩)
  clear hup hb4 hyw
  go_wp2_with fail
  refine hls.mono ?_
  rintro E w5 ⟨v, rfl, hrow, hb5⟩
  have hbE := hbD.trans (hb5.mono hzD)
  have HROW := Lib.hid (hrow.mono hzD)
  clear hls hrow hb5
  go_wp2_with fail
  go_ret
  exact ⟨v, intsOf y, rfl, HROW.out, hans2.out, by first | exact hbE | exact hbE.drew⟩

end Go.Proofs.YtfkhgdbnjcdlmaaGreatDoor
