/-
  The program's tree of dominators.
-/
import Derived.Test.YtfkhgdbnjcdlmaaGreatDoorZRchI
import Derived.Test.YtfkhgdbnjcdlmaaGreatDoorZL12D
import Derived.Test.YtfkhgdbnjcdlmaaGreatDoorZBhG
import Derived.Deep.RegionHeld3
namespace Go.Proofs.YtfkhgdbnjcdlmaaGreatDoor
open Go.RowKit Go.Deep
set_option linter.unusedVariables false

/-- The parents of the first n points, in memory. -/
def TreeAt (w : World) (K n : Nat) (f : Nat → Nat) : Prop := ∃ cs, w.heap[K]? = some (.cells cs 99 (0, 0)) ∧ cs.size = 61 ∧ ∀ i, i < n → cs[i]? = some (.int .i64 (f i : Int))

theorem TreeAt.cell {w : World} {K n : Nat} {f : Nat → Nat} (h : TreeAt w K n f) {i : Nat} (hi : i < n) : w.cell? ⟨K, i, none⟩ = some (.int .i64 (f i : Int)) := by
  obtain ⟨cs, h1, _, h3⟩ := h
  rw [cell_of_block h1]
  exact h3 i hi

theorem TreeAt.soft {w : World} {K n : Nat} {f : Nat → Nat} (h : TreeAt w K n f) (i : Nat) : w.frozen? ⟨K, i, none⟩ = false := by
  obtain ⟨cs, h1, _, _⟩ := h
  exact frozen_of_row _ _ _ _ _ h1

theorem TreeAt.lt {w : World} {K n : Nat} {f : Nat → Nat} (h : TreeAt w K n f) : K < w.heap.size := by
  obtain ⟨cs, h1, _, _⟩ := h
  exact heap_lt h1

theorem TreeAt.keep {w w' : World} {K n : Nat} {f : Nat → Nat} (h : TreeAt w K n f) (hk : w'.heap[K]? = w.heap[K]?) : TreeAt w' K n f := by
  unfold TreeAt
  rw [hk]
  exact h

theorem TreeAt.congr {w : World} {K n : Nat} {f g : Nat → Nat} (h : TreeAt w K n f) (hg : ∀ i, i < n → g i = f i) : TreeAt w K n g := by
  obtain ⟨cs, h1, h2, h3⟩ := h
  exact ⟨cs, h1, h2, fun i hi => by rw [hg i hi]; exact h3 i hi⟩

theorem TreeAt.put {w : World} {K n : Nat} {f : Nat → Nat} (h : TreeAt w K n f) {b v : Nat} (hb : b < 61) : TreeAt (w.setCell ⟨K, b, none⟩ (.int .i64 (v : Int))) K n (setAt f b v) := by
  obtain ⟨cs, h1, h2, h3⟩ := h
  refine ⟨_, heap_setCell_same w K b cs _ _ h1, by simp [h2], fun j hj => ?_⟩
  rw [Array.getElem?_setIfInBounds]
  unfold setAt
  by_cases hij : b = j
  · subst hij
    rw [if_pos rfl, if_pos (by omega), if_pos rfl]
  · rw [if_neg hij, if_neg (fun h => hij h.symm)]
    exact h3 j hj

def noTree : Array Value := #[.int .i64 0, .int .i64 0, .int .i64 0, .int .i64 0, .int .i64 0, .int .i64 0, .int .i64 0, .int .i64 0, .int .i64 0, .int .i64 0, .int .i64 0, .int .i64 0, .int .i64 0, .int .i64 0, .int .i64 0, .int .i64 0, .int .i64 0, .int .i64 0, .int .i64 0, .int .i64 0, .int .i64 0, .int .i64 0, .int .i64 0, .int .i64 0, .int .i64 0, .int .i64 0, .int .i64 0, .int .i64 0, .int .i64 0, .int .i64 0, .int .i64 0, .int .i64 0, .int .i64 0, .int .i64 0, .int .i64 0, .int .i64 0, .int .i64 0, .int .i64 0, .int .i64 0, .int .i64 0, .int .i64 0, .int .i64 0, .int .i64 0, .int .i64 0, .int .i64 0, .int .i64 0, .int .i64 0, .int .i64 0, .int .i64 0, .int .i64 0, .int .i64 0, .int .i64 0, .int .i64 0, .int .i64 0, .int .i64 0, .int .i64 0, .int .i64 0, .int .i64 0, .int .i64 0, .int .i64 0, .int .i64 0]

theorem noTree_size : noTree.size = 61 := by kernel_rfl

theorem noTree_get (k : Nat) (h : k < 61) : noTree[k]? = some (.int .i64 0) := by
  have : noTree = Array.replicate 61 (.int .i64 0) := by kernel_rfl
  rw [this]
  simp [h]

theorem TreeAt.start (w : World) (n : Nat) (hn : n ≤ 61) : TreeAt (w.alloc (.cells noTree 99)) w.heap.size n (fun _ => 0) :=
  ⟨noTree, heap_alloc_new w _, noTree_size, fun i hi => noTree_get i (by omega)⟩

theorem domB_bit {nx : Nat → List Nat} {k j : Nat} {f : Bool} (hkj : k < j) (h : f = true ↔ WayW nx k 0 j) : domB nx j k = !f := by
  cases f
  · exact domB_iff.mpr ⟨hkj, fun hw => by have := h.mpr hw; cases this⟩
  · cases e : domB nx j k
    · rfl
    · exact absurd (h.mp rfl) (domB_iff.mp e).2

theorem lastB_small {nx : Nat → List Nat} {j k : Nat} (h : j ≤ k) : lastB (domB nx j) (k + 1) = lastB (domB nx j) k := by
  have : domB nx j k = false := by
    cases e : domB nx j k
    · rfl
    · have := (domB_iff.mp e).1
      omega
  show (if domB nx j k = true then k else lastB (domB nx j) k) = _
  rw [this]
  simp

/-- The parents, those below j for k points, the others for one less. -/
noncomputable def midT (nx : Nat → List Nat) (k j : Nat) : Nat → Nat := fun i => if i < j then lastB (domB nx i) (k + 1) else lastB (domB nx i) k

theorem midT_yes {nx : Nat → List Nat} {k j : Nat} (h : domB nx j k = true) (i : Nat) : midT nx k (j + 1) i = setAt (midT nx k j) j k i := by
  unfold midT setAt
  by_cases e : i = j
  · subst e
    rw [if_pos rfl, if_pos (by omega)]
    show (if domB nx i k = true then k else lastB (domB nx i) k) = k
    rw [if_pos h]
  · rw [if_neg e]
    show _ = if i < j then lastB (domB nx i) (k + 1) else lastB (domB nx i) k
    by_cases hl : i < j
    · rw [if_pos hl, if_pos (by omega)]
    · rw [if_neg hl, if_neg (by omega)]

theorem midT_no {nx : Nat → List Nat} {k j : Nat} (h : domB nx j k = false) (i : Nat) : midT nx k (j + 1) i = midT nx k j i := by
  unfold midT
  by_cases e : i = j
  · subst e
    rw [if_pos (by omega), if_neg (by omega)]
    show (if domB nx i k = true then k else lastB (domB nx i) k) = _
    rw [h]
    simp
  · by_cases hl : i < j
    · rw [if_pos hl, if_pos (by omega)]
    · rw [if_neg hl, if_neg (by omega)]

theorem midT_start (nx : Nat → List Nat) (k i : Nat) : midT nx k (k + 1) i = lastB (domB nx i) k := by
  unfold midT
  by_cases hl : i < k + 1
  · rw [if_pos hl, lastB_small (by omega)]
  · rw [if_neg hl]

theorem midT_end (nx : Nat → List Nat) (k n i : Nat) (hi : i < n) : lastB (domB nx i) (k + 1) = midT nx k n i := by
  unfold midT
  rw [if_pos hi]

set_option maxRecDepth 100000 in
set_option maxHeartbeats 2000000 in
theorem dominators_any (C q : Nat) (ns : List Nd) (w : World) (hD : PtsOk q ns) (hq0 : ns.length ≤ 61) (hG : Gr C w ns) (hTab : TabAt 0 Lib.deBruijn64tab w) (hg : 0 < w.heap.size) :
    Calls Tryz.prog 46 #[.pointer (some ⟨C, 0, none⟩)] w fun E w' => ∃ K, E = .returned (.pointer (some ⟨K, 0, none⟩)) ∧ w.heap.size ≤ K ∧ TreeAt w' K ns.length (parN (nextN ns) ns.length) ∧ Below w.heap.size w w' := by
  have hC := hG.lt
  have HG := Lib.hid hG
  have HD := Lib.hid hD
  have HT := Lib.hid hTab
  have hst := TreeAt.start w ns.length hq0
  have hb0 := (Below.refl w.heap.size w).alloc (Nat.le_refl _) (.cells noTree 99)
  have hcc : (w.alloc (.cells noTree 99)).cell? ⟨C, 427, none⟩ = some (.int .i64 (ns.length : Int)) := (HG.out.kept (hb0.block C hC)).count
  unfold noTree at hst hb0 hcc
  clear hG hD hTab
  go_enter Tryz.func46, Tryz.ntmps46
  go_wp2_with fail
  generalize hw0 : w.alloc (.cells #[.int .i64 0, .int .i64 0, .int .i64 0, .int .i64 0, .int .i64 0, .int .i64 0, .int .i64 0, .int .i64 0, .int .i64 0, .int .i64 0, .int .i64 0, .int .i64 0, .int .i64 0, .int .i64 0, .int .i64 0, .int .i64 0, .int .i64 0, .int .i64 0, .int .i64 0, .int .i64 0, .int .i64 0, .int .i64 0, .int .i64 0, .int .i64 0, .int .i64 0, .int .i64 0, .int .i64 0, .int .i64 0, .int .i64 0, .int .i64 0, .int .i64 0, .int .i64 0, .int .i64 0, .int .i64 0, .int .i64 0, .int .i64 0, .int .i64 0, .int .i64 0, .int .i64 0, .int .i64 0, .int .i64 0, .int .i64 0, .int .i64 0, .int .i64 0, .int .i64 0, .int .i64 0, .int .i64 0, .int .i64 0, .int .i64 0, .int .i64 0, .int .i64 0, .int .i64 0, .int .i64 0, .int .i64 0, .int .i64 0, .int .i64 0, .int .i64 0, .int .i64 0, .int .i64 0, .int .i64 0, .int .i64 0] 99) = w0 at hst hb0 hcc ⊢
  clear hw0 hcc
  have HST : Hid (TreeAt w0 w.heap.size ns.length (fun i => lastB (domB (nextN ns) i) 0)) := hst
  clear hst
  go_loopw [13] (fun i wr => ∃ k : Nat, i = .int .i64 k ∧ k ≤ ns.length ∧ Hid (TreeAt wr w.heap.size ns.length (fun i => lastB (domB (nextN ns) i) k)) ∧ Below w.heap.size w wr) (fun i _ => ns.length - (intOf i).toNat)
  case atStart => exact ⟨0, rfl, Nat.zero_le _, HST, hb0⟩
  case round =>
    clear HST hb0
    obtain ⟨k, rfl, hk, HS, hb⟩ := hrel
    have hbz := hb.size
    by_cases hlt : k < ns.length
    · have hdk : decide ((k : Int) < (ns.length : Int)) = true := decide_eq_true (by omega)
      have hrw := reachedWithout_any C q 0 k ns wr HD.out hq0 (by omega) hlt (HG.out.kept (hb.block C hC)) (tab_below HT.out hg hb) (by omega)
      go_wp2_with fail
      refine hrw.mono ?_
      rintro E w2 ⟨y, rfl, hyl, hyw, hb2⟩
      have hbA := hb.trans (hb2.mono hbz)
      have HS2 := Lib.hid (HS.out.keep (hb2.block w.heap.size HS.out.lt))
      have HY := Lib.hid hyw
      clear hrw hyw hb2
      have HST : Hid (TreeAt w2 w.heap.size ns.length (midT (nextN ns) k (k + 1))) := HS2.out.congr (fun i _ => midT_start (nextN ns) k i)
      go_wp2_with fail
      obtain ⟨wo, rfl⟩ : ∃ z, z = wr := ⟨_, rfl⟩
      go_loopw [6] (fun i wr => ∃ j : Nat, i = .int .i64 j ∧ k < j ∧ j ≤ ns.length ∧ Hid (TreeAt wr w.heap.size ns.length (midT (nextN ns) k j)) ∧ Below w.heap.size w wr) (fun i _ => ns.length - (intOf i).toNat)
      case atStart => exact ⟨k + 1, by simp, by omega, by omega, HST, hbA⟩
      case round =>
        clear HST hbA HS2 HS hb
        obtain ⟨j, rfl, hkj, hj, HT2, hb⟩ := hrel
        have hcc := (HG.out.kept (hb.block C hC)).count
        by_cases hjl : j < ns.length
        · have hdj : decide ((j : Int) < (ns.length : Int)) = true := decide_eq_true (by omega)
          have hbit := fun W => bitHas_any y j hyl (by omega) W
          have hdb := Lib.hid (domB_bit hkj (HY.out j (by omega)))
          go_wp2_with fail
          refine (hbit _).mono ?_
          rintro E w3 ⟨rfl, rfl⟩
          clear hbit
          cases hyj : y.testBit j
          · have hd : Hid (domB (nextN ns) j k = true) := by unfold Hid; rw [hdb.out, hyj]; rfl
            have hc := HT2.out.cell hjl
            have hf := HT2.out.soft j
            have hput := Lib.hid (HT2.out.put (b := j) (v := k) (by omega))
            clear hdb hyj
            go_wp2_with fail
            refine ⟨⟨j + 1, by simp, by omega, by omega, hput.out.congr (fun i _ => midT_yes hd.out i), ⟨hb.os, hb.tape, hb.output, by have := hb.size; simpa [World.setCell] using this, fun x hx => (heap_setCell_other _ _ _ _ (by simp; omega)).trans (hb.block x hx)⟩⟩, ?_⟩
            simp only [intOf]
            omega
          · have hd : Hid (domB (nextN ns) j k = false) := by unfold Hid; rw [hdb.out, hyj]; rfl
            clear hdb hyj
            go_wp2_with fail
            refine ⟨⟨j + 1, by simp, by omega, by omega, HT2.out.congr (fun i _ => midT_no hd.out i), hb⟩, ?_⟩
            simp only [intOf]
            omega
        · have hdj : decide ((j : Int) < (ns.length : Int)) = false := decide_eq_false (by omega)
          have hje : j = ns.length := by omega
          subst hje
          have HE : Hid (TreeAt wr w.heap.size ns.length (fun i => lastB (domB (nextN ns) i) (k + 1))) := HT2.out.congr (fun i hi => midT_end (nextN ns) k ns.length i hi)
          clear HT2
          go_wp2_with fail
          refine ⟨⟨k + 1, by simp, by omega, HE, hb⟩, ?_⟩
          simp only [intOf]
          omega
    · have hdk : decide ((k : Int) < (ns.length : Int)) = false := decide_eq_false (by omega)
      have hke : k = ns.length := by omega
      subst hke
      go_wp2_with fail
      go_ret
      exact ⟨w.heap.size, rfl, Nat.le_refl _, HS.out, hb⟩

end Go.Proofs.YtfkhgdbnjcdlmaaGreatDoor
