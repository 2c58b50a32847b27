/-
  The program's PointsOf: how its answer reads, and how it lies.
-/
import Derived.Test.YtgjecledchhlgaaPoI
namespace Go.Proofs.Ytgjecledchhlgaa
open Go.RowKit Go.Deep
set_option linter.unusedVariables false

def avV : Value → Option Addr
  | .slice A _ _ => A
  | _ => none

def ccV : Value → Nat
  | .slice _ _ c => c
  | _ => 0

set_option maxHeartbeats 1000000 in
theorem implPointsOf_any (ts : List Int) (s : Sts) (At As : Option Addr) (ct cs : Nat) (w : World) (hT : IntsV w 0 w.heap.size ts At ct) (hR : RepV w 0 w.heap.size s As cs) :
    Calls Try.prog 23 #[.agg #[.slice At ts.length ct, .slice As s.len cs]] w fun E w' => ∃ v us, E = .returned v ∧ PRowJ w' w.heap.size v (pointsB (validB ts s) s) us ∧ Below w.heap.size w w' := by
  by_cases h1 : validB ts s = true
  · have e0 : pointsB (validB ts s) s = progPts s := by simp [pointsB, h1]
    rw [e0]
    exact implPoints_loop ts s At As ct cs w h1 hT hR
  · have h1' : validB ts s = false := by simpa using h1
    have e0 : pointsB (validB ts s) s = [] := by simp [pointsB, h1']
    rw [e0]
    have hb0 := (Below.refl w.heap.size w).alloc (Nat.le_refl _) (.cells #[.slice At ts.length ct, .slice As s.len cs] 38)
    have hT1 : IntsV (w.alloc (.cells #[.slice At ts.length ct, .slice As s.len cs] 38)) 0 (w.alloc (.cells #[.slice At ts.length ct, .slice As s.len cs] 38)).heap.size ts At ct := hT.below hb0 (by simp)
    have hR1 : RepV (w.alloc (.cells #[.slice At ts.length ct, .slice As s.len cs] 38)) 0 (w.alloc (.cells #[.slice At ts.length ct, .slice As s.len cs] 38)).heap.size s As cs := hR.below hb0 (by simp)
    have hz0 : (w.alloc (.cells #[.slice At ts.length ct, .slice As s.len cs] 38)).heap.size = w.heap.size + 1 := by simp
    have hS := graphOf_no ts s At As ct cs _ h1' hT1 hR1
    have HZ := Lib.hid hz0
    have hfin : ∀ W : World, Hid (PRowJ W w.heap.size (.slice none 0 0) [] []) := fun W => ⟨rfl, ⟨[], World.ownsRow_nil W w.heap.size 27 5, fun j d u hd => by simp at hd⟩, fun i j ui uj a b _ hi => by simp at hi⟩
    clear h1 h1' hz0 e0
    go_enter Try.func23, Try.ntmps23
    go_wp2_with fail
    refine hS.mono ?_
    rintro E w1 ⟨rfl, hb1⟩
    rw [HZ.out] at hb1
    clear hS
    go_wp2_with fail
    go_ret
    exact ⟨_, [], rfl, (hfin _).out, hb0.trans (hb1.mono (by omega))⟩

theorem PRowJ.form {w : World} {B : Nat} {v : Value} {ns : List Nd} {us : List Value} (h : PRowJ w B v ns us) (h0 : 0 < ns.length) :
    ∃ g cap, v = .slice (some ⟨g, 0, none⟩) ns.length cap ∧ B ≤ g ∧ g < w.heap.size ∧ ns.length ≤ cap ∧ cap ≤ maxLen ∧ (∀ o, w.frozen? ⟨g, o, none⟩ = false) ∧ (∃ cur, w.heap[g]? = some (.cells cur 27 (0, 0))) ∧
      ∀ j d u, ns[j]? = some d → us[j]? = some u → (w.cell? ⟨g, j * 5, none⟩ = some (.int .i64 d.op) ∧ w.cell? ⟨g, j * 5 + 1, none⟩ = some (.int .i64 d.x) ∧ w.cell? ⟨g, j * 5 + 2, none⟩ = some (.int .i64 d.y) ∧ w.cell? ⟨g, j * 5 + 3, none⟩ = some (.int .i64 d.n) ∧ w.cell? ⟨g, j * 5 + 4, none⟩ = some u) ∧ RowI w B u d.next := by
  obtain ⟨h1, ⟨xs, ho, hc⟩, h3⟩ := h
  rcases ho.2 with ⟨_, h2⟩ | ⟨g, cap, cur, hv, hB, hg, hn, hm, _⟩
  · omega
  · subst hv
    refine ⟨g, cap, rfl, hB, heap_lt hg, hn, hm, fun o => frozen_of_block hg o, ⟨cur, hg⟩, fun j d u hd hu => ?_⟩
    obtain ⟨⟨c0, c1, c2, c3, c4⟩, hr⟩ := hc j d u hd hu
    have hj := (List.getElem?_eq_some_iff.1 hd).1
    refine ⟨⟨?_, ?_, ?_, ?_, ?_⟩, hr⟩
    · rw [ho.cellAt _ (by omega), Nat.mul_comm]; exact c0
    · rw [ho.cellAt _ (by omega), Nat.mul_comm]; exact c1
    · rw [ho.cellAt _ (by omega), Nat.mul_comm]; exact c2
    · rw [ho.cellAt _ (by omega), Nat.mul_comm]; exact c3
    · rw [ho.cellAt _ (by omega), Nat.mul_comm]; exact c4

theorem PRowJ.reads {w : World} {B : Nat} {v : Value} {ns : List Nd} {us : List Value} (h : PRowJ w B v ns us) : PtsV w v ns := by
  by_cases h0 : 0 < ns.length
  · obtain ⟨g, cap, hv, hB, hg, hn, hm, -, -, hc⟩ := h.form h0
    refine ⟨_, _, hv, hn, hm, fun _ => ⟨g, rfl, hg, fun k d hd => ?_⟩⟩
    have hk := (List.getElem?_eq_some_iff.1 hd).1
    obtain ⟨⟨c0, c1, c2, c3, c4⟩, hr⟩ := hc k d _ hd (List.getElem?_eq_getElem (by rw [h.1]; exact hk))
    obtain ⟨A, c, hu, hI⟩ := hr.ints
    rw [hu] at c4
    exact ⟨A, c, ⟨c0, c1, c2, c3, c4⟩, hI⟩
  · obtain ⟨h1, ⟨xs, ho, hc⟩, h3⟩ := h
    rcases ho.2 with ⟨h1, _⟩ | ⟨g, cap, cur, h1, h2, h3, h4, h5, _⟩
    · exact ⟨none, 0, by rw [h1]; simp; omega, by omega, by simp [maxLen], fun h => absurd h h0⟩
    · exact ⟨_, _, h1, h4, h5, fun h => absurd h h0⟩

/-- How the row lies. -/
theorem PRowJ.shape {w : World} {B : Nat} {v : Value} {ns : List Nd} {us : List Value} (h : PRowJ w B v ns us) (h0 : 0 < ns.length) (h2 : ∀ d ∈ ns, d.next.length ≤ 2) :
    ∃ g c l f cc Av, v = .slice (some ⟨g, 0, none⟩) ns.length c ∧ ns.length ≤ c ∧ c ≤ maxLen ∧ PSh w g ns.length B l f cc Av := by
  obtain ⟨g, cap, hv, hB, hg, hn, hm, hfz, ⟨cur, hcur⟩, hc⟩ := h.form h0
  have hul := h.1
  have hat : ∀ j, j < ns.length → ∃ (d : Nd) (u : Value), ns[j]? = some d ∧ us[j]? = some u ∧ us.getD j (.slice none 0 0) = u ∧ nextP ns j = d.next := fun j hj =>
    ⟨ns[j], us[j]'(by omega), List.getElem?_eq_getElem hj, List.getElem?_eq_getElem (by omega), by rw [List.getD_eq_getElem?_getD, List.getElem?_eq_getElem (by omega)]; rfl, nextP_some (List.getElem?_eq_getElem hj)⟩
  refine ⟨g, cap, fun j => (nextP ns j).length, fun j => ((us.getD j (.slice none 0 0)).ownBlock).getD 0, fun j => ccV (us.getD j (.slice none 0 0)), fun j => avV (us.getD j (.slice none 0 0)), hv, hn, hm, ?_⟩
  have hrow : ∀ j, j < ns.length → 0 < (nextP ns j).length → ∃ (u : Value) (d : Nd) (gn c : Nat) (cu : Array Value), us[j]? = some u ∧ us.getD j (.slice none 0 0) = u ∧ nextP ns j = d.next ∧ u = .slice (some ⟨gn, 0, none⟩) d.next.length c ∧ B ≤ gn ∧ w.heap[gn]? = some (.cells cu 3 (0, 0)) ∧ d.next.length ≤ c ∧ c ≤ maxLen ∧ ∀ i z, d.next[i]? = some z → w.cell? ⟨gn, i, none⟩ = some (.int .i64 z) := by
    intro j hj hl
    obtain ⟨d, u, hd, hu, hud, hnx⟩ := hat j hj
    obtain ⟨_, hr⟩ := hc j d u hd hu
    rw [hnx] at hl
    rcases hr.2 with ⟨_, hz⟩ | ⟨gn, c, cu, e1, e2, e3, e4, e5, _⟩
    · omega
    · refine ⟨u, d, gn, c, cu, hu, hud, hnx, e1, e2, e3, e4, e5, fun i z hz => ?_⟩
      have := World.ownsRow.cells hr (g := gn) (by rw [e1]; rfl) i (.int .i64 z) (by rw [List.getElem?_map, hz]; rfl)
      rwa [add_block, Nat.zero_add] at this
  refine ⟨fun j hj i hi => ?_, fun j hj => ?_, fun j hj hl => ?_, fun j hj hl => ?_, fun i j hij hj hli hlj => ?_, ⟨hB, hg⟩, hfz, fun j => ?_⟩
  · obtain ⟨d, u, hd, hu, _, _⟩ := hat j hj
    obtain ⟨⟨c0, c1, c2, c3, _⟩, _⟩ := hc j d u hd hu
    match i, hi with
    | 0, _ => exact ⟨_, c0⟩
    | 1, _ => exact ⟨_, c1⟩
    | 2, _ => exact ⟨_, c2⟩
    | 3, _ => exact ⟨_, c3⟩
  · obtain ⟨d, u, hd, hu, hud, hnx⟩ := hat j hj
    obtain ⟨⟨_, _, _, _, c4⟩, hr⟩ := hc j d u hd hu
    obtain ⟨A, c, he⟩ := hr.slice
    show w.cell? ⟨g, j * 5 + 4, none⟩ = some (Value.slice (avV (us.getD j (.slice none 0 0))) (nextP ns j).length (ccV (us.getD j (.slice none 0 0))))
    rw [hud, hnx, c4, he]
    rfl
  · obtain ⟨u, d, gn, c, cu, hu, hud, hnx, e1, e2, e3, e4, e5, e6⟩ := hrow j hj hl
    have hf : ((us.getD j (.slice none 0 0)).ownBlock).getD 0 = gn := by rw [hud, e1]; rfl
    have ha : avV (us.getD j (.slice none 0 0)) = some ⟨gn, 0, none⟩ := by rw [hud, e1]; rfl
    have hcc : ccV (us.getD j (.slice none 0 0)) = c := by rw [hud, e1]; rfl
    simp only [hf, ha, hcc, hnx]
    exact ⟨trivial, e4, e5, e2, heap_lt e3, fun i hi => ⟨d.next[i], e6 i _ (List.getElem?_eq_getElem hi)⟩, fun o => frozen_of_block e3 o⟩
  · obtain ⟨u, d, gn, c, cu, hu, hud, hnx, e1, e2, e3, e4, e5, e6⟩ := hrow j hj hl
    have hf : ((us.getD j (.slice none 0 0)).ownBlock).getD 0 = gn := by rw [hud, e1]; rfl
    simp only [hf]
    intro e
    subst e
    rw [hcur] at e3
    injection e3 with e3
    injection e3 with _ e3 _
    exact absurd e3 (by decide)
  · obtain ⟨u, d, gn, c, cu, hu, hud, hnx, e1, _⟩ := hrow j hj hlj
    obtain ⟨u', d', gn', c', cu', hu', hud', hnx', e1', _⟩ := hrow i (by omega) hli
    have hf : ((us.getD j (.slice none 0 0)).ownBlock).getD 0 = gn := by rw [hud, e1]; rfl
    have hf' : ((us.getD i (.slice none 0 0)).ownBlock).getD 0 = gn' := by rw [hud', e1']; rfl
    have := h.2.2 i j u' u gn' gn hij hu' hu (by rw [e1']; rfl) (by rw [e1]; rfl)
    simp only [hf, hf']
    omega
  · show (nextP ns j).length ≤ 2
    rcases Nat.lt_or_ge j ns.length with hj | hj
    · obtain ⟨d, u, hd, _, _, hnx⟩ := hat j hj
      rw [hnx]
      exact h2 d (List.mem_of_getElem? hd)
    · simp [nextP, List.getElem?_eq_none hj]

end Go.Proofs.Ytgjecledchhlgaa
