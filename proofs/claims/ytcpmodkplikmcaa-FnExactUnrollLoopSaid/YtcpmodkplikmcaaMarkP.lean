/-
  What the laws write over a program that a call has answered, and how they read it again.
-/
import Derived.Test.YtcpmodkplikmcaaMarkT
import Derived.Test.YtcpmodkplikmcaaMarkC0
import Derived.Test.YtcpmodkplikmcaaCpyP
namespace Go.Proofs.Ytcpmodkplikmcaa
open Go.RowKit Go.Deep
set_option linter.unusedVariables false

theorem markIntS_own (B : Nat) (A : Option Addr) (c : Nat) (xs : List Int) (k : Int) (w : World) (h : RowI w B (.slice A xs.length c) xs) (hn : xs.length ≤ 100000000) (hk : 0 ≤ k) (hk2 : k ≤ 100000000) :
    Calls Try.prog 28 #[.slice A xs.length c, .int .i64 k] w fun E w' => E = .returned (.int .i64 (k + xs.length)) ∧ Marked w' (.slice A xs.length c) xs.length k ∧ Below B w w' ∧ w'.heap.size = w.heap.size ∧ (∀ q, (Value.slice A xs.length c).ownBlock ≠ some q → w'.heap[q]? = w.heap[q]?) := by
  rcases h.2 with ⟨hv, h0⟩ | ⟨g, cap, cur, hv, h2, h3, h4, h5, h6, h7⟩
  · rw [hv]
    refine (markIntS_nil none 0 k w).mono ?_
    rintro E w' ⟨rfl, rfl⟩
    exact ⟨by rw [h0]; simp, .inl ⟨h0, none, 0, rfl⟩, Below.refl _ _, rfl, fun _ _ => rfl⟩
  · have hcell : ∀ j, j < xs.length → ∃ z, w.cell? ⟨g, j, none⟩ = some (.int .i64 z) := fun j hj => ⟨xs[j], by
      have := World.ownsRow.cells h (g := g) (by rw [hv]; rfl) j (.int .i64 xs[j]) (by rw [List.getElem?_map, List.getElem?_eq_getElem hj]; rfl)
      rwa [add_block, Nat.zero_add] at this⟩
    have hlt := heap_lt h3
    rw [hv]
    refine (markIntS_row xs.length cap g k w h4 hn h5 hk hk2 hcell (fun o => frozen_of_block h3 o)).mono ?_
    rintro E w' ⟨rfl, hM, hc⟩
    exact ⟨rfl, .inr ⟨g, cap, rfl, h4, h5, by rw [hM.size]; exact hlt, hc⟩, (Span.of_mark hM).below h2 (by omega), hM.size, fun q hq => hM.block q (by
      have : q ≠ g := fun e => hq (by rw [e]; rfl)
      omega)⟩

/-- A program that holds the numbers that were written over it. -/
def HeldP (w : World) (ts : List Int) (s : Sts) (v : Value) (k : Int) : Prop := ∃ (A A' : Option Addr) (c c' lo hi : Nat), v = .agg #[.slice A ts.length c, .slice A' s.len c'] ∧
  Marked w (.slice A ts.length c) ts.length k ∧ RepV w lo hi (numS s (k + ts.length)) A' c' ∧ hi ≤ w.heap.size

theorem HeldP.below {w w' : World} {ts : List Int} {s : Sts} {v : Value} {k : Int} (h : HeldP w ts s v k) (hb : Below w.heap.size w w') : HeldP w' ts s v k := by
  obtain ⟨A, A', c, c', lo, hi, h1, h2, h3, h4⟩ := h
  exact ⟨A, A', c, c', lo, hi, h1, h2.below hb, h3.keep (Nat.le_refl _) (Nat.le_refl _) fun p _ hp => hb.cell (by omega), Nat.le_trans h4 hb.size⟩

/-- A program of one's own, in blocks from B up to T. -/
def ProgU (w : World) (B T : Nat) (ts : List Int) (s : Sts) (v : Value) : Prop := ∃ (A A' : Option Addr) (c c' lo hi : Nat), v = .agg #[.slice A ts.length c, .slice A' s.len c'] ∧
  RowI w B (.slice A ts.length c) ts ∧ SubI w lo hi s A' c' ∧ B ≤ lo ∧ hi ≤ T ∧ ∀ k, (Value.slice A ts.length c).ownBlock = some k → k < T ∧ (k < lo ∨ hi ≤ k)

theorem ProgA.up {w : World} {B : Nat} {ts : List Int} {s : Sts} {v : Value} (h : ProgA w B ts s v) : ProgU w B w.heap.size ts s v := by
  obtain ⟨A, A', c, c', lo, hi, h1, h2, h3, h4, h5, h6⟩ := h
  exact ⟨A, A', c, c', lo, hi, h1, h2, h3, h4, h5, fun k hk => ⟨(h2.lt k hk).2, h6 k hk⟩⟩

theorem ProgU.keep {w w' : World} {B T : Nat} {ts : List Int} {s : Sts} {v : Value} (h : ProgU w B T ts s v) (hk : ∀ k, B ≤ k → k < T → w'.heap[k]? = w.heap[k]?) : ProgU w' B T ts s v := by
  obtain ⟨A, A', c, c', lo, hi, h1, h2, h3, h4, h5, h6⟩ := h
  exact ⟨A, A', c, c', lo, hi, h1, h2.keep fun g hg => hk g (h2.lt g hg).1 (h6 g hg).1, h3.keep fun k k1 k2 => hk k (by omega) (by omega), h4, h5, h6⟩

theorem ProgU.reads {w : World} {B T : Nat} {ts : List Int} {s : Sts} {v : Value} (h : ProgU w B T ts s v) (hT : T ≤ w.heap.size) : ∃ (A A' : Option Addr) (c c' : Nat), v = .agg #[.slice A ts.length c, .slice A' s.len c'] ∧ IntsV w 0 w.heap.size ts A c ∧ RepV w 0 w.heap.size s A' c' := by
  obtain ⟨A, A', c, c', lo, hi, h1, h2, h3, h4, h5, h6⟩ := h
  exact ⟨A, A', c, c', h1, h2.intsV, h3.rep.keep (Nat.zero_le _) (by omega) fun _ _ _ => rfl⟩

set_option maxHeartbeats 1000000 in
theorem markProgram_own (B T : Nat) (ts : List Int) (s : Sts) (v : Value) (k : Int) (w : World) (h : ProgU w B T ts s v) (hT : T ≤ w.heap.size) (hl : ts.length ≤ 2000000) (hs : s.size ≤ 2000000) (hk : 0 ≤ k) (hk2 : k ≤ 1000) :
    Calls Try.prog 16 #[v, .int .i64 k] w fun E w' => E = .returned (.int .i64 (k + ts.length + 4 * s.size)) ∧ HeldP w' ts s v k ∧ Span B T w w' := by
  obtain ⟨A, A', c, c', lo, hi, rfl, h2, h3, h4, h5, h6⟩ := h
  obtain ⟨wb, hwb⟩ : ∃ z, w.alloc (.cells #[.slice A ts.length c, .slice A' s.len c'] 29) = z := ⟨_, rfl⟩
  have hba : Below w.heap.size w wb := by rw [← hwb]; exact (Below.refl _ _).alloc (Nat.le_refl _) _
  have hbz : wb.heap.size = w.heap.size + 1 := by rw [← hwb]; simp
  have hc : wb.heap[w.heap.size]? = some (.cells #[.slice A ts.length c, .slice A' s.len c'] 29 (0, 0)) := by rw [← hwb]; exact heap_alloc_new w _
  have c0 : wb.cell? ⟨w.heap.size, 0, none⟩ = some (.slice A ts.length c) := (cell_of_block hc 0).trans rfl
  have hI := h2.below hba
  have hS := h3.keep (w' := wb) fun q q1 q2 => hba.block q (by omega)
  have hlt := fun g hg => (h2.lt g hg).1
  have hmk := markIntS_own B A c ts k wb hI (by omega) hk (by omega)
  have HS := Lib.hid hS
  have HC := Lib.hid hc
  have HBA := Lib.hid hba
  have HOFF := Lib.hid h6
  have HLT := Lib.hid hlt
  clear h2 h3 h6 hI hS hc hba hlt
  go_enter Try.func16, Try.ntmps16
  go_wp2_with fail
  clear hwb
  refine hmk.mono ?_
  rintro E w1 ⟨rfl, hM1, hb1, hz1, hq1⟩
  have c1 : w1.cell? ⟨w.heap.size, 1, none⟩ = some (.slice A' s.len c') := (World.cell?_of_block (w := wb) (a := ⟨w.heap.size, 1, none⟩) (hq1 w.heap.size (fun e => by have := (HOFF.out _ e).1; omega))).trans ((cell_of_block HC.out 1).trans rfl)
  have hS1 := HS.out.keep (w' := w1) fun q q1 q2 => hq1 q fun e => by have := (HOFF.out q e).2; omega
  have hst := markStmtS_own (s.size + 1) s A' c' lo hi (k + ts.length) w1 (by omega) hs (by omega) (by omega) hS1
  have HM1 := Lib.hid hM1
  have HSP1 : Hid (Span B T w w1) := ⟨hb1.os.trans HBA.out.os, hb1.tape.trans HBA.out.tape, hb1.output.trans HBA.out.output, by omega, fun q h1 h2 => (hq1 q (fun e => by have := (HOFF.out q e).1; have := HLT.out q e; omega)).trans (HBA.out.block q h1)⟩
  clear hmk hS1 hM1 hb1 hq1 c0
  go_wp2_with fail
  refine hst.mono ?_
  rintro E w2 ⟨rfl, hM2, hR2⟩
  have HSP2 := Lib.hid (HSP1.out.trans ((Span.of_mark hM2).wide (lo' := B) (hi' := T) h4 h5))
  have HM2 : Hid (Marked w2 (.slice A ts.length c) ts.length k) := by
    rcases HM1.out with h | ⟨g, cc, e1, e2, e3, e4, e5⟩
    · exact .inl h
    · have hown : (Value.slice A ts.length c).ownBlock = some g := by rw [e1]; rfl
      have := (HOFF.out g hown).2
      exact .inr ⟨g, cc, e1, e2, e3, by rw [hM2.size]; exact e4, fun j hj => (hM2.cell (p := ⟨g, j, none⟩) this).trans (e5 j hj)⟩
  have HR2 := Lib.hid hR2
  have hz2 := hM2.size
  clear hst hM2 hR2
  go_wp2_with fail
  go_ret
  exact ⟨rfl, ⟨A, A', c, c', lo, hi, rfl, HM2.out, HR2.out, by omega⟩, HSP2.out⟩

set_option maxHeartbeats 1000000 in
theorem heldProgram_own (ts : List Int) (s : Sts) (v : Value) (k : Int) (w : World) (h : HeldP w ts s v k) (hl : ts.length ≤ 2000000) (hs : s.size ≤ 2000000) (hk : 0 ≤ k) (hk2 : k ≤ 1000) :
    Calls Try.prog 17 #[v, .int .i64 k] w fun E w' => E = .returned (.int .i64 (k + ts.length + 4 * s.size)) ∧ Below w.heap.size w w' := by
  obtain ⟨A, A', c, c', lo, hi, rfl, h2, h3, h4⟩ := h
  obtain ⟨wb, hwb⟩ : ∃ z, w.alloc (.cells #[.slice A ts.length c, .slice A' s.len c'] 29) = z := ⟨_, rfl⟩
  have hba : Below w.heap.size w wb := by rw [← hwb]; exact (Below.refl _ _).alloc (Nat.le_refl _) _
  have hbz : wb.heap.size = w.heap.size + 1 := by rw [← hwb]; simp
  have hc : wb.heap[w.heap.size]? = some (.cells #[.slice A ts.length c, .slice A' s.len c'] 29 (0, 0)) := by rw [← hwb]; exact heap_alloc_new w _
  have c0 : wb.cell? ⟨w.heap.size, 0, none⟩ = some (.slice A ts.length c) := (cell_of_block hc 0).trans rfl
  have c1 : wb.cell? ⟨w.heap.size, 1, none⟩ = some (.slice A' s.len c') := (cell_of_block hc 1).trans rfl
  have hi := heldIntS_val (.slice A ts.length c) ts.length k wb (h2.below hba) (by omega) hk (by omega)
  have hst := heldStmtS_own (s.size + 1) s A' c' lo _ (k + ts.length) wb (by omega) hs (by omega) (by omega) (h3.keep (Nat.le_refl _) (Nat.le_refl _) fun p _ hp => hba.cell (by omega))
  have hq1 : ¬ k + (ts.length : Int) < 0 := by omega
  have hq2 : ¬ k + (ts.length : Int) + 4 * (s.size : Int) < 0 := by omega
  have HBA := Lib.hid hba
  clear h2 h3 hc hba
  go_enter Try.func17, Try.ntmps17
  go_wp2_with fail
  clear hwb
  refine hi.mono ?_
  rintro E w1 ⟨rfl, rfl⟩
  clear hi
  go_wp2_with fail
  refine hst.mono ?_
  rintro E w2 ⟨rfl, rfl⟩
  clear hst
  go_wp2_with fail
  go_ret
  exact ⟨rfl, HBA.out⟩

end Go.Proofs.Ytcpmodkplikmcaa
