/-
  What the laws write over a program that is an argument.
-/
import Derived.Test.YtcpmodkplikmcaaMarkC0
namespace Go.Proofs.Ytcpmodkplikmcaa
open Go.RowKit Go.Deep
set_option linter.unusedVariables false

set_option maxHeartbeats 1000000 in
theorem markProgram_any (ts : List Int) (s : Sts) (g1 g2 lo hi : Nat) (k : Int) (w : World) (hl : ts.length ≤ 2000000) (hs : s.size ≤ 2000000) (hk : 0 ≤ k) (hk2 : k ≤ 1000) (hhi : hi ≤ w.heap.size) (hlh : lo ≤ hi)
    (hT : IntsV w lo hi ts (some ⟨g1, 0, none⟩) ts.length) (hR : RepV w lo hi s (some ⟨g2, 0, none⟩) s.len) (hS : SoftIn lo hi w) :
    Calls Try.prog 16 #[.agg #[.slice (some ⟨g1, 0, none⟩) ts.length ts.length, .slice (some ⟨g2, 0, none⟩) s.len s.len], .int .i64 k] w fun E w' => E = .returned (.int .i64 (k + ts.length + 4 * s.size)) ∧ Span lo hi w w' := by
  have hba := (Below.refl w.heap.size w).alloc (Nat.le_refl _) (.cells #[.slice (some ⟨g1, 0, none⟩) ts.length ts.length, .slice (some ⟨g2, 0, none⟩) s.len s.len] 29)
  have hc := heap_alloc_new w (.cells #[.slice (some ⟨g1, 0, none⟩) ts.length ts.length, .slice (some ⟨g2, 0, none⟩) s.len s.len] 29)
  have c0 : (w.alloc (.cells #[.slice (some ⟨g1, 0, none⟩) ts.length ts.length, .slice (some ⟨g2, 0, none⟩) s.len s.len] 29)).cell? ⟨w.heap.size, 0, none⟩ = some (.slice (some ⟨g1, 0, none⟩) ts.length ts.length) := (cell_of_block hc 0).trans rfl
  have hT1 : IntsV (w.alloc (.cells #[.slice (some ⟨g1, 0, none⟩) ts.length ts.length, .slice (some ⟨g2, 0, none⟩) s.len s.len] 29)) lo hi ts (some ⟨g1, 0, none⟩) ts.length := hT.keep (Nat.le_refl _) (Nat.le_refl _) fun p _ hp => hba.cell (by omega)
  have hR1 : RepV (w.alloc (.cells #[.slice (some ⟨g1, 0, none⟩) ts.length ts.length, .slice (some ⟨g2, 0, none⟩) s.len s.len] 29)) lo hi s (some ⟨g2, 0, none⟩) s.len := hR.keep (Nat.le_refl _) (Nat.le_refl _) fun p _ hp => hba.cell (by omega)
  have hS1 : SoftIn lo hi (w.alloc (.cells #[.slice (some ⟨g1, 0, none⟩) ts.length ts.length, .slice (some ⟨g2, 0, none⟩) s.len s.len] 29)) := fun p h1 h2 => (World.frozen?_of_block (hba.block p.block (by omega))).trans (hS p h1 h2)
  have hmi : Calls Try.prog 28 #[.slice (some ⟨g1, 0, none⟩) ts.length ts.length, .int .i64 k] (w.alloc (.cells #[.slice (some ⟨g1, 0, none⟩) ts.length ts.length, .slice (some ⟨g2, 0, none⟩) s.len s.len] 29)) fun E w' => E = .returned (.int .i64 (k + ts.length)) ∧ MarkRel lo hi (w.alloc (.cells #[.slice (some ⟨g1, 0, none⟩) ts.length ts.length, .slice (some ⟨g2, 0, none⟩) s.len s.len] 29)) w' := by
    by_cases h0 : ts.length = 0
    · rw [h0]
      refine (markIntS_nil (some ⟨g1, 0, none⟩) 0 k _).mono ?_
      rintro E w' ⟨rfl, rfl⟩
      exact ⟨by simp, MarkRel.refl _ _ _⟩
    · obtain ⟨b, hb, hb1, hb2, hcl⟩ := hT1.2.2 (by omega)
      injection hb with hb
      subst hb
      refine (markIntS_row ts.length ts.length g1 k _ (Nat.le_refl _) (by omega) hT1.2.1 hk (by omega) (fun j hj => ⟨ts[j], by have := hcl j _ (List.getElem?_eq_getElem hj); rwa [add_block, Nat.zero_add] at this⟩) (fun o => hS1 _ hb1 hb2)).mono ?_
      rintro E w' ⟨rfl, hM, _⟩
      exact ⟨rfl, hM.wide hb1 (by have : g1 < hi := hb2; omega)⟩
  have HR := Lib.hid hR1.shp
  have HS1 := Lib.hid hS1
  have hC := Lib.hid hc
  clear hT1 hR1 hS1 hc hS hT hR
  go_enter Try.func16, Try.ntmps16
  go_wp2_with fail
  refine hmi.mono ?_
  rintro E w1 ⟨rfl, hM1⟩
  have c1 : w1.cell? ⟨w.heap.size, 1, none⟩ = some (.slice (some ⟨g2, 0, none⟩) s.len s.len) := (hM1.cell (.inr hhi)).trans ((cell_of_block hC.out 1).trans rfl)
  have HM1 := Lib.hid hM1
  clear hmi hM1
  go_wp2_with fail
  refine (markStmtS_any (s.size + 1) lo hi s (some ⟨g2, 0, none⟩) s.len (k + ts.length) w1 (by omega) hs (by omega) (by omega) (HR.out.marked HM1.out) (HM1.out.softIn HS1.out)).mono ?_
  rintro E w2 ⟨rfl, hM2⟩
  have HM2 := Lib.hid (HM1.out.trans hM2)
  clear hM2
  go_wp2_with fail
  go_ret
  exact ⟨rfl, (Span.of_below hba).trans (Span.of_mark HM2.out)⟩

end Go.Proofs.Ytcpmodkplikmcaa
