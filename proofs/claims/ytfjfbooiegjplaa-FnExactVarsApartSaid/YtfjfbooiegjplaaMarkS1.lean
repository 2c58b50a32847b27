/-
  What the laws write over one statement.
-/
import Derived.Test.YtfjfbooiegjplaaMarkC0
namespace Go.Proofs.Ytfjfbooiegjplaa
open Go.RowKit Go.Deep
set_option linter.unusedVariables false

set_option maxHeartbeats 1000000 in
theorem markStmt_any (op x y n : Int) (t e : Sts) (At Ae : Option Addr) (ct ce lo hi : Nat) (k : Int) (w : World) (hs : t.size + e.size ≤ 2000000) (hk : 0 ≤ k) (hk2 : k ≤ 1000) (hhi : hi ≤ w.heap.size) (hlh : lo ≤ hi) (hT : RepV w lo hi t At ct) (hE : RepV w lo hi e Ae ce) (hS : SoftIn lo hi w) :
    Calls Try.prog 15 #[.agg #[.int .i64 op, .int .i64 x, .int .i64 y, .int .i64 n, .slice At t.len ct, .slice Ae e.len ce], .int .i64 k] w fun E w' => E = .returned (.int .i64 (k + 4 * t.size + 4 * e.size)) ∧ Span lo hi w w' := by
  have hba := (Below.refl w.heap.size w).alloc (Nat.le_refl _) (.cells #[.int .i64 op, .int .i64 x, .int .i64 y, .int .i64 n, .slice At t.len ct, .slice Ae e.len ce] 30)
  have hc := heap_alloc_new w (.cells #[.int .i64 op, .int .i64 x, .int .i64 y, .int .i64 n, .slice At t.len ct, .slice Ae e.len ce] 30)
  have c4 : (w.alloc (.cells #[.int .i64 op, .int .i64 x, .int .i64 y, .int .i64 n, .slice At t.len ct, .slice Ae e.len ce] 30)).cell? ⟨w.heap.size, 4, none⟩ = some (.slice At t.len ct) := (cell_of_block hc 4).trans rfl
  have hT1 : RepV (w.alloc (.cells #[.int .i64 op, .int .i64 x, .int .i64 y, .int .i64 n, .slice At t.len ct, .slice Ae e.len ce] 30)) lo hi t At ct := hT.keep (Nat.le_refl _) (Nat.le_refl _) fun p _ hp => hba.cell (by omega)
  have hE1 : RepV (w.alloc (.cells #[.int .i64 op, .int .i64 x, .int .i64 y, .int .i64 n, .slice At t.len ct, .slice Ae e.len ce] 30)) lo hi e Ae ce := hE.keep (Nat.le_refl _) (Nat.le_refl _) fun p _ hp => hba.cell (by omega)
  have hS1 : SoftIn lo hi (w.alloc (.cells #[.int .i64 op, .int .i64 x, .int .i64 y, .int .i64 n, .slice At t.len ct, .slice Ae e.len ce] 30)) := fun p h1 h2 => (World.frozen?_of_block (hba.block p.block (by omega))).trans (hS p h1 h2)
  have HT := Lib.hid hT1.shp
  have HE := Lib.hid hE1.shp
  have HS1 := Lib.hid hS1
  have hC := Lib.hid hc
  clear hT1 hE1 hS1 hc hS hT hE
  go_enter Try.func15, Try.ntmps15
  go_wp2_with fail
  refine (markStmtS_any (t.size + 1) lo hi t At ct k _ (by omega) (by omega) (by omega) (by omega) HT.out HS1.out).mono ?_
  rintro E w1 ⟨rfl, hM1⟩
  have c5 : w1.cell? ⟨w.heap.size, 5, none⟩ = some (.slice Ae e.len ce) := (hM1.cell (.inr hhi)).trans ((cell_of_block hC.out 5).trans rfl)
  have HM1 := Lib.hid hM1
  clear hM1
  go_wp2_with fail
  refine (markStmtS_any (e.size + 1) lo hi e Ae ce (k + 4 * t.size) w1 (by omega) (by omega) (by omega) (by omega) (HE.out.marked HM1.out) (HM1.out.softIn HS1.out)).mono ?_
  rintro E w2 ⟨rfl, hM2⟩
  have HM2 := Lib.hid (HM1.out.trans hM2)
  clear hM2
  go_wp2_with fail
  go_ret
  exact ⟨rfl, (Span.of_below hba).trans (Span.of_mark HM2.out)⟩

/-- A copy of a statement, of which nothing is frozen. -/
theorem toStmt_sall (op x y n : Int) (t e : Sts) (At Ae : Option Addr) (ct ce : Nat) (w : World) (h1 : t.size ≤ 1048576) (h2 : e.size ≤ 1048576) (hRt : RepV w 0 w.heap.size t At ct) (hRe : RepV w 0 w.heap.size e Ae ce) :
    Calls Try.prog 11 #[.agg #[.int .i64 op, .int .i64 x, .int .i64 y, .int .i64 n, .slice At t.len ct, .slice Ae e.len ce]] w (fun E w' => StmtPost w op x y n t e E w' ∧ Soft w.heap.size w') :=
  toStmt_s op x y n t e At Ae ct ce w (fun w' hb => toStmtS_s (t.size + 1) t At ct w' (by omega) h1 (hRt.below hb hb.size)) (fun w' hb => toStmtS_s (e.size + 1) e Ae ce w' (by omega) h2 (hRe.below hb hb.size))

end Go.Proofs.Ytfjfbooiegjplaa
