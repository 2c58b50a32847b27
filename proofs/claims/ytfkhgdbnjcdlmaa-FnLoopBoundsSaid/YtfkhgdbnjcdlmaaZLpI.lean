/-
  The program's LoopOf.
-/
import Derived.RangeFuncNested
import Derived.RangeFuncBound
import Derived.RangeFuncCalls
import Derived.RangeFuncLeaves
import Derived.Shelf.Abstract
import Derived.Shelf.RegionOpen
import Derived.WalkKit
import Derived.OwnWalkIn
import Derived.TacticsInMore
import Derived.LoopNIn
import Derived.LoopIn
import Derived.Test.YtfkhgdbnjcdlmaaZLpJ
namespace Go.Proofs.Ytfkhgdbnjcdlmaa
open Go.RowKit Go.Deep Go.Shelf
set_option linter.unusedVariables false

theorem loops_stops (C Bn n₀ q : Nat) (ns : List Nd) (w : World) (hD : PtsOk q ns) (hq0 : ns.length ≤ 61) (hG : Gr C w ns) (hC : C < n₀) (hBn : Bn < n₀) (hbx : w.cell? ⟨Bn, 0, none⟩ = some (.pointer (some ⟨C, 0, none⟩))) (hn₀ : n₀ ≤ w.heap.size) :
    SeqStopsK Fence.wide 3 Try.prog 23 #[.pointer (some ⟨Bn, 0, none⟩)] Lp.encs (Below n₀) (fun ys => ys.map Subtype.val = backs ns 0) (fun pre => pre.map Subtype.val <+: backs ns 0) (backs ns 0).length w := fun l J Jx W hW hJ _ hY h0 =>
  loops1_in C Bn n₀ l q ns hD hq0 J Jx W hJ hY (hG.kept (hW.block C (by omega))) hC hBn ((hW.cell (p := ⟨Bn, 0, none⟩) (by show Bn < w.heap.size; omega)).trans hbx) (by have := hW.size; omega) h0

/-- The first loop that has the point, of those that have come. -/
def lpFind (a : Int) (pre : List Lp) : Option (Int × Int) := (pre.map Subtype.val).find? (hasI a)

def lpAns (a : Int) (pre : List Lp) : List Int := rangeO (lpFind a pre)

theorem lpFind_snoc (a : Int) (pre : List Lp) (x : Lp) (h : lpFind a pre = none) : lpFind a (pre ++ [x]) = if hasI a x.1 then some x.1 else none := by
  unfold lpFind at h ⊢
  rw [List.map_append, List.find?_append, h]
  simp only [List.map_cons, List.map_nil, List.find?_cons, List.find?_nil, Option.none_or]
  cases hasI a x.1 <;> rfl

theorem lpFind_done {a : Int} {s : Sts} {ys : List Lp} (h : ys.map Subtype.val = backs (progPts s) 0) : lpFind a ys = inner a s 0 := by
  unfold lpFind
  rw [h, backs_prog]

theorem lpFind_stop {a : Int} {s : Sts} {pre : List Lp} (h : pre.map Subtype.val <+: backs (progPts s) 0) (hs : (lpFind a pre).isSome = true) : lpFind a pre = inner a s 0 := by
  obtain ⟨t, ht⟩ := h
  rw [← backs_prog a s, ← ht, List.find?_append]
  show lpFind a pre = (lpFind a pre).or _
  cases hf : lpFind a pre with
  | none => rw [hf] at hs; cases hs
  | some z => rfl

theorem keepsFrom_of_below {B : Nat} {W W' : World} (h : Below W.heap.size W W') : KeepsFrom B W W' := ⟨h.size, fun k o _ hk _ => (h.block k (Array.getElem?_eq_some_iff.1 hk).1).trans hk⟩

theorem boxed_below {W W' : World} {B : Nat} {t : TypeId} {v : Value} (h : Boxed W B t v) (hb : Below W.heap.size W W') : Boxed W' B t v := (hb.block B h.lt).trans h

attribute [local go_sem] Oper.semAt_some

set_option maxRecDepth 100000 in
set_option maxHeartbeats 2000000 in
theorem implLoopOf_yes (ts : List Int) (s : Sts) (At As : Option Addr) (ct cs : Nat) (a : Int) (w : World) (hv : validB ts s = true) (hT : IntsV w 0 w.heap.size ts At ct) (hR : RepV w 0 w.heap.size s As cs) :
    Calls Try.prog 5 #[.agg #[.slice At ts.length ct, .slice As s.len cs], .int .i64 a] w fun E w' => ∃ v, E = .returned v ∧ RowI w' w.heap.size v (rangeO (inner a s 0)) ∧ Below w.heap.size w w' := by
  have hb0 := ((((Below.refl w.heap.size w).alloc (Nat.le_refl _) (.cells #[.slice At ts.length ct, .slice As s.len cs] 26)).alloc (by simp) (.cells #[.int .i64 a] 3))).alloc (by simp; omega) (.cells #[.slice none 0 0] 23)
  have hz0 : (((w.alloc (.cells #[.slice At ts.length ct, .slice As s.len cs] 26)).alloc (.cells #[.int .i64 a] 3)).alloc (.cells #[.slice none 0 0] 23)).heap.size = w.heap.size + 3 := by simp
  have bA := (Boxed.new (w.alloc (.cells #[.slice At ts.length ct, .slice As s.len cs] 26)) 3 (.int .i64 a)).alloc (.cells #[.slice none 0 0] 23)
  have bR := Boxed.new ((w.alloc (.cells #[.slice At ts.length ct, .slice As s.len cs] 26)).alloc (.cells #[.int .i64 a] 3)) 23 (.slice none 0 0)
  have hzA : (w.alloc (.cells #[.slice At ts.length ct, .slice As s.len cs] 26)).heap.size = w.heap.size + 1 := by simp
  have hzB : ((w.alloc (.cells #[.slice At ts.length ct, .slice As s.len cs] 26)).alloc (.cells #[.int .i64 a] 3)).heap.size = w.heap.size + 2 := by simp
  rw [hzA] at bA
  rw [hzB] at bR
  have hS := graphOf_yes ts s At As ct cs (((w.alloc (.cells #[.slice At ts.length ct, .slice As s.len cs] 26)).alloc (.cells #[.int .i64 a] 3)).alloc (.cells #[.slice none 0 0] 23)) hv (hT.below hb0 (by simp; omega)) (hR.below hb0 (by simp; omega))
  have hD := progPts_ok s (valid_ok hv).2.1
  have hq0 : (progPts s).length ≤ 61 := by
    have := s.npts_le
    have := valid_size hv
    rw [progPts_len]
    omega
  have HF1 : Hid (∀ ys : List Lp, ys.map Subtype.val = backs (progPts s) 0 → lpFind a ys = inner a s 0) := fun ys h => lpFind_done h
  have HF2 : Hid (∀ pre : List Lp, pre.map Subtype.val <+: backs (progPts s) 0 → (lpFind a pre).isSome = true → lpFind a pre = inner a s 0) := fun pre h hs => lpFind_stop h hs
  generalize progPts s = ds at hS hD hq0 HF1 HF2
  generalize s.npts = q at hD
  have HD := Lib.hid hD
  have HBA := Lib.hid bA
  have HBR := Lib.hid bR
  have HZ := Lib.hid hz0
  clear hT hR hv hD bA bR hzA hzB hz0
  refine (callsIn_wide (n := 4)).1 ?_
  refine callsIn_of_wp_marks Try.func5 rfl trivial ?_ rfl
  simp only [Try.ntmps5, List.size_toArray, List.length_cons, List.length_nil, Nat.reduceAdd, Nat.reduceSub, Array.replicate_succ, Array.replicate_zero, List.push_toArray, List.append_toArray, List.nil_append, List.cons_append]
  gi_wp2_with (refine ⟨trivial, ?_⟩; gi_at_call 10; refine (callsIn_wide.2 hS).mono ?_; rintro E w1 ⟨C, rfl, hC, hG, hb1⟩)
  rw [HZ.out] at hC hb1
  have hbw : Below w.heap.size w w1 := hb0.trans (hb1.mono (by omega))
  have hs1 : w.heap.size + 3 ≤ w1.heap.size := by have := hb1.size; rw [HZ.out] at this; exact this
  have bA1 := (boxed_below HBA.out (by rw [HZ.out]; exact hb1)).alloc (.cells #[.pointer (some ⟨C, 0, none⟩)] 36)
  have bR1 := (boxed_below HBR.out (by rw [HZ.out]; exact hb1)).alloc (.cells #[.pointer (some ⟨C, 0, none⟩)] 36)
  have bG1 := Boxed.new w1 36 (.pointer (some ⟨C, 0, none⟩))
  have hB0 : Below w.heap.size w (w1.alloc (.cells #[.pointer (some ⟨C, 0, none⟩)] 36)) := hbw.alloc (by omega) _
  have hG0 : Gr C (w1.alloc (.cells #[.pointer (some ⟨C, 0, none⟩)] 36)) ds := hG.alloc _
  have hCl : C < w1.heap.size := hG.lt
  have hsz : (w1.alloc (.cells #[.pointer (some ⟨C, 0, none⟩)] 36)).heap.size = w1.heap.size + 1 := by simp
  refine ⟨trivial, (callsIn_wide.2 (loops_any C w1)).mono ?_⟩
  rintro e w2 ⟨rfl, rfl⟩
  clear hS hb1 hb0 hG
  gi_wp2
  obtain ⟨W0, hW0⟩ : ∃ W0, w1.alloc (.cells #[.pointer (some ⟨C, 0, none⟩)] 36) = W0 := ⟨_, rfl⟩
  rw [hW0] at bA1 bR1 bG1 hB0 hG0 hsz ⊢
  clear hW0
  have HSTOPS := loops_stops C w1.heap.size W0.heap.size q ds W0 HD.out hq0 hG0 (by omega) (by omega) bG1.cell (Nat.le_refl _)
  obtain ⟨tm, htm⟩ : ∃ tm : Nat → Lp → Array Value, tm = fun Bx x => #[.agg #[.slice At ts.length ct, .slice As s.len cs], .int .i64 a, .pointer (some ⟨w.heap.size, 0, none⟩), .pointer (some ⟨w.heap.size + 1, 0, none⟩), .pointer (some ⟨w.heap.size + 1 + 1, 0, none⟩), .pointer (some ⟨C, 0, none⟩), .bool true, .pointer (some ⟨Bx, 0, none⟩), .tuple #[.pointer (some ⟨C, 0, none⟩), .bool true], .agg #[.slice At ts.length ct, .slice As s.len cs], .tuple #[.pointer (some ⟨C, 0, none⟩), .bool true], .pointer (some ⟨C, 0, none⟩), .bool true, .bool true, .bool false, .pointer (some ⟨C, 0, none⟩), .func (.func 23) #[] #[.pointer (some ⟨w1.heap.size, 0, none⟩)], .agg #[.int .i64 x.1.1, .int .i64 x.1.2], undef, undef, undef, undef, undef] := ⟨_, rfl⟩
  refine wpIn_rangeFunc_ownH (F := Fence.wide) (n := 4) rfl (by decide) (gf := 23) (lb := #[.pointer (some ⟨w1.heap.size, 0, none⟩)]) rfl trivial (enters_of Try.func23 (by kernel_rfl) rfl)
    HSTOPS belowK_t (belowK_b (Nat.le_refl _)) (Below.refl _ _) (fun _ => rfl)
    (fun pre W => lpFind a pre = none ∧ Below W0.heap.size W0 W)
    (fun c pre W => ((c = .ret ∧ (lpFind a pre).isSome = true) ∧ (∃ v, Boxed W (w.heap.size + 2) 23 v ∧ W.ownsRow w.heap.size 3 1 v (lpAns a pre).length ((lpAns a pre).map (Value.int .i64)) ∧ True)) ∧ Below w.heap.size w W)
    (OwnFrom.and (ownFrom_pure _ _) (ownFrom_below (Nat.le_refl _) (Nat.le_refl _)))
    (fun c => OwnFrom.and (OwnFrom.and (ownFrom_pure _ _) (Own.from (holdsRow_own w.heap.size (w.heap.size + 2) 23 3 1 (fun pre => (lpAns a pre).length) (fun pre => (lpAns a pre).map (Value.int .i64)) (fun _ _ => True)) _)) (ownFrom_below (Nat.le_refl _) (by omega)))
    ⟨rfl, Below.refl _ _⟩
    (fun x a' W => ∃ Bx, w.heap.size + 2 < Bx ∧ W.heap[Bx]? = some (.cells #[.int .i64 x.1.1, .int .i64 x.1.2] 43 (0, 0)) ∧ a' = { tmps := tm Bx x, defers := [] })
    (fun x a' _ X Y row hs hg hr => by
      obtain ⟨Bx, e1, e2, e3⟩ := hs
      refine ⟨Bx, e1, (hg.block Bx (Array.getElem?_eq_some_iff.1 e2).1 (fun e => ?_)).trans e2, e3⟩
      obtain ⟨_, o, ho, hc⟩ := hr Bx e.symm
      rw [e2] at ho
      cases ho
      cases hc)
    ?assign ?body ?done ?stop
  case assign =>
    rintro l pre x W K ⟨hp, hB1⟩ hK
    have hex : x.encs = #[.agg #[.int .i64 x.1.1, .int .i64 x.1.2]] := rfl
    rw [hex]
    have hWz := hB1.size
    gi_wp2
    subst htm
    exact hK _ _ ((KeepsOthers.alloc _ _).from _) ((Below.refl _ W).alloc hWz _) ⟨hp, hB1.alloc hWz _⟩ ⟨W.heap.size, by omega, World.alloc_heap_new W _, rfl⟩
  case body =>
    rintro l pre x a' W hl ⟨r, hr⟩ ⟨hp, hB1⟩ ⟨Bx, hBx, bX, rfl⟩ hlt
    subst htm
    have hWz := hB1.size
    have cA := (boxed_below bA1 hB1).cell
    have c0 : W.cell? ⟨Bx, 0, none⟩ = some (.int .i64 x.1.1) := (cell_of_block bX 0).trans rfl
    have c1 : W.cell? ⟨Bx, 1, none⟩ = some (.int .i64 x.1.2) := (cell_of_block bX 1).trans rfl
    have hBl : Bx < W.heap.size := (Array.getElem?_eq_some_iff.1 bX).1
    have h1' : 1 ≤ 4 - 1 - 1 := by decide
    have hih := intervalHas_any x.1.1 x.1.2 a W
    have hfs := lpFind_snoc a pre x hp
    cases hx : hasI a x.1
    · rw [show hasI a (x.1.1, x.1.2) = false from hx] at hih
      rw [hx] at hfs
      gi_wp2_with (refine ⟨trivial, ?_⟩; gi_at_call 12; refine (CallsIn.inRound l (callsIn_wide.2 hih)).mono ?_; rintro E w2 ⟨rfl, hb2⟩)
      exact ⟨keepsFrom_of_below hb2, hb2.mono hWz, by simpa using hfs, hB1.trans (hb2.mono hWz)⟩
    · rw [show hasI a (x.1.1, x.1.2) = true from hx] at hih
      rw [hx] at hfs
      gi_wp2_with (first
        | (refine ⟨trivial, ?_⟩; gi_at_call 12; refine (CallsIn.inRound l (callsIn_wide.2 hih)).mono ?_; rintro E w2 ⟨rfl, hb2⟩; have hz2 := hb2.size; have d0 : w2.cell? ⟨Bx, 0, none⟩ = some (.int .i64 x.1.1) := (hb2.cell (p := ⟨Bx, 0, none⟩) hBl).trans c0; have d1 : w2.cell? ⟨Bx, 1, none⟩ = some (.int .i64 x.1.2) := (hb2.cell (p := ⟨Bx, 1, none⟩) hBl).trans c1; have hil := intervalList_any x.1.1 x.1.2 w2 x.2.1 x.2.2.1 x.2.2.2)
        | (refine ⟨trivial, ?_⟩; gi_at_call 13; refine (CallsIn.inRound l (callsIn_wide.2 hil)).mono ?_; rintro E w3 ⟨v, rfl, hrow, hb3⟩; obtain ⟨Av, cv, hv⟩ := hrow.slice; subst hv; have hb23 := hb2.trans (hb3.mono hz2); have bR3 := boxed_below bR1 (hB1.trans (hb23.mono hWz)); have cR3 := bR3.cell; have fR3 := bR3.frozen)
        | fail)
      have hB3 := hB0.trans ((hB1.trans (hb23.mono hWz)).mono (by omega))
      have hne : (Value.slice Av (rangeI x.1.1 x.1.2).length cv).ownBlock ≠ some (w.heap.size + 2) := fun e => by
        have := (hrow.own.lt _ e).1
        omega
      have hrow2 := (hrow.own.kept (grownBy_setCell' w3 (w.heap.size + 2) (.slice Av (rangeI x.1.1 x.1.2).length cv)) (.inr hne))
      have hrow3 : RowI (w3.setCell ⟨w.heap.size + 2, 0, none⟩ (.slice Av (rangeI x.1.1 x.1.2).length cv)) w.heap.size (.slice Av (rangeI x.1.1 x.1.2).length cv) (rangeI x.1.1 x.1.2) := RowI.mono hrow2 (by omega)
      have hans : lpAns a (pre ++ [x]) = rangeI x.1.1 x.1.2 := by unfold lpAns; rw [hfs]; rfl
      refine ⟨(keepsFrom_of_below hb23).trans ((KeepsOthers.setCell _ _ _).from _), ⟨⟨rfl, by rw [hfs]; rfl⟩, ⟨_, bR3.set _, ?_, trivial⟩⟩, hB3.setCell (p := ⟨w.heap.size + 2, 0, none⟩) (by simp) _⟩
      rw [hans]
      exact hrow3
  case done =>
    rintro D ys W hD2 hys ⟨hp, hB1⟩ hK
    have hin : inner a s 0 = none := by rw [← HF1.out ys hys]; exact hp
    have bR2 := boxed_below bR1 hB1
    have cR := bR2.cell
    have fR := bR2.frozen
    have hBw := hB0.trans (hB1.mono (by omega))
    gi_wp2
    have hK' := (KeepsOthers.setCell W ⟨w.heap.size + 1 + 1, 0, none⟩ (.slice none 0 0)).same D _ hK rfl
    refine ⟨by simp, .inl ⟨_, _, rfl, run_takeDeferred hK', ?_⟩⟩
    have hc5 := cell_kept (bR2.set (.slice none 0 0)).cell (grownBy_putObj' _ D (.deferred none)) (fun r e => by cases e; exact ⟨_, hK', rfl⟩)
    refine ⟨.slice none 0 0, ?_, _, rfl, ?_, (hBw.setCell (p := ⟨w.heap.size + 2, 0, none⟩) (by simp) _).trans (belowK_b (w := w) (Nat.le_refl _) _ D _ _ (by omega) hK' rfl rfl)⟩
    · simp [results, Try.results5, go_sem, hc5]
    · rw [hin]
      exact World.ownsRow_nil _ w.heap.size 3 1
  case stop =>
    rintro D c pre W hD2 hpre ⟨⟨⟨rfl, hsome⟩, ⟨v, bR2, hrow, -⟩⟩, hB1⟩ hK
    have hin : inner a s 0 = lpFind a pre := (HF2.out pre hpre hsome).symm
    gi_wp2
    refine ⟨by simp, .inl ⟨_, _, rfl, run_takeDeferred hK, ?_⟩⟩
    have hc5 := cell_kept bR2.cell (grownBy_putObj' _ D (.deferred none)) (fun r e => by cases e; exact ⟨_, hK, rfl⟩)
    refine ⟨v, ?_, _, rfl, ?_, hB1.trans (belowK_b (w := w) (Nat.le_refl _) W D _ _ (by omega) hK rfl rfl)⟩
    · simp [results, Try.results5, go_sem, hc5]
    · rw [hin]
      exact ownsRow_putObj hrow _ hK rfl

end Go.Proofs.Ytfkhgdbnjcdlmaa
