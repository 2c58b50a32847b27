/-
  What a point answers to the questions about cells, setters and numbers, by the program.
-/
import Derived.Test.YtnoejapnjhogaaaGreatDoorZTKn
import Derived.Test.YtnoejapnjhogaaaGreatDoorZMem
import Derived.StillTailTactics
import Derived.Deep.DeepCutAuto
namespace Go.Proofs.YtnoejapnjhogaaaGreatDoor.tr
open Go.RowKit Go.Deep
set_option linter.unusedVariables false

/-- The questions: their types and what they answer by. -/
def qT (q : Nat) : TypeId := if q = 0 then 64 else if q = 1 then 72 else 69
def qF (q : Nat) : FuncId := if q = 0 then 148 else if q = 1 then 150 else 149

theorem ahead_q (q : Nat) (v : Value) (w : World) : (nilAhead 347 (qT q) v "loop.example/borrowcheck/impl.answer").run Tryz.prog w = .ok (some false) w := by
  unfold qT
  split
  · kernel_rfl
  · split
    · kernel_rfl
    · kernel_rfl

theorem at_q (q : Nat) (v : Value) (w : World) : (method 347 (qT q) v "loop.example/borrowcheck/impl.answer").run Tryz.prog w = .ok (qF q, v) w := by
  unfold qT qF
  split
  · kernel_rfl
  · split
    · kernel_rfl
    · kernel_rfl

theorem boxesC (w : World) (cs : List Value) (x : Nat → Nat) (W : World) (hW : ((w.alloc (.cells #[] 64)).alloc (.cells cs.toArray 143)).alloc (.cells (perC x).toArray 61) = W) :
    Below w.heap.size w W ∧ W.heap.size = w.heap.size + 3 ∧ W.heap[w.heap.size + 1]? = some (.cells cs.toArray 143 (0, 0)) ∧ PerAt W (w.heap.size + 1 + 1) x := by
  subst hW
  have b1 := (Below.refl w.heap.size w).alloc (Nat.le_refl _) (.cells #[] 64)
  have b2 := b1.alloc (by simp) (.cells cs.toArray 143)
  have b3 := b2.alloc (by simp; omega) (.cells (perC x).toArray 61)
  have n1 := heap_alloc_new (w.alloc (.cells #[] 64)) (.cells cs.toArray 143)
  have n2 := PerAt.new ((w.alloc (.cells #[] 64)).alloc (.cells cs.toArray 143)) x
  have k1 := (((Below.refl _ _).alloc (Nat.le_refl _) (.cells (perC x).toArray 61) : Below ((w.alloc (.cells #[] 64)).alloc (.cells cs.toArray 143)).heap.size _ _).block _ (heap_lt n1)).trans n1
  refine ⟨b3, by simp, ?_, ?_⟩
  · rw [show (w.alloc (.cells #[] 64)).heap.size = w.heap.size + 1 from by simp] at k1
    exact k1
  · rw [show ((w.alloc (.cells #[] 64)).alloc (.cells cs.toArray 143)).heap.size = w.heap.size + 1 + 1 from by simp] at n2
    exact n2

theorem boxesS (w : World) (cs : List Value) (x : Nat → Nat) (W : World) (hW : ((w.alloc (.cells #[] 72)).alloc (.cells cs.toArray 143)).alloc (.cells (perC x).toArray 61) = W) :
    Below w.heap.size w W ∧ W.heap.size = w.heap.size + 3 ∧ W.heap[w.heap.size + 1]? = some (.cells cs.toArray 143 (0, 0)) ∧ PerAt W (w.heap.size + 1 + 1) x := by
  subst hW
  have b1 := (Below.refl w.heap.size w).alloc (Nat.le_refl _) (.cells #[] 72)
  have b2 := b1.alloc (by simp) (.cells cs.toArray 143)
  have b3 := b2.alloc (by simp; omega) (.cells (perC x).toArray 61)
  have n1 := heap_alloc_new (w.alloc (.cells #[] 72)) (.cells cs.toArray 143)
  have n2 := PerAt.new ((w.alloc (.cells #[] 72)).alloc (.cells cs.toArray 143)) x
  have k1 := (((Below.refl _ _).alloc (Nat.le_refl _) (.cells (perC x).toArray 61) : Below ((w.alloc (.cells #[] 72)).alloc (.cells cs.toArray 143)).heap.size _ _).block _ (heap_lt n1)).trans n1
  refine ⟨b3, by simp, ?_, ?_⟩
  · rw [show (w.alloc (.cells #[] 72)).heap.size = w.heap.size + 1 from by simp] at k1
    exact k1
  · rw [show ((w.alloc (.cells #[] 72)).alloc (.cells cs.toArray 143)).heap.size = w.heap.size + 1 + 1 from by simp] at n2
    exact n2

theorem boxesN (w : World) (cs : List Value) (x : Nat → Nat) (W : World) (hW : ((w.alloc (.cells #[] 69)).alloc (.cells cs.toArray 143)).alloc (.cells (perC x).toArray 61) = W) :
    Below w.heap.size w W ∧ W.heap.size = w.heap.size + 3 ∧ W.heap[w.heap.size + 1]? = some (.cells cs.toArray 143 (0, 0)) ∧ PerAt W (w.heap.size + 1 + 1) x := by
  subst hW
  have b1 := (Below.refl w.heap.size w).alloc (Nat.le_refl _) (.cells #[] 69)
  have b2 := b1.alloc (by simp) (.cells cs.toArray 143)
  have b3 := b2.alloc (by simp; omega) (.cells (perC x).toArray 61)
  have n1 := heap_alloc_new (w.alloc (.cells #[] 69)) (.cells cs.toArray 143)
  have n2 := PerAt.new ((w.alloc (.cells #[] 69)).alloc (.cells cs.toArray 143)) x
  have k1 := (((Below.refl _ _).alloc (Nat.le_refl _) (.cells (perC x).toArray 61) : Below ((w.alloc (.cells #[] 69)).alloc (.cells cs.toArray 143)).heap.size _ _).block _ (heap_lt n1)).trans n1
  refine ⟨b3, by simp, ?_, ?_⟩
  · rw [show (w.alloc (.cells #[] 69)).heap.size = w.heap.size + 1 from by simp] at k1
    exact k1
  · rw [show ((w.alloc (.cells #[] 69)).alloc (.cells cs.toArray 143)).heap.size = w.heap.size + 1 + 1 from by simp] at n2
    exact n2

set_option maxRecDepth 100000 in
set_option maxHeartbeats 2000000 in
theorem cells_any (a : Nat) (d : Nd) (x : Nat → Nat) (p0 p1 nx : Int) (w : World) (ha : a < 61) (hy : 0 ≤ d.y ∧ d.y ≤ 5) (hx : ∀ v, x v < 2305843009213693952) :
    Calls Tryz.prog 148 #[.agg #[], .int .i64 a, .agg ([.int .i64 d.op, .int .i64 d.x, .int .i64 d.y, .int .i64 d.n, .int .i64 p0, .int .i64 p1, .int .i64 nx] : List Value).toArray, .agg (perC x).toArray] w fun E w' => E = .returned (.int .u64 (valZ 0 d a x : Nat)) ∧ Below w.heap.size w w' := by
  obtain ⟨Y, hY⟩ : ∃ Y : Nat, d.y = (Y : Int) := ⟨d.y.toNat, by omega⟩
  obtain ⟨op, hop⟩ : ∃ op, op = d.op := ⟨_, rfl⟩
  have HOP := Lib.hid hop
  have HY := Lib.hid hY
  have hY6 : Y < 6 := by omega
  clear hop hY
  go_enter Tryz.func148, Tryz.ntmps148
  go_upto_region 1 with fail
  generalize hW : ((w.alloc (.cells #[] 64)).alloc _).alloc (.cells (perC x).toArray 61) = W
  have h3 := boxesC w ([.int .i64 d.op, .int .i64 d.x, .int .i64 d.y, .int .i64 d.n, .int .i64 p0, .int .i64 p1, .int .i64 nx] : List Value) x W hW
  clear hW
  obtain ⟨hb, hz, hn, hp⟩ := h3
  have c0 : W.cell? ⟨w.heap.size + 1, 0, none⟩ = some (.int .i64 op) := by rw [HOP.out]; exact (cell_of_block hn 0).trans rfl
  have c2 : W.cell? ⟨w.heap.size + 1, 2, none⟩ = some (.int .i64 (Y : Int)) := by rw [← HY.out]; exact (cell_of_block hn 2).trans rfl
  have c3 : W.cell? ⟨w.heap.size + 1, 3, none⟩ = some (.int .i64 d.n) := (cell_of_block hn 3).trans rfl
  have cy := hp.cell hY6
  have HB := Lib.hid hb
  have HZ := Lib.hid hz
  have yi0 : (0 : Int) ≤ (Y : Int) := by omega
  have yi1 : (Y : Int) < 6 := by omega
  have hpow : 2 ^ a < 18446744073709551616 := Nat.lt_trans (Nat.pow_lt_pow_right (by decide) ha : 2 ^ a < 2 ^ 61) (by decide)
  have hv : ∀ z : Nat, z = valZ 0 d a x → Ending.returned (Value.int .u64 (z : Int)) = .returned (.int .u64 (valZ 0 d a x : Nat)) := fun z h => by rw [h]
  have HV := Lib.hid hv
  clear hn hp hb hz hv hpow
  by_cases h2 : op = 2
  · subst h2
    have hw := with_any 0 a (by decide) (by omega) W
    go_wp2_with fail
    refine hw.mono ?_
    rintro E w2 ⟨rfl, hb2⟩
    have HB2 := Lib.hid (HB.out.trans (hb2.mono (by have := HZ.out; omega)))
    clear hw hb2
    go_wp2_with fail
    go_ret
    exact ⟨HV.out _ (by unfold valZ; rw [if_pos rfl, if_pos HOP.out.symm]), HB2.out⟩
  · have e2 : (op == 2) = false := by simp [h2]
    have d2 : decide (op = 2) = false := decide_eq_false h2
    have hn2 : ¬ d.op = 2 := fun e => h2 (HOP.out.trans e)
    have HN2 := Lib.hid hn2
    clear hn2
    by_cases h345 : op = 3 ∨ op = 4 ∨ op = 5
    · have H345 : Hid (d.op = 3 ∨ d.op = 4 ∨ d.op = 5) := by rw [← HOP.out]; exact h345
      obtain ⟨z, hz⟩ : ∃ z, z = x Y := ⟨_, rfl⟩
      rw [← hz] at cy
      have HZX := Lib.hid hz
      clear hz
      rcases h345 with rfl | rfl | rfl
      all_goals
        go_wp2_with fail
        go_ret
        exact ⟨HV.out _ (by unfold valZ; rw [if_pos rfl, if_neg HN2.out, if_pos H345.out, HZX.out, HY.out, Int.toNat_natCast]), by first | exact HB.out | exact HB.out.drew⟩
    · have H345 : Hid (¬ (d.op = 3 ∨ d.op = 4 ∨ d.op = 5)) := by rw [← HOP.out]; exact h345
      have e3 : (op == 3) = false := by simp; omega
      have e4 : (op == 4) = false := by simp; omega
      have e5 : (op == 5) = false := by simp; omega
      have d3 : decide (op = 3) = false := decide_eq_false (by omega)
      have d4 : decide (op = 4) = false := decide_eq_false (by omega)
      have d5 : decide (op = 5) = false := decide_eq_false (by omega)
      go_wp2_with fail
      go_ret
      exact ⟨HV.out _ (by unfold valZ; rw [if_pos rfl, if_neg HN2.out, if_neg H345.out]), by first | exact HB.out | exact HB.out.drew⟩

set_option maxRecDepth 100000 in
set_option maxHeartbeats 2000000 in
theorem setters_any (a : Nat) (d : Nd) (x : Nat → Nat) (p0 p1 nx : Int) (w : World) (ha : a < 61) (hy : 0 ≤ d.y ∧ d.y ≤ 5) (hx : ∀ v, x v < 2305843009213693952) :
    Calls Tryz.prog 150 #[.agg #[], .int .i64 a, .agg ([.int .i64 d.op, .int .i64 d.x, .int .i64 d.y, .int .i64 d.n, .int .i64 p0, .int .i64 p1, .int .i64 nx] : List Value).toArray, .agg (perC x).toArray] w fun E w' => E = .returned (.int .u64 (valZ 1 d a x : Nat)) ∧ Below w.heap.size w w' := by
  obtain ⟨Y, hY⟩ : ∃ Y : Nat, d.y = (Y : Int) := ⟨d.y.toNat, by omega⟩
  obtain ⟨op, hop⟩ : ∃ op, op = d.op := ⟨_, rfl⟩
  have HOP := Lib.hid hop
  have HY := Lib.hid hY
  have hY6 : Y < 6 := by omega
  clear hop hY
  go_enter Tryz.func150, Tryz.ntmps150
  go_upto_region 1 with fail
  generalize hW : ((w.alloc (.cells #[] 72)).alloc _).alloc (.cells (perC x).toArray 61) = W
  have h3 := boxesS w ([.int .i64 d.op, .int .i64 d.x, .int .i64 d.y, .int .i64 d.n, .int .i64 p0, .int .i64 p1, .int .i64 nx] : List Value) x W hW
  clear hW
  obtain ⟨hb, hz, hn, hp⟩ := h3
  have c0 : W.cell? ⟨w.heap.size + 1, 0, none⟩ = some (.int .i64 op) := by rw [HOP.out]; exact (cell_of_block hn 0).trans rfl
  have c2 : W.cell? ⟨w.heap.size + 1, 2, none⟩ = some (.int .i64 (Y : Int)) := by rw [← HY.out]; exact (cell_of_block hn 2).trans rfl
  have c3 : W.cell? ⟨w.heap.size + 1, 3, none⟩ = some (.int .i64 d.n) := (cell_of_block hn 3).trans rfl
  have cy := hp.cell hY6
  have HB := Lib.hid hb
  have HZ := Lib.hid hz
  have yi0 : (0 : Int) ≤ (Y : Int) := by omega
  have yi1 : (Y : Int) < 6 := by omega
  have hpow : 2 ^ a < 18446744073709551616 := Nat.lt_trans (Nat.pow_lt_pow_right (by decide) ha : 2 ^ a < 2 ^ 61) (by decide)
  have hv : ∀ z : Nat, z = valZ 1 d a x → Ending.returned (Value.int .u64 (z : Int)) = .returned (.int .u64 (valZ 1 d a x : Nat)) := fun z h => by rw [h]
  have HV := Lib.hid hv
  clear hn hp hb hz hv hpow
  have hw := with_any 0 a (by decide) (by omega) W
  go_wp2_with fail
  refine hw.mono ?_
  rintro E w2 ⟨rfl, hb2⟩
  have HB2 := Lib.hid (HB.out.trans (hb2.mono (by have := HZ.out; omega)))
  clear hw hb2
  go_wp2_with fail
  go_ret
  exact ⟨HV.out _ (by unfold valZ; rw [if_neg (by decide), if_pos rfl]), HB2.out⟩

set_option maxRecDepth 100000 in
set_option maxHeartbeats 2000000 in
theorem numbers_any (a : Nat) (d : Nd) (x : Nat → Nat) (p0 p1 nx : Int) (w : World) (ha : a < 61) (hy : 0 ≤ d.y ∧ d.y ≤ 5) (hn : d.op = 1 → 0 ≤ d.n ∧ d.n ≤ 9) (hx : ∀ v, x v < 2305843009213693952) :
    Calls Tryz.prog 149 #[.agg #[], .int .i64 a, .agg ([.int .i64 d.op, .int .i64 d.x, .int .i64 d.y, .int .i64 d.n, .int .i64 p0, .int .i64 p1, .int .i64 nx] : List Value).toArray, .agg (perC x).toArray] w fun E w' => E = .returned (.int .u64 (valZ 2 d a x : Nat)) ∧ Below w.heap.size w w' := by
  obtain ⟨Y, hY⟩ : ∃ Y : Nat, d.y = (Y : Int) := ⟨d.y.toNat, by omega⟩
  obtain ⟨op, hop⟩ : ∃ op, op = d.op := ⟨_, rfl⟩
  have HOP := Lib.hid hop
  have HY := Lib.hid hY
  have hY6 : Y < 6 := by omega
  clear hop hY
  go_enter Tryz.func149, Tryz.ntmps149
  go_upto_region 1 with fail
  generalize hW : ((w.alloc (.cells #[] 69)).alloc _).alloc (.cells (perC x).toArray 61) = W
  have h3 := boxesN w ([.int .i64 d.op, .int .i64 d.x, .int .i64 d.y, .int .i64 d.n, .int .i64 p0, .int .i64 p1, .int .i64 nx] : List Value) x W hW
  clear hW
  obtain ⟨hb, hz, hn, hp⟩ := h3
  have c0 : W.cell? ⟨w.heap.size + 1, 0, none⟩ = some (.int .i64 op) := by rw [HOP.out]; exact (cell_of_block hn 0).trans rfl
  have c2 : W.cell? ⟨w.heap.size + 1, 2, none⟩ = some (.int .i64 (Y : Int)) := by rw [← HY.out]; exact (cell_of_block hn 2).trans rfl
  have c3 : W.cell? ⟨w.heap.size + 1, 3, none⟩ = some (.int .i64 d.n) := (cell_of_block hn 3).trans rfl
  have cy := hp.cell hY6
  have HB := Lib.hid hb
  have HZ := Lib.hid hz
  have yi0 : (0 : Int) ≤ (Y : Int) := by omega
  have yi1 : (Y : Int) < 6 := by omega
  have hpow : 2 ^ a < 18446744073709551616 := Nat.lt_trans (Nat.pow_lt_pow_right (by decide) ha : 2 ^ a < 2 ^ 61) (by decide)
  have hv : ∀ z : Nat, z = valZ 2 d a x → Ending.returned (Value.int .u64 (z : Int)) = .returned (.int .u64 (valZ 2 d a x : Nat)) := fun z h => by rw [h]
  have HV := Lib.hid hv
  clear hn hp hb hz hv hpow
  have HNN := Lib.hid hn
  clear hn
  by_cases h1 : op = 1
  · subst h1
    have hn := HNN.out HOP.out.symm
    obtain ⟨M, hM⟩ : ∃ M : Nat, d.n = (M : Int) := ⟨d.n.toNat, by omega⟩
    have HM := Lib.hid hM
    rw [hM] at c3 hn
    clear hM
    have hw := with_any 0 M (by decide) (by omega) W
    go_wp2_with fail
    refine hw.mono ?_
    rintro E w2 ⟨rfl, hb2⟩
    have HB2 := Lib.hid (HB.out.trans (hb2.mono (by have := HZ.out; omega)))
    clear hw hb2
    go_wp2_with fail
    go_ret
    exact ⟨HV.out _ (by unfold valZ; rw [if_neg (by decide), if_neg (by decide), if_pos HOP.out.symm, HM.out, Int.toNat_natCast]), HB2.out⟩
  · have e1 : (op == 1) = false := by simp [h1]
    have d1 : decide (op = 1) = false := decide_eq_false h1
    have HN1 : Hid (¬ d.op = 1) := fun e => h1 (HOP.out.trans e)
    by_cases h3 : op = 3
    · obtain ⟨z, hz⟩ : ∃ z, z = x Y := ⟨_, rfl⟩
      rw [← hz] at cy
      have HZX := Lib.hid hz
      clear hz
      subst h3
      go_wp2_with fail
      go_ret
      exact ⟨HV.out _ (by unfold valZ; rw [if_neg (by decide), if_neg (by decide), if_neg HN1.out, if_pos HOP.out.symm, HZX.out, HY.out, Int.toNat_natCast]), by first | exact HB.out | exact HB.out.drew⟩
    · have e3 : (op == 3) = false := by simp [h3]
      have d3 : decide (op = 3) = false := decide_eq_false h3
      have HN3 : Hid (¬ d.op = 3) := fun e => h3 (HOP.out.trans e)
      by_cases h6 : op = 6
      · subst h6
        go_wp2_with fail
        go_ret
        exact ⟨HV.out _ (by unfold valZ; rw [if_neg (by decide), if_neg (by decide), if_neg HN1.out, if_neg HN3.out, if_pos HOP.out.symm]), by first | exact HB.out | exact HB.out.drew⟩
      · have e6 : (op == 6) = false := by simp [h6]
        have d6 : decide (op = 6) = false := decide_eq_false h6
        have HN6 : Hid (¬ d.op = 6) := fun e => h6 (HOP.out.trans e)
        go_wp2_with fail
        go_ret
        exact ⟨HV.out _ (by unfold valZ; rw [if_neg (by decide), if_neg (by decide), if_neg HN1.out, if_neg HN3.out, if_neg HN6.out]), by first | exact HB.out | exact HB.out.drew⟩

/-- The answer of a question. -/
theorem answer_any (q : Nat) (hq : q < 3) (a : Nat) (d : Nd) (x : Nat → Nat) (p0 p1 nx : Int) (w : World) (ha : a < 61) (hy : 0 ≤ d.y ∧ d.y ≤ 5) (hn : d.op = 1 → 0 ≤ d.n ∧ d.n ≤ 9) (hx : ∀ v, x v < 2305843009213693952) :
    Calls Tryz.prog (qF q) #[.agg #[], .int .i64 a, .agg ([.int .i64 d.op, .int .i64 d.x, .int .i64 d.y, .int .i64 d.n, .int .i64 p0, .int .i64 p1, .int .i64 nx] : List Value).toArray, .agg (perC x).toArray] w fun E w' => E = .returned (.int .u64 (valZ q d a x : Nat)) ∧ Below w.heap.size w w' := by
  match q, hq with
  | 0, _ => exact cells_any a d x p0 p1 nx w ha hy hx
  | 1, _ => exact setters_any a d x p0 p1 nx w ha hy hx
  | 2, _ => exact numbers_any a d x p0 p1 nx w ha hy hn hx

end Go.Proofs.YtnoejapnjhogaaaGreatDoor.tr
