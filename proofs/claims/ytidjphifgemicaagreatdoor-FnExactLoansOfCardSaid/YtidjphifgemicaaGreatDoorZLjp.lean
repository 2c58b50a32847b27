/-
  The product of the two lattices: what is least, and the union.
-/
import Derived.Test.YtidjphifgemicaaGreatDoorZLjn2
import Derived.Deep.RegionHeld3
namespace Go.Proofs.YtidjphifgemicaaGreatDoor.flowLent
open Go.RowKit Go.Deep
set_option linter.unusedVariables false

theorem build_lent (x : Nat → Nat) (w : World) : (Instr.build 74 #[(0, .agg (perC x).toArray), (1, .int .u64 (x 6 : Int))]).run Tryz.prog w = .ok (.agg (lentC x).toArray) w := run_build w 74 _ _ (by kernel_rfl)

theorem row7_set {W : World} {g : Nat} (x : Nat → Nat) (h : ∃ cs, W.heap[g]? = some (.cells cs 74 (0, 0)) ∧ cs.size = 7) : (W.setCells g 0 (lentC x)).heap[g]? = some (.cells (lentC x).toArray 74 (0, 0)) := by
  obtain ⟨cs, h1, h2⟩ := h
  have h3 := heap_setCells (lentC x) 0 W cs h1 (by rw [h2]; exact Nat.le_refl 7)
  rw [show lentC x = (lentC x).toArray.toList from rfl, setN_all cs (lentC x).toArray (by rw [h2]; rfl)] at h3
  exact h3

theorem row7_there {W : World} {g : Nat} (h : ∃ cs, W.heap[g]? = some (.cells cs 74 (0, 0)) ∧ cs.size = 7) : W.there g 0 7 := by
  obtain ⟨cs, h1, h2⟩ := h
  intro j hj
  refine ⟨?_, frozen_of_row _ _ _ _ _ h1⟩
  rw [cell_of_block h1, Array.getElem?_eq_getElem (by omega)]
  rfl

/-- The memory of least. -/
structure LS (w w' : World) : Prop where
  below : Below w.heap.size w w'
  p : w'.heap[w.heap.size]? = some (.cells #[.iface 150 (.agg #[]), .iface 151 (.agg #[])] 157 (0, 0))
  r : ∃ cs, w'.heap[w.heap.size + 1]? = some (.cells cs 74 (0, 0)) ∧ cs.size = 7

theorem LS.keep {w a b : World} (h : LS w a) (hb : Below a.heap.size a b) : LS w b := by
  obtain ⟨cs, r1, r2⟩ := h.r
  exact ⟨h.below.trans (hb.mono h.below.size), (hb.block _ (heap_lt h.p)).trans h.p, cs, (hb.block _ (heap_lt r1)).trans r1, r2⟩

theorem LS.put {w a : World} (h : LS w a) (x : Nat → Nat) : LS w (a.setCells (w.heap.size + 1) 0 (lentC x)) := by
  obtain ⟨cs, r1, r2⟩ := h.r
  have hl := heap_lt r1
  exact ⟨below_setCells h.below (by omega) (by omega), (World.heap_setCells_other _ _ _ _ (by omega) (by omega)).trans h.p, _, row7_set x h.r, rfl⟩

/-- The memory of join. -/
structure JS (x y : Nat → Nat) (w w' : World) : Prop where
  below : Below w.heap.size w w'
  p : w'.heap[w.heap.size]? = some (.cells #[.iface 150 (.agg #[]), .iface 151 (.agg #[])] 157 (0, 0))
  a : w'.heap[w.heap.size + 1]? = some (.cells (lentC x).toArray 74 (0, 0))
  b : w'.heap[w.heap.size + 1 + 1]? = some (.cells (lentC y).toArray 74 (0, 0))
  r : ∃ cs, w'.heap[w.heap.size + 1 + 1 + 1]? = some (.cells cs 74 (0, 0)) ∧ cs.size = 7

theorem JS.keep {x y : Nat → Nat} {w a b : World} (h : JS x y w a) (hb : Below a.heap.size a b) : JS x y w b := by
  obtain ⟨cs, r1, r2⟩ := h.r
  exact ⟨h.below.trans (hb.mono h.below.size), (hb.block _ (heap_lt h.p)).trans h.p, (hb.block _ (heap_lt h.a)).trans h.a, (hb.block _ (heap_lt h.b)).trans h.b, cs, (hb.block _ (heap_lt r1)).trans r1, r2⟩

theorem JS.put {x y : Nat → Nat} {w a : World} (h : JS x y w a) (z : Nat → Nat) : JS x y w (a.setCells (w.heap.size + 1 + 1 + 1) 0 (lentC z)) := by
  obtain ⟨cs, r1, r2⟩ := h.r
  have hl := heap_lt r1
  exact ⟨below_setCells h.below (by omega) (by omega), (World.heap_setCells_other _ _ _ _ (by omega) (by omega)).trans h.p, (World.heap_setCells_other _ _ _ _ (by omega) (by omega)).trans h.a, (World.heap_setCells_other _ _ _ _ (by omega) (by omega)).trans h.b, _, row7_set z h.r, rfl⟩

theorem row7_range {W : World} {g : Nat} {x : Nat → Nat} (h : W.heap[g]? = some (.cells (lentC x).toArray 74 (0, 0))) : W.rangeAt g 0 (perC x) := by
  intro j v hv
  have hj : j < 6 := (List.getElem?_eq_some_iff.mp hv).1
  rw [perC_get _ hj] at hv
  rw [Nat.zero_add, cell_of_block h, ← hv]
  simpa using lentC_get x (v := j) (by omega)

set_option maxRecDepth 100000 in
set_option maxHeartbeats 4000000 in
theorem prodLeast_any (w : World) : Calls Tryz.prog 179 #[bothV] w fun E w' => E = .returned (.agg (lentC (fun _ => 0)).toArray) ∧ Below w.heap.size w w' := by
  have hal := ahead_l
  have hml := at_l
  have hae := ahead_el
  have hme := at_el
  obtain ⟨hb, hz, h1, h2⟩ := two_new w (.cells #[.iface 150 (.agg #[]), .iface 151 (.agg #[])] 157) (.cells #[.int .u64 0, .int .u64 0, .int .u64 0, .int .u64 0, .int .u64 0, .int .u64 0, .int .u64 0] 74)
  unfold bothV
  go_enter Tryz.func179, Tryz.ntmps179
  go_wp2_with fail
  generalize (w.alloc (.cells #[.iface 150 (.agg #[]), .iface 151 (.agg #[])] 157)).alloc (.cells #[.int .u64 0, .int .u64 0, .int .u64 0, .int .u64 0, .int .u64 0, .int .u64 0, .int .u64 0] 74) = w1 at *
  have hS : LS w w1.drew := ⟨hb.drew, h1, _, h2, rfl⟩
  clear h1 h2 hb hz
  refine wp_region_held_drew (S := fun w' => LS w w') (by kernel_rfl) hS (fun hHeld => ?_)
  clear hS
  generalize w1.drew = wd at *
  refine wpAnyH_take (i := 0) (oi := { dst := some 3, op := Op.fieldAddr 157 (Operand.tmp 1) 0, type := 0, pos := "l4_loans.go:227", after := #[], guard := none }) (v := .pointer (some ⟨w.heap.size, 0, none⟩)) rfl (by kernel_rfl) (by kernel_rfl) (by kernel_rfl) (fun _ _ _ h => h) (Or.inl ⟨by rfl, fun w hSw => by go_simp⟩) hHeld ?_
  try simp only [Act.put, List.setIfInBounds_toArray, List.set_cons_zero, List.set_cons_succ]
  refine wpAnyH_take (i := 1) (oi := { dst := some 4, op := Op.load 153 (Operand.tmp 3), type := 153, pos := "l4_loans.go:227", after := #[{ on := 0, ground := Ground.data }], guard := none }) (v := .iface 150 (.agg #[])) rfl (by kernel_rfl) (by kernel_rfl) (by kernel_rfl) (fun _ _ _ h => h) (Or.inl ⟨by rfl, fun w9 hSw => by have h9 := (cell_of_block hSw.p 0); go_simp⟩) hHeld ?_
  try simp only [Act.put, List.setIfInBounds_toArray, List.set_cons_zero, List.set_cons_succ]
  refine wpAnyH_take (i := 3) (oi := { dst := some 6, op := Op.fieldAddr 157 (Operand.tmp 1) 1, type := 0, pos := "l4_loans.go:227", after := #[], guard := none }) (v := .pointer (some ⟨w.heap.size, 1, none⟩)) rfl (by kernel_rfl) (by kernel_rfl) (by kernel_rfl) (fun _ _ _ h => h) (Or.inl ⟨by rfl, fun w hSw => by go_simp⟩) hHeld ?_
  try simp only [Act.put, List.setIfInBounds_toArray, List.set_cons_zero, List.set_cons_succ]
  refine wpAnyH_take (i := 4) (oi := { dst := some 7, op := Op.load 155 (Operand.tmp 6), type := 155, pos := "l4_loans.go:227", after := #[{ on := 3, ground := Ground.data }], guard := none }) (v := .iface 151 (.agg #[])) rfl (by kernel_rfl) (by kernel_rfl) (by kernel_rfl) (fun _ _ _ h => h) (Or.inl ⟨by rfl, fun w9 hSw => by have h9 := (cell_of_block hSw.p 1); go_simp⟩) hHeld ?_
  try simp only [Act.put, List.setIfInBounds_toArray, List.set_cons_zero, List.set_cons_succ]
  refine wpAnyH_ready (rs := [2]) (by kernel_rfl) (by simp) ?_
  refine AllReadyH.cons (o := { dst := some 5, op := Op.call { callee := Callee.invoke (Operand.tmp 4) "loop.example/borrowcheck/impl.least", args := #[], argTypes := #[] }, type := 71, pos := "l4_loans.go:227", after := #[{ on := 1, ground := Ground.data }], guard := none }) rfl (fun K hK => ?_) AllReadyH.nil
  go_simp
  refine (eachLeast_any _).mono ?_
  rintro E w1 ⟨rfl, hb1⟩
  refine hK.out _ _ (hHeld.keep hb1) (fun hHeld => ?_)
  clear hK K
  refine wpAnyH_ready (rs := [5]) (by kernel_rfl) (by simp) ?_
  refine AllReadyH.cons (o := { dst := some 8, op := Op.call { callee := Callee.invoke (Operand.tmp 7) "loop.example/borrowcheck/impl.least", args := #[], argTypes := #[] }, type := 69, pos := "l4_loans.go:227", after := #[{ on := 4, ground := Ground.data }, { on := 2, ground := Ground.chain }], guard := none }) rfl (fun K hK => ?_) AllReadyH.nil
  go_simp
  refine (least_any _).mono ?_
  rintro E w2 ⟨rfl, hb2⟩
  refine hK.out _ _ (hHeld.keep hb2) (fun hHeld => ?_)
  clear hK K
  refine wpAnyH_take (i := 6) (oi := { dst := some 9, op := Op.build 74 #[(0, Operand.tmp 5), (1, Operand.tmp 8)], type := 74, pos := "l4_loans.go:227", after := #[{ on := 2, ground := Ground.data }, { on := 5, ground := Ground.data }], guard := none }) (v := .agg (lentC (fun _ => 0)).toArray) rfl (by kernel_rfl) (by kernel_rfl) (by kernel_rfl) (fun _ _ _ h => h) (Or.inl ⟨by rfl, fun w9 hSw => by have h9 := build_lent (fun _ => 0) w9; simpa [go_sem, perC] using h9⟩) hHeld ?_
  try simp only [Act.put, List.setIfInBounds_toArray, List.set_cons_zero, List.set_cons_succ]
  refine wpAnyH_ready (rs := [7]) (by kernel_rfl) (by simp) ?_
  refine AllReadyH.cons (o := { dst := none, op := Op.store 74 (Operand.tmp 2) (Operand.tmp 9), type := 0, pos := "l4_loans.go:227", after := #[{ on := 6, ground := Ground.data }, { on := 5, ground := Ground.chain }, { on := 0, ground := Ground.phase }, { on := 1, ground := Ground.phase }, { on := 2, ground := Ground.phase }, { on := 3, ground := Ground.phase }, { on := 4, ground := Ground.phase }, { on := 5, ground := Ground.phase }, { on := 6, ground := Ground.phase }], guard := none }) rfl (fun K hK => ?_) AllReadyH.nil
  rw [if_pos (by rfl)]
  refine wp_store_mid _ _ _ rfl (w.heap.size + 1) 0 (lentC (fun _ => 0)).toArray rfl rfl (row7_there hHeld.r) (by kernel_rfl) (lentC_one _) ?_
  simp only [Act.put]
  have hfin := Lib.hid (row7_set (fun _ => 0) hHeld.r)
  refine hK.out _ _ (hHeld.put _) (fun hHeld => ?_)
  clear hK K
  refine wpAnyH_done (by kernel_rfl) ?_ _
  go_wp2_with fail
  refine bodyPost_ret (v := .agg (lentC (fun _ => 0)).toArray) ?_ rfl ⟨rfl, hHeld.below⟩
  exact results_cell rfl Tryz.prog _ _ (w.heap.size + 1) _ rfl (load_lent hfin.out rfl)
theorem lentC6 (x : Nat → Nat) : (lentC x).toArray[6]? = some (.int .u64 (x 6 : Int)) := rfl

theorem four_lent (w : World) (x y : Nat → Nat) : JS x y w (((((w.alloc (.cells #[.iface 150 (.agg #[]), .iface 151 (.agg #[])] 157)).alloc (.cells (lentC x).toArray 74)).alloc (.cells (lentC y).toArray 74)).alloc (.cells #[.int .u64 0, .int .u64 0, .int .u64 0, .int .u64 0, .int .u64 0, .int .u64 0, .int .u64 0] 74)).drew) := by
  have b1 := (Below.refl w.heap.size w).alloc (Nat.le_refl _) (.cells #[.iface 150 (.agg #[]), .iface 151 (.agg #[])] 157)
  have b2 := b1.alloc (by simp) (.cells (lentC x).toArray 74)
  have b3 := b2.alloc (by simp; omega) (.cells (lentC y).toArray 74)
  have b4 := b3.alloc (by simp; omega) (.cells #[.int .u64 0, .int .u64 0, .int .u64 0, .int .u64 0, .int .u64 0, .int .u64 0, .int .u64 0] 74)
  have n1 := heap_alloc_new w (.cells #[.iface 150 (.agg #[]), .iface 151 (.agg #[])] 157)
  have n2 := heap_alloc_new (w.alloc (.cells #[.iface 150 (.agg #[]), .iface 151 (.agg #[])] 157)) (.cells (lentC x).toArray 74)
  have n3 := heap_alloc_new ((w.alloc (.cells #[.iface 150 (.agg #[]), .iface 151 (.agg #[])] 157)).alloc (.cells (lentC x).toArray 74)) (.cells (lentC y).toArray 74)
  have n4 := heap_alloc_new (((w.alloc (.cells #[.iface 150 (.agg #[]), .iface 151 (.agg #[])] 157)).alloc (.cells (lentC x).toArray 74)).alloc (.cells (lentC y).toArray 74)) (.cells #[.int .u64 0, .int .u64 0, .int .u64 0, .int .u64 0, .int .u64 0, .int .u64 0, .int .u64 0] 74)
  have k : ∀ (W : World) (o : Obj), Below W.heap.size W (W.alloc o) := fun W o => (Below.refl _ _).alloc (Nat.le_refl _) o
  have m1 := ((k _ (.cells #[.int .u64 0, .int .u64 0, .int .u64 0, .int .u64 0, .int .u64 0, .int .u64 0, .int .u64 0] 74)).block _ (heap_lt (((k _ (.cells (lentC y).toArray 74)).block _ (heap_lt (((k _ (.cells (lentC x).toArray 74)).block _ (heap_lt n1)).trans n1))).trans (((k _ (.cells (lentC x).toArray 74)).block _ (heap_lt n1)).trans n1)))).trans (((k _ (.cells (lentC y).toArray 74)).block _ (heap_lt (((k _ (.cells (lentC x).toArray 74)).block _ (heap_lt n1)).trans n1))).trans (((k _ (.cells (lentC x).toArray 74)).block _ (heap_lt n1)).trans n1))
  have m2 := ((k _ (.cells #[.int .u64 0, .int .u64 0, .int .u64 0, .int .u64 0, .int .u64 0, .int .u64 0, .int .u64 0] 74)).block _ (heap_lt (((k _ (.cells (lentC y).toArray 74)).block _ (heap_lt n2)).trans n2))).trans (((k _ (.cells (lentC y).toArray 74)).block _ (heap_lt n2)).trans n2)
  have m3 := ((k _ (.cells #[.int .u64 0, .int .u64 0, .int .u64 0, .int .u64 0, .int .u64 0, .int .u64 0, .int .u64 0] 74)).block _ (heap_lt n3)).trans n3
  have e2 : (w.alloc (.cells #[.iface 150 (.agg #[]), .iface 151 (.agg #[])] 157)).heap.size = w.heap.size + 1 := by simp
  have e3 : ((w.alloc (.cells #[.iface 150 (.agg #[]), .iface 151 (.agg #[])] 157)).alloc (.cells (lentC x).toArray 74)).heap.size = w.heap.size + 1 + 1 := by simp
  have e4 : (((w.alloc (.cells #[.iface 150 (.agg #[]), .iface 151 (.agg #[])] 157)).alloc (.cells (lentC x).toArray 74)).alloc (.cells (lentC y).toArray 74)).heap.size = w.heap.size + 1 + 1 + 1 := by simp
  rw [e2] at m2
  rw [e3] at m3
  rw [e4] at n4
  exact ⟨b4.drew, m1, m2, m3, #[.int .u64 0, .int .u64 0, .int .u64 0, .int .u64 0, .int .u64 0, .int .u64 0, .int .u64 0], n4, rfl⟩

set_option maxRecDepth 100000 in
set_option maxHeartbeats 4000000 in
theorem prodJoin_any (x y : Nat → Nat) (hx : ∀ v, x v < 2305843009213693952) (hy : ∀ v, y v < 2305843009213693952) (w : World) : Calls Tryz.prog 178 #[bothV, .agg (lentC x).toArray, .agg (lentC y).toArray] w fun E w' => E = .returned (.agg (lentC (fun v => x v ||| y v)).toArray) ∧ Below w.heap.size w w' := by
  have hal := ahead_j
  have hml := at_j
  have hae := ahead_ej
  have hme := at_ej
  have h4 := four_lent w x y
  unfold bothV
  go_enter Tryz.func178, Tryz.ntmps178
  go_wp2_with fail
  refine wp_region_held_drew (S := fun w' => JS x y w w') (by kernel_rfl) h4 (fun hHeld => ?_)
  clear h4
  generalize World.drew _ = wd at *
  refine wpAnyH_take (i := 0) (oi := { dst := some 7, op := Op.fieldAddr 157 (Operand.tmp 3) 0, type := 0, pos := "l4_loans.go:231", after := #[], guard := none }) (v := .pointer (some ⟨w.heap.size, 0, none⟩)) rfl (by kernel_rfl) (by kernel_rfl) (by kernel_rfl) (fun _ _ _ h => h) (Or.inl ⟨by rfl, fun w hSw => by go_simp⟩) hHeld ?_
  try simp only [Act.put, List.setIfInBounds_toArray, List.set_cons_zero, List.set_cons_succ]
  refine wpAnyH_take (i := 1) (oi := { dst := some 8, op := Op.load 153 (Operand.tmp 7), type := 153, pos := "l4_loans.go:231", after := #[{ on := 0, ground := Ground.data }], guard := none }) (v := .iface 150 (.agg #[])) rfl (by kernel_rfl) (by kernel_rfl) (by kernel_rfl) (fun _ _ _ h => h) (Or.inl ⟨by rfl, fun w9 hSw => by have h9 := (cell_of_block hSw.p 0); go_simp⟩) hHeld ?_
  try simp only [Act.put, List.setIfInBounds_toArray, List.set_cons_zero, List.set_cons_succ]
  refine wpAnyH_take (i := 2) (oi := { dst := some 9, op := Op.fieldAddr 74 (Operand.tmp 4) 0, type := 0, pos := "l4_loans.go:231", after := #[], guard := none }) (v := .pointer (some ⟨(w.heap.size + 1), 0, none⟩)) rfl (by kernel_rfl) (by kernel_rfl) (by kernel_rfl) (fun _ _ _ h => h) (Or.inl ⟨by rfl, fun w hSw => by go_simp⟩) hHeld ?_
  try simp only [Act.put, List.setIfInBounds_toArray, List.set_cons_zero, List.set_cons_succ]
  refine wpAnyH_take (i := 3) (oi := { dst := some 10, op := Op.load 71 (Operand.tmp 9), type := 71, pos := "l4_loans.go:231", after := #[{ on := 2, ground := Ground.data }], guard := none }) (v := .agg (perC x).toArray) rfl (by kernel_rfl) (by kernel_rfl) (by kernel_rfl) (fun _ _ _ h => h) (yieldsIf_load_mid (by rfl) _ _ rfl (w.heap.size + 1) 0 rfl (perC x) _ (fun w' h => row7_range h.a) Tryz.underlying71 rfl (by kernel_rfl)) hHeld ?_
  try simp only [Act.put, List.setIfInBounds_toArray, List.set_cons_zero, List.set_cons_succ]
  refine wpAnyH_take (i := 4) (oi := { dst := some 11, op := Op.fieldAddr 74 (Operand.tmp 5) 0, type := 0, pos := "l4_loans.go:231", after := #[], guard := none }) (v := .pointer (some ⟨(w.heap.size + 1 + 1), 0, none⟩)) rfl (by kernel_rfl) (by kernel_rfl) (by kernel_rfl) (fun _ _ _ h => h) (Or.inl ⟨by rfl, fun w hSw => by go_simp⟩) hHeld ?_
  try simp only [Act.put, List.setIfInBounds_toArray, List.set_cons_zero, List.set_cons_succ]
  refine wpAnyH_take (i := 5) (oi := { dst := some 12, op := Op.load 71 (Operand.tmp 11), type := 71, pos := "l4_loans.go:231", after := #[{ on := 4, ground := Ground.data }], guard := none }) (v := .agg (perC y).toArray) rfl (by kernel_rfl) (by kernel_rfl) (by kernel_rfl) (fun _ _ _ h => h) (yieldsIf_load_mid (by rfl) _ _ rfl (w.heap.size + 1 + 1) 0 rfl (perC y) _ (fun w' h => row7_range h.b) Tryz.underlying71 rfl (by kernel_rfl)) hHeld ?_
  try simp only [Act.put, List.setIfInBounds_toArray, List.set_cons_zero, List.set_cons_succ]
  refine wpAnyH_take (i := 7) (oi := { dst := some 14, op := Op.fieldAddr 157 (Operand.tmp 3) 1, type := 0, pos := "l4_loans.go:231", after := #[], guard := none }) (v := .pointer (some ⟨w.heap.size, 1, none⟩)) rfl (by kernel_rfl) (by kernel_rfl) (by kernel_rfl) (fun _ _ _ h => h) (Or.inl ⟨by rfl, fun w hSw => by go_simp⟩) hHeld ?_
  try simp only [Act.put, List.setIfInBounds_toArray, List.set_cons_zero, List.set_cons_succ]
  refine wpAnyH_take (i := 8) (oi := { dst := some 15, op := Op.load 155 (Operand.tmp 14), type := 155, pos := "l4_loans.go:231", after := #[{ on := 7, ground := Ground.data }], guard := none }) (v := .iface 151 (.agg #[])) rfl (by kernel_rfl) (by kernel_rfl) (by kernel_rfl) (fun _ _ _ h => h) (Or.inl ⟨by rfl, fun w9 hSw => by have h9 := (cell_of_block hSw.p 1); go_simp⟩) hHeld ?_
  try simp only [Act.put, List.setIfInBounds_toArray, List.set_cons_zero, List.set_cons_succ]
  refine wpAnyH_take (i := 9) (oi := { dst := some 16, op := Op.fieldAddr 74 (Operand.tmp 4) 1, type := 0, pos := "l4_loans.go:231", after := #[], guard := none }) (v := .pointer (some ⟨(w.heap.size + 1), 6, none⟩)) rfl (by kernel_rfl) (by kernel_rfl) (by kernel_rfl) (fun _ _ _ h => h) (Or.inl ⟨by rfl, fun w hSw => by go_simp⟩) hHeld ?_
  try simp only [Act.put, List.setIfInBounds_toArray, List.set_cons_zero, List.set_cons_succ]
  refine wpAnyH_take (i := 10) (oi := { dst := some 17, op := Op.load 69 (Operand.tmp 16), type := 69, pos := "l4_loans.go:231", after := #[{ on := 9, ground := Ground.data }], guard := none }) (v := .int .u64 (x 6 : Int)) rfl (by kernel_rfl) (by kernel_rfl) (by kernel_rfl) (fun _ _ _ h => h) (Or.inl ⟨by rfl, fun w9 hSw => by have h9 := (cell_of_block hSw.a 6).trans (lentC6 x); go_simp⟩) hHeld ?_
  try simp only [Act.put, List.setIfInBounds_toArray, List.set_cons_zero, List.set_cons_succ]
  refine wpAnyH_take (i := 11) (oi := { dst := some 18, op := Op.fieldAddr 74 (Operand.tmp 5) 1, type := 0, pos := "l4_loans.go:231", after := #[], guard := none }) (v := .pointer (some ⟨(w.heap.size + 1 + 1), 6, none⟩)) rfl (by kernel_rfl) (by kernel_rfl) (by kernel_rfl) (fun _ _ _ h => h) (Or.inl ⟨by rfl, fun w hSw => by go_simp⟩) hHeld ?_
  try simp only [Act.put, List.setIfInBounds_toArray, List.set_cons_zero, List.set_cons_succ]
  refine wpAnyH_take (i := 12) (oi := { dst := some 19, op := Op.load 69 (Operand.tmp 18), type := 69, pos := "l4_loans.go:231", after := #[{ on := 11, ground := Ground.data }], guard := none }) (v := .int .u64 (y 6 : Int)) rfl (by kernel_rfl) (by kernel_rfl) (by kernel_rfl) (fun _ _ _ h => h) (Or.inl ⟨by rfl, fun w9 hSw => by have h9 := (cell_of_block hSw.b 6).trans (lentC6 y); go_simp⟩) hHeld ?_
  try simp only [Act.put, List.setIfInBounds_toArray, List.set_cons_zero, List.set_cons_succ]
  refine wpAnyH_ready (rs := [6]) (by kernel_rfl) (by simp) ?_
  refine AllReadyH.cons (o := { dst := some 13, op := Op.call { callee := Callee.invoke (Operand.tmp 8) "loop.example/borrowcheck/impl.join", args := #[Operand.tmp 10, Operand.tmp 12], argTypes := #[71, 71] }, type := 71, pos := "l4_loans.go:231", after := #[{ on := 1, ground := Ground.data }, { on := 3, ground := Ground.data }, { on := 5, ground := Ground.data }], guard := none }) rfl (fun K hK => ?_) AllReadyH.nil
  go_simp
  refine (eachJoin_any x y hx hy _).mono ?_
  rintro E w1 ⟨rfl, hb1⟩
  refine hK.out _ _ (hHeld.keep hb1) (fun hHeld => ?_)
  clear hK K
  refine wpAnyH_ready (rs := [13]) (by kernel_rfl) (by simp) ?_
  refine AllReadyH.cons (o := { dst := some 20, op := Op.call { callee := Callee.invoke (Operand.tmp 15) "loop.example/borrowcheck/impl.join", args := #[Operand.tmp 17, Operand.tmp 19], argTypes := #[69, 69] }, type := 69, pos := "l4_loans.go:231", after := #[{ on := 8, ground := Ground.data }, { on := 10, ground := Ground.data }, { on := 12, ground := Ground.data }, { on := 6, ground := Ground.chain }], guard := none }) rfl (fun K hK => ?_) AllReadyH.nil
  go_simp
  refine (join_any (x 6) (y 6) (by have := hx 6; omega) (by have := hy 6; omega) _).mono ?_
  rintro E w2 ⟨rfl, hb2⟩
  refine hK.out _ _ (hHeld.keep hb2) (fun hHeld => ?_)
  clear hK K
  refine wpAnyH_take (i := 14) (oi := { dst := some 21, op := Op.build 74 #[(0, Operand.tmp 13), (1, Operand.tmp 20)], type := 74, pos := "l4_loans.go:231", after := #[{ on := 6, ground := Ground.data }, { on := 13, ground := Ground.data }], guard := none }) (v := .agg (lentC (fun v => x v ||| y v)).toArray) rfl (by kernel_rfl) (by kernel_rfl) (by kernel_rfl) (fun _ _ _ h => h) (Or.inl ⟨by rfl, fun w9 hSw => by have h9 := build_lent (fun v => x v ||| y v) w9; simpa [go_sem, perC] using h9⟩) hHeld ?_
  try simp only [Act.put, List.setIfInBounds_toArray, List.set_cons_zero, List.set_cons_succ]
  refine wpAnyH_ready (rs := [15]) (by kernel_rfl) (by simp) ?_
  refine AllReadyH.cons (o := { dst := none, op := Op.store 74 (Operand.tmp 6) (Operand.tmp 21), type := 0, pos := "l4_loans.go:231", after := #[{ on := 14, ground := Ground.data }, { on := 13, ground := Ground.chain }, { on := 0, ground := Ground.phase }, { on := 1, ground := Ground.phase }, { on := 2, ground := Ground.phase }, { on := 3, ground := Ground.phase }, { on := 4, ground := Ground.phase }, { on := 5, ground := Ground.phase }, { on := 6, ground := Ground.phase }, { on := 7, ground := Ground.phase }, { on := 8, ground := Ground.phase }, { on := 9, ground := Ground.phase }, { on := 10, ground := Ground.phase }, { on := 11, ground := Ground.phase }, { on := 12, ground := Ground.phase }, { on := 13, ground := Ground.phase }, { on := 14, ground := Ground.phase }], guard := none }) rfl (fun K hK => ?_) AllReadyH.nil
  rw [if_pos (by rfl)]
  refine wp_store_mid _ _ _ rfl (w.heap.size + 1 + 1 + 1) 0 (lentC (fun v => x v ||| y v)).toArray rfl rfl (row7_there hHeld.r) (by kernel_rfl) (lentC_one _) ?_
  simp only [Act.put]
  have hfin := Lib.hid (row7_set (fun v => x v ||| y v) hHeld.r)
  refine hK.out _ _ (hHeld.put _) (fun hHeld => ?_)
  clear hK K
  refine wpAnyH_done (by kernel_rfl) ?_ _
  go_wp2_with fail
  refine bodyPost_ret (v := .agg (lentC (fun v => x v ||| y v)).toArray) ?_ rfl ⟨rfl, hHeld.below⟩
  exact results_cell rfl Tryz.prog _ _ (w.heap.size + 1 + 1 + 1) _ rfl (load_lent hfin.out rfl)

end Go.Proofs.YtidjphifgemicaaGreatDoor.flowLent
