/-
  The program's two courses through a graph.
-/
import Derived.Test.YtbffldgiccijlaaGreatDoorZStmtY
import Derived.Test.YtbffldgiccijlaaGreatDoorZGrX
import Derived.Test.YtbffldgiccijlaaGreatDoorZEffW
import Derived.Deep.Upon
namespace Go.Proofs.YtbffldgiccijlaaGreatDoor
open Go.RowKit Go.Deep
set_option linter.unusedVariables false

set_option maxHeartbeats 1000000 in
theorem last_any (C q : Nat) (ns : List Nd) (w : World) (hG : Gr C w ns) (hq : ns.length = q + 1) :
    Calls Tryz.prog 102 #[.pointer (some ⟨C, 0, none⟩)] w fun E w' => E = .returned (.int .i64 q) ∧ Below w.heap.size w w' := by
  have hc := hG.count
  have hle := hG.le
  rw [hq] at hc
  have e : ((q + 1 : Nat) : Int) = (q : Int) + 1 := by omega
  rw [e] at hc
  have e2 : ((q : Int) + 1 - 1) = q := by omega
  clear hG
  go_enter Tryz.func102, Tryz.ntmps102
  go_wp2_with fail
  try simp only [e2]
  go_ret
  exact ⟨rfl, by first | exact Below.refl _ _ | exact (Below.refl _ _).drew⟩

/-- The set of the first n numbers. -/
def firstSet (n : Nat) : Nat := 2 ^ n - 1

/-- A course as a value. -/
def coursV (first n : Nat) (xs : Array Value) : Value := .agg (#[.int .i64 first, .int .u64 (firstSet n)] ++ xs)

def CoursPost (ns : List Nd) (w : World) (E : Ending) (w' : World) : Prop := ∃ (xs ys : Array Value) (ah bk : Nat → Nat), E = .returned (.tuple #[coursV 0 ns.length xs, coursV (ns.length - 1) ns.length ys]) ∧ SetRow xs ah ∧ SetRow ys bk ∧ Sets2 (Edge ns ns.length 0) ah bk ∧ Below w.heap.size w w'

/-- A row written over as a whole, or from a place on. -/
theorem heap_setCells {b : Nat} {t : TypeId} : ∀ (vs : List Value) (o : Nat) (w : World) (cs : Array Value), w.heap[b]? = some (.cells cs t (0, 0)) → o + vs.length ≤ cs.size → (w.setCells b o vs).heap[b]? = some (.cells (setN cs o vs) t (0, 0))
  | [], o, w, cs, h, _ => h
  | v :: vs, o, w, cs, h, hz => by
    rw [World.setCells, setN]
    simp only [List.length_cons] at hz
    exact heap_setCells vs (o + 1) _ _ (heap_setCell_same w b o cs t v h) (by simp; omega)

theorem setN_all (cs xs : Array Value) (h : cs.size = xs.size) : setN cs 0 xs.toList = xs := by
  apply Array.ext_getElem?
  intro i
  rw [setN_get _ _ _ _ (by simp; omega)]
  by_cases hi : i < xs.size
  · rw [if_pos ⟨Nat.zero_le _, by simpa using hi⟩]
    simp
  · rw [if_neg (by simp; omega), Array.getElem?_eq_none (by omega), Array.getElem?_eq_none (by omega)]

theorem there_row {W : World} {g n : Nat} {cs : Array Value} {t : TypeId} (h : W.heap[g]? = some (.cells cs t (0, 0))) (hz : cs.size = n) : W.there g 0 n := by
  intro j hj
  rw [Nat.zero_add]
  refine ⟨?_, frozen_of_row _ _ _ _ _ h⟩
  rw [cell_of_block h, Array.getElem?_eq_getElem (by omega)]
  rfl

theorem range_row {W : World} {g : Nat} {cs : Array Value} {t : TypeId} (h : W.heap[g]? = some (.cells cs t (0, 0))) : W.rangeAt g 0 cs.toList := by
  intro j v hj
  rw [Nat.zero_add, cell_of_block h]
  simpa using hj

theorem shl_pred (n : Nat) (hn : n ≤ 61) : IntKind.u64.wrap (IntKind.u64.wrap ((2 : Int) ^ n) - 1) = ((firstSet n : Nat) : Int) := by
  have h1 : 2 ^ n ≤ 2 ^ 61 := Nat.pow_le_pow_right (by decide) hn
  have h2 : 1 ≤ 2 ^ n := Nat.one_le_two_pow
  have e : ((2 ^ n : Nat) : Int) = (2 : Int) ^ n := by simp
  have h3 : ((2 ^ n - 1 : Nat) : Int) = (2 : Int) ^ n - 1 := by rw [← e]; omega
  unfold firstSet
  rw [h3, ← e]
  generalize 2 ^ n = d at *
  rw [IntKind.wrap_u64, IntKind.wrap_u64]
  omega

theorem foldl_zip (o : Nat) : ∀ (l : List Value) (k : Nat) (cs : Array Value), List.foldl (fun (cs : Array Value) (x : Value × Nat) => cs.setIfInBounds (o + x.snd) x.fst) cs (l.zipIdx k) = setN cs (o + k) l
  | [], k, cs => rfl
  | v :: l, k, cs => by
    rw [List.zipIdx_cons, List.foldl_cons, foldl_zip o l (k + 1), setN]
    rfl

theorem foldl_cells (xs : Array Value) (o : Nat) (cs : Array Value) (n : Nat) (hn : xs.size = n) : Array.foldl (fun (cs : Array Value) (x : Value × Nat) => cs.setIfInBounds (o + x.snd) x.fst) cs xs.zipIdx 0 n = setN cs o xs.toList := by
  have h := foldl_zip o xs.toList 0 cs
  rw [Nat.add_zero] at h
  rw [← h, ← Array.toList_zipIdx, Array.foldl_toList, ← hn, ← Array.size_zipIdx (xs := xs) (k := 0)]

/-- A course, put together. -/
theorem cours_lit (a b : Value) (xs : Array Value) (hx : xs.size = 61) : Array.foldl (fun (cs : Array Value) (x : Value × Nat) => cs.setIfInBounds (2 + x.snd) x.fst) #[a, b, .int .u64 0, .int .u64 0, .int .u64 0, .int .u64 0, .int .u64 0, .int .u64 0, .int .u64 0, .int .u64 0, .int .u64 0, .int .u64 0, .int .u64 0, .int .u64 0, .int .u64 0, .int .u64 0, .int .u64 0, .int .u64 0, .int .u64 0, .int .u64 0, .int .u64 0, .int .u64 0, .int .u64 0, .int .u64 0, .int .u64 0, .int .u64 0, .int .u64 0, .int .u64 0, .int .u64 0, .int .u64 0, .int .u64 0, .int .u64 0, .int .u64 0, .int .u64 0, .int .u64 0, .int .u64 0, .int .u64 0, .int .u64 0, .int .u64 0, .int .u64 0, .int .u64 0, .int .u64 0, .int .u64 0, .int .u64 0, .int .u64 0, .int .u64 0, .int .u64 0, .int .u64 0, .int .u64 0, .int .u64 0, .int .u64 0, .int .u64 0, .int .u64 0, .int .u64 0, .int .u64 0, .int .u64 0, .int .u64 0, .int .u64 0, .int .u64 0, .int .u64 0, .int .u64 0, .int .u64 0, .int .u64 0] xs.zipIdx 0 61 = #[a, b] ++ xs := by
  rw [foldl_cells xs 2 _ 61 hx]
  apply Array.ext_getElem?
  intro i
  rw [setN_get _ _ _ _ (by simp [hx])]
  by_cases hi : 2 ≤ i ∧ i < 2 + xs.toList.length
  · rw [if_pos hi, Array.getElem?_append_right (by simp; omega)]
    simp
  · rw [if_neg hi]
    have hl : xs.toList.length = 61 := by simpa using hx
    by_cases h2 : i < 2
    · rw [Array.getElem?_append_left (by simpa using h2)]
      have : i = 0 ∨ i = 1 := by omega
      rcases this with rfl | rfl <;> rfl
    · rw [Array.getElem?_eq_none (by simp; omega), Array.getElem?_eq_none (by simp; omega)]

/-- No course. -/
def noCours : Array Value := #[.int .i64 0, .int .u64 0, .int .u64 0, .int .u64 0, .int .u64 0, .int .u64 0, .int .u64 0, .int .u64 0, .int .u64 0, .int .u64 0, .int .u64 0, .int .u64 0, .int .u64 0, .int .u64 0, .int .u64 0, .int .u64 0, .int .u64 0, .int .u64 0, .int .u64 0, .int .u64 0, .int .u64 0, .int .u64 0, .int .u64 0, .int .u64 0, .int .u64 0, .int .u64 0, .int .u64 0, .int .u64 0, .int .u64 0, .int .u64 0, .int .u64 0, .int .u64 0, .int .u64 0, .int .u64 0, .int .u64 0, .int .u64 0, .int .u64 0, .int .u64 0, .int .u64 0, .int .u64 0, .int .u64 0, .int .u64 0, .int .u64 0, .int .u64 0, .int .u64 0, .int .u64 0, .int .u64 0, .int .u64 0, .int .u64 0, .int .u64 0, .int .u64 0, .int .u64 0, .int .u64 0, .int .u64 0, .int .u64 0, .int .u64 0, .int .u64 0, .int .u64 0, .int .u64 0, .int .u64 0, .int .u64 0, .int .u64 0, .int .u64 0]

theorem noCours_size : noCours.size = 63 := by kernel_rfl

theorem cours_one (a : Nat) (b : Nat) (xs : Array Value) (f : Nat → Nat) (hx : SetRow xs f) : (#[Value.int .i64 (a : Int), .int .u64 (b : Int)] ++ xs.toList.toArray).all (·.oneCell') = true := by
  rw [Array.all_append]
  have h2 : xs.toList.toArray = xs := by simp
  have h1 : xs.all (·.oneCell') = true := by
    rw [Array.all_eq_true_iff_forall_mem]
    intro u hu
    exact sets_one hx.1 f hx.2 u (Array.mem_toList_iff.mpr hu)
  rw [h2, h1]
  simp [Value.oneCell']

/-- What holds all along the last statement. -/
structure CoursAt (C : Nat) (ns : List Nd) (w w1 : World) (xs ys : Array Value) (w' : World) : Prop where
  gr : Gr C w' ns
  rowA : w'.heap[w1.heap.size]? = some (.cells xs 50 (0, 0))
  rowB : w'.heap[w1.heap.size + 1]? = some (.cells ys 50 (0, 0))
  outA : ∃ cs, w'.heap[w.heap.size]? = some (.cells cs 78 (0, 0)) ∧ cs.size = 63
  outB : ∃ cs, w'.heap[w.heap.size + 1]? = some (.cells cs 78 (0, 0)) ∧ cs.size = 63
  below : Below w.heap.size w w'
  size : w1.heap.size + 2 ≤ w'.heap.size

theorem CoursAt.keep {C : Nat} {ns : List Nd} {w w1 : World} {xs ys : Array Value} {a b : World} (h : CoursAt C ns w w1 xs ys a) (h1 : w.heap.size + 2 ≤ w1.heap.size) (hC : C < w.heap.size) (hb : Below a.heap.size a b) : CoursAt C ns w w1 xs ys b := by
  have hs := h.size
  have hs' := hb.size
  refine ⟨h.gr.kept (hb.block C (by omega)), ?_, ?_, ?_, ?_, h.below.trans (hb.mono (by omega)), by omega⟩
  · rw [hb.block _ (by omega)]; exact h.rowA
  · rw [hb.block _ (by omega)]; exact h.rowB
  · rw [hb.block _ (by omega)]; exact h.outA
  · rw [hb.block _ (by omega)]; exact h.outB

theorem size_setCells (b : Nat) : ∀ (vs : List Value) (o : Nat) (w : World), (w.setCells b o vs).heap.size = w.heap.size
  | [], o, w => rfl
  | v :: vs, o, w => by
    rw [World.setCells, size_setCells b vs]
    simp [World.setCell]

theorem tape_setCells (b : Nat) : ∀ (vs : List Value) (o : Nat) (w : World), (w.setCells b o vs).tape = w.tape
  | [], o, w => rfl
  | v :: vs, o, w => by
    rw [World.setCells, tape_setCells b vs]
    rfl

theorem below_setCells {B b o : Nat} {w w' : World} {vs : List Value} (h : Below B w w') (hb : B ≤ b) (hB : B ≤ w'.heap.size) : Below B w (w'.setCells b o vs) :=
  ⟨(World.os_setCells _ _ _ _).trans h.os, (tape_setCells _ _ _ _).trans h.tape, (World.output_setCells _ _ _ _).trans h.output, by rw [size_setCells]; exact h.size, fun k hk => (World.heap_setCells_other _ _ _ _ (by omega) (by omega)).trans (h.block k hk)⟩

theorem CoursAt.putA {C : Nat} {ns : List Nd} {w w1 : World} {xs ys : Array Value} {a : World} (h : CoursAt C ns w w1 xs ys a) (h1 : w.heap.size + 2 ≤ w1.heap.size) (hC : C < w.heap.size) {vs : Array Value} (hv : vs.size = 63) :
    CoursAt C ns w w1 xs ys (a.setCells w.heap.size 0 vs.toList) ∧ (a.setCells w.heap.size 0 vs.toList).heap[w.heap.size]? = some (.cells vs 78 (0, 0)) := by
  have hs := h.size
  obtain ⟨cs, hc, hz⟩ := h.outA
  have hn := heap_setCells vs.toList 0 a cs hc (by simp [hv, hz])
  rw [setN_all cs vs (by omega)] at hn
  refine ⟨⟨h.gr.kept (World.heap_setCells_other _ _ _ _ (by omega) (by omega)), ?_, ?_, ⟨_, hn, hv⟩, ?_, below_setCells h.below (Nat.le_refl _) (by omega), by rw [size_setCells]; exact hs⟩, hn⟩
  · rw [World.heap_setCells_other _ _ _ _ (by omega) (by omega)]; exact h.rowA
  · rw [World.heap_setCells_other _ _ _ _ (by omega) (by omega)]; exact h.rowB
  · rw [World.heap_setCells_other _ _ _ _ (by omega) (by omega)]; exact h.outB

theorem CoursAt.putB {C : Nat} {ns : List Nd} {w w1 : World} {xs ys : Array Value} {a : World} (h : CoursAt C ns w w1 xs ys a) (h1 : w.heap.size + 2 ≤ w1.heap.size) (hC : C < w.heap.size) {vs : Array Value} (hv : vs.size = 63) :
    CoursAt C ns w w1 xs ys (a.setCells (w.heap.size + 1) 0 vs.toList) ∧ (a.setCells (w.heap.size + 1) 0 vs.toList).heap[w.heap.size + 1]? = some (.cells vs 78 (0, 0)) ∧ (a.setCells (w.heap.size + 1) 0 vs.toList).heap[w.heap.size]? = a.heap[w.heap.size]? := by
  have hs := h.size
  obtain ⟨cs, hc, hz⟩ := h.outB
  have hn := heap_setCells vs.toList 0 a cs hc (by simp [hv, hz])
  rw [setN_all cs vs (by omega)] at hn
  refine ⟨⟨h.gr.kept (World.heap_setCells_other _ _ _ _ (by omega) (by omega)), ?_, ?_, ?_, ⟨_, hn, hv⟩, below_setCells h.below (by omega) (by omega), by rw [size_setCells]; exact hs⟩, hn, World.heap_setCells_other _ _ _ _ (by omega) (by omega)⟩
  · rw [World.heap_setCells_other _ _ _ _ (by omega) (by omega)]; exact h.rowA
  · rw [World.heap_setCells_other _ _ _ _ (by omega) (by omega)]; exact h.rowB
  · rw [World.heap_setCells_other _ _ _ _ (by omega) (by omega)]; exact h.outA

set_option maxRecDepth 100000 in
set_option maxHeartbeats 4000000 in
theorem courses_any (C q : Nat) (ns : List Nd) (w : World) (hD : PtsOk q ns) (hG : Gr C w ns) :
    Calls Tryz.prog 83 #[.pointer (some ⟨C, 0, none⟩)] w (CoursPost ns w) := by
  have hle := hG.le
  have hC := hG.lt
  have hn := hD.1
  obtain ⟨hb0, hz, hB1, hB2⟩ := two_new w (.cells noCours 78) (.cells noCours 78)
  have HG := Lib.hid hG
  have HD := Lib.hid hD
  clear hG hD
  go_enter Tryz.func83, Tryz.ntmps83
  go_wp2_with fail
  unfold noCours at hb0 hz hB1 hB2
  generalize hw0 : (w.alloc (.cells #[.int .i64 0, .int .u64 0, .int .u64 0, .int .u64 0, .int .u64 0, .int .u64 0, .int .u64 0, .int .u64 0, .int .u64 0, .int .u64 0, .int .u64 0, .int .u64 0, .int .u64 0, .int .u64 0, .int .u64 0, .int .u64 0, .int .u64 0, .int .u64 0, .int .u64 0, .int .u64 0, .int .u64 0, .int .u64 0, .int .u64 0, .int .u64 0, .int .u64 0, .int .u64 0, .int .u64 0, .int .u64 0, .int .u64 0, .int .u64 0, .int .u64 0, .int .u64 0, .int .u64 0, .int .u64 0, .int .u64 0, .int .u64 0, .int .u64 0, .int .u64 0, .int .u64 0, .int .u64 0, .int .u64 0, .int .u64 0, .int .u64 0, .int .u64 0, .int .u64 0, .int .u64 0, .int .u64 0, .int .u64 0, .int .u64 0, .int .u64 0, .int .u64 0, .int .u64 0, .int .u64 0, .int .u64 0, .int .u64 0, .int .u64 0, .int .u64 0, .int .u64 0, .int .u64 0, .int .u64 0, .int .u64 0, .int .u64 0, .int .u64 0] 78)).alloc (.cells #[.int .i64 0, .int .u64 0, .int .u64 0, .int .u64 0, .int .u64 0, .int .u64 0, .int .u64 0, .int .u64 0, .int .u64 0, .int .u64 0, .int .u64 0, .int .u64 0, .int .u64 0, .int .u64 0, .int .u64 0, .int .u64 0, .int .u64 0, .int .u64 0, .int .u64 0, .int .u64 0, .int .u64 0, .int .u64 0, .int .u64 0, .int .u64 0, .int .u64 0, .int .u64 0, .int .u64 0, .int .u64 0, .int .u64 0, .int .u64 0, .int .u64 0, .int .u64 0, .int .u64 0, .int .u64 0, .int .u64 0, .int .u64 0, .int .u64 0, .int .u64 0, .int .u64 0, .int .u64 0, .int .u64 0, .int .u64 0, .int .u64 0, .int .u64 0, .int .u64 0, .int .u64 0, .int .u64 0, .int .u64 0, .int .u64 0, .int .u64 0, .int .u64 0, .int .u64 0, .int .u64 0, .int .u64 0, .int .u64 0, .int .u64 0, .int .u64 0, .int .u64 0, .int .u64 0, .int .u64 0, .int .u64 0, .int .u64 0, .int .u64 0] 78) = w0 at hb0 hz hB1 hB2 ⊢
  clear hw0
  have hst := steps_any C q ns w0 HD.out (HG.out.kept (hb0.block C hC))
  refine hst.mono ?_
  rintro E w1 ⟨xs, ys, ah, bk, rfl, hx, hy, hs2, hb1⟩
  have hs1 := hb1.size
  have HG1 := Lib.hid (HG.out.kept ((hb1.block C (by omega)).trans (hb0.block C hC)))
  have hc1 := HG1.out.count
  obtain ⟨W5, W6, s1, s2, hb6, h6a, h6b, hz6⟩ := lay_two w1 xs ys ah bk hx hy
  unfold noSets at s1
  have hxz := hx.1
  have hyz := hy.1
  have HX := Lib.hid hx
  have HY := Lib.hid hy
  have HS := Lib.hid hs2
  have hb16 : Below w0.heap.size w0 W6 := hb1.trans (hb6.mono (by omega))
  have HG6 := Lib.hid (HG1.out.kept (hb6.block C (by omega)))
  have hc6 := HG6.out.count
  have hlast := last_any C q ns W6 HG6.out hn
  clear hx hy hs2 hst hc1
  go_wp2_with fail
  have hsetn : IntKind.u64.wrap (IntKind.u64.wrap ((2 : Int) ^ (q + 1)) - 1) = ((firstSet (q + 1) : Nat) : Int) := shl_pred (q + 1) (by omega)
  rw [hsetn]
  have hu := Tryz.underlying50
  have hsz : (Tryz.prog.info? 50).map (·.size) = some 61 := by kernel_rfl
  have rA := range_row h6a
  have rB := range_row h6b
  have HB1 := Lib.hid (((hb16.block w.heap.size (by omega))).trans hB1)
  have HB2 := Lib.hid (((hb16.block (w.heap.size + 1) (by omega))).trans hB2)
  have tA := there_row HB1.out (n := 63) (by kernel_rfl)
  have tB := there_row HB2.out (n := 63) (by kernel_rfl)
  obtain ⟨la, hla⟩ : ∃ la, la = xs.toList := ⟨_, rfl⟩
  obtain ⟨lb, hlb⟩ : ∃ lb, lb = ys.toList := ⟨_, rfl⟩
  have nLA : la.length = 61 := by rw [hla]; simpa using hxz
  have nLB : lb.length = 61 := by rw [hlb]; simpa using hyz
  rw [← hla] at rA
  rw [← hlb] at rB
  have hGd := HG6.out.drew
  have hbw6 : Below w.heap.size w W6 := hb0.trans (hb16.mono (by omega))
  refine wp_region_held_drew (S := CoursAt C ns w w1 xs ys) (by kernel_rfl) ⟨hGd, h6a, h6b, ⟨_, HB1.out, by kernel_rfl⟩, ⟨_, HB2.out, by kernel_rfl⟩, ⟨hbw6.os, hbw6.tape, hbw6.output, hbw6.size, hbw6.block⟩, by show w1.heap.size + 2 ≤ W6.heap.size; omega⟩ (fun hHeld => ?_)
  have hzc8 : (#[Value.int .i64 0, .int .u64 ((firstSet (q + 1) : Nat) : Int)] ++ xs.toList.toArray).size = 63 := by simp [hxz]
  have hzc9 : (#[Value.int .i64 (q : Int), .int .u64 ((firstSet (q + 1) : Nat) : Int)] ++ ys.toList.toArray).size = 63 := by simp [hyz]
  have hoc8 := cours_one 0 (firstSet (q + 1)) xs ah HX.out
  have hoc9 := cours_one q (firstSet (q + 1)) ys bk HY.out
  refine wpAnyH_take (i := 0) (oi := ⟨_, _, _, _, _, _⟩) (v := .int .u64 ((firstSet (q + 1) : Nat) : Int)) rfl (by kernel_rfl) (by kernel_rfl) (by kernel_rfl) (fun _ _ _ h => h) (Or.inl ⟨by rfl, fun w hSw => by go_simp⟩) hHeld ?_
  try simp only [Act.put, List.setIfInBounds_toArray, List.set_cons_zero, List.set_cons_succ]
  refine wpAnyH_take (i := 1) (oi := ⟨_, _, _, _, _, _⟩) (v := .agg xs.toList.toArray) rfl (by kernel_rfl) (by kernel_rfl) (by kernel_rfl) (fun _ _ _ h => h)
    (yieldsIf_load_mid (by rfl) _ _ rfl w1.heap.size 0 rfl xs.toList _ (fun w' h => range_row h.rowA) hu rfl (by rw [hsz]; simp [HX.out.1])) hHeld ?_
  try simp only [Act.put, List.setIfInBounds_toArray, List.set_cons_zero, List.set_cons_succ]
  refine wpAnyH_take (i := 2) (oi := ⟨_, _, _, _, _, _⟩) (v := .agg (#[.int .i64 0, .int .u64 ((firstSet (q + 1) : Nat) : Int)] ++ xs.toList.toArray)) rfl (by kernel_rfl) (by kernel_rfl) (by kernel_rfl) (fun _ _ _ h => h) (Or.inl ⟨by rfl, fun w hSw => by go_simp; exact cours_lit _ _ xs hxz⟩) hHeld ?_
  try simp only [Act.put, List.setIfInBounds_toArray, List.set_cons_zero, List.set_cons_succ]
  refine wpAnyH_take (i := 3) (oi := ⟨_, _, _, _, _, _⟩) (v := .pointer (some ⟨C, 0, none⟩)) rfl (by kernel_rfl) (by kernel_rfl) (by kernel_rfl) (fun _ _ _ h => h) (Or.inl ⟨by rfl, fun w hSw => by go_simp⟩) hHeld ?_
  try simp only [Act.put, List.setIfInBounds_toArray, List.set_cons_zero, List.set_cons_succ]
  refine wpAnyH_take (i := 5) (oi := ⟨_, _, _, _, _, _⟩) (v := .int .u64 ((firstSet (q + 1) : Nat) : Int)) rfl (by kernel_rfl) (by kernel_rfl) (by kernel_rfl) (fun _ _ _ h => h) (Or.inl ⟨by rfl, fun w hSw => by go_simp⟩) hHeld ?_
  try simp only [Act.put, List.setIfInBounds_toArray, List.set_cons_zero, List.set_cons_succ]
  refine wpAnyH_take (i := 6) (oi := ⟨_, _, _, _, _, _⟩) (v := .agg ys.toList.toArray) rfl (by kernel_rfl) (by kernel_rfl) (by kernel_rfl) (fun _ _ _ h => h)
    (yieldsIf_load_mid (by rfl) _ _ rfl (w1.heap.size + 1) 0 rfl ys.toList _ (fun w' h => range_row h.rowB) hu rfl (by rw [hsz]; simp [HY.out.1])) hHeld ?_
  try simp only [Act.put, List.setIfInBounds_toArray, List.set_cons_zero, List.set_cons_succ]
  refine wpAnyH_ready (rs := [4]) (by kernel_rfl) (by simp) ?_
  refine AllReadyH.cons (o := ⟨_, _, _, _, _, _⟩) rfl (fun K hK => ?_) AllReadyH.nil
  go_simp
  refine (last_any C q ns _ hHeld.gr hn).mono ?_
  rintro E w7 ⟨rfl, hb7⟩
  refine hK.out _ _ (hHeld.keep (by omega) hC hb7) (fun hHeld => ?_)
  clear hK K hb7
  refine wpAnyH_take (i := 7) (oi := ⟨_, _, _, _, _, _⟩) (v := .agg (#[Value.int .i64 (q : Int), .int .u64 ((firstSet (q + 1) : Nat) : Int)] ++ ys.toList.toArray)) rfl (by kernel_rfl) (by kernel_rfl) (by kernel_rfl) (fun _ _ _ h => h) (Or.inl ⟨by rfl, fun w hSw => by go_simp; exact cours_lit _ _ ys hyz⟩) hHeld ?_
  try simp only [Act.put, List.setIfInBounds_toArray, List.set_cons_zero, List.set_cons_succ]
  refine wpAnyH_ready (rs := [8]) (by kernel_rfl) (by simp) ?_
  refine AllReadyH.cons (o := ⟨_, _, _, _, _, _⟩) rfl (fun K hK => ?_) AllReadyH.nil
  rw [if_pos (by rfl)]
  refine wp_store_mid _ _ _ rfl _ _ (#[Value.int .i64 0, .int .u64 ((firstSet (q + 1) : Nat) : Int)] ++ xs.toList.toArray) rfl rfl (by rw [hzc8]; obtain ⟨cs, hc, hz⟩ := hHeld.outA; exact there_row hc hz) (by rw [hzc8]; kernel_rfl) hoc8 ?_
  simp only [Act.put]
  have hput8 := hHeld.putA (by omega) hC hzc8
  refine hK.out _ _ hput8.1 (fun hHeld => ?_)
  clear hK K
  refine wpAnyH_ready (rs := [9]) (by kernel_rfl) (by simp) ?_
  refine AllReadyH.cons (o := ⟨_, _, _, _, _, _⟩) rfl (fun K hK => ?_) AllReadyH.nil
  rw [if_pos (by rfl)]
  refine wp_store_mid _ _ _ rfl _ _ (#[Value.int .i64 (q : Int), .int .u64 ((firstSet (q + 1) : Nat) : Int)] ++ ys.toList.toArray) rfl rfl (by rw [hzc9]; obtain ⟨cs, hc, hz⟩ := hHeld.outB; exact there_row hc hz) (by rw [hzc9]; kernel_rfl) hoc9 ?_
  simp only [Act.put]
  have hput9 := hHeld.putB (by omega) hC hzc9
  refine hK.out _ _ hput9.1 (fun hHeld => ?_)
  clear hK K
  refine wpAnyH_done (by kernel_rfl) ?_ _
  clear hHeld
  have hA8 := hput8.2
  have hA9 := hput9.2.2.trans hA8
  have hB9 := hput9.2.1
  have hbF := hput9.1.below
  have hcu := Tryz.underlying78
  go_wp2_with fail
  refine bodyPost_ret (v := .tuple #[.agg (#[Value.int .i64 0, .int .u64 ((firstSet (q + 1) : Nat) : Int)] ++ xs.toList.toArray), .agg (#[Value.int .i64 (q : Int), .int .u64 ((firstSet (q + 1) : Nat) : Int)] ++ ys.toList.toArray)]) ?_ rfl ?_
  · exact results_two_rows rfl Tryz.prog _ _ w.heap.size (w.heap.size + 1) _ _ rfl rfl (run_loadVar_row _ _ _ _ _ (0, 0) _ hA9 hcu rfl (by rw [hzc8]; kernel_rfl)) (run_loadVar_row _ _ _ _ _ (0, 0) _ hB9 hcu rfl (by rw [hzc9]; kernel_rfl))
  · refine ⟨xs, ys, ah, bk, ?_, HX.out, HY.out, HS.out, hbF⟩
    rw [hn]
    simp [coursV]

end Go.Proofs.YtbffldgiccijlaaGreatDoor
