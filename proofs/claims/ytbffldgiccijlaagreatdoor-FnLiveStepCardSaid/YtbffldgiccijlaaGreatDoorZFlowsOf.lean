/-
  The program's flows in memory.
-/
import Derived.Test.YtbffldgiccijlaaGreatDoorZCours
import Derived.Test.YtbffldgiccijlaaGreatDoorZEffW
import Derived.Test.YtbffldgiccijlaaGreatDoorZStmtY
import Derived.Test.YtbffldgiccijlaaGreatDoorZBase
import Derived.Test.YtbffldgiccijlaaGreatDoorZMem
namespace Go.Proofs.YtbffldgiccijlaaGreatDoor
open Go.RowKit Go.Deep
set_option linter.unusedVariables false

theorem zeroF_size : (Tryz.zeroCells80).size = 372 := by kernel_rfl

/-- The cells of flows: the graph's block, the scope, the effects of the first m points. -/
structure FlwCells (ts : List Int) (ns : List Nd) (C : Nat) (sc : Value) (m : Nat) (cs : Array Value) : Prop where
  size : cs.size = 372
  gr : cs[0]? = some (.pointer (some ⟨C, 0, none⟩))
  sc : cs[1]? = some sc
  eff : ∀ k d, k < m → ns[k]? = some d → cs[k * 4 + 2]? = some (.int .u64 ((effD ts d).r : Int)) ∧ cs[k * 4 + 3]? = some (.int .u64 ((effD ts d).t : Int)) ∧ cs[k * 4 + 4]? = some (.int .u64 ((effD ts d).c : Int)) ∧ cs[k * 4 + 5]? = some (.int .u64 ((effD ts d).s : Int))

/-- The flows in block F: so far, m effects; the rest of the memory since w. -/
structure FlwAt (ts : List Int) (ns : List Nd) (C F hi : Nat) (w : World) (A : Option Addr) (c m : Nat) (w' : World) : Prop where
  row : ∃ cs, w'.heap[F]? = some (.cells cs 80 (0, 0)) ∧ FlwCells ts ns C (.slice A ts.length c) m cs
  gr : Gr C w' ns
  sc : IntsV w' (F + 1) hi ts A c
  below : Below w.heap.size w w'
  lt : F < hi ∧ hi ≤ w'.heap.size

section
variable {ts : List Int} {ns : List Nd} {C F hi : Nat} {w a b : World} {A : Option Addr} {c m : Nat}

theorem FlwAt.scCell (h : FlwAt ts ns C F hi w A c m a) : a.cell? ⟨F, 1, none⟩ = some (.slice A ts.length c) := by
  obtain ⟨cs, h1, h2⟩ := h.row
  rw [cell_of_block h1]
  exact h2.sc

theorem FlwAt.scope (h : FlwAt ts ns C F hi w A c m a) : IntsV a 0 a.heap.size ts A c := h.sc.keep (Nat.zero_le _) h.lt.2 fun _ _ _ => rfl

theorem FlwAt.drew (h : FlwAt ts ns C F hi w A c m a) : FlwAt ts ns C F hi w A c m a.drew :=
  ⟨h.row, h.gr.drew, h.sc, ⟨h.below.os, h.below.tape, h.below.output, h.below.size, h.below.block⟩, h.lt⟩

theorem FlwAt.keep (h : FlwAt ts ns C F hi w A c m a) (hC : C < F) (hb : Below a.heap.size a b) : FlwAt ts ns C F hi w A c m b := by
  have hl := h.lt
  have hs := hb.size
  refine ⟨?_, h.gr.kept (hb.block C (by omega)), h.sc.keep (Nat.le_refl _) (Nat.le_refl _) fun p _ hp => World.cell?_of_block (hb.block p.block (by omega)), h.below.trans (hb.mono h.below.size), by omega⟩
  rw [hb.block F (by omega)]
  exact h.row

theorem FlwAt.there (h : FlwAt ts ns C F hi w A c m a) {k : Nat} (hk : k < 61) : a.there F (2 + k * 4) 4 := by
  obtain ⟨cs, h1, h2⟩ := h.row
  have hz := h2.size
  intro j hj
  refine ⟨?_, frozen_of_row _ _ _ _ _ h1⟩
  rw [cell_of_block h1, Array.getElem?_eq_getElem (by omega)]
  rfl

theorem FlwAt.less (h : FlwAt ts ns C F hi w A c (m + 1) a) : FlwAt ts ns C F hi w A c m a := by
  obtain ⟨cs, h1, h2⟩ := h.row
  exact ⟨⟨cs, h1, h2.size, h2.gr, h2.sc, fun k d hk hd => h2.eff k d (by omega) hd⟩, h.gr, h.sc, h.below, h.lt⟩

theorem FlwAt.put (h : FlwAt ts ns C F hi w A c m a) (hC : C < F) (hm : m < 61) {d : Nd} (hd : ns[m]? = some d) (hF : w.heap.size ≤ F := by omega) :
    FlwAt ts ns C F hi w A c (m + 1) (a.setCells F (2 + m * 4) [.int .u64 ((effD ts d).r : Int), .int .u64 ((effD ts d).t : Int), .int .u64 ((effD ts d).c : Int), .int .u64 ((effD ts d).s : Int)]) ∧
    (a.setCells F (2 + m * 4) [.int .u64 ((effD ts d).r : Int), .int .u64 ((effD ts d).t : Int), .int .u64 ((effD ts d).c : Int), .int .u64 ((effD ts d).s : Int)]).heap[C]? = a.heap[C]? := by
  obtain ⟨cs, h1, h2⟩ := h.row
  have hl := h.lt
  have hz := h2.size
  have hn := heap_setCells [.int .u64 ((effD ts d).r : Int), .int .u64 ((effD ts d).t : Int), .int .u64 ((effD ts d).c : Int), .int .u64 ((effD ts d).s : Int)] (2 + m * 4) a cs h1 (by simp; omega)
  have hget : ∀ j, (setN cs (2 + m * 4) [.int .u64 ((effD ts d).r : Int), .int .u64 ((effD ts d).t : Int), .int .u64 ((effD ts d).c : Int), .int .u64 ((effD ts d).s : Int)])[j]? = _ := fun j => setN_get [.int .u64 ((effD ts d).r : Int), .int .u64 ((effD ts d).t : Int), .int .u64 ((effD ts d).c : Int), .int .u64 ((effD ts d).s : Int)] cs (2 + m * 4) j (by simp; omega)
  refine ⟨⟨⟨_, hn, ?_, ?_, ?_, fun k e hk he => ?_⟩, h.gr.kept (World.heap_setCells_other _ _ _ _ (by omega) (by omega)), h.sc.keep (Nat.le_refl _) (Nat.le_refl _) fun p h3 h4 => World.cell?_of_block (World.heap_setCells_other _ _ _ _ (by omega) (by omega)), below_setCells h.below hF (by have := h.below.size; omega), by rw [size_setCells]; exact hl⟩, World.heap_setCells_other _ _ _ _ (by omega) (by omega)⟩
  · rw [setN_size]; exact hz
  · rw [hget, if_neg (by rintro ⟨h3, _⟩; omega)]; exact h2.gr
  · rw [hget, if_neg (by rintro ⟨h3, _⟩; omega)]; exact h2.sc
  · by_cases hkm : k = m
    · subst hkm
      rw [hd] at he
      cases he
      refine ⟨?_, ?_, ?_, ?_⟩
      · rw [hget, if_pos (by simp; omega), show k * 4 + 2 - (2 + k * 4) = 0 from by omega]; rfl
      · rw [hget, if_pos (by simp; omega), show k * 4 + 3 - (2 + k * 4) = 1 from by omega]; rfl
      · rw [hget, if_pos (by simp; omega), show k * 4 + 4 - (2 + k * 4) = 2 from by omega]; rfl
      · rw [hget, if_pos (by simp; omega), show k * 4 + 5 - (2 + k * 4) = 3 from by omega]; rfl
    · obtain ⟨e1, e2, e3, e4⟩ := h2.eff k e (by omega) he
      refine ⟨?_, ?_, ?_, ?_⟩
      · rw [hget, if_neg (by simp; omega)]; exact e1
      · rw [hget, if_neg (by simp; omega)]; exact e2
      · rw [hget, if_neg (by simp; omega)]; exact e3
      · rw [hget, if_neg (by simp; omega)]; exact e4
end

/-- A course in the cells of flows. -/
def CoursIn (cs : Array Value) (o first n : Nat) (f : Nat → Nat) : Prop := cs[o]? = some (.int .i64 (first : Int)) ∧ cs[o + 1]? = some (.int .u64 ((firstSet n : Nat) : Int)) ∧ ∀ i, i < 61 → cs[o + 2 + i]? = some (.int .u64 (f i : Int))

/-- The flows of a program's points in block F, whole. -/
structure FlowsIn (ts : List Int) (ns : List Nd) (C F hi : Nat) (A : Option Addr) (c : Nat) (ah bk : Nat → Nat) (w' : World) : Prop where
  row : ∃ cs, w'.heap[F]? = some (.cells cs 80 (0, 0)) ∧ FlwCells ts ns C (.slice A ts.length c) ns.length cs ∧ CoursIn cs 246 0 ns.length ah ∧ CoursIn cs 309 (ns.length - 1) ns.length bk
  gr : Gr C w' ns
  sc : IntsV w' (F + 1) hi ts A c
  lt : C < F ∧ F < hi ∧ hi ≤ w'.heap.size
  sets : Sets2 (Edge ns ns.length 0) ah bk

theorem setN_in {cs : Array Value} {vs : List Value} {o j : Nat} (hz : o + vs.length ≤ cs.size) (h1 : o ≤ j) (h2 : j < o + vs.length) : (setN cs o vs)[j]? = vs[j - o]? := by
  rw [setN_get _ _ _ _ hz, if_pos ⟨h1, h2⟩]

theorem setN_out {cs : Array Value} {vs : List Value} {o j : Nat} (hz : o + vs.length ≤ cs.size) (h : j < o ∨ o + vs.length ≤ j) : (setN cs o vs)[j]? = cs[j]? := by
  rw [setN_get _ _ _ _ hz, if_neg (by omega)]

theorem FlwCells.put {ts : List Int} {ns : List Nd} {C : Nat} {sc : Value} {m o : Nat} {cs : Array Value} {vs : List Value} (h : FlwCells ts ns C sc m cs) (ho : m * 4 + 2 ≤ o) (hz : o + vs.length ≤ 372) : FlwCells ts ns C sc m (setN cs o vs) := by
  have hs := h.size
  refine ⟨by rw [setN_size]; exact hs, ?_, ?_, fun k d hk hd => ?_⟩
  · rw [setN_out (by omega) (by omega)]; exact h.gr
  · rw [setN_out (by omega) (by omega)]; exact h.sc
  · obtain ⟨e1, e2, e3, e4⟩ := h.eff k d hk hd
    refine ⟨?_, ?_, ?_, ?_⟩
    · rw [setN_out (by omega) (by omega)]; exact e1
    · rw [setN_out (by omega) (by omega)]; exact e2
    · rw [setN_out (by omega) (by omega)]; exact e3
    · rw [setN_out (by omega) (by omega)]; exact e4

theorem coursIn_set {cs : Array Value} {o first n : Nat} {f : Nat → Nat} {xs XA : Array Value} (hx : SetRow xs f) (hX : XA = #[.int .i64 (first : Int), .int .u64 ((firstSet n : Nat) : Int)] ++ xs) (hz : o + 63 ≤ cs.size) : CoursIn (setN cs o XA.toList) o first n f := by
  have hl : XA.toList.length = 63 := by rw [hX]; simp [hx.1]
  have hg : ∀ j, j < 63 → (setN cs o XA.toList)[o + j]? = XA[j]? := fun j hj => by
    rw [setN_in (by omega) (by omega) (by omega), show o + j - o = j from by omega]
    simp
  refine ⟨?_, ?_, fun i hi => ?_⟩
  · have := hg 0 (by omega)
    rw [Nat.add_zero] at this
    rw [this, hX, Array.getElem?_append_left (by simp)]
    rfl
  · rw [hg 1 (by omega), hX, Array.getElem?_append_left (by simp)]
    rfl
  · rw [show o + 2 + i = o + (i + 2) from by omega, hg (i + 2) (by omega), hX, Array.getElem?_append_right (by simp)]
    simpa using hx.2 i hi

theorem CoursIn.out {cs : Array Value} {o o' first n : Nat} {f : Nat → Nat} {vs : List Value} (h : CoursIn cs o first n f) (hz : o' + vs.length ≤ cs.size) (ho : o + 63 ≤ o' ∨ o' + vs.length ≤ o) : CoursIn (setN cs o' vs) o first n f := by
  obtain ⟨h1, h2, h3⟩ := h
  refine ⟨?_, ?_, fun i hi => ?_⟩
  · rw [setN_out hz (by omega)]; exact h1
  · rw [setN_out hz (by omega)]; exact h2
  · rw [setN_out hz (by omega)]; exact h3 i hi

theorem there_mid {W : World} {g n o : Nat} {cs : Array Value} {t : TypeId} (h : W.heap[g]? = some (.cells cs t (0, 0))) (hz : o + n ≤ cs.size) : W.there g o n := by
  intro j hj
  refine ⟨?_, frozen_of_row _ _ _ _ _ h⟩
  rw [cell_of_block h, Array.getElem?_eq_getElem (by omega)]
  rfl

theorem store_mid {W : World} {g o : Nat} {cs : Array Value} {t : TypeId} (xs : Array Value) (h : W.heap[g]? = some (.cells cs t (0, 0))) (hz : o + xs.size ≤ cs.size) (h1 : xs.all (·.oneCell') = true) :
    (storeCells ⟨g, o, none⟩ xs.toList).run Tryz.prog W = .ok () (W.setCells g o xs.toList) := by
  have ht := there_mid (n := xs.size) h hz
  have := run_storeCells_cells (P := Tryz.prog) g o xs.toList 0 W (fun j hj => by simpa using (ht j (by simpa using hj)).1) (fun j hj => by simpa using (ht j (by simpa using hj)).2) (fun v hv => (Array.all_eq_true_iff_forall_mem.1 h1) v (by simpa using hv))
  simpa using this

/-- The two courses are stored. -/
theorem flows_store {ts : List Int} {ns : List Nd} {C F hi : Nat} {w a : World} {A : Option Addr} {c : Nat} {ah bk : Nat → Nat} {xs ys XA YA : Array Value} (h : FlwAt ts ns C F hi w A c ns.length a) (hC : C < F) (hF : w.heap.size ≤ F)
    (hx : SetRow xs ah) (hy : SetRow ys bk) (hs2 : Sets2 (Edge ns ns.length 0) ah bk) (hX : XA = #[.int .i64 ((0 : Nat) : Int), .int .u64 ((firstSet ns.length : Nat) : Int)] ++ xs) (hY : YA = #[.int .i64 ((ns.length - 1 : Nat) : Int), .int .u64 ((firstSet ns.length : Nat) : Int)] ++ ys) :
    ∃ W6 W7, (storeCells ⟨F, 246, none⟩ XA.toList).run Tryz.prog a = .ok () W6 ∧ (storeCells ⟨F, 309, none⟩ YA.toList).run Tryz.prog W6 = .ok () W7 ∧ FlowsIn ts ns C F hi A c ah bk W7 ∧ Below w.heap.size w W7 := by
  obtain ⟨cs, h1, h2⟩ := h.row
  have hl := h.lt
  have hz := h2.size
  have hle := h.gr.le
  have hxz : XA.size = 63 := by rw [hX]; simp [hx.1]
  have hyz : YA.size = 63 := by rw [hY]; simp [hy.1]
  have hxl : XA.toList.length = 63 := by simpa using hxz
  have hyl : YA.toList.length = 63 := by simpa using hyz
  have hxo : XA.all (·.oneCell') = true := by
    have := cours_one 0 (firstSet ns.length) xs ah hx
    rw [hX]; simpa using this
  have hyo : YA.all (·.oneCell') = true := by
    have := cours_one (ns.length - 1) (firstSet ns.length) ys bk hy
    rw [hY]; simpa using this
  have s1 := store_mid XA h1 (o := 246) (by omega) hxo
  have r1 := heap_setCells XA.toList 246 a cs h1 (by omega)
  have s2 := store_mid YA r1 (o := 309) (by rw [setN_size]; omega) hyo
  have r2 := heap_setCells YA.toList 309 _ _ r1 (by rw [setN_size]; omega)
  refine ⟨_, _, s1, s2, ⟨⟨_, r2, (h2.put (by omega) (by omega)).put (by omega) (by omega), (coursIn_set hx hX (by omega)).out (by rw [setN_size]; omega) (by omega), coursIn_set hy hY (by rw [setN_size]; omega)⟩, ?_, ?_, ?_, hs2⟩, ?_⟩
  · exact h.gr.kept ((World.heap_setCells_other _ _ _ _ (by rw [size_setCells]; omega) (by omega)).trans (World.heap_setCells_other _ _ _ _ (by omega) (by omega)))
  · exact h.sc.keep (Nat.le_refl _) (Nat.le_refl _) fun p h3 h4 => World.cell?_of_block ((World.heap_setCells_other _ _ _ _ (by rw [size_setCells]; omega) (by omega)).trans (World.heap_setCells_other _ _ _ _ (by omega) (by omega)))
  · rw [size_setCells, size_setCells]; omega
  · exact below_setCells (below_setCells h.below hF (by have := h.below.size; omega)) hF (by rw [size_setCells]; have := h.below.size; omega)

/-- What flowsOf answers. -/
def FlowsPost (ts : List Int) (ns : List Nd) (w : World) (E : Ending) (w' : World) : Prop := ∃ C F hi A c ah bk, E = .returned (.tuple #[.pointer (some ⟨F, 0, none⟩), .bool true]) ∧ w.heap.size ≤ F ∧ FlowsIn ts ns C F hi A c ah bk w' ∧ Below w.heap.size w w'

set_option maxRecDepth 100000 in
set_option maxHeartbeats 4000000 in
theorem flowsOf_yes (ts : List Int) (s : Sts) (At As : Option Addr) (ct cs : Nat) (w : World) (hv : validB ts s = true) (hT : IntsV w 0 w.heap.size ts At ct) (hR : RepV w 0 w.heap.size s As cs) :
    Calls Tryz.prog 51 #[.agg #[.slice At ts.length ct, .slice As s.len cs]] w (FlowsPost ts (progPts s) w) := by
  have hb0 := (Below.refl w.heap.size w).alloc (Nat.le_refl _) (.cells #[.slice At ts.length ct, .slice As s.len cs] 26)
  have hz0 : (w.alloc (.cells #[.slice At ts.length ct, .slice As s.len cs] 26)).heap.size = w.heap.size + 1 := by simp
  have hB0 := heap_alloc_new w (.cells #[.slice At ts.length ct, .slice As s.len cs] 26)
  have hS := graphOf_yes ts s At As ct cs _ hv (hT.below hb0 (by simp)) (hR.below hb0 (by simp))
  have hty : typesB ts = true := (valid_ok hv).1
  have hD := progPts_ok s (valid_ok hv).2.1
  have hA := progPts_allTyped hv
  generalize progPts s = ns at hS hD hA ⊢
  generalize s.npts = q at hD
  have HZ := Lib.hid hz0
  have HB := Lib.hid hB0
  have HD := Lib.hid hD
  have HA := Lib.hid hA
  clear hz0 hB0 hD hA
  go_enter Tryz.func51, Tryz.ntmps51
  go_wp2_with fail
  refine hS.mono ?_
  rintro E w1 ⟨C, rfl, hC, hG, hb1⟩
  rw [HZ.out] at hC hb1
  have hs1 := hb1.size
  rw [HZ.out] at hs1
  have hB1 := (hb1.block w.heap.size (by omega)).trans HB.out
  have hb : Below w.heap.size w w1 := hb0.trans (hb1.mono (by omega))
  have hCl := hG.lt
  have HG := Lib.hid hG
  have HB1 := Lib.hid hB1
  have p0 : ∀ o, (w1.alloc o).cell? ⟨w.heap.size, 0, none⟩ = some (.slice At ts.length ct) := fun o => (World.cell?_alloc_lt _ _ _ (by simp; omega)).trans ((cell_of_block hB1 0).trans rfl)
  have hbf := (Below.refl w1.heap.size w1).alloc (Nat.le_refl _) (.cells (Tryz.zeroCells80.setIfInBounds 0 (.pointer (some ⟨C, 0, none⟩))) 80)
  have hBF := heap_alloc_new w1 (.cells (Tryz.zeroCells80.setIfInBounds 0 (.pointer (some ⟨C, 0, none⟩))) 80)
  have hzF : (w1.alloc (.cells (Tryz.zeroCells80.setIfInBounds 0 (.pointer (some ⟨C, 0, none⟩))) 80)).heap.size = w1.heap.size + 1 := by simp
  have hT2 : IntsV (w1.alloc (.cells (Tryz.zeroCells80.setIfInBounds 0 (.pointer (some ⟨C, 0, none⟩))) 80)) 0 (w1.alloc (.cells (Tryz.zeroCells80.setIfInBounds 0 (.pointer (some ⟨C, 0, none⟩))) 80)).heap.size ts At ct := hT.below (hb.trans (hbf.mono (by omega))) (by rw [hzF]; omega)
  have hsc := scopeOf_yes ts At ct _ hty hT2
  have HBF := Lib.hid hBF
  have HZF := Lib.hid hzF
  clear hG hB1 hb1 hS hBF hzF hT2
  go_wp2_with fail
  refine hsc.mono ?_
  rintro E w2 ⟨A2, c2, rfl, hI2, hb2⟩
  rw [HZF.out] at hI2 hb2
  have hs2 := hb2.size
  rw [HZF.out] at hs2
  have hCF : C < w1.heap.size := hCl
  have hF2 := (hb2.block w1.heap.size (by omega)).trans HBF.out
  have f1 : w2.cell? ⟨w1.heap.size, 1, none⟩ = some (.slice none 0 0) := (cell_of_block hF2 1).trans (by kernel_rfl)
  have f2 : w2.frozen? ⟨w1.heap.size, 1, none⟩ = false := frozen_of_row _ _ _ _ _ hF2
  have HF3 := Lib.hid (heap_setCell_same w2 w1.heap.size 1 _ _ (.slice A2 ts.length c2) hF2)
  have hc2 := (HG.out.kept ((hb2.block C (by omega)).trans (hbf.block C hCl))).count
  have hG3 : Gr C (w2.setCell ⟨w1.heap.size, 1, none⟩ (.slice A2 ts.length c2)) ns := HG.out.kept ((heap_setCell_other _ _ _ _ (by simp; omega)).trans ((hb2.block C (by omega)).trans (hbf.block C hCl)))
  have hI3 : IntsV (w2.setCell ⟨w1.heap.size, 1, none⟩ (.slice A2 ts.length c2)) (w1.heap.size + 1) w2.heap.size ts A2 c2 := hI2.keep (Nat.le_refl _) (Nat.le_refl _) fun p h1 h2 => World.cell?_of_block (heap_setCell_other _ _ _ _ (by simp; omega))
  have hb3 : Below w.heap.size w (w2.setCell ⟨w1.heap.size, 1, none⟩ (.slice A2 ts.length c2)) := below_set ((hb.trans (hbf.mono (by omega))).trans (hb2.mono (by omega))) (by omega)
  have hz3 : (w2.setCell ⟨w1.heap.size, 1, none⟩ (.slice A2 ts.length c2)).heap.size = w2.heap.size := by simp [World.setCell]
  clear hsc hF2 hI2 hb2 hbf hb0
  go_wp2_with fail
  generalize w2.setCell ⟨w1.heap.size, 1, none⟩ (.slice A2 ts.length c2) = w3 at *
  have HST : Hid (FlwAt ts ns C w1.heap.size w2.heap.size w A2 c2 0 w3) := by
    refine ⟨⟨_, HF3.out, ⟨by simp, ?_, ?_, fun k d hk => absurd hk (Nat.not_lt_zero _)⟩⟩, hG3, hI3, hb3, by omega, by omega⟩
    · rw [Array.getElem?_setIfInBounds, if_neg (by omega), Array.getElem?_setIfInBounds, if_pos rfl, if_pos (by rw [zeroF_size]; omega)]
    · rw [Array.getElem?_setIfInBounds, if_pos rfl, if_pos (by simp)]
  clear hG3 hI3 hb3 HF3 HBF HZF f1 f2 hc2 hz3 p0
  go_loopw [7, 31] (fun _ i wr => ∃ k : Nat, i = .int .i64 k ∧ k ≤ ns.length ∧ Hid (FlwAt ts ns C w1.heap.size w2.heap.size w A2 c2 k wr)) (fun _ i _ => ns.length - (intOf i).toNat)
  case atStart => exact ⟨0, rfl, Nat.zero_le _, HST⟩
  case round =>
    clear HST
    obtain ⟨k, rfl, hk, HS⟩ := hrel
    by_cases hlt : k < ns.length
    · obtain ⟨d, hd⟩ : ∃ d, ns[k]? = some d := ⟨ns[k], List.getElem?_eq_getElem hlt⟩
      have hGk := HS.out.gr
      obtain ⟨nw, nn, n2, no, nx, ny, nnn⟩ := hGk.node hd
      have hk61 : k < 61 := by have := hGk.le; omega
      obtain ⟨p0, hp0⟩ := hGk.int_ (j := k * 7 + 4) (by omega)
      obtain ⟨p1, hp1⟩ := hGk.int_ (j := k * 7 + 5) (by omega)
      have hrange : ∀ w' : World, w'.heap[C]? = wr.heap[C]? → w'.rangeAt C (k * 7) [.int .i64 d.op, .int .i64 d.x, .int .i64 d.y, .int .i64 d.n, .int .i64 p0, .int .i64 p1, .int .i64 d.next.length] := by
        intro w' hw'
        have e : ∀ j, w'.cell? ⟨C, j, none⟩ = wr.cell? ⟨C, j, none⟩ := fun j => World.cell?_of_block (a := ⟨C, j, none⟩) hw'
        intro j v hv
        rw [e]
        match j, hv with
        | 0, hv => simp only [List.getElem?_cons_zero, Option.some.injEq] at hv; rw [← hv]; exact no
        | 1, hv => simp only [List.getElem?_cons_succ, List.getElem?_cons_zero, Option.some.injEq] at hv; rw [← hv]; exact nx
        | 2, hv => simp only [List.getElem?_cons_succ, List.getElem?_cons_zero, Option.some.injEq] at hv; rw [← hv]; exact ny
        | 3, hv => simp only [List.getElem?_cons_succ, List.getElem?_cons_zero, Option.some.injEq] at hv; rw [← hv]; exact nnn
        | 4, hv => simp only [List.getElem?_cons_succ, List.getElem?_cons_zero, Option.some.injEq] at hv; rw [← hv]; exact hp0
        | 5, hv => simp only [List.getElem?_cons_succ, List.getElem?_cons_zero, Option.some.injEq] at hv; rw [← hv]; exact hp1
        | 6, hv => simp only [List.getElem?_cons_succ, List.getElem?_cons_zero, Option.some.injEq] at hv; rw [← hv]; exact nw
        | j + 7, hv => simp at hv
      have HDK := Lib.hid hd
      have hok := effD_ok HA.out.1 (HA.out.2 k d hd)
      obtain ⟨x, hx⟩ : ∃ x : Nat, d.x = (x : Int) := ⟨d.x.toNat, by have := hok.xy; omega⟩
      obtain ⟨y, hy⟩ : ∃ y : Nat, d.y = (y : Int) := ⟨d.y.toNat, by have := hok.xy; omega⟩
      have hx5 : x ≤ 5 := by have := hok.xy; omega
      have hy5 : y ≤ 5 := by have := hok.xy; omega
      have hef : ∀ W : World, IntsV W 0 W.heap.size ts A2 c2 → Calls Tryz.prog 82 #[.agg #[.int .i64 d.op, .int .i64 d.x, .int .i64 d.y, .int .i64 d.n, .int .i64 p0, .int .i64 p1, .int .i64 d.next.length], .slice A2 ts.length c2] W fun E w' => E = .returned (efV (effD ts d)) ∧ Below W.heap.size W w' := by
        intro W hW
        have h := effectOf_any ts A2 c2 d.op d.n p0 p1 d.next.length x y d.next W hW hx5 hy5
        rw [← hx, ← hy] at h
        exact h
      clear nw nn no nx ny nnn hp0 hp1 hGk hd hok hx hy
      have ki0 : (0 : Int) ≤ (k : Int) := by omega
      have ki1 : (k : Int) < 61 := by omega
      have hSt : FlwAt ts ns C w1.heap.size w2.heap.size w A2 c2 k wr.drew ∧ wr.drew.heap[C]? = wr.heap[C]? := ⟨HS.out.drew, rfl⟩
      go_wp2_with fail
      refine wp_region_held_drew (S := fun w' => FlwAt ts ns C w1.heap.size w2.heap.size w A2 c2 k w' ∧ w'.heap[C]? = wr.heap[C]?) (by kernel_rfl) hSt (fun hHeld => ?_)
      refine wpAnyH_take (i := 0) (oi := ⟨_, _, _, _, _, _⟩) (v := .pointer (some ⟨w1.heap.size, 0, none⟩)) rfl (by kernel_rfl) (by kernel_rfl) (by kernel_rfl) (fun _ _ _ h => h) (Or.inl ⟨by rfl, fun w hSw => by go_simp⟩) hHeld ?_
      try simp only [Act.put, List.setIfInBounds_toArray, List.set_cons_zero, List.set_cons_succ]
      refine wpAnyH_take (i := 1) (oi := ⟨_, _, _, _, _, _⟩) (v := .int .i64 (k : Int)) rfl (by kernel_rfl) (by kernel_rfl) (by kernel_rfl) (fun _ _ _ h => h) (Or.inl ⟨by rfl, fun w hSw => by go_simp⟩) hHeld ?_
      try simp only [Act.put, List.setIfInBounds_toArray, List.set_cons_zero, List.set_cons_succ]
      refine wpAnyH_take (i := 2) (oi := ⟨_, _, _, _, _, _⟩) (v := .pointer (some ⟨C, 0, none⟩)) rfl (by kernel_rfl) (by kernel_rfl) (by kernel_rfl) (fun _ _ _ h => h) (Or.inl ⟨by rfl, fun w hSw => by go_simp⟩) hHeld ?_
      try simp only [Act.put, List.setIfInBounds_toArray, List.set_cons_zero, List.set_cons_succ]
      refine wpAnyH_take (i := 3) (oi := ⟨_, _, _, _, _, _⟩) (v := .int .i64 (k : Int)) rfl (by kernel_rfl) (by kernel_rfl) (by kernel_rfl) (fun _ _ _ h => h) (Or.inl ⟨by rfl, fun w hSw => by go_simp⟩) hHeld ?_
      try simp only [Act.put, List.setIfInBounds_toArray, List.set_cons_zero, List.set_cons_succ]
      refine wpAnyH_take (i := 4) (oi := ⟨_, _, _, _, _, _⟩) (v := .pointer (some ⟨C, 0, none⟩)) rfl (by kernel_rfl) (by kernel_rfl) (by kernel_rfl) (fun _ _ _ h => h) (Or.inl ⟨by rfl, fun w hSw => by go_simp⟩) hHeld ?_
      try simp only [Act.put, List.setIfInBounds_toArray, List.set_cons_zero, List.set_cons_succ]
      refine wpAnyH_take (i := 5) (oi := ⟨_, _, _, _, _, _⟩) (v := .pointer (some ⟨C, 0, none⟩)) rfl (by kernel_rfl) (by kernel_rfl) (by kernel_rfl) (fun _ _ _ h => h) (Or.inl ⟨by rfl, fun w hSw => by go_simp⟩) hHeld ?_
      try simp only [Act.put, List.setIfInBounds_toArray, List.set_cons_zero, List.set_cons_succ]
      refine wpAnyH_take (i := 6) (oi := ⟨_, _, _, _, _, _⟩) (v := .pointer (some ⟨C, k * 7, none⟩)) rfl (by kernel_rfl) (by kernel_rfl) (by kernel_rfl) (fun _ _ _ h => h) (Or.inl ⟨by rfl, fun w hSw => by go_simp⟩) hHeld ?_
      try simp only [Act.put, List.setIfInBounds_toArray, List.set_cons_zero, List.set_cons_succ]
      refine wpAnyH_take (i := 7) (oi := ⟨_, _, _, _, _, _⟩) (v := .agg ([.int .i64 d.op, .int .i64 d.x, .int .i64 d.y, .int .i64 d.n, .int .i64 p0, .int .i64 p1, .int .i64 d.next.length] : List Value).toArray) rfl (by kernel_rfl) (by kernel_rfl) (by kernel_rfl) (fun _ _ _ h => h)
        (yieldsIf_load_mid (by rfl) _ _ rfl C (k * 7) rfl [.int .i64 d.op, .int .i64 d.x, .int .i64 d.y, .int .i64 d.n, .int .i64 p0, .int .i64 p1, .int .i64 d.next.length] _ (fun w' h => hrange w' h.2) Tryz.underlying57 rfl (by kernel_rfl)) hHeld ?_
      try simp only [Act.put, List.setIfInBounds_toArray, List.set_cons_zero, List.set_cons_succ]
      refine wpAnyH_take (i := 8) (oi := ⟨_, _, _, _, _, _⟩) (v := .pointer (some ⟨w1.heap.size, 0, none⟩)) rfl (by kernel_rfl) (by kernel_rfl) (by kernel_rfl) (fun _ _ _ h => h) (Or.inl ⟨by rfl, fun w hSw => by go_simp⟩) hHeld ?_
      try simp only [Act.put, List.setIfInBounds_toArray, List.set_cons_zero, List.set_cons_succ]
      refine wpAnyH_take (i := 9) (oi := ⟨_, _, _, _, _, _⟩) (v := .pointer (some ⟨w1.heap.size, 0, none⟩)) rfl (by kernel_rfl) (by kernel_rfl) (by kernel_rfl) (fun _ _ _ h => h) (Or.inl ⟨by rfl, fun w hSw => by go_simp⟩) hHeld ?_
      try simp only [Act.put, List.setIfInBounds_toArray, List.set_cons_zero, List.set_cons_succ]
      refine wpAnyH_take (i := 10) (oi := ⟨_, _, _, _, _, _⟩) (v := .pointer (some ⟨w1.heap.size, 1, none⟩)) rfl (by kernel_rfl) (by kernel_rfl) (by kernel_rfl) (fun _ _ _ h => h) (Or.inl ⟨by rfl, fun w hSw => by go_simp⟩) hHeld ?_
      try simp only [Act.put, List.setIfInBounds_toArray, List.set_cons_zero, List.set_cons_succ]
      refine wpAnyH_take (i := 11) (oi := ⟨_, _, _, _, _, _⟩) (v := .slice A2 ts.length c2) rfl (by kernel_rfl) (by kernel_rfl) (by kernel_rfl) (fun _ _ _ h => h) (Or.inl ⟨by rfl, fun w hSw => by have h9 := hSw.1.scCell; go_simp⟩) hHeld ?_
      try simp only [Act.put, List.setIfInBounds_toArray, List.set_cons_zero, List.set_cons_succ]
      refine wpAnyH_take (i := 13) (oi := ⟨_, _, _, _, _, _⟩) (v := .pointer (some ⟨w1.heap.size, 0, none⟩)) rfl (by kernel_rfl) (by kernel_rfl) (by kernel_rfl) (fun _ _ _ h => h) (Or.inl ⟨by rfl, fun w hSw => by go_simp⟩) hHeld ?_
      try simp only [Act.put, List.setIfInBounds_toArray, List.set_cons_zero, List.set_cons_succ]
      refine wpAnyH_take (i := 14) (oi := ⟨_, _, _, _, _, _⟩) (v := .pointer (some ⟨w1.heap.size, 2, none⟩)) rfl (by kernel_rfl) (by kernel_rfl) (by kernel_rfl) (fun _ _ _ h => h) (Or.inl ⟨by rfl, fun w hSw => by go_simp⟩) hHeld ?_
      try simp only [Act.put, List.setIfInBounds_toArray, List.set_cons_zero, List.set_cons_succ]
      refine wpAnyH_ready (rs := [12]) (by kernel_rfl) (by simp) ?_
      refine AllReadyH.cons (o := ⟨_, _, _, _, _, _⟩) rfl (fun K hK => ?_) AllReadyH.nil
      go_simp
      refine (hef _ (hHeld.1.scope)).mono ?_
      rintro E w7 ⟨rfl, hb7⟩
      refine hK.out _ _ ⟨hHeld.1.keep hCF hb7, (hb7.block C (by have := hHeld.1.lt; omega)).trans hHeld.2⟩ (fun hHeld => ?_)
      clear hK K hb7
      refine wpAnyH_take (i := 15) (oi := ⟨_, _, _, _, _, _⟩) (v := .pointer (some ⟨w1.heap.size, 2 + k * 4, none⟩)) rfl (by kernel_rfl) (by kernel_rfl) (by kernel_rfl) (fun _ _ _ h => h) (Or.inl ⟨by rfl, fun w hSw => by go_simp⟩) hHeld ?_
      try simp only [Act.put, List.setIfInBounds_toArray, List.set_cons_zero, List.set_cons_succ]
      refine wpAnyH_ready (rs := [16]) (by kernel_rfl) (by simp) ?_
      refine AllReadyH.cons (o := ⟨_, _, _, _, _, _⟩) rfl (fun K hK => ?_) AllReadyH.nil
      rw [if_pos (by rfl)]
      refine wp_store_mid _ _ _ rfl w1.heap.size (2 + k * 4) #[.int .u64 ((effD ts d).r : Int), .int .u64 ((effD ts d).t : Int), .int .u64 ((effD ts d).c : Int), .int .u64 ((effD ts d).s : Int)] rfl rfl (hHeld.1.there hk61) (by kernel_rfl) (by simp [Value.oneCell']) ?_
      simp only [Act.put]
      have hput := hHeld.1.put hCF hk61 HDK.out
      refine hK.out _ _ ⟨hput.1.less, hput.2.trans hHeld.2⟩ (fun hHeld => ?_)
      clear hK K
      refine wpAnyH_done (by kernel_rfl) ?_ _
      clear hHeld
      have HPUT := Lib.hid hput.1
      clear hput
      go_wp2_with fail
      refine ⟨⟨k + 1, by simp, by omega, HPUT.out⟩, ?_⟩
      simp only [intOf]
      omega
    · have hke : k = ns.length := by omega
      subst hke
      have hco := courses_any C q ns wr HD.out HS.out.gr
      go_wp2_with fail
      refine hco.mono ?_
      rintro E w5 ⟨xs, ys, ah, bk, rfl, hx, hy, hs2, hb5⟩
      have HX := Lib.hid hx
      have HY := Lib.hid hy
      have HS2 := Lib.hid hs2
      have HS5 := Lib.hid (HS.out.keep hCF hb5)
      obtain ⟨XA, hXA⟩ : ∃ XA, coursV 0 ns.length xs = .agg XA ∧ XA = #[.int .i64 ((0 : Nat) : Int), .int .u64 ((firstSet ns.length : Nat) : Int)] ++ xs := ⟨_, rfl, rfl⟩
      obtain ⟨YA, hYA⟩ : ∃ YA, coursV (ns.length - 1) ns.length ys = .agg YA ∧ YA = #[.int .i64 ((ns.length - 1 : Nat) : Int), .int .u64 ((firstSet ns.length : Nat) : Int)] ++ ys := ⟨_, rfl, rfl⟩
      obtain ⟨W6, W7, s1, s2, hfin⟩ := flows_store HS5.out hCF (by omega) HX.out HY.out HS2.out hXA.2 hYA.2
      rw [hXA.1, hYA.1]
      have hxz : XA.size = 63 := by rw [hXA.2]; simp [hx.1]
      have hyz : YA.size = 63 := by rw [hYA.2]; simp [hy.1]
      have HFIN := Lib.hid hfin
      clear hco hx hy hs2 hb5 HS hXA hYA hfin
      go_wp2_with fail
      go_ret2
      exact ⟨C, w1.heap.size, w2.heap.size, A2, c2, ah, bk, rfl, by omega, HFIN.out.1, HFIN.out.2⟩

set_option maxHeartbeats 1000000 in
theorem flowsOf_no (ts : List Int) (s : Sts) (At As : Option Addr) (ct cs : Nat) (w : World) (hv : validB ts s = false) (hT : IntsV w 0 w.heap.size ts At ct) (hR : RepV w 0 w.heap.size s As cs) :
    Calls Tryz.prog 51 #[.agg #[.slice At ts.length ct, .slice As s.len cs]] w fun E w' => E = .returned (.tuple #[.pointer none, .bool false]) ∧ Below w.heap.size w w' := by
  have hb0 := (Below.refl w.heap.size w).alloc (Nat.le_refl _) (.cells #[.slice At ts.length ct, .slice As s.len cs] 26)
  have hS := graphOf_no ts s At As ct cs _ hv (hT.below hb0 (by simp)) (hR.below hb0 (by simp))
  go_enter Tryz.func51, Tryz.ntmps51
  go_wp2_with fail
  refine hS.mono ?_
  rintro E w1 ⟨rfl, hb1⟩
  have hb : Below w.heap.size w w1 := hb0.trans (hb1.mono (by simp))
  clear hS
  go_wp2_with fail
  go_ret2
  exact ⟨rfl, hb⟩

end Go.Proofs.YtbffldgiccijlaaGreatDoor
