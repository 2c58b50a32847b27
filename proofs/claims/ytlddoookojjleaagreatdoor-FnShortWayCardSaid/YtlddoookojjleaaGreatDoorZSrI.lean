/-
  The program's search in the order of breadth.
-/
import Derived.Test.YtlddoookojjleaaGreatDoorZBfm
import Derived.Test.YtlddoookojjleaaGreatDoorZQue
import Derived.Test.YtlddoookojjleaaGreatDoorZStmtY
import Derived.Test.YtlddoookojjleaaGreatDoorZBhG
import Derived.Test.YtlddoookojjleaaGreatDoorZBase
import Derived.Deep.RegionHeld3
import Derived.Deep.LoopGhost
import Derived.Deep.RegionWith
namespace Go.Proofs.YtlddoookojjleaaGreatDoor
open Go.RowKit Go.Deep
set_option linter.unusedVariables false

/-- A search in memory: what is found as a set, the points that found them, the numbers of steps. -/
def SrM (w : World) (S : Nat) (R : List (Nat × Nat)) : Prop :=
  ∃ (cur : Array Value) (y : Nat), w.heap[S]? = some (.cells cur 73 (0, 0)) ∧ cur.size = 123 ∧ cur[0]? = some (.int .u64 (y : Int)) ∧ y < 18446744073709551616 ∧ (∀ x, x < 64 → (y.testBit x = true ↔ x ∈ nmsR R)) ∧ (∀ x, x < 61 → cur[1 + x]? = some (.int .i64 (parR R x : Int))) ∧ (∀ x, x < 61 → cur[62 + x]? = some (.int .i64 (dstR R x : Int)))

theorem SrM.kept {w w' : World} {S : Nat} {R : List (Nat × Nat)} (h : SrM w S R) (hb : w'.heap[S]? = w.heap[S]?) : SrM w' S R := by
  obtain ⟨cur, y, h1, h2⟩ := h
  exact ⟨cur, y, hb.trans h1, h2⟩

theorem SrM.lt {w : World} {S : Nat} {R : List (Nat × Nat)} (h : SrM w S R) : S < w.heap.size := by
  obtain ⟨cur, y, h1, h2⟩ := h
  exact heap_lt h1

theorem SrM.soft {w : World} {S : Nat} {R : List (Nat × Nat)} (h : SrM w S R) (j : Nat) : w.frozen? ⟨S, j, none⟩ = false := by
  obtain ⟨cur, y, h1, h2⟩ := h
  exact frozen_of_row _ _ _ _ _ h1

theorem SrM.par {w : World} {S x : Nat} {R : List (Nat × Nat)} (h : SrM w S R) (hx : x < 61) : w.cell? ⟨S, 1 + x, none⟩ = some (.int .i64 (parR R x : Int)) := by
  obtain ⟨cur, y, h1, h2, h3, h4, h5, h6, h7⟩ := h
  rw [cell_of_block h1]
  exact h6 x hx

theorem SrM.dst {w : World} {S x : Nat} {R : List (Nat × Nat)} (h : SrM w S R) (hx : x < 61) : w.cell? ⟨S, 62 + x, none⟩ = some (.int .i64 (dstR R x : Int)) := by
  obtain ⟨cur, y, h1, h2, h3, h4, h5, h6, h7⟩ := h
  rw [cell_of_block h1]
  exact h7 x hx

theorem SrM.bits {w : World} {S : Nat} {R : List (Nat × Nat)} (h : SrM w S R) : ∃ y : Nat, w.cell? ⟨S, 0, none⟩ = some (.int .u64 (y : Int)) ∧ y < 18446744073709551616 ∧ ∀ x, x < 64 → (y.testBit x = true ↔ x ∈ nmsR R) := by
  obtain ⟨cur, y, h1, h2, h3, h4, h5, h6, h7⟩ := h
  exact ⟨y, (cell_of_block h1 _).trans h3, h4, h5⟩

/-- A point more. -/
theorem SrM.put {w : World} {S n a y : Nat} {R : List (Nat × Nat)} (h : SrM w S R) (hy : w.cell? ⟨S, 0, none⟩ = some (.int .u64 (y : Int))) (hn : n < 61) :
    SrM (((w.setCell ⟨S, 0, none⟩ (.int .u64 ((y ||| 2 ^ n : Nat) : Int))).setCell ⟨S, 1 + n, none⟩ (.int .i64 (a : Int))).setCell ⟨S, 62 + n, none⟩ (.int .i64 ((dstR R a + 1 : Nat) : Int))) S ((n, a) :: R) := by
  obtain ⟨cur, y', h1, h2, h3, h4, h5, h6, h7⟩ := h
  have e : y' = y := by
    rw [cell_of_block h1, h3] at hy
    simp only [Option.some.injEq, Value.int.injEq, true_and] at hy
    omega
  subst e
  refine ⟨_, y' ||| 2 ^ n, heap_setCell_same _ _ _ _ _ _ (heap_setCell_same _ _ _ _ _ _ (heap_setCell_same _ _ _ _ _ _ h1)), by simp [h2], ?_, ?_, fun x hx => ?_, fun x hx => ?_, fun x hx => ?_⟩
  · rw [Array.getElem?_setIfInBounds, if_neg (by omega), Array.getElem?_setIfInBounds, if_neg (by omega), Array.getElem?_setIfInBounds, if_pos rfl, if_pos (by omega)]
  · have h8 : 2 ^ n < 2 ^ 64 := Nat.pow_lt_pow_right (by decide) (by omega)
    have h9 : y' ||| 2 ^ n < 2 ^ 64 := Nat.or_lt_two_pow (by omega) h8
    omega
  · rw [Nat.testBit_or, Nat.testBit_two_pow, nmsR_cons, List.mem_cons, Bool.or_eq_true, h5 x hx, decide_eq_true_eq]
    constructor
    · rintro (h | h)
      · exact .inr h
      · exact .inl h.symm
    · rintro (h | h)
      · exact .inr h.symm
      · exact .inl h
  · rw [Array.getElem?_setIfInBounds, if_neg (by omega), Array.getElem?_setIfInBounds]
    by_cases e : n = x
    · subst e
      rw [if_pos rfl, if_pos (by simp; omega)]
      simp [parR]
    · rw [if_neg (by omega), Array.getElem?_setIfInBounds, if_neg (by omega), h6 x hx]
      simp [parR, e]
  · rw [Array.getElem?_setIfInBounds]
    by_cases e : n = x
    · subst e
      rw [if_pos rfl, if_pos (by simp; omega)]
      simp [dstR]
    · rw [if_neg (by omega), Array.getElem?_setIfInBounds, if_neg (by omega), Array.getElem?_setIfInBounds, if_neg (by omega), h7 x hx]
      simp [dstR, e]

/-- The cells that the stores of a point more meet. -/
theorem SrM.mid {w : World} {S n a : Nat} {R : List (Nat × Nat)} {v0 v1 : Value} (h : SrM w S R) (hn : n < 61) (ha : a < 61) :
    (w.setCell ⟨S, 0, none⟩ v0).cell? ⟨S, 1 + n, none⟩ = some (.int .i64 (parR R n : Int)) ∧ (w.setCell ⟨S, 0, none⟩ v0).frozen? ⟨S, 1 + n, none⟩ = false ∧ ((w.setCell ⟨S, 0, none⟩ v0).setCell ⟨S, 1 + n, none⟩ v1).cell? ⟨S, 62 + a, none⟩ = some (.int .i64 (dstR R a : Int)) ∧ ((w.setCell ⟨S, 0, none⟩ v0).setCell ⟨S, 1 + n, none⟩ v1).cell? ⟨S, 62 + n, none⟩ = some (.int .i64 (dstR R n : Int)) ∧ ((w.setCell ⟨S, 0, none⟩ v0).setCell ⟨S, 1 + n, none⟩ v1).frozen? ⟨S, 62 + n, none⟩ = false := by
  obtain ⟨cur, y, h1, h2, h3, h4, h5, h6, h7⟩ := h
  have k1 := heap_setCell_same w S 0 _ _ v0 h1
  have k2 := heap_setCell_same _ S (1 + n) _ _ v1 k1
  refine ⟨?_, frozen_of_row _ _ _ _ _ k1, ?_, ?_, frozen_of_row _ _ _ _ _ k2⟩
  · rw [cell_of_block k1, Array.getElem?_setIfInBounds, if_neg (by omega), h6 n hn]
  · rw [cell_of_block k2, Array.getElem?_setIfInBounds, if_neg (by omega), Array.getElem?_setIfInBounds, if_neg (by omega), h7 a ha]
  · rw [cell_of_block k2, Array.getElem?_setIfInBounds, if_neg (by omega), Array.getElem?_setIfInBounds, if_neg (by omega), h7 n hn]

theorem zero_search : Tryz.zeroCells73 = #[.int .u64 0] ++ Array.replicate 122 (.int .i64 0) := by kernel_rfl

theorem SrM.zero (w : World) : SrM (w.alloc (.cells Tryz.zeroCells73 73)) w.heap.size [] := by
  refine ⟨_, 0, heap_alloc_new w _, ?_, ?_, by decide, fun x hx => by simp [nmsR], fun x hx => ?_, fun x hx => ?_⟩
  · rw [zero_search, Array.size_append, Array.size_replicate]; rfl
  · rw [zero_search, Array.getElem?_append_left (by decide)]; rfl
  · rw [zero_search, Array.getElem?_append_right (show (#[Value.int .u64 0] : Array Value).size ≤ _ from by show 1 ≤ _; omega)]
    have : (parR [] x : Int) = 0 := rfl
    rw [this, Array.getElem?_replicate, if_pos (by show _ - 1 < 122; omega)]
  · rw [zero_search, Array.getElem?_append_right (show (#[Value.int .u64 0] : Array Value).size ≤ _ from by show 1 ≤ _; omega)]
    have : (dstR [] x : Int) = 0 := rfl
    rw [this, Array.getElem?_replicate, if_pos (by show _ - 1 < 122; omega)]

set_option maxRecDepth 100000 in
set_option maxHeartbeats 4000000 in
theorem search_any (C q f : Nat) (ns : List Nd) (w : World) (hD : PtsOk q ns) (hle : ns.length ≤ 61) (hs : f ∉ nextN ns f) (hf : f < ns.length) (hG : Gr C w ns) :
    Calls Tryz.prog 14 #[.pointer (some ⟨C, 0, none⟩), .int .i64 f] w fun E w' => ∃ S, E = .returned (.pointer (some ⟨S, 0, none⟩)) ∧ w.heap.size ≤ S ∧ SrM w' S (bfsE (nextN ns) f) ∧ Below w.heap.size w w' := by
  have hb1 := (Below.refl w.heap.size w).alloc (Nat.le_refl _) (.cells Tryz.zeroCells73 73)
  have hz1 : (w.alloc (.cells Tryz.zeroCells73 73)).heap.size = w.heap.size + 1 := by simp
  have hS0 := SrM.zero w
  have hb2 := (Below.refl (w.alloc (.cells Tryz.zeroCells73 73)).heap.size (w.alloc (.cells Tryz.zeroCells73 73))).alloc (Nat.le_refl _) (.cells #[.int .i64 (f : Int)] 3)
  have hq1 := heap_alloc_new (w.alloc (.cells Tryz.zeroCells73 73)) (.cells #[.int .i64 (f : Int)] 3)
  rw [hz1] at hb2 hq1
  have HB1 : Hid (Below w.heap.size w ((w.alloc (.cells Tryz.zeroCells73 73)).alloc (.cells #[.int .i64 (f : Int)] 3))) := Lib.hid (hb1.trans (hb2.mono (by omega)))
  have HS1 : Hid (SrM ((w.alloc (.cells Tryz.zeroCells73 73)).alloc (.cells #[.int .i64 (f : Int)] 3)) w.heap.size []) := Lib.hid (hS0.kept (hb2.block w.heap.size (by omega)))
  have HQ1 : Hid (QRow ((w.alloc (.cells Tryz.zeroCells73 73)).alloc (.cells #[.int .i64 (f : Int)] 3)) (w.heap.size + 1) (.slice (some ⟨w.heap.size + 1, 0, none⟩) 1 1) [f]) := by
    refine ⟨w.heap.size + 1, 0, 1, #[.int .i64 (f : Int)], rfl, Nat.le_refl _, hq1, Nat.le_refl _, Nat.le_refl _, by unfold maxLen; omega, fun i x hx => ?_⟩
    cases i with
    | zero => simp at hx; subst hx; rfl
    | succ i => simp at hx
  have HG := Lib.hid hG
  have HD := Lib.hid hD
  have HS := Lib.hid hs
  have hC := hG.lt
  clear hG hD hs hb1 hz1 hS0 hb2 hq1
  go_enter Tryz.func14, Tryz.ntmps14
  go_wp2_with fail
  generalize (w.alloc (.cells Tryz.zeroCells73 73)).alloc (.cells #[.int .i64 (f : Int)] 3) = w2 at *
  go_loopg [6] 62 (fun gg wk wr => ∃ (i : Nat) (W : List Nat) (g2 off c2 : Nat), wk = .slice (some ⟨g2, off, none⟩) W.length c2 ∧ gg = 62 - i ∧ Hid (QRow wr (w.heap.size + 1) (.slice (some ⟨g2, off, none⟩) W.length c2) W) ∧ Hid (W = (qR f (bfsR (nextN ns) f i)).drop i) ∧ Hid (SrM wr w.heap.size (bfsR (nextN ns) f i)) ∧ Hid (Below w.heap.size w wr))
  case atStart => exact ⟨0, [f], w.heap.size + 1, 0, 1, rfl, rfl, HQ1, Lib.hid rfl, HS1, HB1⟩
  case round =>
    clear HQ1 HS1 HB1
    obtain ⟨i, W, g2, off, c2, rfl, hgg, HQ, HE, HSM, HW⟩ := hrel
    have hbz := HW.out.size
    cases W with
    | nil =>
      have hfin : bfsR (nextN ns) f i = bfsE (nextN ns) f := by
        have h1 := HE.out
        have h2 : (qR f (bfsR (nextN ns) f i)).length ≤ i := List.drop_eq_nil_iff.mp h1.symm
        rw [qR_length] at h2
        exact bfsE_of HS.out (fun a x hx => nextN_lt HD.out a x hx) hle h2
      rw [hfin] at HSM
      clear hgg HQ HE hfin
      go_wp2_with fail
      go_ret
      exact ⟨w.heap.size, rfl, Nat.le_refl _, HSM.out, HW.out⟩
    | cons a V =>
      obtain ⟨ha1, ha2, ha3⟩ := drop_cons_of HE.out.symm
      have hokR := bfsR_ok (nx := nextN ns) HS.out i
      have hRl := hokR.length (fun a x hx => nextN_lt HD.out a x hx)
      rw [qR_length] at ha3
      have hi62 : i < 62 := by omega
      have han : a < ns.length := by
        cases i with
        | zero => cases ha1; exact hf
        | succ i => exact nextN_lt HD.out _ _ (parR_mem hokR (qR_succ ha1)).1
      obtain ⟨R0, hR0⟩ : ∃ R0, R0 = bfsR (nextN ns) f i := ⟨_, rfl⟩
      have HBI : Hid (BfI (nextN ns) f i a 0 R0) := Lib.hid (by rw [hR0]; exact BfI.start HE.out.symm)
      have HVE : Hid (a :: V = (qR f R0).drop i) := Lib.hid (by rw [hR0]; exact HE.out)
      obtain ⟨hc1, hc2, hqa, -⟩ := QRow.tail HQ.out
      unfold maxLen at hc2
      obtain ⟨d, hd⟩ : ∃ d, ns[a]? = some d := ⟨ns[a], List.getElem?_eq_getElem han⟩
      have htwo := nextN_two HD.out hd
      have hint := nextN_ints HD.out hd
      have hno := nextOf_any C a d ns wr (HG.out.kept (HW.out.block C hC)) hd
      have HDA := Lib.hid hd
      have HINT := Lib.hid hint
      have HGG := Lib.hid hgg
      have hVl : V.length + 1 ≤ 62 := by
        have h1 := congrArg List.length HVE.out
        rw [List.length_drop, qR_length, hR0, List.length_cons] at h1
        omega
      rw [← hR0] at HSM
      clear ha1 ha2 ha3 hokR hRl hd hint hgg HE hR0
      go_wp2_with fail
      refine hno.mono ?_
      rintro E w5 ⟨rfl, hb5⟩
      have HQ5 := Lib.hid (HQ.out.below hb5)
      have HW5 := Lib.hid (HW.out.trans (hb5.mono hbz))
      have HSM5 := Lib.hid (HSM.out.kept (hb5.block w.heap.size HSM.out.lt))
      clear hno hb5 HQ HW HSM
      go_wp2_with fail
      go_loopg [6, 26] d.next.length (fun gg wk kk wr => ∃ (j : Nat) (R : List (Nat × Nat)) (W : List Nat) (g2 off c2 : Nat), wk = .slice (some ⟨g2, off, none⟩) W.length c2 ∧ kk = .int .i64 j ∧ j ≤ d.next.length ∧ gg = d.next.length - j ∧ Hid (QRow wr (w.heap.size + 1) (.slice (some ⟨g2, off, none⟩) W.length c2) W) ∧ Hid (W = (qR f R).drop i) ∧ Hid (BfI (nextN ns) f i a j R) ∧ Hid (SrM wr w.heap.size R) ∧ Hid (Below w.heap.size w wr))
      case atStart => exact ⟨0, R0, a :: V, g2, off, c2, rfl, rfl, Nat.zero_le _, rfl, HQ5, HVE, HBI, HSM5, HW5⟩
      case round =>
        clear HQ5 HVE HBI HSM5 HW5 hbz hqa hc1 hc2 hVl
        rename_i gO JO KO hJO hKO
        obtain ⟨j, R, W, g2, off, c2, rfl, rfl, hj, hgj, HQ, HE, HBI, HSM, HW⟩ := hrel
        have hbz := HW.out.size
        have hnl : (nextN ns a).length = d.next.length := by rw [← HINT.out.1, intsW_length]
        have HNL := Lib.hid hnl
        have HGJ := Lib.hid hgj
        clear hgj hnl
        by_cases hjl : j < d.next.length
        · obtain ⟨n, hnx⟩ : ∃ n, (nextN ns a)[j]? = some n := ⟨(nextN ns a)[j]'(by rw [HNL.out]; exact hjl), List.getElem?_eq_getElem (by rw [HNL.out]; exact hjl)⟩
          have hbx : d.next[j]? = some (n : Int) := by
            rw [← HINT.out.1]
            unfold intsW
            rw [List.getElem?_map, hnx]
            rfl
          have hnn : n < ns.length := HINT.out.2 n (List.mem_of_getElem? hnx)
          have hn61 : n < 61 := by omega
          have hcb := ((HG.out.kept (HW.out.block C hC)).node HDA.out).2.1 j _ hbx
          obtain ⟨y, hy, hylt, hyb⟩ := HSM.out.bits
          have hbit := bitHas_any y n hylt (by omega) wr
          have hnxt := HBI.out.next hnx
          have hWl : W.length ≤ 62 := by
            have h1 := congrArg List.length HE.out
            have h2 := (HBI.out.ok HS.out).length (fun a x hx => nextN_lt HD.out a x hx)
            rw [List.length_drop, qR_length] at h1
            omega
          have HIL := Lib.hid HBI.out.lt
          have HYB := Lib.hid (hyb n (by omega))
          clear hbx hnx hyb
          by_cases hm : n ∈ nmsR R
          · have hyt : y.testBit n = true := HYB.out.mpr hm
            rw [hyt] at hbit
            have hfe : fnd1 a R n = R := by unfold fnd1; rw [if_pos hm]
            rw [hfe] at hnxt
            have HNXT := Lib.hid hnxt
            clear hyt hfe hnxt HYB
            go_wp2_with fail
            refine hbit.mono ?_
            rintro E w6 ⟨rfl, rfl⟩
            clear hbit
            go_wp2_with fail
            go_roundg (d.next.length - (j + 1))
            case measure => rw [HGJ.out]; omega
            case rel => exact ⟨j + 1, R, W, g2, off, c2, rfl, by go_num, by omega, rfl, HQ, HE, HNXT, HSM, HW⟩
          · have hyt : y.testBit n = false := by
              cases hh : y.testBit n
              · rfl
              · exact absurd (HYB.out.mp hh) hm
            rw [hyt] at hbit
            have hfe : fnd1 a R n = (n, a) :: R := by unfold fnd1; rw [if_neg hm]
            rw [hfe] at hnxt
            have HNXT := Lib.hid hnxt
            have hwith := with_any y n hylt (by omega) wr
            clear hyt hfe hnxt HYB
            go_wp2_with fail
            refine hbit.mono ?_
            rintro E w6 ⟨rfl, e6⟩
            rw [e6]
            clear hbit e6
            go_wp2_with fail
            refine hwith.mono ?_
            rintro E w6 ⟨rfl, hb6⟩
            have HSM6 := Lib.hid (HSM.out.kept (hb6.block w.heap.size HSM.out.lt))
            have HW6 := Lib.hid (HW.out.trans (hb6.mono hbz))
            have HQ6 := Lib.hid (HQ.out.below hb6)
            have hy6 := (hb6.cell (show w.heap.size < wr.heap.size from HSM.out.lt)).trans hy
            have hs0 := HSM6.out.soft 0
            obtain ⟨m1, m2, m3, m4, m5⟩ := HSM6.out.mid (v0 := .int .u64 ((y ||| 2 ^ n : Nat) : Int)) (v1 := .int .i64 (a : Int)) hn61 (show a < 61 by omega)
            have hputs := HSM6.out.put (n := n) (a := a) hy6 hn61
            clear hwith hb6 HSM HW HQ hy
            go_wp2_with fail
            generalize hW7 : (w6.setCell ⟨w.heap.size, 0, none⟩ (.int .u64 ((y ||| 2 ^ n : Nat) : Int))).setCell ⟨w.heap.size, 1 + n, none⟩ (.int .i64 (a : Int)) = w7 at m3 m4 m5 hputs ⊢
            have hai : (a : Int) < 61 := by omega
            have hni : (n : Int) < 61 := by omega
            have hd61 := (dstR_le R a)
            have hR61 := (HBI.out.ok HS.out).length (fun a x hx => nextN_lt HD.out a x hx)
            have hdi : ((dstR R a : Int) + 1 ≤ 100) := by omega
            have m3d : w7.drew.cell? ⟨w.heap.size, 62 + a, none⟩ = some (.int .i64 (dstR R a : Int)) := m3
            have m4d : w7.drew.cell? ⟨w.heap.size, 62 + n, none⟩ = some (.int .i64 (dstR R n : Int)) := m4
            have m5d : w7.drew.frozen? ⟨w.heap.size, 62 + n, none⟩ = false := m5
            have HPUT : Hid (SrM (w7.drew.setCell ⟨w.heap.size, 62 + n, none⟩ (.int .i64 ((dstR R a : Int) + 1))) w.heap.size ((n, a) :: R)) := hputs.kept (by rfl)
            have HW7 : Hid (Below w.heap.size w (w7.drew.setCell ⟨w.heap.size, 62 + n, none⟩ (.int .i64 ((dstR R a : Int) + 1)))) := Lib.hid (below_set13 (by rw [← hW7]; exact (below_set13 (below_set13 HW6.out (Nat.le_refl _)) (Nat.le_refl _)).drew) (Nat.le_refl _))
            have HQ7 : Hid (QRow (w7.drew.setCell ⟨w.heap.size, 62 + n, none⟩ (.int .i64 ((dstR R a : Int) + 1))) (w.heap.size + 1) (.slice (some ⟨g2, off, none⟩) W.length c2) W) := Lib.hid (QRow.apart (by rw [← hW7]; exact (HQ6.out.apart (Nat.lt_succ_self _)).apart (Nat.lt_succ_self _)) (Nat.lt_succ_self _))
            have hs7 : (w7.drew.setCell ⟨w.heap.size, 62 + n, none⟩ (.int .i64 ((dstR R a : Int) + 1))).heap.size = w6.heap.size := by rw [← hW7]; simp [World.setCell, World.drew]
            have HS7 := Lib.hid hs7
            have hwr : IntKind.i64.wrap ((dstR R a : Int) + 1) = (dstR R a : Int) + 1 := IntWalk.i64_in _ (by omega)
            clear hs7 m3 m4 m5 hputs hW7 HW6 HQ6 HSM6 hy6 hs0 m1 m2
            refine wp_region_held_drew (S := fun _ => True) (by kernel_rfl) trivial (fun hHeld => ?_)
            generalize w7.drew = wd at *
            refine wpAnyH_take (i := 0) (oi := ⟨_, _, _, _, _, _⟩) (v := .pointer (some ⟨w.heap.size, 0, none⟩)) rfl (by kernel_rfl) (by kernel_rfl) (by kernel_rfl) (fun _ _ _ h => h) (Or.inl ⟨by rfl, fun w hSw => by go_simp⟩) hHeld ?_
            try simp only [Act.put, List.setIfInBounds_toArray, List.set_cons_zero, List.set_cons_succ]
            refine wpAnyH_take (i := 1) (oi := ⟨_, _, _, _, _, _⟩) (v := .int .i64 (n : Int)) rfl (by kernel_rfl) (by kernel_rfl) (by kernel_rfl) (fun _ _ _ h => h) (Or.inl ⟨by rfl, fun w hSw => by go_simp⟩) hHeld ?_
            try simp only [Act.put, List.setIfInBounds_toArray, List.set_cons_zero, List.set_cons_succ]
            refine wpAnyH_take (i := 2) (oi := ⟨_, _, _, _, _, _⟩) (v := .pointer (some ⟨w.heap.size, 0, none⟩)) rfl (by kernel_rfl) (by kernel_rfl) (by kernel_rfl) (fun _ _ _ h => h) (Or.inl ⟨by rfl, fun w hSw => by go_simp⟩) hHeld ?_
            try simp only [Act.put, List.setIfInBounds_toArray, List.set_cons_zero, List.set_cons_succ]
            refine wpAnyH_take (i := 3) (oi := ⟨_, _, _, _, _, _⟩) (v := .int .i64 (a : Int)) rfl (by kernel_rfl) (by kernel_rfl) (by kernel_rfl) (fun _ _ _ h => h) (Or.inl ⟨by rfl, fun w hSw => by go_simp⟩) hHeld ?_
            try simp only [Act.put, List.setIfInBounds_toArray, List.set_cons_zero, List.set_cons_succ]
            refine wpAnyH_take (i := 4) (oi := ⟨_, _, _, _, _, _⟩) (v := .pointer (some ⟨w.heap.size, 0, none⟩)) rfl (by kernel_rfl) (by kernel_rfl) (by kernel_rfl) (fun _ _ _ h => h) (Or.inl ⟨by rfl, fun w hSw => by go_simp⟩) hHeld ?_
            try simp only [Act.put, List.setIfInBounds_toArray, List.set_cons_zero, List.set_cons_succ]
            refine wpAnyH_take (i := 5) (oi := ⟨_, _, _, _, _, _⟩) (v := .pointer (some ⟨w.heap.size, 62, none⟩)) rfl (by kernel_rfl) (by kernel_rfl) (by kernel_rfl) (fun _ _ _ h => h) (Or.inl ⟨by rfl, fun w hSw => by go_simp⟩) hHeld ?_
            try simp only [Act.put, List.setIfInBounds_toArray, List.set_cons_zero, List.set_cons_succ]
            refine wpAnyH_take (i := 6) (oi := ⟨_, _, _, _, _, _⟩) (v := .pointer (some ⟨w.heap.size, 62 + a, none⟩)) rfl (by kernel_rfl) (by kernel_rfl) (by kernel_rfl) (fun _ _ _ h => h) (Or.inl ⟨by rfl, fun w hSw => by go_simp⟩) hHeld ?_
            try simp only [Act.put, List.setIfInBounds_toArray, List.set_cons_zero, List.set_cons_succ]
            refine wpAnyH_take (i := 9) (oi := ⟨_, _, _, _, _, _⟩) (v := .pointer (some ⟨w.heap.size, 0, none⟩)) rfl (by kernel_rfl) (by kernel_rfl) (by kernel_rfl) (fun _ _ _ h => h) (Or.inl ⟨by rfl, fun w hSw => by go_simp⟩) hHeld ?_
            try simp only [Act.put, List.setIfInBounds_toArray, List.set_cons_zero, List.set_cons_succ]
            refine wpAnyH_take (i := 10) (oi := ⟨_, _, _, _, _, _⟩) (v := .pointer (some ⟨w.heap.size, 62, none⟩)) rfl (by kernel_rfl) (by kernel_rfl) (by kernel_rfl) (fun _ _ _ h => h) (Or.inl ⟨by rfl, fun w hSw => by go_simp⟩) hHeld ?_
            try simp only [Act.put, List.setIfInBounds_toArray, List.set_cons_zero, List.set_cons_succ]
            refine wpAnyH_ready (rs := [7]) (by kernel_rfl) (by simp) ?_
            refine AllReadyH.cons (o := ⟨_, _, _, _, _, _⟩) rfl (fun K hK => ?_) AllReadyH.nil
            go_simp
            refine hK.out _ _ trivial (fun hHeld => ?_)
            clear hK K
            refine wpAnyH_take (i := 8) (oi := ⟨_, _, _, _, _, _⟩) (v := .int .i64 ((dstR R a : Int) + 1)) rfl (by kernel_rfl) (by kernel_rfl) (by kernel_rfl) (fun _ _ _ h => h) (Or.inl ⟨by rfl, fun w hSw => by go_simp⟩) hHeld ?_
            try simp only [Act.put, List.setIfInBounds_toArray, List.set_cons_zero, List.set_cons_succ]
            refine wpAnyH_take (i := 11) (oi := ⟨_, _, _, _, _, _⟩) (v := .pointer (some ⟨w.heap.size, 62 + n, none⟩)) rfl (by kernel_rfl) (by kernel_rfl) (by kernel_rfl) (fun _ _ _ h => h) (Or.inl ⟨by rfl, fun w hSw => by go_simp⟩) hHeld ?_
            try simp only [Act.put, List.setIfInBounds_toArray, List.set_cons_zero, List.set_cons_succ]
            refine wpAnyH_ready (rs := [12]) (by kernel_rfl) (by simp) ?_
            refine AllReadyH.cons (o := ⟨_, _, _, _, _, _⟩) rfl (fun K hK => ?_) AllReadyH.nil
            go_simp
            refine hK.out _ _ trivial (fun hHeld => ?_)
            clear hK K
            refine wpAnyH_done (by kernel_rfl) ?_ _
            clear hHeld
            clear m3d m4d m5d hwr hai hni hd61 hR61 hdi
            generalize wd.setCell ⟨w.heap.size, 62 + n, none⟩ (.int .i64 ((dstR R a : Int) + 1)) = w8 at *
            have HEN : Hid (W ++ [n] = (qR f ((n, a) :: R)).drop i) := Lib.hid (by rw [qR_drop_snoc (by have := HIL.out; omega), ← HE.out])
            have hz8 := HW7.out.size
            clear HS7 HE hm
            go_wp2_with (at_builtin; refine wpList_append_queue rfl _ _ rfl (w.heap.size + 1) _ _ (by rfl) (HQ7.out.below ((Below.refl _ _).alloc (Nat.le_refl _) _)) _ _ n (by rfl) ?pq1 (by omega) ?pr1 ?_)
            try (case pq1 => exact (cell_of_block (heap_alloc_new _ _) 0).trans rfl)
            try (case pr1 => simp; omega)
            intro v7 w7 hq7 hg7
            have hkb : Below w8.heap.size w8 (w8.alloc (.cells #[.int .i64 (n : Int)] 3)) := (Below.refl _ _).alloc (Nat.le_refl _) _
            have hql := (HQ7.out.below hkb).lt
            have hbb := (HW7.out.trans (hkb.mono HW7.out.size)).grown hg7 (by have := hkb.size; omega) (fun k hk => by have := (hql k hk).1; omega)
            have hS9 := (HPUT.out.kept (hkb.block w.heap.size HPUT.out.lt)).kept (hg7.block w.heap.size (by have := hkb.size; have := HPUT.out.lt; omega) (fun e => by have := (hql _ e.symm).1; omega))
            have HQ9 := Lib.hid hq7
            have HS9 := Lib.hid hS9
            have HW9 := Lib.hid hbb
            clear hq7 hg7 hkb hql hbb hS9 HPUT HW7 HQ7
            go_wp2_with fail
            obtain ⟨g8, off8, c8, cur8, hv8, hq8⟩ := id HQ9.out
            go_roundg (d.next.length - (j + 1))
            case measure => rw [HGJ.out]; omega
            case rel => exact ⟨j + 1, (n, a) :: R, W ++ [n], g8, off8, c8, hv8, by go_num, by omega, rfl, Lib.hid (by rw [← hv8]; exact HQ9.out), HEN, HNXT, HS9, HW9⟩
        · have hje : j = d.next.length := by omega
          have hdn : R = bfsR (nextN ns) f (i + 1) := BfI.done (by rw [HNL.out, ← hje]; exact HBI.out)
          have hBl := HBI.out.lt
          have hWE : W = (qR f R).drop i := HE.out
          obtain ⟨b, V2, hWb⟩ : ∃ b V2, W = b :: V2 := by
            cases W with
            | nil =>
              have := List.drop_eq_nil_iff.mp hWE.symm
              omega
            | cons b V2 => exact ⟨b, V2, rfl⟩
          subst hWb
          obtain ⟨-, hV2, -⟩ := drop_cons_of hWE.symm
          have HE2 : Hid (V2 = (qR f (bfsR (nextN ns) f (i + 1))).drop (i + 1)) := Lib.hid (by rw [← hdn]; exact hV2)
          have HS2 : Hid (SrM wr w.heap.size (bfsR (nextN ns) f (i + 1))) := Lib.hid (by rw [← hdn]; exact HSM.out)
          obtain ⟨hc1, hc2, hqa, hqt⟩ := QRow.tail HQ.out
          unfold maxLen at hc2
          have hsl := slice_tail g2 off V2.length c2 hc1
          obtain ⟨g3, off3, h3⟩ : ∃ g3 off3, (if c2 = 1 then (⟨g2, off, none⟩ : Addr) else ⟨g2, off + 1, none⟩) = ⟨g3, off3, none⟩ := by
            by_cases h : c2 = 1
            · exact ⟨g2, off, by rw [if_pos h]⟩
            · exact ⟨g2, off + 1, by rw [if_neg h]⟩
          simp only [h3] at hsl hqt
          have HQT := Lib.hid hqt
          subst hje
          have hjd : decide ((d.next.length : Int) < (d.next.length : Int)) = false := decide_eq_false (by omega)
          clear hdn HE HBI HSM hWE hV2 hqa hqt h3 HQ hBl
          go_wp2_with fail
          go_roundg (62 - (i + 1))
          case measure => rw [HGG.out]; omega
          case rel => exact ⟨i + 1, V2, g3, off3, c2 - 1, rfl, rfl, HQT, HE2, HS2, HW⟩

end Go.Proofs.YtlddoookojjleaaGreatDoor
