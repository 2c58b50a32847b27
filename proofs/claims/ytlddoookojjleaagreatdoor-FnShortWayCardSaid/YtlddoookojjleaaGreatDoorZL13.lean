/-
  The model's search in the order of breadth.
-/
import Derived.Test.YtlddoookojjleaaGreatDoorZBfm
import Derived.Test.YtlddoookojjleaaGreatDoorZQue
import Derived.Test.YtlddoookojjleaaGreatDoorZMem
import Derived.Test.YtlddoookojjleaaGreatDoorZL2Xa
import Derived.Test.YtlddoookojjleaaGreatDoorZBase
import Derived.Deep.RegionHeld3
import Derived.Deep.LoopGhost
namespace Go.Proofs.YtlddoookojjleaaGreatDoor
open Go.RowKit Go.Deep
set_option linter.unusedVariables false

/-- The one that found a point, -1 where it was not found. -/
def befI (R : List (Nat × Nat)) (x : Nat) : Int := if x ∈ nmsR R then (parR R x : Int) else -1

/-- A row of numbers in memory. -/
def BfM (w : World) (G n : Nat) (b : Nat → Int) : Prop := ∃ cur, w.heap[G]? = some (.cells cur 3 (0, 0)) ∧ cur.size = n ∧ ∀ x, x < n → cur[x]? = some (.int .i64 (b x))

theorem BfM.kept {w w' : World} {G n : Nat} {b : Nat → Int} (h : BfM w G n b) (hb : w'.heap[G]? = w.heap[G]?) : BfM w' G n b := by
  obtain ⟨cur, h1, h2⟩ := h
  exact ⟨cur, hb.trans h1, h2⟩

theorem BfM.lt {w : World} {G n : Nat} {b : Nat → Int} (h : BfM w G n b) : G < w.heap.size := by
  obtain ⟨cur, h1, h2⟩ := h
  exact heap_lt h1

theorem BfM.cell {w : World} {G n x : Nat} {b : Nat → Int} (h : BfM w G n b) (hx : x < n) : w.cell? ⟨G, x, none⟩ = some (.int .i64 (b x)) := by
  obtain ⟨cur, h1, h2, h3⟩ := h
  rw [cell_of_block h1]
  exact h3 x hx

theorem BfM.soft {w : World} {G n : Nat} {b : Nat → Int} (h : BfM w G n b) (x : Nat) : w.frozen? ⟨G, x, none⟩ = false := by
  obtain ⟨cur, h1, h2, h3⟩ := h
  exact frozen_of_row _ _ _ _ _ h1

theorem BfM.put {w : World} {G n x : Nat} {b b' : Nat → Int} {v : Int} (h : BfM w G n b) (hx : x < n) (h1 : b' x = v) (h2 : ∀ z, z < n → z ≠ x → b' z = b z) : BfM (w.setCell ⟨G, x, none⟩ (.int .i64 v)) G n b' := by
  obtain ⟨cur, c1, c2, c3⟩ := h
  refine ⟨_, heap_setCell_same _ _ _ _ _ _ c1, by simp [c2], fun z hz => ?_⟩
  rw [Array.getElem?_setIfInBounds]
  by_cases e : x = z
  · subst e
    rw [if_pos rfl, if_pos (by omega), h1]
  · rw [if_neg e, c3 z hz, h2 z hz (fun h => e h.symm)]

theorem BfM.congr {w : World} {G n : Nat} {b b' : Nat → Int} (h : BfM w G n b) (hb : ∀ z, z < n → b' z = b z) : BfM w G n b' := by
  obtain ⟨cur, c1, c2, c3⟩ := h
  exact ⟨cur, c1, c2, fun z hz => by rw [hb z hz]; exact c3 z hz⟩

theorem befI_new {R : List (Nat × Nat)} {n a : Nat} : befI ((n, a) :: R) n = (a : Int) ∧ ∀ z, z ≠ n → befI ((n, a) :: R) z = befI R z := by
  constructor
  · simp [befI, nmsR_cons, parR]
  · intro z hz
    unfold befI
    by_cases h : z ∈ nmsR R
    · rw [if_pos (by rw [nmsR_cons]; exact List.mem_cons_of_mem _ h), if_pos h]
      rw [show parR ((n, a) :: R) z = parR R z by show (if n = z then a else parR R z) = _; rw [if_neg (fun e => hz e.symm)]]
    · rw [if_neg (fun e => by rw [nmsR_cons, List.mem_cons] at e; exact e.elim hz h), if_neg h]

set_option maxRecDepth 100000 in
set_option maxHeartbeats 2000000 in
theorem l13Back_any (nx : Nat → List Nat) (R : List (Nat × Nat)) (G n f to cap : Nat) (w : World) (hR : OkR nx f R) (hx : to ∈ nmsR R) (hn : ∀ a, ∀ x ∈ nx a, x < n) (hn61 : n ≤ 61) (hcap : n ≤ cap) (hcm : cap ≤ maxLen) (hM : BfM w G n (befI R)) :
    Calls Tryz.prog 34 #[.slice (some ⟨G, 0, none⟩) n cap, .int .i64 f, .int .i64 to] w fun E w' => ∃ v, E = .returned v ∧ RowI w' w.heap.size v (intsW (wayR f R to)) ∧ Below w.heap.size w w' := by
  have hton : to < n := by
    have := (parR_mem hR hx).1
    exact hn _ _ this
  have hlen := wayR_length hR hx
  have hdl := dstR_le R to
  have hRl := hR.length hn
  have hc0 := hM.cell hton
  have hb0 : befI R to = (parR R to : Int) := by unfold befI; rw [if_pos hx]
  rw [hb0] at hc0
  have hGl := hM.lt
  unfold maxLen at hcm
  have hb1 := (Below.refl w.heap.size w).alloc (Nat.le_refl _) (.cells #[.int .i64 (to : Int)] 3)
  have hrow0 : RowI (w.alloc (.cells #[.int .i64 (to : Int)] 3)) w.heap.size (.slice (some ⟨w.heap.size, 0, none⟩) 1 1) (intsW [to]) := World.ownsRow_lit (base := w.heap.size) (e := 3) (size := 1) w #[.int .i64 (to : Int)] 1 (by omega) (by simp [maxLen]) rfl
  have hc1 : (w.alloc (.cells #[.int .i64 (to : Int)] 3)).cell? ⟨G, to, none⟩ = some (.int .i64 (parR R to : Int)) := (hb1.cell (show G < w.heap.size from hGl)).trans hc0
  have hst : toR f R (parR R to) ++ [to] = wayR f R to := (wayR_step hR hx).symm
  have hpm := (parR_mem hR hx).2
  have HST : Hid (∃ (t : Nat) (cur : List Nat), Value.int .i64 (parR R to : Int) = .int .i64 (t : Int) ∧ (toR f R t).length = (toR f R (parR R to)).length ∧ Hid (RowI (w.alloc (.cells #[.int .i64 (to : Int)] 3)) w.heap.size (.slice (some ⟨w.heap.size, 0, none⟩) 1 1) (intsW cur)) ∧ Hid (toR f R t ++ cur = wayR f R to) ∧ Hid (t ≠ f → t ∈ nmsR R) ∧ Hid (Below w.heap.size w (w.alloc (.cells #[.int .i64 (to : Int)] 3)))) := ⟨parR R to, [to], rfl, rfl, hrow0, hst, hpm, hb1⟩
  have HM := Lib.hid hM
  have HR := Lib.hid hR
  have HN := Lib.hid hn
  have HB0 := Lib.hid hb1
  have HLW : Hid ((wayR f R to).length ≤ 62) := by unfold Hid; omega
  clear hR hx hn hlen hdl hRl hc0 hb0 hM hb1 hrow0 hst hpm
  go_enter Tryz.func34, Tryz.ntmps34
  go_wp2_with fail
  generalize w.alloc (.cells #[.int .i64 (to : Int)] 3) = w1 at *
  clear hc1
  go_loopg [7, 8] (toR f R (parR R to)).length (fun gg o a wr => ∃ (t : Nat) (cur : List Nat), a = .int .i64 (t : Int) ∧ (toR f R t).length = gg ∧ Hid (RowI wr w.heap.size o (intsW cur)) ∧ Hid (toR f R t ++ cur = wayR f R to) ∧ Hid (t ≠ f → t ∈ nmsR R) ∧ Hid (Below w.heap.size w wr))
  case atStart => exact HST
  case round =>
    clear HST HB0
    obtain ⟨t, cur, rfl, hgg, HO, HE, HT, HB⟩ := hrel
    obtain ⟨Ao, co, ho⟩ := HO.out.slice
    rw [intsW_length] at ho
    have hcl : cur.length ≤ 62 := by
      have h1 := HE.out
      have h2 := HLW.out
      rw [← h1, List.length_append] at h2
      omega
    have hbz := HB.out.size
    by_cases htf : t = f
    · have HEE : Hid ([f] ++ cur = wayR f R to) := by
        have h1 := HE.out
        unfold toR at h1
        rw [if_pos htf] at h1
        exact h1
      have hne : ((t : Int) != (f : Int)) = false := by simp [htf]
      clear hgg HE HT
      have hrowL : RowI (wr.alloc (.cells #[.int .i64 (f : Int)] 3)) w.heap.size (.slice (some ⟨wr.heap.size, 0, none⟩) 1 1) (intsW [f]) := World.ownsRow_lit (base := w.heap.size) (e := 3) (size := 1) wr #[.int .i64 (f : Int)] 1 (by omega) (by simp [maxLen]) rfl
      have HRL := Lib.hid hrowL
      have HO2 := Lib.hid (HO.out.below ((Below.refl wr.heap.size wr).alloc (Nat.le_refl _) (.cells #[.int .i64 (f : Int)] 3)))
      have HB2 := Lib.hid (HB.out.alloc hbz (.cells #[.int .i64 (f : Int)] 3))
      clear hrowL HO
      subst ho
      go_wp2_with (at_builtin; refine wpList_append_rows rfl _ _ rfl w.heap.size w.heap.size _ _ (intsW [f]) (intsW cur) (by rfl) rfl HRL.out HO2.out ?rb1 ?rb2 ?_)
      try (case rb1 => rw [intsW_length, intsW_length]; simp; omega)
      try (case rb2 => simp; omega)
      intro v' w' hr' hgr'
      have hb' := HB2.out.grown hgr' (by simp; omega) (fun k hk => ((RowI.own HRL.out).lt k hk).1)
      rw [← intsW_append, HEE.out] at hr'
      have HR' := Lib.hid hr'
      have HBB := Lib.hid hb'
      clear hr' hgr' hb'
      go_wp2_with fail
      go_ret
      exact ⟨v', rfl, HR'.out, HBB.out⟩
    · have hne : ((t : Int) != (f : Int)) = true := by simp; omega
      have htm := HT.out htf
      have htn : t < n := HN.out _ _ (parR_mem HR.out htm).1
      have hway := wayR_step HR.out htm
      have htoR : toR f R t = wayR f R t := by unfold toR; rw [if_neg htf]
      have hb0 : befI R t = (parR R t : Int) := by unfold befI; rw [if_pos htm]
      have hGc := (HM.out.kept (HB.out.block G hGl)).cell htn
      rw [hb0] at hGc
      have HE2 : Hid (toR f R (parR R t) ++ ([t] ++ cur) = wayR f R to) := by
        have h1 := HE.out
        rw [htoR, hway, List.append_assoc] at h1
        exact h1
      have HT2 := Lib.hid (parR_mem HR.out htm).2
      have hgl : (toR f R (parR R t)).length < gk := by
        rw [← hgg, htoR, hway, List.length_append]
        simp
      have HGL := Lib.hid hgl
      clear hgg HE HT htoR hb0 hway hgl
      have hrowL : RowI (wr.alloc (.cells #[.int .i64 (t : Int)] 3)) w.heap.size (.slice (some ⟨wr.heap.size, 0, none⟩) 1 1) (intsW [t]) := World.ownsRow_lit (base := w.heap.size) (e := 3) (size := 1) wr #[.int .i64 (t : Int)] 1 (by omega) (by simp [maxLen]) rfl
      have HRL := Lib.hid hrowL
      have hba := (Below.refl wr.heap.size wr).alloc (Nat.le_refl _) (.cells #[.int .i64 (t : Int)] 3)
      have HO2 := Lib.hid (HO.out.below hba)
      have HB2 := Lib.hid (HB.out.alloc hbz (.cells #[.int .i64 (t : Int)] 3))
      have hGc2 : (wr.alloc (.cells #[.int .i64 (t : Int)] 3)).cell? ⟨G, t, none⟩ = some (.int .i64 (parR R t : Int)) := (hba.cell (show G < wr.heap.size by omega)).trans hGc
      clear hrowL HO hba
      subst ho
      go_wp2_with (at_builtin; refine wpList_append_rows rfl _ _ rfl w.heap.size w.heap.size _ _ (intsW [t]) (intsW cur) (by rfl) rfl HRL.out HO2.out ?rc1 ?rc2 ?_)
      try (case rc1 => rw [intsW_length, intsW_length]; simp; omega)
      try (case rc2 => simp; omega)
      intro v' w' hr' hgr'
      have hb' := HB2.out.grown hgr' (by simp; omega) (fun k hk => ((RowI.own HRL.out).lt k hk).1)
      rw [← intsW_append] at hr'
      have hGc3 : w'.cell? ⟨G, t, none⟩ = some (.int .i64 (parR R t : Int)) := by
        have h1 := (HM.out.kept (hb'.block G hGl)).cell htn
        rw [show befI R t = (parR R t : Int) by unfold befI; rw [if_pos htm]] at h1
        exact h1
      have HR' := Lib.hid hr'
      have HBB := Lib.hid hb'
      clear hr' hgr' hb' hGc hGc2
      go_wp2_with fail
      go_roundg (toR f R (parR R t)).length
      case measure => exact HGL.out
      case rel => exact ⟨parR R t, [t] ++ cur, rfl, rfl, HR', HE2, HT2, HBB⟩

theorem NextV.cellAt13 {w : World} {B : Nat} {u : Value} {next : List Int} (h : NextV w B u next) {x : Nat} (hx : x < next.length) : ∃ g, u = .slice (some ⟨g, 0, none⟩) next.length next.length ∧ ∀ v, next[x]? = some v → w.cell? ⟨g, x, none⟩ = some (.int .i64 v) := by
  rcases h with ⟨h1, _⟩ | ⟨g, h1, _, h3⟩
  · rw [h1] at hx
    exact absurd hx (Nat.not_lt_zero _)
  · refine ⟨g, h1, fun v hv => ?_⟩
    rw [cell_of_block h3]
    simp [hv]

theorem NextV.asSlice13 {w : World} {B : Nat} {u : Value} {next : List Int} (h : NextV w B u next) : ∃ A c, u = .slice A next.length c := by
  rcases h with ⟨h1, h2⟩ | ⟨g, h1, _, _⟩
  · exact ⟨none, 0, by rw [h2, h1]; rfl⟩
  · exact ⟨_, _, h1⟩

theorem BfM.made (w : World) (n : Nat) : ∃ b, BfM (w.alloc (.cells (madeCells #[.int .i64 0] n) 3)) w.heap.size n b := by
  refine ⟨fun _ => 0, _, heap_alloc_new w _, by simp [madeCells], fun i hi => ?_⟩
  simp [madeCells, hi, Nat.mod_one]

set_option maxRecDepth 100000 in
set_option maxHeartbeats 4000000 in
theorem l13Way_any (q f to g cap B : Nat) (ns : List Nd) (w : World) (hD : PtsOk q ns) (hle : ns.length ≤ 61) (hs : f ∉ nextN ns f) (hf : f < ns.length) (hto : to < ns.length) (hg : g < w.heap.size) (hP : PRow w B (.slice (some ⟨g, 0, none⟩) ns.length cap) ns) :
    Calls Tryz.prog 17 #[.slice (some ⟨g, 0, none⟩) ns.length cap, .int .i64 f, .int .i64 to] w (WayPost13 (nextN ns) f to w) := by
  have hmk := run_make_row' (P := Tryz.prog) 23 3 (.int .i64 0) 8 Tryz.underlying23 Tryz.infoInt rfl .i64 .i64 ns.length (by omega) (by omega) w
  obtain ⟨b0, hbm⟩ := BfM.made w ns.length
  have hbw := (Below.refl w.heap.size w).alloc (Nat.le_refl _) (.cells (madeCells #[.int .i64 0] ns.length) 3)
  have hz1 : (w.alloc (.cells (madeCells #[.int .i64 0] ns.length) 3)).heap.size = w.heap.size + 1 := by simp
  generalize w.alloc (.cells (madeCells #[.int .i64 0] ns.length) 3) = w1 at hmk hbm hbw hz1
  have HP := Lib.hid hP
  have HD := Lib.hid hD
  have HS := Lib.hid hs
  have HZ1 := Lib.hid hz1
  have HBM : Hid (BfM w1 w.heap.size ns.length (fun z => if z < 0 then -1 else b0 z)) := hbm.congr (fun z hz => by rw [if_neg (by omega)])
  have HBW := Lib.hid hbw
  clear hP hD hs hz1 hbm hbw
  go_enter Tryz.func17, Tryz.ntmps17
  go_wp2_with fail
  clear hmk
  go_loopw [9] (fun i wr => ∃ k : Nat, i = .int .i64 k ∧ k ≤ ns.length ∧ Hid (BfM wr w.heap.size ns.length (fun z => if z < k then -1 else b0 z)) ∧ Hid (Below w.heap.size w wr) ∧ Hid (wr.heap.size = w.heap.size + 1)) (fun i _ => ns.length - (intOf i).toNat)
  case atStart => exact ⟨0, rfl, Nat.zero_le _, HBM, HBW, HZ1⟩
  case round =>
    clear HBM HBW HZ1
    obtain ⟨k, rfl, hk, HB, HW, HZ⟩ := hrel
    by_cases hlt : k < ns.length
    · have hc := HB.out.cell hlt
      have hsf := HB.out.soft k
      have HB2 : Hid (BfM (wr.setCell ⟨w.heap.size, k, none⟩ (.int .i64 (-1))) w.heap.size ns.length (fun z => if z < k + 1 then -1 else b0 z)) := HB.out.put hlt (by simp) (fun z hz hne => by
        by_cases h : z < k
        · rw [if_pos (by omega), if_pos h]
        · rw [if_neg (by omega), if_neg h])
      have HW2 : Hid (Below w.heap.size w (wr.setCell ⟨w.heap.size, k, none⟩ (.int .i64 (-1)))) := below_set13 HW.out (Nat.le_refl _)
      have HZ2 : Hid ((wr.setCell ⟨w.heap.size, k, none⟩ (.int .i64 (-1))).heap.size = w.heap.size + 1) := Lib.hid (by rw [← HZ.out]; simp [World.setCell])
      clear HB HW HZ
      go_wp2_with fail
      refine ⟨⟨k + 1, by simp, by omega, HB2, HW2, HZ2⟩, ?_⟩
      simp only [intOf]
      omega
    · have hke : k = ns.length := by omega
      subst hke
      have HB0 : Hid (BfM wr w.heap.size ns.length (befI [])) := HB.out.congr (fun z hz => by rw [if_pos hz]; simp [befI, nmsR])
      clear HB
      have hQ0 : QRow (wr.alloc (.cells #[.int .i64 (f : Int)] 3)) (w.heap.size + 1) (.slice (some ⟨wr.heap.size, 0, none⟩) 1 1) [f] := by
        refine ⟨wr.heap.size, 0, 1, #[.int .i64 (f : Int)], rfl, by rw [HZ.out]; exact Nat.le_refl _, heap_alloc_new wr _, Nat.le_refl _, Nat.le_refl _, by unfold maxLen; omega, fun i x hx => ?_⟩
        cases i with
        | zero => simp at hx; subst hx; rfl
        | succ i => simp at hx
      have hb2 := (Below.refl wr.heap.size wr).alloc (Nat.le_refl _) (.cells #[.int .i64 (f : Int)] 3)
      have HB1 := Lib.hid (HB0.out.kept (hb2.block w.heap.size HB0.out.lt))
      have HW1 := Lib.hid (HW.out.alloc HW.out.size (.cells #[.int .i64 (f : Int)] 3))
      have HQ0 := Lib.hid hQ0
      clear hQ0 hb2 HW HZ HB0
      go_wp2_with fail
      generalize hw2 : wr.alloc (.cells #[.int .i64 (f : Int)] 3) = w2 at *
      generalize wr.heap.size = G0 at HQ0 ⊢
      clear hw2
      go_loopg [10] 62 (fun gg wk wr => ∃ (i : Nat) (W : List Nat) (g2 off c2 : Nat), wk = .slice (some ⟨g2, off, none⟩) W.length c2 ∧ gg = 62 - i ∧ Hid (QRow wr (w.heap.size + 1) (.slice (some ⟨g2, off, none⟩) W.length c2) W) ∧ Hid (W = (qR f (bfsR (nextN ns) f i)).drop i) ∧ Hid (BfM wr w.heap.size ns.length (befI (bfsR (nextN ns) f i))) ∧ Hid (to ∉ nmsR (bfsR (nextN ns) f i)) ∧ Hid (Below w.heap.size w wr))
      case atStart => exact ⟨0, [f], G0, 0, 1, rfl, rfl, HQ0, Lib.hid rfl, HB1, Lib.hid (by simp [bfsR, nmsR]), HW1⟩
      case round =>
        clear HB1 HQ0 HW1
        obtain ⟨i, W, g2, off, c2, rfl, hgg, HQ, HE, HB, HT, HW⟩ := hrel
        have hbz := HW.out.size
        have hGl := HB.out.lt
        cases W with
        | nil =>
          have hfin : to ∉ nmsR (bfsE (nextN ns) f) := by
            have h1 := HE.out
            have h2 : (qR f (bfsR (nextN ns) f i)).length ≤ i := List.drop_eq_nil_iff.mp h1.symm
            rw [qR_length] at h2
            rw [← bfsE_of HS.out (fun a x hx => nextN_lt HD.out a x hx) hle h2]
            exact HT.out
          have hrowN : RowI (wr.alloc (.cells #[] 3)) w.heap.size (.slice (some ⟨wr.heap.size, 0, none⟩) 0 0) [] := World.ownsRow_lit (base := w.heap.size) (e := 3) (size := 1) wr #[] 0 (by omega) (by simp [maxLen]) rfl
          have HFIN := Lib.hid hfin
          have HRN := Lib.hid hrowN
          have HW2 := Lib.hid (HW.out.alloc hbz (.cells #[] 3))
          clear hgg HQ HE HB HT HW hfin hrowN
          go_wp2_with fail
          go_ret2
          exact ⟨.slice (some ⟨wr.heap.size, 0, none⟩) 0 0, .inr ⟨HFIN.out, rfl, HRN.out⟩, HW2.out⟩
        | cons a V =>
          obtain ⟨ha1, ha2, ha3⟩ := drop_cons_of HE.out.symm
          have hokR := bfsR_ok (nx := nextN ns) HS.out i
          have hRl := hokR.length (fun a x hx => nextN_lt HD.out a x hx)
          rw [qR_length] at ha3
          have hi62 : i < 62 := by omega
          have han : a < ns.length := by
            cases i with
            | zero => cases ha1; exact hf
            | succ i => exact nextN_lt HD.out _ _ (parR_mem hokR (qR_succ ha1)).1
          obtain ⟨R0, hR0⟩ : ∃ R0, R0 = bfsR (nextN ns) f i := ⟨_, rfl⟩
          have HBI : Hid (BfI (nextN ns) f i a 0 R0) := Lib.hid (by rw [hR0]; exact BfI.start HE.out.symm)
          have HVE : Hid (V = (qR f R0).drop (i + 1)) := Lib.hid (by rw [hR0]; exact ha2)
          obtain ⟨hc1, hc2, hqa, hqt⟩ := QRow.tail HQ.out
          unfold maxLen at hc2
          have hsl := slice_tail g2 off V.length c2 hc1
          obtain ⟨g3, off3, h3⟩ : ∃ g3 off3, (if c2 = 1 then (⟨g2, off, none⟩ : Addr) else ⟨g2, off + 1, none⟩) = ⟨g3, off3, none⟩ := by
            by_cases h : c2 = 1
            · exact ⟨g2, off, by rw [if_pos h]⟩
            · exact ⟨g2, off + 1, by rw [if_neg h]⟩
          simp only [h3] at hsl hqt
          clear h3
          obtain ⟨d, hd⟩ : ∃ d, ns[a]? = some d := ⟨ns[a], List.getElem?_eq_getElem han⟩
          have htwo := nextN_two HD.out hd
          have hint := nextN_ints HD.out hd
          have HDA := Lib.hid hd
          have HINT := Lib.hid hint
          have HQT := Lib.hid hqt
          have HGG := Lib.hid hgg
          have hVl : V.length + 1 ≤ 62 := by
            have h1 := congrArg List.length HVE.out
            rw [List.length_drop, qR_length, hR0] at h1
            omega
          rw [← hR0] at HB HT
          clear ha1 ha2 ha3 hokR hRl hd hint hqt hgg HQ HE hR0
          obtain ⟨ua, ⟨-, -, -, -, q4⟩, hua⟩ := (HP.out.below HW.out).cells HDA.out
          clear hua
          go_wp2_with fail
          go_loopg [10, 12] d.next.length (fun gg wk kk wr => ∃ (j : Nat) (R : List (Nat × Nat)) (W : List Nat) (g2 off c2 : Nat), wk = .slice (some ⟨g2, off, none⟩) W.length c2 ∧ kk = .int .i64 j ∧ j ≤ d.next.length ∧ gg = d.next.length - j ∧ Hid (QRow wr (w.heap.size + 1) (.slice (some ⟨g2, off, none⟩) W.length c2) W) ∧ Hid (W = (qR f R).drop (i + 1)) ∧ Hid (BfI (nextN ns) f i a j R) ∧ Hid (BfM wr w.heap.size ns.length (befI R)) ∧ Hid (to ∉ nmsR R) ∧ Hid (Below w.heap.size w wr))
          case atStart => exact ⟨0, R0, V, g3, off3, c2 - 1, rfl, rfl, Nat.zero_le _, rfl, HQT, HVE, HBI, HB, HT, HW⟩
          case round =>
            clear HQT HVE HBI HB HT HW hbz hGl hsl hqa hc1 hc2 hVl q4
            rename_i gO JO KO hJO hKO
            obtain ⟨j, R, W, g2, off, c2, rfl, rfl, hj, hgj, HQ, HE, HBI, HB, HT, HW⟩ := hrel
            have hbz := HW.out.size
            have hGl := HB.out.lt
            have hnl : (nextN ns a).length = d.next.length := by rw [← HINT.out.1, intsW_length]
            have HNL := Lib.hid hnl
            have HGJ := Lib.hid hgj
            obtain ⟨un, ⟨-, -, -, -, a4⟩, hun⟩ := (HP.out.below HW.out).cells HDA.out
            clear hgj hnl
            by_cases hjl : j < d.next.length
            · obtain ⟨b0, hsb, hcell⟩ := NextV.cellAt13 hun hjl
              subst hsb
              obtain ⟨n, hnx⟩ : ∃ n, (nextN ns a)[j]? = some n := ⟨(nextN ns a)[j]'(by rw [HNL.out]; exact hjl), List.getElem?_eq_getElem (by rw [HNL.out]; exact hjl)⟩
              have hbx : d.next[j]? = some (n : Int) := by
                rw [← HINT.out.1]
                unfold intsW
                rw [List.getElem?_map, hnx]
                rfl
              have hnn : n < ns.length := HINT.out.2 n (List.mem_of_getElem? hnx)
              have hcb := hcell _ hbx
              have hcB := HB.out.cell hnn
              have hsB := HB.out.soft n
              have hnxt := HBI.out.next hnx
              have hWl : W.length ≤ 62 := by
                have h1 := congrArg List.length HE.out
                have h2 := (HBI.out.ok HS.out).length (fun a x hx => nextN_lt HD.out a x hx)
                rw [List.length_drop, qR_length] at h1
                omega
              have HIL := Lib.hid HBI.out.lt
              clear hcell hbx hun hnx
              by_cases hm : n ∈ nmsR R
              · have hbv : befI R n = (parR R n : Int) := by unfold befI; rw [if_pos hm]
                rw [hbv] at hcB
                have hfe : fnd1 a R n = R := by unfold fnd1; rw [if_pos hm]
                rw [hfe] at hnxt
                have HNXT := Lib.hid hnxt
                clear hbv hfe hnxt
                go_wp2_with fail
                go_roundg (d.next.length - (j + 1))
                case measure => rw [HGJ.out]; omega
                case rel => exact ⟨j + 1, R, W, g2, off, c2, rfl, by go_num, by omega, rfl, HQ, HE, HNXT, HB, HT, HW⟩
              · have hbv : befI R n = -1 := by unfold befI; rw [if_neg hm]
                rw [hbv] at hcB
                have hfe : fnd1 a R n = (n, a) :: R := by unfold fnd1; rw [if_neg hm]
                rw [hfe] at hnxt
                have HNXT := Lib.hid hnxt
                have HB2 : Hid (BfM (wr.setCell ⟨w.heap.size, n, none⟩ (.int .i64 (a : Int))) w.heap.size ns.length (befI ((n, a) :: R))) := HB.out.put hnn befI_new.1 (fun z _ hz => befI_new.2 z hz)
                have HW2 : Hid (Below w.heap.size w (wr.setCell ⟨w.heap.size, n, none⟩ (.int .i64 (a : Int)))) := below_set13 HW.out (Nat.le_refl _)
                clear hbv hfe hnxt HB
                by_cases hnt : n = to
                · subst hnt
                  have hbk := l13Back_any (nextN ns) ((n, a) :: R) w.heap.size ns.length f n ns.length (wr.setCell ⟨w.heap.size, n, none⟩ (.int .i64 (a : Int))) (HNXT.out.ok HS.out) (by rw [nmsR_cons]; simp) (fun a x hx => nextN_lt HD.out a x hx) hle (Nat.le_refl _) (by unfold maxLen; omega) HB2.out
                  have hwy := HNXT.out.way HS.out (fun a x hx => nextN_lt HD.out a x hx) hle (x := n) (by rw [nmsR_cons]; simp)
                  have HWY := Lib.hid hwy
                  clear hwy HQ HE HBI HT HW HB2
                  go_wp2_with fail
                  refine hbk.mono ?_
                  rintro E w5 ⟨v, rfl, hrow, hb5⟩
                  have HRW := Lib.hid hrow
                  have HBF := Lib.hid (HW2.out.trans (hb5.mono HW2.out.size))
                  have hz2 := HW2.out.size
                  clear hbk hrow hb5
                  go_wp2_with fail
                  go_ret2
                  exact ⟨v, .inl ⟨HWY.out.1, rfl, by rw [HWY.out.2]; exact HRW.out.mono hz2⟩, HBF.out⟩
                · have hne : ((n : Int) == (to : Int)) = false := by simp; omega
                  have hTn : to ∉ nmsR ((n, a) :: R) := by
                    rw [nmsR_cons, List.mem_cons]
                    rintro (h | h)
                    · exact hnt h.symm
                    · exact HT.out h
                  have HTN := Lib.hid hTn
                  have HEN : Hid (W ++ [n] = (qR f ((n, a) :: R)).drop (i + 1)) := Lib.hid (by rw [qR_drop_snoc HIL.out, ← HE.out])
                  have hs5 : (wr.setCell ⟨w.heap.size, n, none⟩ (.int .i64 (a : Int))).heap.size = wr.heap.size := by simp [World.setCell]
                  have hQ5 : QRow (wr.setCell ⟨w.heap.size, n, none⟩ (.int .i64 (a : Int))) (w.heap.size + 1) (.slice (some ⟨g2, off, none⟩) W.length c2) W := HQ.out.apart (Nat.lt_succ_self _)
                  have HQ5 := Lib.hid hQ5
                  clear hTn HT HE HQ HW hQ5
                  go_wp2_with (at_builtin; refine wpList_append_queue rfl _ _ rfl (w.heap.size + 1) _ _ (by rfl) (HQ5.out.below ((Below.refl _ _).alloc (Nat.le_refl _) _)) _ _ n (by rfl) ?pq1 (by omega) ?pr1 ?_)
                  try (case pq1 => first | exact (cell_of_block (heap_alloc_new _ _) 0).trans rfl | exact (cell_of_block (by rw [← hs5]; exact heap_alloc_new _ _) 0).trans rfl)
                  try (case pr1 => simp [World.setCell]; omega)
                  intro v7 w7 hq7 hg7
                  have hkb : Below (wr.setCell ⟨w.heap.size, n, none⟩ (.int .i64 (a : Int))).heap.size (wr.setCell ⟨w.heap.size, n, none⟩ (.int .i64 (a : Int))) ((wr.setCell ⟨w.heap.size, n, none⟩ (.int .i64 (a : Int))).alloc (.cells #[.int .i64 (n : Int)] 3)) := (Below.refl _ _).alloc (Nat.le_refl _) _
                  have hql := (HQ5.out.below hkb).lt
                  have hbb := (HW2.out.trans (hkb.mono HW2.out.size)).grown hg7 (by have := HW2.out.size; have := hkb.size; omega) (fun k hk => by have := (hql k hk).1; omega)
                  have hB7 := (HB2.out.kept (hkb.block w.heap.size HB2.out.lt)).kept (hg7.block w.heap.size (by have := hkb.size; omega) (fun e => by have := (hql _ e.symm).1; omega))
                  have HQ7 := Lib.hid hq7
                  have HB7 := Lib.hid hB7
                  have HW7 := Lib.hid hbb
                  clear hq7 hg7 hkb hql hbb hB7 HB2 HW2 HQ5 hs5
                  go_wp2_with fail
                  obtain ⟨g8, off8, c8, cur8, hv8, hq8⟩ := id HQ7.out
                  go_roundg (d.next.length - (j + 1))
                  case measure => rw [HGJ.out]; omega
                  case rel => exact ⟨j + 1, (n, a) :: R, W ++ [n], g8, off8, c8, hv8, by go_num, by omega, rfl, Lib.hid (by rw [← hv8]; exact HQ7.out), HEN, HNXT, HB7, HTN, HW7⟩
            · have hje : j = d.next.length := by omega
              have hdn : R = bfsR (nextN ns) f (i + 1) := BfI.done (by rw [HNL.out, ← hje]; exact HBI.out)
              have HE2 : Hid (W = (qR f (bfsR (nextN ns) f (i + 1))).drop (i + 1)) := Lib.hid (by rw [← hdn]; exact HE.out)
              have HB2 : Hid (BfM wr w.heap.size ns.length (befI (bfsR (nextN ns) f (i + 1)))) := Lib.hid (by rw [← hdn]; exact HB.out)
              have HT2 : Hid (to ∉ nmsR (bfsR (nextN ns) f (i + 1))) := Lib.hid (by rw [← hdn]; exact HT.out)
              obtain ⟨An, cn, hsn⟩ := hun.asSlice13
              subst hsn
              subst hje
              have hjd : decide ((d.next.length : Int) < (d.next.length : Int)) = false := decide_eq_false (by omega)
              clear hdn HE HB HT HBI hun
              go_wp2_with fail
              go_roundg (62 - (i + 1))
              case measure => rw [HGG.out]; omega
              case rel => exact ⟨i + 1, W, g2, off, c2, rfl, rfl, HQ, HE2, HB2, HT2, HW⟩

end Go.Proofs.YtlddoookojjleaaGreatDoor
