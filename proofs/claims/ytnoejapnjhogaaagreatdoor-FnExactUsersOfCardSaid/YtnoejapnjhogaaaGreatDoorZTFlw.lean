/-
  The flow of sets for each variable through the points, by the program.
-/
import Derived.Test.YtnoejapnjhogaaaGreatDoorZTKn
import Derived.Test.YtnoejapnjhogaaaGreatDoorZTLeq
import Derived.Test.YtnoejapnjhogaaaGreatDoorZLjG
import Derived.Test.YtnoejapnjhogaaaGreatDoorZPerG
import Derived.Test.YtnoejapnjhogaaaGreatDoorZTAns
import Derived.Deep.DeepCutAuto
import Derived.Test.YtnoejapnjhogaaaGreatDoorZFloG
namespace Go.Proofs.YtnoejapnjhogaaaGreatDoor.tr
open Go.RowKit Go.Deep
set_option linter.unusedVariables false

/-- The flow's memory: the rows of sets, the result's variable. -/
structure FloL (w : World) (kn : Nat → Nat → Nat) (wr : World) : Prop where
  kn : LKn 133 wr (w.heap.size + 1 + 1) kn
  res : ∃ cs, wr.heap[w.heap.size + 1]? = some (.cells cs 133 (0, 0)) ∧ cs.size = 366
  beg : wr.heap[w.heap.size]? = some (.cells (perC fun _ => 0).toArray 61 (0, 0))
  below : Below w.heap.size w wr

theorem FloL.keep {w a b : World} {kn : Nat → Nat → Nat} (h : FloL w kn a) (hb : Below a.heap.size a b) : FloL w kn b := by
  obtain ⟨cs, r1, r2⟩ := h.res
  exact ⟨h.kn.keep hb, ⟨cs, (hb.block _ (heap_lt r1)).trans r1, r2⟩, (hb.block _ (heap_lt h.beg)).trans h.beg, h.below.trans (hb.mono h.below.size)⟩

theorem FloL.drew {w a : World} {kn : Nat → Nat → Nat} (h : FloL w kn a) : FloL w kn a.drew := ⟨h.kn, h.res, h.beg, h.below.drew⟩

theorem FloL.put {w a : World} {kn : Nat → Nat → Nat} (h : FloL w kn a) {m : Nat} (hm : m < 61) (x : Nat → Nat) : FloL w (setP kn m x) (a.setCells (w.heap.size + 1 + 1) (m * 6) (perC x)) := by
  obtain ⟨cs, r1, r2⟩ := h.res
  have hl := h.kn.lt
  exact ⟨h.kn.put hm x, ⟨cs, (World.heap_setCells_other _ _ _ _ (by omega) (by omega)).trans r1, r2⟩, (World.heap_setCells_other _ _ _ _ (by omega) (by omega)).trans h.beg, below_setCells h.below (by omega) (by omega)⟩

theorem zero_all : Tryz.zeroCells133 = Array.replicate 366 (.int .u64 0) := by kernel_rfl

theorem noLent_kn (w : World) : FloL w (fun _ _ => 0) (((w.alloc (.cells #[.int .u64 0, .int .u64 0, .int .u64 0, .int .u64 0, .int .u64 0, .int .u64 0] 61)).alloc (.cells Tryz.zeroCells133 133)).alloc (.cells Tryz.zeroCells133 133)) := by
  have b1 := (Below.refl w.heap.size w).alloc (Nat.le_refl _) (.cells #[.int .u64 0, .int .u64 0, .int .u64 0, .int .u64 0, .int .u64 0, .int .u64 0] 61)
  have b2 := b1.alloc (by simp) (.cells Tryz.zeroCells133 133)
  have b3 := b2.alloc (by simp; omega) (.cells Tryz.zeroCells133 133)
  have n1 := heap_alloc_new w (.cells #[.int .u64 0, .int .u64 0, .int .u64 0, .int .u64 0, .int .u64 0, .int .u64 0] 61)
  have n2 := heap_alloc_new (w.alloc (.cells #[.int .u64 0, .int .u64 0, .int .u64 0, .int .u64 0, .int .u64 0, .int .u64 0] 61)) (.cells Tryz.zeroCells133 133)
  have n3 := heap_alloc_new ((w.alloc (.cells #[.int .u64 0, .int .u64 0, .int .u64 0, .int .u64 0, .int .u64 0, .int .u64 0] 61)).alloc (.cells Tryz.zeroCells133 133)) (.cells Tryz.zeroCells133 133)
  have k : ∀ (W : World) (o : Obj), Below W.heap.size W (W.alloc o) := fun W o => (Below.refl _ _).alloc (Nat.le_refl _) o
  have hs : (Tryz.zeroCells133).size = 366 := by rw [zero_all]; simp
  have m1 := ((k _ (.cells Tryz.zeroCells133 133)).block _ (heap_lt n1)).trans n1
  have m1 := ((k _ (.cells Tryz.zeroCells133 133)).block _ (heap_lt m1)).trans m1
  have m2 := ((k _ (.cells Tryz.zeroCells133 133)).block _ (heap_lt n2)).trans n2
  have e2 : (w.alloc (.cells #[.int .u64 0, .int .u64 0, .int .u64 0, .int .u64 0, .int .u64 0, .int .u64 0] 61)).heap.size = w.heap.size + 1 := by simp
  have e3 : ((w.alloc (.cells #[.int .u64 0, .int .u64 0, .int .u64 0, .int .u64 0, .int .u64 0, .int .u64 0] 61)).alloc (.cells Tryz.zeroCells133 133)).heap.size = w.heap.size + 1 + 1 := by simp
  rw [e2] at m2
  rw [e3] at n3
  refine ⟨⟨_, n3, hs, fun m hm v hv => ?_⟩, ⟨_, m2, hs⟩, m1, b3⟩
  rw [zero_all, Array.getElem?_replicate, if_pos (by omega)]
  rfl

theorem rowL_range {W : World} {g : Nat} {x : Nat → Nat} (h : W.heap[g]? = some (.cells (perC x).toArray 61 (0, 0))) : W.rangeAt g 0 (perC x) := by
  intro j v hv
  have hj : j < 6 := (List.getElem?_eq_some_iff.mp hv).1
  rw [Nat.zero_add, cell_of_block h]
  simpa using hv

theorem setP_zero (m : Nat) : setP (fun _ _ => 0) m (fun _ => 0) = fun _ _ => 0 := by
  funext j v
  unfold setP
  split <;> rfl

theorem flo_start (q : Nat) (ts : List Int) (ns : List Nd) : LIn (eN ns) (genT q ns) (handT q ts ns) ns.length (fun _ _ => 0) (fun k => (firstSet ns.length).testBit k = true) :=
  LIn.start fun k hk => by
    rw [flowSome.firstSet_bit]
    exact decide_eq_true hk

/-- The analysis's step, as flow calls it. -/
def PassAt (q : Nat) (ts : List Int) (ns : List Nd) (bf bq : Nat) (w : World) : Prop :=
  ∀ (W : World) (a : Nat) (d : Nd) (x : Nat → Nat), Below w.heap.size w W → ns[a]? = some d → (∀ v, x v < 2305843009213693952) →
    Calls Tryz.prog 105 #[.int .i64 a, .agg (perC x).toArray, .pointer (some ⟨bf, 0, none⟩), .pointer (some ⟨bq, 0, none⟩)] W fun E w' => ∃ z : Nat → Nat, E = .returned (.agg (perC z).toArray) ∧ (∀ v, z v < 2305843009213693952) ∧ (∀ v, v < 6 → ∀ l, (bitR z v l ↔ Beh (genT q ns) (handT q ts ns) a (bitR x) v l)) ∧ Below W.heap.size W w'

theorem least6_any (w : World) : Calls Tryz.prog 152 #[.agg #[]] w fun E w' => E = .returned (.agg (perC (fun _ => 0)).toArray) ∧ Below w.heap.size w w' :=
  (flowLent.eachLeast_any w).mono fun E w' h => ⟨h.1.trans rfl, h.2⟩

/-- What flow answers. -/
def Post (q : Nat) (ts : List Int) (ns : List Nd) (w : World) (E : Ending) (w' : World) : Prop := ∃ (cs : Array Value) (kn : Nat → Nat → Nat), E = .returned (.agg cs) ∧ cs.size = 366 ∧ LRows cs 0 kn ∧ LIn (eN ns) (genT q ns) (handT q ts ns) ns.length kn (fun _ => False) ∧ Below w.heap.size w w'

set_option maxRecDepth 100000 in
set_option maxHeartbeats 8000000 in
theorem walk (q : Nat) (ts : List Int) (ns : List Nd) (z C F hi : Nat) (A : Option Addr) (c : Nat) (ah bk : Nat → Nat) (bf bq : Nat) (w : World) (h : FlowsIn ts ns C F hi A c ah bk w) (hD : PtsOk z ns)
    (hPass : PassAt q ts ns bf bq w) (hTab : TabAt 0 Lib.deBruijn64tab w) (hg : 0 < w.heap.size) :
    Calls Tryz.prog 104 #[.pointer (some ⟨F, 246, none⟩), .agg #[.int .u64 0, .int .u64 0, .int .u64 0, .int .u64 0, .int .u64 0, .int .u64 0], .iface 154 (.agg #[]), .func (.func 105) #[] #[.pointer (some ⟨bf, 0, none⟩), .pointer (some ⟨bq, 0, none⟩)]] w (Post q ts ns w) := by
  have hst := noLent_kn w
  have hal := flowLent.ahead_el
  have hml := flowLent.at_el
  have hn1 : 1 ≤ ns.length := by have := hD.1; omega
  have hle := h.gr.le
  have HW := Lib.hid h
  have HD := Lib.hid hD
  have HPASS := Lib.hid hPass
  have HTAB := Lib.hid hTab
  have hFl : F < w.heap.size := by have := h.lt; omega
  clear h hD hPass hTab
  go_enter Tryz.func104, Tryz.ntmps104
  go_wp2_with fail
  generalize hw0 : ((w.alloc (.cells #[.int .u64 0, .int .u64 0, .int .u64 0, .int .u64 0, .int .u64 0, .int .u64 0] 61)).alloc (.cells Tryz.zeroCells133 133)).alloc (.cells Tryz.zeroCells133 133) = w0 at hst ⊢
  clear hw0
  have HST := Lib.hid hst
  clear hst
  go_loopw [10, 17] (fun _ i wr => ∃ k : Nat, i = .int .i64 k ∧ k ≤ 61 ∧ Hid (FloL w (fun _ _ => 0) wr)) (fun _ i _ => 61 - (intOf i).toNat)
  case atStart => exact ⟨0, rfl, Nat.zero_le _, HST⟩
  case round =>
    clear HST
    obtain ⟨k, rfl, hk, HS⟩ := hrel
    by_cases hlt : k < 61
    · have ki0 : (0 : Int) ≤ (k : Int) := by omega
      have ki1 : (k : Int) < 61 := by omega
      go_wp2_with fail
      refine (least6_any _).mono ?_
      rintro E w2 ⟨rfl, hb2⟩
      have HS2 := Lib.hid (HS.out.keep hb2)
      have HT1 := Lib.hid (HS2.out.kn.there hlt)
      have HS3 := Lib.hid (HS2.out.put (m := k) hlt (fun _ => 0))
      rw [setP_zero] at HS3
      clear hb2 HS HS2
      have hiP : (Tryz.prog.info? 61).map (·.size) = some 6 := by kernel_rfl
      go_wp2_with (first | ((with_reducible show wpList _ _ _ _ _ _); refine wpList_store_mid rfl 61 _ _ rfl (w.heap.size + 1 + 1) (k * 6) (perC (fun _ => 0)).toArray rfl rfl ?_ hiP (perC_one _) ?_; exact HT1.out))
      refine ⟨⟨k + 1, by simp, by omega, HS3⟩, ?_⟩
      simp only [intOf]
      omega
    · have hk61 : k = 61 := by omega
      have kd : decide ((k : Int) < 61) = false := decide_eq_false (by omega)
      clear hk61 hlt hk
      clear hal hml
      have hfl := HW.out.keep (b := wr) HS.out.below
      obtain ⟨cs, r1, r2, r3⟩ := hfl.row
      obtain ⟨f0, hf0⟩ : ∃ f0 : Nat, f0 = 0 := ⟨_, rfl⟩
      have hcr := r3.1
      rw [show CoursIn cs 246 (0) ns.length ah = CoursIn cs 246 f0 ns.length ah from by rw [hf0]] at hcr
      have g1 : wr.cell? ⟨F, 246, none⟩ = some (.int .i64 (f0 : Int)) := (cell_of_block r1 _).trans hcr.1
      have g2 : wr.cell? ⟨F, 247, none⟩ = some (.int .u64 ((firstSet ns.length : Nat) : Int)) := (cell_of_block r1 _).trans hcr.2.1
      have hf61 : f0 < 61 := by omega
      have fi0 : (0 : Int) ≤ (f0 : Int) := by omega
      have fi1 : (f0 : Int) < 61 := by omega
      have HFL0 := Lib.hid (flo_start q ts ns)
      have g1' : ∀ w' : World, w'.heap[F]? = wr.heap[F]? → w'.cell? ⟨F, 246, none⟩ = some (.int .i64 (f0 : Int)) := fun w' h => (World.cell?_of_block (a := ⟨F, 246, none⟩) h).trans g1
      have g2' : ∀ w' : World, w'.heap[F]? = wr.heap[F]? → w'.cell? ⟨F, 247, none⟩ = some (.int .u64 ((firstSet ns.length : Nat) : Int)) := fun w' h => (World.cell?_of_block (a := ⟨F, 247, none⟩) h).trans g2
      have G1 := Lib.hid g1'
      have G2 := Lib.hid g2'
      have hS7 : (fun w' => FloL w (fun _ _ => 0) w' ∧ w'.heap[F]? = wr.heap[F]?) wr.drew := ⟨HS.out.drew, rfl⟩
      clear hfl r1 r2 r3 hcr HS g1 g2 g1' g2'
      clear hf0
      go_upto_region 7 with fail
      refine wp_region_held_drew (S := fun w' => FloL w (fun _ _ => 0) w' ∧ w'.heap[F]? = wr.heap[F]?) (by kernel_rfl) hS7 (fun hHeld => ?_)
      clear hS7
      generalize hwd : wr.drew = wd at *
      clear hwd
      refine wpAnyH_take (i := 0) (oi := ⟨_, _, _, _, _, _⟩) (v := .pointer (some ⟨F, 246, none⟩)) rfl (by kernel_rfl) (by kernel_rfl) (by kernel_rfl) (fun _ _ _ h => h) (Or.inl ⟨by rfl, fun w hSw => by go_simp⟩) hHeld ?_
      try simp only [Act.put, List.setIfInBounds_toArray, List.set_cons_zero, List.set_cons_succ]
      refine wpAnyH_take (i := 1) (oi := ⟨_, _, _, _, _, _⟩) (v := .pointer (some ⟨F, 246, none⟩)) rfl (by kernel_rfl) (by kernel_rfl) (by kernel_rfl) (fun _ _ _ h => h) (Or.inl ⟨by rfl, fun w hSw => by go_simp⟩) hHeld ?_
      try simp only [Act.put, List.setIfInBounds_toArray, List.set_cons_zero, List.set_cons_succ]
      refine wpAnyH_take (i := 2) (oi := ⟨_, _, _, _, _, _⟩) (v := .pointer (some ⟨F, 246, none⟩)) rfl (by kernel_rfl) (by kernel_rfl) (by kernel_rfl) (fun _ _ _ h => h) (Or.inl ⟨by rfl, fun w hSw => by go_simp⟩) hHeld ?_
      try simp only [Act.put, List.setIfInBounds_toArray, List.set_cons_zero, List.set_cons_succ]
      refine wpAnyH_take (i := 3) (oi := ⟨_, _, _, _, _, _⟩) (v := .int .i64 (f0 : Int)) rfl (by kernel_rfl) (by kernel_rfl) (by kernel_rfl) (fun _ _ _ h => h) (Or.inl ⟨by rfl, fun w9 hSw => by have h9 := G1.out w9 hSw.2; go_simp⟩) hHeld ?_
      try simp only [Act.put, List.setIfInBounds_toArray, List.set_cons_zero, List.set_cons_succ]
      refine wpAnyH_take (i := 4) (oi := ⟨_, _, _, _, _, _⟩) (v := .agg (perC (fun _ => 0)).toArray) rfl (by kernel_rfl) (by kernel_rfl) (by kernel_rfl) (fun _ _ _ h => h) (yieldsIf_load_mid (by rfl) _ _ rfl w.heap.size 0 rfl (perC (fun _ => 0)) _ (fun w' h => rowL_range h.1.beg) Tryz.underlying61 rfl (by kernel_rfl)) hHeld ?_
      try simp only [Act.put, List.setIfInBounds_toArray, List.set_cons_zero, List.set_cons_succ]
      refine wpAnyH_take (i := 5) (oi := ⟨_, _, _, _, _, _⟩) (v := .pointer (some ⟨(w.heap.size + 1 + 1), f0 * 6, none⟩)) rfl (by kernel_rfl) (by kernel_rfl) (by kernel_rfl) (fun _ _ _ h => h) (Or.inl ⟨by rfl, fun w hSw => by go_simp⟩) hHeld ?_
      try simp only [Act.put, List.setIfInBounds_toArray, List.set_cons_zero, List.set_cons_succ]
      refine wpAnyH_ready (rs := [6]) (by kernel_rfl) (by simp) ?_
      refine AllReadyH.cons (o := ⟨_, _, _, _, _, _⟩) rfl (fun K hK => ?_) AllReadyH.nil
      rw [if_pos (by rfl)]
      refine wp_store_mid _ _ _ rfl (w.heap.size + 1 + 1) (f0 * 6) (perC (fun _ => 0)).toArray rfl rfl (hHeld.1.kn.there hf61) (by kernel_rfl) (perC_one _) ?_
      simp only [Act.put]
      have hp7 := hHeld.1.put (m := f0) hf61 (fun _ => 0)
      rw [setP_zero] at hp7
      refine hK.out _ _ ⟨hp7, (World.heap_setCells_other _ _ _ _ (by have := hHeld.1.below.size; omega) (by omega)).trans hHeld.2⟩ (fun hHeld => ?_)
      clear hK K hp7
      refine wpAnyH_done (by kernel_rfl) ?_ _
      have g2 := G2.out _ hHeld.2
      have HS4 := Lib.hid hHeld.1
      clear hHeld G1 G2
      generalize World.setCells _ _ _ _ = wB at *
      go_wp2_with fail
      clear fi0 fi1 hf61 g2
      go_loopw [11] (fun wk wr => ∃ (y : Nat) (kn : Nat → Nat → Nat), wk = .int .u64 y ∧ y < 18446744073709551616 ∧ Hid (∀ k, k < 64 → y.testBit k = true → k < ns.length) ∧ Hid (LIn (eN ns) (genT q ns) (handT q ts ns) ns.length kn (fun k => y.testBit k = true)) ∧ Hid (FloL w kn wr)) (fun wk wr => (intOf wk).toNat + 18446744073709551616 * sumTo (fun m => wtP (lkW wr (w.heap.size + 1 + 1) m)) ns.length)
      case atStart => exact ⟨firstSet ns.length, _, rfl, flowSome.firstSet_lt _ hle, fun k _ hk => by rw [flowSome.firstSet_bit] at hk; exact of_decide_eq_true hk, HFL0, HS4⟩
      case round =>
        clear HFL0 HS4
        obtain ⟨y, kn, rfl, hy, hyn, HF, HS⟩ := hrel
        by_cases hy0 : y = 0
        · subst hy0
          obtain ⟨csK, k1, k2, k3⟩ := HS.out.kn
          obtain ⟨csR, q1, q2⟩ := HS.out.res
          have hu := Tryz.underlying133
          have hsz : (Tryz.prog.info? 133).map (·.size) = some 366 := by kernel_rfl
          have hrg := range_row k1
          have hth : wr.there (w.heap.size + 1) 0 366 := there_row q1 q2
          have hone := lrows_one k2 k3
          have hlk : csK.toList.length = 366 := by simpa using k2
          have hil : (Tryz.prog.info? 133).map (·.size) = some csK.toList.length := by rw [hsz, hlk]
          have his : (Tryz.prog.info? 133).map (·.size) = some csK.size := by rw [hsz, k2]
          have hth2 : wr.there (w.heap.size + 1) 0 csK.size := by rw [k2]; exact hth
          have hFIN : Post q ts ns w (.returned (.agg csK)) (wr.setCells (w.heap.size + 1) 0 csK.toList) := by
            refine ⟨csK, kn, rfl, k2, k3, ⟨HF.out.lt, HF.out.sound, fun k hk _ => HF.out.next k hk (by simp)⟩, below_setCells HS.out.below (by omega) HS.out.below.size⟩
          have hout := heap_setCells csK.toList 0 wr csR q1 (by rw [hlk, q2]; exact Nat.le_refl _)
          rw [setN_all csR csK (by rw [q2, k2])] at hout
          have HFIN := Lib.hid hFIN
          have HOUT := Lib.hid hout
          clear hFIN hout hsz k3 HF HS hyn
          go_wp2_with (first
            | ((with_reducible show wpList _ _ _ _ _ _); refine wpList_load_mid rfl 133 _ rfl (w.heap.size + 1 + 1) 0 rfl csK.toList _ ?_ hu rfl hil ?_; exact hrg)
            | ((with_reducible show wpList _ _ _ _ _ _); refine wpList_store_mid rfl 133 _ _ rfl (w.heap.size + 1) 0 csK rfl rfl ?_ his hone ?_; exact hth2))
          refine bodyPost_ret (v := .agg csK) ?_ rfl HFIN.out
          exact flowSome.results_one_row rfl Tryz.prog _ _ (w.heap.size + 1) csK rfl (run_loadVar_row _ _ _ _ csK (0, 0) _ HOUT.out hu rfl his)
        · have hyne : ((y : Int) != 0) = true := by simp; omega
          have HTr := Lib.hid (tab_below HTAB.out hg HS.out.below)
          have hlow := lowest_any y hy hy0 wr HTr.out
          have hwo := without_any y hy hy0 wr
          obtain ⟨⟨ha64, hay⟩, hsb1, hsb2⟩ := flowSome.step_bits hy0 hy
          have hy1lt : y &&& (y - 1) < 18446744073709551616 := Nat.lt_of_le_of_lt Nat.and_le_left hy
          have hy1y := and_pred_lt y hy0
          generalize Lib.ctz 64 y = a at *
          have han : a < ns.length := hyn.out a ha64 hay
          have hwo2 : Hid (∀ k, k < 64 → (y &&& (y - 1)).testBit k = true → k < ns.length) := fun k hk hb => hyn.out k hk (hsb2 k hb)
          obtain ⟨d, hd⟩ : ∃ d, ns[a]? = some d := ⟨ns[a], List.getElem?_eq_getElem han⟩
          have hfl := HW.out.keep (b := wr) HS.out.below
          have hFr : F < wr.heap.size := by have := HS.out.below.size; omega
          have ha61 : a < 61 := by omega
          have hpass := HPASS.out wr a d (kn a) HS.out.below hd (fun v => HF.out.lt a v)
          have HRA := Lib.hid (HS.out.kn.range ha61)
          have ai0 : (0 : Int) ≤ (a : Int) := by omega
          have ai1 : (a : Int) < 61 := by omega
          have hsbit := fun b (hb : b < 64) => hfl.sets.ah a b (by omega) hb
          have hslt := hfl.sets.ahLt a
          obtain ⟨cs, r1, r2, r3⟩ := hfl.row
          have hca : ∀ W : World, Below wr.heap.size wr W → W.cell? ⟨F, 246 + 2 + a, none⟩ = some (.int .u64 (ah a : Int)) := fun W hW => (hW.cell (by have := HS.out.below.size; simp; omega)).trans ((cell_of_block r1 _).trans (r3.1.2.2 a ha61))
          have HSB1 := Lib.hid hsb1
          have HSB2 := Lib.hid hsb2
          have HBIT := Lib.hid hsbit
          have HCA := Lib.hid hca
          have HDA := Lib.hid hd
          have hiP7 : (Tryz.prog.info? 61).map (·.size) = some (perC (kn a)).length := by kernel_rfl
          clear hd hfl r1 r2 r3 hsb1 hsb2 hsbit hca hay
          go_wp2_with fail
          refine hlow.mono ?_
          rintro E w3 ⟨rfl, hw3⟩
          subst hw3
          clear hlow
          go_wp2_with fail
          refine hwo.mono ?_
          rintro E w3 ⟨rfl, hw3⟩
          subst hw3
          clear hwo
          go_wp2_with (first | ((with_reducible show wpList _ _ _ _ _ _); refine wpList_load_mid rfl 61 _ rfl (w.heap.size + 1 + 1) (a * 6) rfl (perC (kn a)) _ ?_ Tryz.underlying61 rfl hiP7 ?_; exact HRA.out))
          refine hpass.mono ?_
          rintro E w4 ⟨z, rfl, hz61, hzi, hb4⟩
          have HM4 := Lib.hid (HS.out.keep hb4)
          have HAT := Lib.hid (HF.out.take han hz61 hzi HSB1.out)
          have HZ61 := Lib.hid hz61
          have hbh := (Below.refl w4.heap.size w4).alloc (Nat.le_refl _) (.cells #[.int .u64 0, .int .u64 0, .int .u64 0, .int .u64 0, .int .u64 0, .int .u64 0] 61)
          have hnew := heap_alloc_new w4 (.cells #[.int .u64 0, .int .u64 0, .int .u64 0, .int .u64 0, .int .u64 0, .int .u64 0] 61)
          have hth4 : Hid ((w4.alloc (.cells #[.int .u64 0, .int .u64 0, .int .u64 0, .int .u64 0, .int .u64 0, .int .u64 0] 61)).there w4.heap.size 0 6) := row_there hnew rfl
          have hbeh : Hid (((w4.alloc (.cells #[.int .u64 0, .int .u64 0, .int .u64 0, .int .u64 0, .int .u64 0, .int .u64 0] 61)).setCells w4.heap.size 0 (perC z)).heap[w4.heap.size]? = some (.cells (perC z).toArray 61 (0, 0))) := row_set (perC z) hnew rfl
          have hb4b := below_setCells (b := w4.heap.size) (o := 0) (vs := perC z) hbh (Nat.le_refl _) (by simp)
          have HB4B := Lib.hid hb4b
          have HB4 := Lib.hid hb4
          have HW4 := Lib.hid hb4.size
          have hKB4 := HM4.out.kn.lt
          have hiP8 : (Tryz.prog.info? 61).map (·.size) = some 6 := by kernel_rfl
          clear hpass hzi hb4 hz61 HRA hbh hnew hb4b
          go_upto_region 13 with (first | ((with_reducible show wpList _ _ _ _ _ _); refine wpList_store_mid rfl 61 _ _ rfl w4.heap.size 0 (perC z).toArray rfl rfl ?_ hiP8 (perC_one _) ?_; exact hth4.out))
          have hbW : Below w.heap.size w ((w4.alloc (.cells #[.int .u64 0, .int .u64 0, .int .u64 0, .int .u64 0, .int .u64 0, .int .u64 0] 61)).setCells w4.heap.size 0 (perC z)) := HM4.out.below.trans (HB4B.out.mono HM4.out.below.size)
          have HM4b := Lib.hid (HM4.out.keep HB4B.out)
          have hca4 := HCA.out _ (HB4.out.trans (HB4B.out.mono HW4.out))
          have hzB0 : w4.heap.size < ((w4.alloc (.cells #[.int .u64 0, .int .u64 0, .int .u64 0, .int .u64 0, .int .u64 0, .int .u64 0] 61)).setCells w4.heap.size 0 (perC z)).heap.size := by rw [size_setCells]; simp
          have hzB := Lib.hid hzB0
          clear hzB0
          clear HM4 HB4B HB4 HW4 hth4
          generalize w4.heap.size = BH at *
          generalize (w4.alloc (.cells #[.int .u64 0, .int .u64 0, .int .u64 0, .int .u64 0, .int .u64 0, .int .u64 0] 61)).setCells BH 0 (perC z) = wB4 at *
          have hls := setList_any (ah a) hslt wB4 (tab_below HTAB.out hg hbW) (by have := hbW.size; omega)
          clear hbW
          go_wp2_with fail
          refine hls.mono ?_
          rintro E w5 ⟨v, rfl, hrow, hb5⟩
          have HM5 := Lib.hid (HM4b.out.keep hb5)
          have hK4 := HM4b.out.kn.lt
          have HBE5 : Hid (w5.heap[BH]? = some (.cells (perC z).toArray 61 (0, 0))) := (hb5.block BH hzB.out).trans hbeh.out
          obtain ⟨Ar, cr, hvs⟩ := hrow.slice
          subst hvs
          have HROW := Lib.hid hrow
          have hlen64 := intsOf_length (ah a)
          clear hls hrow hb5 hca4 HM4b hbeh
          have HLI := Lib.hid (flowSome.intsOf_bits (ah a))
          obtain ⟨bl, hbl⟩ : ∃ bl, bl = bitsOf (ah a) := ⟨_, rfl⟩
          have HBL := Lib.hid hbl
          have hll : (intsOf (ah a)).length = bl.length := by rw [hbl]; simp [intsOf]
          obtain ⟨y1, hy1⟩ : ∃ y1, y1 = y &&& (y - 1) := ⟨_, rfl⟩
          have HY1 := Lib.hid hy1
          rw [← hy1] at HAT hwo2 hy1lt hy1y ⊢
          have HROW2 : Hid (RowI w5 wB4.heap.size (.slice Ar bl.length cr) (intsOf (ah a))) := by
            have := HROW.out
            rw [hll] at this
            exact this
          rw [hll]
          rw [hll] at hlen64
          have HAT2 := Lib.hid (HAT.out.less (D' := fun m => ∃ i, i < 0 ∧ bl[i]? = some m) (fun m hm => by obtain ⟨i, hi, _⟩ := hm; exact absurd hi (Nat.not_lt_zero _)))
          clear hbl hy1 hll HAT HROW
          go_wp2_with fail
          go_loopw [11, 55] (fun wk i wr => ∃ (j y' : Nat) (kn' : Nat → Nat → Nat), wk = .int .u64 y' ∧ i = .int .i64 j ∧ j ≤ bl.length ∧ y' < 18446744073709551616 ∧ Hid (∀ k, k < 64 → y'.testBit k = true → k < ns.length) ∧ Hid (LAt (eN ns) (genT q ns) (handT q ts ns) ns.length kn' (fun k => y'.testBit k = true) a (kn a) z (fun m => ∃ i, i < j ∧ bl[i]? = some m)) ∧ Hid (FloL w kn' wr) ∧ Hid (wr.heap[BH]? = some (.cells (perC z).toArray 61 (0, 0))) ∧ Hid (RowI wr wB4.heap.size (.slice Ar bl.length cr) (intsOf (ah a))) ∧ Hid (sumTo (fun i => wtP (kn' i)) ns.length < sumTo (fun i => wtP (kn i)) ns.length ∨ (sumTo (fun i => wtP (kn' i)) ns.length = sumTo (fun i => wtP (kn i)) ns.length ∧ y' = y1))) (fun _ i _ => bl.length - (intOf i).toNat)
          case atStart => exact ⟨0, y1, kn, rfl, rfl, Nat.zero_le _, hy1lt, hwo2, HAT2, HM5, HBE5, HROW2, Lib.hid (.inr ⟨rfl, rfl⟩)⟩
          case round =>
            clear HAT2 HM5 HROW2 hwo2 HBE5
            obtain ⟨j, y', kn', rfl, rfl, hj, hy', hyn', HAT, HM, HBE, HROW, HS0⟩ := hrel
            have haj := flowLent.ahead_ej
            have hmj := flowLent.at_ej
            by_cases hjl : j < bl.length
            · obtain ⟨b, hb⟩ : ∃ b, bl[j]? = some b := ⟨bl[j], List.getElem?_eq_getElem hjl⟩
              have hbm : b ∈ bitsOf (ah a) := by rw [← HBL.out]; exact List.mem_of_getElem? hb
              have hb64 := (mem_bitsOf _ _).mp hbm
              have hedge : ((fun a b => eN ns a b)) a b := (mem_nextN HD.out hle a b).mpr ((HBIT.out b hb64.1).mp hb64.2)
              have hbN : b < ns.length := (nextN_ints HD.out HDA.out).2 b ((mem_nextN HD.out hle a b).mpr ((HBIT.out b hb64.1).mp hb64.2))
              have hb61 : b < 61 := by omega
              obtain ⟨b0, u, hb0, -, hbb, hx, hc⟩ := (RowI.intsV HROW.out).elem (k := j) (by rw [HLI.out, ← HBL.out]; simpa using hjl)
              subst hb0
              have hub : u = (b : Int) := by
                rw [HLI.out, ← HBL.out, List.getElem?_map, hb] at hx
                simpa using hx.symm
              subst hub
              have bi0 : (0 : Int) ≤ (b : Int) := by omega
              have bi1 : (b : Int) < 61 := by omega
              have ji0 : (0 : Int) ≤ (j : Int) := by omega
              have ji1 : (j : Int) < (bl.length : Int) := by omega
              have HKL : Hid ((w.heap.size + 1 + 1) < wr.heap.size) := HM.out.kn.lt
              have HBL2 : Hid (BH < wr.heap.size) := heap_lt HBE.out
              have hkd : Hid (w.heap.size ≤ wr.heap.size) := HM.out.below.size
              have HB := Lib.hid hb
              have HEDGE := Lib.hid hedge
              have HRB := Lib.hid (HM.out.kn.range hb61)
              clear hb hbm hx hedge
              have hmf : ∀ (fn : Fn) (first cap : Array Value) (w : World), (Instr.makeFunc fn first cap).run Tryz.prog w = .ok (.func fn first cap) w := fun _ _ _ _ => rfl
              go_upto_region 16 with fail
              go_cut [16] (fun s16 wx => ∃ bJ : Nat, s16 = .pointer (some ⟨bJ, 0, none⟩) ∧ wx.heap[bJ]? = some (.cells (perC (fun v => kn' b v ||| z v)).toArray 61 (0, 0)) ∧ wr.heap.size ≤ bJ ∧ Below wr.heap.size wr wx)
              case first =>
                refine wp_region_held_drew (S := fun w' => Below wr.heap.size wr w' ∧ w'.rangeAt (w.heap.size + 1 + 1) (b * 6) (perC (kn' b)) ∧ w'.heap[BH]? = some (.cells (perC z).toArray 61 (0, 0))) (by kernel_rfl) ⟨(Below.refl _ _).drew, HRB.out, HBE.out⟩ (fun hHeld => ?_)
                have hLE : wr.heap.size ≤ wr.drew.heap.size := Nat.le_refl _
                generalize hwd : wr.drew = wd at *
                clear hwd
                refine wpAnyH_take (i := 0) (oi := ⟨_, _, _, _, _, _⟩) (v := .iface 154 (.agg #[])) rfl (by kernel_rfl) (by kernel_rfl) (by kernel_rfl) (fun _ _ _ h => h) (Or.inl ⟨by rfl, fun w hSw => by go_simp⟩) hHeld ?_
                try simp only [Act.put, List.setIfInBounds_toArray, List.set_cons_zero, List.set_cons_succ]
                refine wpAnyH_take (i := 1) (oi := ⟨_, _, _, _, _, _⟩) (v := .int .i64 (b : Int)) rfl (by kernel_rfl) (by kernel_rfl) (by kernel_rfl) (fun _ _ _ h => h) (Or.inl ⟨by rfl, fun w hSw => by go_simp⟩) hHeld ?_
                try simp only [Act.put, List.setIfInBounds_toArray, List.set_cons_zero, List.set_cons_succ]
                refine wpAnyH_take (i := 2) (oi := ⟨_, _, _, _, _, _⟩) (v := .pointer (some ⟨(w.heap.size + 1 + 1), b * 6, none⟩)) rfl (by kernel_rfl) (by kernel_rfl) (by kernel_rfl) (fun _ _ _ h => h) (Or.inl ⟨by rfl, fun w hSw => by go_simp⟩) hHeld ?_
                try simp only [Act.put, List.setIfInBounds_toArray, List.set_cons_zero, List.set_cons_succ]
                refine wpAnyH_take (i := 3) (oi := ⟨_, _, _, _, _, _⟩) (v := (.agg (perC (kn' b)).toArray)) rfl (by kernel_rfl) (by kernel_rfl) (by kernel_rfl) (fun _ _ _ h => h) (yieldsIf_load_mid (by rfl) _ _ rfl (w.heap.size + 1 + 1) (b * 6) rfl (perC (kn' b)) _ (fun w' h => h.2.1) Tryz.underlying61 rfl (by kernel_rfl)) hHeld ?_
                try simp only [Act.put, List.setIfInBounds_toArray, List.set_cons_zero, List.set_cons_succ]
                refine wpAnyH_take (i := 4) (oi := ⟨_, _, _, _, _, _⟩) (v := (.agg (perC z).toArray)) rfl (by kernel_rfl) (by kernel_rfl) (by kernel_rfl) (fun _ _ _ h => h) (yieldsIf_load_mid (by rfl) _ _ rfl BH 0 rfl (perC z) _ (fun w' h => rowL_range h.2.2) Tryz.underlying61 rfl (by kernel_rfl)) hHeld ?_
                try simp only [Act.put, List.setIfInBounds_toArray, List.set_cons_zero, List.set_cons_succ]
                refine wpAnyH_take (i := 5) (oi := ⟨_, _, _, _, _, _⟩) (v := .func (Fn.method "loop.example/borrowcheck/impl.join") #[.iface 154 (.agg #[])] #[]) rfl (by kernel_rfl) (by kernel_rfl) (by kernel_rfl) (fun _ _ _ h => h) (Or.inl ⟨by rfl, fun w hSw => by go_simp⟩) hHeld ?_
                try simp only [Act.put, List.setIfInBounds_toArray, List.set_cons_zero, List.set_cons_succ]
                refine wpAnyH_take (i := 6) (oi := ⟨_, _, _, _, _, _⟩) (v := .func (Fn.method "loop.example/borrowcheck/impl.join") #[.iface 154 (.agg #[])] #[]) rfl (by kernel_rfl) (by kernel_rfl) (by kernel_rfl) (fun _ _ _ h => h) (Or.inl ⟨by rfl, fun w hSw => by go_simp⟩) hHeld ?_
                try simp only [Act.put, List.setIfInBounds_toArray, List.set_cons_zero, List.set_cons_succ]
                refine wpAnyH_take (i := 7) (oi := ⟨_, _, _, _, _, _⟩) (v := .iface 154 (.agg #[])) rfl (by kernel_rfl) (by kernel_rfl) (by kernel_rfl) (fun _ _ _ h => h) (Or.inl ⟨by rfl, fun w hSw => by go_simp⟩) hHeld ?_
                try simp only [Act.put, List.setIfInBounds_toArray, List.set_cons_zero, List.set_cons_succ]
                refine wpAnyH_ready (rs := [8, 9]) (by kernel_rfl) (by simp) ?_
                refine AllReadyH.cons (o := ⟨_, _, _, _, _, _⟩) rfl (fun K hK => ?_) ?_
                · skip
                  go_simp
                  refine (flowLent.eachJoin_any (kn' b) z (fun v => HAT.out.lt b v) HZ61.out _).mono ?_
                  rintro E wq1 ⟨rfl, hbq⟩
                  refine hK.out _ _ ⟨hHeld.1.trans (hbq.mono hHeld.1.size), fun j v hv => (hbq.cell (by have := hHeld.1.size; have := HKL.out; simp; omega)).trans (hHeld.2.1 j v hv), (hbq.block BH (heap_lt hHeld.2.2)).trans hHeld.2.2⟩ (fun hHeld => ?_)
                  replace hLE := Nat.le_trans hLE hbq.size
                  clear hK K hbq
                  refine wpAnyH_ready (rs := [9]) (by kernel_rfl) (by simp) ?_
                  refine AllReadyH.cons (o := ⟨_, _, _, _, _, _⟩) rfl (fun K hK => ?_) AllReadyH.nil
                  go_simp
                  have hJ := heap_alloc_new wq1 (.cells #[.int .u64 0, .int .u64 0, .int .u64 0, .int .u64 0, .int .u64 0, .int .u64 0] 61)
                  have hJB : wr.heap.size ≤ wq1.heap.size := hLE
                  have hba := (Below.refl wq1.heap.size wq1).alloc (Nat.le_refl _) (.cells #[.int .u64 0, .int .u64 0, .int .u64 0, .int .u64 0, .int .u64 0, .int .u64 0] 61)
                  refine hK.out _ _ ⟨hHeld.1.trans (hba.mono hHeld.1.size), fun j v hv => (hba.cell (by have := hHeld.1.size; have := HKL.out; simp; omega)).trans (hHeld.2.1 j v hv), (hba.block BH (heap_lt hHeld.2.2)).trans hHeld.2.2⟩ (fun hHeld => ?_)
                  replace hLE := Nat.le_trans hLE hba.size
                  generalize wq1.alloc (.cells #[.int .u64 0, .int .u64 0, .int .u64 0, .int .u64 0, .int .u64 0, .int .u64 0] 61) = wq2 at *
                  replace hJ := hJ
                  clear hK K hba
                  refine wpAnyH_ready (rs := [10]) (by kernel_rfl) (by simp) ?_
                  refine AllReadyH.cons (o := ⟨_, _, _, _, _, _⟩) rfl (fun K hK => ?_) AllReadyH.nil
                  rw [if_pos (by rfl)]
                  refine wp_store_mid _ _ _ rfl (wq1.heap.size) 0 (perC (fun v => kn' b v ||| z v)).toArray rfl rfl (row_there hJ rfl) (by kernel_rfl) (perC_one _) ?_
                  simp only [Act.put]
                  have hfin := Lib.hid (row_set (perC (fun v => kn' b v ||| z v)) hJ rfl)
                  have hKB := HKL.out
                  refine hK.out _ _ ⟨below_setCells hHeld.1 hJB hHeld.1.size, fun j v hv => (World.cell?_of_block (a := ⟨(w.heap.size + 1 + 1), b * 6 + j, none⟩) (heap_setCells_ne wq2 (wq1.heap.size) (w.heap.size + 1 + 1) 0 _ (by omega) (by omega))).trans (hHeld.2.1 j v hv), (heap_setCells_ne wq2 (wq1.heap.size) BH 0 _ (by have := HBL2.out; omega) (heap_lt hHeld.2.2)).trans hHeld.2.2⟩ (fun hHeld => ?_)
                  clear hK K
                  refine wpAnyH_done (by kernel_rfl) ?_ _
                  go_wp2_with fail
                  go_meet
                  exact ⟨wq1.heap.size, rfl, hfin.out, hJB, hHeld.1⟩
                refine AllReadyH.cons (o := ⟨_, _, _, _, _, _⟩) rfl (fun K hK => ?_) AllReadyH.nil
                go_simp
                have hJ := heap_alloc_new wd (.cells #[.int .u64 0, .int .u64 0, .int .u64 0, .int .u64 0, .int .u64 0, .int .u64 0] 61)
                have hJB : wr.heap.size ≤ wd.heap.size := hLE
                have hba := (Below.refl wd.heap.size wd).alloc (Nat.le_refl _) (.cells #[.int .u64 0, .int .u64 0, .int .u64 0, .int .u64 0, .int .u64 0, .int .u64 0] 61)
                refine hK.out _ _ ⟨hHeld.1.trans (hba.mono hHeld.1.size), fun j v hv => (hba.cell (by have := hHeld.1.size; have := HKL.out; simp; omega)).trans (hHeld.2.1 j v hv), (hba.block BH (heap_lt hHeld.2.2)).trans hHeld.2.2⟩ (fun hHeld => ?_)
                replace hLE := Nat.le_trans hLE hba.size
                generalize wd.alloc (.cells #[.int .u64 0, .int .u64 0, .int .u64 0, .int .u64 0, .int .u64 0, .int .u64 0] 61) = wq1 at *
                replace hJ := hJ
                clear hK K hba
                refine wpAnyH_ready (rs := [8]) (by kernel_rfl) (by simp) ?_
                refine AllReadyH.cons (o := ⟨_, _, _, _, _, _⟩) rfl (fun K hK => ?_) AllReadyH.nil
                go_simp
                refine (flowLent.eachJoin_any (kn' b) z (fun v => HAT.out.lt b v) HZ61.out _).mono ?_
                rintro E wq2 ⟨rfl, hbq⟩
                refine hK.out _ _ ⟨hHeld.1.trans (hbq.mono hHeld.1.size), fun j v hv => (hbq.cell (by have := hHeld.1.size; have := HKL.out; simp; omega)).trans (hHeld.2.1 j v hv), (hbq.block BH (heap_lt hHeld.2.2)).trans hHeld.2.2⟩ (fun hHeld => ?_)
                replace hJ := (hbq.block _ (heap_lt hJ)).trans hJ
                replace hLE := Nat.le_trans hLE hbq.size
                clear hK K hbq
                refine wpAnyH_ready (rs := [10]) (by kernel_rfl) (by simp) ?_
                refine AllReadyH.cons (o := ⟨_, _, _, _, _, _⟩) rfl (fun K hK => ?_) AllReadyH.nil
                rw [if_pos (by rfl)]
                refine wp_store_mid _ _ _ rfl (wd.heap.size) 0 (perC (fun v => kn' b v ||| z v)).toArray rfl rfl (row_there hJ rfl) (by kernel_rfl) (perC_one _) ?_
                simp only [Act.put]
                have hfin := Lib.hid (row_set (perC (fun v => kn' b v ||| z v)) hJ rfl)
                have hKB := HKL.out
                refine hK.out _ _ ⟨below_setCells hHeld.1 hJB hHeld.1.size, fun j v hv => (World.cell?_of_block (a := ⟨(w.heap.size + 1 + 1), b * 6 + j, none⟩) (heap_setCells_ne wq2 (wd.heap.size) (w.heap.size + 1 + 1) 0 _ (by omega) (by omega))).trans (hHeld.2.1 j v hv), (heap_setCells_ne wq2 (wd.heap.size) BH 0 _ (by have := HBL2.out; omega) (heap_lt hHeld.2.2)).trans hHeld.2.2⟩ (fun hHeld => ?_)
                clear hK K
                refine wpAnyH_done (by kernel_rfl) ?_ _
                go_wp2_with fail
                go_meet
                exact ⟨wd.heap.size, rfl, hfin.out, hJB, hHeld.1⟩
              case rest =>
                obtain ⟨bJ, rfl, hJr, hJl, hbc⟩ := hcut
                have hcs := hbc.size
                have HM2 := Lib.hid (HM.out.keep hbc)
                have HBE2 : Hid (wc.heap[BH]? = some (.cells (perC z).toArray 61 (0, 0))) := (hbc.block BH HBL2.out).trans HBE.out
                have HROW2 := Lib.hid (RowI.below HROW.out hbc)
                have HJR := Lib.hid hJr
                have HCS : Hid (wr.heap.size ≤ wc.heap.size) := hcs
                clear hbc hJr HM HBE HROW hcs HRB hmf
                go_upto_region 17 with fail
                have hS17 : (fun w' => w'.heap[bJ]? = some (.cells (perC (fun v => kn' b v ||| z v)).toArray 61 (0, 0)) ∧ w'.rangeAt (w.heap.size + 1 + 1) (b * 6) (perC (kn' b))) wc.drew := ⟨HJR.out, HM2.out.kn.range hb61⟩
                refine wp_region_held_drew (S := fun w' => w'.heap[bJ]? = some (.cells (perC (fun v => kn' b v ||| z v)).toArray 61 (0, 0)) ∧ w'.rangeAt (w.heap.size + 1 + 1) (b * 6) (perC (kn' b))) (by kernel_rfl) hS17 (fun hHeld => ?_)
                clear hS17
                replace HM2 := Lib.hid HM2.out.drew
                replace HBE2 : Hid (wc.drew.heap[BH]? = some (.cells (perC z).toArray 61 (0, 0))) := HBE2.out
                replace HROW2 : Hid (RowI wc.drew wB4.heap.size (.slice (some b0) bl.length cr) (intsOf (ah a))) := RowI.keep HROW2.out fun _ _ => rfl
                replace HJR : Hid (wc.drew.heap[bJ]? = some (.cells (perC (fun v => kn' b v ||| z v)).toArray 61 (0, 0))) := HJR.out
                generalize hwd : wc.drew = wd at *
                clear hwd
                refine wpAnyH_take (i := 0) (oi := ⟨_, _, _, _, _, _⟩) (v := (.agg (perC (fun v => kn' b v ||| z v)).toArray)) rfl (by kernel_rfl) (by kernel_rfl) (by kernel_rfl) (fun _ _ _ h => h) (yieldsIf_load_mid (by rfl) _ _ rfl bJ 0 rfl (perC (fun v => kn' b v ||| z v)) _ (fun w' h => rowL_range h.1) Tryz.underlying61 rfl (by kernel_rfl)) hHeld ?_
                try simp only [Act.put, List.setIfInBounds_toArray, List.set_cons_zero, List.set_cons_succ]
                refine wpAnyH_take (i := 1) (oi := ⟨_, _, _, _, _, _⟩) (v := .int .i64 (b : Int)) rfl (by kernel_rfl) (by kernel_rfl) (by kernel_rfl) (fun _ _ _ h => h) (Or.inl ⟨by rfl, fun w hSw => by go_simp⟩) hHeld ?_
                try simp only [Act.put, List.setIfInBounds_toArray, List.set_cons_zero, List.set_cons_succ]
                refine wpAnyH_take (i := 2) (oi := ⟨_, _, _, _, _, _⟩) (v := .pointer (some ⟨(w.heap.size + 1 + 1), b * 6, none⟩)) rfl (by kernel_rfl) (by kernel_rfl) (by kernel_rfl) (fun _ _ _ h => h) (Or.inl ⟨by rfl, fun w hSw => by go_simp⟩) hHeld ?_
                try simp only [Act.put, List.setIfInBounds_toArray, List.set_cons_zero, List.set_cons_succ]
                refine wpAnyH_take (i := 3) (oi := ⟨_, _, _, _, _, _⟩) (v := (.agg (perC (kn' b)).toArray)) rfl (by kernel_rfl) (by kernel_rfl) (by kernel_rfl) (fun _ _ _ h => h) (yieldsIf_load_mid (by rfl) _ _ rfl (w.heap.size + 1 + 1) (b * 6) rfl (perC (kn' b)) _ (fun w' h => h.2) Tryz.underlying61 rfl (by kernel_rfl)) hHeld ?_
                try simp only [Act.put, List.setIfInBounds_toArray, List.set_cons_zero, List.set_cons_succ]
                refine wpAnyH_take (i := 4) (oi := ⟨_, _, _, _, _, _⟩) (v := (.bool (!(eq6 (fun v => kn' b v ||| z v) (kn' b))))) rfl (by kernel_rfl) (by kernel_rfl) (by kernel_rfl) (fun _ _ _ h => h) (Or.inl ⟨by rfl, fun w9 hSw => exec_neq _ _ _ _ _ rfl _ _ rfl rfl w9⟩) hHeld ?_
                try simp only [Act.put, List.setIfInBounds_toArray, List.set_cons_zero, List.set_cons_succ]
                refine wpAnyH_done (by kernel_rfl) ?_ _
                clear hHeld
                by_cases hsame : eq6 (fun v => kn' b v ||| z v) (kn' b) = true
                · rw [hsame]
                  have hsv := (eq6_iff _ _).mp hsame
                  have HSV := Lib.hid hsv
                  clear hsame hsv
                  go_wp2_with fail
                  refine ⟨⟨j + 1, y', kn', rfl, by simp, by omega, hy', hyn', ?_, HM2, HBE2, HROW2, HS0⟩, ?_⟩
                  · refine Lib.hid (HAT.out.same (fun v hv => HSV.out v hv) (fun m hm => ?_))
                    obtain ⟨i, hi, him⟩ := hm
                    by_cases hij : i = j
                    · subst hij
                      rw [HB.out] at him
                      exact .inr (Option.some.inj him).symm
                    · exact .inl ⟨i, by omega, him⟩
                  · simp only [intOf]
                    omega
                · have hne : eq6 (fun v => kn' b v ||| z v) (kn' b) = false := by simpa using hsame
                  rw [hne]
                  go_upto_region 18 with fail
                  have HT2 := Lib.hid (HM2.out.kn.there hb61)
                  have HRJ := Lib.hid (rowL_range HJR.out)
                  have hiJ : Hid ((Tryz.prog.info? 61).map (·.size) = some 6) := by exact (show (Tryz.prog.info? 61).map (·.size) = some 6 from by kernel_rfl)
                  go_upto_region 19 with (first
                    | ((with_reducible show wpList _ _ _ _ _ _); refine wpList_load_mid rfl 61 _ rfl bJ 0 rfl (perC (fun v => kn' b v ||| z v)) _ ?_ Tryz.underlying61 rfl hiJ.out ?_; exact HRJ.out)
                    | ((with_reducible show wpList _ _ _ _ _ _); refine wpList_store_mid rfl 61 _ _ rfl (w.heap.size + 1 + 1) (b * 6) (perC (fun v => kn' b v ||| z v)).toArray rfl rfl ?_ hiJ.out (perC_one _) ?_; exact HT2.out))
                  have hex : ∃ v, v < 6 ∧ (kn' b v ||| z v) ≠ kn' b v := Classical.byContradiction fun h9 => hsame ((eq6_iff _ _).mpr fun v hv => Classical.byContradiction fun h8 => h9 ⟨v, hv, h8⟩)
                  have HEX := Lib.hid hex
                  have hbl7 := HM2.out.kn.lt
                  have HM3 := Lib.hid (HM2.out.put (m := b) hb61 (fun v => kn' b v ||| z v))
                  have hput : ∀ g, g ≠ (w.heap.size + 1 + 1) → g < wd.heap.size → (wd.setCells (w.heap.size + 1 + 1) (b * 6) (perC (fun v => kn' b v ||| z v))).heap[g]? = wd.heap[g]? := fun g h9 h8 => heap_setCells_ne _ _ _ _ _ h9 h8
                  have HBE3 : Hid ((wd.setCells (w.heap.size + 1 + 1) (b * 6) (perC (fun v => kn' b v ||| z v))).heap[BH]? = some (.cells (perC z).toArray 61 (0, 0))) := (hput BH (by omega) (heap_lt HBE2.out)).trans HBE2.out
                  have HROW3 : Hid (RowI (wd.setCells (w.heap.size + 1 + 1) (b * 6) (perC (fun v => kn' b v ||| z v))) wB4.heap.size (.slice (some b0) bl.length cr) (intsOf (ah a))) := RowI.keep HROW2.out fun g hg' => hput g (by have := (RowI.lt HROW2.out g hg').1; omega) (RowI.lt HROW2.out g hg').2
                  clear hex hne hsame HM2 HBE2 HROW2 hput
                  generalize wd.setCells (w.heap.size + 1 + 1) (b * 6) (perC (fun v => kn' b v ||| z v)) = w8 at *
                  go_wp2_with fail
                  have hwith := with_any y' b hy' (by omega)
                  refine (hwith _).mono ?_
                  rintro E w7 ⟨rfl, hb7⟩
                  have HM4' := Lib.hid (HM3.out.keep hb7)
                  have HBE4 : Hid (w7.heap[BH]? = some (.cells (perC z).toArray 61 (0, 0))) := (hb7.block BH (heap_lt HBE3.out)).trans HBE3.out
                  have HROW4 := Lib.hid (RowI.below HROW3.out hb7)
                  clear hwith hb7 HM3 HROW3 HBE3 HT2 HRJ
                  go_wp2_with fail
                  have hp2 : 2 ^ b < 2 ^ 64 := Nat.pow_lt_pow_right (by decide) (by omega)
                  have hor : y' ||| 2 ^ b < 2 ^ 64 := Nat.or_lt_two_pow (by omega) hp2
                  have hWW : ∀ k, (y' ||| 2 ^ b).testBit k = true ↔ y'.testBit k = true ∨ k = b := by
                    intro k
                    rw [Nat.testBit_or, Bool.or_eq_true, Nat.testBit_two_pow]
                    simp only [decide_eq_true_eq]
                    exact or_congr Iff.rfl eq_comm
                  refine ⟨⟨j + 1, y' ||| 2 ^ b, setP kn' b (fun v => kn' b v ||| z v), rfl, by simp, by omega, by omega, ?_, ?_, HM4', HBE4, HROW4, ?_⟩, ?_⟩
                  · refine Lib.hid (fun k hk hkb => ?_)
                    rcases (hWW k).mp hkb with h9 | h9
                    · exact hyn'.out k hk h9
                    · rw [h9]; exact hbN
                  · exact Lib.hid (HAT.out.more HEDGE.out (z := (fun v => kn' b v ||| z v)) (fun v => rfl) (W' := fun k => (y' ||| 2 ^ b).testBit k = true) (D' := fun m => ∃ i, i < j + 1 ∧ bl[i]? = some m) hWW (fun m hm => by
                      obtain ⟨i, hi, him⟩ := hm
                      by_cases hij : i = j
                      · subst hij
                        rw [HB.out] at him
                        exact .inr (Option.some.inj him).symm
                      · exact .inl ⟨i, by omega, him⟩))
                  · have h9 := wtP_set (kn := kn') (n := ns.length) (y := z) (z := (fun v => kn' b v ||| z v)) hbN (fun v => HAT.out.lt b v) (fun v => rfl) HEX.out
                    refine Lib.hid (.inl ?_)
                    rcases HS0.out with h8 | ⟨h8, _⟩
                    · omega
                    · omega
                  · simp only [intOf]
                    omega
            · have hjl2 : j = bl.length := by omega
              clear haj hmj
              go_wp2_with fail
              have e1 := HM.out.kn.measure hle
              have e0 := HS.out.kn.measure hle
              refine ⟨⟨y', kn', rfl, hy', hyn', Lib.hid (HAT.out.done fun m hm => ?_), HM⟩, ?_⟩
              · have hmb : m ∈ bl := by
                  rw [HBL.out, mem_bitsOf]
                  have h9 := (mem_nextN HD.out hle a m).mp hm
                  have h8 := h9.lt HD.out hle
                  exact ⟨by omega, (HBIT.out m (by omega)).mpr h9⟩
                obtain ⟨i, hi, him⟩ := List.mem_iff_getElem.mp hmb
                exact ⟨i, by omega, by rw [List.getElem?_eq_getElem hi, him]⟩
              · rw [e1, e0]
                simp only [intOf, Int.toNat_natCast]
                rcases HS0.out with h8 | ⟨h8, h9⟩
                · omega
                · omega

end Go.Proofs.YtnoejapnjhogaaaGreatDoor.tr
