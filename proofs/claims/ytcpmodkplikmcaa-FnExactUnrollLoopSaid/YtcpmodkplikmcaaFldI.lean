/-
  A load behind a store, as the program replaces it.
-/
import Derived.Test.YtcpmodkplikmcaaWst
import Derived.Test.YtcpmodkplikmcaaChg
import Derived.Test.YtcpmodkplikmcaaKindsB
import Derived.Test.YtcpmodkplikmcaaDrpI
import Derived.Deep.DeepCutAuto
namespace Go.Proofs.Ytcpmodkplikmcaa
open Go.RowKit Go.Deep
set_option linter.unusedVariables false

/-- Whether the statement k + 1 loads what the statement k stored. -/
def fwdS : Sts → Bool
  | .cons op x y _ _ _ (.cons op2 x2 y2 _ _ _ _) => fwdB op x y op2 x2 y2
  | _ => false

/-- What comes instead of the load. -/
def fwdM : Sts → Sts
  | .cons _ _ y _ _ _ (.cons _ x2 _ _ _ _ _) => .cons 3 x2 y 0 .nil .nil .nil
  | _ => .nil

/-- What the move is made of. -/
@[reducible] def SF (B : Nat) (b : Addr) (l cs K : Nat) (x2 y : Int) (X : World) : Prop := X.cell? ⟨B, 1, none⟩ = some (.slice (some b) l cs) ∧ X.cell? ⟨(b.add ((K + 1) * 6)).block, (b.add ((K + 1) * 6)).off + 1, none⟩ = some (.int .i64 x2) ∧ X.cell? ⟨(b.add (K * 6)).block, (b.add (K * 6)).off + 2, none⟩ = some (.int .i64 y)

@[reducible] def SG (B M : Nat) (p0 p1 : Value) (x2 y : Int) (X : World) : Prop := X.cell? ⟨B, 0, none⟩ = some p0 ∧ X.cell? ⟨B, 1, none⟩ = some p1 ∧ X.cell? ⟨M, 0, none⟩ = some (.int .i64 x2) ∧ X.cell? ⟨M, 1, none⟩ = some (.int .i64 y)

theorem sg_block {B M : Nat} {p0 p1 : Value} {x2 y : Int} {X Y : World} (h : SG B M p0 p1 x2 y X) (hB : Y.heap[B]? = X.heap[B]?) (hM : Y.heap[M]? = X.heap[M]?) : SG B M p0 p1 x2 y Y :=
  ⟨(World.cell?_of_block (w := X) hB).trans h.1, (World.cell?_of_block (w := X) hB).trans h.2.1, (World.cell?_of_block (w := X) hM).trans h.2.2.1, (World.cell?_of_block (w := X) hM).trans h.2.2.2⟩

def fwdOk (ts : List Int) (s : Sts) (k : Int) : Bool := hasB ts s k 2 && fwdS (s.drop k.toNat)

def fwdR (s : Sts) (k : Nat) : Sts := s.splice (k + 1) (k + 2) (fwdM (s.drop k))

theorem fwdM_size (u : Sts) : (fwdM u).size ≤ 1 := by
  unfold fwdM
  split <;> simp [Sts.size]

theorem Sts.front_drop_size (s : Sts) : ∀ k, (s.front k).size + (s.drop k).size ≤ s.size := by
  induction s with
  | nil => intro k; cases k <;> simp [Sts.front, Sts.drop, Sts.size]
  | cons op x y n t e r iht ihe ihr =>
    intro k
    cases k with
    | zero => simp [Sts.front, Sts.drop, Sts.size]
    | succ k => have := ihr k; simp only [Sts.front, Sts.drop, Sts.size]; omega

theorem Sts.drop_succ_size (s : Sts) : ∀ k, (s.drop (k + 1)).size ≤ (s.drop k).size := by
  induction s with
  | nil => intro k; cases k <;> simp [Sts.drop, Sts.size]
  | cons op x y n t e r iht ihe ihr =>
    intro k
    cases k with
    | zero => have := r.drop_size_le 0; simp only [Sts.drop, Sts.size] at this ⊢; omega
    | succ k => have := ihr k; simp only [Sts.drop]; exact this

theorem fwdR_size (s : Sts) (k : Nat) : (fwdR s k).size ≤ s.size + 1 := by
  unfold fwdR Sts.splice
  rw [Sts.app_size, Sts.app_size]
  have h1 := s.front_drop_size (k + 1)
  have h2 := fwdM_size (s.drop k)
  have h3 : (s.drop (k + 2)).size ≤ (s.drop (k + 1)).size := s.drop_succ_size (k + 1)
  omega

theorem hasB_true {ts : List Int} {s : Sts} {k n : Int} (h : hasB ts s k n = true) : validB ts s = true ∧ 0 ≤ k ∧ k ≤ (s.len : Int) - n := by
  unfold hasB at h
  simp only [Bool.and_eq_true, decide_eq_true_eq] at h
  exact h

set_option maxRecDepth 100000 in
set_option maxHeartbeats 4000000 in
theorem implForwardLoad_any (ts : List Int) (s : Sts) (At As : Option Addr) (ct cs : Nat) (k : Int) (w : World) (hT : IntsV w 0 w.heap.size ts At ct) (hS : RepV w 0 w.heap.size s As cs) :
    Calls Try.prog 14 #[.agg #[.slice At ts.length ct, .slice As s.len cs], .int .i64 k] w fun E w' => ∃ v, E = .returned (.tuple #[v, .bool (fwdOk ts s k)]) ∧ AnsP w' w.heap.size (fwdOk ts s k) ts (fwdR s k.toNat) v ∧ Below w.heap.size w w' := by
  obtain ⟨W, hW⟩ : ∃ W, (w.alloc (.cells #[.slice At ts.length ct, .slice As s.len cs] 29)).alloc (.cells #[.slice none 0 0, .slice none 0 0] 29) = W := ⟨_, rfl⟩
  have hbW : Below w.heap.size w W := by rw [← hW]; exact ((Below.refl _ _).alloc (Nat.le_refl _) _).alloc (by simp) _
  obtain ⟨hWP, hWR, hWz⟩ := heap2 w (.cells #[.slice At ts.length ct, .slice As s.len cs] 29) (.cells #[.slice none 0 0, .slice none 0 0] 29)
  rw [hW] at hWP hWR hWz
  have HH : Hid (∀ X : World, Below W.heap.size W X → Calls Try.prog 41 #[.agg #[.slice At ts.length ct, .slice As s.len cs], .int .i64 k, .int .i64 2] X fun E w' => E = .returned (.bool (hasB ts s k 2)) ∧ Below W.heap.size W w') := fun X hX => (hasStmts_any ts s At As ct cs k 2 X (by omega) (by omega) ((hT.below hbW hbW.size).below hX hX.size) ((hS.below hbW hbW.size).below hX hX.size)).mono fun E w' h => ⟨h.1, hX.trans (h.2.mono hX.size)⟩
  have HT := Lib.hid (hT.below hbW hbW.size)
  have HS := Lib.hid (hS.below hbW hbW.size)
  have HBW := Lib.hid hbW
  have HWP := Lib.hid hWP
  have HWR := Lib.hid hWR
  have p0 : W.cell? ⟨w.heap.size, 0, none⟩ = some (.slice At ts.length ct) := (cell_of_block hWP 0).trans rfl
  have p1 : W.cell? ⟨w.heap.size, 1, none⟩ = some (.slice As s.len cs) := (cell_of_block hWP 1).trans rfl
  have hcm := hS.2.1
  have hlc := hS.1
  unfold maxLen at hcm
  have hno : Hid (∀ v, fwdOk ts s k = false → v = Value.agg #[.slice none 0 0, .slice none 0 0] → ∀ w', AnsP w' w.heap.size (fwdOk ts s k) ts (fwdR s k.toNat) v) := fun v h hv w' => by unfold AnsP; rw [h, if_neg (by simp)]; exact hv
  clear hT hS hbW hWP hWR
  go_enter Try.func14, Try.ntmps14
  go_upto_region 1 with (fail)
  clear hW
  cases hhb : hasB ts s k 2
  · have hd : fwdOk ts s k = false := by unfold fwdOk; rw [hhb]; rfl
    have HD := Lib.hid hd
    clear hd
    rw [hhb] at HH
    go_cut [25] (fun b wx => b = .bool true ∧ Hid (Below W.heap.size W wx))
    case first =>
      refine wp_region_any (by kernel_rfl) ?_
      try (change wpAny _ _ _ _ _ _ _ (World.drew _))
      refine wpAny_take (i := 1) (v := .int .i64 k) rfl (by kernel_rfl) (by kernel_rfl) (by kernel_rfl) (fun _ _ _ h => h) (Or.inl ⟨by rfl, ?_⟩) ?_
      · intro w; go_simp
        try with_reducible rfl
      refine wpAny_ready (rs := [0]) (by kernel_rfl) (by simp) ?_
      refine AllReady.cons rfl (fun K hK => ?_) AllReady.nil
      go_simp
      refine hK _ _ ?_
      clear hK K
      refine wpAny_ready (rs := [2]) (by kernel_rfl) (by simp) ?_
      refine AllReady.cons rfl (fun K hK => ?_) AllReady.nil
      go_simp
      go_wp2_with ((go_at_call 41; refine (HH.out _ ?hx).mono ?_; (case hx => first | exact Below.refl _ _ | exact (Below.refl _ _).drew); rintro E w1 ⟨rfl, hb1⟩))
      try (refine hK _ _ ?_; clear hK K)
      refine wpAny_take (i := 3) (v := .bool true) rfl (by kernel_rfl) (by kernel_rfl) (by kernel_rfl) (fun _ _ _ h => h) (Or.inl ⟨by rfl, ?_⟩) ?_
      · intro w; go_simp
        try with_reducible rfl
      refine wpAny_take (i := 4) (v := .bool true) rfl (by kernel_rfl) (by kernel_rfl) (by kernel_rfl) (fun _ _ _ h => h) (Or.inl ⟨by rfl, ?_⟩) ?_
      · intro w; go_simp
        try with_reducible rfl
      refine wpAny_take (i := 5) (v := undef) rfl (by kernel_rfl) (by kernel_rfl) (by kernel_rfl) (fun _ _ _ h => h) (Or.inr ⟨by rfl, rfl⟩) ?_
      try simp only [Act.put, List.getElem_toArray, List.getElem_cons_succ, List.getElem_cons_zero, List.setIfInBounds_toArray, List.set_cons_zero, List.set_cons_succ]
      refine wpAny_take (i := 6) (v := undef) rfl (by kernel_rfl) (by kernel_rfl) (by kernel_rfl) (fun _ _ _ h => h) (Or.inr ⟨by rfl, rfl⟩) ?_
      try simp only [Act.put, List.getElem_toArray, List.getElem_cons_succ, List.getElem_cons_zero, List.setIfInBounds_toArray, List.set_cons_zero, List.set_cons_succ]
      refine wpAny_take (i := 7) (v := undef) rfl (by kernel_rfl) (by kernel_rfl) (by kernel_rfl) (fun _ _ _ h => h) (Or.inr ⟨by rfl, rfl⟩) ?_
      try simp only [Act.put, List.getElem_toArray, List.getElem_cons_succ, List.getElem_cons_zero, List.setIfInBounds_toArray, List.set_cons_zero, List.set_cons_succ]
      refine wpAny_take (i := 8) (v := undef) rfl (by kernel_rfl) (by kernel_rfl) (by kernel_rfl) (fun _ _ _ h => h) (Or.inr ⟨by rfl, rfl⟩) ?_
      try simp only [Act.put, List.getElem_toArray, List.getElem_cons_succ, List.getElem_cons_zero, List.setIfInBounds_toArray, List.set_cons_zero, List.set_cons_succ]
      refine wpAny_take (i := 9) (v := undef) rfl (by kernel_rfl) (by kernel_rfl) (by kernel_rfl) (fun _ _ _ h => h) (Or.inr ⟨by rfl, rfl⟩) ?_
      try simp only [Act.put, List.getElem_toArray, List.getElem_cons_succ, List.getElem_cons_zero, List.setIfInBounds_toArray, List.set_cons_zero, List.set_cons_succ]
      refine wpAny_take (i := 10) (v := undef) rfl (by kernel_rfl) (by kernel_rfl) (by kernel_rfl) (fun _ _ _ h => h) (Or.inr ⟨by rfl, rfl⟩) ?_
      try simp only [Act.put, List.getElem_toArray, List.getElem_cons_succ, List.getElem_cons_zero, List.setIfInBounds_toArray, List.set_cons_zero, List.set_cons_succ]
      refine wpAny_take (i := 11) (v := undef) rfl (by kernel_rfl) (by kernel_rfl) (by kernel_rfl) (fun _ _ _ h => h) (Or.inr ⟨by rfl, rfl⟩) ?_
      try simp only [Act.put, List.getElem_toArray, List.getElem_cons_succ, List.getElem_cons_zero, List.setIfInBounds_toArray, List.set_cons_zero, List.set_cons_succ]
      refine wpAny_take (i := 12) (v := undef) rfl (by kernel_rfl) (by kernel_rfl) (by kernel_rfl) (fun _ _ _ h => h) (Or.inr ⟨by rfl, rfl⟩) ?_
      try simp only [Act.put, List.getElem_toArray, List.getElem_cons_succ, List.getElem_cons_zero, List.setIfInBounds_toArray, List.set_cons_zero, List.set_cons_succ]
      refine wpAny_take (i := 13) (v := undef) rfl (by kernel_rfl) (by kernel_rfl) (by kernel_rfl) (fun _ _ _ h => h) (Or.inr ⟨by rfl, rfl⟩) ?_
      try simp only [Act.put, List.getElem_toArray, List.getElem_cons_succ, List.getElem_cons_zero, List.setIfInBounds_toArray, List.set_cons_zero, List.set_cons_succ]
      refine wpAny_take (i := 14) (v := undef) rfl (by kernel_rfl) (by kernel_rfl) (by kernel_rfl) (fun _ _ _ h => h) (Or.inr ⟨by rfl, rfl⟩) ?_
      try simp only [Act.put, List.getElem_toArray, List.getElem_cons_succ, List.getElem_cons_zero, List.setIfInBounds_toArray, List.set_cons_zero, List.set_cons_succ]
      refine wpAny_take (i := 15) (v := undef) rfl (by kernel_rfl) (by kernel_rfl) (by kernel_rfl) (fun _ _ _ h => h) (Or.inr ⟨by rfl, rfl⟩) ?_
      try simp only [Act.put, List.getElem_toArray, List.getElem_cons_succ, List.getElem_cons_zero, List.setIfInBounds_toArray, List.set_cons_zero, List.set_cons_succ]
      refine wpAny_take (i := 16) (v := undef) rfl (by kernel_rfl) (by kernel_rfl) (by kernel_rfl) (fun _ _ _ h => h) (Or.inr ⟨by rfl, rfl⟩) ?_
      try simp only [Act.put, List.getElem_toArray, List.getElem_cons_succ, List.getElem_cons_zero, List.setIfInBounds_toArray, List.set_cons_zero, List.set_cons_succ]
      refine wpAny_take (i := 17) (v := undef) rfl (by kernel_rfl) (by kernel_rfl) (by kernel_rfl) (fun _ _ _ h => h) (Or.inr ⟨by rfl, rfl⟩) ?_
      try simp only [Act.put, List.getElem_toArray, List.getElem_cons_succ, List.getElem_cons_zero, List.setIfInBounds_toArray, List.set_cons_zero, List.set_cons_succ]
      refine wpAny_take (i := 18) (v := .bool true) rfl (by kernel_rfl) (by kernel_rfl) (by kernel_rfl) (fun _ _ _ h => h) (Or.inl ⟨by rfl, ?_⟩) ?_
      · intro w; go_simp
        try with_reducible rfl
      refine wpAny_done (by kernel_rfl) ?_ _
      go_wp2_with fail
      go_meet
      exact ⟨rfl, hb1⟩
    obtain ⟨rfl, hb1⟩ := hcut
    have hb1 := hb1.out
    obtain ⟨w1, hw1e⟩ : ∃ z, wc = z := ⟨_, rfl⟩
    rw [hw1e] at hb1 ⊢
    have HB1 := Lib.hid (HBW.out.trans (hb1.mono (by omega)))
    have hwz := hb1.size
    have hR1 := (hb1.block (w.heap.size + 1) (by omega)).trans HWR.out
    have r0 : w1.cell? ⟨w.heap.size + 1, 0, none⟩ = some (.slice none 0 0) := (cell_of_block hR1 0).trans rfl
    have r1 : w1.cell? ⟨w.heap.size + 1, 1, none⟩ = some (.slice none 0 0) := (cell_of_block hR1 1).trans rfl
    have y0 := frozen_of_block hR1 0
    have y1 := frozen_of_block hR1 1
    have HR1 := Lib.hid hR1
    have hBz := Lib.hid ((HB1.out.setCell (p := ⟨w.heap.size + 1, 0, none⟩) (by simp) (.slice none 0 0)).setCell (p := ⟨w.heap.size + 1, 1, none⟩) (by simp) (.slice none 0 0))
    clear hb1 hR1 p0 p1 hw1e
    go_wp2_with fail
    exact bodyPost_ret (v := .tuple #[.agg #[.slice none 0 0, .slice none 0 0], .bool false]) (by simp [results, Try.results14, go_sem, r0, r1]) rfl ⟨_, by rw [HD.out], hno.out _ HD.out rfl _, hBz.out⟩
  · obtain ⟨hvb, hk0, hk1⟩ := hasB_true hhb
    obtain ⟨K, rfl⟩ : ∃ K : Nat, k = (K : Int) := ⟨k.toNat, by omega⟩
    have hsize := validB_size hvb
    have htl := validB_types hvb
    clear hvb
    rw [hhb] at HH
    obtain ⟨b, op, x, y, n, t, e, hAs, _, hbb, hd1, A1, c1, A2, c2, ⟨a0, a1, a2, a3, a4, a5⟩, _, _⟩ := HS.out.elem (k := K) (by omega)
    obtain ⟨b', op2, x2, y2, n2, t2, e2, hAs', _, _, hd2, A3, c3, A4, c4, ⟨e0, e1, e2', e3, e4, e5⟩, _, _⟩ := HS.out.elem (k := K + 1) (by omega)
    rw [hAs] at hAs'
    injection hAs' with hAs'
    subst hAs'
    subst hAs
    have hB1 : (b.add (K * 6)).block < W.heap.size := by rw [block_add]; exact hbb
    have hB2 : (b.add ((K + 1) * 6)).block < W.heap.size := by rw [block_add]; exact hbb
    have CE : Hid (∀ X : World, Below W.heap.size W X → (X.cell? ⟨w.heap.size, 1, none⟩ = some (.slice (some b) s.len cs)) ∧ (X.cell? (b.add (K * 6)) = some (.int .i64 op) ∧ X.cell? ⟨(b.add (K * 6)).block, (b.add (K * 6)).off + 1, none⟩ = some (.int .i64 x) ∧ X.cell? ⟨(b.add (K * 6)).block, (b.add (K * 6)).off + 2, none⟩ = some (.int .i64 y) ∧ X.cell? ⟨(b.add (K * 6)).block, (b.add (K * 6)).off + 3, none⟩ = some (.int .i64 n) ∧ X.cell? ⟨(b.add (K * 6)).block, (b.add (K * 6)).off + 4, none⟩ = some (.slice A1 t.len c1) ∧ X.cell? ⟨(b.add (K * 6)).block, (b.add (K * 6)).off + 5, none⟩ = some (.slice A2 e.len c2)) ∧ (X.cell? (b.add ((K + 1) * 6)) = some (.int .i64 op2) ∧ X.cell? ⟨(b.add ((K + 1) * 6)).block, (b.add ((K + 1) * 6)).off + 1, none⟩ = some (.int .i64 x2) ∧ X.cell? ⟨(b.add ((K + 1) * 6)).block, (b.add ((K + 1) * 6)).off + 2, none⟩ = some (.int .i64 y2) ∧ X.cell? ⟨(b.add ((K + 1) * 6)).block, (b.add ((K + 1) * 6)).off + 3, none⟩ = some (.int .i64 n2) ∧ X.cell? ⟨(b.add ((K + 1) * 6)).block, (b.add ((K + 1) * 6)).off + 4, none⟩ = some (.slice A3 t2.len c3) ∧ X.cell? ⟨(b.add ((K + 1) * 6)).block, (b.add ((K + 1) * 6)).off + 5, none⟩ = some (.slice A4 e2.len c4))) := fun X hX => ⟨(hX.cell (by show w.heap.size < _; omega)).trans p1, ⟨(hX.cell hB1).trans a0, (hX.cell (by exact hB1)).trans a1, (hX.cell (by exact hB1)).trans a2, (hX.cell (by exact hB1)).trans a3, (hX.cell (by exact hB1)).trans a4, (hX.cell (by exact hB1)).trans a5⟩, ⟨(hX.cell hB2).trans e0, (hX.cell (by exact hB2)).trans e1, (hX.cell (by exact hB2)).trans e2', (hX.cell (by exact hB2)).trans e3, (hX.cell (by exact hB2)).trans e4, (hX.cell (by exact hB2)).trans e5⟩⟩
    clear a0 a1 a2 a3 a4 a5 e0 e1 e2' e3 e4 e5 hB1 hB2 hbb
    have HC : Hid (∀ X : World, Below W.heap.size W X → Calls Try.prog 42 #[.agg #[.int .i64 op, .int .i64 x, .int .i64 y, .int .i64 n, .slice A1 t.len c1, .slice A2 e.len c2], .agg #[.int .i64 op2, .int .i64 x2, .int .i64 y2, .int .i64 n2, .slice A3 t2.len c3, .slice A4 e2.len c4]] X fun E w' => E = .returned (.bool (fwdB op x y op2 x2 y2)) ∧ Below W.heap.size W w') := fun X hX => (canForward_any op x y n op2 x2 y2 n2 _ _ _ _ _ _ _ _ _ _ _ _ X).mono fun E w' h => ⟨h.1, hX.trans (h.2.mono hX.size)⟩
    have hki0 : (0 : Int) ≤ (K : Int) := by omega
    have hki1 : (K : Int) < (s.len : Int) := by omega
    have hki2 : (0 : Int) ≤ (K : Int) + 1 := by omega
    have hki3 : (K : Int) + 1 < (s.len : Int) := by omega
    have hkn : ((K : Int) + 1).toNat = K + 1 := by omega
    have hkw : IntKind.i64.wrap ((K : Int) + 1) = (K : Int) + 1 := by rw [IntKind.wrap_i64]; have := s.len_le_size; omega
    have hdd : s.drop K = .cons op x y n t e (.cons op2 x2 y2 n2 t2 e2 (s.drop (K + 2))) := by rw [hd1, hd2]
    have HDD := Lib.hid hdd
    have hfo : fwdOk ts s (K : Int) = fwdB op x y op2 x2 y2 := by unfold fwdOk; rw [hhb]; show (true && fwdS (s.drop K)) = _; rw [hdd]; rfl
    have HFO := Lib.hid hfo
    clear hd1 hd2 hdd hfo hhb hk0 hk1
    cases hfb : fwdB op x y op2 x2 y2
    · have HD := Lib.hid (HFO.out.trans hfb)
      rw [hfb] at HC
      clear hfb
      go_cut [25] (fun b wx => b = .bool true ∧ Hid (Below W.heap.size W wx))
      case first =>
        go_region_with (first
          | (go_at_call 41; refine (HH.out _ ?hx).mono ?_; (case hx => first | exact Below.refl _ _ | exact (Below.refl _ _).drew); rintro E w1 ⟨rfl, hb1⟩; obtain ⟨q1, ⟨a0, a1, a2, a3, a4, a5⟩, ⟨e0, e1, e2', e3, e4, e5⟩⟩ := CE.out w1 hb1)
          | (go_at_call 42; refine (HC.out _ ?hy).mono ?_; (case hy => exact hb1); rintro E w2 ⟨rfl, hb2⟩))
        all_goals (go_wp2_with fail; go_meet; exact ⟨rfl, hb2⟩)
      obtain ⟨rfl, hb1⟩ := hcut
      have hb1 := hb1.out
      obtain ⟨w1, hw1e⟩ : ∃ z, wc = z := ⟨_, rfl⟩
      rw [hw1e] at hb1 ⊢
      have HB1 := Lib.hid (HBW.out.trans (hb1.mono (by omega)))
      have hwz := hb1.size
      have hR1 := (hb1.block (w.heap.size + 1) (by omega)).trans HWR.out
      have r0 : w1.cell? ⟨w.heap.size + 1, 0, none⟩ = some (.slice none 0 0) := (cell_of_block hR1 0).trans rfl
      have r1 : w1.cell? ⟨w.heap.size + 1, 1, none⟩ = some (.slice none 0 0) := (cell_of_block hR1 1).trans rfl
      have y0 := frozen_of_block hR1 0
      have y1 := frozen_of_block hR1 1
      have HR1 := Lib.hid hR1
      have hBz := Lib.hid ((HB1.out.setCell (p := ⟨w.heap.size + 1, 0, none⟩) (by simp) (.slice none 0 0)).setCell (p := ⟨w.heap.size + 1, 1, none⟩) (by simp) (.slice none 0 0))
      clear hb1 hR1 p0 p1 hw1e
      go_wp2_with fail
      exact bodyPost_ret (v := .tuple #[.agg #[.slice none 0 0, .slice none 0 0], .bool false]) (by simp [results, Try.results14, go_sem, r0, r1]) rfl ⟨_, by rw [HD.out], hno.out _ HD.out rfl _, hBz.out⟩
    · have HD := Lib.hid (HFO.out.trans hfb)
      rw [hfb] at HC
      clear hfb
      go_cut [25] (fun b wx => b = .bool false ∧ Hid (Below W.heap.size W wx))
      case first =>
        go_region_with (first
          | (go_at_call 41; refine (HH.out _ ?hx).mono ?_; (case hx => first | exact Below.refl _ _ | exact (Below.refl _ _).drew); rintro E w1 ⟨rfl, hb1⟩; obtain ⟨q1, ⟨a0, a1, a2, a3, a4, a5⟩, ⟨e0, e1, e2', e3, e4, e5⟩⟩ := CE.out w1 hb1)
          | (go_at_call 42; refine (HC.out _ ?hy).mono ?_; (case hy => exact hb1); rintro E w2 ⟨rfl, hb2⟩))
        all_goals (go_wp2_with fail; go_meet; exact ⟨rfl, hb2⟩)
      obtain ⟨rfl, hb1⟩ := hcut
      have hb1 := hb1.out
      obtain ⟨w1, hw1e⟩ : ∃ z, wc = z := ⟨_, rfl⟩
      rw [hw1e] at hb1 ⊢
      obtain ⟨q1, ⟨a0, a1, a2, a3, a4, a5⟩, ⟨e0, e1, e2', e3, e4, e5⟩⟩ := CE.out w1 hb1
      have hK0 : SF w.heap.size b s.len cs K x2 y w1 := ⟨q1, e1, a2⟩
      have hK1 : ∀ o, SF w.heap.size b s.len cs K x2 y (w1.alloc o) := fun o => by
        obtain ⟨z1, ⟨_, _, z2, _, _, _⟩, ⟨_, z3, _, _, _, _⟩⟩ := CE.out _ (hb1.trans (((Below.refl w1.heap.size w1).alloc (Nat.le_refl _) o).mono hb1.size))
        exact ⟨z1, z3, z2⟩
      have HB1 := Lib.hid hb1
      have hwz1 := hb1.size
      have hK0d : SF w.heap.size b s.len cs K x2 y w1.drew := hK0
      have hK1d : ∀ o, SF w.heap.size b s.len cs K x2 y (w1.drew.alloc o) := fun o => hK1 o
      have hK2d : ∀ o, SF w.heap.size b s.len cs K x2 y (w1.alloc o).drew := fun o => hK1 o
      clear p0 p1 hw1e hb1
      go_wp2_with fail
      go_cut [6] (fun p wx => p = .pointer (some ⟨w1.heap.size, 0, none⟩) ∧ Hid (wx.heap[w1.heap.size]? = some (.cells #[.int .i64 x2, .int .i64 y] 59 (0, 0))) ∧ Hid (Below w1.heap.size w1 wx ∧ w1.heap.size < wx.heap.size))
      case first =>
        go_region_held3 (SF w.heap.size b s.len cs K x2 y)
          (first | with_reducible exact hK0 | with_reducible exact hK0d | with_reducible exact hK1 _ | with_reducible exact hK1d _ | with_reducible exact hK2d _ | exact hK1 _)
          (fail)
        all_goals (go_wp2_with fail; go_meet; exact ⟨rfl, heap_alloc_new w1 _, ⟨((Below.refl w1.heap.size w1).alloc (Nat.le_refl _) _).drew, by simp⟩⟩)
      obtain ⟨rfl, HM, HBX⟩ := hcut
      obtain ⟨w2, hw2e⟩ : ∃ z, wc = z := ⟨_, rfl⟩
      rw [hw2e] at HM HBX ⊢
      have HB2 := Lib.hid (HB1.out.trans (HBX.out.1.mono hwz1))
      have m0 : w2.cell? ⟨w1.heap.size, 0, none⟩ = some (.int .i64 x2) := (cell_of_block HM.out 0).trans rfl
      have m1 : w2.cell? ⟨w1.heap.size, 1, none⟩ = some (.int .i64 y) := (cell_of_block HM.out 1).trans rfl
      have hP2 := (HB2.out.block w.heap.size (by omega)).trans HWP.out
      have q0 : w2.cell? ⟨w.heap.size, 0, none⟩ = some (.slice At ts.length ct) := (cell_of_block hP2 0).trans rfl
      have q1 : w2.cell? ⟨w.heap.size, 1, none⟩ = some (.slice (some b) s.len cs) := (cell_of_block hP2 1).trans rfl
      have hfr : fwdR s K = s.splice (K + 1) (K + 1 + 1) (.cons 3 x2 y 0 .nil .nil .nil) := by unfold fwdR; rw [HDD.out]; rfl
      have HFR := Lib.hid hfr
      obtain ⟨D, hD⟩ : ∃ D, (fwdR s K).len = D := ⟨_, rfl⟩
      have HDL := Lib.hid hD
      have HWW : Hid (∀ (X : World) (g : Nat), Below W.heap.size W X → g < X.heap.size → X.heap[g]? = some (.cells #[.int .i64 3, .int .i64 x2, .int .i64 y, .int .i64 0, .slice none 0 0, .slice none 0 0] 53 (0, 0)) → Calls Try.prog 43 #[.agg #[.slice At ts.length ct, .slice (some b) s.len cs], .int .i64 ((K : Int) + 1), .int .i64 1, .slice (some ⟨g, 0, none⟩) 1 1] X fun E w' => ∃ (A A' : Option Addr) (c c' : Nat), E = .returned (.agg #[.slice A ts.length c, .slice A' D c']) ∧ ProgA w' X.heap.size ts (fwdR s K) (.agg #[.slice A ts.length c, .slice A' D c']) ∧ Below X.heap.size X w') := fun X g hX hg hXg => by
        have c0 : X.cell? ⟨g, 0, none⟩ = some (.int .i64 3) := (cell_of_block hXg 0).trans rfl
        have c1 : X.cell? ⟨g, 1, none⟩ = some (.int .i64 x2) := (cell_of_block hXg 1).trans rfl
        have c2 : X.cell? ⟨g, 2, none⟩ = some (.int .i64 y) := (cell_of_block hXg 2).trans rfl
        have c3 : X.cell? ⟨g, 3, none⟩ = some (.int .i64 0) := (cell_of_block hXg 3).trans rfl
        have c4 : X.cell? ⟨g, 4, none⟩ = some (.slice none 0 0) := (cell_of_block hXg 4).trans rfl
        have c5 : X.cell? ⟨g, 5, none⟩ = some (.slice none 0 0) := (cell_of_block hXg 5).trans rfl
        have hO : RepV X 0 X.heap.size (.cons 3 x2 y 0 .nil .nil .nil) (some ⟨g, 0, none⟩) 1 := ⟨Nat.le_refl _, by decide, fun _ => ⟨_, rfl, Nat.zero_le _, hg, ⟨c0, c1, c2, c3⟩, ⟨none, 0, c4, Nat.le_refl _, by decide, fun h => absurd h (by decide)⟩, ⟨none, 0, c5, Nat.le_refl _, by decide, fun h => absurd h (by decide)⟩, trivial⟩⟩
        have hw := withStmts_any ts s (.cons 3 x2 y 0 .nil .nil .nil) At (some b) (some ⟨g, 0, none⟩) ct cs 1 (K + 1) 1 X (by omega) (by omega) (by show 1 + Sts.nil.size + Sts.nil.size + Sts.nil.size ≤ 30000; decide) (by omega) (by omega) hO (HT.out.below hX hX.size) (HS.out.below hX hX.size)
        rw [← HFR.out, show (((K + 1 : Nat)) : Int) = (K : Int) + 1 from by omega] at hw
        refine Calls.mono hw ?_
        rintro E w' ⟨v, rfl, hA, hb⟩
        have hA2 := hA
        obtain ⟨A, A', c, c', lo, hi, rfl, _⟩ := hA
        rw [HDL.out] at hA2 ⊢
        exact ⟨A, A', c, c', rfl, hA2, hb⟩
      have hwz2 := HB2.out.size
      have hwz12 : w1.heap.size < w2.heap.size := HBX.out.2
      have hG0 : SG w.heap.size w1.heap.size (.slice At ts.length ct) (.slice (some b) s.len cs) x2 y w2 := ⟨q0, q1, m0, m1⟩
      have hG0d : SG w.heap.size w1.heap.size (.slice At ts.length ct) (.slice (some b) s.len cs) x2 y w2.drew := hG0
      have HMV : Hid (∀ X : World, Below w2.heap.size w2 X → Calls Try.prog 44 #[.agg #[.int .i64 x2, .int .i64 y]] X fun E w' => E = .returned (.agg #[.int .i64 3, .int .i64 x2, .int .i64 y, .int .i64 0, .slice none 0 0, .slice none 0 0]) ∧ Below w2.heap.size w2 w') := fun X hX => (plain_3 x2 y X).mono fun E w' h => ⟨h.1, hX.trans (h.2.mono hX.size)⟩
      clear hP2 hw2e hfr hD hK0 hK0d hK1 hK1d hK2d q0 q1 m0 m1
      go_wp2_with fail
      go_region_held3 (SG w.heap.size w1.heap.size (.slice At ts.length ct) (.slice (some b) s.len cs) x2 y)
        (first | with_reducible exact hG0 | with_reducible exact hG0d | with_reducible exact hG3 | with_reducible exact hG3d | with_reducible exact hG3a _ | with_reducible exact hG3b _ | with_reducible exact hG3c _ | with_reducible exact hG4 | with_reducible exact hG4d | with_reducible exact hG4s _ _ | exact hG4s _ _)
        (first
          | (go_at_call 44; refine (HMV.out _ ?hx).mono ?_; (case hx => first | exact Below.refl _ _ | exact (Below.refl _ _).drew); rintro E w3 ⟨rfl, hb3⟩; have hwz3 := hb3.size; have hG3 := sg_block hG0 (hb3.block _ (by omega)) (hb3.block _ hwz12); have hG3d : SG w.heap.size w1.heap.size (.slice At ts.length ct) (.slice (some b) s.len cs) x2 y w3.drew := hG3; have hG3a : ∀ o, SG w.heap.size w1.heap.size (.slice At ts.length ct) (.slice (some b) s.len cs) x2 y (w3.alloc o) := (fun o => sg_block hG3 (Below.heap_alloc _ _ _ (by omega)) (Below.heap_alloc _ _ _ (by omega))); have hG3b : ∀ o, SG w.heap.size w1.heap.size (.slice At ts.length ct) (.slice (some b) s.len cs) x2 y (w3.alloc o).drew := hG3a; have hG3c : ∀ o, SG w.heap.size w1.heap.size (.slice At ts.length ct) (.slice (some b) s.len cs) x2 y (w3.drew.alloc o) := hG3a; have hXb := Lib.hid ((HB2.out.trans (hb3.mono hwz2)).trans (((Below.refl w3.heap.size w3).alloc (Nat.le_refl _) (.cells #[.int .i64 3, .int .i64 x2, .int .i64 y, .int .i64 0, .slice none 0 0, .slice none 0 0] 53)).mono (Nat.le_trans hwz2 hwz3))))
          | (go_at_call 43; refine (HWW.out _ w3.heap.size ?hx ?hy ?hz).mono ?_; (case hx => first | exact hXb.out | exact hXb.out.drew); (case hy => simp); (case hz => exact heap_alloc_new w3 _); rintro E w4 ⟨A, A', c, c', rfl, hA, hb4⟩; have HB4 := Lib.hid (hXb.out.trans (hb4.mono (by simp; omega))); have hz4 := HB4.out.size; have hA := Lib.hid hA; have hb4 := Lib.hid hb4; have hR4 := Lib.hid ((HB4.out.block (w.heap.size + 1) (by omega)).trans HWR.out); have r0 : w4.cell? ⟨w.heap.size + 1, 0, none⟩ = some (.slice none 0 0) := (cell_of_block hR4.out 0).trans rfl; have r1 : w4.cell? ⟨w.heap.size + 1, 1, none⟩ = some (.slice none 0 0) := (cell_of_block hR4.out 1).trans rfl; have y0 := frozen_of_block hR4.out 0; have y1 := frozen_of_block hR4.out 1; have hG4 := sg_block hG3 (((hb4.out.block _ (by simp; omega))).trans (Below.heap_alloc _ _ _ (by omega))) ((hb4.out.block _ (by simp; omega)).trans (Below.heap_alloc _ _ _ (by omega))); have hG4d : SG w.heap.size w1.heap.size (.slice At ts.length ct) (.slice (some b) s.len cs) x2 y w4.drew := hG4; have hG4s : ∀ v v', SG w.heap.size w1.heap.size (.slice At ts.length ct) (.slice (some b) s.len cs) x2 y ((w4.setCell ⟨w.heap.size + 1, 0, none⟩ v).setCell ⟨w.heap.size + 1, 1, none⟩ v') := (fun v v' => sg_block hG4 ((Below.heap_setCell _ _ _ _ (by show w.heap.size ≠ w.heap.size + 1; omega)).trans (Below.heap_setCell _ _ _ _ (by show w.heap.size ≠ w.heap.size + 1; omega))) ((Below.heap_setCell _ _ _ _ (by show w1.heap.size ≠ w.heap.size + 1; omega)).trans (Below.heap_setCell _ _ _ _ (by show w1.heap.size ≠ w.heap.size + 1; omega))))))
      have hz3s : (w3.alloc (.cells #[.int .i64 3, .int .i64 x2, .int .i64 y, .int .i64 0, .slice none 0 0, .slice none 0 0] 53)).heap.size = w3.heap.size + 1 := by simp
      have HA := Lib.hid (ProgA.mono (hA.out.keep (w' := (w4.setCell ⟨w.heap.size + 1, 0, none⟩ (.slice A ts.length c)).setCell ⟨w.heap.size + 1, 1, none⟩ (.slice A' D c')) (by simp [World.setCell]) fun q q1 q2 => (Below.heap_setCell _ _ _ _ (by show q ≠ w.heap.size + 1; simp at q1; omega)).trans (Below.heap_setCell _ _ _ _ (by show q ≠ w.heap.size + 1; simp at q1; omega))) (show w.heap.size ≤ _ by simp; omega))
      have hB5 := Lib.hid ((((HBW.out.trans (HB4.out.mono (by omega)))).setCell (p := ⟨w.heap.size + 1, 0, none⟩) (by simp) (.slice A ts.length c)).setCell (p := ⟨w.heap.size + 1, 1, none⟩) (by simp) (.slice A' D c'))
      clear hA hb4 hR4 hG0 hG0d hG3 hG3d hG3a hG3b hG3c hG4 hG4d hG4s hz3s
      go_wp2_with fail
      exact bodyPost_ret (v := .tuple #[.agg #[.slice A ts.length c, .slice A' D c'], .bool true]) (by simp [results, Try.results14, go_sem, r0, r1]) rfl ⟨_, by rw [HD.out], by rw [HD.out]; unfold AnsP; rw [if_pos rfl]; exact HA.out, hB5.out⟩

end Go.Proofs.Ytcpmodkplikmcaa
