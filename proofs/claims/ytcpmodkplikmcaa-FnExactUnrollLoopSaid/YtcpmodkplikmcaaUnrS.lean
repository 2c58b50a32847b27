/-
  A loop that is unrolled once, as the model does it.
-/
import Derived.Test.YtcpmodkplikmcaaUnrI
import Derived.Test.YtcpmodkplikmcaaFldS
namespace Go.Proofs.Ytcpmodkplikmcaa
open Go.RowKit Go.Deep
set_option linter.unusedVariables false

theorem slice_mid {a : Addr} {n c k : Nat} (hk : k + 1 ≤ n) (hn : n ≤ c) (hc : c ≤ 9223372036854775807) (W : World) : (Instr.sliceAt 27 (.slice (some a) n c) (some (.int .i64 (k : Int))) (some (.int .i64 ((k : Int) + 1))) none).run Try.prog W = .ok (.slice (some (a.add (k * 6))) 1 (c - k)) W := by
  have he : Try.prog.elem 27 = 53 := by kernel_rfl
  have hz : (sizeOf 53).run Try.prog W = .ok 6 W := by first | exact Try.sizeOf53 W | simp [Try.sizeOf53] | kernel_rfl
  rw [run_sliceAt_slice W 27 _ _ _ _ (by kernel_rfl), run_slice_lh W 27 (some a) n c (by kernel_rfl) .i64 .i64 (k : Int) ((k : Int) + 1) (by omega) (by omega) (by omega), he, hz]
  have h1 : ¬ c = k := by omega
  have h2 : ((k : Int) + 1).toNat = k + 1 := by omega
  simp [sliced, h1, h2]

theorem unrOk_size {ts : List Int} {s : Sts} {k : Int} (h : unrOk ts s k = true) : (unrR s k.toNat).size ≤ 30 := by
  unfold unrOk at h
  simp only [Bool.and_eq_true] at h
  exact validB_size h.2

/-- What the region with the copies reads. -/
@[reducible] def SL (B : Nat) (p : Addr) (p1 c1 : Value) (X : World) : Prop := X.cell? ⟨B, 1, none⟩ = some p1 ∧ X.cell? ⟨p.block, p.off + 4, none⟩ = some c1

/-- A row of one's own, and one behind it. -/
theorem append_rows (Z : World) (B : Nat) (A5 A6 : Option Addr) (c5 c6 : Nat) (us1 us2 : List StR) (u : Sts) (hB : B ≤ Z.heap.size) (h1 : RowS Z B (.slice A5 us1.length c5) us1) (h2 : SrcR Z A6 c6 us2) (hl : us1.length + us2.length ≤ 2000000)
    (hf : ∀ w' : World, (∀ q, q < Z.heap.size → (Value.slice A5 us1.length c5).ownBlock ≠ some q → w'.heap[q]? = Z.heap[q]?) → ∀ r ∈ us2, RepV w' B Z.heap.size r.t r.At r.ct ∧ RepV w' B Z.heap.size r.e r.Ae r.ce) (hu : ofR (us1 ++ us2) = u) :
    ∃ (Av : Option Addr) (cv : Nat) (w' : World), (Builtin.append_ #[27, 27] 27 #[.slice A5 us1.length c5, .slice A6 us2.length c6]).run Try.prog Z = .ok (.slice Av u.len cv) w' ∧ RepV w' B w'.heap.size u Av cv ∧ Below B Z w' := by
  obtain ⟨v', w', hr, ho, hg, hat⟩ := run_append_stmts Z B (.slice A5 us1.length c5) us1 A6 c6 us2 h1.own h2 hl hB
  obtain ⟨Av, cv, rfl, o1, o2, o3⟩ := own_form ho
  have hle : (us1 ++ us2).length = u.len := by rw [← hu, ofR_len]
  have hblk : ∀ q, q < Z.heap.size → (Value.slice A5 us1.length c5).ownBlock ≠ some q → w'.heap[q]? = Z.heap[q]? := fun q q1 q2 => hg.block q q1 (fun e => q2 e.symm)
  have hsz := hg.size
  refine ⟨Av, cv, w', by rw [← hle]; exact hr, ⟨by rw [← hle]; exact o1, o2, fun h0 => ?_⟩, ⟨hg.os, hg.tape, hg.output, hg.size, fun q hq => hblk q (by omega) fun e => by have := (h1.own.lt q e).1; omega⟩⟩
  rw [← hle] at h0
  obtain ⟨g, rfl, g1, g2⟩ := o3 h0
  refine ⟨_, rfl, g1, g2, ?_⟩
  rw [← hu]
  refine rep_of_cells _ _ (fun j u hj => World.ownsRow.cells ho (g := g) rfl j u hj) fun r hr => ?_
  rcases List.mem_append.1 hr with hr | hr
  · exact ⟨((h1.firm r hr).1 w' fun k k1 k2 k3 => hblk k k2 k3).keep (Nat.le_refl _) hsz fun _ _ _ => rfl, ((h1.firm r hr).2 w' fun k k1 k2 k3 => hblk k k2 k3).keep (Nat.le_refl _) hsz fun _ _ _ => rfl⟩
  · exact ⟨(hf w' hblk r hr).1.keep (Nat.le_refl _) hsz fun _ _ _ => rfl, (hf w' hblk r hr).2.keep (Nat.le_refl _) hsz fun _ _ _ => rfl⟩

set_option maxRecDepth 100000 in
set_option maxHeartbeats 4000000 in
theorem specUnrollLoop_any (ts : List Int) (s : Sts) (At As : Option Addr) (ct cs : Nat) (k : Int) (w : World) (hsz : s.size ≤ 1048576) (hT : IntsV w 0 w.heap.size ts At ct) (hS : RepV w 0 w.heap.size s As cs) :
    Calls Try.prog 20 #[.agg #[.slice At ts.length ct, .slice As s.len cs], .int .i64 k] w fun E w' => ∃ v, E = .returned (.tuple #[v, .bool (unrOk ts s k)]) ∧ AnsS w' w.heap.size (unrOk ts s k) ts (unrR s k.toNat) v ∧ Below w.heap.size w w' := by
  obtain ⟨W, hW⟩ : ∃ W, (w.alloc (.cells #[.slice At ts.length ct, .slice As s.len cs] 29)).alloc (.cells #[.slice none 0 0, .slice none 0 0] 29) = W := ⟨_, rfl⟩
  have hbW : Below w.heap.size w W := by rw [← hW]; exact ((Below.refl _ _).alloc (Nat.le_refl _) _).alloc (by simp) _
  obtain ⟨hWP, hWR, hWz⟩ := heap2 w (.cells #[.slice At ts.length ct, .slice As s.len cs] 29) (.cells #[.slice none 0 0, .slice none 0 0] 29)
  rw [hW] at hWP hWR hWz
  have hv := specProgramValid_any ts s At As ct cs W hsz (hT.below hbW hbW.size) (hS.below hbW hbW.size)
  have HT := Lib.hid (hT.below hbW hbW.size)
  have HS := Lib.hid (hS.below hbW hbW.size)
  have HBW := Lib.hid hbW
  have HWP := Lib.hid hWP
  have HWR := Lib.hid hWR
  have p0 : W.cell? ⟨w.heap.size, 0, none⟩ = some (.slice At ts.length ct) := (cell_of_block hWP 0).trans rfl
  have p1 : W.cell? ⟨w.heap.size, 1, none⟩ = some (.slice As s.len cs) := (cell_of_block hWP 1).trans rfl
  have hcm := hS.2.1
  have hlc := hS.1
  unfold maxLen at hcm
  clear hT hS hbW hWP hWR
  go_enter Try.func20, Try.ntmps20
  go_wp2_with fail
  clear hW
  refine hv.mono ?_
  rintro E w1 ⟨rfl, hb1⟩
  have HB1 := Lib.hid (HBW.out.trans (hb1.mono (by omega)))
  have hP1 := (hb1.block w.heap.size (by omega)).trans HWP.out
  have hR1 := (hb1.block (w.heap.size + 1) (by omega)).trans HWR.out
  have q0 : w1.cell? ⟨w.heap.size, 0, none⟩ = some (.slice At ts.length ct) := (cell_of_block hP1 0).trans rfl
  have q1 : w1.cell? ⟨w.heap.size, 1, none⟩ = some (.slice As s.len cs) := (cell_of_block hP1 1).trans rfl
  have r0 : w1.cell? ⟨w.heap.size + 1, 0, none⟩ = some (.slice none 0 0) := (cell_of_block hR1 0).trans rfl
  have r1 : w1.cell? ⟨w.heap.size + 1, 1, none⟩ = some (.slice none 0 0) := (cell_of_block hR1 1).trans rfl
  have y0 := frozen_of_block hR1 0
  have y1 := frozen_of_block hR1 1
  have hwz := hb1.size
  have HR1 := Lib.hid hR1
  have HP1 := Lib.hid hP1
  have HT1 := Lib.hid (HT.out.below hb1 hwz)
  have HS1 := Lib.hid (HS.out.below hb1 hwz)
  have hno : Hid (∀ v, unrOk ts s k = false → v = Value.agg #[.slice none 0 0, .slice none 0 0] → ∀ w', AnsS w' w.heap.size (unrOk ts s k) ts (unrR s k.toNat) v) := fun v h hv w' => by unfold AnsS; rw [h, if_neg (by simp)]; exact hv
  have hBz := Lib.hid ((HB1.out.setCell (p := ⟨w.heap.size + 1, 0, none⟩) (by simp) (.slice none 0 0)).setCell (p := ⟨w.heap.size + 1, 1, none⟩) (by simp) (.slice none 0 0))
  clear hv hb1 hP1 hR1 p0 p1
  cases hvb : validB ts s
  · have hd : unrOk ts s k = false := by unfold unrOk hasB; rw [hvb]; rfl
    have HD := Lib.hid hd
    clear hd hvb HT1 HS1
    go_wp2_with fail
    exact bodyPost_ret (v := .tuple #[.agg #[.slice none 0 0, .slice none 0 0], .bool false]) (by simp [results, Try.results20, go_sem, r0, r1]) rfl ⟨_, by rw [HD.out], hno.out _ HD.out rfl _, hBz.out⟩
  by_cases hk0 : 0 ≤ k
  rotate_left
  · have hd : unrOk ts s k = false := by unfold unrOk hasB; rw [decide_eq_false hk0]; simp
    have HD := Lib.hid hd
    have hk2 : k < 0 := by omega
    clear hd hvb HT1 HS1
    go_wp2_with fail
    exact bodyPost_ret (v := .tuple #[.agg #[.slice none 0 0, .slice none 0 0], .bool false]) (by simp [results, Try.results20, go_sem, r0, r1]) rfl ⟨_, by rw [HD.out], hno.out _ HD.out rfl _, hBz.out⟩
  by_cases hk1 : k ≤ (s.len : Int) - 1
  rotate_left
  · have hd : unrOk ts s k = false := by unfold unrOk hasB; rw [decide_eq_false hk1]; simp
    have HD := Lib.hid hd
    have hk2 : (s.len : Int) ≤ k := by omega
    clear hd hvb HT1 HS1 hk1
    go_wp2_with fail
    exact bodyPost_ret (v := .tuple #[.agg #[.slice none 0 0, .slice none 0 0], .bool false]) (by simp [results, Try.results20, go_sem, r0, r1]) rfl ⟨_, by rw [HD.out], hno.out _ HD.out rfl _, hBz.out⟩
  have hhb : hasB ts s k 1 = true := by unfold hasB; rw [hvb, decide_eq_true hk0, decide_eq_true hk1]; rfl
  obtain ⟨K, rfl⟩ : ∃ K : Nat, k = (K : Int) := ⟨k.toNat, by omega⟩
  have hsize := validB_size hvb
  have htl := validB_types hvb
  obtain ⟨b, op, x, y, n, t, e, hAs, _, hbb, hd1, A1, c1, A2, c2, ⟨a0, a1, a2, a3, a4, a5⟩, hTT, hTE⟩ := HS1.out.elem (k := K) (by omega)
  have HTT := Lib.hid hTT
  have HTE := Lib.hid hTE
  subst hAs
  have hki0 : ¬ ((K : Int) < 0) := by omega
  have hki1 : (K : Int) < (s.len : Int) := by omega
  have hki2 : ¬ ((s.len : Int) ≤ (K : Int)) := by omega
  have hkw : IntKind.i64.wrap ((K : Int) + 1) = (K : Int) + 1 := by rw [IntKind.wrap_i64]; have := s.len_le_size; omega
  have hts : Hid (t.size < s.size ∧ e.size < s.size) := RepV.drop_sizes hd1
  have HDD := Lib.hid hd1
  have hfo : unrOk ts s (K : Int) = (decide (op = 10) && validB ts (unrR s K)) := by unfold unrOk; rw [hhb]; show ((true && unrS (s.drop K)) && _) = _; rw [hd1]; rfl
  have HFO := Lib.hid hfo
  have HBB : Hid ((b.add (K * 6)).block < w1.heap.size) := by show (b.add (K * 6)).block < w1.heap.size; rw [block_add]; exact hbb
  clear hd1 hfo hhb hk0 hk1 hvb hTT hTE hbb
  by_cases hop : op = 10
  rotate_left
  · have HD := Lib.hid (HFO.out.trans (show _ = false by rw [decide_eq_false hop]; rfl))
    have hbn : (op != 10) = true := by simp [hop]
    go_wp2_with fail
    exact bodyPost_ret (v := .tuple #[.agg #[.slice none 0 0, .slice none 0 0], .bool false]) (by simp [results, Try.results20, go_sem, r0, r1]) rfl ⟨_, by rw [HD.out], hno.out _ HD.out rfl _, hBz.out⟩
  subst hop
  have HFP := Lib.hid (HFO.out.trans (show (decide ((10 : Int) = 10) && validB ts (unrR s K)) = validB ts (unrR s K) from rfl))
  have hco := l1CopyOf_any ts s At (some b) ct cs w1 (by omega) (by omega) HT1.out HS1.out
  go_wp2_with fail
  refine hco.mono ?_
  rintro E w3 ⟨rs, A, A', c, c', B2, rfl, hI, hRS, hof, hb3, hB2a, hB2b, hsep⟩
  have hrl : rs.length = s.len := by rw [← hof, ofR_len]
  obtain ⟨A5, c5, he5, hlc5, hm5, h05⟩ := hRS.form
  injection he5 with e51 e52 e53
  subst e51 e53
  obtain ⟨g, rfl, hg0, hg1⟩ := h05 (by omega)
  have HRS := Lib.hid hRS
  rw [hrl] at hRS ⊢
  have hown0 := hRS.own
  rw [hrl] at hown0
  obtain ⟨W3, hW3⟩ : ∃ z, w3.alloc (.cells #[.slice A ts.length c, .slice (some ⟨g, 0, none⟩) s.len c'] 29) = z := ⟨_, rfl⟩
  have hba : Below w3.heap.size w3 W3 := by rw [← hW3]; exact (Below.refl _ _).alloc (Nat.le_refl _) _
  have hOB : W3.heap[w3.heap.size]? = some (.cells #[.slice A ts.length c, .slice (some ⟨g, 0, none⟩) s.len c'] 29 (0, 0)) := by rw [← hW3]; exact heap_alloc_new w3 _
  have hWz3 : w3.heap.size + 1 = W3.heap.size := by rw [← hW3]; simp
  have hz3 := hb3.size
  have hb13 : Below w1.heap.size w1 W3 := hb3.trans (hba.mono hz3)
  have hownW := own_below hown0 hba
  have HOWN := Lib.hid hownW
  have HOB := Lib.hid hOB
  have HB13 := Lib.hid hb13
  have HRL := Lib.hid hrl
  have HI := Lib.hid hI
  have HBA := Lib.hid hba
  have HB3 := Lib.hid hb3
  have HOF := Lib.hid hof
  have HSEP := Lib.hid hsep
  have hg9 : g < w3.heap.size := hg1
  -- the loop's list and the loop itself, as the model reads them
  have d0 := (hb13.cell (p := ⟨w.heap.size, 1, none⟩) (by show w.heap.size < _; omega)).trans q1
  have d4 := (hb13.cell (p := ⟨(b.add (K * 6)).block, (b.add (K * 6)).off + 4, none⟩) HBB.out).trans a4
  have hC1 : Hid (∀ X : World, Below W3.heap.size W3 X → Calls Try.prog 53 #[.slice A1 t.len c1] X (fun E w' => ∃ (rs : List StR) (A : Option Addr) (c : Nat), E = .returned (.slice A t.len c) ∧ RowS w' X.heap.size (.slice A rs.length c) rs ∧ ofR rs = t ∧ rs.length = t.len ∧ Below X.heap.size X w' ∧ Below W3.heap.size W3 w')) := fun X hX => by
    have hb := hb13.trans (hX.mono hb13.size)
    refine (l1Copy_any (t.size + 1) t A1 c1 X (by omega) (by have := hts.out; omega) (HTT.out.below hb hb.size)).mono ?_
    rintro E w' ⟨rs, A, c, rfl, h1, h2, h3⟩
    have hl : rs.length = t.len := by rw [← h2, ofR_len]
    exact ⟨rs, A, c, by rw [hl], h1, h2, hl, h3, hX.trans (h3.mono hX.size)⟩
  have hC2 : Hid (∀ X : World, Below W3.heap.size W3 X → Calls Try.prog 53 #[.slice (some (b.add (K * 6))) 1 (cs - K)] X (fun E w' => ∃ (rs : List StR) (A : Option Addr) (c : Nat), E = .returned (.slice A 1 c) ∧ RowS w' X.heap.size (.slice A rs.length c) rs ∧ ofR rs = (Sts.cons 10 x y n t e .nil) ∧ rs.length = 1 ∧ Below X.heap.size X w' ∧ Below W3.heap.size W3 w')) := fun X hX => by
    have hb := hb13.trans (hX.mono hb13.size)
    have h1 : ∀ o, X.cell? ⟨(b.add (K * 6)).block, o, none⟩ = w1.cell? ⟨(b.add (K * 6)).block, o, none⟩ := fun o => hb.cell (p := ⟨(b.add (K * 6)).block, o, none⟩) HBB.out
    have hM : RepV X 0 X.heap.size (Sts.cons 10 x y n t e .nil) (some (b.add (K * 6))) (cs - K) := ⟨by show 1 ≤ cs - K; omega, by unfold maxLen; omega, fun _ => ⟨_, rfl, Nat.zero_le _, Nat.lt_of_lt_of_le HBB.out hb.size, ⟨(hb.cell (p := b.add (K * 6)) HBB.out).trans a0, (h1 _).trans a1, (h1 _).trans a2, (h1 _).trans a3⟩, ⟨A1, c1, (h1 _).trans a4, HTT.out.below hb hb.size⟩, ⟨A2, c2, (h1 _).trans a5, HTE.out.below hb hb.size⟩, trivial⟩⟩
    have hz : (Sts.cons 10 x y n t e .nil).size ≤ 100000 := by
      have := hts.out
      show 1 + t.size + e.size + Sts.nil.size ≤ 100000
      simp only [Sts.size]
      omega
    refine (l1Copy_any _ (Sts.cons 10 x y n t e .nil) (some (b.add (K * 6))) (cs - K) X (Nat.lt_succ_self _) hz hM).mono ?_
    rintro E w' ⟨rs, A, c, rfl, h1, h2, h3⟩
    have hl : rs.length = 1 := by rw [← ofR_len, h2]; rfl
    exact ⟨rs, A, c, by rw [hl], h1, h2, hl, h3, hX.trans (h3.mono hX.size)⟩
  have hsm := fun X => slice_mid (a := b) (n := s.len) (c := cs) (k := K) (by omega) (by omega) (by omega) X
  have HTL : Hid (t.len ≤ 100000) := by show t.len ≤ 100000; have := hts.out; have := t.len_le_size; omega
  clear hco hI hRS hrl hof hb3 hsep hown0 hownW hba hOB hb13 q0 q1 r0 r1 y0 y1 hBz HT1 HS1 a0 a1 a2 a3 a4 a5 hlc5
  obtain ⟨L, hL⟩ : ∃ L, (t.app (Sts.cons 10 x y n t e .nil)).len = L := ⟨_, rfl⟩
  have HL := Lib.hid hL
  have hS0 : SL w.heap.size (b.add (K * 6)) (.slice (some b) s.len cs) (.slice A1 t.len c1) W3 := ⟨d0, d4⟩
  have hS0d : SL w.heap.size (b.add (K * 6)) (.slice (some b) s.len cs) (.slice A1 t.len c1) W3.drew := hS0
  have hSB : ∀ X : World, Below W3.heap.size W3 X → SL w.heap.size (b.add (K * 6)) (.slice (some b) s.len cs) (.slice A1 t.len c1) X := fun X hX => ⟨(hX.cell (by show w.heap.size < _; omega)).trans d0, (hX.cell (by show (b.add (K * 6)).block < _; have := HBB.out; omega)).trans d4⟩
  have HAP1 : Hid (∀ (w4 w5 : World) (us1 us2 : List StR) (A5 A6 : Option Addr) (c5 c6 : Nat), RowS w4 W3.heap.size (.slice A5 us1.length c5) us1 → RowS w5 w4.heap.size (.slice A6 us2.length c6) us2 → ofR us1 = t → ofR us2 = (Sts.cons 10 x y n t e .nil) → us1.length = t.len → us2.length = 1 → Below w4.heap.size w4 w5 → Below W3.heap.size W3 w5 → W3.heap.size ≤ w4.heap.size → ∃ (Av : Option Addr) (cv : Nat) (w' : World), (Builtin.append_ #[27, 27] 27 #[.slice A5 t.len c5, .slice A6 1 c6]).run Try.prog w5 = .ok (.slice Av L cv) w' ∧ RepV w' W3.heap.size w'.heap.size (t.app (Sts.cons 10 x y n t e .nil)) Av cv ∧ Below W3.heap.size W3 w') := fun w4 w5 us1 us2 A5 A6 c5 c6 hR1 hR2 ho1 ho2 hl1 hl2 hb5 hw5 hz4 => by
    obtain ⟨Av, cv, w6, hr, hR, hb⟩ := append_rows w5 W3.heap.size A5 A6 c5 c6 us1 us2 (t.app (Sts.cons 10 x y n t e .nil)) hw5.size (hR1.below hb5) (srcR_of_own hR2.own) (by rw [hl1, hl2]; have := HTL.out; omega) (fun w' H r hr => by
      have hk : ∀ k, w4.heap.size ≤ k → k < w5.heap.size → (Value.slice A6 us2.length c6).ownBlock ≠ some k → w'.heap[k]? = w5.heap[k]? := fun k k1 k2 _ => H k k2 fun e => by have := (hR1.own.lt k e).2; omega
      exact ⟨((hR2.firm r hr).1 w' hk).keep hz4 (Nat.le_refl _) fun _ _ _ => rfl, ((hR2.firm r hr).2 w' hk).keep hz4 (Nat.le_refl _) fun _ _ _ => rfl⟩) (by rw [ofR_append, ho1, ho2])
    rw [hl1, hl2, HL.out] at hr
    exact ⟨Av, cv, w6, hr, hR, hw5.trans hb⟩
  have HAP2 : Hid (∀ (w4 w5 : World) (us1 us2 : List StR) (A5 A6 : Option Addr) (c5 c6 : Nat), RowS w4 w5.heap.size (.slice A5 us1.length c5) us1 → RowS w5 W3.heap.size (.slice A6 us2.length c6) us2 → ofR us1 = t → ofR us2 = (Sts.cons 10 x y n t e .nil) → us1.length = t.len → us2.length = 1 → Below w5.heap.size w5 w4 → Below W3.heap.size W3 w4 → W3.heap.size ≤ w5.heap.size → ∃ (Av : Option Addr) (cv : Nat) (w' : World), (Builtin.append_ #[27, 27] 27 #[.slice A5 t.len c5, .slice A6 1 c6]).run Try.prog w4 = .ok (.slice Av L cv) w' ∧ RepV w' W3.heap.size w'.heap.size (t.app (Sts.cons 10 x y n t e .nil)) Av cv ∧ Below W3.heap.size W3 w') := fun w4 w5 us1 us2 A5 A6 c5 c6 hR1 hR2 ho1 ho2 hl1 hl2 hb4 hw4 hz5 => by
    have hz45 := hb4.size
    obtain ⟨Av, cv, w6, hr, hR, hb⟩ := append_rows w4 W3.heap.size A5 A6 c5 c6 us1 us2 (t.app (Sts.cons 10 x y n t e .nil)) hw4.size (hR1.mono hz5) ((srcR_of_own hR2.own).below hb4 (Nat.le_refl _)) (by rw [hl1, hl2]; have := HTL.out; omega) (fun w' H r hr => by
      have hk : ∀ k, W3.heap.size ≤ k → k < w5.heap.size → (Value.slice A6 us2.length c6).ownBlock ≠ some k → w'.heap[k]? = w5.heap[k]? := fun k k1 k2 _ => (H k (by omega) fun e => by have := (hR1.own.lt k e).1; omega).trans (hb4.block k k2)
      exact ⟨((hR2.firm r hr).1 w' hk).keep (Nat.le_refl _) hz45 fun _ _ _ => rfl, ((hR2.firm r hr).2 w' hk).keep (Nat.le_refl _) hz45 fun _ _ _ => rfl⟩) (by rw [ofR_append, ho1, ho2])
    rw [hl1, hl2, HL.out] at hr
    exact ⟨Av, cv, w6, hr, hR, hw4.trans hb⟩
  clear hL
  go_upto_region 4 with (fail)
  clear hW3
  go_cut [7] (fun v wx => ∃ (Av : Option Addr) (cv : Nat), v = .slice Av L cv ∧ Hid (RepV wx W3.heap.size wx.heap.size (t.app (Sts.cons 10 x y n t e .nil)) Av cv) ∧ Hid (Below W3.heap.size W3 wx))
  case first =>
    go_region_held3 (SL w.heap.size (b.add (K * 6)) (.slice (some b) s.len cs) (.slice A1 t.len c1))
      (first | with_reducible exact hS0 | with_reducible exact hS0d | with_reducible exact hSB _ hw5 | with_reducible exact hSB _ hw4 | with_reducible exact hSB _ hb6 | exact hSB _ hb6)
      (first
        | (go_at_call_of 53 (Value.slice A1 t.len c1); refine (hC1.out _ ?hx).mono ?_; (case hx => first | exact Below.refl _ _ | exact (Below.refl _ _).drew | exact hw5 | exact hw5.drew); rintro E w4 ⟨us1, A5, c5, rfl, hR1, ho1, hl1, hb4, hw4⟩)
        | (go_at_call_of 53 (Value.slice (some (b.add (K * 6))) 1 (cs - K)); refine (hC2.out _ ?hy).mono ?_; (case hy => first | exact Below.refl _ _ | exact (Below.refl _ _).drew | exact hw4 | exact hw4.drew); rintro E w5 ⟨us2, A6, c6, rfl, hR2, ho2, hl2, hb5, hw5⟩)
        | (obtain ⟨Av, cv, w6, hr6, hR6, hb6⟩ := HAP1.out w4 w5 us1 us2 A5 A6 c5 c6 hR1 hR2 ho1 ho2 hl1 hl2 hb5 hw5 hw4.size; refine step_append_run rfl _ _ rfl _ _ (by rfl) (by rfl) _ w6 hr6 ?_)
        | (obtain ⟨Av, cv, w6, hr6, hR6, hb6⟩ := HAP2.out w4 w5 us1 us2 A5 A6 c5 c6 hR1 hR2 ho1 ho2 hl1 hl2 hb4 hw4 hw5.size; refine step_append_run rfl _ _ rfl _ _ (by rfl) (by rfl) _ w6 hr6 ?_))
    all_goals (go_wp2_with fail; go_meet; exact ⟨Av, cv, rfl, hR6, hb6⟩)
  obtain ⟨Av, cv, rfl, HRB, HB4⟩ := hcut
  obtain ⟨w4, hw4e⟩ : ∃ z, wc = z := ⟨_, rfl⟩
  rw [hw4e] at HRB HB4 ⊢
  have hz4 := HB4.out.size
  have hownW := own_below HOWN.out HB4.out
  have hin : ∀ j, j < 6 → ∃ u, w4.cell? ⟨g, K * 6 + j, none⟩ = some u := fun j hj => by
    rw [hownW.cellAt _ (by omega)]
    exact ⟨_, List.getElem?_eq_getElem (by have h9 := hownW.1; rw [h9]; omega)⟩
  obtain ⟨u0, z0⟩ : ∃ u, w4.cell? ⟨g, K * 6, none⟩ = some u := hin 0 (by omega)
  obtain ⟨u1, z1⟩ := hin 1 (by omega)
  obtain ⟨u2, z2⟩ := hin 2 (by omega)
  obtain ⟨u3, z3⟩ := hin 3 (by omega)
  obtain ⟨u4, z4⟩ := hin 4 (by omega)
  obtain ⟨u5, z5⟩ := hin 5 (by omega)
  have f0 := hownW.frozenAt (K * 6)
  have f1 := hownW.frozenAt (K * 6 + 1)
  have f2 := hownW.frozenAt (K * 6 + 2)
  have f3 := hownW.frozenAt (K * 6 + 3)
  have f4 := hownW.frozenAt (K * 6 + 4)
  have f5 := hownW.frozenAt (K * 6 + 5)
  have hOB4 := (HB4.out.block w3.heap.size (by omega)).trans HOB.out
  have o0w : w4.cell? ⟨w3.heap.size, 0, none⟩ = some (.slice A ts.length c) := (cell_of_block hOB4 0).trans rfl
  have o1w : w4.cell? ⟨w3.heap.size, 1, none⟩ = some (.slice (some ⟨g, 0, none⟩) s.len c') := (cell_of_block hOB4 1).trans rfl
  have HOB4 := Lib.hid hOB4
  have HOWN4 := Lib.hid hownW
  clear hin hownW hOB4 hw4e
  obtain ⟨w5, hw5⟩ : ∃ z, ((((((w4.setCell ⟨g, K * 6, none⟩ (.int .i64 9)).setCell ⟨g, K * 6 + 1, none⟩ (.int .i64 0)).setCell ⟨g, K * 6 + 2, none⟩ (.int .i64 0)).setCell ⟨g, K * 6 + 3, none⟩ (.int .i64 0)).setCell ⟨g, K * 6 + 4, none⟩ (.slice Av L cv)).setCell ⟨g, K * 6 + 5, none⟩ (.slice none 0 0)) = z := ⟨_, rfl⟩
  have hone : One g w4 w5 := by rw [← hw5]; exact ((((((One.refl g w4).set _ _).set _ _).set _ _).set _ _).set _ _).set _ _
  have hown5 : w5.ownsRow B2 53 6 (.slice (some ⟨g, 0, none⟩) s.len c') s.len ((rs.set K (⟨9, 0, 0, 0, (t.app (Sts.cons 10 x y n t e .nil)), .nil, Av, cv, none, 0⟩ : StR)).flatMap StR.cells) := by
    have h1 := (((((HOWN4.out.stored' rfl (K * 6) (.int .i64 9)).stored' rfl (K * 6 + 1) (.int .i64 0)).stored' rfl (K * 6 + 2) (.int .i64 0)).stored' rfl (K * 6 + 3) (.int .i64 0)).stored' rfl (K * 6 + 4) (.slice Av L cv)).stored' rfl (K * 6 + 5) (.slice none 0 0)
    rw [hw5] at h1
    have h2 := flat_set rs K (⟨9, 0, 0, 0, (t.app (Sts.cons 10 x y n t e .nil)), .nil, Av, cv, none, 0⟩ : StR) (by rw [HRL.out]; omega)
    rw [← h2]
    show w5.ownsRow B2 53 6 _ s.len ((((((List.set _ _ _).set _ _).set _ _).set _ _).set _ (.slice Av (t.app (Sts.cons 10 x y n t e .nil)).len cv)).set _ _)
    rw [HL.out]
    exact h1
  have HW5 := Lib.hid hw5
  clear hw5
  have hz5 : w5.heap.size = w4.heap.size := hone.size
  have hfr : ofR (rs.set K (⟨9, 0, 0, 0, (t.app (Sts.cons 10 x y n t e .nil)), .nil, Av, cv, none, 0⟩ : StR)) = unrR s K := by
    rw [ofR_set rs K _ (by rw [HRL.out]; omega), HOF.out]
    unfold unrR
    rw [HDD.out]
    rfl
  have hfl : (unrR s K).len = s.len := by rw [← hfr, ofR_len, List.length_set, HRL.out]
  have hz45 : w3.heap.size ≤ w4.heap.size := by omega
  have hkeep : ∀ q, B2 ≤ q → q < w3.heap.size → (Value.slice (some ⟨g, 0, none⟩) rs.length c').ownBlock ≠ some q → w5.heap[q]? = w3.heap[q]? := fun q _ q2 q3 => (hone.block q (fun e => q3 (by rw [e]; rfl))).trans ((HB4.out.block q (by omega)).trans (HBA.out.block q q2))
  have hBD5 : RepV w5 B2 w5.heap.size (t.app (Sts.cons 10 x y n t e .nil)) Av cv := HRB.out.keep (by omega) (Nat.le_of_eq hz5.symm) fun p h1 h2 => World.cell?_of_block (w := w4) (hone.block p.block (by omega))
  have hR5 : RepV w5 B2 w5.heap.size (unrR s K) (some ⟨g, 0, none⟩) c' := by
    have hf5 := own_form hown5
    obtain ⟨_, _, he5, h51, h52, _⟩ := hf5
    injection he5 with e1 e2 e3
    subst e3
    refine ⟨by rw [hfl]; exact h51, h52, fun _ => ⟨_, rfl, hg0, by show g < _; omega, ?_⟩⟩
    rw [← hfr]
    refine rep_of_cells _ _ (fun j u hj => World.ownsRow.cells hown5 (g := g) rfl j u hj) fun r hr => ?_
    rcases List.mem_or_eq_of_mem_set hr with hr2 | rfl
    · exact ⟨((HRS.out.firm r hr2).1 w5 hkeep).keep (Nat.le_refl _) (by omega) fun _ _ _ => rfl, ((HRS.out.firm r hr2).2 w5 hkeep).keep (Nat.le_refl _) (by omega) fun _ _ _ => rfl⟩
    · exact ⟨hBD5, ⟨Nat.le_refl _, Nat.zero_le _, fun h => absurd h (by show ¬ 0 < 0; omega)⟩⟩
  have hI5 : IntsV w5 w1.heap.size w5.heap.size ts A c := by
    have h1 : RowI w5 w1.heap.size (.slice A ts.length c) ts := HI.out.keep fun q hq => by
      have h9 := HSEP.out q hq
      exact (hone.block q (by omega)).trans ((HB4.out.block q (by omega)).trans (HBA.out.block q (by omega)))
    exact h1.intsLo
  have hb5 : Below w1.heap.size w1 w5 := HB13.out.trans ((HB4.out.mono HB13.out.size).trans ((hone.below hg0).mono hB2a))
  have hO5 := (hone.block w3.heap.size (by omega)).trans HOB4.out
  have o0 : w5.cell? ⟨w3.heap.size, 0, none⟩ = some (.slice A ts.length c) := (cell_of_block hO5 0).trans rfl
  have o1 : w5.cell? ⟨w3.heap.size, 1, none⟩ = some (.slice (some ⟨g, 0, none⟩) s.len c') := (cell_of_block hO5 1).trans rfl
  have HO5 := Lib.hid hO5
  have hvs : (unrR s K).size ≤ 1048576 := by
    have h1 := s.splice_size (unrM (s.drop K)) K (K + 1)
    have h2 := hts.out
    unfold unrR
    rw [HDD.out] at h1 ⊢
    have h3 : (unrM (.cons 10 x y n t e (s.drop (K + 1)))).size = 1 + (t.app (Sts.cons 10 x y n t e .nil)).size + Sts.nil.size + Sts.nil.size := rfl
    have h4 : (Sts.cons 10 x y n t e .nil).size = 1 + t.size + e.size + Sts.nil.size := rfl
    rw [h3, Sts.app_size, h4] at h1
    simp only [Sts.size] at h1
    omega
  have hv2 := specProgramValid_any ts (unrR s K) A (some ⟨g, 0, none⟩) c c' w5 hvs (hI5.keep (Nat.zero_le _) (Nat.le_refl _) fun _ _ _ => rfl) (hR5.keep (Nat.zero_le _) (Nat.le_refl _) fun _ _ _ => rfl)
  rw [hfl] at hv2
  have HI5 := Lib.hid hI5
  have HR5 := Lib.hid hR5
  have HB5 := Lib.hid hb5
  have HFL := Lib.hid hfl
  clear hone hown5 hfr hfl hkeep hR5 hI5 hb5 hO5 hBD5 hvs
  go_upto_region 6 with (fail)
  rw [HW5.out]
  clear z0 z1 z2 z3 z4 z5 f0 f1 f2 f3 f4 f5 o0w o1w HW5
  go_wp2_with fail
  refine hv2.mono ?_
  rintro E w6 ⟨rfl, hb6⟩
  have hz6 := hb6.size
  have HB6 := Lib.hid (HB5.out.trans (hb6.mono HB5.out.size))
  have hO6 := (hb6.block w3.heap.size (by omega)).trans HO5.out
  have o0' : w6.cell? ⟨w3.heap.size, 0, none⟩ = some (.slice A ts.length c) := (cell_of_block hO6 0).trans rfl
  have o1' : w6.cell? ⟨w3.heap.size, 1, none⟩ = some (.slice (some ⟨g, 0, none⟩) s.len c') := (cell_of_block hO6 1).trans rfl
  have hR6 := (HB6.out.block (w.heap.size + 1) (by omega)).trans HR1.out
  have r0 : w6.cell? ⟨w.heap.size + 1, 0, none⟩ = some (.slice none 0 0) := (cell_of_block hR6 0).trans rfl
  have r1 : w6.cell? ⟨w.heap.size + 1, 1, none⟩ = some (.slice none 0 0) := (cell_of_block hR6 1).trans rfl
  have y0 := frozen_of_block hR6 0
  have y1 := frozen_of_block hR6 1
  have HBf : Hid (∀ v v', Below w.heap.size w ((w6.setCell ⟨w.heap.size + 1, 0, none⟩ v).setCell ⟨w.heap.size + 1, 1, none⟩ v')) := fun v v' => ((HB1.out.trans (HB6.out.mono (by omega))).setCell (p := ⟨w.heap.size + 1, 0, none⟩) (by simp) v).setCell (p := ⟨w.heap.size + 1, 1, none⟩) (by simp) v'
  have HI6 := Lib.hid (HI5.out.keep (lo' := w1.heap.size) (hi' := w6.heap.size) (Nat.le_refl _) hz6 fun p _ h2 => hb6.cell h2)
  have HR6 := Lib.hid (HR5.out.keep (lo' := B2) (hi' := w6.heap.size) (Nat.le_refl _) hz6 fun p _ h2 => hb6.cell h2)
  clear hb6 hO6 hR6 hv2 o0 o1
  cases hvr : validB ts (unrR s K)
  · have HD := Lib.hid (HFP.out.trans hvr)
    have hBz := Lib.hid (HBf.out (.slice none 0 0) (.slice none 0 0))
    clear hvr
    go_wp2_with fail
    exact bodyPost_ret (v := .tuple #[.agg #[.slice none 0 0, .slice none 0 0], .bool false]) (by simp [results, Try.results20, go_sem, r0, r1]) rfl ⟨_, by rw [HD.out], hno.out _ HD.out rfl _, hBz.out⟩
  · have HD := Lib.hid (HFP.out.trans hvr)
    clear hvr
    have hkp : ∀ p : Addr, w1.heap.size ≤ p.block → ((w6.setCell ⟨w.heap.size + 1, 0, none⟩ (.slice A ts.length c)).setCell ⟨w.heap.size + 1, 1, none⟩ (.slice (some ⟨g, 0, none⟩) s.len c')).cell? p = w6.cell? p := fun p hp =>
      (World.cell?_setCell_other _ _ _ _ (fun e => by have h9 : w.heap.size + 1 = p.block := congrArg Addr.block e; omega)).trans (World.cell?_setCell_other _ _ _ _ (fun e => by have h9 : w.heap.size + 1 = p.block := congrArg Addr.block e; omega))
    have HI7 := Lib.hid (HI6.out.keep (lo' := w.heap.size) (hi' := ((w6.setCell ⟨w.heap.size + 1, 0, none⟩ (.slice A ts.length c)).setCell ⟨w.heap.size + 1, 1, none⟩ (.slice (some ⟨g, 0, none⟩) s.len c')).heap.size) (by omega) (by simp [World.setCell]) fun p hp _ => hkp p hp)
    have HR7 := Lib.hid (HR6.out.keep (lo' := w.heap.size) (hi' := ((w6.setCell ⟨w.heap.size + 1, 0, none⟩ (.slice A ts.length c)).setCell ⟨w.heap.size + 1, 1, none⟩ (.slice (some ⟨g, 0, none⟩) s.len c')).heap.size) (by omega) (by simp [World.setCell]) fun p hp _ => hkp p (by omega))
    have HB7 := Lib.hid (HBf.out (.slice A ts.length c) (.slice (some ⟨g, 0, none⟩) s.len c'))
    clear hkp
    go_wp2_with fail
    exact bodyPost_ret (v := .tuple #[.agg #[.slice A ts.length c, .slice (some ⟨g, 0, none⟩) s.len c'], .bool true]) (by simp [results, Try.results20, go_sem, r0, r1]) rfl ⟨_, by rw [HD.out], by rw [HD.out]; unfold AnsS; rw [if_pos rfl]; exact ⟨A, _, c, c', by rw [show ((K : Int)).toNat = K from rfl, HFL.out], HI7.out, HR7.out⟩, HB7.out⟩

end Go.Proofs.Ytcpmodkplikmcaa
