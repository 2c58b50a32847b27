/-
  The visit of all parts of a statement: each variable is marked.
-/
import Derived.Test.YtfjfbooiegjplaaPart
namespace Go.Proofs.Ytfjfbooiegjplaa
open Go.RowKit Go.Deep
set_option linter.unusedVariables false

/-- What holds between two rounds: places that are still to be visited, places that were met, flags. -/
structure EachI (wb wr : World) (lo hi B g H : Nat) (ft : TypeId) (R : Nat → Bool) (root : Addr) (v : Value) (qs : List PN) (ks : List Addr) (F : Nat → Bool) : Prop where
  row : RowP wr B v (qs.map PN.a)
  set : PSet kvP wr g ks
  flags : FlagsAt wr H ft F
  keeps : Keeps (fun k => k < B ∧ k ≠ g ∧ k ≠ H) wb wr
  todo : ∀ q ∈ qs, NodeAt wb lo hi q ∧ Plain wb q.a.block ∧ q.a.block < B ∧ q.a.block ≠ H ∧ q.a.block ≠ g ∧ ∀ v, q.vars v = true → R v = true
  sound : ∀ v, v < 6 → F v = true → R v = true
  met : ∀ k ∈ ks, Plain wb k.block ∧ lo ≤ k.block ∧ k.block < hi
  acc : ∀ k, k ∈ ks ∨ k = root → k ∈ qs.map PN.a ∨ Acc wb F ks k

theorem EachI.step {wb wr w3 : World} {lo hi B g H : Nat} {ft : TypeId} {R : Nat → Bool} {root : Addr} {v v3 : Value} {qs0 : List PN} {q : PN} {ks l1 l2 : List Addr} {F : Nat → Bool} (h : EachI wb wr lo hi B g H ft R root v (qs0 ++ [q]) ks F)
    (e1 : l1 = addN ks (elsA q.At q.t.len)) (e2 : l2 = addN (ks ++ l1) (elsA q.Ae q.e.len)) (row : RowP w3 B v3 ((qs0.map PN.a ++ l1) ++ l2)) (set : PSet kvP w3 g ((ks ++ l1) ++ l2)) (flags : FlagsAt w3 H ft fun v => F v || ownB q.op q.x q.y v)
    (keeps : Keeps (fun k => k < B ∧ k ≠ g ∧ k ≠ H) wb w3) (hsoft : ∀ p : Addr, lo ≤ p.block → p.block < hi → ∀ o, wb.frozen? ⟨p.block, o, none⟩ = false) (hhi : hi ≤ H) (hHg : H < g) (hgB : g < B) :
    ∃ qs3, EachI wb w3 lo hi B g H ft R root v3 qs3 ((ks ++ l1) ++ l2) (fun v => F v || ownB q.op q.x q.y v) ∧ sumP qs3 + 1 ≤ sumP (qs0 ++ [q]) := by
  obtain ⟨hNq, hPq, hBq, hHq, hgq, hRq⟩ := h.todo q (by simp)
  obtain ⟨qt, t1, t2, t3, t4⟩ := nodes_of hNq.2.1
  obtain ⟨qe, u1, u2, u3, u4⟩ := nodes_of hNq.2.2
  have s1 := addN_sublist ks (elsA q.At q.t.len)
  have s2 := addN_sublist (ks ++ l1) (elsA q.Ae q.e.len)
  rw [← e1, ← t1] at s1
  rw [← e2, ← u1] at s2
  obtain ⟨qt', t5, t6⟩ := nodes_sub s1
  obtain ⟨qe', u5, u6⟩ := nodes_sub s2
  have hm1 : ∀ x, x ∈ ks ++ l1 ↔ x ∈ ks ∨ x ∈ elsA q.At q.t.len := fun x => by rw [e1]; exact mem_addN _ _ _
  have hm2 : ∀ x, x ∈ (ks ++ l1) ++ l2 ↔ x ∈ ks ++ l1 ∨ x ∈ elsA q.Ae q.e.len := fun x => by rw [e2]; exact mem_addN _ _ _
  have hnew : ∀ r, r ∈ qt ∨ r ∈ qe → NodeAt wb lo hi r ∧ Plain wb r.a.block ∧ lo ≤ r.a.block ∧ r.a.block < hi := fun r hr => by
    have : NodeAt wb lo hi r ∧ lo ≤ r.a.block ∧ r.a.block < hi := by
      rcases hr with hr | hr
      · exact t2 r hr
      · exact u2 r hr
    exact ⟨this.1, plain_of_cell this.1.1.1 (hsoft r.a this.2.1 this.2.2), this.2.1, this.2.2⟩
  have hFm : ∀ v, v < 6 → F v = true → (F v || ownB q.op q.x q.y v) = true := fun v _ h => by rw [h, Bool.true_or]
  refine ⟨(qs0 ++ qt') ++ qe', ⟨?_, set, flags, keeps, ?_, ?_, ?_, ?_⟩, ?_⟩
  · rw [List.map_append, List.map_append, t6, u6]
    exact row
  · intro r hr
    have hnw : r ∈ qt ∨ r ∈ qe → NodeAt wb lo hi r ∧ Plain wb r.a.block ∧ r.a.block < B ∧ r.a.block ≠ H ∧ r.a.block ≠ g ∧ ∀ v, r.vars v = true → R v = true := fun hr => by
      obtain ⟨a1, a2, a3, a4⟩ := hnew r hr
      refine ⟨a1, a2, by omega, by omega, by omega, fun v hv => hRq v ?_⟩
      unfold PN.vars
      rcases hr with hr | hr
      · rw [t3 r hr v hv, Bool.or_true, Bool.true_or]
      · rw [u3 r hr v hv, Bool.or_true]
    rcases List.mem_append.1 hr with hr | hr
    · rcases List.mem_append.1 hr with hr | hr
      · exact h.todo r (by simp [hr])
      · exact hnw (.inl (t5.subset hr))
    · exact hnw (.inr (u5.subset hr))
  · intro v hv hf
    rcases Bool.or_eq_true _ _ ▸ hf with hf | hf
    · exact h.sound v hv hf
    · refine hRq v ?_
      unfold PN.vars
      rw [hf, Bool.true_or, Bool.true_or]
  · intro k hk
    rcases (hm2 k).1 hk with hk | hk
    · rcases (hm1 k).1 hk with hk | hk
      · exact h.met k hk
      · rw [← t1] at hk
        obtain ⟨r, hr, rfl⟩ := List.mem_map.1 hk
        exact (hnew r (.inl hr)).2
    · rw [← u1] at hk
      obtain ⟨r, hr, rfl⟩ := List.mem_map.1 hk
      exact (hnew r (.inr hr)).2
  · intro k hk
    have hcase : (k ∈ ks ∨ k = root) ∨ k ∈ l1 ∨ k ∈ l2 := by
      rcases hk with hk | hk
      · rcases List.mem_append.1 hk with hk | hk
        · rcases List.mem_append.1 hk with hk | hk
          · exact .inl (.inl hk)
          · exact .inr (.inl hk)
        · exact .inr (.inr hk)
      · exact .inl (.inr hk)
    rw [List.map_append, List.map_append, t6, u6]
    rcases hcase with hk | hk | hk
    · rcases h.acc k hk with hp | hp
      · rw [List.map_append, List.mem_append] at hp
        rcases hp with hp | hp
        · exact .inl (by simp [hp])
        · rw [List.map_singleton, List.mem_singleton] at hp
          subst hp
          exact .inr (Acc.of_node hNq (fun v _ h => by rw [h, Bool.or_true]) (fun a ha => (hm2 a).2 (.inl ((hm1 a).2 (.inr ha)))) fun a ha => (hm2 a).2 (.inr ha))
      · exact .inr (hp.mono hFm fun a ha => by simp [ha])
    · exact .inl (by simp [hk])
    · exact .inl (by simp [hk])
  · rw [sumP_append, sumP_append, sumP_append]
    have b1 := sumP_sublist t5
    have b2 := sumP_sublist u5
    simp only [sumP, PN.sz]
    omega

theorem exists_least (p : Nat → Prop) : ∀ n, p n → ∃ k, p k ∧ ∀ m, p m → k ≤ m := by
  intro n
  induction n using Nat.strongRecOn with
  | ind n ih =>
    intro hn
    by_cases h : ∃ m, m < n ∧ p m
    · obtain ⟨m, h1, h2⟩ := h
      exact ih m h1 h2
    · exact ⟨n, hn, fun m hm => Nat.le_of_not_lt fun hlt => h ⟨m, hlt, hm⟩⟩

open Classical in
/-- The least number of which p holds. -/
noncomputable def leastN (p : Nat → Prop) : Nat := if h : ∃ n, p n then (exists_least p h.choose h.choose_spec).choose else 0

theorem leastN_spec {p : Nat → Prop} {n : Nat} (h : p n) : p (leastN p) ∧ leastN p ≤ n := by
  have hx : ∃ n, p n := ⟨n, h⟩
  unfold leastN
  rw [dif_pos hx]
  have := (exists_least p hx.choose hx.choose_spec).choose_spec
  exact ⟨this.1, this.2 n h⟩

/-- How much is still to be visited. -/
def EachN (wb wr : World) (lo hi B g H : Nat) (ft : TypeId) (R : Nat → Bool) (root : Addr) (v : Value) (N : Nat) : Prop := ∃ qs ks F, EachI wb wr lo hi B g H ft R root v qs ks F ∧ sumP qs = N

set_option maxRecDepth 100000 in
set_option maxHeartbeats 4000000 in
theorem eachPart_any (op x y n : Int) (t e : Sts) (At Ae : Option Addr) (ct ce lo hi H : Nat) (ft : TypeId) (w : World) (hT : RepV w lo hi t At ct) (hE : RepV w lo hi e Ae ce) (hH : hi ≤ H) (hHw : H < w.heap.size)
    (hF : FlagsAt w H ft fun _ => false) (hsoft : ∀ p : Addr, lo ≤ p.block → p.block < hi → w.frozen? p = false) (hsz : 1 + t.size + e.size ≤ 1500000) :
    Calls Try.prog 34 #[.agg #[.int .i64 op, .int .i64 x, .int .i64 y, .int .i64 n, .slice At t.len ct, .slice Ae e.len ce], .func (.func 35) #[] #[.pointer (some ⟨H, 0, none⟩)]] w fun E w' =>
      E = .returned (.tuple #[]) ∧ FlagsAt w' H ft (fun v => ownB op x y v || varS t v || varS e v) ∧ Keeps (fun k => k < w.heap.size ∧ k ≠ H) w w' := by
  have hmm := @run_makeMap Try.prog
  go_enter Try.func34, Try.ntmps34
  go_wp2_with fail
  obtain ⟨wb, hwb⟩ : ∃ z, ((w.alloc (.cells #[.int .i64 op, .int .i64 x, .int .i64 y, .int .i64 n, .slice At t.len ct, .slice Ae e.len ce] 30)).alloc (.map #[] 0)).alloc (.cells #[.pointer (some ⟨w.heap.size, 0, none⟩)] 62) = z := ⟨_, rfl⟩
  have hroot : wb.heap[w.heap.size]? = some (.cells #[.int .i64 op, .int .i64 x, .int .i64 y, .int .i64 n, .slice At t.len ct, .slice Ae e.len ce] 30 (0, 0)) := by
    rw [← hwb]; exact (heap3 w _ _ _).1
  have hmap : wb.heap[w.heap.size + 1]? = some (.map #[] 0) := by rw [← hwb]; exact (heap3 w _ _ _).2.1
  have hrow : wb.heap[w.heap.size + 2]? = some (.cells #[.pointer (some ⟨w.heap.size, 0, none⟩)] 62 (0, 0)) := by rw [← hwb]; exact (heap3 w _ _ _).2.2.1
  have hwz : wb.heap.size = w.heap.size + 3 := by rw [← hwb]; exact (heap3 w _ _ _).2.2.2
  have hbw : Below w.heap.size w wb := by rw [← hwb]; exact (((Below.refl _ _).alloc (Nat.le_refl _) _).alloc (by simp) _).alloc (by simp; omega) _
  have hrw : RowP wb (w.heap.size + 2) (.slice (some ⟨w.heap.size + 2, 0, none⟩) 1 1) [⟨w.heap.size, 0, none⟩] := by
    rw [← hwb]
    have := World.ownsRow_lit (base := w.heap.size + 2) (e := 62) (size := 1) ((w.alloc (.cells #[.int .i64 op, .int .i64 x, .int .i64 y, .int .i64 n, .slice At t.len ct, .slice Ae e.len ce] 30)).alloc (.map #[] 0)) #[.pointer (some ⟨w.heap.size, 0, none⟩)] 1 (by simp) (by simp [maxLen]) rfl
    have hz : ((w.alloc (.cells #[.int .i64 op, .int .i64 x, .int .i64 y, .int .i64 n, .slice At t.len ct, .slice Ae e.len ce] 30)).alloc (.map #[] 0)).heap.size = w.heap.size + 2 := by simp
    rw [hz] at this
    exact this
  have hIst : EachI wb wb lo hi (w.heap.size + 2) (w.heap.size + 1) H ft (fun v => ownB op x y v || varS t v || varS e v) ⟨w.heap.size, 0, none⟩ (.slice (some ⟨w.heap.size + 2, 0, none⟩) 1 1) [⟨⟨w.heap.size, 0, none⟩, op, x, y, n, t, e, At, ct, Ae, ce⟩] [] (fun _ => false) := by
    refine ⟨hrw, ⟨#[], 0, hmap, rfl, by simp⟩, (hbw.block H hHw).trans hF, Keeps.refl _ _, ?_, fun v _ h => (by cases h), fun k hk => (by cases hk), fun k hk => ?_⟩
    · intro q hq
      rw [List.mem_singleton] at hq
      subst hq
      refine ⟨⟨⟨(cell_of_block hroot 0).trans rfl, (cell_of_block hroot 1).trans rfl, (cell_of_block hroot 2).trans rfl, (cell_of_block hroot 3).trans rfl, (cell_of_block hroot 4).trans rfl, (cell_of_block hroot 5).trans rfl⟩, hT.keep (Nat.le_refl _) (Nat.le_refl _) fun p _ hp => hbw.cell (by omega), hE.keep (Nat.le_refl _) (Nat.le_refl _) fun p _ hp => hbw.cell (by omega)⟩, ⟨_, _, _, hroot, fun o => frozen_of_block hroot o⟩, by simp, by simp; omega, by simp, fun v h => h⟩
    · rcases hk with hk | rfl
      · cases hk
      · exact .inl (by simp)
  have HST : Hid (EachN wb wb lo hi (w.heap.size + 2) (w.heap.size + 1) H ft (fun v => ownB op x y v || varS t v || varS e v) ⟨w.heap.size, 0, none⟩ (.slice (some ⟨w.heap.size + 2, 0, none⟩) 1 1) (1 + t.size + e.size)) := ⟨_, _, _, hIst, rfl⟩
  have HSOFT : Hid (∀ p : Addr, lo ≤ p.block → p.block < hi → ∀ o, wb.frozen? ⟨p.block, o, none⟩ = false) := fun p h1 h2 o => (hbw.frozen (p := ⟨p.block, o, none⟩) (by show p.block < w.heap.size; omega)).trans (hsoft ⟨p.block, o, none⟩ h1 h2)
  have HTE : Hid (RepV wb lo hi t At ct ∧ RepV wb lo hi e Ae ce) := ⟨hT.keep (Nat.le_refl _) (Nat.le_refl _) fun p _ hp => hbw.cell (by omega), hE.keep (Nat.le_refl _) (Nat.le_refl _) fun p _ hp => hbw.cell (by omega)⟩
  have HRT := Lib.hid hroot
  have HBW := Lib.hid hbw
  obtain ⟨R, hR⟩ : ∃ R : Nat → Bool, (fun v => ownB op x y v || varS t v || varS e v) = R := ⟨_, rfl⟩
  rw [hR] at HST
  have HR := Lib.hid hR
  rw [hwb]
  clear hrw hIst hroot hmap hrow hwb hT hE hF hsoft hbw hR
  go_loopw [5] (fun v wr => ∃ N, N ≤ 1 + t.size + e.size ∧ EachN wb wr lo hi (w.heap.size + 2) (w.heap.size + 1) H ft R ⟨w.heap.size, 0, none⟩ v N) (fun v wr => leastN (EachN wb wr lo hi (w.heap.size + 2) (w.heap.size + 1) H ft R ⟨w.heap.size, 0, none⟩ v))
  case atStart => exact ⟨_, Nat.le_refl _, HST.out⟩
  case round =>
    clear HST
    obtain ⟨N0, hN0, hN1⟩ := hrel
    obtain ⟨⟨qs, ks, F, hI, hN⟩, hle⟩ := leastN_spec hN1
    have hlen : qs.length ≤ 1500000 := by have := len_le_sumP qs; omega
    have hsum : Hid (sumP qs ≤ 1 + t.size + e.size) := by unfold Hid; omega
    have HN := Lib.hid hN
    clear hN hle hN1 hN0
    by_cases hqs : qs = []
    · subst hqs
      have HI := Lib.hid hI
      obtain ⟨A, c, hv, _⟩ := hI.row.form
      have hv2 : u5 = .slice A 0 c := hv
      have HV := Lib.hid hv2
      subst hv2
      clear hI hv
      go_wp2_with fail
      go_end0
      have hacc : ∀ k, k ∈ ks ∨ k = ⟨w.heap.size, 0, none⟩ → Acc wb F ks k := fun k hk => by
        rcases HI.out.acc k hk with h | h
        · cases h
        · exact h
      have hks : ∀ k ∈ ks, Acc wb F ks k := fun k hk => hacc k (.inl hk)
      refine ⟨rfl, HI.out.flags.congr fun v hv => ?_, ?_⟩
      · show F v = (fun v => ownB op x y v || varS t v || varS e v) v
        rw [HR.out]
        cases hb : F v
        · cases hr : R v
          · rfl
          · exfalso
            obtain ⟨op', x', y', At', nt, ct', Ae', ne, ce', k0, k1, k2, k3, k4, k5, k6, k7⟩ := hacc _ (.inr rfl)
            have e0 := ((cell_of_block HRT.out 0).trans rfl).symm.trans k0
            have e1 := ((cell_of_block HRT.out 1).trans rfl).symm.trans k1
            have e2 := ((cell_of_block HRT.out 2).trans rfl).symm.trans k2
            have e3 := ((cell_of_block HRT.out 4).trans rfl).symm.trans k3
            have e4 := ((cell_of_block HRT.out 5).trans rfl).symm.trans k4
            simp at e0 e1 e2 e3 e4
            obtain ⟨rfl, rfl, rfl⟩ := e3
            obtain ⟨rfl, rfl, rfl⟩ := e4
            subst e0 e1 e2
            rw [← HR.out] at hr
            simp only [Bool.or_eq_true] at hr
            rcases hr with (h | h) | h
            · rw [k5 v hv h] at hb; cases hb
            · rw [acc_repV hks HTE.out.1 k6 v hv h] at hb; cases hb
            · rw [acc_repV hks HTE.out.2 k7 v hv h] at hb; cases hb
        · exact (HI.out.sound v hv hb).symm
      · exact ⟨HI.out.keeps.os.trans HBW.out.os, HI.out.keeps.tape.trans HBW.out.tape, HI.out.keeps.output.trans HBW.out.output, by have := HI.out.keeps.size; omega, fun k hk => (HI.out.keeps.block k ⟨by omega, by omega, hk.2⟩).trans (HBW.out.block k hk.1)⟩
    · obtain ⟨qs0, q, rfl⟩ : ∃ qs0 q, qs = qs0 ++ [q] := ⟨qs.dropLast, qs.getLast hqs, (List.dropLast_concat_getLast hqs).symm⟩
      obtain ⟨A, c, hv, hlc, hcm, _⟩ := hI.row.form
      rw [List.map_append, List.length_append, List.length_map] at hv
      have hv1 : u5 = .slice A (qs0.length + 1) c := hv
      rw [List.length_append, List.length_cons, List.length_nil] at hlen
      subst hv1
      have hrow2 : RowP wr (w.heap.size + 2) (.slice A ((qs0.map PN.a).length + 1) c) (qs0.map PN.a ++ [q.a]) := by
        have := hI.row
        rw [List.map_append] at this
        rw [List.length_map]
        exact this
      obtain ⟨hshort, g', hA, hlc2, hcm2, hcell⟩ := RowP.short hrow2
      subst hA
      rw [List.length_map] at hshort hlc2 hcell
      have hcm3 : c ≤ 2 ^ 63 - 1 := hcm2
      have hslc : ∀ W, (Instr.sliceAt 77 (.slice (some ⟨g', 0, none⟩) (qs0.length + 1) c) none (some (.int .i64 (qs0.length : Int))) none).run Try.prog W = .ok (.slice (some ⟨g', 0, none⟩) qs0.length c) W := by
        intro W
        have he : Try.prog.elem 77 = 62 := by kernel_rfl
        have hz : (sizeOf 62).run Try.prog W = .ok 1 W := by first | exact Try.sizeOf62 W | simp [Try.sizeOf62] | kernel_rfl
        rw [run_sliceAt_slice W 77 _ _ _ _ (by kernel_rfl), run_slice_h W 77 (some ⟨g', 0, none⟩) (qs0.length + 1) c (by kernel_rfl) .i64 (qs0.length : Int) (by omega) (by omega), he, hz]
        simp [sliced, Addr.add]
      have hl1 : ((qs0.length : Int) + 1 - 1) = (qs0.length : Int) := by omega
      obtain ⟨hNq, hPq, hBq, hHq, hgq, hRq⟩ := hI.todo q (by simp)
      have hcq : ∀ (W : World), Keeps (fun k => k < w.heap.size + 2 ∧ k ≠ w.heap.size + 1 ∧ k ≠ H) wb W → ∀ p : Addr, p.block = q.a.block → W.cell? p = wb.cell? p := fun W hK p hp => World.cell?_of_block (w := wb) (hK.block _ (by rw [hp]; exact ⟨hBq, hgq, hHq⟩))
      have HI := Lib.hid hI
      have c0 := (hcq wr hI.keeps q.a rfl).trans hNq.1.1
      have c1 := (hcq wr hI.keeps ⟨q.a.block, q.a.off + 1, none⟩ rfl).trans hNq.1.2.1
      have c2 := (hcq wr hI.keeps ⟨q.a.block, q.a.off + 2, none⟩ rfl).trans hNq.1.2.2.1
      have hvis := visit_any q.op q.x q.y q.a H ft F wr c0 c1 c2 hI.flags hHq
      have HCQ := Lib.hid hcq
      have HNQ := Lib.hid hNq
      have HSH := Lib.hid hshort
      have hbt := hNq.2.1.1
      have hbt2 := hNq.2.1.2.1
      have hbe := hNq.2.2.1
      have hbe2 := hNq.2.2.2.1
      unfold maxLen at hbt2 hbe2
      have hsq : q.t.len + q.e.len ≤ 1500000 := by
        have h1 := hsum.out
        rw [sumP_append] at h1
        have h2 := q.t.len_le_size
        have h3 := q.e.len_le_size
        simp only [sumP, PN.sz] at h1
        omega
      clear hI hcq hNq hshort hrow2 hv c0 c1 c2
      go_wp2_with fail
      refine hvis.mono ?_
      rintro E w1 ⟨rfl, hF1, hK1⟩
      have KA := Lib.hid (HI.out.keeps.trans hK1 (R := fun k => k < w.heap.size + 2 ∧ k ≠ w.heap.size + 1 ∧ k ≠ H) (fun _ h => h) fun _ h => h.2.2)
      have hr1 : RowP w1 (w.heap.size + 2) (.slice (some ⟨g', 0, none⟩) qs0.length c) (qs0.map PN.a) := HSH.out.keep fun m hm => hK1.block m (fun e => by have := (HSH.out.lt m hm).1; omega)
      have hs1 : PSet kvP w1 (w.heap.size + 1) ks := HI.out.set.keep (hK1.block _ (by omega))
      have hpl : ∀ k, lo ≤ k → k < hi → Plain wb k → Plain w1 k := fun k k1 k2 h => h.keep (KA.out.block k ⟨by omega, by omega, by omega⟩)
      have hA1 : 0 < q.t.len → ∃ b, q.At = some b ∧ Plain w1 b.block ∧ b.block < w.heap.size + 2 := fun h0 => by
        obtain ⟨b, e1, e2, e3, hR⟩ := HNQ.out.2.1.2.2 h0
        refine ⟨b, e1, hpl _ e2 e3 ?_, by omega⟩
        obtain ⟨op', x', y', n', t', e', hd⟩ := q.t.drop_lt 0 h0
        cases hqt : q.t with
        | nil => rw [hqt] at h0; simp [Sts.len] at h0
        | cons => rw [hqt] at hR; exact plain_of_cell hR.1.1 (HSOFT.out b e2 e3)
      have hk1 : ∀ b ∈ ks, Plain w1 b.block ∧ b.block < w.heap.size + 2 := fun b hb => by
        obtain ⟨a1, a2, a3⟩ := HI.out.met b hb
        exact ⟨hpl _ a2 a3 a1, by omega⟩
      have hz1 : w.heap.size + 2 ≤ w1.heap.size := by have := KA.out.size; omega
      have hadd := addParts_any (w.heap.size + 1) (w.heap.size + 2) (qs0.map PN.a) ks (.slice (some ⟨g', 0, none⟩) qs0.length c) q.At q.t.len q.ct w1 hr1 hs1 (by omega) hz1 hbt hbt2 hA1 hk1 (by rw [List.length_map]; omega)
      have d4 : w1.cell? ⟨q.a.block, q.a.off + 4, none⟩ = some (.slice q.At q.t.len q.ct) := (HCQ.out w1 KA.out ⟨q.a.block, q.a.off + 4, none⟩ rfl).trans HNQ.out.1.2.2.2.2.1
      have HF1 := Lib.hid hF1
      clear hvis hF1 hK1 hr1 hs1 hpl hA1 hk1
      go_wp2_with fail
      refine hadd.mono ?_
      rintro E w2 ⟨v2, rfl, hr2, hs2, hK2⟩
      obtain ⟨l1, hl1e⟩ : ∃ l1, addN ks (elsA q.At q.t.len) = l1 := ⟨_, rfl⟩
      rw [hl1e] at hr2 hs2
      have hl1l : l1.length ≤ q.t.len := by rw [← hl1e]; exact Nat.le_trans (addN_len _ _) (elsA_len _ _)
      have KB := Lib.hid (KA.out.trans hK2 (R := fun k => k < w.heap.size + 2 ∧ k ≠ w.heap.size + 1 ∧ k ≠ H) (fun _ h => h) fun _ h => ⟨h.1, h.2.1⟩)
      have HF2 : Hid (FlagsAt w2 H ft fun v => F v || ownB q.op q.x q.y v) := (hK2.block H ⟨by omega, by omega⟩).trans HF1.out
      have hpl : ∀ k, lo ≤ k → k < hi → Plain wb k → Plain w2 k := fun k k1 k2 h => h.keep (KB.out.block k ⟨by omega, by omega, by omega⟩)
      have hA2 : 0 < q.e.len → ∃ b, q.Ae = some b ∧ Plain w2 b.block ∧ b.block < w.heap.size + 2 := fun h0 => by
        obtain ⟨b, e1, e2, e3, hR⟩ := HNQ.out.2.2.2.2 h0
        refine ⟨b, e1, hpl _ e2 e3 ?_, by omega⟩
        cases hqt : q.e with
        | nil => rw [hqt] at h0; simp [Sts.len] at h0
        | cons => rw [hqt] at hR; exact plain_of_cell hR.1.1 (HSOFT.out b e2 e3)
      have hk2 : ∀ b ∈ ks ++ l1, Plain w2 b.block ∧ b.block < w.heap.size + 2 := fun b hb => by
        rcases List.mem_append.1 hb with hb | hb
        · obtain ⟨a1, a2, a3⟩ := HI.out.met b hb
          exact ⟨hpl _ a2 a3 a1, by omega⟩
        · rw [← hl1e] at hb
          have hb2 := addN_sub _ _ b hb
          obtain ⟨qt, t1, t2, t3, t4⟩ := nodes_of HNQ.out.2.1
          rw [← t1] at hb2
          obtain ⟨r, hr, rfl⟩ := List.mem_map.1 hb2
          obtain ⟨b1, b2, b3⟩ := t2 r hr
          exact ⟨hpl _ b2 b3 (plain_of_cell b1.1.1 (HSOFT.out r.a b2 b3)), by omega⟩
      have hz2 : w.heap.size + 2 ≤ w2.heap.size := by have := KB.out.size; omega
      have hadd2 := addParts_any (w.heap.size + 1) (w.heap.size + 2) (qs0.map PN.a ++ l1) (ks ++ l1) v2 q.Ae q.e.len q.ce w2 hr2 hs2 (by omega) hz2 hbe hbe2 hA2 hk2 (by rw [List.length_append, List.length_map]; omega)
      have d5 : w2.cell? ⟨q.a.block, q.a.off + 5, none⟩ = some (.slice q.Ae q.e.len q.ce) := (HCQ.out w2 KB.out ⟨q.a.block, q.a.off + 5, none⟩ rfl).trans HNQ.out.1.2.2.2.2.2
      clear hadd HF1 hr2 hs2 hpl hA2 hk2 d4
      go_wp2_with fail
      refine hadd2.mono ?_
      rintro E w3 ⟨v3, rfl, hr3, hs3, hK3⟩
      obtain ⟨qs3, hI3, hsum3⟩ := HI.out.step hl1e.symm rfl hr3 hs3 ((hK3.block H ⟨by omega, by omega⟩).trans HF2.out) (KB.out.trans hK3 (fun _ h => h) fun _ h => ⟨h.1, h.2.1⟩) HSOFT.out hH (by omega) (by omega)
      have HE3 : Hid (EachN wb w3 lo hi (w.heap.size + 2) (w.heap.size + 1) H ft R ⟨w.heap.size, 0, none⟩ v3 (sumP qs3)) := ⟨_, _, _, hI3, rfl⟩
      have hs0 := hsum.out
      have HL3 := Lib.hid (leastN_spec HE3.out).2
      have HN' := Lib.hid (Nat.lt_of_le_of_lt HL3.out (Nat.lt_of_lt_of_eq (Nat.lt_of_succ_le hsum3) HN.out))
      have hq3 : sumP qs3 ≤ 1 + t.size + e.size := by omega
      clear hadd2 hr3 hs3 hK3 hI3 HN HL3 hs0 hsum3
      go_wp2_with fail
      go_roundw
      case rel => exact ⟨_, hq3, HE3.out⟩
      case measure => exact HN'.out

end Go.Proofs.Ytfjfbooiegjplaa
