/-
  A program without one of its statements.
-/
import Derived.Test.YtcpmodkplikmcaaCcat
import Derived.Test.YtcpmodkplikmcaaCpyP
namespace Go.Proofs.Ytcpmodkplikmcaa
open Go.RowKit Go.Deep
set_option linter.unusedVariables false

/-- A list without the k-th statement. -/
def Sts.del : Sts → Nat → Sts
  | .nil, _ => .nil
  | .cons _ _ _ _ _ _ r, 0 => r
  | .cons op x y n t e r, k + 1 => .cons op x y n t e (r.del k)

theorem ofR_del : ∀ (us : List StR) (k : Nat), ofR (us.take k ++ us.drop (k + 1)) = (ofR us).del k
  | [], k => by simp [ofR, Sts.del]
  | u :: us, 0 => by simp [ofR, Sts.del]
  | u :: us, k + 1 => by
    rw [List.take_succ_cons, List.drop_succ_cons, List.cons_append]
    show Sts.cons u.op u.x u.y u.n u.t u.e (ofR (us.take k ++ us.drop (k + 1))) = _
    rw [ofR_del us k]
    rfl

theorem Sts.del_size (s : Sts) : ∀ k, (s.del k).size ≤ s.size := by
  induction s with
  | nil => intro k; exact Nat.le_refl _
  | cons op x y n t e r iht ihe ihr =>
    intro k
    cases k with
    | zero => simp only [Sts.del, Sts.size]; omega
    | succ k => have := ihr k; simp only [Sts.del, Sts.size]; omega

theorem SrcR.front {w : World} {A : Option Addr} {c : Nat} {us : List StR} (h : SrcR w A c us) (k : Nat) : SrcR w A c (us.take k) :=
  ⟨Nat.le_trans (by rw [List.length_take]; omega) h.cap, h.most, fun h0 => by
    rw [List.length_take] at h0
    obtain ⟨a, e1, e2, e3⟩ := h.at_ (by omega)
    refine ⟨a, e1, e2, fun j u hj => e3 j u ?_⟩
    have hs : us.flatMap StR.cells = (us.take k).flatMap StR.cells ++ (us.drop k).flatMap StR.cells := by rw [← List.flatMap_append, List.take_append_drop]
    rw [hs, List.getElem?_append_left (List.getElem?_eq_some_iff.1 hj).1]
    exact hj⟩

theorem SrcR.back {w : World} {a : Addr} {c : Nat} {us : List StR} (h : SrcR w (some a) c us) (m : Nat) (hm : m ≤ us.length) : SrcR w (some (if c = m then a else a.add (m * 6))) (c - m) (us.drop m) := by
  have hc := h.cap
  have hm2 := h.most
  refine ⟨by rw [List.length_drop]; omega, by omega, fun h0 => ?_⟩
  rw [List.length_drop] at h0
  obtain ⟨b, e1, e2, e3⟩ := h.at_ (by omega)
  have e := Option.some.inj e1
  subst e
  rw [if_neg (by omega)]
  refine ⟨_, rfl, by rw [block_add]; exact e2, fun j u hj => ?_⟩
  rw [add_add]
  refine e3 _ u ?_
  have hs : us.flatMap StR.cells = (us.take m).flatMap StR.cells ++ (us.drop m).flatMap StR.cells := by rw [← List.flatMap_append, List.take_append_drop]
  have hl : ((us.take m).flatMap StR.cells).length = m * 6 := by rw [flatS_len StR.cells_length, List.length_take, Nat.min_eq_left hm]
  rw [hs, List.getElem?_append_right (by omega), hl, show m * 6 + j - m * 6 = j from by omega]
  exact hj

/-- The front of a slice of statements, and what is behind. -/
theorem slice_front {a : Addr} {n c k : Nat} (hk : k ≤ n) (hn : n ≤ c) (hc : c ≤ 9223372036854775807) (W : World) : (Instr.sliceAt 27 (.slice (some a) n c) none (some (.int .i64 (k : Int))) none).run Try.prog W = .ok (.slice (some a) k c) W := by
  have he : Try.prog.elem 27 = 53 := by kernel_rfl
  have hz : (sizeOf 53).run Try.prog W = .ok 6 W := by first | exact Try.sizeOf53 W | simp [Try.sizeOf53] | kernel_rfl
  rw [run_sliceAt_slice W 27 _ _ _ _ (by kernel_rfl), run_slice_h W 27 (some a) n c (by kernel_rfl) .i64 (k : Int) (by omega) (by omega), he, hz]
  simp [sliced, Addr.add]

theorem slice_back {a : Addr} {n c m : Nat} (hk : m ≤ n) (hn : n ≤ c) (hc : c ≤ 9223372036854775807) (W : World) : (Instr.sliceAt 27 (.slice (some a) n c) (some (.int .i64 (m : Int))) none none).run Try.prog W = .ok (.slice (some (if c = m then a else a.add (m * 6))) (n - m) (c - m)) W := by
  have he : Try.prog.elem 27 = 53 := by kernel_rfl
  have hz : (sizeOf 53).run Try.prog W = .ok 6 W := by first | exact Try.sizeOf53 W | simp [Try.sizeOf53] | kernel_rfl
  rw [run_sliceAt_slice W 27 _ _ _ _ (by kernel_rfl), run_slice_l W 27 (some a) n c (by kernel_rfl) .i64 (m : Int) (by omega) (by omega), he, hz]
  by_cases h : c = m
  · simp [sliced, h]
  · have h2 : ¬ c = m := h
    simp [sliced, h2]
    try omega

set_option maxRecDepth 100000 in
set_option maxHeartbeats 2000000 in
theorem withoutStmt_any (ts : List Int) (s : Sts) (At As : Option Addr) (ct cs k : Nat) (w : World) (hl : ts.length ≤ 100000) (hsz : s.size ≤ 100000) (hk : k < s.len) (hT : IntsV w 0 w.heap.size ts At ct) (hS : RepV w 0 w.heap.size s As cs) :
    Calls Try.prog 64 #[.agg #[.slice At ts.length ct, .slice As s.len cs], .int .i64 (k : Int)] w fun E w' => ∃ v, E = .returned v ∧ ProgA w' w.heap.size ts (s.del k) v ∧ Below w.heap.size w w' := by
  obtain ⟨W, hW⟩ : ∃ W, (w.alloc (.cells #[.slice At ts.length ct, .slice As s.len cs] 29)).alloc (.cells #[.slice none 0 0, .slice none 0 0] 29) = W := ⟨_, rfl⟩
  have hbW : Below w.heap.size w W := by rw [← hW]; exact ((Below.refl _ _).alloc (Nat.le_refl _) _).alloc (by simp) _
  have hWz : w.heap.size + 2 = W.heap.size := by rw [← hW]; simp
  have hWP : W.heap[w.heap.size]? = some (.cells #[.slice At ts.length ct, .slice As s.len cs] 29 (0, 0)) := by
    rw [← hW]
    show ((w.heap.push _).push _)[w.heap.size]? = _
    simp only [Array.getElem?_push, Array.size_push]
    rw [if_neg (by omega), if_pos trivial]
  have hWR : W.heap[w.heap.size + 1]? = some (.cells #[.slice none 0 0, .slice none 0 0] 29 (0, 0)) := by
    rw [← hW]
    show ((w.heap.push _).push _)[w.heap.size + 1]? = _
    simp only [Array.getElem?_push, Array.size_push]
    rw [if_pos trivial]
  obtain ⟨us, hus, hsrc, hsub⟩ := rows_of (hS.below hbW hbW.size) (Nat.le_refl _)
  have hul : us.length = s.len := by rw [← hus, ofR_len]
  obtain ⟨a, ha, ha2, _⟩ := hsrc.at_ (by omega)
  subst ha
  have hm2 := hsrc.most
  have hca := hsrc.cap
  unfold maxLen at hm2
  have HT := Lib.hid (hT.below hbW hbW.size)
  have HWR := Lib.hid hWR
  have hWle : w.heap.size + 2 ≤ W.heap.size := Nat.le_of_eq hWz
  have HF := Lib.hid (hsrc.front k)
  have HB := Lib.hid (hsrc.back (k + 1) (by omega))
  have HSUB := Lib.hid hsub
  obtain ⟨n, hn⟩ : ∃ n, ts.length = n := ⟨_, rfl⟩
  obtain ⟨m, hm⟩ : ∃ m, s.len = m := ⟨_, rfl⟩
  have HN := Lib.hid hn
  have HM := Lib.hid hm
  obtain ⟨a2, ha2e⟩ : ∃ a2, (if cs = k + 1 then a else a.add ((k + 1) * 6)) = a2 := ⟨_, rfl⟩
  rw [ha2e] at HB
  have hsl1 := fun X => slice_front (a := a) (n := m) (c := cs) (k := k) (by omega) (by omega) hm2 X
  have hsl2 := fun X => slice_back (a := a) (n := m) (c := cs) (m := k + 1) (by omega) (by omega) hm2 X
  rw [ha2e] at hsl2
  have hk9 : (k : Int) + 1 ≤ 1000000 := by have := s.len_le_size; omega
  have hkw : IntKind.i64.wrap ((k : Int) + 1) = (k : Int) + 1 := by rw [IntKind.wrap_i64]; omega
  have hki : ((k : Int) + 1) = ((k + 1 : Nat) : Int) := by omega
  rw [← hki] at hsl2
  clear hki
  have hfl : (us.take k).length = k := by rw [List.length_take]; omega
  have hbl : (us.drop (k + 1)).length = m - (k + 1) := by rw [List.length_drop]; omega
  have hp0 : W.cell? ⟨w.heap.size, 0, none⟩ = some (.slice At n ct) := (cell_of_block hWP 0).trans (by rw [← hn]; rfl)
  have hp1 : W.cell? ⟨w.heap.size, 1, none⟩ = some (.slice (some a) m cs) := (cell_of_block hWP 1).trans (by rw [← hm]; rfl)
  rw [hn, hm] at hW ⊢
  rw [hn] at hl
  have HBW := Lib.hid hbW
  have z0 := (cell_of_block HWR.out 0).trans (show _ = some (.slice none 0 0) from rfl)
  have z1 := (cell_of_block HWR.out 1).trans (show _ = some (.slice none 0 0) from rfl)
  have hK0 : CoK w.heap.size (.slice At n ct) (.slice (some a) m cs) W := ⟨hp0, hp1, by rw [z0]; unfold heldC; rw [z0]; rfl, by rw [z1]; unfold heldC; rw [z1]; rfl, frozen_of_block HWR.out 0, frozen_of_block HWR.out 1⟩
  have hK0d : CoK w.heap.size (.slice At n ct) (.slice (some a) m cs) W.drew := hK0
  obtain ⟨OB, hOB⟩ : ∃ OB, Obj.cells #[.slice (some a) k cs, .slice (some a2) (m - (k + 1)) (cs - (k + 1))] 27 = OB := ⟨_, rfl⟩
  have hba : Below W.heap.size W (W.alloc OB) := (Below.refl _ _).alloc (Nat.le_refl _) _
  have hK1 : CoK w.heap.size (.slice At n ct) (.slice (some a) m cs) (W.alloc OB) := coK_below hK0 hba hWle
  have hK1d : CoK w.heap.size (.slice At n ct) (.slice (some a) m cs) (W.drew.alloc OB) := hK1
  have hK2d : CoK w.heap.size (.slice At n ct) (.slice (some a) m cs) (W.alloc OB).drew := hK1
  obtain ⟨D, hD⟩ : ∃ D, (s.del k).len = D := ⟨_, rfl⟩
  have HD := Lib.hid hD
  have HCC : Hid (∀ X : World, X.heap = (W.alloc OB).heap → X.os = W.os → X.tape = W.tape → X.output = W.output → Calls Try.prog 54 #[.slice (some ⟨W.heap.size, 0, none⟩) 2 2] X fun E w' => ∃ (Av : Option Addr) (cv : Nat), E = .returned (.slice Av D cv) ∧ RepV w' 0 w'.heap.size (s.del k) Av cv ∧ Below W.heap.size W w') := fun X hX h1 h2 h3 => by
    have hXz : X.heap.size = W.heap.size + 1 := by rw [hX]; simp
    have hXb : Below W.heap.size W X := ⟨h1, h2, h3, by omega, fun q hq => by rw [hX]; exact Below.heap_alloc _ _ _ hq⟩
    have hXc : X.heap[W.heap.size]? = some (.cells #[.slice (some a) k cs, .slice (some a2) (m - (k + 1)) (cs - (k + 1))] 27 (0, 0)) := by rw [hX, ← hOB]; exact heap_alloc_new W _
    have hj : joinC [⟨some a, cs, us.take k⟩, ⟨some a2, cs - (k + 1), us.drop (k + 1)⟩] 2 = us.take k ++ us.drop (k + 1) := by simp [joinC]
    have hcat := concat_any [⟨some a, cs, us.take k⟩, ⟨some a2, cs - (k + 1), us.drop (k + 1)⟩] W.heap.size 2 X (by simp) (by simp) (by simp [maxLen]) (by omega) (fun j q hq => by
      rcases j with _ | _ | j
      · simp only [List.getElem?_cons_zero, Option.some.injEq] at hq
        subst hq
        refine (cell_of_block hXc 0).trans ?_
        show some (Value.slice (some a) k cs) = some (.slice (some a) (us.take k).length cs)
        rw [hfl]
      · simp only [List.getElem?_cons_succ, List.getElem?_cons_zero, Option.some.injEq] at hq
        subst hq
        refine (cell_of_block hXc 1).trans ?_
        show some (Value.slice (some a2) (m - (k + 1)) (cs - (k + 1))) = some (.slice (some a2) (us.drop (k + 1)).length (cs - (k + 1)))
        rw [hbl]
      · simp at hq) (fun q hq => by
      simp only [List.mem_cons, List.not_mem_nil, or_false] at hq
      rcases hq with rfl | rfl
      · exact HF.out.below hXb (Nat.le_refl _)
      · exact HB.out.below hXb (Nat.le_refl _)) (by
        show (joinC _ 2).length ≤ _
        rw [hj, List.length_append, hfl, hbl]
        have := s.len_le_size
        omega)
    have hlen2 : [(⟨some a, cs, us.take k⟩ : CArg), ⟨some a2, cs - (k + 1), us.drop (k + 1)⟩].length = 2 := rfl
    rw [hlen2, hj] at hcat
    refine hcat.mono ?_
    rintro E w' ⟨v, rfl, hown, hb⟩
    obtain ⟨Av, cv, rfl, q1, q2, q3⟩ := own_form hown
    have hdel := ofR_del us k
    rw [hus] at hdel
    have hwb : Below W.heap.size W w' := hXb.trans (hb.mono (by omega))
    refine ⟨Av, cv, by rw [← hD, ← hdel, ofR_len], ⟨by rw [← hdel, ofR_len]; exact q1, q2, fun h0 => ?_⟩, hwb⟩
    rw [← hdel, ofR_len] at h0
    obtain ⟨g, rfl, g1, g2⟩ := q3 h0
    refine ⟨_, rfl, Nat.zero_le _, g2, ?_⟩
    rw [← hdel]
    refine rep_of_cells _ _ (fun j u hj => World.ownsRow.cells hown (g := g) rfl j u hj) fun r hr => ?_
    have hr2 : r ∈ us := by
      rcases List.mem_append.1 hr with hr | hr
      · exact List.mem_of_mem_take hr
      · exact List.mem_of_mem_drop hr
    exact ⟨(HSUB.out r hr2).1.below hwb hwb.size, (HSUB.out r hr2).2.below hwb hwb.size⟩
  clear hWP hWR hT hS hWz hbW hp0 hp1 z0 z1 hsrc hsub HF HB hn hm hus hul hfl hbl ha2 hba
  go_enter Try.func64, Try.ntmps64
  go_upto_region 1 with (fail)
  clear hW
  have HPP : Hid (∀ (X : World) (Av : Option Addr) (cv : Nat), Below W.heap.size W X → RepV X 0 X.heap.size (s.del k) Av cv → Calls Try.prog 82 #[.agg #[.slice At n ct, .slice Av D cv]] X fun E w' => ∃ (A A' : Option Addr) (c c' : Nat), E = .returned (.agg #[.slice A n c, .slice A' D c']) ∧ ProgA w' X.heap.size ts (s.del k) (.agg #[.slice A n c, .slice A' D c']) ∧ Below X.heap.size X w') := fun X Av cv hX hR => by
    have hd := s.del_size k
    have := copyProgram_any ts (s.del k) At Av ct cv X (by rw [HN.out]; exact hl) (by omega) (HT.out.below hX hX.size) hR
    rw [HN.out, HD.out] at this
    refine this.mono ?_
    rintro E w' ⟨v, rfl, hA, hb⟩
    have hA2 := hA
    obtain ⟨A, A', c, c', lo, hi, rfl, _⟩ := hA
    rw [HN.out, HD.out] at hA2 ⊢
    exact ⟨A, A', c, c', rfl, hA2, hb⟩
  go_region_held3 (CoK w.heap.size (.slice At n ct) (.slice (some a) m cs))
    (first | with_reducible exact hK0 | with_reducible exact hK0d | with_reducible exact hK1 | with_reducible exact hK1d | with_reducible exact hK2d | with_reducible exact hK3 | with_reducible exact hK4 | with_reducible exact coK_put hK4)
    (first
      | (go_at_call 54; refine (HCC.out _ ?hx ?ho ?ht ?hu).mono ?_; (case hx => rfl); (case ho => rfl); (case ht => rfl); (case hu => rfl); rintro E wc ⟨Av, cv, rfl, hR, hbc⟩; have hK3 := coK_below hK0 hbc hWle)
      | (go_at_call 82; refine (HPP.out _ _ _ ?hx ?hy).mono ?_; (case hx => first | exact hbc | exact hbc.drew); (case hy => exact hR); rintro E wd ⟨Ap, Ap', cp, cp', rfl, hA, hbd⟩; have hK4 := coK_below hK0 (hbc.trans (hbd.mono hbc.size)) hWle))
  have hXw : Below W.heap.size W wd := hbc.trans (hbd.mono hbc.size)
  have hX := (hXw.block (w.heap.size + 1) (by omega)).trans HWR.out
  have z0 : wd.cell? ⟨w.heap.size + 1, 0, none⟩ = some (.slice none 0 0) := (cell_of_block hX 0).trans rfl
  have z1 : wd.cell? ⟨w.heap.size + 1, 1, none⟩ = some (.slice none 0 0) := (cell_of_block hX 1).trans rfl
  have hzc := hbc.size
  have hzd := hbd.size
  have HA := Lib.hid (ProgA.mono (hA.keep (w' := (wd.setCell ⟨w.heap.size + 1, 0, none⟩ (.slice Ap n cp)).setCell ⟨w.heap.size + 1, 1, none⟩ (.slice Ap' D cp')) (by simp [World.setCell]) fun q q1 q2 => (Below.heap_setCell _ _ _ _ (by show q ≠ w.heap.size + 1; omega)).trans (Below.heap_setCell _ _ _ _ (by show q ≠ w.heap.size + 1; omega))) (show w.heap.size ≤ wc.heap.size by omega))
  have hB := Lib.hid (((HBW.out.trans (hXw.mono (by omega))).setCell (p := ⟨w.heap.size + 1, 0, none⟩) (by simp) (.slice Ap n cp)).setCell (p := ⟨w.heap.size + 1, 1, none⟩) (by simp) (.slice Ap' D cp'))
  clear hX hXw hA hR hbc hbd hK0 hK0d hK1 hK1d hK2d hK3 hK4 hsl1 hsl2 hzc hzd
  go_wp2_with fail
  exact bodyPost_ret (v := .agg #[.slice Ap n cp, .slice Ap' D cp']) (by simp [results, Try.results64, go_sem, z0, z1]) rfl ⟨_, rfl, HA.out, hB.out⟩

end Go.Proofs.Ytcpmodkplikmcaa
