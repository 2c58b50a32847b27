/-
  Rows of statements joined: slices.Concat.
-/
import Derived.Test.YtcpmodkplikmcaaRws
import Derived.Lib.AppendZerosOnto
import Derived.Deep.Upon
namespace Go.Proofs.Ytcpmodkplikmcaa
open Go.RowKit Go.Deep
set_option linter.unusedVariables false

/-- Statements that lie at a slice. -/
structure SrcR (w : World) (A : Option Addr) (c : Nat) (us : List StR) : Prop where
  cap : us.length ≤ c
  most : c ≤ maxLen
  at_ : 0 < us.length → ∃ a, A = some a ∧ a.block < w.heap.size ∧ ∀ j u, (us.flatMap StR.cells)[j]? = some u → w.cell? (a.add j) = some u

theorem SrcR.below {w w' : World} {A : Option Addr} {c : Nat} {us : List StR} (h : SrcR w A c us) {B : Nat} (hb : Below B w w') (hB : w.heap.size ≤ B) : SrcR w' A c us :=
  ⟨h.cap, h.most, fun h0 => by
    obtain ⟨a, e1, e2, e3⟩ := h.at_ h0
    exact ⟨a, e1, Nat.lt_of_lt_of_le e2 hb.size, fun j u hj => (hb.cell (by rw [block_add]; omega)).trans (e3 j u hj)⟩⟩

/-- The statements of a list, with what lies under them. -/
theorem rows_of_rep {w : World} {lo hi : Nat} (s : Sts) : ∀ a : Addr, Rep w lo hi s a → ∃ us : List StR, ofR us = s ∧ (∀ j u, (us.flatMap StR.cells)[j]? = some u → w.cell? (a.add j) = some u) ∧ ∀ r ∈ us, RepV w lo hi r.t r.At r.ct ∧ RepV w lo hi r.e r.Ae r.ce := by
  induction s with
  | nil => intro a _; exact ⟨[], rfl, fun j u h => by simp at h, by simp⟩
  | cons op x y n t e r iht ihe ihr =>
    intro a h
    obtain ⟨⟨h0, h1, h2, h3⟩, ⟨A, c, h4, h5, h6, h7⟩, ⟨A', c', h8, h9, h10, h11⟩, hr⟩ := h
    obtain ⟨us, e1, e2, e3⟩ := ihr _ hr
    refine ⟨⟨op, x, y, n, t, e, A, c, A', c'⟩ :: us, by rw [← e1]; rfl, fun j u hj => ?_, fun r hr => ?_⟩
    · rw [List.flatMap_cons] at hj
      by_cases hlt : j < 6
      · rw [List.getElem?_append_left (by rw [StR.cells_length]; exact hlt)] at hj
        have e0 : a.add 0 = a := by simp [Addr.add]
        rcases j with _ | _ | _ | _ | _ | _ | j
        · rw [e0]; exact h0.trans hj
        · exact h1.trans hj
        · exact h2.trans hj
        · exact h3.trans hj
        · exact h4.trans hj
        · exact h8.trans hj
        · omega
      · rw [List.getElem?_append_right (by rw [StR.cells_length]; omega), StR.cells_length] at hj
        have := e2 (j - 6) u hj
        rw [add_add] at this
        rwa [show 6 + (j - 6) = j from by omega] at this
    · rcases List.mem_cons.1 hr with rfl | hr
      · exact ⟨⟨h5, h6, h7⟩, ⟨h9, h10, h11⟩⟩
      · exact e3 r hr

theorem rows_of {w : World} {lo hi : Nat} {s : Sts} {A : Option Addr} {c : Nat} (h : RepV w lo hi s A c) (hh : hi ≤ w.heap.size) : ∃ us : List StR, ofR us = s ∧ SrcR w A c us ∧ ∀ r ∈ us, RepV w lo hi r.t r.At r.ct ∧ RepV w lo hi r.e r.Ae r.ce := by
  by_cases h0 : 0 < s.len
  · obtain ⟨a, rfl, h1, h2, hR⟩ := h.2.2 h0
    obtain ⟨us, e1, e2, e3⟩ := rows_of_rep s a hR
    exact ⟨us, e1, ⟨by rw [← ofR_len, e1]; exact h.1, h.2.1, fun _ => ⟨a, rfl, by omega, e2⟩⟩, e3⟩
  · have hs : s = .nil := by
      cases s with
      | nil => rfl
      | cons => simp [Sts.len] at h0
    subst hs
    exact ⟨[], rfl, ⟨h.1, h.2.1, fun h => absurd h (by simp)⟩, by simp⟩

theorem run_append_stmts (w : World) (B : Nat) (v : Value) (rs : List StR) (A : Option Addr) (c : Nat) (us : List StR) (hown : w.ownsRow B 53 6 v rs.length (rs.flatMap StR.cells)) (hu : SrcR w A c us) (hl : rs.length + us.length ≤ 2000000) (hB : B ≤ w.heap.size) :
    ∃ v' w', (Builtin.append_ #[27, 27] 27 #[v, .slice A us.length c]).run Try.prog w = .ok v' w' ∧ w'.ownsRow B 53 6 v' (rs ++ us).length ((rs ++ us).flatMap StR.cells) ∧ w.grownBy w' v.ownBlock ∧ (v'.ownBlock = v.ownBlock ∨ v'.ownBlock = some w.heap.size) := by
  obtain ⟨i0, hi, hz0, hz1, hz2⟩ := info_parts Try.infoStmt
  cases A with
  | none =>
    have h0 : us = [] := by
      cases us with
      | nil => rfl
      | cons t ts =>
        obtain ⟨b, hb, _⟩ := hu.at_ (by simp)
        cases hb
    subst h0
    refine ⟨v, w, ?_, by rw [List.append_nil]; exact hown, ⟨rfl, rfl, rfl, Nat.le_refl _, fun _ _ _ => rfl⟩, .inl rfl⟩
    obtain ⟨A', c', rfl, hle, _, _⟩ := own_form hown
    exact run_append_nothing w _ _ _ 53 i0 Try.underlying27 hi A' rs.length c' hle _ (Src.ofNil w Try.underlying27 c)
  | some a =>
    have hcells : ∀ j u, (us.flatMap StR.cells)[j]? = some u → w.cell? (a.add j) = some u := fun j u hj => by
      have h0 : 0 < us.length := by
        cases us with
        | nil => simp at hj
        | cons => simp
      obtain ⟨b, hb, _, hc⟩ := hu.at_ h0
      rw [Option.some.inj hb]
      exact hc j u hj
    obtain ⟨v', w', hr, k1, k2, _, k4⟩ := run_append_own_at (P := Try.prog) w B 27 27 53 i0 (.agg #[.int .i64 0, .int .i64 0, .int .i64 0, .int .i64 0, .slice none 0 0, .slice none 0 0]) 6 80 Try.underlying27 hi hz0 hz1 hz2 rfl (by decide) v rs.length (rs.flatMap StR.cells) hown a us.length c (us.flatMap StR.cells)
      (flatS_len StR.cells_length us) hcells (fun u hu => by
        obtain ⟨r, _, hr⟩ := List.mem_flatMap.1 hu
        simp only [StR.cells, List.mem_cons, List.not_mem_nil, or_false] at hr
        rcases hr with rfl | rfl | rfl | rfl | rfl | rfl <;> rfl) (by unfold maxLen; omega) (by omega) hB
    refine ⟨v', w', hr, ?_, k2, k4⟩
    rw [List.length_append, List.flatMap_append]
    exact k1

set_option maxRecDepth 100000 in
set_option maxHeartbeats 1000000 in
theorem grow_any (n : Nat) (w : World) (hn : n ≤ 2000000) : Calls Try.prog 88 #[.slice none 0 0, .int .i64 n] w fun E w' => ∃ v, E = .returned v ∧ w'.ownsRow w.heap.size 53 6 v 0 [] ∧ Below w.heap.size w w' := by
  obtain ⟨i0, hi, hz0, hz1, hz2⟩ := info_parts Try.infoStmt
  by_cases h0 : n = 0
  · subst h0
    go_enter Try.func88, Try.ntmps88
    go_wp2_with fail
    go_ret
    exact ⟨_, rfl, World.ownsRow_nil _ _ _ _, Below.refl _ _⟩
  · have hrz : ∀ ty, (Builtin.append_ #[27, 3] ty #[.slice none 0 0, .int .i64 (n : Int)]).run Try.prog w = .ok (.slice (some ⟨w.heap.size, 0, none⟩) n (grownCap w n 0 53)) (w.drew.alloc (.cells (Builtin.zeroCells (Value.cells (.agg #[.int .i64 0, .int .i64 0, .int .i64 0, .int .i64 0, .slice none 0 0, .slice none 0 0])) n ++ Builtin.zeroCells (Value.cells (.agg #[.int .i64 0, .int .i64 0, .int .i64 0, .int .i64 0, .slice none 0 0, .slice none 0 0])) (grownCap w n 0 53 - n)) 53)) := fun ty =>
      Lib.run_append_nil_zeros w 27 3 ty 53 i0 (.agg #[.int .i64 0, .int .i64 0, .int .i64 0, .int .i64 0, .slice none 0 0, .slice none 0 0]) .i64 .i64 Try.underlying27 Try.underlying3 hi hz0 n (by omega) (by omega) (by omega) (by rw [hz2]; omega)
    have hge := grownCap_ge w n 0 53
    have hle := grownCap_le_maxLen w n 0 53 (by unfold maxLen; omega)
    obtain ⟨G, hG⟩ : ∃ G, grownCap w n 0 53 = G := ⟨_, rfl⟩
    rw [hG] at hrz hge hle
    obtain ⟨C, hC⟩ : ∃ C, Builtin.zeroCells (Value.cells (.agg #[.int .i64 0, .int .i64 0, .int .i64 0, .int .i64 0, .slice none 0 0, .slice none 0 0])) n ++ Builtin.zeroCells (Value.cells (.agg #[.int .i64 0, .int .i64 0, .int .i64 0, .int .i64 0, .slice none 0 0, .slice none 0 0])) (G - n) = C := ⟨_, rfl⟩
    have hCs : C.size = G * 6 := by
      rw [← hC, Array.size_append, size_zeroCells, size_zeroCells]
      simp [Value.cells]
      omega
    rw [hC] at hrz
    have hrow : Hid ((w.drew.alloc (.cells C 53)).ownsRow w.heap.size 53 6 (.slice (some ⟨w.heap.size, 0, none⟩) 0 G) 0 []) := ⟨by simp, .inr ⟨w.heap.size, G, C, rfl, Nat.le_refl _, heap_alloc_new w.drew _, Nat.zero_le _, hle, hCs, by simp⟩⟩
    unfold maxLen at hle
    have hsl : ∀ W, (Instr.sliceAt 27 (.slice (some ⟨w.heap.size, 0, none⟩) n G) none (some (.int .i64 0)) none).run Try.prog W = .ok (.slice (some ⟨w.heap.size, 0, none⟩) 0 G) W := by
      intro W
      have he : Try.prog.elem 27 = 53 := by kernel_rfl
      have hz : (sizeOf 53).run Try.prog W = .ok 6 W := by first | exact Try.sizeOf53 W | simp [Try.sizeOf53] | kernel_rfl
      rw [run_sliceAt_slice W 27 _ _ _ _ (by kernel_rfl), run_slice_h W 27 (some ⟨w.heap.size, 0, none⟩) n G (by kernel_rfl) .i64 0 (by omega) (by omega), he, hz]
      simp [sliced, Addr.add]
    have hn0 : (0 : Int) < (n : Int) := by omega
    clear hG hC hCs hi hz0 hz1 hz2 hge
    go_enter Try.func88, Try.ntmps88
    go_wp2_with (at_builtin; refine Lib.wpList_append_run _ rfl _ _ _ _ rfl _ _ rfl rfl _ _ (hrz _) ?_)
    go_ret
    exact ⟨_, rfl, hrow.out, (Below.refl w.heap.size w).drew.alloc (Nat.le_refl _) _⟩

/-- One of the rows that are joined. -/
structure CArg where
  A : Option Addr
  c : Nat
  us : List StR

def joinC (qs : List CArg) (j : Nat) : List StR := (qs.take j).flatMap CArg.us

theorem joinC_succ {qs : List CArg} {j : Nat} {q : CArg} (h : qs[j]? = some q) : joinC qs (j + 1) = joinC qs j ++ q.us := by
  unfold joinC
  rw [List.take_add_one, h]
  simp

theorem joinC_le (qs : List CArg) (j : Nat) : (joinC qs j).length ≤ (joinC qs qs.length).length := by
  unfold joinC
  have : qs.flatMap CArg.us = (qs.take j).flatMap CArg.us ++ (qs.drop j).flatMap CArg.us := by rw [← List.flatMap_append, List.take_append_drop]
  rw [List.take_length, this, List.length_append]
  omega

set_option maxRecDepth 100000 in
set_option maxHeartbeats 2000000 in
theorem concat_any (qs : List CArg) (g cc : Nat) (w : World) (hn : qs.length ≤ 100) (hcc : qs.length ≤ cc) (hcm : cc ≤ maxLen) (hg : g < w.heap.size) (hc : ∀ j q, qs[j]? = some q → w.cell? ⟨g, j, none⟩ = some (.slice q.A q.us.length q.c)) (hs : ∀ q ∈ qs, SrcR w q.A q.c q.us)
    (hl : (joinC qs qs.length).length ≤ 1000000) :
    Calls Try.prog 54 #[.slice (some ⟨g, 0, none⟩) qs.length cc] w fun E w' => ∃ v, E = .returned v ∧ w'.ownsRow w.heap.size 53 6 v (joinC qs qs.length).length ((joinC qs qs.length).flatMap StR.cells) ∧ Below w.heap.size w w' := by
  unfold maxLen at hcm
  have HC := Lib.hid hc
  have HS := Lib.hid hs
  have HL := Lib.hid (joinC_le qs)
  obtain ⟨n, hqn⟩ : ∃ n, qs.length = n := ⟨_, rfl⟩
  have HN := Lib.hid hqn
  rw [hqn] at hn hcc hl HL ⊢
  have hj0 : Hid ((joinC qs 0).length = 0) := by unfold Hid joinC; simp
  clear hc hs hqn
  go_enter Try.func54, Try.ntmps54
  go_wp2_with fail
  go_loop [3, 11] (fun z i => ∃ j : Nat, j ≤ n ∧ i = .int .i64 j ∧ z = .int .i64 ((joinC qs j).length : Int)) (fun _ i => n - (intOf i).toNat)
  case atStart => exact ⟨0, Nat.zero_le _, rfl, by rw [hj0.out]; rfl⟩
  case round =>
    obtain ⟨j, hj, rfl, rfl⟩ := hrel
    by_cases hlt : j < n
    · obtain ⟨q, hq⟩ : ∃ q, qs[j]? = some q := ⟨qs[j]'(by rw [HN.out]; exact hlt), List.getElem?_eq_getElem _⟩
      have hcj := HC.out j q hq
      have hsj := HS.out q (List.mem_of_getElem? hq)
      have hsc := hsj.cap
      have hsm := hsj.most
      unfold maxLen at hsm
      have hnext := joinC_succ hq
      have hle := HL.out (j + 1)
      have HX : Hid (((joinC qs (j + 1)).length : Int) = ((joinC qs j).length : Int) + (q.us.length : Int)) := by unfold Hid; rw [hnext, List.length_append]; omega
      have hlen : (joinC qs j).length + q.us.length ≤ 1000000 := by
        rw [hnext, List.length_append] at hle
        omega
      have hneg : ¬ ((joinC qs j).length : Int) + (q.us.length : Int) < 0 := by omega
      obtain ⟨L, hL⟩ : ∃ L, (joinC qs j).length = L := ⟨_, rfl⟩
      rw [hL] at hneg hlen HX ⊢
      clear hq hsj hnext hle hL
      go_wp2_with fail
      go_round
      case rel => exact ⟨j + 1, by omega, by go_num, by rw [HX.out]⟩
      case measure => simp [intOf]; omega
    · obtain rfl : j = n := by omega
      obtain ⟨L, hL⟩ : ∃ L, (joinC qs j).length = L := ⟨_, rfl⟩
      have hgr := grow_any L w (by omega)
      have HLL := Lib.hid hL
      rw [hL] at hl ⊢
      clear hL
      go_wp2_with fail
      refine hgr.mono ?_
      rintro E w1 ⟨v1, rfl, hr1, hb1⟩
      have HR1 := Lib.hid hr1
      have HB1 := Lib.hid hb1
      have h00 : joinC qs 0 = [] := rfl
      clear hgr hr1 hb1
      go_wp2_with fail
      go_loopw [6, 27] (fun v i wr => ∃ k : Nat, k ≤ j ∧ i = .int .i64 k ∧ Hid (wr.ownsRow w.heap.size 53 6 v (joinC qs k).length ((joinC qs k).flatMap StR.cells)) ∧ Hid (Below w.heap.size w wr)) (fun _ i _ => j - (intOf i).toNat)
      case atStart => exact ⟨0, Nat.zero_le _, rfl, by rw [h00]; exact HR1, HB1⟩
      case round =>
        clear HR1 HB1
        obtain ⟨k, hk, rfl, hR, hB⟩ := hrel
        by_cases hlt2 : k < j
        · obtain ⟨q, hq⟩ : ∃ q, qs[k]? = some q := ⟨qs[k]'(by rw [HN.out]; exact hlt2), List.getElem?_eq_getElem _⟩
          have hcj := (hB.out.cell (p := ⟨g, k, none⟩) hg).trans (HC.out k q hq)
          have hsj := (HS.out q (List.mem_of_getElem? hq)).below hB.out (Nat.le_refl _)
          have hnext := joinC_succ hq
          have hle := HL.out (k + 1)
          have hlen : (joinC qs k).length + q.us.length ≤ 1000000 := by
            rw [hnext, List.length_append] at hle
            have := HLL.out
            omega
          obtain ⟨v', w', hrun, hR', hgrown, _⟩ := run_append_stmts wr w.heap.size u6 (joinC qs k) q.A q.c q.us hR.out hsj (by omega) hB.out.size
          rw [← hnext] at hR'
          have hB' := hB.out.grown hgrown hB.out.size (fun g hg => (hR.out.lt g hg).1)
          have HR' := Lib.hid hR'
          have HB' := Lib.hid hB'
          have hsc := hsj.cap
          have hsm := hsj.most
          unfold maxLen at hsm
          clear hq hsj hnext hle hR' hgrown hB' hR hB
          go_wp2_with (at_builtin; refine Lib.wpList_append_run _ rfl _ _ _ _ rfl _ _ rfl rfl _ _ hrun ?_)
          go_roundw
          case rel => exact ⟨k + 1, by omega, by go_num, HR', HB'⟩
          case measure => simp [intOf]; omega
        · obtain rfl : k = j := by omega
          go_wp2_with fail
          go_ret
          exact ⟨_, rfl, by rw [← HLL.out]; exact hR.out, hB.out⟩

end Go.Proofs.Ytcpmodkplikmcaa
