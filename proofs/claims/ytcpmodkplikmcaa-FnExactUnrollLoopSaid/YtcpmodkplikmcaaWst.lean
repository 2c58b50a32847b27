/-
  A program with other statements instead of some.
-/
import Derived.Test.YtcpmodkplikmcaaWout
import Derived.Deep.DeepCutAuto
namespace Go.Proofs.Ytcpmodkplikmcaa
open Go.RowKit Go.Deep
set_option linter.unusedVariables false

def Sts.app : Sts → Sts → Sts
  | .nil, u => u
  | .cons op x y n t e r, u => .cons op x y n t e (r.app u)

def Sts.front : Nat → Sts → Sts
  | 0, _ => .nil
  | _ + 1, .nil => .nil
  | k + 1, .cons op x y n t e r => .cons op x y n t e (r.front k)

theorem ofR_append : ∀ a b : List StR, ofR (a ++ b) = (ofR a).app (ofR b)
  | [], b => rfl
  | q :: a, b => by show Sts.cons _ _ _ _ _ _ (ofR (a ++ b)) = Sts.cons _ _ _ _ _ _ ((ofR a).app (ofR b)); rw [ofR_append a b]

theorem ofR_take : ∀ (k : Nat) (a : List StR), ofR (a.take k) = (ofR a).front k
  | 0, a => by rw [List.take_zero]; rfl
  | k + 1, [] => rfl
  | k + 1, q :: a => by rw [List.take_succ_cons]; unfold ofR Sts.front; rw [ofR_take k a]

theorem ofR_drop : ∀ (k : Nat) (a : List StR), ofR (a.drop k) = (ofR a).drop k
  | 0, a => by rw [List.drop_zero]; cases a <;> rfl
  | k + 1, [] => rfl
  | k + 1, q :: a => by rw [List.drop_succ_cons]; show ofR (a.drop k) = (ofR a).drop k; exact ofR_drop k a

/-- Other statements instead of some from k on. -/
def Sts.splice (s : Sts) (k m : Nat) (o : Sts) : Sts := (s.front k).app (o.app (s.drop m))

theorem Sts.app_size (a b : Sts) : (a.app b).size = a.size + b.size := by
  induction a with
  | nil => simp [Sts.app, Sts.size]
  | cons op x y n t e r iht ihe ihr => simp only [Sts.app, Sts.size, ihr]; omega

theorem Sts.front_size (s : Sts) : ∀ k, (s.front k).size ≤ s.size := by
  induction s with
  | nil => intro k; cases k <;> exact Nat.le_refl _
  | cons op x y n t e r iht ihe ihr =>
    intro k
    cases k with
    | zero => simp [Sts.front, Sts.size]
    | succ k => have := ihr k; simp only [Sts.front, Sts.size]; omega

theorem Sts.splice_size (s o : Sts) (k m : Nat) : (s.splice k m o).size ≤ s.size + o.size + s.size := by
  unfold Sts.splice
  rw [Sts.app_size, Sts.app_size]
  have h1 := s.front_size k
  have h2 := s.drop_size_le m
  omega

set_option maxRecDepth 100000 in
set_option maxHeartbeats 2000000 in
theorem withStmts_any (ts : List Int) (s o : Sts) (At As Ao : Option Addr) (ct cs co k cnt : Nat) (w : World) (hl : ts.length ≤ 100000) (hsz : s.size ≤ 30000) (hsz2 : o.size ≤ 30000) (hs0 : 0 < s.len) (hk : k + cnt ≤ s.len) (hO : RepV w 0 w.heap.size o Ao co) (hT : IntsV w 0 w.heap.size ts At ct) (hS : RepV w 0 w.heap.size s As cs) :
    Calls Try.prog 43 #[.agg #[.slice At ts.length ct, .slice As s.len cs], .int .i64 (k : Int), .int .i64 (cnt : Int), .slice Ao o.len co] w fun E w' => ∃ v, E = .returned v ∧ ProgA w' w.heap.size ts (s.splice k (k + cnt) o) v ∧ Below w.heap.size w w' := by
  obtain ⟨W, hW⟩ : ∃ W, (w.alloc (.cells #[.slice At ts.length ct, .slice As s.len cs] 29)).alloc (.cells #[.slice none 0 0, .slice none 0 0] 29) = W := ⟨_, rfl⟩
  have hbW : Below w.heap.size w W := by rw [← hW]; exact ((Below.refl _ _).alloc (Nat.le_refl _) _).alloc (by simp) _
  have hWz : w.heap.size + 2 = W.heap.size := by rw [← hW]; simp
  have hWP : W.heap[w.heap.size]? = some (.cells #[.slice At ts.length ct, .slice As s.len cs] 29 (0, 0)) := by
    rw [← hW]
    show ((w.heap.push _).push _)[w.heap.size]? = _
    simp only [Array.getElem?_push, Array.size_push]
    rw [if_neg (by omega), if_pos trivial]
  have hWR : W.heap[w.heap.size + 1]? = some (.cells #[.slice none 0 0, .slice none 0 0] 29 (0, 0)) := by
    rw [← hW]
    show ((w.heap.push _).push _)[w.heap.size + 1]? = _
    simp only [Array.getElem?_push, Array.size_push]
    rw [if_pos trivial]
  obtain ⟨us, hus, hsrc, hsub⟩ := rows_of (hS.below hbW hbW.size) (Nat.le_refl _)
  have hul : us.length = s.len := by rw [← hus, ofR_len]
  obtain ⟨vs, hvs, hvsrc, hvsub⟩ := rows_of (hO.below hbW hbW.size) (Nat.le_refl _)
  have hvl : vs.length = o.len := by rw [← hvs, ofR_len]
  have HVS := Lib.hid hvsrc
  have HVSUB := Lib.hid hvsub
  have hcoc := hvsrc.cap
  have hcom := hvsrc.most
  unfold maxLen at hcom
  obtain ⟨a, ha, ha2, _⟩ := hsrc.at_ (by omega)
  subst ha
  have hm2 := hsrc.most
  have hca := hsrc.cap
  unfold maxLen at hm2
  have HT := Lib.hid (hT.below hbW hbW.size)
  have HWR := Lib.hid hWR
  have hWle : w.heap.size + 2 ≤ W.heap.size := Nat.le_of_eq hWz
  have HF := Lib.hid (hsrc.front k)
  have HB := Lib.hid (hsrc.back (k + cnt) (by omega))
  have HSUB := Lib.hid hsub
  obtain ⟨n, hn⟩ : ∃ n, ts.length = n := ⟨_, rfl⟩
  obtain ⟨m, hm⟩ : ∃ m, s.len = m := ⟨_, rfl⟩
  have HN := Lib.hid hn
  have HM := Lib.hid hm
  obtain ⟨a2, ha2e⟩ : ∃ a2, (if cs = k + cnt then a else a.add ((k + cnt) * 6)) = a2 := ⟨_, rfl⟩
  rw [ha2e] at HB
  have hsl1 := fun X => slice_front (a := a) (n := m) (c := cs) (k := k) (by omega) (by omega) hm2 X
  have hsl2 := fun X => slice_back (a := a) (n := m) (c := cs) (m := k + cnt) (by omega) (by omega) hm2 X
  rw [ha2e] at hsl2
  have hk9 : (k : Int) + (cnt : Int) ≤ 1000000 := by have := s.len_le_size; omega
  have hkw : IntKind.i64.wrap ((k : Int) + (cnt : Int)) = (k : Int) + (cnt : Int) := by rw [IntKind.wrap_i64]; omega
  have hki : ((k : Int) + (cnt : Int)) = ((k + cnt : Nat) : Int) := by omega
  rw [← hki] at hsl2
  clear hki
  have hfl : (us.take k).length = k := by rw [List.length_take]; omega
  have hbl : (us.drop (k + cnt)).length = m - (k + cnt) := by rw [List.length_drop]; omega
  have hp0 : W.cell? ⟨w.heap.size, 0, none⟩ = some (.slice At n ct) := (cell_of_block hWP 0).trans (by rw [← hn]; rfl)
  have hp1 : W.cell? ⟨w.heap.size, 1, none⟩ = some (.slice (some a) m cs) := (cell_of_block hWP 1).trans (by rw [← hm]; rfl)
  rw [hn, hm] at hW ⊢
  rw [hn] at hl
  have HBW := Lib.hid hbW
  have z0 := (cell_of_block HWR.out 0).trans (show _ = some (.slice none 0 0) from rfl)
  have z1 := (cell_of_block HWR.out 1).trans (show _ = some (.slice none 0 0) from rfl)
  have hK0 : CoK w.heap.size (.slice At n ct) (.slice (some a) m cs) W := ⟨hp0, hp1, by rw [z0]; unfold heldC; rw [z0]; rfl, by rw [z1]; unfold heldC; rw [z1]; rfl, frozen_of_block HWR.out 0, frozen_of_block HWR.out 1⟩
  have hK0d : CoK w.heap.size (.slice At n ct) (.slice (some a) m cs) W.drew := hK0
  obtain ⟨q9, hq9⟩ : ∃ q, o.len = q := ⟨_, rfl⟩
  have HQ9 := Lib.hid hq9
  rw [hq9] at hvl ⊢
  first | rw [hq9] at hcoc | rw [hvl] at hcoc | skip
  obtain ⟨OB, hOB⟩ : ∃ OB, Obj.cells #[.slice (some a) k cs, .slice Ao q9 co, .slice (some a2) (m - (k + cnt)) (cs - (k + cnt))] 27 = OB := ⟨_, rfl⟩
  have hba : Below W.heap.size W (W.alloc OB) := (Below.refl _ _).alloc (Nat.le_refl _) _
  have hK1 : CoK w.heap.size (.slice At n ct) (.slice (some a) m cs) (W.alloc OB) := coK_below hK0 hba hWle
  have hK1d : CoK w.heap.size (.slice At n ct) (.slice (some a) m cs) (W.drew.alloc OB) := hK1
  have hK2d : CoK w.heap.size (.slice At n ct) (.slice (some a) m cs) (W.alloc OB).drew := hK1
  obtain ⟨D, hD⟩ : ∃ D, (s.splice k (k + cnt) o).len = D := ⟨_, rfl⟩
  have HD := Lib.hid hD
  have HCC : Hid (∀ X : World, X.heap = (W.alloc OB).heap → X.os = W.os → X.tape = W.tape → X.output = W.output → Calls Try.prog 54 #[.slice (some ⟨W.heap.size, 0, none⟩) 3 3] X fun E w' => ∃ (Av : Option Addr) (cv : Nat), E = .returned (.slice Av D cv) ∧ RepV w' 0 w'.heap.size (s.splice k (k + cnt) o) Av cv ∧ Below W.heap.size W w') := fun X hX h1 h2 h3 => by
    have hXz : X.heap.size = W.heap.size + 1 := by rw [hX]; simp
    have hXb : Below W.heap.size W X := ⟨h1, h2, h3, by omega, fun q hq => by rw [hX]; exact Below.heap_alloc _ _ _ hq⟩
    have hXc : X.heap[W.heap.size]? = some (.cells #[.slice (some a) k cs, .slice Ao q9 co, .slice (some a2) (m - (k + cnt)) (cs - (k + cnt))] 27 (0, 0)) := by rw [hX, ← hOB]; exact heap_alloc_new W _
    have hj : joinC [⟨some a, cs, us.take k⟩, ⟨Ao, co, vs⟩, ⟨some a2, cs - (k + cnt), us.drop (k + cnt)⟩] 3 = us.take k ++ (vs ++ us.drop (k + cnt)) := by simp [joinC]
    have hcat := concat_any [⟨some a, cs, us.take k⟩, ⟨Ao, co, vs⟩, ⟨some a2, cs - (k + cnt), us.drop (k + cnt)⟩] W.heap.size 3 X (by simp) (by simp) (by simp [maxLen]) (by omega) (fun j q hq => by
      rcases j with _ | _ | _ | j
      · simp only [List.getElem?_cons_zero, Option.some.injEq] at hq
        subst hq
        refine (cell_of_block hXc 0).trans ?_
        show some (Value.slice (some a) k cs) = some (.slice (some a) (us.take k).length cs)
        rw [hfl]
      · simp only [List.getElem?_cons_succ, List.getElem?_cons_zero, Option.some.injEq] at hq
        subst hq
        refine (cell_of_block hXc 1).trans ?_
        show some (Value.slice Ao q9 co) = some (.slice Ao vs.length co)
        rw [hvl]
      · simp only [List.getElem?_cons_succ, List.getElem?_cons_zero, Option.some.injEq] at hq
        subst hq
        refine (cell_of_block hXc 2).trans ?_
        show some (Value.slice (some a2) (m - (k + cnt)) (cs - (k + cnt))) = some (.slice (some a2) (us.drop (k + cnt)).length (cs - (k + cnt)))
        rw [hbl]
      · simp at hq) (fun q hq => by
      simp only [List.mem_cons, List.not_mem_nil, or_false] at hq
      rcases hq with rfl | rfl | rfl
      · exact HF.out.below hXb (Nat.le_refl _)
      · exact HVS.out.below hXb (Nat.le_refl _)
      · exact HB.out.below hXb (Nat.le_refl _)) (by
        show (joinC _ 3).length ≤ _
        rw [hj, List.length_append, List.length_append, hfl, hbl, hvl]
        have := s.len_le_size
        have := o.len_le_size
        omega)
    have hlen2 : [(⟨some a, cs, us.take k⟩ : CArg), ⟨Ao, co, vs⟩, ⟨some a2, cs - (k + cnt), us.drop (k + cnt)⟩].length = 3 := rfl
    rw [hlen2, hj] at hcat
    refine hcat.mono ?_
    rintro E w' ⟨v, rfl, hown, hb⟩
    obtain ⟨Av, cv, rfl, q1, q2, q3⟩ := own_form hown
    have hdel : ofR (us.take k ++ (vs ++ us.drop (k + cnt))) = s.splice k (k + cnt) o := by rw [ofR_append, ofR_append, ofR_take, ofR_drop, hus, hvs]; rfl
    have hwb : Below W.heap.size W w' := hXb.trans (hb.mono (by omega))
    refine ⟨Av, cv, by rw [← hD, ← hdel, ofR_len], ⟨by rw [← hdel, ofR_len]; exact q1, q2, fun h0 => ?_⟩, hwb⟩
    rw [← hdel, ofR_len] at h0
    obtain ⟨g, rfl, g1, g2⟩ := q3 h0
    refine ⟨_, rfl, Nat.zero_le _, g2, ?_⟩
    rw [← hdel]
    refine rep_of_cells _ _ (fun j u hj => World.ownsRow.cells hown (g := g) rfl j u hj) fun r hr => ?_
    have hr2 : r ∈ us ∨ r ∈ vs := by
      rcases List.mem_append.1 hr with hr | hr
      · exact .inl (List.mem_of_mem_take hr)
      · rcases List.mem_append.1 hr with hr | hr
        · exact .inr hr
        · exact .inl (List.mem_of_mem_drop hr)
    rcases hr2 with hr2 | hr2
    · exact ⟨(HSUB.out r hr2).1.below hwb hwb.size, (HSUB.out r hr2).2.below hwb hwb.size⟩
    · exact ⟨(HVSUB.out r hr2).1.below hwb hwb.size, (HVSUB.out r hr2).2.below hwb hwb.size⟩
  clear hO hvsrc hvsub hvs hvl hq9 hWP hWR hT hS hWz hbW hp0 hp1 z0 z1 hsrc hsub HF HB hn hm hus hul hfl hbl ha2 hba
  go_enter Try.func43, Try.ntmps43
  go_upto_region 1 with (fail)
  clear hW
  have HPP : Hid (∀ (X : World) (Av : Option Addr) (cv : Nat), Below W.heap.size W X → RepV X 0 X.heap.size (s.splice k (k + cnt) o) Av cv → Calls Try.prog 82 #[.agg #[.slice At n ct, .slice Av D cv]] X fun E w' => ∃ (A A' : Option Addr) (c c' : Nat), E = .returned (.agg #[.slice A n c, .slice A' D c']) ∧ ProgA w' X.heap.size ts (s.splice k (k + cnt) o) (.agg #[.slice A n c, .slice A' D c']) ∧ Below X.heap.size X w') := fun X Av cv hX hR => by
    have hd := s.splice_size o k (k + cnt)
    have := copyProgram_any ts (s.splice k (k + cnt) o) At Av ct cv X (by rw [HN.out]; exact hl) (by omega) (HT.out.below hX hX.size) hR
    rw [HN.out, HD.out] at this
    refine this.mono ?_
    rintro E w' ⟨v, rfl, hA, hb⟩
    have hA2 := hA
    obtain ⟨A, A', c, c', lo, hi, rfl, _⟩ := hA
    rw [HN.out, HD.out] at hA2 ⊢
    exact ⟨A, A', c, c', rfl, hA2, hb⟩
  go_region_held3 (CoK w.heap.size (.slice At n ct) (.slice (some a) m cs))
    (first | with_reducible exact hK0 | with_reducible exact hK0d | with_reducible exact hK1 | with_reducible exact hK1d | with_reducible exact hK2d | with_reducible exact hK3 | with_reducible exact hK4 | with_reducible exact coK_put hK4)
    (first
      | (go_at_call 54; refine (HCC.out _ ?hx ?ho ?ht ?hu).mono ?_; (case hx => rfl); (case ho => rfl); (case ht => rfl); (case hu => rfl); rintro E wc ⟨Av, cv, rfl, hR, hbc⟩; have hK3 := coK_below hK0 hbc hWle))
  have p0c : wc.cell? ⟨w.heap.size, 0, none⟩ = some (.slice At n ct) := hK3.1
  clear hK0 hK0d hK1 hK1d hK2d hK3 hsl1 hsl2
  go_wp2_with fail
  refine (HPP.out _ _ _ hbc hR).mono ?_
  rintro E wd ⟨Ap, Ap', cp, cp', rfl, hA, hbd⟩
  have hXw : Below W.heap.size W wd := hbc.trans (hbd.mono hbc.size)
  have hX := (hXw.block (w.heap.size + 1) (by omega)).trans HWR.out
  have z0 : wd.cell? ⟨w.heap.size + 1, 0, none⟩ = some (.slice none 0 0) := (cell_of_block hX 0).trans rfl
  have z1 : wd.cell? ⟨w.heap.size + 1, 1, none⟩ = some (.slice none 0 0) := (cell_of_block hX 1).trans rfl
  have y0 := frozen_of_block hX 0
  have y1 := frozen_of_block hX 1
  have hzc := hbc.size
  have hzd := hbd.size
  have HA := Lib.hid (ProgA.mono (hA.keep (w' := (wd.setCell ⟨w.heap.size + 1, 0, none⟩ (.slice Ap n cp)).setCell ⟨w.heap.size + 1, 1, none⟩ (.slice Ap' D cp')) (by simp [World.setCell]) fun q q1 q2 => (Below.heap_setCell _ _ _ _ (by show q ≠ w.heap.size + 1; omega)).trans (Below.heap_setCell _ _ _ _ (by show q ≠ w.heap.size + 1; omega))) (show w.heap.size ≤ wc.heap.size by omega))
  have hB := Lib.hid (((HBW.out.trans (hXw.mono (by omega))).setCell (p := ⟨w.heap.size + 1, 0, none⟩) (by simp) (.slice Ap n cp)).setCell (p := ⟨w.heap.size + 1, 1, none⟩) (by simp) (.slice Ap' D cp'))
  clear hX hXw hA hR hbc hbd hzc hzd
  go_wp2_with fail
  exact bodyPost_ret (v := .agg #[.slice Ap n cp, .slice Ap' D cp']) (by simp [results, Try.results43, go_sem, z0, z1]) rfl ⟨_, rfl, HA.out, hB.out⟩

end Go.Proofs.Ytcpmodkplikmcaa
