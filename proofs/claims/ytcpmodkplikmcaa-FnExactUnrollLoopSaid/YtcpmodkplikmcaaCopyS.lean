/-
  The copies that the laws make, once more: none of their new memory is frozen.
-/
import Derived.Test.YtcpmodkplikmcaaCopy0
namespace Go.Proofs.Ytcpmodkplikmcaa
open Go.RowKit Go.Deep
set_option linter.unusedVariables false

/-- No cell from block lo on is frozen. -/
def Soft (lo : Nat) (w : World) : Prop := ∀ k o, lo ≤ k → w.frozen? ⟨k, o, none⟩ = false

theorem Soft.start (w : World) : Soft w.heap.size w := fun k o hk => by simp [World.frozen?, Array.getElem?_eq_none hk]

theorem Soft.alloc {lo : Nat} {w : World} (h : Soft lo w) (cs : Array Value) (T : TypeId) : Soft lo (w.alloc (.cells cs T)) := by
  intro k o hk
  rcases Nat.lt_trichotomy k w.heap.size with hlt | rfl | hgt
  · have : (w.alloc (.cells cs T)).frozen? ⟨k, o, none⟩ = w.frozen? ⟨k, o, none⟩ := World.frozen?_of_block (Below.heap_alloc _ _ k hlt)
    rw [this]
    exact h k o hk
  · exact frozen_of_block (heap_alloc_new w _) o
  · have : (w.alloc (.cells cs T)).heap[k]? = none := Array.getElem?_eq_none (by simp; omega)
    simp [World.frozen?, this]

theorem Soft.setCell {lo : Nat} {w : World} (h : Soft lo w) (a : Addr) (u : Value) : Soft lo (w.setCell a u) := by
  intro k o hk
  rw [World.frozen?_setCell]
  exact h k o hk

theorem Soft.glue {lo : Nat} {w w' : World} (h : Soft lo w) (hb : Below w.heap.size w w') (h2 : Soft w.heap.size w') : Soft lo w' := by
  intro k o hk
  rcases Nat.lt_or_ge k w.heap.size with hlt | hge
  · have : w'.frozen? ⟨k, o, none⟩ = w.frozen? ⟨k, o, none⟩ := World.frozen?_of_block (hb.block k hlt)
    rw [this]
    exact h k o hk
  · exact h2 k o hge

set_option maxHeartbeats 400000 in
theorem toIntS_s (xs : List Int) (A : Option Addr) (c : Nat) (w : World) (hl : xs.length ≤ 1048576) (hR : IntsV w 0 w.heap.size xs A c) :
    Calls Try.prog 25 #[.slice A xs.length c] w fun e w' => e = .returned (.slice (some ⟨w.heap.size, 0, none⟩) xs.length xs.length) ∧ IntsV w' w.heap.size w'.heap.size xs (some ⟨w.heap.size, 0, none⟩) xs.length ∧ Below w.heap.size w w' ∧ Soft w.heap.size w' := by
  have hmk := run_make_row' (P := Try.prog) 22 3 (.int .i64 0) 8 Try.underlying22 Try.infoInt rfl .i64 .i64 xs.length (by omega) (by omega)
  have hsf0 : Hid (Soft w.heap.size (w.alloc (.cells (madeCells #[Value.int .i64 0] xs.length) 3))) := (Soft.start w).alloc _ _
  have hst := FillI.start w 3 xs
  go_enter Try.func25, Try.ntmps25
  go_wp2_with fail
  go_loopw [4] (fun i wr => ∃ k : Nat, k ≤ xs.length ∧ i = .int .i64 k ∧ FillI w.heap.size w wr 3 xs k ∧ Hid (Soft w.heap.size wr)) (fun i _ => xs.length - (intOf i).toNat)
  case atStart => exact ⟨0, Nat.zero_le _, rfl, hst, hsf0⟩
  case round =>
    obtain ⟨k, hk, rfl, hF, hsf⟩ := hrel
    clear hst hmk hsf0
    by_cases hlt : k < xs.length
    · obtain ⟨b, v, rfl, -, hbb, hx, hc⟩ := (hR.below hF.1 (Nat.le_refl _)).elem hlt
      obtain ⟨u, hu⟩ := hF.cell hlt
      have hfz := hF.frozen k
      have HX := Lib.hid hx
      clear hx
      go_wp2_with fail
      go_roundw
      case rel => exact ⟨k + 1, by omega, by go_num, hF.set_ HX.out, hsf.out.setCell _ _⟩
      case measure => simp [intOf]; omega
    · have hk' : k = xs.length := by omega
      subst hk'
      go_wp2_with fail
      go_ret
      exact ⟨rfl, hF.done (by unfold maxLen; omega), hF.1, hsf.out⟩

set_option maxHeartbeats 1000000 in
theorem toStmt_s (op x y n : Int) (t e : Sts) (At Ae : Option Addr) (ct ce : Nat) (w : World)
    (Ht : ∀ (w' : World), Below w.heap.size w w' → Calls Try.prog 40 #[.slice At t.len ct] w' (fun E w2 => StsPost w' t E w2 ∧ Soft w'.heap.size w2))
    (He : ∀ (w' : World), Below w.heap.size w w' → Calls Try.prog 40 #[.slice Ae e.len ce] w' (fun E w2 => StsPost w' e E w2 ∧ Soft w'.heap.size w2)) :
    Calls Try.prog 81 #[.agg #[.int .i64 op, .int .i64 x, .int .i64 y, .int .i64 n, .slice At t.len ct, .slice Ae e.len ce]] w (fun E w' => StmtPost w op x y n t e E w' ∧ Soft w.heap.size w') := by
  go_enter Try.func81, Try.ntmps81
  go_wp2_with fail
  refine (Ht _ ((((Below.refl _ _).alloc (Nat.le_refl _) _).alloc (by simp) _).alloc (by simp; omega) _)).mono ?_
  rintro E w1 ⟨⟨g1, hg1, rfl, hR1, hb1⟩, hsfa⟩
  have HSF1 := Lib.hid (((((Soft.start w).alloc _ _).alloc _ _).alloc _ _).glue hb1 hsfa)
  clear hsfa
  obtain ⟨q1, q2, q3, q4⟩ := heap3 w _ _ _
  rw [q4] at hg1 hR1 hb1
  have hB1 := (hb1.block w.heap.size (by omega)).trans q1
  have hB2 := (hb1.block (w.heap.size + 1) (by omega)).trans q2
  have hB3 := (hb1.block (w.heap.size + 2) (by omega)).trans q3
  have hs1 := hb1.size
  rw [q4] at hs1
  have hb : Below w.heap.size w w1 := ((((Below.refl _ _).alloc (Nat.le_refl _) _).alloc (by simp) _).alloc (by simp; omega) _).trans (hb1.mono (by omega))
  clear q1 q2 q3 q4 hb1
  have c5 : w1.cell? ⟨w.heap.size, 5, none⟩ = some (.slice Ae e.len ce) := (cell_of_block hB1 5).trans rfl
  have v4 : w1.cell? ⟨w.heap.size + 2, 4, none⟩ = some (.slice none 0 0) := (cell_of_block hB3 4).trans rfl
  have f4 := frozen_of_block hB3 4
  have HB2 := Lib.hid hB2
  have HB3 := Lib.hid hB3
  have HR1 := Lib.hid hR1
  clear hB1 hB2 hB3 hR1
  go_wp2_with fail
  have hb' : Below w.heap.size w (w1.setCell ⟨w.heap.size + 1 + 1, 4, none⟩ (.slice (some ⟨g1, 0, none⟩) t.len t.len)) := hb.setCell (by simp; omega) _
  refine (He _ hb').mono ?_
  rintro E w2 ⟨⟨g2, hg2, rfl, hR2, hb2⟩, hsfb⟩
  have HSF2 := Lib.hid ((HSF1.out.setCell _ _).glue hb2 hsfb)
  clear hsfb
  have hz : (w1.setCell ⟨w.heap.size + 1 + 1, 4, none⟩ (.slice (some ⟨g1, 0, none⟩) t.len t.len)).heap.size = w1.heap.size := by simp [World.setCell]
  rw [hz] at hg2 hR2 hb2
  have hB3 := (hb2.block (w.heap.size + 2) (by omega)).trans (block_set HB3.out 4 _)
  have hB2 := (hb2.block (w.heap.size + 1) (by omega)).trans ((Below.heap_setCell w1 ⟨w.heap.size + 1 + 1, 4, none⟩ _ _ (by simp)).trans HB2.out)
  have hR1 : RepV w2 (w.heap.size + 3) w1.heap.size t (some ⟨g1, 0, none⟩) t.len := HR1.out.keep (Nat.le_refl _) (Nat.le_refl _) fun p hp hp' =>
    (hb2.cell hp').trans (World.cell?_setCell_other w1 _ p _ (fun e => by subst e; simp at hp <;> omega))
  have hs2 := hb2.size
  rw [hz] at hs2
  have hbb : Below w.heap.size w w2 := hb'.trans (hb2.mono (by omega))
  clear hb2 hb' hz HB2 HB3 HR1 c5 v4 f4 hb
  have v0 : w2.cell? ⟨w.heap.size + 2, 0, none⟩ = some (.int .i64 op) := (cell_of_block hB3 0).trans rfl
  have v1 : w2.cell? ⟨w.heap.size + 2, 1, none⟩ = some (.int .i64 x) := (cell_of_block hB3 1).trans rfl
  have v2 : w2.cell? ⟨w.heap.size + 2, 2, none⟩ = some (.int .i64 y) := (cell_of_block hB3 2).trans rfl
  have v3 : w2.cell? ⟨w.heap.size + 2, 3, none⟩ = some (.int .i64 n) := (cell_of_block hB3 3).trans rfl
  have v4 : w2.cell? ⟨w.heap.size + 2, 4, none⟩ = some (.slice (some ⟨g1, 0, none⟩) t.len t.len) := (cell_of_block hB3 4).trans rfl
  have v5 : w2.cell? ⟨w.heap.size + 2, 5, none⟩ = some (.slice none 0 0) := (cell_of_block hB3 5).trans rfl
  have r0 : w2.cell? ⟨w.heap.size + 1, 0, none⟩ = some (.int .i64 0) := (cell_of_block hB2 0).trans rfl
  have r1 : w2.cell? ⟨w.heap.size + 1, 1, none⟩ = some (.int .i64 0) := (cell_of_block hB2 1).trans rfl
  have r2 : w2.cell? ⟨w.heap.size + 1, 2, none⟩ = some (.int .i64 0) := (cell_of_block hB2 2).trans rfl
  have r3 : w2.cell? ⟨w.heap.size + 1, 3, none⟩ = some (.int .i64 0) := (cell_of_block hB2 3).trans rfl
  have r4 : w2.cell? ⟨w.heap.size + 1, 4, none⟩ = some (.slice none 0 0) := (cell_of_block hB2 4).trans rfl
  have r5 : w2.cell? ⟨w.heap.size + 1, 5, none⟩ = some (.slice none 0 0) := (cell_of_block hB2 5).trans rfl
  have f5 := frozen_of_block hB3 5
  have fr0 := frozen_of_block hB2 0
  have fr1 := frozen_of_block hB2 1
  have fr2 := frozen_of_block hB2 2
  have fr3 := frozen_of_block hB2 3
  have fr4 := frozen_of_block hB2 4
  have fr5 := frozen_of_block hB2 5
  have HR1 := Lib.hid hR1
  have HR2 := Lib.hid hR2
  clear hB2 hB3 hR1 hR2
  go_wp2_with fail
  refine bodyPost_ret (v := .agg #[.int .i64 op, .int .i64 x, .int .i64 y, .int .i64 n, .slice (some ⟨g1, 0, none⟩) t.len t.len, .slice (some ⟨g2, 0, none⟩) e.len e.len]) (by simp [results, Try.results81, go_sem, r0, r1, r2, r3, r4, r5]) rfl ⟨⟨g1, g2, rfl, ?_, ?_, ?_⟩, ((((((HSF2.out.setCell _ _).setCell _ _).setCell _ _).setCell _ _).setCell _ _).setCell _ _).setCell _ _⟩
  · refine HR1.out.keep (by omega) (by simp [World.setCell]; omega) fun p hp _ => ?_
    rw [World.cell?_setCell_other _ _ _ _ (fun e => by subst e; simp at hp <;> omega), World.cell?_setCell_other _ _ _ _ (fun e => by subst e; simp at hp <;> omega), World.cell?_setCell_other _ _ _ _ (fun e => by subst e; simp at hp <;> omega),
      World.cell?_setCell_other _ _ _ _ (fun e => by subst e; simp at hp <;> omega), World.cell?_setCell_other _ _ _ _ (fun e => by subst e; simp at hp <;> omega), World.cell?_setCell_other _ _ _ _ (fun e => by subst e; simp at hp <;> omega),
      World.cell?_setCell_other _ _ _ _ (fun e => by subst e; simp at hp <;> omega)]
  · refine HR2.out.keep (by omega) (by simp [World.setCell]) fun p hp _ => ?_
    rw [World.cell?_setCell_other _ _ _ _ (fun e => by subst e; simp at hp <;> omega), World.cell?_setCell_other _ _ _ _ (fun e => by subst e; simp at hp <;> omega), World.cell?_setCell_other _ _ _ _ (fun e => by subst e; simp at hp <;> omega),
      World.cell?_setCell_other _ _ _ _ (fun e => by subst e; simp at hp <;> omega), World.cell?_setCell_other _ _ _ _ (fun e => by subst e; simp at hp <;> omega), World.cell?_setCell_other _ _ _ _ (fun e => by subst e; simp at hp <;> omega),
      World.cell?_setCell_other _ _ _ _ (fun e => by subst e; simp at hp <;> omega)]
  · exact ((((((hbb.setCell (by simp; omega) _).setCell (by simp) _).setCell (by simp) _).setCell (by simp) _).setCell (by simp) _).setCell (by simp) _).setCell (by simp) _

set_option maxHeartbeats 1000000 in
theorem toStmtS_s (N : Nat) : ∀ (s : Sts) (A : Option Addr) (c : Nat) (w : World), s.size < N → s.size ≤ 1048576 → RepV w 0 w.heap.size s A c →
    Calls Try.prog 40 #[.slice A s.len c] w (fun E w' => StsPost w s E w' ∧ Soft w.heap.size w') := by
  induction N with
  | zero => intro s A c w h; omega
  | succ N ih =>
    intro s A c w hN hM hR
    have hls := s.len_le_size
    have hmk := run_make_rows (P := Try.prog) 27 53 _ #[.int .i64 0, .int .i64 0, .int .i64 0, .int .i64 0, .slice none 0 0, .slice none 0 0] 6 80 Try.underlying27 Try.infoStmt rfl .i64 .i64 s.len (by omega) (by omega)
    have hsf0 : Hid (Soft w.heap.size (w.alloc (.cells (madeCells #[.int .i64 0, .int .i64 0, .int .i64 0, .int .i64 0, .slice none 0 0, .slice none 0 0] (s.len * 6)) 53))) := (Soft.start w).alloc _ _
    have hst := FillS.start w 53 s #[.int .i64 0, .int .i64 0, .int .i64 0, .int .i64 0, .slice none 0 0, .slice none 0 0]
    go_enter Try.func40, Try.ntmps40
    go_wp2_with fail
    go_loopw [4] (fun i wr => ∃ k : Nat, k ≤ s.len ∧ i = .int .i64 k ∧ FillS w.heap.size w wr 53 s k ∧ Hid (Soft w.heap.size wr)) (fun i _ => s.len - (intOf i).toNat)
    case atStart => exact ⟨0, Nat.zero_le _, rfl, hst, hsf0⟩
    case round =>
      obtain ⟨k, hk, rfl, hF, hsf⟩ := hrel
      clear hst hmk hsf0
      by_cases hlt : k < s.len
      · obtain ⟨b, op, x, y, n, t, e, rfl, -, hbb, hd, At, ct, Ae, ce, ⟨h0, h1, h2, h3, h4, h5⟩, hRt, hRe⟩ := (hR.below hF.1 hF.1.size).elem hlt
        have hz := RepV.drop_sizes hd
        have HD := Lib.hid hd
        clear hd
        have hFl := hF.lt
        go_wp2_with fail
        refine (toStmt_s op x y n t e At Ae ct ce _ (fun w' hb' => ih t At ct w' (by omega) (by omega) (hRt.below hb' hb'.size)) (fun w' hb' => ih e Ae ce w' (by omega) (by omega) (hRe.below hb' hb'.size))).mono ?_
        rintro E w1 ⟨⟨g1, g2, rfl, hR1, hR2, hb1⟩, hsfa⟩
        have HSF1 := Lib.hid (hsf.out.glue hb1 hsfa)
        clear hsfa
        obtain ⟨⟨u0, hu0⟩, hf0⟩ := hF.cell hlt hb1 0 (by omega)
        obtain ⟨⟨u1, hu1⟩, hf1⟩ := hF.cell hlt hb1 1 (by omega)
        obtain ⟨⟨u2, hu2⟩, hf2⟩ := hF.cell hlt hb1 2 (by omega)
        obtain ⟨⟨u3, hu3⟩, hf3⟩ := hF.cell hlt hb1 3 (by omega)
        obtain ⟨⟨u4, hu4⟩, hf4⟩ := hF.cell hlt hb1 4 (by omega)
        obtain ⟨⟨u5, hu5⟩, hf5⟩ := hF.cell hlt hb1 5 (by omega)
        rw [Nat.add_zero] at hu0 hf0
        have HS := Lib.hid (hF.set_ hlt HD.out hb1 hR1 hR2)
        have HF := Lib.hid hF
        have H1 := Lib.hid hR1
        have H2 := Lib.hid hR2
        have H3 := Lib.hid hb1
        clear hF hR1 hR2 hb1 hRt hRe hR h0 h1 h2 h3 h4 h5
        go_wp2_with fail
        go_roundw
        case rel => exact ⟨k + 1, by omega, by go_num, HS.out, (((((HSF1.out.setCell _ _).setCell _ _).setCell _ _).setCell _ _).setCell _ _).setCell _ _⟩
        case measure => simp [intOf]; omega
      · have hk' : k = s.len := by omega
        subst hk'
        go_wp2_with fail
        go_ret
        exact ⟨⟨w.heap.size, Nat.le_refl _, rfl, (hF.2.2.mono (Nat.le_succ _)).repV (Nat.le_refl _) hF.lt (by unfold maxLen; omega), hF.1⟩, hsf.out⟩
set_option maxHeartbeats 1000000 in
theorem toProgram_s (ts : List Int) (s : Sts) (At As : Option Addr) (ct cs : Nat) (w : World) (hl : ts.length ≤ 1048576) (hM : s.size ≤ 1048576) (hT : IntsV w 0 w.heap.size ts At ct) (hR : RepV w 0 w.heap.size s As cs) :
    Calls Try.prog 13 #[.agg #[.slice At ts.length ct, .slice As s.len cs]] w (fun E w' => ProgPost w ts s E w' ∧ Soft w.heap.size w') := by
  go_enter Try.func13, Try.ntmps13
  go_wp2_with fail
  have hb0 := ((((Below.refl w.heap.size w).alloc (Nat.le_refl _) (.cells #[.slice At ts.length ct, .slice As s.len cs] 25)).alloc (by simp) (.cells #[.slice none 0 0, .slice none 0 0] 29)).alloc (by simp; omega) (.cells #[.slice none 0 0, .slice none 0 0] 29))
  refine (toIntS_s ts At ct _ hl (hT.below hb0 (by simp; omega))).mono ?_
  rintro E w1 ⟨rfl, hR1, hb1, hsfa⟩
  have HSF1 := Lib.hid (((((Soft.start w).alloc _ _).alloc _ _).alloc _ _).glue hb1 hsfa)
  clear hsfa
  obtain ⟨q1, q2, q3, q4⟩ := heap3 w (.cells #[.slice At ts.length ct, .slice As s.len cs] 25) (.cells #[.slice none 0 0, .slice none 0 0] 29) (.cells #[.slice none 0 0, .slice none 0 0] 29)
  rw [q4] at hR1 hb1 ⊢
  have hB1 := (hb1.block w.heap.size (by omega)).trans q1
  have hB2 := (hb1.block (w.heap.size + 1) (by omega)).trans q2
  have hB3 := (hb1.block (w.heap.size + 2) (by omega)).trans q3
  have hs1 := hb1.size
  rw [q4] at hs1
  have hb : Below w.heap.size w w1 := hb0.trans (hb1.mono (by omega))
  clear q1 q2 q3 q4 hb1 hb0
  have c1 : w1.cell? ⟨w.heap.size, 1, none⟩ = some (.slice As s.len cs) := (cell_of_block hB1 1).trans rfl
  have v0 : w1.cell? ⟨w.heap.size + 2, 0, none⟩ = some (.slice none 0 0) := (cell_of_block hB3 0).trans rfl
  have f0 := frozen_of_block hB3 0
  have HB2 := Lib.hid hB2
  have HB3 := Lib.hid hB3
  have HR1 := Lib.hid hR1
  clear hB1 hB2 hB3 hR1
  go_wp2_with fail
  have hb' : Below w.heap.size w (w1.setCell ⟨w.heap.size + 1 + 1, 0, none⟩ (.slice (some ⟨w.heap.size + 3, 0, none⟩) ts.length ts.length)) := hb.setCell (by simp; omega) _
  refine (toStmtS_s (s.size + 1) s As cs _ (by omega) hM (hR.below hb' hb'.size)).mono ?_
  rintro E w2 ⟨⟨g2, hg2, rfl, hR2, hb2⟩, hsfb⟩
  have HSF2 := Lib.hid ((HSF1.out.setCell _ _).glue hb2 hsfb)
  clear hsfb
  have hz : (w1.setCell ⟨w.heap.size + 1 + 1, 0, none⟩ (.slice (some ⟨w.heap.size + 3, 0, none⟩) ts.length ts.length)).heap.size = w1.heap.size := by simp [World.setCell]
  rw [hz] at hg2 hR2 hb2
  have hB3 := (hb2.block (w.heap.size + 2) (by omega)).trans (block_set HB3.out 0 _)
  have hB2 := (hb2.block (w.heap.size + 1) (by omega)).trans ((Below.heap_setCell w1 ⟨w.heap.size + 1 + 1, 0, none⟩ _ _ (by simp)).trans HB2.out)
  have hR1 : IntsV w2 (w.heap.size + 3) w1.heap.size ts (some ⟨w.heap.size + 3, 0, none⟩) ts.length := HR1.out.keep (Nat.le_refl _) (Nat.le_refl _) fun p hp hp' =>
    (hb2.cell hp').trans (World.cell?_setCell_other w1 _ p _ (fun e => by subst e; simp at hp <;> omega))
  have hs2 := hb2.size
  rw [hz] at hs2
  have hbb : Below w.heap.size w w2 := hb'.trans (hb2.mono (by omega))
  clear hb2 hb' hz HB2 HB3 HR1 c1 v0 f0 hb
  have v0 : w2.cell? ⟨w.heap.size + 2, 0, none⟩ = some (.slice (some ⟨w.heap.size + 3, 0, none⟩) ts.length ts.length) := (cell_of_block hB3 0).trans rfl
  have v1 : w2.cell? ⟨w.heap.size + 2, 1, none⟩ = some (.slice none 0 0) := (cell_of_block hB3 1).trans rfl
  have r0 : w2.cell? ⟨w.heap.size + 1, 0, none⟩ = some (.slice none 0 0) := (cell_of_block hB2 0).trans rfl
  have r1 : w2.cell? ⟨w.heap.size + 1, 1, none⟩ = some (.slice none 0 0) := (cell_of_block hB2 1).trans rfl
  have f1 := frozen_of_block hB3 1
  have fr0 := frozen_of_block hB2 0
  have fr1 := frozen_of_block hB2 1
  have HR1 := Lib.hid hR1
  have HR2 := Lib.hid hR2
  clear hB2 hB3 hR1 hR2
  go_wp2_with fail
  refine bodyPost_ret (v := .agg #[.slice (some ⟨w.heap.size + 3, 0, none⟩) ts.length ts.length, .slice (some ⟨g2, 0, none⟩) s.len s.len]) (by simp [results, Try.results13, go_sem, r0, r1]) rfl ⟨⟨w.heap.size + 3, g2, rfl, ?_, ?_, ?_⟩, ((HSF2.out.setCell _ _).setCell _ _).setCell _ _⟩
  · refine HR1.out.keep (by omega) (by simp [World.setCell]; omega) fun p hp _ => ?_
    rw [World.cell?_setCell_other _ _ _ _ (fun e => by subst e; simp at hp <;> omega), World.cell?_setCell_other _ _ _ _ (fun e => by subst e; simp at hp <;> omega), World.cell?_setCell_other _ _ _ _ (fun e => by subst e; simp at hp <;> omega)]
  · refine HR2.out.keep (by omega) (by simp [World.setCell]) fun p hp _ => ?_
    rw [World.cell?_setCell_other _ _ _ _ (fun e => by subst e; simp at hp <;> omega), World.cell?_setCell_other _ _ _ _ (fun e => by subst e; simp at hp <;> omega), World.cell?_setCell_other _ _ _ _ (fun e => by subst e; simp at hp <;> omega)]
  · exact ((hbb.setCell (by simp; omega) _).setCell (by simp) _).setCell (by simp) _

end Go.Proofs.Ytcpmodkplikmcaa
