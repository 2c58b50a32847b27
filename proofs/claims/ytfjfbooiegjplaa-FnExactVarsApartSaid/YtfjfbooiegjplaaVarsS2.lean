/-
  The variables of a statement, as the model lists them.
-/
import Derived.Test.YtfjfbooiegjplaaVarsS
import Derived.Deep.RegionHeld3
namespace Go.Proofs.Ytfjfbooiegjplaa
open Go.RowKit Go.Deep
set_option linter.unusedVariables false

/-- The box of the statement. -/
abbrev BoxS (B : Nat) (op x y n : Int) (a4 a5 : Value) (w : World) : Prop := w.cell? ⟨B, 0, none⟩ = some (.int .i64 op) ∧ w.cell? ⟨B, 1, none⟩ = some (.int .i64 x) ∧ w.cell? ⟨B, 2, none⟩ = some (.int .i64 y) ∧ w.cell? ⟨B, 3, none⟩ = some (.int .i64 n) ∧ w.cell? ⟨B, 4, none⟩ = some a4 ∧ w.cell? ⟨B, 5, none⟩ = some a5

theorem boxS_block {B : Nat} {op x y n : Int} {a4 a5 : Value} {w w' : World} (h : BoxS B op x y n a4 a5 w) (hb : w'.heap[B]? = w.heap[B]?) : BoxS B op x y n a4 a5 w' := by
  have e : ∀ o, w'.cell? ⟨B, o, none⟩ = w.cell? ⟨B, o, none⟩ := fun o => World.cell?_of_block (w := w) (a := ⟨B, o, none⟩) hb
  obtain ⟨h0, h1, h2, h3, h4, h5⟩ := h
  exact ⟨(e 0).trans h0, (e 1).trans h1, (e 2).trans h2, (e 3).trans h3, (e 4).trans h4, (e 5).trans h5⟩

set_option maxRecDepth 100000 in
set_option maxHeartbeats 4000000 in
theorem specVarsOf_any (op x y n : Int) (t e : Sts) (At Ae : Option Addr) (ct ce : Nat) (w : World) (hT : RepV w 0 w.heap.size t At ct) (hE : RepV w 0 w.heap.size e Ae ce) (hsz : 1 + t.size + e.size ≤ 1500000) :
    Calls Try.prog 10 #[.agg #[.int .i64 op, .int .i64 x, .int .i64 y, .int .i64 n, .slice At t.len ct, .slice Ae e.len ce]] w fun E w' =>
      ∃ v, E = .returned v ∧ RowI w' w.heap.size v (outV (fun v => ownB op x y v || varS t v || varS e v) 6) ∧ Below w.heap.size w w' := by
  obtain ⟨i0, hi0, hz0, hz1, hz2⟩ := info_parts Try.infoInt
  have HI := Lib.hid hi0
  have HZ0 := Lib.hid hz0
  have HZ1 := Lib.hid hz1
  have HZ2 := Lib.hid hz2
  clear hi0 hz0 hz1 hz2
  obtain ⟨wb, hwb⟩ : ∃ z, (w.alloc (.cells #[.int .i64 op, .int .i64 x, .int .i64 y, .int .i64 n, .slice At t.len ct, .slice Ae e.len ce] 30)).alloc (.cells #[] 3) = z := ⟨_, rfl⟩
  have hbw : Below w.heap.size w wb := by rw [← hwb]; exact ((Below.refl _ _).alloc (Nat.le_refl _) _).alloc (by simp) _
  have hwz : wb.heap.size = w.heap.size + 2 := by rw [← hwb]; simp
  have hbx : wb.heap[w.heap.size]? = some (.cells #[.int .i64 op, .int .i64 x, .int .i64 y, .int .i64 n, .slice At t.len ct, .slice Ae e.len ce] 30 (0, 0)) := by
    rw [← hwb]
    exact (Below.heap_alloc _ _ _ (by simp)).trans (heap_alloc_new w _)
  have hrow : RowI wb w.heap.size (.slice (some ⟨w.heap.size + 1, 0, none⟩) 0 0) [] := by
    rw [← hwb]
    have := World.ownsRow_lit (base := w.heap.size) (e := 3) (size := 1) (w.alloc (.cells #[.int .i64 op, .int .i64 x, .int .i64 y, .int .i64 n, .slice At t.len ct, .slice Ae e.len ce] 30)) #[] 0 (by simp) (by simp [maxLen]) rfl
    have hz : (w.alloc (.cells #[.int .i64 op, .int .i64 x, .int .i64 y, .int .i64 n, .slice At t.len ct, .slice Ae e.len ce] 30)).heap.size = w.heap.size + 1 := by simp
    rw [hz] at this
    exact this
  have HBW := Lib.hid hbw
  have HROW := Lib.hid hrow
  have HT := Lib.hid (hT.keep (w' := wb) (Nat.le_refl _) (Nat.le_refl _) fun p _ hp => hbw.cell (by omega))
  have HE := Lib.hid (hE.keep (w' := wb) (Nat.le_refl _) (Nat.le_refl _) fun p _ hp => hbw.cell (by omega))
  have hS0 : BoxS w.heap.size op x y n (.slice At t.len ct) (.slice Ae e.len ce) wb := ⟨(cell_of_block hbx 0).trans rfl, (cell_of_block hbx 1).trans rfl, (cell_of_block hbx 2).trans rfl, (cell_of_block hbx 3).trans rfl, (cell_of_block hbx 4).trans rfl, (cell_of_block hbx 5).trans rfl⟩
  have hmk : ∀ w : World, (Instr.makeSlice 57 (.int .i64 6) (.int .i64 6)).run Try.prog w = .ok (.slice (some ⟨w.heap.size, 0, none⟩) 6 6) (w.alloc (.cells (flagsA fun _ => false) 4)) := fun _ => by kernel_rfl
  have HFL : Hid (∀ W : World, FlagsAt (W.alloc (.cells (flagsA fun _ => false) 4)) W.heap.size 4 fun _ => false) := fun W => heap_alloc_new W _
  obtain ⟨FL, hFL⟩ : ∃ z, (flagsA fun _ => false) = z := ⟨_, rfl⟩
  rw [hFL] at hmk HFL
  clear hFL
  clear hT hE hbw hbx hrow
  go_enter Try.func10, Try.ntmps10
  go_upto_region 2 with (fail)
  clear hwb
  have hS0d : BoxS w.heap.size op x y n (.slice At t.len ct) (.slice Ae e.len ce) wb.drew := hS0
  have hS1 : BoxS w.heap.size op x y n (.slice At t.len ct) (.slice Ae e.len ce) (wb.alloc (.cells FL 4)) := boxS_block hS0 (Below.heap_alloc _ _ _ (by omega))
  have hS1d : BoxS w.heap.size op x y n (.slice At t.len ct) (.slice Ae e.len ce) (wb.drew.alloc (.cells FL 4)) := boxS_block hS0d (Below.heap_alloc _ _ _ (by show _ < wb.heap.size; omega))
  have hS2d : BoxS w.heap.size op x y n (.slice At t.len ct) (.slice Ae e.len ce) (wb.alloc (.cells FL 4)).drew := hS1
  have HL : Hid (∀ W : World, W.heap = (wb.alloc (.cells FL 4)).heap → Calls Try.prog 32 #[.slice (some ⟨w.heap.size + 2, 0, none⟩) 6 6, .agg #[.int .i64 op, .int .i64 x, .int .i64 y, .int .i64 n, .slice At t.len ct, .slice Ae e.len ce]] W fun E w' => E = .returned (.slice (some ⟨w.heap.size + 2, 0, none⟩) 6 6) ∧ FlagsAt w' (w.heap.size + 2) 4 (fun v => ownB op x y v || varS t v || varS e v) ∧ Keeps (fun k => k < w.heap.size + 2) W w') := fun W hW => by
    have hb : ∀ p : Addr, p.block < wb.heap.size → W.cell? p = wb.cell? p := fun p hp => World.cell?_of_block (w := wb) (by rw [hW]; exact Below.heap_alloc _ _ _ hp)
    have hz : W.heap.size = wb.heap.size + 1 := by rw [hW]; simp
    refine (l1Uses_any (2 + t.size + e.size) op x y n t e At Ae ct ce w.heap.size (w.heap.size + 2) (fun _ => false) W (by omega) hsz (HT.out.keep (Nat.le_refl _) (Nat.le_refl _) fun p _ hp => hb p (by omega)) (HE.out.keep (Nat.le_refl _) (Nat.le_refl _) fun p _ hp => hb p (by omega)) (by omega) (by omega) (by unfold FlagsAt; rw [hW, ← hwz]; exact HFL.out wb)).mono ?_
    rintro E w' ⟨h1, h2, h3⟩
    exact ⟨h1, h2.congr fun v hv => by simp, h3.weak fun k hk => ⟨by omega, by omega⟩⟩
  obtain ⟨q0, q1, q2, q3, q4, q5⟩ := hS0
  go_cut [4] (fun s4 wx => s4 = .slice (some ⟨w.heap.size + 2, 0, none⟩) 6 6 ∧ Hid (FlagsAt wx (w.heap.size + 2) 4 (fun v => ownB op x y v || varS t v || varS e v)) ∧ Hid (Keeps (fun k => k < w.heap.size + 2) (wb.alloc (.cells FL 4)).drew wx))
  case first =>
    go_region_with ((go_at_call 32; refine (HL.out (wb.alloc (.cells FL 4)).drew rfl).mono ?_; rintro E w1 ⟨rfl, hF1, hK1⟩))
    all_goals (go_wp2_with fail; go_meet; exact ⟨rfl, hF1, hK1⟩)
  obtain ⟨rfl, hF1, hK1⟩ := hcut
  have hF1 := hF1.out
  have hK1 := hK1.out
  obtain ⟨w1, hw1e⟩ : ∃ z, wc = z := ⟨_, rfl⟩
  rw [hw1e] at hF1 hK1 ⊢
  have hw1 : w.heap.size + 3 ≤ w1.heap.size := by have := hK1.size; simp at this; omega
  have HB1 : Hid (Below w.heap.size w w1) := ⟨hK1.os.trans HBW.out.os, hK1.tape.trans HBW.out.tape, hK1.output.trans HBW.out.output, by omega, fun k hk => (hK1.block k (by omega)).trans ((Below.heap_alloc _ _ _ (by omega)).trans (HBW.out.block k hk))⟩
  have HR1 : Hid (RowI w1 w.heap.size (.slice (some ⟨w.heap.size + 1, 0, none⟩) 0 0) []) := HROW.out.keep fun g hg => by
    have hg2 : g = w.heap.size + 1 := by simpa [Value.ownBlock] using hg.symm
    exact (hK1.block g (by omega)).trans (Below.heap_alloc _ _ _ (by omega))
  obtain ⟨R, hR⟩ : ∃ R : Nat → Bool, (fun v => ownB op x y v || varS t v || varS e v) = R := ⟨_, rfl⟩
  rw [hR] at hF1
  have HR := Lib.hid hR
  have HF1 := Lib.hid hF1
  have HO1 : Hid (∀ g, (Value.slice (some ⟨w.heap.size + 1, 0, none⟩) 0 0).ownBlock = some g → g ≠ w.heap.size + 2) := fun g hg => by
    have hg2 : g = w.heap.size + 1 := by simpa [Value.ownBlock] using hg.symm
    omega
  clear hR hF1 hK1 q0 q1 q2 q3 q4 q5 hS0d hS1 hS1d hS2d HL hmk
  go_wp2_with fail
  go_loopw [3, 5] (fun q i wr => ∃ j : Nat, j ≤ 6 ∧ i = .int .i64 j ∧ Hid (RowI wr w.heap.size q (outV R j)) ∧ Hid (Below w.heap.size w wr) ∧ Hid (FlagsAt wr (w.heap.size + 2) 4 R) ∧ Hid (∀ g, q.ownBlock = some g → g ≠ w.heap.size + 2)) (fun _ i _ => 6 - (intOf i).toNat)
  case atStart => exact ⟨0, Nat.zero_le _, rfl, HR1, HB1, HF1, HO1⟩
  case round =>
    obtain ⟨j, hj, rfl, hrow, hb, hfl, hoff⟩ := hrel
    clear HB1 HR1 HF1 HO1
    by_cases hlt : j < 6
    · have hcj := hfl.out.cell hlt
      have hbz := hb.out.size
      have hlen := outV_len R j
      have hsuc := Lib.hid (outV_succ R j)
      obtain ⟨os, hos⟩ : ∃ os, outV R j = os := ⟨_, rfl⟩
      rw [hos] at hrow hlen hsuc
      clear hos
      cases hRj : R j
      · rw [hRj] at hcj
        have hs2 : Hid (outV R (j + 1) = os) := by unfold Hid; rw [hsuc.out, hRj]; rfl
        go_wp2_with fail
        go_roundw
        case rel => exact ⟨j + 1, by omega, by go_num, by rw [hs2.out]; exact hrow, hb, hfl, hoff⟩
        case measure => simp [intOf]; omega
      · rw [hRj] at hcj
        have hs2 : Hid (outV R (j + 1) = os ++ [(j : Int)]) := by unfold Hid; rw [hsuc.out, hRj]; rfl
        go_wp2_with (at_builtin; refine wpList_append_lies _ rfl _ _ 26 rfl w.heap.size 3 i0 (.int .i64 0) 1 8 Try.underlying26 HI.out HZ0.out HZ1.out HZ2.out rfl (by decide) _ _ _ rfl ((RowI.own hrow.out).alloc _) ⟨_, 0, none⟩ 1 1 [.int .i64 (j : Int)] rfl rfl ?la1 ?la2 (by decide) ?la3 ?la4 ?la5 _ rfl ?_)
        try (case la1 => exact news1 (by simp) rfl)
        try (case la2 => intro u hu; simp only [List.mem_cons, List.not_mem_nil, or_false] at hu; subst hu; rfl)
        try (case la3 => unfold maxLen; omega)
        try (case la4 => omega)
        try (case la5 => simp; omega)
        intro g2 cap2 w' hown' hgr hat hlt'
        have hb' := Lib.hid ((hb.out.alloc hbz (.cells #[Value.int .i64 (j : Int)] 3)).grown hgr (by simp; omega) (fun g hg' => ((RowI.own hrow.out).lt g hg').1))
        have HR' : Hid (RowI w' w.heap.size (.slice (some ⟨g2, 0, none⟩) (os.length + 1) cap2) (os ++ [(j : Int)])) := RowI.snoc hown'
        have hlf := heap_lt hfl.out
        have hfl' : Hid (FlagsAt w' (w.heap.size + 2) 4 R) := (hgr.block _ (by simp; omega) (fun e => hoff.out _ e.symm rfl)).trans ((Below.heap_alloc _ _ _ hlf).trans hfl.out)
        have hoff' : Hid (∀ g, (Value.slice (some ⟨g2, 0, none⟩) (os.length + 1) cap2).ownBlock = some g → g ≠ w.heap.size + 2) := fun g hg e => by
          have hg2 : g2 = g := by simpa [Value.ownBlock] using hg
          rcases hat with h | h
          · exact hoff.out g (by rw [h, hg2]) e
          · try simp at h
            omega
        clear hown' hgr hat
        go_wp2_with fail
        go_roundw
        case rel => exact ⟨j + 1, by omega, by go_num, by rw [hs2.out]; exact HR', hb', hfl', hoff'⟩
        case measure => simp [intOf]; omega
    · obtain rfl : j = 6 := by omega
      go_wp2_with fail
      go_ret
      exact ⟨_, rfl, by rw [HR.out]; exact hrow.out, hb.out⟩

end Go.Proofs.Ytfjfbooiegjplaa
