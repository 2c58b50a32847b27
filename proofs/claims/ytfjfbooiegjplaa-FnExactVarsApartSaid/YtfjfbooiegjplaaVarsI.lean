/-
  The variables of a statement, as the program collects them.
-/
import Derived.Test.YtfjfbooiegjplaaEachP
namespace Go.Proofs.Ytfjfbooiegjplaa
open Go.RowKit Go.Deep
set_option linter.unusedVariables false

/-- The variables that are marked, in order. -/
def outV (F : Nat → Bool) (n : Nat) : List Int := ((List.range n).filter F).map Int.ofNat

theorem outV_succ (F : Nat → Bool) (n : Nat) : outV F (n + 1) = if F n = true then outV F n ++ [(n : Int)] else outV F n := by
  unfold outV
  rw [List.range_succ, List.filter_append, List.map_append]
  cases h : F n
  · simp [h]
  · simp [h]

theorem outV_len (F : Nat → Bool) (n : Nat) : (outV F n).length ≤ n := by
  unfold outV
  rw [List.length_map]
  exact Nat.le_trans (List.length_filter_le _ _) (Nat.le_of_eq (List.length_range))

theorem outV_congr {F G : Nat → Bool} {n : Nat} (h : ∀ v, v < n → F v = G v) : outV F n = outV G n := by
  unfold outV
  rw [List.filter_congr (q := G) fun v hv => h v (List.mem_range.1 hv)]

theorem run_index_flags (F : Nat → Bool) (X : Nat) (hX : X < 6) (w : World) : (Instr.index 60 (.agg (flagsA F)) (.int .i64 (X : Int))).run Try.prog w = .ok (.bool (F X)) w := by
  unfold flagsA
  rcases X with _ | _ | _ | _ | _ | _ | X
  · kernel_rfl
  · kernel_rfl
  · kernel_rfl
  · kernel_rfl
  · kernel_rfl
  · kernel_rfl
  · omega

set_option maxRecDepth 100000 in
set_option maxHeartbeats 4000000 in
theorem implVarsOf_any (op x y n : Int) (t e : Sts) (At Ae : Option Addr) (ct ce lo hi : Nat) (w : World) (hT : RepV w lo hi t At ct) (hE : RepV w lo hi e Ae ce) (hH : hi ≤ w.heap.size) (hsoft : ∀ p : Addr, lo ≤ p.block → p.block < hi → w.frozen? p = false) (hsz : 1 + t.size + e.size ≤ 1500000) :
    Calls Try.prog 12 #[.agg #[.int .i64 op, .int .i64 x, .int .i64 y, .int .i64 n, .slice At t.len ct, .slice Ae e.len ce]] w fun E w' =>
      ∃ v, E = .returned v ∧ RowI w' w.heap.size v (outV (fun v => ownB op x y v || varS t v || varS e v) 6) ∧ Below w.heap.size w w' := by
  obtain ⟨i0, hi0, hz0, hz1, hz2⟩ := info_parts Try.infoInt
  have HI := Lib.hid hi0
  have HZ0 := Lib.hid hz0
  have HZ1 := Lib.hid hz1
  have HZ2 := Lib.hid hz2
  clear hi0 hz0 hz1 hz2
  obtain ⟨wb, hwb⟩ : ∃ z, (w.alloc (.cells #[.int .i64 op, .int .i64 x, .int .i64 y, .int .i64 n, .slice At t.len ct, .slice Ae e.len ce] 30)).alloc (.cells #[.bool false, .bool false, .bool false, .bool false, .bool false, .bool false] 60) = z := ⟨_, rfl⟩
  have hbw : Below w.heap.size w wb := by rw [← hwb]; exact ((Below.refl _ _).alloc (Nat.le_refl _) _).alloc (by simp) _
  have hwz : wb.heap.size = w.heap.size + 2 := by rw [← hwb]; simp
  have hF0 : FlagsAt wb (w.heap.size + 1) 60 fun _ => false := by
    rw [← hwb]
    have := heap_alloc_new (w.alloc (.cells #[.int .i64 op, .int .i64 x, .int .i64 y, .int .i64 n, .slice At t.len ct, .slice Ae e.len ce] 30)) (.cells #[.bool false, .bool false, .bool false, .bool false, .bool false, .bool false] 60)
    have hz : (w.alloc (.cells #[.int .i64 op, .int .i64 x, .int .i64 y, .int .i64 n, .slice At t.len ct, .slice Ae e.len ce] 30)).heap.size = w.heap.size + 1 := by simp
    rw [hz] at this
    exact this
  have hbx : wb.heap[w.heap.size]? = some (.cells #[.int .i64 op, .int .i64 x, .int .i64 y, .int .i64 n, .slice At t.len ct, .slice Ae e.len ce] 30 (0, 0)) := by
    rw [← hwb]
    exact (Below.heap_alloc _ _ _ (by simp)).trans (heap_alloc_new w _)
  have hep := eachPart_any op x y n t e At Ae ct ce lo hi (w.heap.size + 1) 60 wb (hT.keep (Nat.le_refl _) (Nat.le_refl _) fun p _ hp => hbw.cell (by omega)) (hE.keep (Nat.le_refl _) (Nat.le_refl _) fun p _ hp => hbw.cell (by omega)) (by omega) (by omega) hF0
    (fun p h1 h2 => (hbw.frozen (by omega)).trans (hsoft p h1 h2)) hsz
  have HBW := Lib.hid hbw
  have b0 : wb.cell? ⟨w.heap.size, 0, none⟩ = some (.int .i64 op) := (cell_of_block hbx 0).trans rfl
  have b1 : wb.cell? ⟨w.heap.size, 1, none⟩ = some (.int .i64 x) := (cell_of_block hbx 1).trans rfl
  have b2 : wb.cell? ⟨w.heap.size, 2, none⟩ = some (.int .i64 y) := (cell_of_block hbx 2).trans rfl
  have b3 : wb.cell? ⟨w.heap.size, 3, none⟩ = some (.int .i64 n) := (cell_of_block hbx 3).trans rfl
  have b4 : wb.cell? ⟨w.heap.size, 4, none⟩ = some (.slice At t.len ct) := (cell_of_block hbx 4).trans rfl
  have b5 : wb.cell? ⟨w.heap.size, 5, none⟩ = some (.slice Ae e.len ce) := (cell_of_block hbx 5).trans rfl
  clear hT hE hsoft hbw hF0 hbx
  go_enter Try.func12, Try.ntmps12
  go_wp2_with fail
  clear hwb
  refine hep.mono ?_
  rintro E w1 ⟨rfl, hF1, hK1⟩
  obtain ⟨R, hR⟩ : ∃ R : Nat → Bool, (fun v => ownB op x y v || varS t v || varS e v) = R := ⟨_, rfl⟩
  rw [hR] at hF1
  have f0 := hF1.cell (X := 0) (by omega)
  have f1 := hF1.cell (X := 1) (by omega)
  have f2 := hF1.cell (X := 2) (by omega)
  have f3 := hF1.cell (X := 3) (by omega)
  have f4 := hF1.cell (X := 4) (by omega)
  have f5 := hF1.cell (X := 5) (by omega)
  have HB1 : Hid (Below w.heap.size w w1) := ⟨hK1.os.trans HBW.out.os, hK1.tape.trans HBW.out.tape, hK1.output.trans HBW.out.output, by have := hK1.size; omega, fun k hk => (hK1.block k ⟨by omega, by omega⟩).trans (HBW.out.block k hk)⟩
  have HR := Lib.hid hR
  have hw1 : w.heap.size + 2 ≤ w1.heap.size := by have := hK1.size; omega
  clear hep hF1 hK1 b0 b1 b2 b3 b4 b5 hR
  go_wp2_with fail
  clear f0 f1 f2 f3 f4 f5
  go_loopw [4, 11] (fun q i wr => ∃ j : Nat, j ≤ 6 ∧ i = .int .i64 j ∧ Hid (RowI wr w.heap.size q (outV R j)) ∧ Hid (Below w.heap.size w wr)) (fun _ i _ => 6 - (intOf i).toNat)
  case atStart => exact ⟨0, Nat.zero_le _, rfl, World.ownsRow_nil w1 w.heap.size 3 1, HB1⟩
  case round =>
    obtain ⟨j, hj, rfl, hrow, hb⟩ := hrel
    clear HB1
    by_cases hlt : j < 6
    · have hix : ∀ W, (Instr.index 60 (.agg #[.bool (R 0), .bool (R 1), .bool (R 2), .bool (R 3), .bool (R 4), .bool (R 5)]) (.int .i64 (j : Int))).run Try.prog W = .ok (.bool (R j)) W := fun W => run_index_flags R j hlt W
      have hbz := hb.out.size
      have hlen := outV_len R j
      have hsuc := Lib.hid (outV_succ R j)
      obtain ⟨os, hos⟩ : ∃ os, outV R j = os := ⟨_, rfl⟩
      rw [hos] at hrow hlen hsuc
      clear hos
      cases hRj : R j
      · rw [hRj] at hix
        have hs2 : Hid (outV R (j + 1) = os) := by unfold Hid; rw [hsuc.out, hRj]; rfl
        go_wp2_with fail
        go_roundw
        case rel => exact ⟨j + 1, by omega, by go_num, by rw [hs2.out]; exact hrow, hb⟩
        case measure => simp [intOf]; omega
      · rw [hRj] at hix
        have hs2 : Hid (outV R (j + 1) = os ++ [(j : Int)]) := by unfold Hid; rw [hsuc.out, hRj]; rfl
        go_wp2_with (at_builtin; refine wpList_append_own _ rfl _ _ 26 rfl w.heap.size 3 i0 (.int .i64 0) 1 8 Try.underlying26 HI.out HZ0.out HZ1.out HZ2.out rfl (by decide) _ _ _ rfl ((RowI.own hrow.out).alloc _) ⟨_, 0, none⟩ 1 1 [.int .i64 (j : Int)] rfl rfl ?ra1 ?ra2 ?ra3 ?ra4 ?ra5 ?_)
        try (case ra1 => exact news1 (by simp) rfl)
        try (case ra2 => intro u hu; simp only [List.mem_cons, List.not_mem_nil, or_false] at hu; subst hu; rfl)
        try (case ra3 => unfold maxLen; omega)
        try (case ra4 => omega)
        try (case ra5 => simp; omega)
        intro v' w' hown' hgr hne
        have hb' := Lib.hid ((hb.out.alloc hbz (.cells #[Value.int .i64 (j : Int)] 3)).grown hgr (by simp; omega) (fun g hg' => ((RowI.own hrow.out).lt g hg').1))
        have HR' : Hid (RowI w' w.heap.size v' (os ++ [(j : Int)])) := RowI.snoc hown'
        clear hown' hgr hne
        go_wp2_with fail
        go_roundw
        case rel => exact ⟨j + 1, by omega, by go_num, by rw [hs2.out]; exact HR', hb'⟩
        case measure => simp [intOf]; omega
    · obtain rfl : j = 6 := by omega
      go_wp2_with fail
      go_ret
      exact ⟨_, rfl, by rw [HR.out]; exact hrow.out, hb.out⟩

end Go.Proofs.Ytfjfbooiegjplaa
