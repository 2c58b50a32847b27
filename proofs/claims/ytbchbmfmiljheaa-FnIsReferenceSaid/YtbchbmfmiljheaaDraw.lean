/-
  The model's first draw out of a row of bytes: an element of a list of seven numbers.
-/
import Derived.Test.YtbchbmfmiljheaaRows
import Derived.Test.YtbchbmfmiljheaaData
import Derived.Test.YtbchbmfmiljheaaCopy
import Derived.WalkKit
import Derived.WalkSpells
import Derived.Lib.Hide
import Derived.Deep.QuietTactic
import Derived.BigQuiet
namespace Go.Proofs.Ytbchbmfmiljheaa
open Go.RowKit Go.Deep
set_option linter.unusedVariables false

/-- A slice reads as bytes. -/
def BytesV (w : World) (hi n : Nat) (A : Option Addr) (c : Nat) : Prop :=
  n ≤ c ∧ c ≤ maxLen ∧ (0 < n → ∃ b, A = some b ∧ b.block < hi ∧ ∀ j, j < n → ∃ v : Int, w.cell? (b.add j) = some (.int .u8 v) ∧ 0 ≤ v ∧ v ≤ 255)

theorem BytesV.below {w w' : World} {hi hi' n : Nat} {A : Option Addr} {c : Nat} (h : BytesV w hi n A c) (hb : Below hi w w') (hhi : hi ≤ hi') : BytesV w' hi' n A c :=
  ⟨h.1, h.2.1, fun hn => by
    obtain ⟨b, rfl, hbb, hc⟩ := h.2.2 hn
    exact ⟨b, rfl, by omega, fun j hj => by
      obtain ⟨v, hv, h0, h1⟩ := hc j hj
      exact ⟨v, (hb.cell (by rw [block_add]; exact hbb)).trans hv, h0, h1⟩⟩⟩

/-- What the first draw leaves: a number below m, and everything below block R as it was. -/
def PickPost (R : Nat) (m : Int) (w : World) (E : Ending) (w' : World) : Prop :=
  ∃ v : Int, 0 ≤ v ∧ v < m ∧ E = .returned (.int .i64 v) ∧ Below R w w' ∧ (∀ k, k ≠ R → w'.heap[k]? = w.heap[k]?)

set_option maxRecDepth 100000 in
set_option maxHeartbeats 1000000 in
theorem pick_first (R n c : Nat) (A : Option Addr) (m : Int) (w : World) (hm : 1 ≤ m) (hm2 : m ≤ 1000) (hR : w.heap[R]? = some (.cells #[.slice A n c, .int .i64 0] 100 (0, 0))) (hB : BytesV w R n A c) :
    Calls Try.prog 56 #[.pointer (some ⟨R, 0, none⟩), .int .i64 m] w (PickPost R m w) := by
  have hnc := hB.1
  have hcm := hB.2.1
  unfold maxLen at hcm
  have c0 : w.cell? ⟨R, 0, none⟩ = some (.slice A n c) := (cell_of_block hR 0).trans rfl
  have c1 : w.cell? ⟨R, 1, none⟩ = some (.int .i64 0) := (cell_of_block hR 1).trans rfl
  have f1 := frozen_of_block hR 1
  have hset : Below R w (w.setCell ⟨R, 1, none⟩ (.int .i64 1)) := (Below.refl R w).setCell (p := ⟨R, 1, none⟩) (Nat.le_refl R) _
  have hoth : ∀ k, k ≠ R → (w.setCell ⟨R, 1, none⟩ (.int .i64 1)).heap[k]? = w.heap[k]? := fun k hk => Below.heap_setCell _ _ _ _ hk
  have HS := Lib.hid hset
  have HO := Lib.hid hoth
  clear hset hoth hR
  by_cases hn : n = 0
  · subst hn
    go_enter Try.func56, Try.ntmps56
    go_wp2_with fail
    go_ret
    exact ⟨0, by omega, by omega, rfl, HS.out, HO.out⟩
  · obtain ⟨b, rfl, hbb, hcell⟩ := hB.2.2 (by omega)
    obtain ⟨v, hv, hv0, hv1⟩ := hcell 0 (by omega)
    have hvb : w.cell? b = some (.int .u8 v) := by simpa [Addr.add] using hv
    have hv' : (w.setCell ⟨R, 1, none⟩ (.int .i64 1)).cell? b = some (.int .u8 v) := (World.cell?_setCell_other _ _ _ _ (fun e => by subst e; simp at hbb)).trans hvb
    have hn' : ((n : Int) == 0) = false := by simp; omega
    have hnp : (0 : Int) < n := by omega
    have hmod : 0 ≤ v % m ∧ v % m < m := ⟨Int.emod_nonneg _ (by omega), Int.emod_lt_of_pos _ (by omega)⟩
    obtain ⟨hmod0, hmod1⟩ := hmod
    clear hcell hv hvb
    go_enter Try.func56, Try.ntmps56
    go_wp2_with fail
    go_ret
    exact ⟨v % m, hmod0, hmod1, rfl, HS.out, HO.out⟩

/-- A new row of bytes to draw from: its block is the last one. -/
def OpenPost (w : World) (E : Ending) (w' : World) : Prop :=
  ∃ (R n c : Nat) (A : Option Addr), E = .returned (.pointer (some ⟨R, 0, none⟩)) ∧ R = w.heap.size ∧ w'.heap[R]? = some (.cells #[.slice A n c, .int .i64 0] 100 (0, 0)) ∧ BytesV w' R n A c ∧ Below R w w'

set_option maxRecDepth 100000 in
set_option maxHeartbeats 1000000 in
theorem open_any (n c : Nat) (A : Option Addr) (w : World) (hB : BytesV w w.heap.size n A c) :
    Calls Try.prog 52 #[.slice A n c] w (OpenPost w) := by
  have hnc := hB.1
  have hcm := hB.2.1
  unfold maxLen at hcm
  by_cases hn : n ≤ 2000
  · have hb := (Below.refl w.heap.size w).alloc (Nat.le_refl _) (.cells #[.slice A n c, .int .i64 0] 100)
    have hp : OpenPost w (.returned (.pointer (some ⟨w.heap.size, 0, none⟩))) (w.alloc (.cells #[.slice A n c, .int .i64 0] 100)) := ⟨w.heap.size, n, c, A, rfl, rfl, heap_alloc_new w _, hB.below hb (Nat.le_refl _), hb⟩
    have HP := Lib.hid hp
    clear hb hp hB
    go_enter Try.func52, Try.ntmps52
    go_wp2_with fail
    go_ret
    exact HP.out
  · have hn2 : 2000 < n := by omega
    have hB2 : BytesV w w.heap.size 2000 A c := ⟨by omega, hB.2.1, fun _ => by
      obtain ⟨b, rfl, hbb, hc⟩ := hB.2.2 (by omega)
      exact ⟨b, rfl, hbb, fun j hj => hc j (by omega)⟩⟩
    have hb := (Below.refl w.heap.size w).alloc (Nat.le_refl _) (.cells #[.slice A 2000 c, .int .i64 0] 100)
    have hp : OpenPost w (.returned (.pointer (some ⟨w.heap.size, 0, none⟩))) (w.alloc (.cells #[.slice A 2000 c, .int .i64 0] 100)) := ⟨w.heap.size, 2000, c, A, rfl, rfl, heap_alloc_new w _, hB2.below hb (Nat.le_refl _), hb⟩
    have HP := Lib.hid hp
    clear hb hp hB hB2
    go_enter Try.func52, Try.ntmps52
    go_wp2_with fail
    go_ret
    exact HP.out

def DrawPost (w : World) (E : Ending) (w' : World) : Prop :=
  ∃ v : Int, -1 ≤ v ∧ v ≤ 5 ∧ E = .returned (.int .i64 v) ∧ Below w.heap.size w w'

def NumPost (R : Nat) (w : World) (E : Ending) (w' : World) : Prop :=
  ∃ v : Int, -1 ≤ v ∧ v ≤ 5 ∧ E = .returned (.int .i64 v) ∧ Below R w w'

set_option maxRecDepth 100000 in
set_option maxHeartbeats 2000000 in
theorem num_first (R Q n c : Nat) (A : Option Addr) (w : World) (hQ : w.heap[Q]? = some (.cells #[.int .i64 1, .int .i64 2, .int .i64 3, .int .i64 4, .int .i64 0, .int .i64 5, .int .i64 (-1)] 3 (0, 0))) (hRQ : R < Q) (hR : w.heap[R]? = some (.cells #[.slice A n c, .int .i64 0] 100 (0, 0))) (hB : BytesV w R n A c) :
    Calls Try.prog 55 #[.pointer (some ⟨R, 0, none⟩), .slice (some ⟨Q, 0, none⟩) 7 7] w (NumPost R w) := by
  have HQ := Lib.hid hQ
  have HR := Lib.hid hR
  clear hQ hR
  go_enter Try.func55, Try.ntmps55
  go_wp2_with fail
  refine (pick_first R n c A 7 _ (by omega) (by omega) HR.out hB).mono ?_
  rintro E w1 ⟨v, hv0, hv7, rfl, hb1, ho1⟩
  have hQ1 := (ho1 Q (by omega)).trans HQ.out
  clear ho1
  by_cases h0 : v = 0
  · subst h0
    have q : w1.cell? ⟨Q, 0, none⟩ = some (.int .i64 (1)) := (cell_of_block hQ1 0).trans rfl
    clear hQ1
    go_wp2_with fail
    go_ret
    exact ⟨1, by omega, by omega, rfl, hb1⟩
  by_cases h1 : v = 1
  · subst h1
    have q : w1.cell? ⟨Q, 1, none⟩ = some (.int .i64 (2)) := (cell_of_block hQ1 1).trans rfl
    clear hQ1
    go_wp2_with fail
    go_ret
    exact ⟨2, by omega, by omega, rfl, hb1⟩
  by_cases h2 : v = 2
  · subst h2
    have q : w1.cell? ⟨Q, 2, none⟩ = some (.int .i64 (3)) := (cell_of_block hQ1 2).trans rfl
    clear hQ1
    go_wp2_with fail
    go_ret
    exact ⟨3, by omega, by omega, rfl, hb1⟩
  by_cases h3 : v = 3
  · subst h3
    have q : w1.cell? ⟨Q, 3, none⟩ = some (.int .i64 (4)) := (cell_of_block hQ1 3).trans rfl
    clear hQ1
    go_wp2_with fail
    go_ret
    exact ⟨4, by omega, by omega, rfl, hb1⟩
  by_cases h4 : v = 4
  · subst h4
    have q : w1.cell? ⟨Q, 4, none⟩ = some (.int .i64 (0)) := (cell_of_block hQ1 4).trans rfl
    clear hQ1
    go_wp2_with fail
    go_ret
    exact ⟨0, by omega, by omega, rfl, hb1⟩
  by_cases h5 : v = 5
  · subst h5
    have q : w1.cell? ⟨Q, 5, none⟩ = some (.int .i64 (5)) := (cell_of_block hQ1 5).trans rfl
    clear hQ1
    go_wp2_with fail
    go_ret
    exact ⟨5, by omega, by omega, rfl, hb1⟩
  obtain rfl : v = 6 := by omega
  have q : w1.cell? ⟨Q, 6, none⟩ = some (.int .i64 (-1)) := (cell_of_block hQ1 6).trans rfl
  clear hQ1
  go_wp2_with fail
  go_ret
  exact ⟨-1, by omega, by omega, rfl, hb1⟩

set_option maxRecDepth 100000 in
set_option maxHeartbeats 2000000 in
theorem drawIsReference_any (n c : Nat) (A : Option Addr) (w : World) (hB : BytesV w w.heap.size n A c) :
    Calls Try.prog 21 #[.slice A n c] w (DrawPost w) := by
  go_enter Try.func21, Try.ntmps21
  go_wp2_with fail
  refine (open_any n c A _ hB).mono ?_
  rintro E w1 ⟨R, n1, c1, A1, rfl, hRe, hR, hB1, hb1⟩
  have hRlt := heap_lt hR
  subst hRe
  have HR := Lib.hid hR
  clear hR
  go_wp2_with fail
  have hba := (Below.refl w1.heap.size w1).alloc (Nat.le_refl _) (.cells #[.int .i64 1, .int .i64 2, .int .i64 3, .int .i64 4, .int .i64 0, .int .i64 5, .int .i64 (-1)] 3)
  have hRa := (hba.block w.heap.size hRlt).trans HR.out
  refine (num_first w.heap.size w1.heap.size n1 c1 A1 _ (heap_alloc_new w1 _) hRlt hRa (hB1.below (hba.mono (by omega)) (Nat.le_refl _))).mono ?_
  rintro E w2 ⟨v, hv0, hv5, rfl, hb2⟩
  have hb := hb1.trans ((hba.mono (by omega)).trans hb2)
  clear hRa hba hb1 hb2
  go_wp2_with fail
  go_ret
  exact ⟨v, hv0, hv5, rfl, hb⟩

end Go.Proofs.Ytbchbmfmiljheaa
