/-
  The model's draws of a number of a list, and a new source.
-/
import Derived.Test.YtcaklhempmlpgaaD1D
namespace Go.Proofs.Ytcaklhempmlpgaa
open Go.RowKit Go.Deep
set_option linter.unusedVariables false

set_option maxRecDepth 100000 in
set_option maxHeartbeats 1000000 in
/-- One of a list of numbers. -/
theorem num_any (R P Q : Nat) (L : List Int) (w : World) (hQ : w.heap[Q]? = some (.cells (L.map (Value.int .i64)).toArray 3 (0, 0))) (hRQ : R ≠ Q) (hL : 1 ≤ L.length) (hL2 : L.length ≤ 1000) (h : SrcV w R P) (hP : P ≤ 100000) :
    Calls Try.prog 23 #[.pointer (some ⟨R, 0, none⟩), .slice (some ⟨Q, 0, none⟩) L.length L.length] w fun E w' => ∃ v ∈ L, E = .returned (.int .i64 v) ∧ SrcV w' R (P + 1) ∧ One R w w' := by
  obtain ⟨n, hn⟩ : ∃ n, L.length = n := ⟨_, rfl⟩
  have HQ := Lib.hid hQ
  have HN := Lib.hid hn
  have HP := Lib.hid (pick_any R P (n : Int) w (by omega) (by omega) h hP)
  rw [hn] at hL hL2 ⊢
  clear hQ h hn
  go_enter Try.func23, Try.ntmps23
  go_wp2_with fail
  refine HP.out.mono ?_
  rintro E w1 ⟨v, hv, rfl, hs, ho⟩
  have hvn : v < n := by omega
  have hvL : v < L.length := by rw [HN.out]; exact hvn
  have hc : w1.cell? ⟨Q, v, none⟩ = some (.int .i64 L[v]) := by
    rw [cell_of_block ((ho.block Q (fun e => hRQ e.symm)).trans HQ.out)]
    simp [hvL]
  have HS := Lib.hid hs
  have HO := Lib.hid ho
  obtain ⟨z, hz⟩ : ∃ z, L[v] = z := ⟨_, rfl⟩
  rw [hz] at hc
  have HZ : Hid (z ∈ L) := by rw [← hz]; exact List.getElem_mem hvL
  clear hs ho hz hvL
  go_wp2_with fail
  go_ret
  exact ⟨z, HZ.out, rfl, HS.out, HO.out⟩

/-- A new source of draws: its block is the last one. -/
def OpenP (w : World) (E : Ending) (w' : World) : Prop := E = .returned (.pointer (some ⟨w.heap.size, 0, none⟩)) ∧ SrcV w' w.heap.size 0 ∧ Below w.heap.size w w'

set_option maxRecDepth 100000 in
set_option maxHeartbeats 400000 in
theorem l17Open_any (n c : Nat) (A : Option Addr) (w : World) (hB : ByteV w w.heap.size n A c) :
    Calls Try.prog 20 #[.slice A n c] w (OpenP w) := by
  have hnc := hB.1
  have hcm := hB.2.1
  unfold maxLen at hcm
  by_cases hn : n ≤ 2000
  · have hb := (Below.refl w.heap.size w).alloc (Nat.le_refl _) (.cells #[.slice A n c, .int .i64 0] 68)
    have hp : OpenP w (.returned (.pointer (some ⟨w.heap.size, 0, none⟩))) (w.alloc (.cells #[.slice A n c, .int .i64 0] 68)) := ⟨rfl, ⟨n, c, A, 0, heap_alloc_new w _, hB.below hb (Nat.le_refl _), Nat.le_refl _⟩, hb⟩
    have HP := Lib.hid hp
    clear hb hp hB
    go_enter Try.func20, Try.ntmps20
    go_wp2_with fail
    go_ret
    exact HP.out
  · have hn2 : 2000 < n := by omega
    have hB2 : ByteV w w.heap.size 2000 A c := ⟨by omega, hB.2.1, fun _ => by
      obtain ⟨b, rfl, hbb, hc⟩ := hB.2.2 (by omega)
      exact ⟨b, rfl, hbb, fun j hj => hc j (by omega)⟩⟩
    have hb := (Below.refl w.heap.size w).alloc (Nat.le_refl _) (.cells #[.slice A 2000 c, .int .i64 0] 68)
    have hp : OpenP w (.returned (.pointer (some ⟨w.heap.size, 0, none⟩))) (w.alloc (.cells #[.slice A 2000 c, .int .i64 0] 68)) := ⟨rfl, ⟨2000, c, A, 0, heap_alloc_new w _, hB2.below hb (Nat.le_refl _), Nat.le_refl _⟩, hb⟩
    have HP := Lib.hid hp
    clear hb hp hB hB2
    go_enter Try.func20, Try.ntmps20
    go_wp2_with fail
    go_ret
    exact HP.out

end Go.Proofs.Ytcaklhempmlpgaa
