/-
  The model's draws of a number of a list.
-/
import Derived.Test.YtekojgcjncfndaaD1B
namespace Go.Proofs.Ytekojgcjncfndaa
open Go.RowKit Go.Deep
set_option linter.unusedVariables false

set_option maxRecDepth 100000 in
set_option maxHeartbeats 1000000 in
/-- One of a list of numbers. -/
theorem num_any (R P Q : Nat) (L : List Int) (w : World) (hQ : w.heap[Q]? = some (.cells (L.map (Value.int .i64)).toArray 3 (0, 0))) (hRQ : R ≠ Q) (hL : 1 ≤ L.length) (hL2 : L.length ≤ 1000) (h : SrcV w R P) (hP : P ≤ 100000) :
    Calls Try.prog 13 #[.pointer (some ⟨R, 0, none⟩), .slice (some ⟨Q, 0, none⟩) L.length L.length] w fun E w' => ∃ v ∈ L, E = .returned (.int .i64 v) ∧ SrcV w' R (P + 1) ∧ One R w w' := by
  obtain ⟨n, hn⟩ : ∃ n, L.length = n := ⟨_, rfl⟩
  have HQ := Lib.hid hQ
  have HN := Lib.hid hn
  have HP := Lib.hid (pick_any R P (n : Int) w (by omega) (by omega) h hP)
  rw [hn] at hL hL2 ⊢
  clear hQ h hn
  go_enter Try.func13, Try.ntmps13
  go_wp2_with fail
  refine HP.out.mono ?_
  rintro E w1 ⟨v, hv, rfl, hs, ho⟩
  have hvn : v < n := by omega
  have hvL : v < L.length := by rw [HN.out]; exact hvn
  have hc : w1.cell? ⟨Q, v, none⟩ = some (.int .i64 L[v]) := by
    rw [cell_of_block ((ho.block Q (fun e => hRQ e.symm)).trans HQ.out)]
    simp [hvL]
  have HS := Lib.hid hs
  have HO := Lib.hid ho
  obtain ⟨z, hz⟩ : ∃ z, L[v] = z := ⟨_, rfl⟩
  rw [hz] at hc
  have HZ : Hid (z ∈ L) := by rw [← hz]; exact List.getElem_mem hvL
  clear hs ho hz hvL
  go_wp2_with fail
  go_ret
  exact ⟨z, HZ.out, rfl, HS.out, HO.out⟩

end Go.Proofs.Ytekojgcjncfndaa
