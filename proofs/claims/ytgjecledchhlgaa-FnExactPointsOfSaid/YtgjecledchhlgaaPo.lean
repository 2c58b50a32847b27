/-
  Comparing rows of points that read alike.
-/
import Derived.Test.YtgjecledchhlgaaL2P
import Derived.Test.YtgjecledchhlgaaPoint
import Derived.Test.YtgjecledchhlgaaMarkC
import Derived.Test.YtgjecledchhlgaaCC
import Derived.StillTailTactics
namespace Go.Proofs.Ytgjecledchhlgaa
open Go.RowKit Go.Deep
set_option linter.unusedVariables false

/-- A value reads as a row of points. -/
def PtsV (w : World) (v : Value) (ns : List Nd) : Prop :=
  ∃ A c, v = .slice A ns.length c ∧ ns.length ≤ c ∧ c ≤ maxLen ∧ (0 < ns.length → ∃ g, A = some ⟨g, 0, none⟩ ∧ g < w.heap.size ∧ ∀ k d, ns[k]? = some d →
    ∃ Au cu, (w.cell? ⟨g, k * 5, none⟩ = some (.int .i64 d.op) ∧ w.cell? ⟨g, k * 5 + 1, none⟩ = some (.int .i64 d.x) ∧ w.cell? ⟨g, k * 5 + 2, none⟩ = some (.int .i64 d.y) ∧ w.cell? ⟨g, k * 5 + 3, none⟩ = some (.int .i64 d.n) ∧ w.cell? ⟨g, k * 5 + 4, none⟩ = some (.slice Au d.next.length cu)) ∧ IntsV w 0 w.heap.size d.next Au cu)

theorem PtsV.below {w w' : World} {v : Value} {ns : List Nd} (h : PtsV w v ns) (hb : Below w.heap.size w w') : PtsV w' v ns := by
  obtain ⟨A, c, h1, h2, h3, h4⟩ := h
  refine ⟨A, c, h1, h2, h3, fun h0 => ?_⟩
  obtain ⟨g, h5, h6, h7⟩ := h4 h0
  refine ⟨g, h5, Nat.lt_of_lt_of_le h6 hb.size, fun k d hd => ?_⟩
  obtain ⟨Au, cu, ⟨c0, c1, c2, c3, c4⟩, hI⟩ := h7 k d hd
  exact ⟨Au, cu, ⟨(hb.cell h6).trans c0, (hb.cell h6).trans c1, (hb.cell h6).trans c2, (hb.cell h6).trans c3, (hb.cell h6).trans c4⟩, hI.below hb hb.size⟩

theorem NextV.ints {w : World} {B : Nat} {u : Value} {next : List Int} (h : NextV w B u next) (hm : next.length ≤ maxLen) : ∃ A c, u = .slice A next.length c ∧ IntsV w 0 w.heap.size next A c := by
  rcases h with ⟨h1, h2⟩ | ⟨g, h1, h2, h3⟩
  · subst h1
    exact ⟨none, 0, h2, by simp, by simp [maxLen], fun h => absurd h (by simp)⟩
  · refine ⟨_, _, h1, Nat.le_refl _, hm, fun h0 => ⟨_, rfl, Nat.zero_le _, heap_lt h3, fun j v hv => ?_⟩⟩
    rw [add_block, Nat.zero_add, cell_of_block h3]
    simp [hv]

theorem PRow.reads {w : World} {B : Nat} {v : Value} {ns : List Nd} (h : PRow w B v ns) (hm : ∀ d ∈ ns, d.next.length ≤ maxLen) : PtsV w v ns := by
  by_cases h0 : 0 < ns.length
  · obtain ⟨g, cap, hv, hB, hg, hn, hc⟩ := h.form h0
    subst hv
    refine ⟨_, _, rfl, hn, hc, fun _ => ⟨g, rfl, hg, fun k d hd => ?_⟩⟩
    obtain ⟨u, ⟨c0, c1, c2, c3, c4⟩, hx⟩ := h.cells hd
    obtain ⟨A, c, hu, hI⟩ := hx.ints (hm d (List.mem_of_getElem? hd))
    subst hu
    exact ⟨A, c, ⟨c0, c1, c2, c3, c4⟩, hI⟩
  · obtain ⟨A, c, hv⟩ := h.slice
    obtain ⟨xs, ho, _⟩ := h
    rcases ho.2 with ⟨h1, _⟩ | ⟨g, cap, cur, h1, h2, h3, h4, h5, _⟩
    · exact ⟨none, 0, by rw [h1]; simp; omega, by omega, by simp [maxLen], fun h => absurd h h0⟩
    · exact ⟨_, _, h1, h4, h5, fun h => absurd h h0⟩

set_option maxRecDepth 100000 in
set_option maxHeartbeats 2000000 in
theorem eqPointS_any (ns : List Nd) (v v' : Value) (w : World) (hn : ns.length ≤ 10000000) (h : PtsV w v ns) (h' : PtsV w v' ns) :
    Calls Try.prog 24 #[v, v'] w fun e w' => e = .returned (.bool true) ∧ Below w.heap.size w w' := by
  obtain ⟨A, c, hv, hc1, hc2, -⟩ := id h
  obtain ⟨A', c', hv', hc1', hc2', -⟩ := id h'
  obtain ⟨q, hq⟩ : ∃ q, q = ns.length := ⟨_, rfl⟩
  rw [← hq] at hv hv' hc1 hc1' hn
  subst hv hv'
  unfold maxLen at hc2 hc2'
  have HN := Lib.hid hq
  have H := Lib.hid h
  have H' := Lib.hid h'
  clear hq h h'
  go_enter Try.func24, Try.ntmps24
  go_wp2_with fail
  go_loopw [5] (fun i wr => ∃ k : Nat, k ≤ q ∧ i = .int .i64 k ∧ Below w.heap.size w wr) (fun i _ => q - (intOf i).toNat)
  case atStart => exact ⟨0, Nat.zero_le _, rfl, Below.refl _ _⟩
  case round =>
    obtain ⟨k, hk, rfl, hb⟩ := hrel
    by_cases hlt : k < q
    · have hkd : k < ns.length := by rw [← HN.out]; exact hlt
      obtain ⟨A1, c1, e1, -, -, h4⟩ := H.out.below hb
      obtain ⟨A2, c2, e2, -, -, h4'⟩ := H'.out.below hb
      injection e1 with e1 e1m e1'
      subst e1 e1'
      injection e2 with e2 e2m e2'
      subst e2 e2'
      obtain ⟨g, rfl, hg, hc⟩ := h4 (by omega)
      obtain ⟨g', rfl, hg', hc'⟩ := h4' (by omega)
      obtain ⟨Au, cu, ⟨a0, a1, a2, a3, a4⟩, hI⟩ := hc k _ (List.getElem?_eq_getElem hkd)
      obtain ⟨Au', cu', ⟨b0, b1, b2, b3, b4⟩, hI'⟩ := hc' k _ (List.getElem?_eq_getElem hkd)
      generalize ns[k] = d at *
      obtain ⟨op, x, y, n, nx⟩ := d
      simp only at a0 a1 a2 a3 a4 b0 b1 b2 b3 b4 hI hI'
      clear hc hc' h4 h4' e1m e2m
      go_wp2_with fail
      go_still_tail 8, (by kernel_rfl)
      change wpList _ _ _ _ _ wr.drew
      have hbd : Below w.heap.size w wr.drew := hb.drew
      have hE := eqPoint_any op x y n nx Au Au' cu cu' wr.drew (hI.keep (Nat.le_refl _) (Nat.le_refl _) fun _ _ _ => rfl) (hI'.keep (Nat.le_refl _) (Nat.le_refl _) fun _ _ _ => rfl)
      have hbz := hbd.size
      clear hI hI' hb a0 a1 a2 a3 a4 b0 b1 b2 b3 b4
      generalize wr.drew = w2 at *
      go_wp2_with fail
      refine hE.mono ?_
      rintro E w3 ⟨rfl, hb3⟩
      go_wp2_with fail
      go_roundw
      case rel => exact ⟨k + 1, by omega, by go_num, hbd.trans (hb3.mono hbz)⟩
      case measure => simp [intOf]; omega
    · have hk' : k = q := by omega
      subst hk'
      go_wp2_with fail
      go_ret
      exact ⟨rfl, hb⟩

end Go.Proofs.Ytgjecledchhlgaa
