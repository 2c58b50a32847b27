/-
  What a law needs of PointsOf's answers: they read alike, are written over and read again.
-/
import Derived.Test.YtgjecledchhlgaaPoJ
namespace Go.Proofs.Ytgjecledchhlgaa
open Go.RowKit Go.Deep
set_option linter.unusedVariables false

theorem PRowJ.keepIn {w w' : World} {B : Nat} {v : Value} {ns : List Nd} {us : List Value} (h : PRowJ w B v ns us) (hk : ∀ k, B ≤ k → k < w.heap.size → w'.heap[k]? = w.heap[k]?) : PRowJ w' B v ns us := by
  obtain ⟨h1, ⟨xs, ho, hc⟩, h3⟩ := h
  refine ⟨h1, ⟨xs, ⟨ho.1, ?_⟩, fun j d u hd hu => ⟨(hc j d u hd hu).1, (hc j d u hd hu).2.keep fun g hg => by
    have := (hc j d u hd hu).2.lt g hg
    exact hk g this.1 this.2⟩⟩, h3⟩
  rcases ho.2 with h | ⟨g, cap, cur, e1, e2, e3, e4⟩
  · exact .inl h
  · exact .inr ⟨g, cap, cur, e1, e2, (hk g e2 (heap_lt e3)).trans e3, e4⟩

theorem pointsB_two (ok : Bool) (s : Sts) : ∀ d ∈ pointsB ok s, d.next.length ≤ 2 := by
  intro d hd
  unfold pointsB at hd
  split at hd
  · unfold progPts at hd
    rw [List.mem_append] at hd
    rcases hd with hd | hd
    · exact (s.pts_ok 0 d hd).2.1
    · simp at hd
      subst hd
      simp
  · simp at hd

theorem pointsB_len (ts : List Int) (s : Sts) : (pointsB (validB ts s) s).length ≤ 61 := by
  unfold pointsB
  split
  · rename_i h
    have := valid_size h
    have := s.npts_le
    rw [progPts_len]
    omega
  · simp

theorem markPointS_nil (A : Option Addr) (c : Nat) (k : Int) (w : World) : Calls Try.prog 26 #[.slice A 0 c, .int .i64 k] w fun E w' => E = .returned (.int .i64 k) ∧ w = w' := by
  go_enter Try.func26, Try.ntmps26
  go_wp2_with fail
  go_loop [1, 5] (fun q i => q = .int .i64 k ∧ i = .int .i64 0) (fun _ _ => 0)
  case atStart => exact ⟨rfl, rfl⟩
  case round =>
    obtain ⟨rfl, rfl⟩ := hrel
    go_wp2_with fail
    go_ret
    exact ⟨rfl, rfl⟩

theorem heldPointS_nil (A : Option Addr) (c : Nat) (k : Int) (w : World) : Calls Try.prog 27 #[.slice A 0 c, .int .i64 k] w fun E w' => E = .returned (.int .i64 k) ∧ w = w' := by
  go_enter Try.func27, Try.ntmps27
  go_wp2_with fail
  go_loop [1, 5] (fun q i => q = .int .i64 k ∧ i = .int .i64 0) (fun _ _ => 0)
  case atStart => exact ⟨rfl, rfl⟩
  case round =>
    obtain ⟨rfl, rfl⟩ := hrel
    go_wp2_with fail
    go_ret
    exact ⟨rfl, rfl⟩

/-- In every later world the row's numbers are read again, and counted up to T. -/
def HeldP (w : World) (v : Value) (T : Int) : Prop := ∀ w', Below w.heap.size w w' → Calls Try.prog 27 #[v, .int .i64 1] w' fun E w'' => E = .returned (.int .i64 T) ∧ w' = w''

theorem markPts_val (B : Nat) (v : Value) (ns : List Nd) (us : List Value) (w : World) (h : PRowJ w B v ns us) (hn : ns.length ≤ 1000) (h2 : ∀ d ∈ ns, d.next.length ≤ 2) (hB : B ≤ w.heap.size) :
    Calls Try.prog 26 #[v, .int .i64 1] w fun E w' => ∃ T : Int, E = .returned (.int .i64 T) ∧ 0 ≤ T ∧ Below B w w' ∧ HeldP w' v T := by
  by_cases h0 : 0 < ns.length
  · obtain ⟨g, c, l, f, cc, Av, hv, hnc, hcm, hP⟩ := h.shape h0 h2
    subst hv
    refine (markPointS_any g ns.length c B l f cc Av 1 w hnc hcm hn (by omega) (by omega) hP).mono ?_
    rintro E w' ⟨rfl, hM, hK⟩
    have hb := baseM_le 1 l hP.two ns.length
    refine ⟨_, rfl, by omega, (Span.of_mark hM).below (Nat.le_refl _) hB, fun w2 hb2 => ?_⟩
    have hP' := hP.marked hM
    exact heldPointS_any g ns.length c B l f cc Av 1 w2 hnc hcm hn (by omega) (by omega) (hP'.below hb2) (hK.below hP' hb2)
  · obtain ⟨A, c, hv, -⟩ := h.reads
    have hz : ns.length = 0 := by omega
    rw [hz] at hv
    subst hv
    refine (markPointS_nil A c 1 w).mono ?_
    rintro E w' ⟨rfl, rfl⟩
    exact ⟨1, rfl, by omega, Below.refl _ _, fun w2 _ => heldPointS_nil A c 1 w2⟩

end Go.Proofs.Ytgjecledchhlgaa
