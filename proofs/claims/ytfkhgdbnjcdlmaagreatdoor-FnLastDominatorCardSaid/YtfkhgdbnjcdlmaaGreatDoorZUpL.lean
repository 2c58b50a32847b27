/-
  Rows of numbers that are found one after the other.
-/
import Derived.Test.YtfkhgdbnjcdlmaaGreatDoorZL2Xb
import Derived.Test.YtfkhgdbnjcdlmaaGreatDoorZMem
import Derived.Test.YtfkhgdbnjcdlmaaGreatDoorZBase
namespace Go.Proofs.YtfkhgdbnjcdlmaaGreatDoor
open Go.RowKit Go.Deep
set_option linter.unusedVariables false

theorem ontoV_of {w w' : World} {v : Value} {g n cap : Nat} (hg : w.grownBy w' v.ownBlock) (hat : v.ownBlock = some g ∨ g = w.heap.size) : Onto w w' v (.slice (some ⟨g, 0, none⟩) n cap) := by
  refine ⟨hg, ?_⟩
  rcases hat with h | h
  · exact .inl h.symm
  · refine .inr fun k hk => ?_
    have hk' : g = k := by simpa [Value.ownBlock] using hk
    omega

theorem PRow.ontoV {w w' : World} {B : Nat} {v x y : Value} {ns : List Nd} (h : PRow w B v ns) (hO : Onto w w' x y) (hx : ∀ g, x.ownBlock = some g → g < B) : PRow w' B v ns := by
  obtain ⟨xs, ho, hc⟩ := h
  have hb : ∀ k, B ≤ k → k < w.heap.size → w'.heap[k]? = w.heap[k]? := fun k hk hl => hO.1.block k hl (fun e => by have := hx k e.symm; omega)
  refine ⟨xs, ⟨ho.1, ?_⟩, fun k d hd => ?_⟩
  · rcases ho.2 with h | ⟨g, cap, cur, h1, h2, h3, h4⟩
    · exact .inl h
    · exact .inr ⟨g, cap, cur, h1, h2, (hb g h2 (heap_lt h3)).trans h3, h4⟩
  · obtain ⟨u, h5, hn⟩ := hc k d hd
    refine ⟨u, h5, ?_⟩
    rcases hn with hn | ⟨g, e1, e2, e3⟩
    · exact .inl hn
    · exact .inr ⟨g, e1, e2, (hb g e2 (heap_lt e3)).trans e3⟩

theorem Onto.belowV {w w' : World} {B : Nat} {v v' : Value} (h : Onto w w' v v') (hB : B ≤ w.heap.size) (hv : ∀ g, v.ownBlock = some g → B ≤ g) : Below B w w' :=
  ⟨h.1.os, h.1.tape, h.1.output, h.1.size, fun k hk => h.1.block k (by omega) fun e => by have := hv k e.symm; omega⟩

/-- Whether a point leads to another, of the first k points. -/
def UpTo (R : Nat → Prop) (k : Nat) (l : List Int) : Prop := ∃ p : Nat → Bool, l = firstN p k ∧ ∀ x, x < k → (p x = true ↔ R x)

theorem UpTo.zero (R : Nat → Prop) : UpTo R 0 [] := ⟨fun _ => false, rfl, fun x h => by omega⟩

theorem UpTo.yes {R : Nat → Prop} {k : Nat} {l : List Int} (h : UpTo R k l) (hk : R k) : UpTo R (k + 1) (l ++ [(k : Int)]) := by
  obtain ⟨p, rfl, hp⟩ := h
  refine ⟨fun i => if i = k then true else p i, ?_, fun x hx => ?_⟩
  · rw [firstN_yes (by simp)]
    congr 1
    exact firstN_congr fun i hi => by simp [Nat.ne_of_lt hi]
  · by_cases hxk : x = k
    · subst hxk; simp [hk]
    · simp only [hxk, if_false]
      exact hp x (by omega)

theorem UpTo.no {R : Nat → Prop} {k : Nat} {l : List Int} (h : UpTo R k l) (hk : ¬ R k) : UpTo R (k + 1) l := by
  obtain ⟨p, rfl, hp⟩ := h
  refine ⟨fun i => if i = k then false else p i, ?_, fun x hx => ?_⟩
  · rw [firstN_no (by simp)]
    exact firstN_congr fun i hi => by simp [Nat.ne_of_lt hi]
  · by_cases hxk : x = k
    · subst hxk; simp [hk]
    · simp only [hxk, if_false]
      exact hp x (by omega)

theorem UpTo.toB {R : Nat → Prop} {n : Nat} {l : List Int} (h : UpTo R n l) (hn : n ≤ 64) (hR : ∀ x, R x → x < n) : IsPathsB R l := by
  obtain ⟨p, rfl, hp⟩ := h
  refine isPathsB_of hn fun i => ⟨fun ⟨h1, h2⟩ => (hp i h1).mp h2, fun h => ⟨hR i h, (hp i (hR i h)).mpr h⟩⟩

theorem Reach.from_lt {q : Nat} {ns : List Nd} (hD : PtsOk q ns) (hle : ns.length ≤ 61) {a b : Nat} (h : Reach (nextN ns) a b) : a < ns.length := by
  induction h with
  | one h =>
    obtain ⟨d, i, h1, _⟩ := (mem_nextN hD hle _ _).mp h
    exact (List.getElem?_eq_some_iff.mp h1).1
  | step _ _ ih => exact ih

theorem UpTo.length {R : Nat → Prop} {n : Nat} {l : List Int} (h : UpTo R n l) : l.length ≤ n := by
  obtain ⟨p, rfl, _⟩ := h
  exact firstN_length p n

end Go.Proofs.YtfkhgdbnjcdlmaaGreatDoor
