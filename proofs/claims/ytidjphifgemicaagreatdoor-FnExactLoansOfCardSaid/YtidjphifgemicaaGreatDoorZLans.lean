/-
  What the functions of chapter 4 answer: plain.
-/
import Derived.Test.YtidjphifgemicaaGreatDoorZLnd
import Derived.Test.YtidjphifgemicaaGreatDoorZRowN
import Derived.Test.YtidjphifgemicaaGreatDoorZRowA
namespace Go.Proofs.YtidjphifgemicaaGreatDoor
open Go.RowKit Go.Deep
set_option linter.unusedVariables false

/-- The loan that a point makes. -/
def ldOf (ns : List Nd) (i : Nat) : LoanD := ⟨(i : Int), isUniq ns i, (match ns[i]? with | some d => d.y | none => 0)⟩

theorem ldOf_at {ns : List Nd} {i : Nat} {d : Nd} (h : ns[i]? = some d) : ldOf ns i = ⟨(i : Int), decide (d.op = 5), d.y⟩ := by
  unfold ldOf
  rw [isUniq_at h, h]

/-- The loans of the first k points. -/
def loansK (ns : List Nd) (k : Nat) : List LoanD := ((List.range k).filter (isLoan ns)).map (ldOf ns)

theorem loansK_yes {ns : List Nd} {k : Nat} (h : isLoan ns k = true) : loansK ns (k + 1) = loansK ns k ++ [ldOf ns k] := by
  unfold loansK
  rw [List.range_succ, List.filter_append, List.map_append]
  simp [h]

theorem loansK_no {ns : List Nd} {k : Nat} (h : isLoan ns k = false) : loansK ns (k + 1) = loansK ns k := by
  unfold loansK
  rw [List.range_succ, List.filter_append, List.map_append]
  simp [h]

theorem loansK_length (ns : List Nd) (k : Nat) : (loansK ns k).length ≤ k := by
  unfold loansK
  rw [List.length_map]
  have := List.length_filter_le (isLoan ns) (List.range k)
  simpa using this

theorem loansK_bits (ns : List Nd) (h : ns.length ≤ 61) : loansK ns ns.length = (bitsOf (bitsK (isLoan ns) ns.length)).map (ldOf ns) := by
  unfold loansK
  congr 1
  rw [bitsOf_filter]
  have e : ∀ m, ((List.range (ns.length + m)).filter fun k => (bitsK (isLoan ns) ns.length).testBit k) = (List.range ns.length).filter (isLoan ns) := by
    intro m
    induction m with
    | zero =>
      refine List.filter_congr fun i hi => ?_
      rw [bitsK_bit, decide_eq_true (show i < ns.length by have := List.mem_range.mp hi; omega), Bool.true_and]
    | succ m ih =>
      rw [← Nat.add_assoc, List.range_succ, List.filter_append, ih]
      have : (bitsK (isLoan ns) ns.length).testBit (ns.length + m) = false := by
        rw [bitsK_bit, decide_eq_false (by omega), Bool.false_and]
      simp [this]
  have := e (64 - ns.length)
  rw [show ns.length + (64 - ns.length) = 64 from by omega] at this
  exact this.symm

/-- LoansOf. -/
def AnsLoans (ok : Bool) (s : Sts) (l : List LoanD) : Prop := (ok = true ∧ l = loansK (progPts s) (progPts s).length) ∨ (ok = false ∧ l = [])

theorem AnsLoans.unique {ok : Bool} {s : Sts} {l m : List LoanD} (h : AnsLoans ok s l) (k : AnsLoans ok s m) : l = m := by
  rcases h with ⟨h1, h2⟩ | ⟨h1, h2⟩
  · rcases k with ⟨_, k2⟩ | ⟨k1, _⟩
    · rw [h2, k2]
    · rw [h1] at k1; cases k1
  · rcases k with ⟨k1, _⟩ | ⟨_, k2⟩
    · rw [h1] at k1; cases k1
    · rw [h2, k2]

/-- The accesses of a point; b says whether the variable that it sets can have a value. -/
def accD (ts : List Int) (d : Nd) (b : Bool) : List AccD :=
  (if d.op = 4 ∨ d.op = 6 then [⟨d.y, false⟩] else if d.op = 5 then [⟨d.y, true⟩] else if d.op = 7 ∨ d.op = 8 then [⟨d.x, true⟩] else if d.op = 3 ∧ (tyAt ts d.y = 2 ∨ tyAt ts d.y = 4) then [⟨d.y, true⟩] else []) ++
  (if 1 ≤ d.op ∧ d.op ≤ 6 ∧ tyAt ts d.x = 2 ∧ b = true then [⟨d.x, true⟩] else [])

theorem accD_length (ts : List Int) (d : Nd) (b : Bool) : (accD ts d b).length ≤ 2 := by
  unfold accD
  rw [List.length_append]
  (repeat' split) <;> simp

/-- AccessesOf. -/
def AnsAcc (ts : List Int) (ok : Bool) (s : Sts) (a : Int) (l : List AccD) : Prop :=
  (ok = true ∧ ∃ (k : Nat) (d : Nd) (b : Bool), a = (k : Int) ∧ (progPts s)[k]? = some d ∧ (b = true ↔ MayB ts (progPts s) k d.x.toNat) ∧ l = accD ts d b) ∨ (¬ (ok = true ∧ 0 ≤ a ∧ a < ((progPts s).length : Int)) ∧ l = [])

theorem AnsAcc.unique {ts : List Int} {ok : Bool} {s : Sts} {a : Int} {l m : List AccD} (h : AnsAcc ts ok s a l) (k : AnsAcc ts ok s a m) : l = m := by
  rcases h with ⟨h1, i, d, b, h2, h3, h4, h5⟩ | ⟨h1, h2⟩
  · rcases k with ⟨_, j, e, c, k2, k3, k4, k5⟩ | ⟨k1, _⟩
    · have hij : i = j := by omega
      subst hij
      rw [h3] at k3
      injection k3 with k3
      subst k3
      have hbc : b = c := Bool.eq_iff_iff.mpr (h4.trans k4.symm)
      rw [h5, k5, hbc]
    · have := (List.getElem?_eq_some_iff.mp h3).1
      exact absurd ⟨h1, by omega, by omega⟩ k1
  · rcases k with ⟨k1, j, e, c, k2, k3, k4, k5⟩ | ⟨_, k2⟩
    · have := (List.getElem?_eq_some_iff.mp k3).1
      exact absurd ⟨k1, by omega, by omega⟩ h1
    · rw [h2, k2]

theorem AnsAcc.length {ts : List Int} {ok : Bool} {s : Sts} {a : Int} {l : List AccD} (h : AnsAcc ts ok s a l) : l.length ≤ 64 := by
  rcases h with ⟨_, k, d, b, _, _, _, rfl⟩ | ⟨_, rfl⟩
  · have := accD_length ts d b
    omega
  · simp

/-- LoansIn, PlacedLoans, LiveLoans, ConflictsAt: which loans are listed at a point. -/
def LoIn (ts : List Int) (v : Int) (ns : List Nd) (k l : Nat) : Prop := 0 ≤ v ∧ v < 6 ∧ LoanB ts ns k v.toNat l
def LoPl (ts : List Int) (ns : List Nd) (k l : Nat) : Prop := LoanB ts ns k 6 l
def LoLv (ts : List Int) (ns : List Nd) (k l : Nat) : Prop := ∃ v, v < 6 ∧ LiveB ts ns k v ∧ ¬ lostN ts ns k v ∧ LoanB ts ns k v l
/-- An access that a loan must not meet. -/
def Near (ns : List Nd) (l : Nat) (a : AccD) : Prop := loanN ns l a.v ∧ (a.u = true ∨ isUniq ns l = true)
def LoCf (ts : List Int) (ns : List Nd) (k l : Nat) : Prop := LoLv ts ns k l ∧ LoPl ts ns k l ∧ ∃ d b, ns[k]? = some d ∧ (b = true ↔ MayB ts ns k d.x.toNat) ∧ ∃ a ∈ accD ts d b, Near ns l a

end Go.Proofs.YtidjphifgemicaaGreatDoor
