/-
  What a valid program is, as plain data. Nothing of the program is used here.
-/
import Derived.Test.YtcpmodkplikmcaaData
namespace Go.Proofs.Ytcpmodkplikmcaa

/-- The type of a variable, or 0. -/
def tyAt (ts : List Int) (v : Int) : Int := if v < 0 ∨ (ts.length : Int) ≤ v then 0 else ts.getD v.toNat 0

/-- The types of a valid program. -/
def typesB (ts : List Int) : Bool := ts.all (fun t => decide (1 ≤ t ∧ t ≤ 4)) && decide (ts.length ≤ 6)

/-- A simple statement is right: its operation, the types of its variables, its fields. -/
def simpleB (op tx ty x y n : Int) : Bool :=
  if op = 1 then decide (tx = 1 ∧ y = 0 ∧ 0 ≤ n ∧ n ≤ 9)
  else if op = 2 then decide (tx = 2 ∧ y = 0 ∧ 0 ≤ n ∧ n ≤ 9)
  else if n ≠ 0 then false
  else if op = 3 then decide (tx = ty ∧ 0 < tx ∧ x ≠ y)
  else if op = 4 then decide (tx = 3 ∧ 2 ≤ ty ∧ x ≠ y)
  else if op = 5 then decide (tx = 4 ∧ (ty = 2 ∨ ty = 4) ∧ x ≠ y)
  else if op = 6 then decide (tx = 1 ∧ 2 ≤ ty)
  else if op = 7 then decide ((tx = 2 ∨ tx = 4) ∧ ty = 1)
  else if op = 8 then decide (tx = 2 ∧ y = 0)
  else false

/-- The statements of a list are right, at a depth. -/
def bodyB (ts : List Int) : Int → Sts → Bool
  | _, .nil => true
  | d, .cons op x y n t e r =>
    (if op ≠ 9 ∧ op ≠ 10 then decide (t.len = 0 ∧ e.len = 0) && simpleB op (tyAt ts x) (tyAt ts y) x y n
     else decide (1 ≤ d ∧ x = 0 ∧ y = 0 ∧ n = 0 ∧ (op = 10 → e.len = 0)) && (bodyB ts (d - 1) t && bodyB ts (d - 1) e)) && bodyB ts d r

/-- One statement is right, at a depth. -/
def stmtB (ts : List Int) (d op x y n : Int) (t e : Sts) : Bool :=
  if op ≠ 9 ∧ op ≠ 10 then decide (t.len = 0 ∧ e.len = 0) && simpleB op (tyAt ts x) (tyAt ts y) x y n
  else decide (1 ≤ d ∧ x = 0 ∧ y = 0 ∧ n = 0 ∧ (op = 10 → e.len = 0)) && (bodyB ts (d - 1) t && bodyB ts (d - 1) e)

theorem bodyB_cons (ts : List Int) (d op x y n : Int) (t e r : Sts) : bodyB ts d (.cons op x y n t e r) = (stmtB ts d op x y n t e && bodyB ts d r) := rfl

def validB (ts : List Int) (s : Sts) : Bool := typesB ts && (bodyB ts 4 s && decide (s.size ≤ 30))

def countI (ts : List Int) (s : Sts) : Int := if validB ts s then s.size else 0

end Go.Proofs.Ytcpmodkplikmcaa
