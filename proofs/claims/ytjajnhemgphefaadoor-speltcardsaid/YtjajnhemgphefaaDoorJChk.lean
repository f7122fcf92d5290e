/-
  The checks, in plain data.
-/
import Derived.Test.YtjajnhemgphefaaDoorJPDef
namespace Go.Proofs.YtjajnhemgphefaaDoor
set_option linter.unusedVariables false
set_option linter.unusedSimpArgs false

/-- The number of arguments that a relation was first seen with. -/
def arOf (seen : List Am) (l : List UInt8) : Option Nat := (seen.find? (fun a => a.rel.data.toList == l)).map (·.args.length)
def fitsA (seen : List Am) (a : Am) : Bool := match arOf seen a.rel.data.toList with | some n => n == a.args.length | none => true
def scanA : List Am → List Am → Option (List Am)
  | seen, [] => some seen
  | seen, a :: l => if fitsA seen a = true then scanA (seen ++ [a]) l else none
def arityFrom : List Am → Nat → List Rl → Int
  | _, _, [] => -1
  | seen, i, r :: rs => match scanA seen (r.head :: r.body) with
    | none => i
    | some s => arityFrom s (i + 1) rs


/-- A term among terms. -/
def sameT (x : ByteArray) (xb : Nat) (t : Tm) : Bool := x.toList == t.name.toList && xb == t.num
def hasT (l : List Tm) (x : ByteArray) (xb : Nat) : Bool := l.any (sameT x xb)
def bodyHas (r : Rl) (x : ByteArray) (xb : Nat) : Bool := r.body.any (fun a => hasT a.args x xb)
def unboundB (r : Rl) (t : Tm) : Bool := t.name.toList.isEmpty && !bodyHas r t.name t.num
def looseC (r : Rl) : Bool := r.head.args.any (unboundB r)
def firstFrom (p : Rl → Bool) : Nat → List Rl → Int
  | _, [] => -1
  | i, r :: rs => if p r = true then i else firstFrom p (i + 1) rs
def firstLoose (rs : List Rl) : Int := firstFrom looseC 0 rs

def manyFrom : List ByteArray → Nat → List Rl → Int
  | _, _, [] => -1
  | ns, i, r :: rs => if 8 < (nmL ns (tmsOf (ruleAms r))).length then i else manyFrom (nmL ns (tmsOf (ruleAms r))) (i + 1) rs
def checkS (rs : List Rl) : Int × Int :=
  if 0 ≤ arityFrom [] 0 rs then (4, arityFrom [] 0 rs)
  else if 0 ≤ firstLoose rs then (5, firstLoose rs)
  else if 0 ≤ manyFrom [] 0 rs then (3, manyFrom [] 0 rs)
  else (0, 0)

end Go.Proofs.YtjajnhemgphefaaDoor
