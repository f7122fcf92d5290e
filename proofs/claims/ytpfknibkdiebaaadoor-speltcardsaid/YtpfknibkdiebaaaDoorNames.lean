/-
  rules.findManyNames: the first rule up to which there are too many names, or -1.
-/
import Derived.Test.YtpfknibkdiebaaaDoorLeave
import Derived.Maps.OwnIn
import Derived.Maps.OwnSet
namespace Go.Proofs.YtpfknibkdiebaaaDoor
open Go.RowKit Go.Shelf
set_option linter.unusedVariables false
set_option linter.unusedSimpArgs false
attribute [local go_sem] Oper.semAt_some

def addName (ns : List (List UInt8)) (t : ATerm) : List (List UInt8) := if t.isVar = true ∨ ns.contains t.text.data.toList = true then ns else ns ++ [t.text.data.toList]
def namesF (ns : List (List UInt8)) (l : List ATerm) : List (List UInt8) := l.foldl addName ns
def manyFrom : List (List UInt8) → Nat → List ARule → Int
  | _, _, [] => -1
  | ns, i, r :: rs => if 8 < (namesF ns (ruleTerms r)).length then i else manyFrom (namesF ns (ruleTerms r)) (i + 1) rs

theorem namesF_snoc (ns : List (List UInt8)) (l : List ATerm) (t : ATerm) : namesF ns (l ++ [t]) = addName (namesF ns l) t := by simp [namesF]

/-- The map holds just these names. -/
structure SetIs (D : DataW Unit) (ns : List (List UInt8)) : Prop where
  tidy : Maps.Tidy D
  has : ∀ l, Maps.has D (.string l) = ns.contains l
  size : Maps.size D = ns.length

theorem SetIs.empty : SetIs (.map []) [] := ⟨Maps.tidy_empty, fun _ => rfl, rfl⟩

theorem SetIs.put {D : DataW Unit} {ns : List (List UInt8)} (h : SetIs D ns) (t : ATerm) (hv : t.isVar = false) : SetIs (D.put (.string t.text.data.toList) (.agg [])) (addName ns t) := by
  have hk : WideAt.IsKeyLit (.string t.text.data.toList) := trivial
  have hsz := Maps.size_put (k := .string t.text.data.toList) h.tidy (.agg [] : DataW Unit)
  rw [h.has, h.size] at hsz
  unfold addName
  by_cases hc : ns.contains t.text.data.toList = true
  · rw [if_pos (.inr hc)]
    rw [if_pos hc] at hsz
    refine ⟨h.tidy.put hk _, fun l => ?_, hsz⟩
    by_cases e : l = t.text.data.toList
    · subst e; rw [Maps.has_put_same h.tidy.isMap hk, hc]
    · rw [Maps.has_put_other (by intro h'; injection h' with h'; exact e h'), h.has]
  · rw [if_neg (by simp [hv]; simpa using hc)]
    rw [if_neg hc] at hsz
    refine ⟨h.tidy.put hk _, fun l => ?_, by simpa using hsz⟩
    by_cases e : l = t.text.data.toList
    · subst e; rw [Maps.has_put_same h.tidy.isMap hk]; simp
    · rw [Maps.has_put_other (by intro h'; injection h' with h'; exact e h'), h.has]
      rw [Bool.eq_iff_iff]; simp [e]

theorem addName_var (ns : List (List UInt8)) (t : ATerm) (h : t.isVar = true) : addName ns t = ns := by unfold addName; rw [if_pos (.inl h)]

end Go.Proofs.YtpfknibkdiebaaaDoor
