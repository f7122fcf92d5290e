/-
  rules.check: the first error of rules that are well written, and the number of its rule.
-/
import Derived.Test.YtpfknibkdiebaaaDoorArity
namespace Go.Proofs.YtpfknibkdiebaaaDoor
open Go.RowKit Go.Shelf
set_option linter.unusedVariables false
set_option linter.unusedSimpArgs false

def checkS (rs : List ARule) : Int × Int :=
  if 0 ≤ arityFrom [] 0 rs then (4, arityFrom [] 0 rs)
  else if 0 ≤ firstLoose rs then (5, firstLoose rs)
  else if 0 ≤ manyFrom [] 0 rs then (3, manyFrom [] 0 rs)
  else (0, 0)

set_option maxHeartbeats 400000 in
theorem check_any (v : Value) (rs : List ARule) (base b45 b87 : Nat) (w : World) (hR : RulesAt w base b45 b87 v rs) (hrow : ∀ g, v.ownBlock = some g → g < w.heap.size) (h8 : rs.length ≤ 8) (hok : ∀ r ∈ rs, RuleOk r) :
    Calls Tryd.prog 12 #[v] w fun e w' => e = .returned (.tuple #[.int .i64 (checkS rs).1, .int .i64 (checkS rs).2]) ∧ Below w.heap.size w w' := by
  have h1 := findArity_any v rs base b45 b87 w hR hrow h8 hok
  have h2 : ∀ W, Below w.heap.size w W → Calls Tryd.prog 19 #[v, .func (.func 20) #[] #[]] W fun e w' => e = .returned (.int .i64 (firstLoose rs)) ∧ Below w.heap.size w w' := fun W hb =>
    (idxRules_any v rs base b45 b87 W (hR.rk (RuleKept.ofBelow hb)) (fun g hg => Nat.lt_of_lt_of_le (hrow g hg) hb.size) h8 hok).mono (fun e w' h => ⟨h.1, hb.trans (h.2.mono hb.size)⟩)
  have h3 : ∀ W, Below w.heap.size w W → Calls Tryd.prog 21 #[v] W fun e w' => e = .returned (.int .i64 (manyFrom [] 0 rs)) ∧ Below w.heap.size w w' := fun W hb =>
    (findManyNames_any v rs base b45 b87 W (hR.rk (RuleKept.ofBelow hb)) (fun g hg => Nat.lt_of_lt_of_le (hrow g hg) hb.size) h8 hok).mono (fun e w' h => ⟨h.1, hb.trans (h.2.mono hb.size)⟩)
  obtain ⟨a, c, rfl⟩ := hR.form
  have hcs : Hid (checkS rs = if 0 ≤ arityFrom [] 0 rs then (4, arityFrom [] 0 rs) else if 0 ≤ firstLoose rs then (5, firstLoose rs) else if 0 ≤ manyFrom [] 0 rs then (3, manyFrom [] 0 rs) else (0, 0)) := rfl
  have H1 : Hid _ := h1
  have H2 : Hid _ := h2
  have H3 : Hid _ := h3
  clear h1 h2 h3 hR hrow hok
  generalize arityFrom [] 0 rs = ar at *
  generalize firstLoose rs = fu at *
  generalize manyFrom [] 0 rs = mn at *
  generalize checkS rs = cs at *
  by_cases ha : 0 ≤ ar
  · have hfin : Hid (cs = (4, ar)) := by show _ = _; rw [hcs.out, if_pos ha]
    go_enter Tryd.func12, Tryd.ntmps12
    go_wp2_with fail
    refine Calls.mono H1.out ?_
    rintro e w1 ⟨rfl, hb1⟩
    go_wp2
    go_ret2
    rw [hfin.out]
    exact ⟨rfl, hb1⟩
  have ha' : ¬ (0 ≤ ar) := ha
  by_cases hu : 0 ≤ fu
  · have hfin : Hid (cs = (5, fu)) := by show _ = _; rw [hcs.out, if_neg ha, if_pos hu]
    go_enter Tryd.func12, Tryd.ntmps12
    go_wp2_with fail
    refine Calls.mono H1.out ?_
    rintro e w1 ⟨rfl, hb1⟩
    go_wp2_with fail
    refine Calls.mono (H2.out w1 hb1) ?_
    rintro e w2 ⟨rfl, hb2⟩
    go_wp2
    go_ret2
    rw [hfin.out]
    exact ⟨rfl, hb2⟩
  by_cases hm : 0 ≤ mn
  · have hfin : Hid (cs = (3, mn)) := by show _ = _; rw [hcs.out, if_neg ha, if_neg hu, if_pos hm]
    go_enter Tryd.func12, Tryd.ntmps12
    go_wp2_with fail
    refine Calls.mono H1.out ?_
    rintro e w1 ⟨rfl, hb1⟩
    go_wp2_with fail
    refine Calls.mono (H2.out w1 hb1) ?_
    rintro e w2 ⟨rfl, hb2⟩
    go_wp2_with fail
    refine Calls.mono (H3.out w2 hb2) ?_
    rintro e w3 ⟨rfl, hb3⟩
    go_wp2
    go_ret2
    rw [hfin.out]
    exact ⟨rfl, hb3⟩
  · have hfin : Hid (cs = (0, 0)) := by show _ = _; rw [hcs.out, if_neg ha, if_neg hu, if_neg hm]
    go_enter Tryd.func12, Tryd.ntmps12
    go_wp2_with fail
    refine Calls.mono H1.out ?_
    rintro e w1 ⟨rfl, hb1⟩
    go_wp2_with fail
    refine Calls.mono (H2.out w1 hb1) ?_
    rintro e w2 ⟨rfl, hb2⟩
    go_wp2_with fail
    refine Calls.mono (H3.out w2 hb2) ?_
    rintro e w3 ⟨rfl, hb3⟩
    go_wp2
    go_ret2
    rw [hfin.out]
    exact ⟨rfl, hb3⟩

end Go.Proofs.YtpfknibkdiebaaaDoor
