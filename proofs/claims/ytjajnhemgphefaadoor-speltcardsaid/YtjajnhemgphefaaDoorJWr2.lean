/-
  rules.check: the first error of rules that are well written, and the number of its rule.
  The writers: a term, an atom.
-/
import Derived.Test.YtjajnhemgphefaaDoorJArity
import Derived.Test.YtjajnhemgphefaaDoorJLoose
namespace Go.Proofs.YtjajnhemgphefaaDoor
open Go.RowKit Go.Shelf
set_option linter.unusedVariables false
set_option linter.unusedSimpArgs false

set_option maxHeartbeats 400000 in
theorem check_any (v : Value) (rs : List Rl) (base b45 b87 : Nat) (w : World) (hR : RulesAt w base b45 b87 v rs) (hrow : ∀ g, v.ownBlock = some g → g < w.heap.size) (h8 : rs.length ≤ 8) (hok : ∀ r ∈ rs, RuleOk r) :
    Calls Tryd.prog 12 #[v] w fun e w' => e = .returned (.tuple #[.int .i64 (checkS rs).1, .int .i64 (checkS rs).2]) ∧ Below w.heap.size w w' := by
  have h1 := findArity_any v rs base b45 b87 w hR hrow h8 hok
  have h2 : ∀ W, Below w.heap.size w W → Calls Tryd.prog 18 #[v, .func (.func 19) #[] #[]] W fun e w' => e = .returned (.int .i64 (firstLoose rs)) ∧ Below w.heap.size w w' := fun W hb =>
    (idxRules_any v rs base b45 b87 W (hR.rk (RuleKept.ofBelow hb)) (fun g hg => Nat.lt_of_lt_of_le (hrow g hg) hb.size) h8 hok).mono (fun e w' h => ⟨h.1, hb.trans (h.2.mono hb.size)⟩)
  have h3 : ∀ W, Below w.heap.size w W → Calls Tryd.prog 20 #[v] W fun e w' => e = .returned (.int .i64 (manyFrom [] 0 rs)) ∧ Below w.heap.size w w' := fun W hb =>
    (findManyNames_any v rs base b45 b87 W (hR.rk (RuleKept.ofBelow hb)) (fun g hg => Nat.lt_of_lt_of_le (hrow g hg) hb.size) h8 hok).mono (fun e w' h => ⟨h.1, hb.trans (h.2.mono hb.size)⟩)
  obtain ⟨a, c, rfl⟩ := hR.form
  have hcs : Hid (checkS rs = if 0 ≤ arityFrom [] 0 rs then (4, arityFrom [] 0 rs) else if 0 ≤ firstLoose rs then (5, firstLoose rs) else if 0 ≤ manyFrom [] 0 rs then (3, manyFrom [] 0 rs) else (0, 0)) := rfl
  have H1 : Hid _ := h1
  have H2 : Hid _ := h2
  have H3 : Hid _ := h3
  clear h1 h2 h3 hR hrow hok
  generalize arityFrom [] 0 rs = ar at *
  generalize firstLoose rs = fu at *
  generalize manyFrom [] 0 rs = mn at *
  generalize checkS rs = cs at *
  by_cases ha : 0 ≤ ar
  · have hfin : Hid (cs = (4, ar)) := by show _ = _; rw [hcs.out, if_pos ha]
    go_enter Tryd.func12, Tryd.ntmps12
    go_wp2_with fail
    refine Calls.mono H1.out ?_
    rintro e w1 ⟨rfl, hb1⟩
    go_wp2
    go_ret2
    rw [hfin.out]
    exact ⟨rfl, hb1⟩
  have ha' : ¬ (0 ≤ ar) := ha
  by_cases hu : 0 ≤ fu
  · have hfin : Hid (cs = (5, fu)) := by show _ = _; rw [hcs.out, if_neg ha, if_pos hu]
    go_enter Tryd.func12, Tryd.ntmps12
    go_wp2_with fail
    refine Calls.mono H1.out ?_
    rintro e w1 ⟨rfl, hb1⟩
    go_wp2_with fail
    refine Calls.mono (H2.out w1 hb1) ?_
    rintro e w2 ⟨rfl, hb2⟩
    go_wp2
    go_ret2
    rw [hfin.out]
    exact ⟨rfl, hb2⟩
  by_cases hm : 0 ≤ mn
  · have hfin : Hid (cs = (3, mn)) := by show _ = _; rw [hcs.out, if_neg ha, if_neg hu, if_pos hm]
    go_enter Tryd.func12, Tryd.ntmps12
    go_wp2_with fail
    refine Calls.mono H1.out ?_
    rintro e w1 ⟨rfl, hb1⟩
    go_wp2_with fail
    refine Calls.mono (H2.out w1 hb1) ?_
    rintro e w2 ⟨rfl, hb2⟩
    go_wp2_with fail
    refine Calls.mono (H3.out w2 hb2) ?_
    rintro e w3 ⟨rfl, hb3⟩
    go_wp2
    go_ret2
    rw [hfin.out]
    exact ⟨rfl, hb3⟩
  · have hfin : Hid (cs = (0, 0)) := by show _ = _; rw [hcs.out, if_neg ha, if_neg hu, if_neg hm]
    go_enter Tryd.func12, Tryd.ntmps12
    go_wp2_with fail
    refine Calls.mono H1.out ?_
    rintro e w1 ⟨rfl, hb1⟩
    go_wp2_with fail
    refine Calls.mono (H2.out w1 hb1) ?_
    rintro e w2 ⟨rfl, hb2⟩
    go_wp2_with fail
    refine Calls.mono (H3.out w2 hb2) ?_
    rintro e w3 ⟨rfl, hb3⟩
    go_wp2
    go_ret2
    rw [hfin.out]
    exact ⟨rfl, hb3⟩

end Go.Proofs.YtjajnhemgphefaaDoor

namespace Go.Proofs.YtjajnhemgphefaaDoor
open Go.RowKit Go.Shelf
set_option linter.unusedVariables false
set_option linter.unusedSimpArgs false

set_option maxHeartbeats 1000000 in
theorem writeTerm_any (B b : Nat) (bs : List UInt8) (t : Tm) (W : World) (hb : Bld B b bs W) (hn : t.num ≤ 90) (hl : (bs ++ termTxt t).length ≤ 1000000) (hB : B ≤ W.heap.size) :
    Calls Tryd.prog 35 #[.pointer (some ⟨b, 0, none⟩), .agg #[.string t.name, .int .i64 t.num]] W fun e W' => e = .returned (.tuple #[]) ∧ Wrote B b (bs ++ termTxt t) W W' := by
  have hbl : Below W.heap.size W (W.alloc (.cells #[.string t.name, .int .i64 t.num] 80)) := (Below.refl _ W).alloc (Nat.le_refl _) _
  have hB1 : B ≤ (W.alloc (.cells #[.string t.name, .int .i64 t.num] 80)).heap.size := by simp; omega
  have hiv := fun W1 => isVariable_any t W1
  have hbx0 : (W.alloc (.cells #[.string t.name, .int .i64 t.num] 80)).heap[W.heap.size]? = some (Obj.cells #[.string t.name, .int .i64 t.num] 80 (0, 0)) := World.alloc_heap_new W _
  cases htv : t.name.toList.isEmpty with
  | false =>
    have htx : termTxt t = t.name.data.toList := by unfold termTxt; rw [if_neg (by simp [htv])]
    rw [htx] at hl ⊢
    rw [htv] at hiv
    have hw : ∀ W1, Below (W.alloc (.cells #[.string t.name, .int .i64 t.num] 80)).heap.size (W.alloc (.cells #[.string t.name, .int .i64 t.num] 80)) W1 → Calls Tryd.prog 22 #[.pointer (some ⟨b, 0, none⟩), .string t.name] W1 fun e W' => (∃ n : Int, e = .returned (.tuple #[.int .i64 n, .nilIface])) ∧ Wrote B b (bs ++ t.name.data.toList) W W' := fun W1 h1 => by
      refine (writeStr_any B b bs t.name W1 ((hb.below hbl).below h1) hl (Nat.le_trans hB1 h1.size)).mono ?_
      rintro e W' ⟨rfl, k⟩
      exact ⟨⟨_, rfl⟩, Wrote.after hbl hB (Wrote.after h1 hB1 k)⟩
    have hc : ∀ W1, Below (W.alloc (.cells #[.string t.name, .int .i64 t.num] 80)).heap.size (W.alloc (.cells #[.string t.name, .int .i64 t.num] 80)) W1 → W1.cell? ⟨W.heap.size, 0, none⟩ = some (.string t.name) := fun W1 h1 => by
      have := (h1.block W.heap.size (by simp)).trans hbx0
      simp [World.cell?, this]
    have HW : Hid _ := hw
    have HC : Hid _ := hc
    have HI : Hid _ := hiv
    clear hw hc hiv hbl hB1 hb hl htx htv hbx0
    go_enter Tryd.func35, Tryd.ntmps35
    go_wp2_with fail
    refine Calls.mono (HI.out _) ?_
    rintro e W1 ⟨rfl, h1⟩
    have c0 := HC.out W1 h1
    go_wp2_with fail
    refine Calls.mono (HW.out W1 h1) ?_
    rintro e W' ⟨⟨n, rfl⟩, h2⟩
    go_wp2
    refine bodyPost_ret (results_none rfl _ _ _) rfl ?_
    exact ⟨rfl, h2⟩
  | true =>
    have htx : termTxt t = 88 :: Lib.decDigits t.num := by unfold termTxt; rw [if_pos htv]
    rw [htx] at hl ⊢
    rw [htv] at hiv
    have hw1 : ∀ W1, Below (W.alloc (.cells #[.string t.name, .int .i64 t.num] 80)).heap.size (W.alloc (.cells #[.string t.name, .int .i64 t.num] 80)) W1 → Calls Tryd.prog 34 #[.pointer (some ⟨b, 0, none⟩), .int .u8 88] W1 fun e W' => e = .returned .nilIface ∧ Wrote B b (bs ++ [88]) W W' ∧ W'.cell? ⟨W.heap.size, 1, none⟩ = some (.int .i64 t.num) := fun W1 h1 => by
      refine (writeByte_any B b bs 88 W1 ((hb.below hbl).below h1) (by simp at hl ⊢; omega) (Nat.le_trans hB1 h1.size)).mono ?_
      rintro e W' ⟨rfl, k⟩
      refine ⟨rfl, Wrote.after hbl hB (Wrote.after h1 hB1 k), ?_⟩
      have := k.cells ((hb.below hbl).below h1) ((h1.block W.heap.size (by simp)).trans hbx0) (by decide) (by decide)
      simp [World.cell?, this]
    have hit : ∀ W1, Calls Tryd.prog 50 #[.int .i64 t.num] W1 fun e w' => e = .returned (.string ⟨(Lib.decDigits t.num).toArray⟩) ∧ W1 = w' := fun W1 => (Tryd.strconv_Itoa_small _ (by omega) W1).mono (fun e w' h => ⟨h.1, h.2.symm⟩)
    have hw2 : ∀ W1, Wrote B b (bs ++ [88]) W W1 → Calls Tryd.prog 22 #[.pointer (some ⟨b, 0, none⟩), .string ⟨(Lib.decDigits t.num).toArray⟩] W1 fun e W' => (∃ n : Int, e = .returned (.tuple #[.int .i64 n, .nilIface])) ∧ Wrote B b (bs ++ 88 :: Lib.decDigits t.num) W W' := fun W1 k => by
      refine (writeStr_any B b (bs ++ [88]) ⟨(Lib.decDigits t.num).toArray⟩ W1 k.bld (by simp at hl ⊢; omega) (Nat.le_trans hB k.below.size)).mono ?_
      rintro e W' ⟨rfl, h1⟩
      refine ⟨⟨_, rfl⟩, k.trans ?_⟩
      simpa using h1
    have H1 : Hid _ := hw1
    have H3 : Hid _ := hit
    have H4 : Hid _ := hw2
    have HI : Hid _ := hiv
    clear hw1 hit hw2 hiv hbl hB1 hb hl htx htv hbx0
    go_enter Tryd.func35, Tryd.ntmps35
    go_wp2_with fail
    refine Calls.mono (HI.out _) ?_
    rintro e W1 ⟨rfl, h1⟩
    go_wp2_with fail
    refine Calls.mono (H1.out W1 h1) ?_
    rintro e W2 ⟨rfl, k1, c1⟩
    go_wp2_with fail
    refine Calls.mono (H3.out W2) ?_
    rintro e w' ⟨rfl, rfl⟩
    go_wp2_with fail
    refine Calls.mono (H4.out W2 k1) ?_
    rintro e W' ⟨⟨n, rfl⟩, h2⟩
    go_wp2
    go_end0
    exact ⟨rfl, h2⟩

end Go.Proofs.YtjajnhemgphefaaDoor
