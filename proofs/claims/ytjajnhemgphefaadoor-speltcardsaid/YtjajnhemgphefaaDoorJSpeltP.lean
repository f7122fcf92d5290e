/-
  Proved: for every list of numbers and every two numbers handed to it, the statement's function Spelt answers true, and what was handed in reads as before.
  Conditions: package unicode/utf8's two tables, and the tables of math/bits and internal/strconv that the row lists, hold what the program's text lays (the card ties them).
-/
import Derived.Test.YtjajnhemgphefaaDoorCards
import Derived.Test.YtjajnhemgphefaaDoorTie
import Derived.Test.YtjajnhemgphefaaDoorJSpeltF
import Derived.ProofKit
import Derived.OpenShut
import Derived.Carry
import Derived.Deep.DeepHandedRow
import Derived.Lib.LaidU8T
import Derived.SevenTiedAt
namespace Go.Proofs.YtjajnhemgphefaaDoor
open Go.ChangeShapes Go.WideShapes Go.ChangeAt Go.RowKit Go.Shelf
set_option linter.unusedVariables false
set_option linter.unusedSimpArgs false

theorem own : ownKnob Tryd.prog.godebug = none := by kernel_rfl
theorem laidOutP : laidOutB Tryd.prog = true := by kernel_rfl
theorem cellsInt : Tryd.prog.cellsOf 3 = 1 := by kernel_rfl

def uren : Ren :=
  { f := fun n => n
    t := fun
      | 5 => 5
      | 119 => 112
      | 138 => 115
      | 139 => 116
      | n => n
    g := fun
      | 3 => 0
      | 4 => 1
      | n => n }

theorem u8types : U8Types Tryd.prog uren := {
  t5 := by kernel_rfl
  t119 := by kernel_rfl
  t138 := by kernel_rfl
  t139 := by kernel_rfl }
theorem u8extra : U8Extra Tryd.prog uren := {
  n3 := by kernel_rfl
  n4 := by kernel_rfl
  y3 := by kernel_rfl
  y4 := by kernel_rfl
  c5 := by kernel_rfl
  c119 := by kernel_rfl
  c138 := by kernel_rfl }

theorem first_same : Rows.laid_unicode_utf8_first = Lib.firstData := by kernel_rfl
theorem accept_same : (Rows.laid_unicode_utf8_acceptRanges : DataW Unit) = Lib.acceptData := by kernel_rfl

theorem tabs {W : World} (h : laidMetH Tryd.prog Rows.speltRow.laid W) : Lib.Utf8Tabs 0 1 W := by
  have h2 : laidMet Tryd.prog Rows.speltRow.laid W := h
  refine utf8Tabs_of_readsT u8types u8extra (Lib.laidMet.reads h2 ?_) (Lib.laidMet.reads h2 ?_)
  · rw [← first_same]; simp [Rows.speltRow]
  · rw [← accept_same]; simp [Rows.speltRow]

/-- The gap, for every list that is handed in. -/
theorem gap_all (b off cap len : Nat) (xs : List Int) (W : World) (hl : len ≤ xs.length) (hm : len ≤ maxLen) (hc : ∀ j, j < xs.length → W.cell? ⟨b, off + j, none⟩ = some (.int .i64 (xs.getD j 0))) (h0 : 0 < len) :
    ∀ (W' : World) (k : Nat), k < 35 → Below W.heap.size W W' → Calls Tryd.prog 7 #[.slice (some ⟨b, off, none⟩) len cap, .int .i64 k] W' fun e w' => e = .returned (.string (B (gapF (xs.take len) k))) ∧ ∃ q, w' = W'.drewN q := by
  intro W' k hk hB
  have e : (xs.take len).length = len := by rw [List.length_take]; omega
  have h := gap_some b off cap (xs.take len) k W' (by rw [e]; exact hm) (by omega) (by rw [e]; exact h0) (fun j hj => by
    rw [e] at hj
    have := cell_later hB (hc j (by omega))
    rw [this]
    simp [List.getElem?_take, hj])
  rw [e] at h
  exact h

set_option maxRecDepth 100000 in
theorem contract (H : Type) (enc : TypeId × Value → H) (W : World) (base : Nat) (args : Array Value) (ds gs : List (DataW H)) (before : List MemPlace)
    (hval : ∀ (j : Nat) t v, Tryd.f3.params[j]? = some t → args[j]? = some v → Value.okWide Tryd.prog W .any base t v)
    (hW : DataW.Whole enc Tryd.prog Tryd.f3.params.toList Rows.speltSpec.vars false W args.toList ds gs before) (hL : laidMetH Tryd.prog Rows.speltRow.laid W) :
    Calls Tryd.prog 3 args W fun e W' => ∃ v, e = .returned v ∧ Rows.speltSpec.post enc Tryd.prog Tryd.f3 false true false false W args v W' := by
  have hT := tabs hL
  have hW' := hW
  obtain ⟨p, q, hA0, hV, rfl, hfz, hnd⟩ := hW
  have hA : DataW.TrodAll enc Tryd.prog W 0 (fun _ => true) true Tryd.f3.params.toList args.toList ds p := hA0
  rw [Tryd.params3] at hA hval
  obtain ⟨v0, v1, v2, d0, d1, d2, p0, p1, p2, rfl, rfl, rfl, h0, h1, h2⟩ := trodAll_three hA
  obtain ⟨rfl, rfl⟩ := trodVars_none hV
  obtain ⟨nm, rfl, rfl, rfl, wn⟩ := open_int Tryd.underlying3 (hval 1 3 v1 rfl rfl) h1
  obtain ⟨bd, rfl, rfl, rfl, wb⟩ := open_int Tryd.underlying3 (hval 2 3 v2 rfl rfl) h2
  obtain ⟨a0, len, cap, rfl⟩ := okWide_slice Tryd.underlying22 (hval 0 22 v0 rfl rfl)
  clear hA0
  simp only [List.append_nil] at hW'
  have hlt : ∀ x ∈ p0, x.block < W.heap.size := fun x hx => by simpa using hW'.lt x hx
  have walk : Calls Tryd.prog 3 #[.slice a0 len cap, .int .i64 nm, .int .i64 bd] W fun e w' => e = .returned (.bool true) ∧ Below W.heap.size W w' := by
    have bn := bounds_i64 wn
    have bb := bounds_i64 wb
    have hzero : ∀ (a : Option Addr) (c : Nat), Calls Tryd.prog 3 #[.slice a 0 c, .int .i64 nm, .int .i64 bd] W fun e w' => e = .returned (.bool true) ∧ Below W.heap.size W w' := fun a c =>
      speltF_any (.slice a 0 c) [] nm bd W hT bn.1 bn.2 bb.1 bb.2 (fun W' k hk _ => gap_none a c k W')
    obtain ⟨fuel, hf⟩ := h0
    rcases open_ints Tryd.underlying22 Tryd.underlying3 cellsInt hf with ⟨hcs, hx⟩ | ⟨a, len', cap', zs, hcs, _, hl, hm, hz, hx, hcell, hwz⟩
    · simp only [Value.cells, List.cons.injEq, Value.slice.injEq, and_true] at hcs
      obtain ⟨rfl, rfl, rfl⟩ := hcs
      exact hzero _ _
    · simp only [Value.cells, List.cons.injEq, Value.slice.injEq, and_true] at hcs
      obtain ⟨rfl, rfl, rfl⟩ := hcs
      by_cases hl0 : len = 0
      · subst hl0
        exact hzero _ _
      · simp only [if_true] at hz
        obtain ⟨b, off, rfl, hc⟩ := ints_at hcell (by omega)
        exact speltF_any _ (zs.take len) nm bd W hT bn.1 bn.2 bb.1 bb.2 (gap_all b off cap len zs W (by omega) (by omega) hc (by omega))
  refine walk.mono fun e W2 ⟨he, hB⟩ => ?_
  subst he
  refine ⟨_, rfl, _, _, _, [], p0 ++ ([] ++ []), [], hW', ?_, ?_, rfl, hB.frame _, fun h => by cases h⟩
  · exact trodAll_mk1 (shut_bool Tryd.underlying4 _)
  · exact trodAll_mk3 (Below.trod laidOutP (by kernel_rfl) (of_decide_eq_true (by kernel_rfl)) h0 hB hlt) (shut_int Tryd.underlying3 wn) (shut_int Tryd.underlying3 wb)

end Go.Proofs.YtjajnhemgphefaaDoor
