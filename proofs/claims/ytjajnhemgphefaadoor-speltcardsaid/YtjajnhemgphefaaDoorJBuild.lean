/-
  A function whose loop ranges over an iterator in every round leaves with a mark a round: all of them are taken up at its return. What a loop over rules reads.
  strings.Builder: the library's contracts on WriteString and WriteByte, laid at this program by hand (the table of numbers is written out).
-/
import Derived.Test.YtjajnhemgphefaaDoorJAddN
import Derived.Shelf.Strings.BuilderK
namespace Go.Proofs.YtjajnhemgphefaaDoor
open Go.RowKit Go.Shelf
set_option linter.unusedVariables false
set_option linter.unusedSimpArgs false

def marks (ds : List Nat) : List Deferred := ds.map fun D => { target := .collected D, args := #[] }

theorem leaves_all {n : Nat} {fn : Func} {tmps : Array Value} {R : Ending → World → Prop} : ∀ (ds : List Nat) (W : World), ds.Nodup → (∀ D ∈ ds, W.heap[D]? = some (.deferred (some []))) →
    (∀ W', Chg W W' (fun j => j ∈ ds) → W'.heap.size = W.heap.size → LeavesInM Fence.wide n Tryd.prog fn tmps R [] .returning W') → LeavesInM Fence.wide n Tryd.prog fn tmps R (marks ds) .returning W
  | [], W, _, _, h => h W (Chg.refl _ _) rfl
  | D :: ds, W, hn, hd, h => by
    have hD := hd D (by simp)
    refine ⟨by simp, .inl ⟨_, _, rfl, run_takeDeferred hD, ?_⟩⟩
    have hg := grownBy_putObj' W D (.deferred none)
    have hsz : (W.putObj D (.deferred none)).heap.size = W.heap.size := by simp [World.putObj]
    have hc : Chg W (W.putObj D (.deferred none)) (fun j => j ∈ D :: ds) := (Chg.refl W _).grown hg (fun k e _ => by cases e; simp)
    refine leaves_all ds _ (List.nodup_cons.1 hn).2 (fun D' h' => ?_) (fun W' hc' hs' => h W' (hc.trans (hc'.mono (fun _ _ e => by simp [e]))) (by omega))
    have hne : D' ≠ D := fun e => (List.nodup_cons.1 hn).1 (e ▸ h')
    have hD' := hd D' (by simp [h'])
    exact (hg.block D' (Array.getElem?_eq_some_iff.1 hD').1 (by simpa using hne)).trans hD'

/-- The k-th rule of a row of rules. -/
theorem rules_cell {W : World} {base b45 b87 : Nat} {v : Value} {rs : List Rl} (h : RulesAt W base b45 b87 v rs) {k : Nat} (hk : k < rs.length) :
    ∃ (g c : Nat) (v0 vb : Value), v = .slice (some ⟨g, 0, none⟩) rs.length c ∧ W.cell? ⟨g, k * 3, none⟩ = some (.string (rs[k]).head.rel) ∧ W.cell? ⟨g, k * 3 + 1, none⟩ = some v0 ∧ W.cell? ⟨g, k * 3 + 2, none⟩ = some vb ∧ RuleV W b45 b87 rs[k] v0 vb := by
  obtain ⟨qs, r1, r2, r3⟩ := h
  have hql : qs.length = rs.length := by rw [← r1]; simp
  obtain ⟨_, ⟨_, hz⟩ | ⟨g, c, cur, hv, _, hw, _, _, _, htk⟩⟩ := r2
  · omega
  have hkq : k < qs.length := by omega
  have hrk : rs[k] = (qs[k]).1 := by simp [← r1]
  have hflat : ∀ (l : List (Rl × Value × Value)) (i : Nat) (hi : i < l.length), (l.flatMap ruleC)[i * 3]? = some (.string (l[i]).1.head.rel) ∧ (l.flatMap ruleC)[i * 3 + 1]? = some (l[i]).2.1 ∧ (l.flatMap ruleC)[i * 3 + 2]? = some (l[i]).2.2 := by
    intro l
    induction l with
    | nil => intro i hi; simp at hi
    | cons x l ih =>
      intro i hi
      cases i with
      | zero => simp [ruleC]
      | succ i =>
        simp only [List.length_cons] at hi
        have := ih i (by omega)
        simp only [List.flatMap_cons, ruleC, List.cons_append, List.nil_append]
        rw [show (i + 1) * 3 = i * 3 + 3 by omega]
        exact this
  obtain ⟨p0, p1, p2⟩ := hflat qs k hkq
  rw [← htk, List.getElem?_take, if_pos (by omega)] at p0 p1 p2
  refine ⟨g, c, (qs[k]).2.1, (qs[k]).2.2, by rw [hv, hql], ?_, ?_, ?_, ?_⟩
  · simp only [World.cell?, hw]; rw [hrk]; simpa using p0
  · simp only [World.cell?, hw]; simpa using p1
  · simp only [World.cell?, hw]; simpa using p2
  · rw [hrk]; exact r3 _ (List.getElem_mem hkq)

theorem RulesAt.rk {W W' : World} {base b45 b87 : Nat} {v : Value} {l : List Rl} (h : RulesAt W base b45 b87 v l) (hk : RuleKept W W') : RulesAt W' base b45 b87 v l := h.keep (fun k c t ht hc => hk k c t ht hc)

theorem RulesAt.form {W : World} {base b45 b87 : Nat} {v : Value} {l : List Rl} (h : RulesAt W base b45 b87 v l) : ∃ a c, v = .slice a l.length c := by
  obtain ⟨qs, r1, r2, r3⟩ := h
  obtain ⟨a, c, e⟩ := owns_form r2
  exact ⟨a, c, by rw [e, ← r1]; simp⟩

end Go.Proofs.YtjajnhemgphefaaDoor

namespace Go.Proofs.YtjajnhemgphefaaDoor
open Go.RowKit Go.Shelf
set_option linter.unusedVariables false
set_option linter.unusedSimpArgs false

def bren : Ren :=
  { f := fun
      | 166 => 22
      | 167 => 34
      | 240 => 36
      | 276 => 51
      | n => n
    t := fun
      | 0 => 0
      | 3 => 3
      | 4 => 4
      | 5 => 5
      | 9 => 9
      | 20 => 20
      | 37 => 40
      | 70 => 39
      | 72 => 42
      | 75 => 61
      | 80 => 50
      | 164 => 104
      | n => n
    g := fun n => n }

theorem blay166 : Lays.n166 Tryd.prog bren :=
  { mixed := by kernel_rfl
    f166 := by kernel_rfl
    f240 := by kernel_rfl
    f276 := by kernel_rfl
    t0 := by kernel_rfl
    a0 := fun _ => by kernel_rfl
    z0 := fun _ => by kernel_rfl
    v0 := fun _ => by kernel_rfl
    t3 := by kernel_rfl
    a3 := fun _ => by kernel_rfl
    z3 := fun _ => by kernel_rfl
    v3 := fun _ => by kernel_rfl
    t4 := by kernel_rfl
    a4 := fun _ => by kernel_rfl
    z4 := fun _ => by kernel_rfl
    v4 := fun _ => by kernel_rfl
    t9 := by kernel_rfl
    a9 := fun _ => by kernel_rfl
    z9 := fun _ => by kernel_rfl
    v9 := fun _ => by kernel_rfl
    t20 := by kernel_rfl
    a20 := fun _ => by kernel_rfl
    z20 := fun _ => by kernel_rfl
    v20 := fun _ => by kernel_rfl
    t37 := by kernel_rfl
    a37 := fun _ => by kernel_rfl
    z37 := fun _ => by kernel_rfl
    v37 := fun _ => by kernel_rfl
    t70 := by kernel_rfl
    a70 := fun _ => by kernel_rfl
    z70 := fun _ => by kernel_rfl
    v70 := fun _ => by kernel_rfl
    t72 := by kernel_rfl
    a72 := fun _ => by kernel_rfl
    z72 := fun _ => by kernel_rfl
    v72 := fun _ => by kernel_rfl
    t75 := by kernel_rfl
    a75 := fun _ => by kernel_rfl
    z75 := fun _ => by kernel_rfl
    v75 := fun _ => by kernel_rfl
    t164 := by kernel_rfl
    a164 := fun _ => by kernel_rfl
    z164 := fun _ => by kernel_rfl
    v164 := fun _ => by kernel_rfl }

theorem blay167 : Lays.n167 Tryd.prog bren :=
  { mixed := by kernel_rfl
    f167 := by kernel_rfl
    f240 := by kernel_rfl
    f276 := by kernel_rfl
    t0 := by kernel_rfl
    a0 := fun _ => by kernel_rfl
    z0 := fun _ => by kernel_rfl
    v0 := fun _ => by kernel_rfl
    t4 := by kernel_rfl
    a4 := fun _ => by kernel_rfl
    z4 := fun _ => by kernel_rfl
    v4 := fun _ => by kernel_rfl
    t5 := by kernel_rfl
    a5 := fun _ => by kernel_rfl
    z5 := fun _ => by kernel_rfl
    v5 := fun _ => by kernel_rfl
    t9 := by kernel_rfl
    a9 := fun _ => by kernel_rfl
    z9 := fun _ => by kernel_rfl
    v9 := fun _ => by kernel_rfl
    t20 := by kernel_rfl
    a20 := fun _ => by kernel_rfl
    z20 := fun _ => by kernel_rfl
    v20 := fun _ => by kernel_rfl
    t37 := by kernel_rfl
    a37 := fun _ => by kernel_rfl
    z37 := fun _ => by kernel_rfl
    v37 := fun _ => by kernel_rfl
    t70 := by kernel_rfl
    a70 := fun _ => by kernel_rfl
    z70 := fun _ => by kernel_rfl
    v70 := fun _ => by kernel_rfl
    t72 := by kernel_rfl
    a72 := fun _ => by kernel_rfl
    z72 := fun _ => by kernel_rfl
    v72 := fun _ => by kernel_rfl
    t75 := by kernel_rfl
    a75 := fun _ => by kernel_rfl
    z75 := fun _ => by kernel_rfl
    v75 := fun _ => by kernel_rfl
    t164 := by kernel_rfl
    a164 := fun _ => by kernel_rfl
    z164 := fun _ => by kernel_rfl
    v164 := fun _ => by kernel_rfl }

theorem bextra : Builder.Extra Tryd.prog bren := {
  sizeBuilder := by kernel_rfl
  liesBuilder := by kernel_rfl
  t5 := by kernel_rfl
  a5 := fun _ => by kernel_rfl
  z5 := fun _ => by kernel_rfl
  v5 := fun _ => by kernel_rfl
  infoByte := by kernel_rfl
  cellsByte := by kernel_rfl
  sizeByte := by kernel_rfl
  neB5 := by decide }

end Go.Proofs.YtjajnhemgphefaaDoor
