/-
  The parser's state as plain data, how it lies in memory, and what each method does to it.
-/
import Derived.Test.YtjajnhemgphefaaDoorJTerm2
import Derived.Test.YtjajnhemgphefaaDoorJEndRule
namespace Go.Proofs.YtjajnhemgphefaaDoor
open Go.RowKit Go.Shelf
set_option linter.unusedVariables false
set_option linter.unusedSimpArgs false

/-- The parser at block bp stands for the state s; all of its memory lies at or beyond base, its variables' at or beyond bS. -/
def PAt (base bS : Nat) (W : World) (bp : Nat) (s : PSt) : Prop :=
  ∃ (vr va vv : Value) (b45 b87 : Nat), base ≤ b45 ∧ base ≤ b87 ∧ b45 ≤ W.heap.size ∧ b87 ≤ W.heap.size ∧ base ≤ bp ∧ base ≤ bS ∧ bS ≤ W.heap.size ∧ W.heap[bp]? = some (Obj.cells #[.int .i64 s.st, vr, va, vv] 53 (0, 0)) ∧
    W.ownsRow bS 9 1 vv s.vars.length (s.vars.map Value.string) ∧ RulesAt W base b45 b87 vr s.rules ∧ CurA W b45 b87 va s.atoms

def NotP (o : Obj) : Prop := ∀ c t fz, o = Obj.cells c t fz → t ≠ 53 ∧ t ≠ 48 ∧ t ≠ 45 ∧ t ≠ 80 ∧ t ≠ 9

/-- What the parser's methods leave alone. -/
structure PFr (base bS : Nat) (W W' : World) : Prop where
  low : Below base W W'
  same : ∀ (k : Nat) (o : Obj), W.heap[k]? = some o → NotP o → W'.heap[k]? = some o
  str : ∀ (k : Nat) (c : Array Value) (fz : Nat × Nat), k < bS → W.heap[k]? = some (Obj.cells c 9 fz) → W'.heap[k]? = some (Obj.cells c 9 fz)

theorem PFr.refl (base bS : Nat) (W : World) : PFr base bS W W := ⟨Below.refl _ _, fun _ _ h _ => h, fun _ _ _ _ h => h⟩
theorem PFr.trans {base bS : Nat} {A B C : World} (h : PFr base bS A B) (k : PFr base bS B C) : PFr base bS A C := ⟨h.1.trans k.1, fun i o hi ho => k.2 i o (h.2 i o hi ho) ho, fun i c fz hi hc => k.3 i c fz hi (h.3 i c fz hi hc)⟩
theorem PFr.ofChg {base bS : Nat} {W W' : World} {ex : Nat → Prop} (h : Chg W W' ex) (hB : base ≤ W.heap.size) (hx : ∀ k, k < W.heap.size → ex k → base ≤ k ∧ ∃ c t fz, W.heap[k]? = some (Obj.cells c t fz) ∧ (t = 53 ∨ t = 48 ∨ t = 45 ∨ t = 80 ∨ (t = 9 ∧ bS ≤ k))) : PFr base bS W W' := by
  refine ⟨⟨h.os, h.tape, h.output, h.size, fun k hk => h.block k (Nat.lt_of_lt_of_le hk hB) (fun e => ?_)⟩, fun k o hk ho => ?_, fun k c fz hlt0 hk => ?_⟩
  · have := (hx k (Nat.lt_of_lt_of_le hk hB) e).1; omega
  · have hlt := (Array.getElem?_eq_some_iff.1 hk).1
    rw [h.block k hlt (fun e => ?_)]
    · exact hk
    · obtain ⟨_, c, t, fz, hc, ht⟩ := hx k hlt e
      rw [hk] at hc; cases hc
      have := ho c t fz rfl
      rcases ht with h | h | h | h | h <;> simp_all
  · have hlt := (Array.getElem?_eq_some_iff.1 hk).1
    rw [h.block k hlt (fun e => ?_)]
    · exact hk
    · obtain ⟨_, c', t, fz', hc, ht⟩ := hx k hlt e
      rw [hk] at hc; cases hc
      rcases ht with h | h | h | h | ⟨_, h⟩
      · exact absurd h (by decide)
      · exact absurd h (by decide)
      · exact absurd h (by decide)
      · exact absurd h (by decide)
      · omega
theorem PFr.ofBelow {base bS : Nat} {W W' : World} (h : Below W.heap.size W W') (hB : base ≤ W.heap.size) : PFr base bS W W' :=
  ⟨h.mono hB, fun k o hk _ => (h.block k (Array.getElem?_eq_some_iff.1 hk).1).trans hk, fun k c fz _ hk => (h.block k (Array.getElem?_eq_some_iff.1 hk).1).trans hk⟩

theorem Chg.keptT {W W' : World} {ex : Nat → Prop} {t : TypeId} {b : Nat} (h : Chg W W' ex) (hx : ∀ (k : Nat) (c : Array Value), k < b → W.heap[k]? = some (Obj.cells c t (0, 0)) → ¬ ex k) : KeptT t b W W' :=
  fun k c hk hc => (h.block k (Array.getElem?_eq_some_iff.1 hc).1 (hx k c hk hc)).trans hc

theorem RulesAt.kept {W W' : World} {base b45 b87 : Nat} {v : Value} {l : List Rl} (h : RulesAt W base b45 b87 v l) (h48 : ∀ g c, v.ownBlock = some g → W.heap[g]? = some (Obj.cells c 48 (0, 0)) → W'.heap[g]? = some (Obj.cells c 48 (0, 0)))
    (h45 : KeptT 45 b45 W W') (h87 : KeptT 80 b87 W W') : RulesAt W' base b45 b87 v l := by
  obtain ⟨qs, h1, h2, h3⟩ := h
  exact ⟨qs, h1, owns_kept h2 h48, fun q hq => ⟨(h3 q hq).1.kept h87, (h3 q hq).2.kept h45 h87⟩⟩
theorem RulesAt.mono {W : World} {base b45 b87 c45 c87 : Nat} {v : Value} {l : List Rl} (h : RulesAt W base b45 b87 v l) (h45 : b45 ≤ c45) (h87 : b87 ≤ c87) : RulesAt W base c45 c87 v l := by
  obtain ⟨qs, h1, h2, h3⟩ := h
  exact ⟨qs, h1, h2, fun q hq => ⟨(h3 q hq).1.mono h87, (h3 q hq).2.mono h45 h87⟩⟩

/-- An owned row's block, if it has one. -/
theorem owns_block {W : World} {b e size n : Nat} {v : Value} {xs : List Value} (h : W.ownsRow b e size v n xs) {g : Nat} (hg : v.ownBlock = some g) : b ≤ g ∧ ∃ c, W.heap[g]? = some (Obj.cells c e (0, 0)) := by
  obtain ⟨_, ⟨hv, hn⟩ | ⟨g', cap, cur, hv, hb, hw, _⟩⟩ := h
  · rw [hv] at hg; simp [Value.ownBlock] at hg
  · rw [hv] at hg; simp [Value.ownBlock] at hg; subst hg; exact ⟨hb, cur, hw⟩

theorem owns_form {W : World} {b e size n : Nat} {v : Value} {xs : List Value} (h : W.ownsRow b e size v n xs) : ∃ a c, v = .slice a n c := by
  obtain ⟨_, ⟨hv, hn⟩ | ⟨g, cap, cur, hv, _⟩⟩ := h
  · exact ⟨none, 0, by rw [hv, hn]⟩
  · exact ⟨_, _, hv⟩

theorem owns_rebase {W : World} {b b' e size n : Nat} {v : Value} {xs : List Value} (h : W.ownsRow b e size v n xs) (hb : ∀ g, v.ownBlock = some g → b' ≤ g) : W.ownsRow b' e size v n xs := by
  obtain ⟨h0, ⟨hv, hn⟩ | ⟨g, cap, cur, hv, _, hw⟩⟩ := h
  · exact ⟨h0, .inl ⟨hv, hn⟩⟩
  · exact ⟨h0, .inr ⟨g, cap, cur, hv, hb g (by rw [hv]; rfl), hw⟩⟩

/-- Only the parser's own first cell is turned. -/
theorem PAt.state {base bS : Nat} {W : World} {bp : Nat} {s : PSt} (h : PAt base bS W bp s) (x : Int) : PAt base bS (W.setCell ⟨bp, 0, none⟩ (.int .i64 x)) bp { s with st := x } ∧ PFr base bS W (W.setCell ⟨bp, 0, none⟩ (.int .i64 x)) := by
  obtain ⟨vr, va, vv, b45, b87, h1, h2, h3, h4, h5, h6, h7, hh, hV, hR, hA⟩ := h
  have hk : ∀ (k : Nat) (c : Array Value) (t : TypeId), t ≠ 53 → W.heap[k]? = some (Obj.cells c t (0, 0)) → (W.setCell ⟨bp, 0, none⟩ (.int .i64 x)).heap[k]? = some (Obj.cells c t (0, 0)) := by
    intro k c t ht hc
    rw [Below.heap_setCell _ _ _ _ (fun e => ?_)]
    · exact hc
    · simp at e; subst e; rw [hh] at hc; cases hc; exact ht rfl
  refine ⟨⟨vr, va, vv, b45, b87, h1, h2, by simpa using h3, by simpa using h4, h5, h6, by simpa using h7, heap_set hh 0 _, owns_kept hV (fun g c _ hc => hk g c _ (by decide) hc), hR.kept (fun g c _ hc => hk g c _ (by decide) hc) (fun k c _ hc => hk k c _ (by decide) hc) (fun k c _ hc => hk k c _ (by decide) hc), ?_⟩, ?_⟩
  · obtain ⟨ps, e1, e2, e3, e4⟩ := hA
    exact ⟨ps, e1, owns_kept e2 (fun g c _ hc => hk g c _ (by decide) hc), fun p hp => (e3 p hp).kept (fun k c _ hc => hk k c _ (by decide) hc), fun p hp => owns_kept (e4 p hp) (fun g c _ hc => hk g c _ (by decide) hc)⟩
  · refine PFr.ofChg ((Chg.refl W (fun j => j = bp)).setCell ⟨bp, 0, none⟩ _ (fun _ => rfl)) (by omega) (fun k hk e => ?_)
    subst e
    exact ⟨h5, _, _, _, hh, .inl rfl⟩

end Go.Proofs.YtjajnhemgphefaaDoor
