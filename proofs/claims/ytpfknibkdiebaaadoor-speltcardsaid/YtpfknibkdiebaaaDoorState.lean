/-
  The parser's state as plain data, how it lies in memory, and what each method does to it.
-/
import Derived.Test.YtpfknibkdiebaaaDoorTerm
import Derived.Test.YtpfknibkdiebaaaDoorEndRule
namespace Go.Proofs.YtpfknibkdiebaaaDoor
open Go.RowKit Go.Shelf
set_option linter.unusedVariables false
set_option linter.unusedSimpArgs false

structure PSt where
  st : Int
  rules : List ARule
  atoms : List AAtom

/-- The parser at block bp stands for the state s; all of its memory lies at or beyond base. -/
def PAt (base : Nat) (W : World) (bp : Nat) (s : PSt) : Prop :=
  ∃ (vr va : Value) (b45 b87 : Nat), base ≤ b45 ∧ base ≤ b87 ∧ b45 ≤ W.heap.size ∧ b87 ≤ W.heap.size ∧ base ≤ bp ∧ W.heap[bp]? = some (Obj.cells #[.int .i64 s.st, vr, va] 54 (0, 0)) ∧ RulesAt W base b45 b87 vr s.rules ∧ CurA W b45 b87 va s.atoms

def NotP (o : Obj) : Prop := ∀ c t fz, o = Obj.cells c t fz → t ≠ 54 ∧ t ≠ 48 ∧ t ≠ 45 ∧ t ≠ 87

/-- What the parser's methods leave alone. -/
def PFr (base : Nat) (W W' : World) : Prop := Below base W W' ∧ ∀ (k : Nat) (o : Obj), W.heap[k]? = some o → NotP o → W'.heap[k]? = some o

theorem PFr.refl (base : Nat) (W : World) : PFr base W W := ⟨Below.refl _ _, fun _ _ h _ => h⟩
theorem PFr.trans {base : Nat} {A B C : World} (h : PFr base A B) (k : PFr base B C) : PFr base A C := ⟨h.1.trans k.1, fun i o hi ho => k.2 i o (h.2 i o hi ho) ho⟩
theorem PFr.ofChg {base : Nat} {W W' : World} {ex : Nat → Prop} (h : Chg W W' ex) (hB : base ≤ W.heap.size) (hx : ∀ k, k < W.heap.size → ex k → base ≤ k ∧ ∃ c t fz, W.heap[k]? = some (Obj.cells c t fz) ∧ (t = 54 ∨ t = 48 ∨ t = 45 ∨ t = 87)) : PFr base W W' := by
  refine ⟨⟨h.os, h.tape, h.output, h.size, fun k hk => h.block k (Nat.lt_of_lt_of_le hk hB) (fun e => ?_)⟩, fun k o hk ho => ?_⟩
  · have := (hx k (Nat.lt_of_lt_of_le hk hB) e).1; omega
  · have hlt := (Array.getElem?_eq_some_iff.1 hk).1
    rw [h.block k hlt (fun e => ?_)]
    · exact hk
    · obtain ⟨_, c, t, fz, hc, ht⟩ := hx k hlt e
      rw [hk] at hc; cases hc
      have := ho c t fz rfl
      rcases ht with h | h | h | h <;> simp_all
theorem PFr.ofBelow {base : Nat} {W W' : World} (h : Below W.heap.size W W') (hB : base ≤ W.heap.size) : PFr base W W' :=
  ⟨h.mono hB, fun k o hk _ => (h.block k (Array.getElem?_eq_some_iff.1 hk).1).trans hk⟩

theorem Chg.keptT {W W' : World} {ex : Nat → Prop} {t : TypeId} {b : Nat} (h : Chg W W' ex) (hx : ∀ (k : Nat) (c : Array Value), k < b → W.heap[k]? = some (Obj.cells c t (0, 0)) → ¬ ex k) : KeptT t b W W' :=
  fun k c hk hc => (h.block k (Array.getElem?_eq_some_iff.1 hc).1 (hx k c hk hc)).trans hc

theorem RulesAt.kept {W W' : World} {base b45 b87 : Nat} {v : Value} {l : List ARule} (h : RulesAt W base b45 b87 v l) (h48 : ∀ g c, v.ownBlock = some g → W.heap[g]? = some (Obj.cells c 48 (0, 0)) → W'.heap[g]? = some (Obj.cells c 48 (0, 0)))
    (h45 : KeptT 45 b45 W W') (h87 : KeptT 87 b87 W W') : RulesAt W' base b45 b87 v l := by
  obtain ⟨qs, h1, h2, h3⟩ := h
  exact ⟨qs, h1, owns_kept h2 h48, fun q hq => ⟨(h3 q hq).1.kept h87, (h3 q hq).2.kept h45 h87⟩⟩
theorem RulesAt.mono {W : World} {base b45 b87 c45 c87 : Nat} {v : Value} {l : List ARule} (h : RulesAt W base b45 b87 v l) (h45 : b45 ≤ c45) (h87 : b87 ≤ c87) : RulesAt W base c45 c87 v l := by
  obtain ⟨qs, h1, h2, h3⟩ := h
  exact ⟨qs, h1, h2, fun q hq => ⟨(h3 q hq).1.mono h87, (h3 q hq).2.mono h45 h87⟩⟩

/-- An owned row's block, if it has one. -/
theorem owns_block {W : World} {b e size n : Nat} {v : Value} {xs : List Value} (h : W.ownsRow b e size v n xs) {g : Nat} (hg : v.ownBlock = some g) : b ≤ g ∧ ∃ c, W.heap[g]? = some (Obj.cells c e (0, 0)) := by
  obtain ⟨_, ⟨hv, hn⟩ | ⟨g', cap, cur, hv, hb, hw, _⟩⟩ := h
  · rw [hv] at hg; simp [Value.ownBlock] at hg
  · rw [hv] at hg; simp [Value.ownBlock] at hg; subst hg; exact ⟨hb, cur, hw⟩

theorem owns_form {W : World} {b e size n : Nat} {v : Value} {xs : List Value} (h : W.ownsRow b e size v n xs) : ∃ a c, v = .slice a n c := by
  obtain ⟨_, ⟨hv, hn⟩ | ⟨g, cap, cur, hv, _⟩⟩ := h
  · exact ⟨none, 0, by rw [hv, hn]⟩
  · exact ⟨_, _, hv⟩

theorem owns_rebase {W : World} {b b' e size n : Nat} {v : Value} {xs : List Value} (h : W.ownsRow b e size v n xs) (hb : ∀ g, v.ownBlock = some g → b' ≤ g) : W.ownsRow b' e size v n xs := by
  obtain ⟨h0, ⟨hv, hn⟩ | ⟨g, cap, cur, hv, _, hw⟩⟩ := h
  · exact ⟨h0, .inl ⟨hv, hn⟩⟩
  · exact ⟨h0, .inr ⟨g, cap, cur, hv, hb g (by rw [hv]; rfl), hw⟩⟩

/-- Only the parser's own first cell is turned. -/
theorem PAt.state {base : Nat} {W : World} {bp : Nat} {s : PSt} (h : PAt base W bp s) (x : Int) : PAt base (W.setCell ⟨bp, 0, none⟩ (.int .i64 x)) bp { s with st := x } ∧ PFr base W (W.setCell ⟨bp, 0, none⟩ (.int .i64 x)) := by
  obtain ⟨vr, va, b45, b87, h1, h2, h3, h4, h5, hh, hR, hA⟩ := h
  have hk : ∀ (k : Nat) (c : Array Value) (t : TypeId), t ≠ 54 → W.heap[k]? = some (Obj.cells c t (0, 0)) → (W.setCell ⟨bp, 0, none⟩ (.int .i64 x)).heap[k]? = some (Obj.cells c t (0, 0)) := by
    intro k c t ht hc
    rw [Below.heap_setCell _ _ _ _ (fun e => ?_)]
    · exact hc
    · simp at e; subst e; rw [hh] at hc; cases hc; exact ht rfl
  refine ⟨⟨vr, va, b45, b87, h1, h2, by simpa using h3, by simpa using h4, h5, heap_set hh 0 _, hR.kept (fun g c _ hc => hk g c _ (by decide) hc) (fun k c _ hc => hk k c _ (by decide) hc) (fun k c _ hc => hk k c _ (by decide) hc), ?_⟩, ?_⟩
  · obtain ⟨ps, e1, e2, e3, e4⟩ := hA
    exact ⟨ps, e1, owns_kept e2 (fun g c _ hc => hk g c _ (by decide) hc), fun p hp => (e3 p hp).kept (fun k c _ hc => hk k c _ (by decide) hc), fun p hp => owns_kept (e4 p hp) (fun g c _ hc => hk g c _ (by decide) hc)⟩
  · refine PFr.ofChg ((Chg.refl W (fun j => j = bp)).setCell ⟨bp, 0, none⟩ _ (fun _ => rfl)) (by omega) (fun k hk e => ?_)
    subst e
    exact ⟨h5, _, _, _, hh, .inl rfl⟩

end Go.Proofs.YtpfknibkdiebaaaDoor
