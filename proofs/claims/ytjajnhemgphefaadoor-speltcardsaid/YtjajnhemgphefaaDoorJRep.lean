/-
  How rules, atoms and terms lie in memory while they are read, and what leaves them as they are; one law more for an append inside a statement whose order is open.
-/
import Derived.Test.YtjajnhemgphefaaDoorJAll
import Derived.Test.YtjajnhemgphefaaDoorJDat
import Derived.Deep.RegionLawGrows
import Derived.Maps.AppendAt
namespace Go.Proofs.YtjajnhemgphefaaDoor
open Go.RowKit Go.Shelf
set_option linter.unusedVariables false
set_option linter.unusedSimpArgs false

def termsC (l : List Tm) : List Value := l.flatMap tmC
def atomC (p : Am × Value) : List Value := [.string p.1.rel, p.2]
def ruleC (q : Rl × Value × Value) : List Value := [.string q.1.head.rel, q.2.1, q.2.2]

theorem termsC_length (l : List Tm) : (termsC l).length = l.length * 2 := by
  induction l with
  | nil => rfl
  | cons t l ih => simp [termsC, tmC] at ih ⊢; omega
theorem atomsC_length (l : List (Am × Value)) : (l.flatMap atomC).length = l.length * 2 := by
  induction l with
  | nil => rfl
  | cons t l ih => simp [atomC] at ih ⊢; omega
theorem rulesC_length (l : List (Rl × Value × Value)) : (l.flatMap ruleC).length = l.length * 3 := by
  induction l with
  | nil => rfl
  | cons t l ih => simp [ruleC] at ih ⊢; omega

/-- A slice of terms that is read and no longer written: its row lies below b. -/
def SealT (W : World) (b : Nat) (v : Value) (l : List Tm) : Prop :=
  (l = [] ∧ v = .slice none 0 0) ∨
  ∃ (g cap : Nat) (cur : Array Value), v = .slice (some ⟨g, 0, none⟩) l.length cap ∧ g < b ∧ W.heap[g]? = some (Obj.cells cur 80 (0, 0)) ∧ cur.toList.take (l.length * 2) = termsC l

/-- A slice of atoms that is read and no longer written. -/
def SealA (W : World) (b45 b87 : Nat) (v : Value) (l : List Am) : Prop :=
  ∃ (ps : List (Am × Value)) (a : Option Addr) (cap : Nat), ps.map (·.1) = l ∧ v = .slice a l.length cap ∧ (∀ p ∈ ps, SealT W b87 p.2 p.1.args) ∧
    (l ≠ [] → ∃ (g off : Nat) (cur : Array Value), a = some ⟨g, off, none⟩ ∧ g < b45 ∧ W.heap[g]? = some (Obj.cells cur 45 (0, 0)) ∧ (cur.toList.drop off).take (l.length * 2) = ps.flatMap atomC)

/-- The atoms of the rule that is being read: the last one's terms may still grow. -/
def CurA (W : World) (b45 b87 : Nat) (v : Value) (l : List Am) : Prop :=
  ∃ ps : List (Am × Value), ps.map (·.1) = l ∧ W.ownsRow b45 45 2 v ps.length (ps.flatMap atomC) ∧ (∀ p ∈ ps.dropLast, SealT W b87 p.2 p.1.args) ∧
    (∀ p, ps.getLast? = some p → W.ownsRow b87 80 2 p.2 p.1.args.length (termsC p.1.args))

def RulesAt (W : World) (base b45 b87 : Nat) (v : Value) (l : List Rl) : Prop :=
  ∃ qs : List (Rl × Value × Value), qs.map (·.1) = l ∧ W.ownsRow base 48 3 v qs.length (qs.flatMap ruleC) ∧ ∀ q ∈ qs, SealT W b87 q.2.1 q.1.head.args ∧ SealA W b45 b87 q.2.2 q.1.body

/-- Blocks of cells of type t below b are as they were. -/
def KeptT (t : TypeId) (b : Nat) (W W' : World) : Prop := ∀ (k : Nat) (c : Array Value), k < b → W.heap[k]? = some (Obj.cells c t (0, 0)) → W'.heap[k]? = some (Obj.cells c t (0, 0))

theorem KeptT.none {t : TypeId} {b : Nat} {W W' : World} (h : W.grownBy W' none) : KeptT t b W W' := fun k c _ hk =>
  (h.block k (Array.getElem?_eq_some_iff.1 hk).1 (by simp)).trans hk
theorem KeptT.other {t u : TypeId} {b g : Nat} {W W' : World} {c : Array Value} {fz : Nat × Nat} (h : W.grownBy W' (some g)) (hg : W.heap[g]? = some (Obj.cells c u fz)) (hne : t ≠ u) : KeptT t b W W' := fun k d _ hk =>
  (h.block k (Array.getElem?_eq_some_iff.1 hk).1 (by
    intro e; cases e; rw [hg] at hk; cases hk; exact hne rfl)).trans hk
theorem KeptT.above {t : TypeId} {b g : Nat} {W W' : World} (h : W.grownBy W' (some g)) (hb : b ≤ g) : KeptT t b W W' := fun k d hk hh =>
  (h.block k (Array.getElem?_eq_some_iff.1 hh).1 (by intro e; cases e; omega)).trans hh

theorem SealT.kept {W W' : World} {b : Nat} {v : Value} {l : List Tm} (h : SealT W b v l) (hk : KeptT 80 b W W') : SealT W' b v l := by
  rcases h with h | ⟨g, cap, cur, h1, h2, h3, h4⟩
  · exact .inl h
  · exact .inr ⟨g, cap, cur, h1, h2, hk g cur h2 h3, h4⟩
theorem SealT.mono {W : World} {b b' : Nat} {v : Value} {l : List Tm} (h : SealT W b v l) (hb : b ≤ b') : SealT W b' v l := by
  rcases h with h | ⟨g, cap, cur, h1, h2, h3, h4⟩
  · exact .inl h
  · exact .inr ⟨g, cap, cur, h1, by omega, h3, h4⟩
theorem SealA.kept {W W' : World} {b45 b87 : Nat} {v : Value} {l : List Am} (h : SealA W b45 b87 v l) (hk : KeptT 45 b45 W W') (hk' : KeptT 80 b87 W W') : SealA W' b45 b87 v l := by
  obtain ⟨ps, a, cap, h1, h2, h3, h4⟩ := h
  refine ⟨ps, a, cap, h1, h2, fun p hp => (h3 p hp).kept hk', fun hne => ?_⟩
  obtain ⟨g, off, cur, e1, e2, e3, e4⟩ := h4 hne
  exact ⟨g, off, cur, e1, e2, hk g cur e2 e3, e4⟩
theorem SealA.mono {W : World} {b45 b87 c45 c87 : Nat} {v : Value} {l : List Am} (h : SealA W b45 b87 v l) (h45 : b45 ≤ c45) (h87 : b87 ≤ c87) : SealA W c45 c87 v l := by
  obtain ⟨ps, a, cap, h1, h2, h3, h4⟩ := h
  refine ⟨ps, a, cap, h1, h2, fun p hp => (h3 p hp).mono h87, fun hne => ?_⟩
  obtain ⟨g, off, cur, e1, e2, e3, e4⟩ := h4 hne
  exact ⟨g, off, cur, e1, by omega, e3, e4⟩

theorem SealT.ofOwns {W : World} {b : Nat} {v : Value} {l : List Tm} (h : W.ownsRow b 80 2 v l.length (termsC l)) : SealT W W.heap.size v l := by
  obtain ⟨_, ⟨hv, hn⟩ | ⟨g, cap, cur, hv, hb, hh, h1, h2, h3, h4⟩⟩ := h
  · exact .inl ⟨List.eq_nil_of_length_eq_zero hn, hv⟩
  · exact .inr ⟨g, cap, cur, hv, (Array.getElem?_eq_some_iff.1 hh).1, hh, h4⟩

/-- An owned row abides whatever keeps its own block. -/
theorem owns_kept {W W' : World} {b e size n : Nat} {v : Value} {xs : List Value} (h : W.ownsRow b e size v n xs) (hk : ∀ g c, v.ownBlock = some g → W.heap[g]? = some (Obj.cells c e (0, 0)) → W'.heap[g]? = some (Obj.cells c e (0, 0))) : W'.ownsRow b e size v n xs := by
  obtain ⟨h0, ⟨hv, hn⟩ | ⟨g, cap, cur, hv, hb, hh, h1, h2, h3, h4⟩⟩ := h
  · exact ⟨h0, .inl ⟨hv, hn⟩⟩
  · exact ⟨h0, .inr ⟨g, cap, cur, hv, hb, hk g cur (by rw [hv]; rfl) hh, h1, h2, h3, h4⟩⟩

theorem step_append_own {P : Program} {ops : Array Oper} {o : Oper} {a : Act} {w : World} {K : Act → World → Prop} {Q : Exit → Act → World → Prop} {E : Prop}
    (hg : o.guard = none) (s x : Operand) (t : TypeId) (hop : o.op = Op.call { callee := Callee.builtin Builtin.append, args := #[s, x], argTypes := #[t, t] })
    (base : Nat) (e : TypeId) (i : TypeInfo) (z : Value) (size bytes : Nat) (h1 : P.underlying t = some (.slice e)) (h2 : P.info? e = some i) (h3 : i.zero = some z) (h4 : i.size = size) (h5 : i.bytes = bytes) (h6 : z.cells.size = size) (h7 : 0 < size)
    (v : Value) (n : Nat) (xs : List Value) (hs : a.eval s = v) (hown : w.ownsRow base e size v n xs)
    (ad : Addr) (m c : Nat) (news : List Value) (hx : a.eval x = .slice (some ad) m c) (hn : news.length = m * size) (hc : ∀ j u, news[j]? = some u → w.cell? (ad.add j) = some u) (h1c : ∀ u ∈ news, u.oneCell' = true)
    (b1 : n + m ≤ maxLen) (b2 : (n + m) * bytes ≤ 140737488355328) (hbase : base ≤ w.heap.size)
    (hK : ∀ v' w', w'.ownsRow base e size v' (n + m) (xs ++ news) → w.grownBy w' v.ownBlock → K (a.put o.dst v') w') :
    if Region.wanted o (yielded ops a.tmps) = true then Oper.wp P o a w K Q else E := by
  have hw : Region.wanted o (yielded ops a.tmps) = true := by simp [Region.wanted, hg]
  rw [if_pos hw]
  obtain ⟨v', w', hrun, r1, r2, _⟩ := run_append_own (P := P) w base t o.type e i z size bytes h1 h2 h3 h4 h5 h6 h7 v n xs hown ad m c news hn hc h1c b1 b2 hbase
  unfold Oper.wp
  simp [execOp, hop, resolve, invoke, builtin, hs, hx, hrun, Result.andThen]
  exact hK v' w' r1 r2

end Go.Proofs.YtjajnhemgphefaaDoor
