/-
  The document's own answer, in plain functions: how many bytes the rune has that begins at a place, and of what kind it is: as Go reads the rune there.
  The document's own answer, in plain functions: the runes of a text.
  The document's own tokens, in a plain function over a text's runes, and that they are the program's.
  Rows of the call's own that hold a list of things, each of a fixed number of cells: what lies at which place. (Of any program.)
  Plain data that both sides share: rules, names; texts' numbers; a memory of which only strings were changed.
  How rules, atoms and terms lie in memory while they are read, and what leaves them as they are; one law more for an append inside a statement whose order is open.
-/
import Derived.Test.YtjajnhemgphefaaGreatDoorJcWord
import Derived.Test.YtjajnhemgphefaaGreatDoorJcAll
import Derived.Lib.ItoaNum
import Derived.Deep.RegionLawGrows
import Derived.Maps.AppendAt
namespace Go.Proofs.YtjajnhemgphefaaGreatDoor
open Go.RowKit
set_option linter.unusedVariables false
set_option linter.unusedSimpArgs false

/-- The kind of a rune. -/
def kindRune (r : Nat) : Nat :=
  if smallB r = true then 1 else if capB r = true then 2 else if digB r = true then 3 else if blankB r = true then 4
  else if r = 40 ∨ r = 41 ∨ r = 44 ∨ r = 46 then 5 else if r = 58 then 6 else if r = 45 then 7 else 8

end Go.Proofs.YtjajnhemgphefaaGreatDoor

namespace Go.Proofs.YtjajnhemgphefaaGreatDoor
open Go.RowKit
set_option linter.unusedVariables false
set_option linter.unusedSimpArgs false

/-- A rune: its kind, its bytes. -/
structure Rn where
  kind : Nat
  text : ByteArray

/-- The runes of a text, by fuel. -/
def runesF : Nat → ByteArray → List Rn
  | 0, _ => []
  | f + 1, s => if s.size = 0 then [] else ⟨kindRune (Utf8.decode s 0).1, s.extract 0 (Utf8.decode s 0).2⟩ :: runesF f (s.extract (Utf8.decode s 0).2 s.size)

/-- The runes from a place on. -/
def R (s : ByteArray) (i : Nat) : List Rn := runesF s.size (s.extract i s.size)

end Go.Proofs.YtjajnhemgphefaaGreatDoor

namespace Go.Proofs.YtjajnhemgphefaaGreatDoor
open Go.RowKit Go.Shelf
set_option linter.unusedVariables false
set_option linter.unusedSimpArgs false

end Go.Proofs.YtjajnhemgphefaaGreatDoor

namespace Go.Proofs.YtjajnhemgphefaaGreatDoor
open Go.RowKit Go.Shelf
set_option linter.unusedVariables false
set_option linter.unusedSimpArgs false

theorem flat_get {α : Type} (f : α → List Value) (k : Nat) (hk : ∀ x, (f x).length = k) : ∀ (l : List α) (j o : Nat) (hj : j < l.length), o < k → (l.flatMap f)[j * k + o]? = (f l[j])[o]?
  | [], j, o, hj, _ => by simp at hj
  | x :: l, 0, o, hj, ho => by
    rw [List.flatMap_cons, List.getElem?_append_left (by rw [hk]; omega)]
    simp
  | x :: l, j + 1, o, hj, ho => by
    have hj' : j < l.length := by simpa using hj
    have e : (j + 1) * k + o = k + (j * k + o) := by rw [Nat.succ_mul]; omega
    rw [List.flatMap_cons, List.getElem?_append_right (by rw [hk, e]; omega), hk, e, Nat.add_sub_cancel_left]
    simpa using flat_get f k hk l j o hj' ho

/-- The form of an owned row that holds a list. -/
theorem own_form {W : World} {B T k n : Nat} {v : Value} {xs : List Value} (h : W.ownsRow B T k v n xs) : ∃ a c, v = .slice a n c := by
  obtain ⟨_, ⟨hv, hn⟩ | ⟨g, cap, cur, hv, _⟩⟩ := h
  · exact ⟨none, 0, by rw [hv, hn]⟩
  · exact ⟨_, _, hv⟩

theorem own_get {W : World} {B T k : Nat} {v : Value} {α : Type} {f : α → List Value} {l : List α} (h : W.ownsRow B T k v l.length (l.flatMap f)) (hk : ∀ x, (f x).length = k) (hne : 0 < l.length) :
    ∃ g cap, v = .slice (some ⟨g, 0, none⟩) l.length cap ∧ B ≤ g ∧ g < W.heap.size ∧ l.length ≤ cap ∧ ∀ (j o : Nat) (hj : j < l.length) (u : Value), o < k → (f l[j])[o]? = some u → W.cell? ⟨g, j * k + o, none⟩ = some u := by
  obtain ⟨_, ⟨hv, hn⟩ | ⟨g, cap, cur, hv, hb, hw, h1, h2, h3, h4⟩⟩ := h
  · omega
  · refine ⟨g, cap, hv, hb, (Array.getElem?_eq_some_iff.1 hw).1, h1, fun j o hj u ho hu => ?_⟩
    have h5 : (cur.toList.take (l.length * k))[j * k + o]? = some u := by rw [h4, flat_get f k hk l j o hj ho, hu]
    have hlt : j * k + o < l.length * k := by
      have : (j + 1) * k ≤ l.length * k := Nat.mul_le_mul_right k hj
      rw [Nat.succ_mul] at this; omega
    rw [List.getElem?_take, if_pos hlt] at h5
    simp only [World.cell?, hw]
    simpa using h5

/-- An owned row abides what keeps its own block. -/
theorem own_keep {W W' : World} {B T k n : Nat} {v : Value} {xs : List Value} (h : W.ownsRow B T k v n xs) (hk : ∀ g, v.ownBlock = some g → g < W.heap.size → W'.heap[g]? = W.heap[g]?) : W'.ownsRow B T k v n xs := by
  obtain ⟨h0, ⟨hv, hn⟩ | ⟨g, cap, cur, hv, hb, hh, h1, h2, h3, h4⟩⟩ := h
  · exact ⟨h0, .inl ⟨hv, hn⟩⟩
  · exact ⟨h0, .inr ⟨g, cap, cur, hv, hb, (hk g (by rw [hv]; rfl) (Array.getElem?_eq_some_iff.1 hh).1).trans hh, h1, h2, h3, h4⟩⟩

theorem own_below {W W' : World} {B T k n : Nat} {v : Value} {xs : List Value} (h : W.ownsRow B T k v n xs) (hb : Below W.heap.size W W') : W'.ownsRow B T k v n xs := own_keep h (fun g _ hg => hb.block g hg)

end Go.Proofs.YtjajnhemgphefaaGreatDoor

namespace Go.Proofs.YtjajnhemgphefaaGreatDoor
open Go.RowKit Go.Shelf
set_option linter.unusedVariables false
set_option linter.unusedSimpArgs false

def sameB (x y : ByteArray) : Bool := y.toList == x.toList
def seenN (vs : List ByteArray) (x : ByteArray) : Nat := vs.findIdx (sameB x)
def seenL (vs : List ByteArray) (x : ByteArray) : List ByteArray := if seenN vs x < vs.length then vs else vs ++ [x]

/-- An argument: a name, or (its name empty) a variable by its number. -/
structure Tm where
  name : ByteArray
  num : Nat
structure Am where
  rel : ByteArray
  args : List Tm
structure Rl where
  head : Am
  body : List Am

def tmC (t : Tm) : List Value := [.string t.name, .int .i64 t.num]
def ruleAms (r : Rl) : List Am := r.head :: r.body
def nmStep (vs : List ByteArray) (t : Tm) : List ByteArray := if t.name.toList.isEmpty = true then vs else seenL vs t.name
def nmL (vs : List ByteArray) (l : List Tm) : List ByteArray := l.foldl nmStep vs
def tmsOf (l : List Am) : List Tm := l.flatMap (·.args)

/-- Blocks below B, and those that hold no strings, are as they were. -/
structure StrOnly (B : Nat) (w w' : World) : Prop where
  os : w'.os = w.os
  tape : w'.tape = w.tape
  output : w'.output = w.output
  size : w.heap.size ≤ w'.heap.size
  block : ∀ k, k < w.heap.size → (k < B ∨ ∀ c fz, w.heap[k]? ≠ some (Obj.cells c 9 fz)) → w'.heap[k]? = w.heap[k]?

theorem StrOnly.refl (B : Nat) (w : World) : StrOnly B w w := ⟨rfl, rfl, rfl, Nat.le_refl _, fun _ _ _ => rfl⟩
theorem StrOnly.trans {B : Nat} {a b c : World} (h : StrOnly B a b) (k : StrOnly B b c) : StrOnly B a c :=
  ⟨k.os.trans h.os, k.tape.trans h.tape, k.output.trans h.output, Nat.le_trans h.size k.size, fun i hi hx => by
    have h1 := h.block i hi hx
    rw [k.block i (Nat.lt_of_lt_of_le hi h.size) (by rw [h1]; exact hx), h1]⟩
theorem StrOnly.alloc {B : Nat} {a b : World} (h : StrOnly B a b) (o : Obj) : StrOnly B a (b.alloc o) :=
  ⟨h.os, h.tape, h.output, by have := h.size; simp; omega, fun i hi hx => (Below.heap_alloc b o i (Nat.lt_of_lt_of_le hi h.size)).trans (h.block i hi hx)⟩
theorem StrOnly.setCell {B : Nat} {a b : World} (h : StrOnly B a b) {p : Addr} (hp : a.heap.size ≤ p.block) (v : Value) : StrOnly B a (b.setCell p v) :=
  ⟨h.os, h.tape, h.output, by have := h.size; simpa using this, fun i hi hx => (Below.heap_setCell b p v i (by omega)).trans (h.block i hi hx)⟩
theorem StrOnly.drew {B : Nat} {a b : World} (h : StrOnly B a b) : StrOnly B a b.drew := ⟨h.os, h.tape, h.output, h.size, h.block⟩
theorem StrOnly.grown {B : Nat} {a b c : World} {row : Option Nat} (h : StrOnly B a b) (hg : b.grownBy c row) (hr : ∀ k, row = some k → a.heap.size ≤ k ∨ (B ≤ k ∧ ∃ d fz, b.heap[k]? = some (Obj.cells d 9 fz))) : StrOnly B a c :=
  ⟨hg.os.trans h.os, hg.tape.trans h.tape, hg.output.trans h.output, Nat.le_trans h.size hg.size, fun i hi hx => by
    have h1 := h.block i hi hx
    rw [hg.block i (Nat.lt_of_lt_of_le hi h.size) (fun e => ?_), h1]
    rcases hr i e.symm with h2 | ⟨h2, d, fz, h3⟩
    · omega
    · rcases hx with hx | hx
      · omega
      · rw [h1] at h3; exact hx d fz h3⟩
theorem own_str {W : World} {B k n : Nat} {T : TypeId} {v : Value} {xs : List Value} (h : W.ownsRow B T k v n xs) : ∀ g, v.ownBlock = some g → B ≤ g ∧ g < W.heap.size ∧ ∃ d fz, W.heap[g]? = some (Obj.cells d T fz) := by
  intro g hg
  obtain ⟨_, ⟨hv, hn⟩ | ⟨g', cap, cur, hv, hb, hh, h1, h2, h3, h4⟩⟩ := h
  · rw [hv] at hg; cases hg
  · rw [hv] at hg; cases hg; exact ⟨hb, (Array.getElem?_eq_some_iff.1 hh).1, cur, _, hh⟩
/-- A row of things other than strings abides. -/
theorem StrOnly.own {B B' k n : Nat} {T : TypeId} {a b : World} {v : Value} {xs : List Value} (h : StrOnly B a b) (hT : T ≠ 9) (ho : a.ownsRow B' T k v n xs) : b.ownsRow B' T k v n xs := by
  refine own_keep ho (fun g hg hlt => h.block g hlt (.inr fun c fz e => ?_))
  obtain ⟨_, _, d, fz', h3⟩ := own_str ho g hg
  rw [e] at h3; cases h3; exact hT rfl

end Go.Proofs.YtjajnhemgphefaaGreatDoor

namespace Go.Proofs.YtjajnhemgphefaaGreatDoor
open Go.RowKit Go.Shelf
set_option linter.unusedVariables false
set_option linter.unusedSimpArgs false

def termsC (l : List Tm) : List Value := l.flatMap tmC
def atomC (p : Am × Value) : List Value := [.string p.1.rel, p.2]
def ruleC (q : Rl × Value × Value) : List Value := [.string q.1.head.rel, q.2.1, q.2.2]

theorem atomsC_length (l : List (Am × Value)) : (l.flatMap atomC).length = l.length * 2 := by
  induction l with
  | nil => rfl
  | cons t l ih => simp [atomC] at ih ⊢; omega
/-- A slice of terms that is read and no longer written: its row lies below b. -/
def SealT (W : World) (b : Nat) (v : Value) (l : List Tm) : Prop :=
  (l = [] ∧ v = .slice none 0 0) ∨
  ∃ (g cap : Nat) (cur : Array Value), v = .slice (some ⟨g, 0, none⟩) l.length cap ∧ g < b ∧ W.heap[g]? = some (Obj.cells cur 166 (0, 0)) ∧ cur.toList.take (l.length * 2) = termsC l

/-- A slice of atoms that is read and no longer written. -/
def SealA (W : World) (b45 b87 : Nat) (v : Value) (l : List Am) : Prop :=
  ∃ (ps : List (Am × Value)) (a : Option Addr) (cap : Nat), ps.map (·.1) = l ∧ v = .slice a l.length cap ∧ ((∀ p ∈ ps, SealT W b87 p.2 p.1.args) ∧ l.length ≤ cap) ∧
    (l ≠ [] → ∃ (g off : Nat) (cur : Array Value), a = some ⟨g, off, none⟩ ∧ g < b45 ∧ W.heap[g]? = some (Obj.cells cur 92 (0, 0)) ∧ (cur.toList.drop off).take (l.length * 2) = ps.flatMap atomC)

/-- The atoms of the rule that is being read: the last one's terms may still grow. -/
def CurA (W : World) (b45 b87 : Nat) (v : Value) (l : List Am) : Prop :=
  ∃ ps : List (Am × Value), ps.map (·.1) = l ∧ W.ownsRow b45 92 2 v ps.length (ps.flatMap atomC) ∧ (∀ p ∈ ps.dropLast, SealT W b87 p.2 p.1.args) ∧
    (∀ p, ps.getLast? = some p → W.ownsRow b87 166 2 p.2 p.1.args.length (termsC p.1.args))

def RulesAt (W : World) (base b45 b87 : Nat) (v : Value) (l : List Rl) : Prop :=
  ∃ qs : List (Rl × Value × Value), qs.map (·.1) = l ∧ W.ownsRow base 136 3 v qs.length (qs.flatMap ruleC) ∧ ∀ q ∈ qs, SealT W b87 q.2.1 q.1.head.args ∧ SealA W b45 b87 q.2.2 q.1.body

/-- Blocks of cells of type t below b are as they were. -/
def KeptT (t : TypeId) (b : Nat) (W W' : World) : Prop := ∀ (k : Nat) (c : Array Value), k < b → W.heap[k]? = some (Obj.cells c t (0, 0)) → W'.heap[k]? = some (Obj.cells c t (0, 0))

theorem KeptT.none {t : TypeId} {b : Nat} {W W' : World} (h : W.grownBy W' none) : KeptT t b W W' := fun k c _ hk =>
  (h.block k (Array.getElem?_eq_some_iff.1 hk).1 (by simp)).trans hk
theorem KeptT.other {t u : TypeId} {b g : Nat} {W W' : World} {c : Array Value} {fz : Nat × Nat} (h : W.grownBy W' (some g)) (hg : W.heap[g]? = some (Obj.cells c u fz)) (hne : t ≠ u) : KeptT t b W W' := fun k d _ hk =>
  (h.block k (Array.getElem?_eq_some_iff.1 hk).1 (by
    intro e; cases e; rw [hg] at hk; cases hk; exact hne rfl)).trans hk
theorem KeptT.above {t : TypeId} {b g : Nat} {W W' : World} (h : W.grownBy W' (some g)) (hb : b ≤ g) : KeptT t b W W' := fun k d hk hh =>
  (h.block k (Array.getElem?_eq_some_iff.1 hh).1 (by intro e; cases e; omega)).trans hh

theorem SealT.kept {W W' : World} {b : Nat} {v : Value} {l : List Tm} (h : SealT W b v l) (hk : KeptT 166 b W W') : SealT W' b v l := by
  rcases h with h | ⟨g, cap, cur, h1, h2, h3, h4⟩
  · exact .inl h
  · exact .inr ⟨g, cap, cur, h1, h2, hk g cur h2 h3, h4⟩
theorem SealT.mono {W : World} {b b' : Nat} {v : Value} {l : List Tm} (h : SealT W b v l) (hb : b ≤ b') : SealT W b' v l := by
  rcases h with h | ⟨g, cap, cur, h1, h2, h3, h4⟩
  · exact .inl h
  · exact .inr ⟨g, cap, cur, h1, by omega, h3, h4⟩
theorem SealA.kept {W W' : World} {b45 b87 : Nat} {v : Value} {l : List Am} (h : SealA W b45 b87 v l) (hk : KeptT 92 b45 W W') (hk' : KeptT 166 b87 W W') : SealA W' b45 b87 v l := by
  obtain ⟨ps, a, cap, h1, h2, h3, h4⟩ := h
  refine ⟨ps, a, cap, h1, h2, ⟨fun p hp => (h3.1 p hp).kept hk', h3.2⟩, fun hne => ?_⟩
  obtain ⟨g, off, cur, e1, e2, e3, e4⟩ := h4 hne
  exact ⟨g, off, cur, e1, e2, hk g cur e2 e3, e4⟩
theorem SealA.mono {W : World} {b45 b87 c45 c87 : Nat} {v : Value} {l : List Am} (h : SealA W b45 b87 v l) (h45 : b45 ≤ c45) (h87 : b87 ≤ c87) : SealA W c45 c87 v l := by
  obtain ⟨ps, a, cap, h1, h2, h3, h4⟩ := h
  refine ⟨ps, a, cap, h1, h2, ⟨fun p hp => (h3.1 p hp).mono h87, h3.2⟩, fun hne => ?_⟩
  obtain ⟨g, off, cur, e1, e2, e3, e4⟩ := h4 hne
  exact ⟨g, off, cur, e1, by omega, e3, e4⟩

theorem SealT.ofOwns {W : World} {b : Nat} {v : Value} {l : List Tm} (h : W.ownsRow b 166 2 v l.length (termsC l)) : SealT W W.heap.size v l := by
  obtain ⟨_, ⟨hv, hn⟩ | ⟨g, cap, cur, hv, hb, hh, h1, h2, h3, h4⟩⟩ := h
  · exact .inl ⟨List.eq_nil_of_length_eq_zero hn, hv⟩
  · exact .inr ⟨g, cap, cur, hv, (Array.getElem?_eq_some_iff.1 hh).1, hh, h4⟩

/-- An owned row abides whatever keeps its own block. -/
theorem owns_kept {W W' : World} {b e size n : Nat} {v : Value} {xs : List Value} (h : W.ownsRow b e size v n xs) (hk : ∀ g c, v.ownBlock = some g → W.heap[g]? = some (Obj.cells c e (0, 0)) → W'.heap[g]? = some (Obj.cells c e (0, 0))) : W'.ownsRow b e size v n xs := by
  obtain ⟨h0, ⟨hv, hn⟩ | ⟨g, cap, cur, hv, hb, hh, h1, h2, h3, h4⟩⟩ := h
  · exact ⟨h0, .inl ⟨hv, hn⟩⟩
  · exact ⟨h0, .inr ⟨g, cap, cur, hv, hb, hk g cur (by rw [hv]; rfl) hh, h1, h2, h3, h4⟩⟩

theorem step_append_own {P : Program} {ops : Array Oper} {o : Oper} {a : Act} {w : World} {K : Act → World → Prop} {Q : Exit → Act → World → Prop} {E : Prop}
    (hg : o.guard = none) (s x : Operand) (t : TypeId) (hop : o.op = Op.call { callee := Callee.builtin Builtin.append, args := #[s, x], argTypes := #[t, t] })
    (base : Nat) (e : TypeId) (i : TypeInfo) (z : Value) (size bytes : Nat) (h1 : P.underlying t = some (.slice e)) (h2 : P.info? e = some i) (h3 : i.zero = some z) (h4 : i.size = size) (h5 : i.bytes = bytes) (h6 : z.cells.size = size) (h7 : 0 < size)
    (v : Value) (n : Nat) (xs : List Value) (hs : a.eval s = v) (hown : w.ownsRow base e size v n xs)
    (ad : Addr) (m c : Nat) (news : List Value) (hx : a.eval x = .slice (some ad) m c) (hn : news.length = m * size) (hc : ∀ j u, news[j]? = some u → w.cell? (ad.add j) = some u) (h1c : ∀ u ∈ news, u.oneCell' = true)
    (b1 : n + m ≤ maxLen) (b2 : (n + m) * bytes ≤ 140737488355328) (hbase : base ≤ w.heap.size)
    (hK : ∀ v' w', w'.ownsRow base e size v' (n + m) (xs ++ news) → w.grownBy w' v.ownBlock → K (a.put o.dst v') w') :
    if Region.wanted o (yielded ops a.tmps) = true then Oper.wp P o a w K Q else E := by
  have hw : Region.wanted o (yielded ops a.tmps) = true := by simp [Region.wanted, hg]
  rw [if_pos hw]
  obtain ⟨v', w', hrun, r1, r2, _⟩ := run_append_own (P := P) w base t o.type e i z size bytes h1 h2 h3 h4 h5 h6 h7 v n xs hown ad m c news hn hc h1c b1 b2 hbase
  unfold Oper.wp
  simp [execOp, hop, resolve, invoke, builtin, hs, hx, hrun, Result.andThen]
  exact hK v' w' r1 r2

end Go.Proofs.YtjajnhemgphefaaGreatDoor
