/-
  The document's own answer, in plain functions: how many bytes the rune has that begins at a place, and of what kind it is: as Go reads the rune there.
  The document's own answer, in plain functions: the runes of a text.
  The document's own tokens, in a plain function over a text's runes, and that they are the program's.
  Rows of the call's own that hold a list of things, each of a fixed number of cells: what lies at which place. (Of any program.)
  Plain data that both sides share: rules, names; texts' numbers; a memory of which only strings were changed.
  How rules, atoms and terms lie in memory while they are read, and what leaves them as they are; one law more for an append inside a statement whose order is open.
  The parser's state as plain data, and what each token does to it.
  The parser's methods: what each does to the parser's memory, said of the state that it stands for.
  slices.Index and slices.Contains over a row of strings, in the words of the document's own answer.
-/
import Derived.Test.YtjajnhemgphefaaGreatDoorJdAll
import Derived.Lib.ItoaNum
import Derived.Deep.RegionLawGrows
import Derived.Maps.AppendAt
import Derived.BigQuiet
import Derived.BigRegion
namespace Go.Proofs.YtjajnhemgphefaaGreatDoor
open Go.RowKit
set_option linter.unusedVariables false
set_option linter.unusedSimpArgs false

/-- The kind of a rune. -/
def kindRune (r : Nat) : Nat :=
  if smallB r = true then 1 else if capB r = true then 2 else if digB r = true then 3 else if blankB r = true then 4
  else if r = 40 ∨ r = 41 ∨ r = 44 ∨ r = 46 then 5 else if r = 58 then 6 else if r = 45 then 7 else 8

end Go.Proofs.YtjajnhemgphefaaGreatDoor

namespace Go.Proofs.YtjajnhemgphefaaGreatDoor
open Go.RowKit
set_option linter.unusedVariables false
set_option linter.unusedSimpArgs false

/-- A rune: its kind, its bytes. -/
structure Rn where
  kind : Nat
  text : ByteArray

/-- The runes of a text, by fuel. -/
def runesF : Nat → ByteArray → List Rn
  | 0, _ => []
  | f + 1, s => if s.size = 0 then [] else ⟨kindRune (Utf8.decode s 0).1, s.extract 0 (Utf8.decode s 0).2⟩ :: runesF f (s.extract (Utf8.decode s 0).2 s.size)

/-- The runes from a place on. -/
def R (s : ByteArray) (i : Nat) : List Rn := runesF s.size (s.extract i s.size)

end Go.Proofs.YtjajnhemgphefaaGreatDoor

namespace Go.Proofs.YtjajnhemgphefaaGreatDoor
open Go.RowKit Go.Shelf
set_option linter.unusedVariables false
set_option linter.unusedSimpArgs false

end Go.Proofs.YtjajnhemgphefaaGreatDoor

namespace Go.Proofs.YtjajnhemgphefaaGreatDoor
open Go.RowKit Go.Shelf
set_option linter.unusedVariables false
set_option linter.unusedSimpArgs false

theorem flat_get {α : Type} (f : α → List Value) (k : Nat) (hk : ∀ x, (f x).length = k) : ∀ (l : List α) (j o : Nat) (hj : j < l.length), o < k → (l.flatMap f)[j * k + o]? = (f l[j])[o]?
  | [], j, o, hj, _ => by simp at hj
  | x :: l, 0, o, hj, ho => by
    rw [List.flatMap_cons, List.getElem?_append_left (by rw [hk]; omega)]
    simp
  | x :: l, j + 1, o, hj, ho => by
    have hj' : j < l.length := by simpa using hj
    have e : (j + 1) * k + o = k + (j * k + o) := by rw [Nat.succ_mul]; omega
    rw [List.flatMap_cons, List.getElem?_append_right (by rw [hk, e]; omega), hk, e, Nat.add_sub_cancel_left]
    simpa using flat_get f k hk l j o hj' ho

/-- The form of an owned row that holds a list. -/
theorem own_form {W : World} {B T k n : Nat} {v : Value} {xs : List Value} (h : W.ownsRow B T k v n xs) : ∃ a c, v = .slice a n c := by
  obtain ⟨_, ⟨hv, hn⟩ | ⟨g, cap, cur, hv, _⟩⟩ := h
  · exact ⟨none, 0, by rw [hv, hn]⟩
  · exact ⟨_, _, hv⟩

theorem own_get {W : World} {B T k : Nat} {v : Value} {α : Type} {f : α → List Value} {l : List α} (h : W.ownsRow B T k v l.length (l.flatMap f)) (hk : ∀ x, (f x).length = k) (hne : 0 < l.length) :
    ∃ g cap, v = .slice (some ⟨g, 0, none⟩) l.length cap ∧ B ≤ g ∧ g < W.heap.size ∧ l.length ≤ cap ∧ ∀ (j o : Nat) (hj : j < l.length) (u : Value), o < k → (f l[j])[o]? = some u → W.cell? ⟨g, j * k + o, none⟩ = some u := by
  obtain ⟨_, ⟨hv, hn⟩ | ⟨g, cap, cur, hv, hb, hw, h1, h2, h3, h4⟩⟩ := h
  · omega
  · refine ⟨g, cap, hv, hb, (Array.getElem?_eq_some_iff.1 hw).1, h1, fun j o hj u ho hu => ?_⟩
    have h5 : (cur.toList.take (l.length * k))[j * k + o]? = some u := by rw [h4, flat_get f k hk l j o hj ho, hu]
    have hlt : j * k + o < l.length * k := by
      have : (j + 1) * k ≤ l.length * k := Nat.mul_le_mul_right k hj
      rw [Nat.succ_mul] at this; omega
    rw [List.getElem?_take, if_pos hlt] at h5
    simp only [World.cell?, hw]
    simpa using h5

/-- An owned row abides what keeps its own block. -/
theorem own_keep {W W' : World} {B T k n : Nat} {v : Value} {xs : List Value} (h : W.ownsRow B T k v n xs) (hk : ∀ g, v.ownBlock = some g → g < W.heap.size → W'.heap[g]? = W.heap[g]?) : W'.ownsRow B T k v n xs := by
  obtain ⟨h0, ⟨hv, hn⟩ | ⟨g, cap, cur, hv, hb, hh, h1, h2, h3, h4⟩⟩ := h
  · exact ⟨h0, .inl ⟨hv, hn⟩⟩
  · exact ⟨h0, .inr ⟨g, cap, cur, hv, hb, (hk g (by rw [hv]; rfl) (Array.getElem?_eq_some_iff.1 hh).1).trans hh, h1, h2, h3, h4⟩⟩

theorem own_below {W W' : World} {B T k n : Nat} {v : Value} {xs : List Value} (h : W.ownsRow B T k v n xs) (hb : Below W.heap.size W W') : W'.ownsRow B T k v n xs := own_keep h (fun g _ hg => hb.block g hg)

theorem own_down {W : World} {B B' T k n : Nat} {v : Value} {xs : List Value} (h : W.ownsRow B T k v n xs) (hB : B' ≤ B) : W.ownsRow B' T k v n xs := by
  obtain ⟨h0, ⟨hv, hn⟩ | ⟨g, cap, cur, hv, hb, hw⟩⟩ := h
  · exact ⟨h0, .inl ⟨hv, hn⟩⟩
  · exact ⟨h0, .inr ⟨g, cap, cur, hv, by omega, hw⟩⟩

end Go.Proofs.YtjajnhemgphefaaGreatDoor

namespace Go.Proofs.YtjajnhemgphefaaGreatDoor
open Go.RowKit Go.Shelf
set_option linter.unusedVariables false
set_option linter.unusedSimpArgs false

def sameB (x y : ByteArray) : Bool := y.toList == x.toList
def seenN (vs : List ByteArray) (x : ByteArray) : Nat := vs.findIdx (sameB x)
def seenL (vs : List ByteArray) (x : ByteArray) : List ByteArray := if seenN vs x < vs.length then vs else vs ++ [x]

/-- An argument: a name, or (its name empty) a variable by its number. -/
structure Tm where
  name : ByteArray
  num : Nat
structure Am where
  rel : ByteArray
  args : List Tm
structure Rl where
  head : Am
  body : List Am

def tmC (t : Tm) : List Value := [.string t.name, .int .i64 t.num]
def ruleAms (r : Rl) : List Am := r.head :: r.body
def nmStep (vs : List ByteArray) (t : Tm) : List ByteArray := if t.name.toList.isEmpty = true then vs else seenL vs t.name
def nmL (vs : List ByteArray) (l : List Tm) : List ByteArray := l.foldl nmStep vs
def tmsOf (l : List Am) : List Tm := l.flatMap (·.args)

/-- Blocks below B, and those that hold no strings, are as they were. -/
structure StrOnly (B : Nat) (w w' : World) : Prop where
  os : w'.os = w.os
  tape : w'.tape = w.tape
  output : w'.output = w.output
  size : w.heap.size ≤ w'.heap.size
  block : ∀ k, k < w.heap.size → (k < B ∨ ∀ c fz, w.heap[k]? ≠ some (Obj.cells c 9 fz)) → w'.heap[k]? = w.heap[k]?

theorem StrOnly.refl (B : Nat) (w : World) : StrOnly B w w := ⟨rfl, rfl, rfl, Nat.le_refl _, fun _ _ _ => rfl⟩
theorem StrOnly.trans {B : Nat} {a b c : World} (h : StrOnly B a b) (k : StrOnly B b c) : StrOnly B a c :=
  ⟨k.os.trans h.os, k.tape.trans h.tape, k.output.trans h.output, Nat.le_trans h.size k.size, fun i hi hx => by
    have h1 := h.block i hi hx
    rw [k.block i (Nat.lt_of_lt_of_le hi h.size) (by rw [h1]; exact hx), h1]⟩
theorem StrOnly.alloc {B : Nat} {a b : World} (h : StrOnly B a b) (o : Obj) : StrOnly B a (b.alloc o) :=
  ⟨h.os, h.tape, h.output, by have := h.size; simp; omega, fun i hi hx => (Below.heap_alloc b o i (Nat.lt_of_lt_of_le hi h.size)).trans (h.block i hi hx)⟩
theorem StrOnly.setCell {B : Nat} {a b : World} (h : StrOnly B a b) {p : Addr} (hp : a.heap.size ≤ p.block) (v : Value) : StrOnly B a (b.setCell p v) :=
  ⟨h.os, h.tape, h.output, by have := h.size; simpa using this, fun i hi hx => (Below.heap_setCell b p v i (by omega)).trans (h.block i hi hx)⟩
theorem StrOnly.drew {B : Nat} {a b : World} (h : StrOnly B a b) : StrOnly B a b.drew := ⟨h.os, h.tape, h.output, h.size, h.block⟩
theorem StrOnly.grown {B : Nat} {a b c : World} {row : Option Nat} (h : StrOnly B a b) (hg : b.grownBy c row) (hr : ∀ k, row = some k → a.heap.size ≤ k ∨ (B ≤ k ∧ ∃ d fz, b.heap[k]? = some (Obj.cells d 9 fz))) : StrOnly B a c :=
  ⟨hg.os.trans h.os, hg.tape.trans h.tape, hg.output.trans h.output, Nat.le_trans h.size hg.size, fun i hi hx => by
    have h1 := h.block i hi hx
    rw [hg.block i (Nat.lt_of_lt_of_le hi h.size) (fun e => ?_), h1]
    rcases hr i e.symm with h2 | ⟨h2, d, fz, h3⟩
    · omega
    · rcases hx with hx | hx
      · omega
      · rw [h1] at h3; exact hx d fz h3⟩
theorem own_str {W : World} {B k n : Nat} {T : TypeId} {v : Value} {xs : List Value} (h : W.ownsRow B T k v n xs) : ∀ g, v.ownBlock = some g → B ≤ g ∧ g < W.heap.size ∧ ∃ d fz, W.heap[g]? = some (Obj.cells d T fz) := by
  intro g hg
  obtain ⟨_, ⟨hv, hn⟩ | ⟨g', cap, cur, hv, hb, hh, h1, h2, h3, h4⟩⟩ := h
  · rw [hv] at hg; cases hg
  · rw [hv] at hg; cases hg; exact ⟨hb, (Array.getElem?_eq_some_iff.1 hh).1, cur, _, hh⟩
/-- A row of things other than strings abides. -/
theorem StrOnly.own {B B' k n : Nat} {T : TypeId} {a b : World} {v : Value} {xs : List Value} (h : StrOnly B a b) (hT : T ≠ 9) (ho : a.ownsRow B' T k v n xs) : b.ownsRow B' T k v n xs := by
  refine own_keep ho (fun g hg hlt => h.block g hlt (.inr fun c fz e => ?_))
  obtain ⟨_, _, d, fz', h3⟩ := own_str ho g hg
  rw [e] at h3; cases h3; exact hT rfl

end Go.Proofs.YtjajnhemgphefaaGreatDoor

namespace Go.Proofs.YtjajnhemgphefaaGreatDoor
open Go.RowKit Go.Shelf
set_option linter.unusedVariables false
set_option linter.unusedSimpArgs false

def termsC (l : List Tm) : List Value := l.flatMap tmC
def atomC (p : Am × Value) : List Value := [.string p.1.rel, p.2]
def ruleC (q : Rl × Value × Value) : List Value := [.string q.1.head.rel, q.2.1, q.2.2]

theorem atomsC_length (l : List (Am × Value)) : (l.flatMap atomC).length = l.length * 2 := by
  induction l with
  | nil => rfl
  | cons t l ih => simp [atomC] at ih ⊢; omega
/-- A slice of terms that is read and no longer written: its row lies below b. -/
def SealT (W : World) (b : Nat) (v : Value) (l : List Tm) : Prop :=
  (l = [] ∧ v = .slice none 0 0) ∨
  ∃ (g cap : Nat) (cur : Array Value), v = .slice (some ⟨g, 0, none⟩) l.length cap ∧ g < b ∧ W.heap[g]? = some (Obj.cells cur 166 (0, 0)) ∧ cur.toList.take (l.length * 2) = termsC l

/-- A slice of atoms that is read and no longer written. -/
def SealA (W : World) (b45 b87 : Nat) (v : Value) (l : List Am) : Prop :=
  ∃ (ps : List (Am × Value)) (a : Option Addr) (cap : Nat), ps.map (·.1) = l ∧ v = .slice a l.length cap ∧ ((∀ p ∈ ps, SealT W b87 p.2 p.1.args) ∧ l.length ≤ cap) ∧
    (l ≠ [] → ∃ (g off : Nat) (cur : Array Value), a = some ⟨g, off, none⟩ ∧ g < b45 ∧ W.heap[g]? = some (Obj.cells cur 92 (0, 0)) ∧ (cur.toList.drop off).take (l.length * 2) = ps.flatMap atomC)

/-- The atoms of the rule that is being read: the last one's terms may still grow. -/
def CurA (W : World) (b45 b87 : Nat) (v : Value) (l : List Am) : Prop :=
  ∃ ps : List (Am × Value), ps.map (·.1) = l ∧ W.ownsRow b45 92 2 v ps.length (ps.flatMap atomC) ∧ (∀ p ∈ ps.dropLast, SealT W b87 p.2 p.1.args) ∧
    (∀ p, ps.getLast? = some p → W.ownsRow b87 166 2 p.2 p.1.args.length (termsC p.1.args))

def RulesAt (W : World) (base b45 b87 : Nat) (v : Value) (l : List Rl) : Prop :=
  ∃ qs : List (Rl × Value × Value), qs.map (·.1) = l ∧ W.ownsRow base 136 3 v qs.length (qs.flatMap ruleC) ∧ ∀ q ∈ qs, SealT W b87 q.2.1 q.1.head.args ∧ SealA W b45 b87 q.2.2 q.1.body

/-- Blocks of cells of type t below b are as they were. -/
def KeptT (t : TypeId) (b : Nat) (W W' : World) : Prop := ∀ (k : Nat) (c : Array Value), k < b → W.heap[k]? = some (Obj.cells c t (0, 0)) → W'.heap[k]? = some (Obj.cells c t (0, 0))

theorem KeptT.none {t : TypeId} {b : Nat} {W W' : World} (h : W.grownBy W' none) : KeptT t b W W' := fun k c _ hk =>
  (h.block k (Array.getElem?_eq_some_iff.1 hk).1 (by simp)).trans hk
theorem KeptT.other {t u : TypeId} {b g : Nat} {W W' : World} {c : Array Value} {fz : Nat × Nat} (h : W.grownBy W' (some g)) (hg : W.heap[g]? = some (Obj.cells c u fz)) (hne : t ≠ u) : KeptT t b W W' := fun k d _ hk =>
  (h.block k (Array.getElem?_eq_some_iff.1 hk).1 (by
    intro e; cases e; rw [hg] at hk; cases hk; exact hne rfl)).trans hk
theorem KeptT.above {t : TypeId} {b g : Nat} {W W' : World} (h : W.grownBy W' (some g)) (hb : b ≤ g) : KeptT t b W W' := fun k d hk hh =>
  (h.block k (Array.getElem?_eq_some_iff.1 hh).1 (by intro e; cases e; omega)).trans hh

theorem SealT.kept {W W' : World} {b : Nat} {v : Value} {l : List Tm} (h : SealT W b v l) (hk : KeptT 166 b W W') : SealT W' b v l := by
  rcases h with h | ⟨g, cap, cur, h1, h2, h3, h4⟩
  · exact .inl h
  · exact .inr ⟨g, cap, cur, h1, h2, hk g cur h2 h3, h4⟩
theorem SealT.mono {W : World} {b b' : Nat} {v : Value} {l : List Tm} (h : SealT W b v l) (hb : b ≤ b') : SealT W b' v l := by
  rcases h with h | ⟨g, cap, cur, h1, h2, h3, h4⟩
  · exact .inl h
  · exact .inr ⟨g, cap, cur, h1, by omega, h3, h4⟩
theorem SealA.kept {W W' : World} {b45 b87 : Nat} {v : Value} {l : List Am} (h : SealA W b45 b87 v l) (hk : KeptT 92 b45 W W') (hk' : KeptT 166 b87 W W') : SealA W' b45 b87 v l := by
  obtain ⟨ps, a, cap, h1, h2, h3, h4⟩ := h
  refine ⟨ps, a, cap, h1, h2, ⟨fun p hp => (h3.1 p hp).kept hk', h3.2⟩, fun hne => ?_⟩
  obtain ⟨g, off, cur, e1, e2, e3, e4⟩ := h4 hne
  exact ⟨g, off, cur, e1, e2, hk g cur e2 e3, e4⟩
theorem SealA.mono {W : World} {b45 b87 c45 c87 : Nat} {v : Value} {l : List Am} (h : SealA W b45 b87 v l) (h45 : b45 ≤ c45) (h87 : b87 ≤ c87) : SealA W c45 c87 v l := by
  obtain ⟨ps, a, cap, h1, h2, h3, h4⟩ := h
  refine ⟨ps, a, cap, h1, h2, ⟨fun p hp => (h3.1 p hp).mono h87, h3.2⟩, fun hne => ?_⟩
  obtain ⟨g, off, cur, e1, e2, e3, e4⟩ := h4 hne
  exact ⟨g, off, cur, e1, by omega, e3, e4⟩

theorem SealT.ofOwns {W : World} {b : Nat} {v : Value} {l : List Tm} (h : W.ownsRow b 166 2 v l.length (termsC l)) : SealT W W.heap.size v l := by
  obtain ⟨_, ⟨hv, hn⟩ | ⟨g, cap, cur, hv, hb, hh, h1, h2, h3, h4⟩⟩ := h
  · exact .inl ⟨List.eq_nil_of_length_eq_zero hn, hv⟩
  · exact .inr ⟨g, cap, cur, hv, (Array.getElem?_eq_some_iff.1 hh).1, hh, h4⟩

/-- An owned row abides whatever keeps its own block. -/
theorem owns_kept {W W' : World} {b e size n : Nat} {v : Value} {xs : List Value} (h : W.ownsRow b e size v n xs) (hk : ∀ g c, v.ownBlock = some g → W.heap[g]? = some (Obj.cells c e (0, 0)) → W'.heap[g]? = some (Obj.cells c e (0, 0))) : W'.ownsRow b e size v n xs := by
  obtain ⟨h0, ⟨hv, hn⟩ | ⟨g, cap, cur, hv, hb, hh, h1, h2, h3, h4⟩⟩ := h
  · exact ⟨h0, .inl ⟨hv, hn⟩⟩
  · exact ⟨h0, .inr ⟨g, cap, cur, hv, hb, hk g cur (by rw [hv]; rfl) hh, h1, h2, h3, h4⟩⟩

theorem step_append_own {P : Program} {ops : Array Oper} {o : Oper} {a : Act} {w : World} {K : Act → World → Prop} {Q : Exit → Act → World → Prop} {E : Prop}
    (hg : o.guard = none) (s x : Operand) (t : TypeId) (hop : o.op = Op.call { callee := Callee.builtin Builtin.append, args := #[s, x], argTypes := #[t, t] })
    (base : Nat) (e : TypeId) (i : TypeInfo) (z : Value) (size bytes : Nat) (h1 : P.underlying t = some (.slice e)) (h2 : P.info? e = some i) (h3 : i.zero = some z) (h4 : i.size = size) (h5 : i.bytes = bytes) (h6 : z.cells.size = size) (h7 : 0 < size)
    (v : Value) (n : Nat) (xs : List Value) (hs : a.eval s = v) (hown : w.ownsRow base e size v n xs)
    (ad : Addr) (m c : Nat) (news : List Value) (hx : a.eval x = .slice (some ad) m c) (hn : news.length = m * size) (hc : ∀ j u, news[j]? = some u → w.cell? (ad.add j) = some u) (h1c : ∀ u ∈ news, u.oneCell' = true)
    (b1 : n + m ≤ maxLen) (b2 : (n + m) * bytes ≤ 140737488355328) (hbase : base ≤ w.heap.size)
    (hK : ∀ v' w', w'.ownsRow base e size v' (n + m) (xs ++ news) → w.grownBy w' v.ownBlock → K (a.put o.dst v') w') :
    if Region.wanted o (yielded ops a.tmps) = true then Oper.wp P o a w K Q else E := by
  have hw : Region.wanted o (yielded ops a.tmps) = true := by simp [Region.wanted, hg]
  rw [if_pos hw]
  obtain ⟨v', w', hrun, r1, r2, _⟩ := run_append_own (P := P) w base t o.type e i z size bytes h1 h2 h3 h4 h5 h6 h7 v n xs hown ad m c news hn hc h1c b1 b2 hbase
  unfold Oper.wp
  simp [execOp, hop, resolve, invoke, builtin, hs, hx, hrun, Result.andThen]
  exact hK v' w' r1 r2

end Go.Proofs.YtjajnhemgphefaaGreatDoor

namespace Go.Proofs.YtjajnhemgphefaaGreatDoor
set_option linter.unusedVariables false
set_option linter.unusedSimpArgs false

theorem ba_list (x : ByteArray) : x.toList = x.data.toList := by
  cases x with
  | mk d => simp [ByteArray.toList_eq]
theorem sameB_iff (x y : ByteArray) : sameB x y = true ↔ x = y := by
  unfold sameB
  constructor
  · intro h
    have h' : y.toList = x.toList := by simpa using h
    rw [ba_list, ba_list] at h'
    have h2 := Array.toList_inj.1 h'
    cases x; cases y; simp at h2; rw [h2]
  · rintro rfl; simp

structure PSt where
  st : Int
  rules : List Rl
  atoms : List Am
  vars : List ByteArray

def fitsB (st k : Int) : Bool :=
  if st = 0 ∨ st = 1 then k == 1 else if st = 2 then k == 3 else if st = 3 then (k == 1 || k == 2) else if st = 4 then (k == 5 || k == 4)
  else if st = 5 then (k == 7 || k == 6) else if st = 6 then (k == 5 || k == 6) else false
def exceedsB (st runes : Int) (nr na m : Nat) : Bool :=
  if 8 < runes then true else if st = 0 then nr == 8 else if st = 1 then na == 4 else if st = 3 then m == 2 else false

def growLast (l : List Am) (x : Tm) : List Am :=
  match l.getLast? with
  | some a => l.dropLast ++ [{ a with args := a.args ++ [x] }]
  | none => l
def lastLen (l : List Am) : Nat := match l.getLast? with | some a => a.args.length | none => 0

/-- What term makes of a word: a name, or a variable by its number; and the variables behind it. -/
def termT (vs : List ByteArray) (k : Int) (t : ByteArray) : Tm := if k = 1 then ⟨t, 0⟩ else ⟨⟨#[]⟩, seenN vs t⟩
def termVs (vs : List ByteArray) (k : Int) (t : ByteArray) : List ByteArray := if k = 1 then vs else seenL vs t

def addWordS (s : PSt) (k : Int) (t : ByteArray) : PSt :=
  if s.st = 3 then { s with st := 4, atoms := growLast s.atoms (termT s.vars k t), vars := termVs s.vars k t }
  else { s with st := 2, atoms := s.atoms ++ [⟨t, []⟩] }
def endRuleS (s : PSt) : PSt :=
  match s.atoms with
  | a :: l => { st := 0, rules := s.rules ++ [⟨a, l⟩], atoms := [], vars := [] }
  | [] => s
def endAtomS (s : PSt) : PSt := { s with st := if s.atoms.length = 1 then 5 else 6 }
def addS (s : PSt) (k : Int) (t : ByteArray) : PSt :=
  if k = 1 ∨ k = 2 then addWordS s k t
  else if k = 3 then { s with st := 3 }
  else if k = 4 then endAtomS s
  else if k = 5 then { s with st := if s.st = 4 then 3 else 1 }
  else if k = 7 then { s with st := 1 }
  else if k = 6 then endRuleS s
  else s
def takeS (s : PSt) (k : Int) (t : ByteArray) (r : Int) : Int × PSt :=
  if fitsB s.st k = false then (2, s)
  else if exceedsB s.st r s.rules.length s.atoms.length (lastLen s.atoms) = true then (3, s)
  else (0, addS s k t)

def foldP : PSt → List Tok → PSt × Option (Int × Nat)
  | s, [] => (s, none)
  | s, x :: l => if (takeS s x.kind x.text x.runes).1 = 0 then foldP (takeS s x.kind x.text x.runes).2 l else (s, some ((takeS s x.kind x.text x.runes).1, x.place))
def pst0 : PSt := ⟨0, [], [], []⟩
/-- What the parser answers of a text that is not too long. -/
def parseR (s : ByteArray) : Except (Int × Nat) (List Rl) :=
  match foldP pst0 (toks s.size s 0) with
  | (_, some ep) => .error ep
  | (st, none) => if st.st = 0 then .ok st.rules else .error (2, Lib.runeCount s)

theorem foldP_err : ∀ (l : List Tok) (s s' : PSt) (c : Int) (p : Nat), foldP s l = (s', some (c, p)) → c ≠ 0
  | [], s, s', c, p, h => by simp [foldP] at h
  | x :: l, s, s', c, p, h => by
    unfold foldP at h
    split at h
    · exact foldP_err l _ _ _ _ h
    · rename_i hn
      simp at h
      rw [← h.2.1]; exact hn

structure TmOk (t : Tm) : Prop where
  name : t.name.size ≤ 1200
  num : t.num ≤ 50
/-- An atom, and a rule, of no more than there may be. -/
structure AmOk (a : Am) : Prop where
  rel : a.rel.size ≤ 1200
  args : a.args.length ≤ 2
  tms : ∀ t ∈ a.args, TmOk t
structure RuleOk (r : Rl) : Prop where
  head : AmOk r.head
  body : r.body.length ≤ 3
  ams : ∀ a ∈ r.body, AmOk a
/-- What holds of the parser's state between two tokens. -/
structure PInv (s : PSt) : Prop where
  rules : s.rules.length ≤ 8
  atoms : s.atoms.length ≤ 4
  ams : ∀ a ∈ s.atoms, AmOk a
  zero : s.st = 0 → s.atoms = []
  some : s.st ≠ 0 → s.atoms ≠ []
  room : s.st ≠ 0 → s.rules.length < 8
  good : ∀ r ∈ s.rules, RuleOk r
  vars : s.vars.length ≤ (s.atoms.map (·.args.length)).sum

theorem sum_args (l : List Am) (h : ∀ a ∈ l, a.args.length ≤ 2) : (l.map (·.args.length)).sum ≤ 2 * l.length := by
  induction l with
  | nil => simp
  | cons a l ih =>
    have h1 := h a List.mem_cons_self
    have h2 := ih (fun b hb => h b (List.mem_cons_of_mem _ hb))
    simp only [List.map_cons, List.sum_cons, List.length_cons]
    omega
theorem PInv.few {s : PSt} (h : PInv s) : s.vars.length ≤ 8 := by
  have h1 := sum_args s.atoms (fun a ha => (h.ams a ha).args)
  have h2 := h.vars
  have h3 := h.atoms
  omega

theorem growLast_split (l : List Am) (a : Am) (x : Tm) : growLast (l ++ [a]) x = l ++ [{ a with args := a.args ++ [x] }] := by
  unfold growLast; simp
theorem split_last (l : List Am) (h : l ≠ []) : ∃ p a, l = p ++ [a] := ⟨l.dropLast, l.getLast h, (List.dropLast_concat_getLast h).symm⟩
theorem seenN_le (vs : List ByteArray) (x : ByteArray) : seenN vs x ≤ vs.length := List.findIdx_le_length
theorem seenL_le (vs : List ByteArray) (x : ByteArray) : (seenL vs x).length ≤ vs.length + 1 := by
  unfold seenL; split <;> simp

theorem takeS_inv (s : PSt) (k : Int) (t : ByteArray) (r : Int) (ht : t.size ≤ 1200) (h : PInv s) (h0 : (takeS s k t r).1 = 0) : PInv (takeS s k t r).2 := by
  have hfew := h.few
  obtain ⟨i1, i2, i3, i4, i5, i6, i7, i8⟩ := h
  unfold takeS at h0 ⊢
  by_cases hf : fitsB s.st k = false
  · rw [if_pos hf] at h0; simp at h0
  rw [if_neg hf] at h0 ⊢
  by_cases he : exceedsB s.st r s.rules.length s.atoms.length (lastLen s.atoms) = true
  · rw [if_pos he] at h0; simp at h0
  rw [if_neg he]
  clear h0
  have hf' : fitsB s.st k = true := by simpa using hf
  have he' : exceedsB s.st r s.rules.length s.atoms.length (lastLen s.atoms) = false := by simpa using he
  clear hf he
  unfold exceedsB at he'
  split at he'
  · cases he'
  show PInv (addS s k t)
  unfold fitsB at hf'
  have hend : s.st ≠ 0 → PInv (endRuleS s) := by
    intro h0
    have hne := i5 h0
    have hr := i6 h0
    unfold endRuleS
    split
    · rename_i a0 al hal
      rw [hal] at i2 i3
      refine ⟨by simp; omega, by simp, by simp, fun _ => rfl, fun e => absurd rfl e, fun e => absurd rfl e, fun q hq => ?_, by simp⟩
      simp at hq
      rcases hq with hq | rfl
      · exact i7 q hq
      · exact ⟨i3 _ (by simp), by simp at i2; exact i2, fun b hb => i3 b (by simp [hb])⟩
    · rename_i e; exact absurd e hne
  have hst2 : s.st ≠ 0 → ∀ x : Int, x ≠ 0 → PInv { s with st := x } := fun h0 x hx => ⟨i1, i2, i3, fun e => absurd e hx, fun _ => i5 h0, fun _ => i6 h0, i7, i8⟩
  split at hf'
  · rename_i hst
    obtain rfl : k = 1 := by simpa using hf'
    have : addS s 1 t = { s with st := 2, atoms := s.atoms ++ [⟨t, []⟩] } := by
      unfold addS addWordS; rw [if_pos (.inl rfl), if_neg (by omega)]
    rw [this]
    refine ⟨i1, ?_, ?_, fun e => by simp at e, fun _ => by simp, fun _ => ?_, i7, by simpa using i8⟩
    · simp
      rcases hst with e | e
      · rw [i4 e]; simp
      · simp [e] at he'; omega
    · intro a ha
      simp at ha
      rcases ha with ha | rfl
      · exact i3 a ha
      · exact ⟨ht, by simp, by simp⟩
    · simp
      rcases hst with e | e
      · simp [e] at he'; omega
      · exact i6 (by omega)
  split at hf'
  · rename_i _ hst
    obtain rfl : k = 3 := by simpa using hf'
    have : addS s 3 t = { s with st := 3 } := by unfold addS; simp
    rw [this]
    exact hst2 (by omega) 3 (by decide)
  split at hf'
  · rename_i _ _ hst
    have hk : k = 1 ∨ k = 2 := by simpa using hf'
    have : addS s k t = { s with st := 4, atoms := growLast s.atoms (termT s.vars k t), vars := termVs s.vars k t } := by
      unfold addS addWordS; rw [if_pos hk, if_pos hst]
    rw [this]
    simp [hst] at he'
    obtain ⟨p, a, hpa⟩ := split_last s.atoms (i5 (by omega))
    have hl2 : lastLen s.atoms = a.args.length := by unfold lastLen; rw [hpa]; simp
    have ha := i3 a (by rw [hpa]; simp)
    have ha2 := ha.args
    have htm : TmOk (termT s.vars k t) := by
      unfold termT; split
      · exact ⟨ht, by simp⟩
      · exact ⟨by simp [ByteArray.size], by have := seenN_le s.vars t; simp only; omega⟩
    have hvs : (termVs s.vars k t).length ≤ s.vars.length + 1 := by
      unfold termVs; split
      · omega
      · exact seenL_le _ _
    rw [hpa, growLast_split]
    rw [hpa] at i2 i8
    have hi8 : s.vars.length ≤ (p.map (·.args.length)).sum + a.args.length := by simpa using i8
    refine ⟨i1, by simpa using i2, ?_, fun e => by simp at e, fun _ => by simp, fun _ => i6 (by omega), i7, ?_⟩
    · intro b hb
      simp at hb
      rcases hb with hb | rfl
      · exact i3 b (by rw [hpa]; simp [hb])
      · refine ⟨ha.rel, by simp; omega, fun x hx => ?_⟩
        simp at hx
        rcases hx with hx | rfl
        · exact ha.tms x hx
        · exact htm
    · simp; omega
  split at hf'
  · rename_i _ _ _ hst
    have hk : k = 5 ∨ k = 4 := by simpa using hf'
    rcases hk with rfl | rfl
    · have : addS s 5 t = { s with st := 3 } := by unfold addS; simp [hst]
      rw [this]; exact hst2 (by omega) 3 (by decide)
    · have : addS s 4 t = endAtomS s := by unfold addS; simp
      rw [this]; exact hst2 (by omega) _ (by split <;> decide)
  split at hf'
  · rename_i _ _ _ _ hst
    have hk : k = 7 ∨ k = 6 := by simpa using hf'
    rcases hk with rfl | rfl
    · have : addS s 7 t = { s with st := 1 } := by unfold addS; simp
      rw [this]; exact hst2 (by omega) 1 (by decide)
    · have : addS s 6 t = endRuleS s := by unfold addS; simp
      rw [this]; exact hend (by omega)
  split at hf'
  · rename_i _ _ _ _ _ hst
    have hk : k = 5 ∨ k = 6 := by simpa using hf'
    rcases hk with rfl | rfl
    · have : addS s 5 t = { s with st := 1 } := by unfold addS; simp [hst]
      rw [this]; exact hst2 (by omega) 1 (by decide)
    · have : addS s 6 t = endRuleS s := by unfold addS; simp
      rw [this]; exact hend (by omega)
  · cases hf'

theorem foldP_append (s : PSt) (pre l : List Tok) (s' : PSt) (h : foldP s pre = (s', none)) : foldP s (pre ++ l) = foldP s' l := by
  induction pre generalizing s with
  | nil => simp [foldP] at h; rw [h]; rfl
  | cons x pre ih =>
    simp only [List.cons_append, foldP] at h ⊢
    split at h
    · rename_i h0; rw [if_pos h0]; exact ih _ h
    · simp at h

end Go.Proofs.YtjajnhemgphefaaGreatDoor

namespace Go.Proofs.YtjajnhemgphefaaGreatDoor
open Go.RowKit Go.Shelf
set_option linter.unusedVariables false
set_option linter.unusedSimpArgs false

set_option maxHeartbeats 1000000 in
theorem fits_any (bp : Nat) (st k : Int) (w : World) (hc : w.cell? ⟨bp, 0, none⟩ = some (.int .i64 st)) :
    Calls Tryz.prog 195 #[.pointer (some ⟨bp, 0, none⟩), .int .i64 k] w fun e w' => e = .returned (.bool (fitsB st k)) ∧ w' = w := by
  go_enter Tryz.func195, Tryz.ntmps195
  go_wp2
  all_goals
    go_ret
    exact ⟨ret_bool (by simp_all [fitsB]), rfl⟩

set_option maxHeartbeats 400000 in
theorem endAtom_any (bp : Nat) (st : Int) (vr vv : Value) (a : Option Addr) (n c : Nat) (w : World) (hh : w.heap[bp]? = some (Obj.cells #[.int .i64 st, vr, .slice a n c, vv] 179 (0, 0))) :
    Calls Tryz.prog 234 #[.pointer (some ⟨bp, 0, none⟩)] w fun e w' => e = .returned (.tuple #[]) ∧ w' = w.setCell ⟨bp, 0, none⟩ (.int .i64 (if n = 1 then 5 else 6)) := by
  have h0 : w.cell? ⟨bp, 0, none⟩ = some (.int .i64 st) := by simp [World.cell?, hh]
  have h2 : w.cell? ⟨bp, 2, none⟩ = some (.slice a n c) := by simp [World.cell?, hh]
  have hf : w.frozen? ⟨bp, 0, none⟩ = false := by simp [World.frozen?, hh]
  clear hh
  by_cases hn : n = 1
  · subst hn
    go_enter Tryz.func234, Tryz.ntmps234
    go_wp2
    go_end0
    exact ⟨rfl, rfl⟩
  · have e1 : ((n : Int) == 1) = false := by simp; omega
    go_enter Tryz.func234, Tryz.ntmps234
    go_wp2
    go_end0
    exact ⟨rfl, rfl⟩

set_option maxHeartbeats 400000 in
theorem addComma_any (bp : Nat) (st : Int) (vr va vv : Value) (w : World) (hh : w.heap[bp]? = some (Obj.cells #[.int .i64 st, vr, va, vv] 179 (0, 0))) :
    Calls Tryz.prog 235 #[.pointer (some ⟨bp, 0, none⟩)] w fun e w' => e = .returned (.tuple #[]) ∧ w' = w.setCell ⟨bp, 0, none⟩ (.int .i64 (if st = 4 then 3 else 1)) := by
  have h0 : w.cell? ⟨bp, 0, none⟩ = some (.int .i64 st) := by simp [World.cell?, hh]
  have hf : w.frozen? ⟨bp, 0, none⟩ = false := by simp [World.frozen?, hh]
  clear hh
  by_cases hn : st = 4
  · subst hn
    go_enter Tryz.func235, Tryz.ntmps235
    go_wp2
    go_end0
    exact ⟨rfl, rfl⟩
  · have e1 : (st == 4) = false := by simp [hn]
    go_enter Tryz.func235, Tryz.ntmps235
    go_wp2
    go_end0
    exact ⟨rfl, rfl⟩

set_option maxHeartbeats 400000 in
theorem lastAtom_any (bp : Nat) (st : Int) (vr vv : Value) (g n c : Nat) (hn : 1 ≤ n) (hb : n ≤ 1000) (w : World) (hh : w.heap[bp]? = some (Obj.cells #[.int .i64 st, vr, .slice (some ⟨g, 0, none⟩) n c, vv] 179 (0, 0))) :
    Calls Tryz.prog 232 #[.pointer (some ⟨bp, 0, none⟩)] w fun e w' => e = .returned (.pointer (some ⟨g, (n - 1) * 2, none⟩)) ∧ ∃ q, w' = w.drewN q := by
  have h2 : w.cell? ⟨bp, 2, none⟩ = some (.slice (some ⟨g, 0, none⟩) n c) := by simp [World.cell?, hh]
  clear hh
  have i1 : (0 : Int) ≤ (n : Int) - 1 := by omega
  have i2 : (n : Int) - 1 < (n : Int) := by omega
  go_enter Tryz.func232, Tryz.ntmps232
  go_wp2
  go_quiet (fail)
  go_wp2
  go_ret
  exact ⟨rfl, _, rfl⟩

set_option maxHeartbeats 1000000 in
theorem exceeds_any (bp : Nat) (st : Int) (ar : Option Addr) (nr cr : Nat) (aa : Option Addr) (na ca : Nat) (vv : Value) (at' : Option Addr) (m cm : Nat) (k : Int) (t : ByteArray) (p r : Int) (hb : na ≤ 1000) (w : World)
    (hh : w.heap[bp]? = some (Obj.cells #[.int .i64 st, .slice ar nr cr, .slice aa na ca, vv] 179 (0, 0)))
    (hlast : st = 3 → 1 ≤ na ∧ ∃ g, aa = some ⟨g, 0, none⟩ ∧ w.cell? ⟨g, (na - 1) * 2 + 1, none⟩ = some (.slice at' m cm) ∧ g < w.heap.size) :
    Calls Tryz.prog 196 #[.pointer (some ⟨bp, 0, none⟩), tokV k t p r] w fun e w' => e = .returned (.bool (exceedsB st r nr na m)) ∧ ∃ q, w' = (w.alloc (.cells (tokC k t p r) 191)).drewN q := by
  have hbp : bp < w.heap.size := (Array.getElem?_eq_some_iff.1 hh).1
  have h0 : w.cell? ⟨bp, 0, none⟩ = some (.int .i64 st) := by simp [World.cell?, hh]
  have h1 : w.cell? ⟨bp, 1, none⟩ = some (.slice ar nr cr) := by simp [World.cell?, hh]
  have h2 : w.cell? ⟨bp, 2, none⟩ = some (.slice aa na ca) := by simp [World.cell?, hh]
  unfold tokV tokC
  by_cases hr : 8 < r
  · clear hlast hh
    go_enter Tryz.func196, Tryz.ntmps196
    go_wp2
    go_ret
    exact ⟨ret_bool (by simp [exceedsB, hr]), 0, rfl⟩
  · by_cases h3 : st = 3
    · obtain ⟨h1n, g, rfl, hcg, hgw⟩ := hlast h3
      subst h3
      have hh' : (w.alloc (.cells #[.int .i64 k, .string t, .int .i64 p, .int .i64 r] 191)).heap[bp]? = some (Obj.cells #[.int .i64 3, .slice ar nr cr, .slice (some ⟨g, 0, none⟩) na ca, vv] 179 (0, 0)) := by rw [Below.heap_alloc _ _ _ hbp]; exact hh
      have hne : g ≠ w.heap.size := by omega
      have hcg' : (w.alloc (.cells #[.int .i64 k, .string t, .int .i64 p, .int .i64 r] 191)).cell? ⟨g, (na - 1) * 2 + 1, none⟩ = some (.slice at' m cm) := cell_later ((Below.refl w.heap.size w).alloc (Nat.le_refl _) _) hcg
      clear hh hcg
      go_enter Tryz.func196, Tryz.ntmps196
      go_wp2_with (go_at_call 232; refine (lastAtom_any _ _ _ _ _ _ _ h1n hb _ hh').mono ?_; rintro e w' ⟨rfl, q, rfl⟩)
      go_ret
      exact ⟨ret_bool (by rw [Bool.eq_iff_iff]; simp [exceedsB]; omega), _, rfl⟩
    · have h3' : (st == 3) = false := by simp [h3]
      clear hlast hh
      go_enter Tryz.func196, Tryz.ntmps196
      go_wp2
      all_goals
        go_ret
        exact ⟨ret_bool (by rw [Bool.eq_iff_iff]; simp_all [exceedsB] <;> omega), 0, rfl⟩

end Go.Proofs.YtjajnhemgphefaaGreatDoor

namespace Go.Proofs.YtjajnhemgphefaaGreatDoor
open Go.RowKit Go.Shelf
set_option linter.unusedVariables false
set_option linter.unusedSimpArgs false

theorem contains_own {W : World} {b : Nat} {v : Value} {vs : List ByteArray} (h : W.ownsRow b 9 1 v vs.length (vs.map Value.string)) (hl : vs.length ≤ 1000) (x : ByteArray) :
    Calls Tryz.prog 140 #[v, .string x] W fun e w' => e = .returned (.bool (Lib.containsS vs x)) ∧ w' = W := by
  obtain ⟨_, ⟨hv, hn⟩ | ⟨g, cap, cur, hv, hb, hw, h1, h2, h3, h4⟩⟩ := h
  · have : vs = [] := List.eq_nil_of_length_eq_zero hn
    subst this
    rw [hv]
    exact Tryz.slices_Contains_string_empty none 0 x W
  · rw [hv]
    have := Tryz.slices_Contains_string g 0 vs.length cap vs x W (Nat.le_refl _) (by omega) (fun j hj => by
      simp only [World.cell?, hw, Nat.zero_add]
      have h5 : (cur.toList.take (vs.length * 1))[j]? = some (.string (vs.getD j ByteArray.empty)) := by
        rw [h4]; simp [List.getElem?_eq_getElem hj]
      rw [List.getElem?_take, if_pos (by omega)] at h5
      simpa using h5)
    simpa using this

theorem index_own {W : World} {b : Nat} {v : Value} {vs : List ByteArray} (h : W.ownsRow b 9 1 v vs.length (vs.map Value.string)) (hl : vs.length ≤ 1000) (x : ByteArray) :
    Calls Tryz.prog 191 #[v, .string x] W fun e w' => e = .returned (.int .i64 (Lib.idxOfS vs x)) ∧ w' = W := by
  obtain ⟨_, ⟨hv, hn⟩ | ⟨g, cap, cur, hv, hb, hw, h1, h2, h3, h4⟩⟩ := h
  · have : vs = [] := List.eq_nil_of_length_eq_zero hn
    subst this
    rw [hv]
    exact Tryz.slices_Index_string_empty none 0 x W
  · rw [hv]
    have := Tryz.slices_Index_string g 0 vs.length cap vs x W (Nat.le_refl _) (by omega) (fun j hj => by
      simp only [World.cell?, hw, Nat.zero_add]
      have h5 : (cur.toList.take (vs.length * 1))[j]? = some (.string (vs.getD j ByteArray.empty)) := by
        rw [h4]; simp [List.getElem?_eq_getElem hj]
      rw [List.getElem?_take, if_pos (by omega)] at h5
      simpa using h5)
    simpa using this

theorem Tryz.info9 : (Tryz.prog.info? 9).map (fun i => (i.zero, i.size, i.bytes)) = some (some (.string ⟨#[]⟩), 1, 16) := by kernel_rfl

end Go.Proofs.YtjajnhemgphefaaGreatDoor
