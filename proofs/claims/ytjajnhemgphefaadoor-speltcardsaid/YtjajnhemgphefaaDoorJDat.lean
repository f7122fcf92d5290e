/-
  Plain data that both sides share: rules, names; texts' numbers; a memory of which only strings were changed.
-/
import Derived.Test.YtjajnhemgphefaaDoorJRefU
import Derived.Lib.ItoaNum
namespace Go.Proofs.YtjajnhemgphefaaDoor
open Go.RowKit Go.Shelf
set_option linter.unusedVariables false
set_option linter.unusedSimpArgs false

def sameB (x y : ByteArray) : Bool := y.toList == x.toList
def seenN (vs : List ByteArray) (x : ByteArray) : Nat := vs.findIdx (sameB x)
def seenL (vs : List ByteArray) (x : ByteArray) : List ByteArray := if seenN vs x < vs.length then vs else vs ++ [x]

/-- An argument: a name, or (its name empty) a variable by its number. -/
structure Tm where
  name : ByteArray
  num : Nat
structure Am where
  rel : ByteArray
  args : List Tm
structure Rl where
  head : Am
  body : List Am

def tmC (t : Tm) : List Value := [.string t.name, .int .i64 t.num]
theorem tmC_len (t : Tm) : (tmC t).length = 2 := rfl

def ruleAms (r : Rl) : List Am := r.head :: r.body
def nmStep (vs : List ByteArray) (t : Tm) : List ByteArray := if t.name.toList.isEmpty = true then vs else seenL vs t.name
def nmL (vs : List ByteArray) (l : List Tm) : List ByteArray := l.foldl nmStep vs
def tmsOf (l : List Am) : List Tm := l.flatMap (·.args)

/-- Blocks below B, and those that hold no strings, are as they were. -/
structure StrOnly (B : Nat) (w w' : World) : Prop where
  os : w'.os = w.os
  tape : w'.tape = w.tape
  output : w'.output = w.output
  size : w.heap.size ≤ w'.heap.size
  block : ∀ k, k < w.heap.size → (k < B ∨ ∀ c fz, w.heap[k]? ≠ some (Obj.cells c 9 fz)) → w'.heap[k]? = w.heap[k]?

theorem StrOnly.refl (B : Nat) (w : World) : StrOnly B w w := ⟨rfl, rfl, rfl, Nat.le_refl _, fun _ _ _ => rfl⟩
theorem StrOnly.trans {B : Nat} {a b c : World} (h : StrOnly B a b) (k : StrOnly B b c) : StrOnly B a c :=
  ⟨k.os.trans h.os, k.tape.trans h.tape, k.output.trans h.output, Nat.le_trans h.size k.size, fun i hi hx => by
    have h1 := h.block i hi hx
    rw [k.block i (Nat.lt_of_lt_of_le hi h.size) (by rw [h1]; exact hx), h1]⟩
theorem StrOnly.alloc {B : Nat} {a b : World} (h : StrOnly B a b) (o : Obj) : StrOnly B a (b.alloc o) :=
  ⟨h.os, h.tape, h.output, by have := h.size; simp; omega, fun i hi hx => (Below.heap_alloc b o i (Nat.lt_of_lt_of_le hi h.size)).trans (h.block i hi hx)⟩
theorem StrOnly.setCell {B : Nat} {a b : World} (h : StrOnly B a b) {p : Addr} (hp : a.heap.size ≤ p.block) (v : Value) : StrOnly B a (b.setCell p v) :=
  ⟨h.os, h.tape, h.output, by have := h.size; simpa using this, fun i hi hx => (Below.heap_setCell b p v i (by omega)).trans (h.block i hi hx)⟩
theorem StrOnly.drew {B : Nat} {a b : World} (h : StrOnly B a b) : StrOnly B a b.drew := ⟨h.os, h.tape, h.output, h.size, h.block⟩
theorem StrOnly.grown {B : Nat} {a b c : World} {row : Option Nat} (h : StrOnly B a b) (hg : b.grownBy c row) (hr : ∀ k, row = some k → a.heap.size ≤ k ∨ (B ≤ k ∧ ∃ d fz, b.heap[k]? = some (Obj.cells d 9 fz))) : StrOnly B a c :=
  ⟨hg.os.trans h.os, hg.tape.trans h.tape, hg.output.trans h.output, Nat.le_trans h.size hg.size, fun i hi hx => by
    have h1 := h.block i hi hx
    rw [hg.block i (Nat.lt_of_lt_of_le hi h.size) (fun e => ?_), h1]
    rcases hr i e.symm with h2 | ⟨h2, d, fz, h3⟩
    · omega
    · rcases hx with hx | hx
      · omega
      · rw [h1] at h3; exact hx d fz h3⟩
theorem own_str {W : World} {B k n : Nat} {T : TypeId} {v : Value} {xs : List Value} (h : W.ownsRow B T k v n xs) : ∀ g, v.ownBlock = some g → B ≤ g ∧ g < W.heap.size ∧ ∃ d fz, W.heap[g]? = some (Obj.cells d T fz) := by
  intro g hg
  obtain ⟨_, ⟨hv, hn⟩ | ⟨g', cap, cur, hv, hb, hh, h1, h2, h3, h4⟩⟩ := h
  · rw [hv] at hg; cases hg
  · rw [hv] at hg; cases hg; exact ⟨hb, (Array.getElem?_eq_some_iff.1 hh).1, cur, _, hh⟩
/-- A row of things other than strings abides. -/
theorem StrOnly.own {B B' k n : Nat} {T : TypeId} {a b : World} {v : Value} {xs : List Value} (h : StrOnly B a b) (hT : T ≠ 9) (ho : a.ownsRow B' T k v n xs) : b.ownsRow B' T k v n xs := by
  refine own_keep ho (fun g hg hlt => h.block g hlt (.inr fun c fz e => ?_))
  obtain ⟨_, _, d, fz', h3⟩ := own_str ho g hg
  rw [e] at h3; cases h3; exact hT rfl

def decS (n : Nat) : ByteArray := ⟨(Lib.decDigits n).toArray⟩

theorem digit_ext (d : Nat) (h : d < 10) : (⟨#[48, 49, 50, 51, 52, 53, 54, 55, 56, 57]⟩ : ByteArray).extract d (d + 1) = ⟨#[UInt8.ofNat (48 + d)]⟩ := by
  have hc : d = 0 ∨ d = 1 ∨ d = 2 ∨ d = 3 ∨ d = 4 ∨ d = 5 ∨ d = 6 ∨ d = 7 ∨ d = 8 ∨ d = 9 := by omega
  rcases hc with rfl | rfl | rfl | rfl | rfl | rfl | rfl | rfl | rfl | rfl <;> rfl

theorem decS_small (n : Nat) (h : n < 10) : decS n = (⟨#[48, 49, 50, 51, 52, 53, 54, 55, 56, 57]⟩ : ByteArray).extract (n % 10) (n % 10 + 1) := by
  rw [digit_ext _ (by omega)]
  unfold decS
  rw [Lib.decDigits_one h, Nat.mod_eq_of_lt h]
theorem decS_great (n : Nat) (h : ¬ n < 10) : decS n = decS (n / 10) ++ (⟨#[48, 49, 50, 51, 52, 53, 54, 55, 56, 57]⟩ : ByteArray).extract (n % 10) (n % 10 + 1) := by
  rw [digit_ext _ (by omega)]
  unfold decS
  conv => lhs; rw [Lib.decDigits, dif_neg h]
  apply ByteArray.ext
  rw [ByteArray.data_append]
  simp
theorem decS_size : ∀ (n : Nat), (decS n).size ≤ n + 1 := by
  intro n
  induction n using Nat.strongRecOn with
  | ind n ih =>
    by_cases h : n < 10
    · unfold decS; rw [Lib.decDigits_one h]; show 1 ≤ n + 1; omega
    · rw [decS_great n h, digit_ext _ (by omega), ByteArray.size_append]
      have h1 := ih (n / 10) (by omega)
      have h2 : (⟨#[UInt8.ofNat (48 + n % 10)]⟩ : ByteArray).size = 1 := rfl
      omega

end Go.Proofs.YtjajnhemgphefaaDoor
