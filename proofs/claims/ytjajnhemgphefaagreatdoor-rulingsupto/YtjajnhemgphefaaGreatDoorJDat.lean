/-
  Rows of the call's own that hold a list of things, each of a fixed number of cells: what lies at which place. (Of any program.)
  Plain data that both sides share: rules, names; texts' numbers; a memory of which only strings were changed.
-/
import Derived.Test.YtjajnhemgphefaaGreatDoorJRef3
import Derived.Lib.ItoaNum
namespace Go.Proofs.YtjajnhemgphefaaGreatDoor
open Go.RowKit Go.Shelf
set_option linter.unusedVariables false
set_option linter.unusedSimpArgs false

theorem flat_get {α : Type} (f : α → List Value) (k : Nat) (hk : ∀ x, (f x).length = k) : ∀ (l : List α) (j o : Nat) (hj : j < l.length), o < k → (l.flatMap f)[j * k + o]? = (f l[j])[o]?
  | [], j, o, hj, _ => by simp at hj
  | x :: l, 0, o, hj, ho => by
    rw [List.flatMap_cons, List.getElem?_append_left (by rw [hk]; omega)]
    simp
  | x :: l, j + 1, o, hj, ho => by
    have hj' : j < l.length := by simpa using hj
    have e : (j + 1) * k + o = k + (j * k + o) := by rw [Nat.succ_mul]; omega
    rw [List.flatMap_cons, List.getElem?_append_right (by rw [hk, e]; omega), hk, e, Nat.add_sub_cancel_left]
    simpa using flat_get f k hk l j o hj' ho

theorem flat_len {α : Type} (f : α → List Value) (k : Nat) (hk : ∀ x, (f x).length = k) (l : List α) : (l.flatMap f).length = l.length * k := by
  induction l with
  | nil => simp
  | cons x l ih => rw [List.flatMap_cons, List.length_append, hk, ih, List.length_cons, Nat.succ_mul]; omega

/-- The form of an owned row that holds a list. -/
theorem own_form {W : World} {B T k n : Nat} {v : Value} {xs : List Value} (h : W.ownsRow B T k v n xs) : ∃ a c, v = .slice a n c := by
  obtain ⟨_, ⟨hv, hn⟩ | ⟨g, cap, cur, hv, _⟩⟩ := h
  · exact ⟨none, 0, by rw [hv, hn]⟩
  · exact ⟨_, _, hv⟩

theorem own_get {W : World} {B T k : Nat} {v : Value} {α : Type} {f : α → List Value} {l : List α} (h : W.ownsRow B T k v l.length (l.flatMap f)) (hk : ∀ x, (f x).length = k) (hne : 0 < l.length) :
    ∃ g cap, v = .slice (some ⟨g, 0, none⟩) l.length cap ∧ B ≤ g ∧ g < W.heap.size ∧ l.length ≤ cap ∧ ∀ (j o : Nat) (hj : j < l.length) (u : Value), o < k → (f l[j])[o]? = some u → W.cell? ⟨g, j * k + o, none⟩ = some u := by
  obtain ⟨_, ⟨hv, hn⟩ | ⟨g, cap, cur, hv, hb, hw, h1, h2, h3, h4⟩⟩ := h
  · omega
  · refine ⟨g, cap, hv, hb, (Array.getElem?_eq_some_iff.1 hw).1, h1, fun j o hj u ho hu => ?_⟩
    have h5 : (cur.toList.take (l.length * k))[j * k + o]? = some u := by rw [h4, flat_get f k hk l j o hj ho, hu]
    have hlt : j * k + o < l.length * k := by
      have : (j + 1) * k ≤ l.length * k := Nat.mul_le_mul_right k hj
      rw [Nat.succ_mul] at this; omega
    rw [List.getElem?_take, if_pos hlt] at h5
    simp only [World.cell?, hw]
    simpa using h5

/-- An owned row abides what keeps its own block. -/
theorem own_keep {W W' : World} {B T k n : Nat} {v : Value} {xs : List Value} (h : W.ownsRow B T k v n xs) (hk : ∀ g, v.ownBlock = some g → g < W.heap.size → W'.heap[g]? = W.heap[g]?) : W'.ownsRow B T k v n xs := by
  obtain ⟨h0, ⟨hv, hn⟩ | ⟨g, cap, cur, hv, hb, hh, h1, h2, h3, h4⟩⟩ := h
  · exact ⟨h0, .inl ⟨hv, hn⟩⟩
  · exact ⟨h0, .inr ⟨g, cap, cur, hv, hb, (hk g (by rw [hv]; rfl) (Array.getElem?_eq_some_iff.1 hh).1).trans hh, h1, h2, h3, h4⟩⟩

theorem own_below {W W' : World} {B T k n : Nat} {v : Value} {xs : List Value} (h : W.ownsRow B T k v n xs) (hb : Below W.heap.size W W') : W'.ownsRow B T k v n xs := own_keep h (fun g _ hg => hb.block g hg)

theorem own_down {W : World} {B B' T k n : Nat} {v : Value} {xs : List Value} (h : W.ownsRow B T k v n xs) (hB : B' ≤ B) : W.ownsRow B' T k v n xs := by
  obtain ⟨h0, ⟨hv, hn⟩ | ⟨g, cap, cur, hv, hb, hw⟩⟩ := h
  · exact ⟨h0, .inl ⟨hv, hn⟩⟩
  · exact ⟨h0, .inr ⟨g, cap, cur, hv, by omega, hw⟩⟩

/-- What was laid ahead of B lies there still. -/
theorem below_heap {B : Nat} {W W' : World} (h : Below B W W') {k : Nat} (hk : k < B) : W'.heap[k]? = W.heap[k]? := h.block k hk

theorem four_new (w : World) (x y z u : Value) (t : TypeId) : ∀ j q, [x, y, z, u][j]? = some q → (w.alloc (.cells #[x, y, z, u] t)).cell? ((⟨w.heap.size, 0, none⟩ : Addr).add j) = some q := by
  intro j q hj
  match j, hj with
  | 0, hj => simp at hj; subst hj; simp [Addr.add]
  | 1, hj => simp at hj; subst hj; simp [Addr.add]
  | 2, hj => simp at hj; subst hj; simp [Addr.add]
  | 3, hj => simp at hj; subst hj; simp [Addr.add]
  | j + 4, hj => simp at hj

/-- The first runes of a kind up to 3: how many. -/
theorem tw_go (l : List Rn) : ∀ m, m ≤ (tw l).length → ∀ hm : m < l.length, l[m].kind ≤ 3 → m + 1 ≤ (tw l).length := by
  induction l with
  | nil => intro m _ hm; simp at hm
  | cons x l ih =>
    intro m h hm hk
    unfold tw at h ⊢
    rw [List.takeWhile_cons] at h ⊢
    cases m with
    | zero => rw [if_pos (by simpa using hk)]; simp
    | succ m =>
      split at h
      · rename_i hx
        rw [if_pos hx]
        simp only [List.length_cons] at h ⊢
        have := ih m (by unfold tw; omega) (by simpa using hm) (by simpa using hk)
        unfold tw at this
        omega
      · simp at h

theorem tw_stop (l : List Rn) : ∀ m, m ≤ (tw l).length → (∀ hm : m < l.length, ¬ l[m].kind ≤ 3) → m = (tw l).length := by
  induction l with
  | nil => intro m h _; simpa [tw] using h
  | cons x l ih =>
    intro m h hk
    cases m with
    | zero =>
      have := hk (by simp)
      unfold tw
      rw [List.takeWhile_cons, if_neg (by simpa using this)]
      simp
    | succ m =>
      unfold tw at h ⊢
      rw [List.takeWhile_cons] at h ⊢
      split at h
      · rename_i hx
        rw [if_pos hx]
        simp only [List.length_cons] at h ⊢
        have := ih m (by unfold tw; omega) (fun hm => by have := hk (by simpa using hm); simpa using this)
        unfold tw at this
        omega
      · simp at h

theorem cat_snoc (l : List Rn) (x : Rn) : cat (l ++ [x]) = cat l ++ x.text := by
  induction l with
  | nil =>
    show x.text ++ ByteArray.empty = ByteArray.empty ++ x.text
    simp
  | cons y l ih => simp only [List.cons_append, cat, ih, ByteArray.append_assoc]

theorem refT_fuel : ∀ (f g : Nat) (l : List Rn) (i : Nat), l.length ≤ f → l.length ≤ g → refT f l i = refT g l i
  | 0, g, [], i, _, _ => by cases g <;> rfl
  | 0, g, r :: l, i, h, _ => by simp at h
  | f + 1, 0, [], i, _, _ => rfl
  | f + 1, 0, r :: l, i, _, h => by simp at h
  | f + 1, g + 1, [], i, _, _ => rfl
  | f + 1, g + 1, r :: l, i, h, h' => by
    simp only [List.length_cons] at h h'
    unfold refT
    rw [refT_fuel f g (l.drop (tw l).length) _ (by simp; omega) (by simp; omega), refT_fuel f g l _ (by omega) (by omega), refT_fuel f g (l.drop 1) _ (by simp; omega) (by simp; omega)]

theorem R_size (s : ByteArray) : ∀ (f i : Nat), s.size ≤ i + f → ∀ r ∈ R s i, 1 ≤ r.text.size ∧ r.text.size ≤ 4
  | 0, i, h, r, hr => by rw [R_end s i (by omega)] at hr; cases hr
  | f + 1, i, h, r, hr => by
    by_cases hi : i < s.size
    · have hw := width_le_at s i hi
      have hp := width_pos s i
      have h4 : (Utf8.decode s i).2 ≤ 4 := by
        rw [size_ref]; unfold sizeR
        split
        · decide
        · split
          · decide
          · split <;> decide
      rw [R_cons s i hi] at hr
      rcases List.mem_cons.1 hr with rfl | hr
      · have hz : (s.extract i (i + (Utf8.decode s i).2)).size = (Utf8.decode s i).2 := by simp; omega
        simp only
        rw [hz]; omega
      · exact R_size s f _ (by omega) r hr
    · rw [R_end s i hi] at hr; cases hr

end Go.Proofs.YtjajnhemgphefaaGreatDoor

namespace Go.Proofs.YtjajnhemgphefaaGreatDoor
open Go.RowKit Go.Shelf
set_option linter.unusedVariables false
set_option linter.unusedSimpArgs false

def sameB (x y : ByteArray) : Bool := y.toList == x.toList
def seenN (vs : List ByteArray) (x : ByteArray) : Nat := vs.findIdx (sameB x)
def seenL (vs : List ByteArray) (x : ByteArray) : List ByteArray := if seenN vs x < vs.length then vs else vs ++ [x]

/-- An argument: a name, or (its name empty) a variable by its number. -/
structure Tm where
  name : ByteArray
  num : Nat
structure Am where
  rel : ByteArray
  args : List Tm
structure Rl where
  head : Am
  body : List Am

def tmC (t : Tm) : List Value := [.string t.name, .int .i64 t.num]
theorem tmC_len (t : Tm) : (tmC t).length = 2 := rfl

def ruleAms (r : Rl) : List Am := r.head :: r.body
def nmStep (vs : List ByteArray) (t : Tm) : List ByteArray := if t.name.toList.isEmpty = true then vs else seenL vs t.name
def nmL (vs : List ByteArray) (l : List Tm) : List ByteArray := l.foldl nmStep vs
def tmsOf (l : List Am) : List Tm := l.flatMap (·.args)

/-- Blocks below B, and those that hold no strings, are as they were. -/
structure StrOnly (B : Nat) (w w' : World) : Prop where
  os : w'.os = w.os
  tape : w'.tape = w.tape
  output : w'.output = w.output
  size : w.heap.size ≤ w'.heap.size
  block : ∀ k, k < w.heap.size → (k < B ∨ ∀ c fz, w.heap[k]? ≠ some (Obj.cells c 9 fz)) → w'.heap[k]? = w.heap[k]?

theorem StrOnly.refl (B : Nat) (w : World) : StrOnly B w w := ⟨rfl, rfl, rfl, Nat.le_refl _, fun _ _ _ => rfl⟩
theorem StrOnly.trans {B : Nat} {a b c : World} (h : StrOnly B a b) (k : StrOnly B b c) : StrOnly B a c :=
  ⟨k.os.trans h.os, k.tape.trans h.tape, k.output.trans h.output, Nat.le_trans h.size k.size, fun i hi hx => by
    have h1 := h.block i hi hx
    rw [k.block i (Nat.lt_of_lt_of_le hi h.size) (by rw [h1]; exact hx), h1]⟩
theorem StrOnly.alloc {B : Nat} {a b : World} (h : StrOnly B a b) (o : Obj) : StrOnly B a (b.alloc o) :=
  ⟨h.os, h.tape, h.output, by have := h.size; simp; omega, fun i hi hx => (Below.heap_alloc b o i (Nat.lt_of_lt_of_le hi h.size)).trans (h.block i hi hx)⟩
theorem StrOnly.setCell {B : Nat} {a b : World} (h : StrOnly B a b) {p : Addr} (hp : a.heap.size ≤ p.block) (v : Value) : StrOnly B a (b.setCell p v) :=
  ⟨h.os, h.tape, h.output, by have := h.size; simpa using this, fun i hi hx => (Below.heap_setCell b p v i (by omega)).trans (h.block i hi hx)⟩
theorem StrOnly.drew {B : Nat} {a b : World} (h : StrOnly B a b) : StrOnly B a b.drew := ⟨h.os, h.tape, h.output, h.size, h.block⟩
theorem StrOnly.grown {B : Nat} {a b c : World} {row : Option Nat} (h : StrOnly B a b) (hg : b.grownBy c row) (hr : ∀ k, row = some k → a.heap.size ≤ k ∨ (B ≤ k ∧ ∃ d fz, b.heap[k]? = some (Obj.cells d 9 fz))) : StrOnly B a c :=
  ⟨hg.os.trans h.os, hg.tape.trans h.tape, hg.output.trans h.output, Nat.le_trans h.size hg.size, fun i hi hx => by
    have h1 := h.block i hi hx
    rw [hg.block i (Nat.lt_of_lt_of_le hi h.size) (fun e => ?_), h1]
    rcases hr i e.symm with h2 | ⟨h2, d, fz, h3⟩
    · omega
    · rcases hx with hx | hx
      · omega
      · rw [h1] at h3; exact hx d fz h3⟩
theorem own_str {W : World} {B k n : Nat} {T : TypeId} {v : Value} {xs : List Value} (h : W.ownsRow B T k v n xs) : ∀ g, v.ownBlock = some g → B ≤ g ∧ g < W.heap.size ∧ ∃ d fz, W.heap[g]? = some (Obj.cells d T fz) := by
  intro g hg
  obtain ⟨_, ⟨hv, hn⟩ | ⟨g', cap, cur, hv, hb, hh, h1, h2, h3, h4⟩⟩ := h
  · rw [hv] at hg; cases hg
  · rw [hv] at hg; cases hg; exact ⟨hb, (Array.getElem?_eq_some_iff.1 hh).1, cur, _, hh⟩
/-- A row of things other than strings abides. -/
theorem StrOnly.own {B B' k n : Nat} {T : TypeId} {a b : World} {v : Value} {xs : List Value} (h : StrOnly B a b) (hT : T ≠ 9) (ho : a.ownsRow B' T k v n xs) : b.ownsRow B' T k v n xs := by
  refine own_keep ho (fun g hg hlt => h.block g hlt (.inr fun c fz e => ?_))
  obtain ⟨_, _, d, fz', h3⟩ := own_str ho g hg
  rw [e] at h3; cases h3; exact hT rfl

def decS (n : Nat) : ByteArray := ⟨(Lib.decDigits n).toArray⟩

theorem digit_ext (d : Nat) (h : d < 10) : (⟨#[48, 49, 50, 51, 52, 53, 54, 55, 56, 57]⟩ : ByteArray).extract d (d + 1) = ⟨#[UInt8.ofNat (48 + d)]⟩ := by
  have hc : d = 0 ∨ d = 1 ∨ d = 2 ∨ d = 3 ∨ d = 4 ∨ d = 5 ∨ d = 6 ∨ d = 7 ∨ d = 8 ∨ d = 9 := by omega
  rcases hc with rfl | rfl | rfl | rfl | rfl | rfl | rfl | rfl | rfl | rfl <;> rfl

theorem decS_small (n : Nat) (h : n < 10) : decS n = (⟨#[48, 49, 50, 51, 52, 53, 54, 55, 56, 57]⟩ : ByteArray).extract (n % 10) (n % 10 + 1) := by
  rw [digit_ext _ (by omega)]
  unfold decS
  rw [Lib.decDigits_one h, Nat.mod_eq_of_lt h]
theorem decS_great (n : Nat) (h : ¬ n < 10) : decS n = decS (n / 10) ++ (⟨#[48, 49, 50, 51, 52, 53, 54, 55, 56, 57]⟩ : ByteArray).extract (n % 10) (n % 10 + 1) := by
  rw [digit_ext _ (by omega)]
  unfold decS
  conv => lhs; rw [Lib.decDigits, dif_neg h]
  apply ByteArray.ext
  rw [ByteArray.data_append]
  simp
theorem decS_size : ∀ (n : Nat), (decS n).size ≤ n + 1 := by
  intro n
  induction n using Nat.strongRecOn with
  | ind n ih =>
    by_cases h : n < 10
    · unfold decS; rw [Lib.decDigits_one h]; show 1 ≤ n + 1; omega
    · rw [decS_great n h, digit_ext _ (by omega), ByteArray.size_append]
      have h1 := ih (n / 10) (by omega)
      have h2 : (⟨#[UInt8.ofNat (48 + n % 10)]⟩ : ByteArray).size = 1 := rfl
      omega

end Go.Proofs.YtjajnhemgphefaaGreatDoor
