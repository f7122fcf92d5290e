/-
  Texts made of pieces, a gap of blanks and a token each: the tokens that are read of them are the pieces'.
-/
import Derived.Test.YtjajnhemgphefaaDoorJRules
namespace Go.Proofs.YtjajnhemgphefaaDoor
open Go.RowKit Go.Shelf
set_option linter.unusedVariables false
set_option linter.unusedSimpArgs false

def B (l : List UInt8) : ByteArray := ⟨l.toArray⟩

theorem size_B (l : List UInt8) : (B l).size = l.length := by simp [B, ByteArray.size]
theorem toList_B (l : List UInt8) : (B l).data.toList = l := by simp [B]
theorem B_toList (s : ByteArray) : B s.data.toList = s := by cases s; simp [B]
theorem drop_B (l : List UInt8) (n : Nat) : (B l).extract n (B l).size = B (l.drop n) := by
  rw [← B_toList ((B l).extract n (B l).size), Lib.extract_to_end, toList_B]
theorem take_B (l : List UInt8) (n : Nat) : (B l).extract 0 n = B (l.take n) := by
  rw [← B_toList ((B l).extract 0 n)]
  congr 1
  rw [ByteArray.data_extract]
  simp [B]

theorem decode_drop (l : List UInt8) (pos : Nat) : Utf8.decode (B l) pos = Utf8.decode (B (l.drop pos)) 0 := by
  have := Lib.tail_decode (B l) pos 0
  rw [drop_B, Nat.add_zero] at this
  exact this.symm

theorem decode_one (b : UInt8) (l : List UInt8) (h : b.toNat < 128) : Utf8.decode (B (b :: l)) 0 = (b.toNat, 1) := by
  have h0 : 0 < (B (b :: l)).size := by simp [size_B]
  have := _root_.Go.decode_ascii (B (b :: l)) 0 h0 (by show ((b :: l).toArray[0]).toNat < 128; exact h)
  rw [this]
  rfl

theorem decode_two (a b : UInt8) (l : List UInt8) (h1 : a.toNat / 32 = 6) (h2 : b.toNat / 64 = 2) (h3 : 128 ≤ (a.toNat % 32) * 64 + b.toNat % 64) : Utf8.decode (B (a :: b :: l)) 0 = ((a.toNat % 32) * 64 + b.toNat % 64, 2) := by
  have e0 : (B (a :: b :: l)).get! (0 + 0) = a := by simp [B, ByteArray.get!]
  have e1 : (B (a :: b :: l)).get! (0 + 1) = b := by simp [B, ByteArray.get!]
  have ha : ¬ a.toNat < 128 := by omega
  unfold Utf8.decode
  simp only [e0, e1, size_B]
  rw [if_neg ha]
  simp [h1, h2, h3]

/-- The runes of a word, a chunk of bytes each. -/
def Chunk (c : List UInt8) : Prop := c ≠ [] ∧ ∃ r, wordR r = true ∧ ∀ rest, Utf8.decode (B (c ++ rest)) 0 = (r, c.length)
def NW (rest : List UInt8) : Prop := rest = [] ∨ wordR (Utf8.decode (B rest) 0).1 = false

theorem scan_chunks : ∀ (cs : List (List UInt8)) (pre rest : List UInt8) (f m : Nat), (∀ c ∈ cs, Chunk c) → NW rest → cs.length ≤ f →
    scan (B (pre ++ cs.flatten ++ rest)) f pre.length m = (pre.length + cs.flatten.length, m + cs.length)
  | [], pre, rest, f, m, _, hn, _ => by
    simp only [List.flatten_nil, List.append_nil, List.length_nil, Nat.add_zero]
    rcases hn with rfl | hn
    · exact scan_end _ _ _ _ (by simp [size_B])
    · exact scan_stop _ _ _ _ (by rw [decode_drop]; simpa using hn)
  | c :: cs, pre, rest, 0, m, _, _, hf => by simp at hf
  | c :: cs, pre, rest, f + 1, m, hc, hn, hf => by
    obtain ⟨hne, r, hr, hd⟩ := hc c (by simp)
    have hlen : 0 < c.length := List.length_pos_iff.2 hne
    have hdec : Utf8.decode (B (pre ++ (c :: cs).flatten ++ rest)) pre.length = (r, c.length) := by
      rw [decode_drop]
      have : (pre ++ (c :: cs).flatten ++ rest).drop pre.length = c ++ (cs.flatten ++ rest) := by simp
      rw [this]; exact hd _
    unfold scan
    rw [hdec, if_pos (by simp [size_B]; omega), if_pos hr]
    have ih := scan_chunks cs (pre ++ c) rest f (m + 1) (fun d hd => hc d (by simp [hd])) hn (by simpa using hf)
    have e : pre ++ (c :: cs).flatten ++ rest = (pre ++ c) ++ cs.flatten ++ rest := by simp
    rw [e]
    simp only [List.length_append] at ih
    rw [ih]
    simp; omega

/-- A token that is read as such ahead of the rest. -/
structure GT (b : List UInt8) (k : Int) (r : Nat) (rest : List UInt8) : Prop where
  ne : b ≠ []
  first : firstT (B (b ++ rest)) = (k, b.length, r)
  notBlank : blankB (Utf8.decode (B (b ++ rest)) 0).1 = false

theorem gt_word (c : List UInt8) (cs : List (List UInt8)) (rest : List UInt8) (k : Int) (r : Nat) (hc : ∀ d ∈ c :: cs, Chunk d) (hn : NW rest) (hd : ∀ rest, Utf8.decode (B (c ++ rest)) 0 = (r, c.length)) (hk : (capB r = true ∧ k = 2) ∨ (capB r = false ∧ smallB r = true ∧ k = 1)) (hb : blankB r = false) :
    GT (c :: cs).flatten k (c :: cs).length rest := by
  have hne : c ≠ [] := (hc c (by simp)).1
  have h0 : Utf8.decode (B ((c :: cs).flatten ++ rest)) 0 = (r, c.length) := by
    have : (c :: cs).flatten ++ rest = c ++ (cs.flatten ++ rest) := by simp
    rw [this]; exact hd _
  have hs := scan_chunks (c :: cs) [] rest (B ((c :: cs).flatten ++ rest)).size 0 hc hn (by
    have : (c :: cs).length ≤ (c :: cs).flatten.length := by
      have : ∀ l : List (List UInt8), (∀ d ∈ l, Chunk d) → l.length ≤ l.flatten.length := by
        intro l
        induction l with
        | nil => simp
        | cons d l ih => intro h; have h1 := ih (fun x hx => h x (by simp [hx])); have h2 := List.length_pos_iff.2 (h d (by simp)).1; simp at h1 ⊢; omega
      exact this _ hc
    rw [size_B]; simp at this ⊢; omega)
  simp only [List.nil_append, List.length_nil, Nat.zero_add] at hs
  refine ⟨by simp [hne], ?_, by rw [h0]; exact hb⟩
  unfold firstT
  rw [h0]
  simp only
  rcases hk with ⟨h1, rfl⟩ | ⟨h1, h2, rfl⟩
  · rw [if_pos h1, hs]
  · rw [if_neg (by simp [h1]), if_pos h2, hs]

structure P where
  g : List UInt8
  b : List UInt8
  k : Int
  r : Nat
  ok : b.length ≤ 1200

def txt (t : List UInt8) : List P → List UInt8
  | [] => t
  | x :: l => x.g ++ x.b ++ txt t l
def toksP : Nat → List P → List Tok
  | _, [] => []
  | p, x :: l => ⟨x.k, B x.b, p + x.g.length, x.r, by rw [size_B]; exact x.ok⟩ :: toksP (p + x.g.length + x.r) l
def Blanks (g : List UInt8) : Prop := ∀ c ∈ g, c = 32 ∨ c = 9 ∨ c = 10
def Good (t : List UInt8) : List P → Prop
  | [] => Blanks t
  | x :: l => Blanks x.g ∧ GT x.b x.k x.r (txt t l) ∧ Good t l

theorem toks_blanks : ∀ (g rest : List UInt8) (f p : Nat), Blanks g → toks (g.length + f) (B (g ++ rest)) p = toks f (B rest) (p + g.length)
  | [], rest, f, p, _ => by simp
  | c :: g, rest, f, p, h => by
    have hc : c.toNat < 128 ∧ blankB (c.toNat : Int) = true := by
      rcases h c (by simp) with rfl | rfl | rfl <;> exact ⟨by decide, by decide⟩
    have e : (c :: g).length + f = (g.length + f) + 1 := by simp; omega
    rw [e]
    conv => lhs; unfold toks
    rw [if_neg (by simp [size_B]), List.cons_append, decode_one _ _ hc.1]
    simp only
    rw [if_pos hc.2, drop_B]
    simp only [List.drop_succ_cons, List.drop_zero]
    rw [toks_blanks g rest f (p + 1) (fun d hd => h d (by simp [hd]))]
    have e2 : p + 1 + g.length = p + (c :: g).length := by simp only [List.length_cons]; omega
    rw [e2]

theorem toks_good (t : List UInt8) : ∀ (l : List P) (f p : Nat), Good t l → (txt t l).length ≤ f → toks f (B (txt t l)) p = toksP p l
  | [], f, p, h, hf => by
    simp only [txt, toksP] at hf ⊢
    obtain ⟨f', rfl⟩ : ∃ f', f = t.length + f' := ⟨f - t.length, by omega⟩
    have := toks_blanks t [] f' p h
    rw [List.append_nil] at this
    rw [this]
    exact toks_empty _ _ _ (by simp [size_B])
  | x :: l, f, p, h, hf => by
    obtain ⟨hg, ⟨hne, hfst, hnb⟩, hl⟩ := h
    have hb : 0 < x.b.length := List.length_pos_iff.2 hne
    simp only [txt, List.length_append] at hf
    obtain ⟨f', rfl⟩ : ∃ f', f = x.g.length + (f' + 1) := ⟨f - x.g.length - 1, by omega⟩
    have e : txt t (x :: l) = x.g ++ (x.b ++ txt t l) := by simp [txt]
    rw [e, toks_blanks _ _ _ _ hg]
    unfold toks
    rw [if_neg (by rw [size_B, List.length_append]; omega), if_neg (by simp [hnb]), hfst]
    simp only
    have ht : (B (x.b ++ txt t l)).extract 0 x.b.length = B x.b := by rw [take_B]; simp
    have hd : (B (x.b ++ txt t l)).extract x.b.length (B (x.b ++ txt t l)).size = B (txt t l) := by rw [drop_B]; simp
    rw [dif_pos (by rw [ht, size_B]; exact x.ok)]
    simp only [ht, hd, toksP]
    rw [toks_good t l f' _ hl (by omega)]

theorem chunk1 (b : UInt8) (h : b.toNat < 128) (hw : wordR b.toNat = true) : Chunk [b] := ⟨by simp, b.toNat, hw, fun rest => decode_one b rest h⟩
theorem chunk2 (a b : UInt8) (h1 : a.toNat / 32 = 6) (h2 : b.toNat / 64 = 2) (h3 : 128 ≤ (a.toNat % 32) * 64 + b.toNat % 64) (hw : wordR ((a.toNat % 32) * 64 + b.toNat % 64) = true) : Chunk [a, b] :=
  ⟨by simp, _, hw, fun rest => decode_two a b rest h1 h2 h3⟩

/-- A sign of one byte, whatever follows it. -/
theorem gt_sign (b : UInt8) (rest : List UInt8) (h : b.toNat < 128) (hc : capB b.toNat = false) (hs : smallB b.toNat = false) (hb : blankB b.toNat = false) (h58 : (b == 58) = false) : GT [b] (signK b.toNat) 1 rest := by
  have h0 : Utf8.decode (B ([b] ++ rest)) 0 = (b.toNat, 1) := decode_one b rest h
  refine ⟨by simp, ?_, by rw [h0]; exact hb⟩
  unfold firstT
  rw [h0]
  simp only
  rw [if_neg (by simp [hc]), if_neg (by simp [hs]), if_neg (by
    rw [toList_B]
    simp only [Lib.hasPrefix, List.cons_append, List.nil_append]
    simp
    intro e
    rw [← e] at h58
    simp at h58)]
  rfl

theorem gt_if (rest : List UInt8) : GT [58, 45] 7 2 rest := by
  have h0 : Utf8.decode (B ([58, 45] ++ rest)) 0 = (58, 1) := decode_one 58 (45 :: rest) (by decide)
  refine ⟨by simp, ?_, by rw [h0]; decide⟩
  unfold firstT
  rw [h0]
  simp only
  rw [if_neg (by decide), if_neg (by decide), if_pos (by rw [toList_B]; simp [Lib.hasPrefix])]
  rfl

theorem gt_bad (rest : List UInt8) : GT [195, 169] 0 1 rest := by
  have h0 : Utf8.decode (B ([195, 169] ++ rest)) 0 = (233, 2) := decode_two 195 169 rest (by decide) (by decide) (by decide)
  refine ⟨by simp, ?_, by rw [h0]; decide⟩
  unfold firstT
  rw [h0]
  simp only
  rw [if_neg (by decide), if_neg (by decide), if_neg (by rw [toList_B]; simp [Lib.hasPrefix])]
  rfl

end Go.Proofs.YtjajnhemgphefaaDoor
