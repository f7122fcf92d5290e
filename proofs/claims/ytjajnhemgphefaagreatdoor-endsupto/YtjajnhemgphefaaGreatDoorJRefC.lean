/-
  The document's own tokens, in a plain function over a text's runes, and that they are the program's.
  Rows of the call's own that hold a list of things, each of a fixed number of cells: what lies at which place. (Of any program.)
  The document's own answer: what the calls one, follows, size and greek answer, for every text and place.
  The document's own answer: how many bytes the rune has that begins at a place.
  The document's own answer: the runes of a text, in a row of the call's own.
-/
import Derived.Test.YtjajnhemgphefaaGreatDoorJAll
import Derived.BigQuiet
namespace Go.Proofs.YtjajnhemgphefaaGreatDoor
open Go.RowKit Go.Shelf
set_option linter.unusedVariables false
set_option linter.unusedSimpArgs false

structure RT where
  kind : Int
  text : ByteArray
  place : Nat
  runes : Nat

def cat : List Rn → ByteArray
  | [] => ⟨#[]⟩
  | x :: l => x.text ++ cat l

/-- The tokens of the document's answer, by fuel (the last one, the end's, apart). -/
def refT : Nat → List Rn → Nat → List RT
  | 0, _, _ => []
  | f + 1, [], _ => []
  | f + 1, r :: l, i =>
    if r.kind = 1 ∨ r.kind = 2 then ⟨r.kind, r.text ++ cat (tw l), i, 1 + (tw l).length⟩ :: refT f (l.drop (tw l).length) (i + (1 + (tw l).length))
    else if r.kind = 5 then ⟨((r.text.get! 0).toNat : Int), r.text, i, 1⟩ :: refT f l (i + 1)
    else if r.kind = 6 ∧ (l.head?.map (·.kind)) = some 7 then ⟨3, ⟨#[]⟩, i, 2⟩ :: refT f (l.drop 1) (i + 2)
    else if r.kind = 4 then refT f l (i + 1)
    else ⟨5, r.text, i, 1⟩ :: refT f l (i + 1)

def kmap (k : Int) : Int :=
  if k = 1 then 1 else if k = 2 then 2 else if k = 7 then 3 else if k = 3 then 40 else if k = 4 then 41 else if k = 5 then 44 else if k = 6 then 46 else 5
def toRT (t : Tok) : RT := ⟨kmap t.kind, if t.kind = 7 then ⟨#[]⟩ else t.text, t.place, t.runes⟩

theorem ext_join (s : ByteArray) (i j k : Nat) (h1 : i ≤ j) (h2 : j ≤ k) (h3 : k ≤ s.size) : s.extract i j ++ s.extract j k = s.extract i k := by
  apply ByteArray.ext
  rw [ByteArray.data_append]
  simp only [ByteArray.data_extract]
  rw [Array.extract_append_extract]
  congr 1 <;> omega

theorem R_take (s : ByteArray) : ∀ (k i : Nat), k ≤ (R s i).length → i ≤ s.size → cat ((R s i).take k) = s.extract i (i + wlen ((R s i).take k)) ∧ i + wlen ((R s i).take k) ≤ s.size
  | 0, i, _, hi => by
    refine ⟨?_, by simpa [wlen] using hi⟩
    simp only [List.take_zero, cat, wlen, Nat.add_zero]
    apply ByteArray.ext
    simp
  | k + 1, i, h, hi' => by
    by_cases hi : i < s.size
    · have hw := width_le_at s i hi
      have hc := R_cons s i hi
      rw [hc] at h ⊢
      rw [List.take_succ_cons]
      have hz : (s.extract i (i + (Utf8.decode s i).2)).size = (Utf8.decode s i).2 := by simp; omega
      have ih := R_take s k (i + (Utf8.decode s i).2) (by simpa using h) hw
      simp only [wlen, hz, cat]
      rw [ih.1, ← Nat.add_assoc]
      exact ⟨ext_join s _ _ _ (by omega) (by omega) ih.2, ih.2⟩
    · rw [R_end s i hi] at h; simp at h

theorem tw_take (l : List Rn) : tw l = l.take (tw l).length := by
  unfold tw
  induction l with
  | nil => rfl
  | cons x l ih =>
    rw [List.takeWhile_cons]
    split
    · simp only [List.length_cons, List.take_succ_cons]
      rw [← ih]
    · simp

theorem tw_le (l : List Rn) : (tw l).length ≤ l.length := by
  have := congrArg List.length (tw_take l)
  rw [List.length_take] at this
  omega

theorem kind_small (r : Nat) (h : smallB r = true) : kindRune r = 1 := by unfold kindRune; rw [if_pos h]
theorem kind_cap (r : Nat) (h : capB r = true) : kindRune r = 2 := by
  have h2 : smallB r = false := by
    unfold capB at h; unfold smallB
    simp only [decide_eq_true_eq] at h
    simp only [decide_eq_false_iff_not]
    omega
  unfold kindRune
  rw [if_neg (by simp [h2]), if_pos h]
theorem kind_blank (r : Nat) (h : blankB r = true) : kindRune r = 4 := by
  unfold blankB at h
  simp only [decide_eq_true_eq] at h
  unfold kindRune smallB capB digB blankB
  simp only [decide_eq_true_eq]
  rw [if_neg (by omega), if_neg (by omega), if_neg (by omega), if_pos (by omega)]

/-- The first word of a text, as runes. -/
theorem word_ref (s : ByteArray) (h : 0 < s.size) (hw : kindRune (Utf8.decode s 0).1 ≤ 3) :
    (scan s s.size 0 0).2 = 1 + (tw (R s (Utf8.decode s 0).2)).length ∧
    s.extract 0 (scan s s.size 0 0).1 = s.extract 0 (Utf8.decode s 0).2 ++ cat (tw (R s (Utf8.decode s 0).2)) ∧
    R (s.extract (scan s s.size 0 0).1 s.size) 0 = (R s (Utf8.decode s 0).2).drop (tw (R s (Utf8.decode s 0).2)).length := by
  have hc := R_cons s 0 h
  rw [Nat.zero_add] at hc
  have hwd := width_le_at s 0 h
  rw [Nat.zero_add] at hwd
  have ht : tw (R s 0) = ⟨kindRune (Utf8.decode s 0).1, s.extract 0 (Utf8.decode s 0).2⟩ :: tw (R s (Utf8.decode s 0).2) := by
    rw [hc]; unfold tw; rw [List.takeWhile_cons, if_pos (by simpa using hw)]
  have hz : (s.extract 0 (Utf8.decode s 0).2).size = (Utf8.decode s 0).2 := by simp; omega
  have hs := scan_runes s s.size 0 0 (by omega)
  rw [ht] at hs
  simp only [wlen, hz, List.length_cons, Nat.zero_add] at hs
  have h1 := R_take s (tw (R s (Utf8.decode s 0).2)).length (Utf8.decode s 0).2 (tw_le _) hwd
  rw [← tw_take] at h1
  have h2 := R_drop s (tw (R s (Utf8.decode s 0).2)).length (Utf8.decode s 0).2 (tw_le _)
  rw [← tw_take] at h2
  rw [hs]
  refine ⟨by simp only; omega, ?_, ?_⟩
  · rw [h1.1, ext_join s _ _ _ (by omega) (by omega) h1.2]
  · rw [R_tail]; exact h2

theorem ext_le (s : ByteArray) (n : Nat) (h : s.size ≤ 1200) : (s.extract 0 n).size ≤ 1200 := by simp; omega
theorem scan_pos (s : ByteArray) (h : 0 < s.size) (hw : kindRune (Utf8.decode s 0).1 ≤ 3) : 0 < (scan s s.size 0 0).1 := by
  have hc := R_cons s 0 h
  rw [Nat.zero_add] at hc
  have hp := width_pos s 0
  have hwd := width_le_at s 0 h
  have hs := scan_runes s s.size 0 0 (by omega)
  have ht : tw (R s 0) = ⟨kindRune (Utf8.decode s 0).1, s.extract 0 (Utf8.decode s 0).2⟩ :: tw (R s (Utf8.decode s 0).2) := by
    rw [hc]; unfold tw; rw [List.takeWhile_cons, if_pos (by simpa using hw)]
  have hz : (s.extract 0 (Utf8.decode s 0).2).size = (Utf8.decode s 0).2 := by simp; omega
  rw [ht] at hs
  simp only [wlen, hz] at hs
  rw [hs]
  simp only
  omega

theorem turn_ref (s : ByteArray) (h : Lib.hasPrefix s.data.toList [58, 45] = true) : (Utf8.decode s 0).2 = 1 ∧ (Utf8.decode s 1).2 = 1 ∧ kindRune (Utf8.decode s 0).1 = 6 ∧ kindRune (Utf8.decode s 1).1 = 7 ∧ 2 ≤ s.size ∧ True := by
  have h1 : [58, 45] <+: s.data.toList := by simpa [Lib.hasPrefix] using h
  obtain ⟨t, ht⟩ := h1
  have hl : s.data.toList.length = s.size := Array.length_toList
  have hz : 2 ≤ s.size := by rw [← hl, ← ht]; simp
  have b0 : byN s 0 = 58 := by
    have : s.data.toList[0]? = some 58 := by rw [← ht]; rfl
    rw [Array.getElem?_toList] at this
    simp [byN, ByteArray.get!, getElem!_def, this]
  have b1 : byN s 1 = 45 := by
    have : s.data.toList[1]? = some 45 := by rw [← ht]; rfl
    rw [Array.getElem?_toList] at this
    simp [byN, ByteArray.get!, getElem!_def, this]
  have d0 := decode_ref s 0
  have d1 := decode_ref s 1
  rw [b0, if_pos (by decide)] at d0
  rw [b1, if_pos (by decide)] at d1
  rw [d0, d1]
  exact ⟨rfl, rfl, by decide, by decide, hz, trivial⟩

theorem size2 (s : ByteArray) (i : Nat) (h : sizeR s i = 2) : 194 ≤ byN s i ∧ byN s i ≤ 223 := by
  apply Classical.byContradiction
  intro hn
  unfold sizeR at h
  rw [if_neg (by omega)] at h
  split at h
  · cases h
  · split at h <;> cases h

theorem decode_ascii (s : ByteArray) (i : Nat) (h : (Utf8.decode s i).1 < 128) : byN s i = (Utf8.decode s i).1 ∧ (Utf8.decode s i).2 = 1 := by
  have hd := decode_ref s i
  by_cases k0 : byN s i < 128
  · rw [if_pos k0] at hd
    rw [hd]; exact ⟨rfl, rfl⟩
  rw [if_neg k0] at hd
  exfalso
  by_cases h2 : sizeR s i = 2
  · have := size2 s i h2
    rw [if_pos h2] at hd; rw [hd] at h; simp only at h; omega
  rw [if_neg h2] at hd
  by_cases h3 : sizeR s i = 3
  · have := size3 s i h3
    rw [if_pos h3] at hd; rw [hd] at h; simp only at h; omega
  rw [if_neg h3] at hd
  by_cases h4 : sizeR s i = 4
  · have := size4 s i h4
    rw [if_pos h4] at hd; rw [hd] at h; simp only at h; omega
  rw [if_neg h4] at hd
  rw [hd] at h; simp only at h; omega

theorem kind7 (r : Nat) (h : kindRune r = 7) : r = 45 := by
  unfold kindRune at h
  repeat' split at h
  all_goals first | (cases h; done) | assumption | omega

theorem pre_of (s : ByteArray) (h0 : byN s 0 = 58) (h1 : byN s 1 = 45) (h2 : 1 < s.size) : Lib.hasPrefix s.data.toList [58, 45] = true := by
  have hl : s.data.toList.length = s.size := Array.length_toList
  have g0 : s.data.toList[0]? = some 58 := by
    rw [Array.getElem?_toList]
    have e : s.data[0]? = some (s.data[0]'(by show 0 < s.size; omega)) := by simp
    rw [e]
    have : byN s 0 = (s.data[0]'(by show 0 < s.size; omega)).toNat := by simp [byN, ByteArray.get!, getElem!_def, e]
    rw [h0] at this
    congr 1
    exact UInt8.toNat.inj (by rw [← this]; rfl)
  have g1 : s.data.toList[1]? = some 45 := by
    rw [Array.getElem?_toList]
    have e : s.data[1]? = some (s.data[1]'(by show 1 < s.size; omega)) := by simp
    rw [e]
    have : byN s 1 = (s.data[1]'(by show 1 < s.size; omega)).toNat := by simp [byN, ByteArray.get!, getElem!_def, e]
    rw [h1] at this
    congr 1
    exact UInt8.toNat.inj (by rw [← this]; rfl)
  generalize s.data.toList = l at *
  cases l with
  | nil => simp at g0
  | cons a l =>
    cases l with
    | nil => simp at g1
    | cons b l =>
      simp at g0 g1
      subst g0 g1
      simp [Lib.hasPrefix]

theorem ext_get0 (s : ByteArray) (n : Nat) (h : 0 < n) (h' : 0 < s.size) : ((s.extract 0 n).get! 0).toNat = byN s 0 := by
  unfold byN
  have : (s.extract 0 n).data[0]? = s.data[0]? := by
    rw [ByteArray.data_extract, Array.getElem?_extract]
    have hz : s.data.size = s.size := rfl
    rw [if_pos (by rw [hz]; omega)]
  simp only [ByteArray.get!, getElem!_def]
  rw [this]

theorem toks_ref : ∀ (f : Nat) (s : ByteArray) (p : Nat), s.size ≤ f → s.size ≤ 1200 → (toks f s p).map toRT = refT f (R s 0) p
  | 0, s, p, h, _ => rfl
  | f + 1, s, p, h, hb => by
    by_cases h0 : s.size = 0
    · rw [toks_empty _ _ _ h0, R_end s 0 (by omega)]; rfl
    have hp := width_pos s 0
    have hc := R_cons s 0 (by omega)
    rw [Nat.zero_add] at hc
    have hwd := width_le_at s 0 (by omega)
    have hsz : ∀ n, (s.extract n s.size).size = s.size - n := fun n => by simp
    rw [hc]
    conv => lhs; unfold toks
    rw [if_neg h0]
    by_cases hbl : blankB (Utf8.decode s 0).1 = true
    · rw [if_pos hbl, toks_ref f _ _ (by rw [hsz]; omega) (by rw [hsz]; omega), R_tail]
      conv => rhs; unfold refT
      simp only [kind_blank _ hbl]
      simp
    rw [if_neg hbl, dif_pos (ext_le s _ hb)]
    have hw3 : capB (Utf8.decode s 0).1 = true ∨ smallB (Utf8.decode s 0).1 = true → kindRune (Utf8.decode s 0).1 ≤ 3 := by
      rintro (h | h)
      · rw [kind_cap _ h]; decide
      · rw [kind_small _ h]; decide
    by_cases hcap : capB (Utf8.decode s 0).1 = true
    · obtain ⟨w1, w2, w3⟩ := word_ref s (by omega) (hw3 (Or.inl hcap))
      have w0 := scan_pos s (by omega) (hw3 (Or.inl hcap))
      have hf : firstT s = (2, (scan s s.size 0 0).1, (scan s s.size 0 0).2) := by unfold firstT; rw [if_pos hcap]
      rw [List.map_cons, hf]
      simp only
      rw [toks_ref f _ _ (by rw [hsz]; omega) (by rw [hsz]; omega), w3]
      conv => rhs; unfold refT
      simp only [kind_cap _ hcap]
      simp [toRT, kmap, w1, w2]
    by_cases hsm : smallB (Utf8.decode s 0).1 = true
    · obtain ⟨w1, w2, w3⟩ := word_ref s (by omega) (hw3 (Or.inr hsm))
      have w0 := scan_pos s (by omega) (hw3 (Or.inr hsm))
      have hf : firstT s = (1, (scan s s.size 0 0).1, (scan s s.size 0 0).2) := by unfold firstT; rw [if_neg hcap, if_pos hsm]
      rw [List.map_cons, hf]
      simp only
      rw [toks_ref f _ _ (by rw [hsz]; omega) (by rw [hsz]; omega), w3]
      conv => rhs; unfold refT
      simp only [kind_small _ hsm]
      simp [toRT, kmap, w1, w2]
    by_cases hpre : Lib.hasPrefix s.data.toList [58, 45] = true
    · obtain ⟨q1, q2, q3, q4, q5, q6⟩ := turn_ref s hpre
      have hf : firstT s = (7, 2, 2) := by unfold firstT; rw [if_neg hcap, if_neg hsm, if_pos hpre]
      rw [List.map_cons, hf]
      simp only
      rw [toks_ref f _ _ (by rw [hsz]; omega) (by rw [hsz]; omega), R_tail, q1]
      have hc1 := R_cons s 1 (by omega)
      rw [hc1, q2]
      conv => rhs; unfold refT
      simp only [q3, q4]
      simp [toRT, kmap]
    have hf : firstT s = (signK (Utf8.decode s 0).1, (Utf8.decode s 0).2, 1) := by unfold firstT; rw [if_neg hcap, if_neg hsm, if_neg hpre]
    rw [List.map_cons, hf]
    simp only
    rw [toks_ref f _ _ (by rw [hsz]; omega) (by rw [hsz]; omega), R_tail]
    have r58 : kindRune (Utf8.decode s 0).1 = 6 → ¬ ((R s (Utf8.decode s 0).2).head?.map (·.kind)) = some 7 := by
      intro hk h7
      have h58 : (Utf8.decode s 0).1 = 58 := by
        unfold kindRune at hk
        repeat' split at hk
        all_goals first | (cases hk; done) | assumption | omega
      obtain ⟨b0, w0⟩ := decode_ascii s 0 (by omega)
      rw [w0] at h7
      by_cases h1 : 1 < s.size
      · rw [R_cons s 1 h1] at h7
        simp at h7
        have h45 := kind7 _ h7
        obtain ⟨b1, w1⟩ := decode_ascii s 1 (by omega)
        exact hpre (pre_of s (by omega) (by omega) h1)
      · rw [R_end s 1 h1] at h7; simp at h7
    have hsg : (Utf8.decode s 0).1 < 128 → ((s.extract 0 (Utf8.decode s 0).2).get! 0).toNat = (Utf8.decode s 0).1 := by
      intro h
      rw [ext_get0 s _ hp (by omega)]
      exact (decode_ascii s 0 h).1
    conv => rhs; unfold refT
    generalize (Utf8.decode s 0).2 = wd at *
    generalize (Utf8.decode s 0).1 = r at *
    have hcap' : capB r = false := by simpa using hcap
    have hsm' : smallB r = false := by simpa using hsm
    have hbl' : blankB r = false := by simpa using hbl
    have hk : kindRune r = if digB r = true then 3 else if r = 40 ∨ r = 41 ∨ r = 44 ∨ r = 46 then 5 else if r = 58 then 6 else if r = 45 then 7 else 8 := by
      unfold kindRune
      rw [hcap', hsm', hbl']; simp
    by_cases h5 : r = 40 ∨ r = 41 ∨ r = 44 ∨ r = 46
    · have hd : digB r = false := by unfold digB; simp only [decide_eq_false_iff_not]; omega
      have hk5 : kindRune r = 5 := by rw [hk, hd]; simp [h5]
      simp only [hk5]
      have hg := hsg (by omega)
      rcases h5 with rfl | rfl | rfl | rfl <;> simp [toRT, kmap, signK, hg]
    · have hs0 : signK r = 0 := by
        unfold signK
        rw [if_neg (by omega), if_neg (by omega), if_neg (by omega), if_neg (by omega)]
      have hk5 : kindRune r ≠ 1 ∧ kindRune r ≠ 2 ∧ kindRune r ≠ 5 ∧ kindRune r ≠ 4 := by
        rw [hk]
        repeat' split
        all_goals simp
        all_goals omega
      have h67 : ¬ (kindRune r = 6 ∧ ((R s wd).head?.map (·.kind)) = some 7) := fun hh => r58 hh.1 hh.2
      simp only
      rw [if_neg (by omega), if_neg (by omega), if_neg h67, if_neg (by omega), hs0]
      simp [toRT, kmap]

end Go.Proofs.YtjajnhemgphefaaGreatDoor

namespace Go.Proofs.YtjajnhemgphefaaGreatDoor
open Go.RowKit Go.Shelf
set_option linter.unusedVariables false
set_option linter.unusedSimpArgs false

theorem flat_get {α : Type} (f : α → List Value) (k : Nat) (hk : ∀ x, (f x).length = k) : ∀ (l : List α) (j o : Nat) (hj : j < l.length), o < k → (l.flatMap f)[j * k + o]? = (f l[j])[o]?
  | [], j, o, hj, _ => by simp at hj
  | x :: l, 0, o, hj, ho => by
    rw [List.flatMap_cons, List.getElem?_append_left (by rw [hk]; omega)]
    simp
  | x :: l, j + 1, o, hj, ho => by
    have hj' : j < l.length := by simpa using hj
    have e : (j + 1) * k + o = k + (j * k + o) := by rw [Nat.succ_mul]; omega
    rw [List.flatMap_cons, List.getElem?_append_right (by rw [hk, e]; omega), hk, e, Nat.add_sub_cancel_left]
    simpa using flat_get f k hk l j o hj' ho

theorem flat_len {α : Type} (f : α → List Value) (k : Nat) (hk : ∀ x, (f x).length = k) (l : List α) : (l.flatMap f).length = l.length * k := by
  induction l with
  | nil => simp
  | cons x l ih => rw [List.flatMap_cons, List.length_append, hk, ih, List.length_cons, Nat.succ_mul]; omega

/-- The form of an owned row that holds a list. -/
theorem own_form {W : World} {B T k n : Nat} {v : Value} {xs : List Value} (h : W.ownsRow B T k v n xs) : ∃ a c, v = .slice a n c := by
  obtain ⟨_, ⟨hv, hn⟩ | ⟨g, cap, cur, hv, _⟩⟩ := h
  · exact ⟨none, 0, by rw [hv, hn]⟩
  · exact ⟨_, _, hv⟩

theorem own_get {W : World} {B T k : Nat} {v : Value} {α : Type} {f : α → List Value} {l : List α} (h : W.ownsRow B T k v l.length (l.flatMap f)) (hk : ∀ x, (f x).length = k) (hne : 0 < l.length) :
    ∃ g cap, v = .slice (some ⟨g, 0, none⟩) l.length cap ∧ B ≤ g ∧ g < W.heap.size ∧ l.length ≤ cap ∧ ∀ (j o : Nat) (hj : j < l.length) (u : Value), o < k → (f l[j])[o]? = some u → W.cell? ⟨g, j * k + o, none⟩ = some u := by
  obtain ⟨_, ⟨hv, hn⟩ | ⟨g, cap, cur, hv, hb, hw, h1, h2, h3, h4⟩⟩ := h
  · omega
  · refine ⟨g, cap, hv, hb, (Array.getElem?_eq_some_iff.1 hw).1, h1, fun j o hj u ho hu => ?_⟩
    have h5 : (cur.toList.take (l.length * k))[j * k + o]? = some u := by rw [h4, flat_get f k hk l j o hj ho, hu]
    have hlt : j * k + o < l.length * k := by
      have : (j + 1) * k ≤ l.length * k := Nat.mul_le_mul_right k hj
      rw [Nat.succ_mul] at this; omega
    rw [List.getElem?_take, if_pos hlt] at h5
    simp only [World.cell?, hw]
    simpa using h5

/-- An owned row abides what keeps its own block. -/
theorem own_keep {W W' : World} {B T k n : Nat} {v : Value} {xs : List Value} (h : W.ownsRow B T k v n xs) (hk : ∀ g, v.ownBlock = some g → g < W.heap.size → W'.heap[g]? = W.heap[g]?) : W'.ownsRow B T k v n xs := by
  obtain ⟨h0, ⟨hv, hn⟩ | ⟨g, cap, cur, hv, hb, hh, h1, h2, h3, h4⟩⟩ := h
  · exact ⟨h0, .inl ⟨hv, hn⟩⟩
  · exact ⟨h0, .inr ⟨g, cap, cur, hv, hb, (hk g (by rw [hv]; rfl) (Array.getElem?_eq_some_iff.1 hh).1).trans hh, h1, h2, h3, h4⟩⟩

theorem own_below {W W' : World} {B T k n : Nat} {v : Value} {xs : List Value} (h : W.ownsRow B T k v n xs) (hb : Below W.heap.size W W') : W'.ownsRow B T k v n xs := own_keep h (fun g _ hg => hb.block g hg)

theorem own_down {W : World} {B B' T k n : Nat} {v : Value} {xs : List Value} (h : W.ownsRow B T k v n xs) (hB : B' ≤ B) : W.ownsRow B' T k v n xs := by
  obtain ⟨h0, ⟨hv, hn⟩ | ⟨g, cap, cur, hv, hb, hw⟩⟩ := h
  · exact ⟨h0, .inl ⟨hv, hn⟩⟩
  · exact ⟨h0, .inr ⟨g, cap, cur, hv, by omega, hw⟩⟩

theorem four_new (w : World) (x y z u : Value) (t : TypeId) : ∀ j q, [x, y, z, u][j]? = some q → (w.alloc (.cells #[x, y, z, u] t)).cell? ((⟨w.heap.size, 0, none⟩ : Addr).add j) = some q := by
  intro j q hj
  match j, hj with
  | 0, hj => simp at hj; subst hj; simp [Addr.add]
  | 1, hj => simp at hj; subst hj; simp [Addr.add]
  | 2, hj => simp at hj; subst hj; simp [Addr.add]
  | 3, hj => simp at hj; subst hj; simp [Addr.add]
  | j + 4, hj => simp at hj

/-- The first runes of a kind up to 3: how many. -/
theorem tw_go (l : List Rn) : ∀ m, m ≤ (tw l).length → ∀ hm : m < l.length, l[m].kind ≤ 3 → m + 1 ≤ (tw l).length := by
  induction l with
  | nil => intro m _ hm; simp at hm
  | cons x l ih =>
    intro m h hm hk
    unfold tw at h ⊢
    rw [List.takeWhile_cons] at h ⊢
    cases m with
    | zero => rw [if_pos (by simpa using hk)]; simp
    | succ m =>
      split at h
      · rename_i hx
        rw [if_pos hx]
        simp only [List.length_cons] at h ⊢
        have := ih m (by unfold tw; omega) (by simpa using hm) (by simpa using hk)
        unfold tw at this
        omega
      · simp at h

theorem tw_stop (l : List Rn) : ∀ m, m ≤ (tw l).length → (∀ hm : m < l.length, ¬ l[m].kind ≤ 3) → m = (tw l).length := by
  induction l with
  | nil => intro m h _; simpa [tw] using h
  | cons x l ih =>
    intro m h hk
    cases m with
    | zero =>
      have := hk (by simp)
      unfold tw
      rw [List.takeWhile_cons, if_neg (by simpa using this)]
      simp
    | succ m =>
      unfold tw at h ⊢
      rw [List.takeWhile_cons] at h ⊢
      split at h
      · rename_i hx
        rw [if_pos hx]
        simp only [List.length_cons] at h ⊢
        have := ih m (by unfold tw; omega) (fun hm => by have := hk (by simpa using hm); simpa using this)
        unfold tw at this
        omega
      · simp at h

theorem cat_snoc (l : List Rn) (x : Rn) : cat (l ++ [x]) = cat l ++ x.text := by
  induction l with
  | nil =>
    show x.text ++ ByteArray.empty = ByteArray.empty ++ x.text
    simp
  | cons y l ih => simp only [List.cons_append, cat, ih, ByteArray.append_assoc]

theorem refT_fuel : ∀ (f g : Nat) (l : List Rn) (i : Nat), l.length ≤ f → l.length ≤ g → refT f l i = refT g l i
  | 0, g, [], i, _, _ => by cases g <;> rfl
  | 0, g, r :: l, i, h, _ => by simp at h
  | f + 1, 0, [], i, _, _ => rfl
  | f + 1, 0, r :: l, i, _, h => by simp at h
  | f + 1, g + 1, [], i, _, _ => rfl
  | f + 1, g + 1, r :: l, i, h, h' => by
    simp only [List.length_cons] at h h'
    unfold refT
    rw [refT_fuel f g (l.drop (tw l).length) _ (by simp; omega) (by simp; omega), refT_fuel f g l _ (by omega) (by omega), refT_fuel f g (l.drop 1) _ (by simp; omega) (by simp; omega)]

theorem R_size (s : ByteArray) : ∀ (f i : Nat), s.size ≤ i + f → ∀ r ∈ R s i, 1 ≤ r.text.size ∧ r.text.size ≤ 4
  | 0, i, h, r, hr => by rw [R_end s i (by omega)] at hr; cases hr
  | f + 1, i, h, r, hr => by
    by_cases hi : i < s.size
    · have hw := width_le_at s i hi
      have hp := width_pos s i
      have h4 : (Utf8.decode s i).2 ≤ 4 := by
        rw [size_ref]; unfold sizeR
        split
        · decide
        · split
          · decide
          · split <;> decide
      rw [R_cons s i hi] at hr
      rcases List.mem_cons.1 hr with rfl | hr
      · have hz : (s.extract i (i + (Utf8.decode s i).2)).size = (Utf8.decode s i).2 := by simp; omega
        simp only
        rw [hz]; omega
      · exact R_size s f _ (by omega) r hr
    · rw [R_end s i hi] at hr; cases hr

end Go.Proofs.YtjajnhemgphefaaGreatDoor

namespace Go.Proofs.YtjajnhemgphefaaGreatDoor
open Go.RowKit Go.Shelf
set_option linter.unusedVariables false
set_option linter.unusedSimpArgs false

set_option maxHeartbeats 2000000 in
theorem one_any (c : Nat) (w : World) :
    Calls Tryz.prog 173 #[.int .u8 c] w fun e w' => e = .returned (.int .i64 (oneR c)) ∧ w' = w := by
  go_enter Tryz.func173, Tryz.ntmps173
  go_wp2
  all_goals
    go_ret
    exact ⟨ret_int (by unfold oneR; (repeat' split) <;> first | rfl | (exfalso; omega) | (simp at *; done) | (exfalso; simp at *; omega)), rfl⟩

theorem by_get (s : ByteArray) (i : Nat) (h : i < s.size) : s[i].toNat = byN s i := by
  unfold byN
  congr 1
  have h' : i < s.data.size := h
  show s.data[i] = s.data[i]!
  rw [getElem!_pos s.data i h']

set_option maxHeartbeats 2000000 in
theorem follows_any (s : ByteArray) (i lo hi : Nat) (w : World) (hs : s.size ≤ 1048576) (hi' : i ≤ 1048576 + 10) :
    Calls Tryz.prog 220 #[.string s, .int .i64 i, .int .u8 lo, .int .u8 hi] w fun e w' => e = .returned (.bool (folR s i lo hi)) ∧ w' = w := by
  by_cases hlt : i < s.size
  · have hb := by_get s i hlt
    go_enter Tryz.func220, Tryz.ntmps220
    go_wp2
    all_goals
      go_ret
      exact ⟨ret_bool (by rw [Bool.eq_iff_iff]; simp only [folR, decide_eq_true_eq]; (try simp) <;> omega), rfl⟩
  · go_enter Tryz.func220, Tryz.ntmps220
    go_wp2
    go_ret
    exact ⟨ret_bool (by rw [Bool.eq_iff_iff]; simp only [folR, decide_eq_true_eq]; (try simp) <;> omega), rfl⟩

set_option maxHeartbeats 2000000 in
theorem greek_any (a b : Nat) (ha : a < 256) (hb : b < 256) (w : World) :
    Calls Tryz.prog 174 #[.int .u8 a, .int .u8 b] w fun e w' => e = .returned (.int .i64 (greekR a b)) ∧ w' = w := by
  go_enter Tryz.func174, Tryz.ntmps174
  go_wp2
  all_goals
    go_ret
    exact ⟨ret_int (by unfold greekR; (repeat' split) <;> first | rfl | (exfalso; omega) | (simp at *; done) | (exfalso; simp at *; omega)), rfl⟩

end Go.Proofs.YtjajnhemgphefaaGreatDoor

namespace Go.Proofs.YtjajnhemgphefaaGreatDoor
open Go.RowKit Go.Shelf
set_option linter.unusedVariables false
set_option linter.unusedSimpArgs false

def sizeK (c : Nat) (a b d : Bool) : Nat :=
  if 194 ≤ c ∧ c ≤ 223 ∧ a = true then 2 else if 224 ≤ c ∧ c ≤ 239 ∧ a = true ∧ b = true then 3
  else if 240 ≤ c ∧ c ≤ 244 ∧ a = true ∧ b = true ∧ d = true then 4 else 1

set_option maxHeartbeats 4000000 in
theorem size_any (s : ByteArray) (i : Nat) (w : World) (hs : s.size ≤ 1048576) (hi : i < s.size) :
    Calls Tryz.prog 172 #[.string s, .int .i64 i] w fun e w' => e = .returned (.int .i64 (sizeR s i)) ∧ w' = w := by
  have hb := by_get s i hi
  have hfin : sizeR s i = sizeK (byN s i) (folR s (i + 1) (loB (byN s i)) (hiB (byN s i))) (folR s (i + 2) 128 191) (folR s (i + 3) 128 191) := rfl
  have f1 : Calls Tryz.prog 220 #[.string s, .int .i64 ((i : Int) + 1), .int .u8 (loB (byN s i)), .int .u8 (hiB (byN s i))] w fun e w' => e = .returned (.bool (folR s (i + 1) (loB (byN s i)) (hiB (byN s i)))) ∧ w' = w := follows_any s (i + 1) _ _ w hs (by omega)
  have f2 : Calls Tryz.prog 220 #[.string s, .int .i64 ((i : Int) + 2), .int .u8 128, .int .u8 191] w fun e w' => e = .returned (.bool (folR s (i + 2) 128 191)) ∧ w' = w := follows_any s (i + 2) _ _ w hs (by omega)
  have f3 : Calls Tryz.prog 220 #[.string s, .int .i64 ((i : Int) + 3), .int .u8 128, .int .u8 191] w fun e w' => e = .returned (.bool (folR s (i + 3) 128 191)) ∧ w' = w := follows_any s (i + 3) _ _ w hs (by omega)
  rw [hfin]
  clear hfin
  generalize folR s (i + 1) (loB (byN s i)) (hiB (byN s i)) = A at *
  generalize folR s (i + 2) 128 191 = B at *
  generalize folR s (i + 3) 128 191 = D at *
  have hc : byN s i = 224 ∨ byN s i = 237 ∨ byN s i = 240 ∨ byN s i = 244 ∨ (byN s i ≠ 224 ∧ byN s i ≠ 237 ∧ byN s i ≠ 240 ∧ byN s i ≠ 244) := by omega
  generalize byN s i = c at *
  rcases hc with rfl | rfl | rfl | rfl | ⟨n1, n2, n3, n4⟩
  case inr.inr.inr.inr =>
    have l1 : loB c = 128 := by unfold loB; simp [n1, n3]
    have l2 : hiB c = 191 := by unfold hiB; simp [n2, n4]
    rw [l1, l2] at f1
    have m1 : ((c : Int) == 224) = false := by simp; omega
    have m2 : ((c : Int) == 237) = false := by simp; omega
    have m3 : ((c : Int) == 240) = false := by simp; omega
    have m4 : ((c : Int) == 244) = false := by simp; omega
    clear n1 n2 n3 n4
    go_enter Tryz.func172, Tryz.ntmps172
    go_wp2_with fail
    refine f1.mono ?_
    rintro e w' ⟨rfl, rfl⟩
    go_wp2_with fail
    refine f2.mono ?_
    rintro e w' ⟨rfl, rfl⟩
    go_wp2_with fail
    refine f3.mono ?_
    rintro e w' ⟨rfl, rfl⟩
    go_wp2
    all_goals
      go_ret
      exact ⟨ret_int (by unfold sizeK; (repeat' split) <;> first | rfl | (exfalso; simp_all; done) | (exfalso; simp_all; omega)), rfl⟩
  all_goals
    simp only [loB, hiB] at f1
    go_enter Tryz.func172, Tryz.ntmps172
    go_wp2_with fail
    refine f1.mono ?_
    rintro e w' ⟨rfl, rfl⟩
    go_wp2_with fail
    refine f2.mono ?_
    rintro e w' ⟨rfl, rfl⟩
    go_wp2_with fail
    refine f3.mono ?_
    rintro e w' ⟨rfl, rfl⟩
    go_wp2
    all_goals
      go_ret
      exact ⟨ret_int (by unfold sizeK; (repeat' split) <;> first | rfl | (exfalso; simp_all; done) | (exfalso; simp_all; omega)), rfl⟩

end Go.Proofs.YtjajnhemgphefaaGreatDoor

namespace Go.Proofs.YtjajnhemgphefaaGreatDoor
open Go.RowKit Go.Shelf
set_option linter.unusedVariables false
set_option linter.unusedSimpArgs false

theorem below_drewN {B : Nat} {a w : World} (h : Below B a w) {q : Nat} : Below B a (w.drewN q) := ⟨h.os, h.tape, h.output, h.size, h.block⟩
def rnC (r : Rn) : List Value := [.int .i64 r.kind, .string r.text]
theorem Tryz.infoRn : (Tryz.prog.info? 295).map (fun i => (i.zero, i.size, i.bytes)) = some (some (.agg #[.int .i64 0, .string ⟨#[]⟩]), 2, 24) := by kernel_rfl

/-- Two new cells lie where they were put. -/
theorem two_new (w : World) (x y : Value) (t : TypeId) : ∀ j u, [x, y][j]? = some u → (w.alloc (.cells #[x, y] t)).cell? ((⟨w.heap.size, 0, none⟩ : Addr).add j) = some u := by
  intro j u hj
  match j, hj with
  | 0, hj => simp at hj; subst hj; simp [Addr.add]
  | 1, hj => simp at hj; subst hj; simp [Addr.add]
  | j + 2, hj => simp at hj

theorem rn_step {B : Nat} {w wr X w1 : World} {v v' : Value} {pre : List Rn} {k : Nat} {t : ByteArray} (hb : Below B w X) (hX : B ≤ X.heap.size) (hown : wr.ownsRow B 295 2 v pre.length (pre.flatMap rnC))
    (hown' : w1.ownsRow B 295 2 v' (pre.length + 1) (pre.flatMap rnC ++ [.int .i64 k, .string t])) (hg : X.grownBy w1 v.ownBlock) :
    w1.ownsRow B 295 2 v' (pre ++ [Rn.mk k t]).length ((pre ++ [Rn.mk k t]).flatMap rnC) ∧ Below B w w1 := by
  refine ⟨?_, hb.grown hg hX (fun k hk => (hown.lt k hk).1)⟩
  simpa [rnC] using hown'

set_option maxRecDepth 100000 in
set_option maxHeartbeats 4000000 in
theorem runes_any (s : ByteArray) (w : World) (hs : s.size ≤ 1048576) :
    Calls Tryz.prog 106 #[.string s] w fun e w' => ∃ v, e = .returned v ∧ w'.ownsRow w.heap.size 295 2 v (R s 0).length ((R s 0).flatMap rnC) ∧ Below w.heap.size w w' := by
  obtain ⟨i0, hi, hz0, hz1, hz2⟩ := info_parts Tryz.infoRn
  obtain ⟨B, hB⟩ : ∃ B, B = w.heap.size := ⟨_, rfl⟩
  have hBw : B ≤ w.heap.size := by omega
  have HB : Hid (w.heap.size = B) := hB.symm
  rw [← hB]
  clear hB
  go_enter Tryz.func106, Tryz.ntmps106
  go_wp2
  go_loopw [3, 4] (fun v a wr => ∃ (i : Nat) (pre : List Rn) (v1 : Value), v1 = v ∧ a = .int .i64 i ∧ i ≤ s.size ∧ pre ++ R s i = R s 0 ∧ pre.length ≤ i ∧ wr.ownsRow B 295 2 v1 pre.length (pre.flatMap rnC) ∧ Below B w wr)
    (fun _ a _ => s.size - (intOf a).toNat)
  case atStart => exact ⟨0, [], _, rfl, rfl, Nat.zero_le _, rfl, Nat.le_refl _, World.ownsRow_nil _ _ _ _, Below.refl _ _⟩
  case round =>
    obtain ⟨i, pre, v, rfl, rfl, hle, hpre, hpl, hown, hbel⟩ := hrel
    by_cases hlt : i < s.size
    · have hkd := kind_ref s i
      have hsd := size_ref s i
      have hwl := width_le_at s i hlt
      have hwp := width_pos s i
      have hcons := R_cons s i hlt
      have hb := by_get s i hlt
      rw [hsd] at hwl hwp hcons
      rw [← hkd] at hcons
      clear hsd hkd
      have hsz := size_any s i wr hs hlt
      have HC : Hid (R s i = ⟨kindAt s i, s.extract i (i + sizeR s i)⟩ :: R s (i + sizeR s i)) := hcons
      clear hcons
      have hk1 : Hid (sizeR s i = 1 → kindAt s i = oneR (byN s i)) := fun h => by unfold kindAt; rw [if_pos h]
      have hk2 : Hid (sizeR s i = 2 → kindAt s i = greekR (byN s i) (byN s (i + 1))) := fun h => by unfold kindAt; rw [if_neg (by omega), if_pos h]
      have hk3 : Hid (sizeR s i ≠ 1 → sizeR s i ≠ 2 → kindAt s i = 8) := fun h h' => by unfold kindAt; rw [if_neg h, if_neg h']
      have hfin : Hid (∀ (v' : Value) (w1 : World) (kd : Nat) (X : World), kd = kindAt s i → Below B w X → B ≤ X.heap.size → w1.ownsRow B 295 2 v' (pre.length + 1) (pre.flatMap rnC ++ [.int .i64 kd, .string (s.extract i (i + sizeR s i))]) → X.grownBy w1 v.ownBlock →
          ∃ pre' : List Rn, pre' ++ R s (i + sizeR s i) = R s 0 ∧ pre'.length ≤ i + sizeR s i ∧ w1.ownsRow B 295 2 v' pre'.length (pre'.flatMap rnC) ∧ Below B w w1) := by
        intro v' w1 kd X hkd hXb hXs ho hg
        subst hkd
        obtain ⟨a1, a2⟩ := rn_step hXb hXs hown ho hg
        exact ⟨pre ++ [⟨kindAt s i, s.extract i (i + sizeR s i)⟩], by rw [← hpre, HC.out]; simp, by simp; omega, a1, a2⟩
      clear HC hpre
      have hbs : B ≤ wr.heap.size := Nat.le_trans hBw hbel.size
      have HBW : Hid (Below B w wr) := hbel
      clear hbel
      generalize sizeR s i = n at *
      generalize kindAt s i = kd at *
      have hc3 : pre.length + 1 ≤ maxLen := by unfold maxLen; omega
      have hc4 : (pre.length + 1) * 24 ≤ 140737488355328 := by omega
      have hc5 : ∀ o, B ≤ (wr.alloc o).heap.size := fun o => by simp; omega
      have h1c : ∀ (k : Nat) (t : ByteArray), ∀ u ∈ [Value.int .i64 k, .string t], u.oneCell' = true := fun k t => by simp [Value.oneCell']
      by_cases h1 : n = 1
      · subst h1
        have hkv := hk1.out rfl
        subst hkv
        clear hk1 hk2 hk3
        have hon := one_any (byN s i) wr
        generalize oneR (byN s i) = kd at *
        go_wp2_with (first
          | (go_at_call 172; refine hsz.mono ?_; rintro e w' ⟨rfl, hw'⟩; obtain rfl : wr = w' := hw'.symm)
          | (go_at_call 173; refine hon.mono ?_; rintro e w' ⟨rfl, hw'⟩; obtain rfl : wr = w' := hw'.symm)
          | (at_builtin; refine wpList_append_own _ rfl (.tmp 30) (.tmp 39) 207 rfl B 295 i0 (.agg #[.int .i64 0, .string ⟨#[]⟩]) 2 24 Tryz.underlying207 hi hz0 hz1 hz2 rfl (by decide) _ _ _ rfl (hown.alloc _) ⟨wr.heap.size, 0, none⟩ 1 1 [.int .i64 kd, .string (s.extract i (i + 1))] rfl rfl (two_new _ _ _ _) (h1c _ _) hc3 hc4 (hc5 _) ?_; intro v' w1 hown1 hgrow1 _))
        obtain ⟨pre', q1, q2, q3, q4⟩ := hfin.out v' w1 kd _ rfl (HBW.out.alloc hbs _) (hc5 _) hown1 hgrow1
        clear hown1 hgrow1 hfin hown HBW
        go_roundw
        case rel => exact ⟨i + 1, pre', v', rfl, by go_num, by omega, q1, q2, q3, q4⟩
        case measure => simp [intOf]; omega
      by_cases h2 : n = 2
      · subst h2
        have hkv := hk2.out rfl
        subst hkv
        clear hk1 hk2 hk3 h1
        have hb2 := by_get s (i + 1) (by omega)
        have hgk := greek_any (byN s i) (byN s (i + 1)) (byN_lt _ _) (byN_lt _ _)
        generalize greekR (byN s i) (byN s (i + 1)) = kd at *
        have i1 : i + 1 < s.size := by omega
        go_wp2_with (first
          | (go_at_call 172; refine hsz.mono ?_; rintro e w' ⟨rfl, hw'⟩; obtain rfl : wr = w' := hw'.symm))
        go_quiet ((go_at_call 174; exact Calls.quiet_of_same (hgk _)))
        go_wp2_with (first
          | (at_builtin; refine wpList_append_own _ rfl (.tmp 30) (.tmp 39) 207 rfl B 295 i0 (.agg #[.int .i64 0, .string ⟨#[]⟩]) 2 24 Tryz.underlying207 hi hz0 hz1 hz2 rfl (by decide) _ _ _ rfl (World.ownsRow.alloc hown _) ⟨wr.heap.size, 0, none⟩ 1 1 [.int .i64 kd, .string (s.extract i (i + 2))] rfl rfl (two_new _ _ _ _) (h1c _ _) hc3 hc4 (hc5 _) ?_; intro v' w1 hown1 hgrow1 _))
        obtain ⟨pre', q1, q2, q3, q4⟩ := hfin.out v' w1 kd _ rfl ((below_drewN HBW.out).alloc hbs _) (hc5 _) hown1 hgrow1
        clear hown1 hgrow1 hfin hown HBW
        go_roundw
        case rel => exact ⟨i + 2, pre', v', rfl, by go_num, by omega, q1, q2, q3, q4⟩
        case measure => simp [intOf]; omega
      · have hkv := hk3.out h1 h2
        subst hkv
        clear hk1 hk2 hk3
        have m1 : ((n : Int) == 1) = false := by simp; omega
        have m2 : ((n : Int) == 2) = false := by simp; omega
        go_wp2_with (first
          | (go_at_call 172; refine hsz.mono ?_; rintro e w' ⟨rfl, hw'⟩; obtain rfl : wr = w' := hw'.symm)
          | (at_builtin; refine wpList_append_own _ rfl (.tmp 30) (.tmp 39) 207 rfl B 295 i0 (.agg #[.int .i64 0, .string ⟨#[]⟩]) 2 24 Tryz.underlying207 hi hz0 hz1 hz2 rfl (by decide) _ _ _ rfl (hown.alloc _) ⟨wr.heap.size, 0, none⟩ 1 1 [.int .i64 ((8 : Nat) : Int), .string (s.extract i (i + n))] rfl rfl (two_new _ _ _ _) (h1c _ _) hc3 hc4 (hc5 _) ?_; intro v' w1 hown1 hgrow1 _))
        obtain ⟨pre', q1, q2, q3, q4⟩ := hfin.out v' w1 8 _ rfl (HBW.out.alloc hbs _) (hc5 _) hown1 hgrow1
        clear hown1 hgrow1 hfin hown HBW
        go_roundw
        case rel => exact ⟨i + n, pre', v', rfl, by go_num, by omega, q1, q2, q3, q4⟩
        case measure => simp [intOf]; omega
    · rw [R_end s i hlt] at hpre
      simp only [List.append_nil] at hpre
      subst hpre
      go_wp2
      go_ret
      exact ⟨v, rfl, hown, hbel⟩

end Go.Proofs.YtjajnhemgphefaaGreatDoor
