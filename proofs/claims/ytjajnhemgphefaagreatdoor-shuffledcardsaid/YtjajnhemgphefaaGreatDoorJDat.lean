/-
  The document's own tokens, in a plain function over a text's runes, and that they are the program's.
  Rows of the call's own that hold a list of things, each of a fixed number of cells: what lies at which place. (Of any program.)
  Plain data that both sides share: rules, names; texts' numbers; a memory of which only strings were changed.
-/
import Derived.Test.YtjajnhemgphefaaGreatDoorJRef2
import Derived.Lib.ItoaNum
namespace Go.Proofs.YtjajnhemgphefaaGreatDoor
open Go.RowKit Go.Shelf
set_option linter.unusedVariables false
set_option linter.unusedSimpArgs false

structure RT where
  kind : Int
  text : ByteArray
  place : Nat
  runes : Nat

def cat : List Rn → ByteArray
  | [] => ⟨#[]⟩
  | x :: l => x.text ++ cat l

/-- The tokens of the document's answer, by fuel (the last one, the end's, apart). -/
def refT : Nat → List Rn → Nat → List RT
  | 0, _, _ => []
  | f + 1, [], _ => []
  | f + 1, r :: l, i =>
    if r.kind = 1 ∨ r.kind = 2 then ⟨r.kind, r.text ++ cat (tw l), i, 1 + (tw l).length⟩ :: refT f (l.drop (tw l).length) (i + (1 + (tw l).length))
    else if r.kind = 5 then ⟨((r.text.get! 0).toNat : Int), r.text, i, 1⟩ :: refT f l (i + 1)
    else if r.kind = 6 ∧ (l.head?.map (·.kind)) = some 7 then ⟨3, ⟨#[]⟩, i, 2⟩ :: refT f (l.drop 1) (i + 2)
    else if r.kind = 4 then refT f l (i + 1)
    else ⟨5, r.text, i, 1⟩ :: refT f l (i + 1)

def kmap (k : Int) : Int :=
  if k = 1 then 1 else if k = 2 then 2 else if k = 7 then 3 else if k = 3 then 40 else if k = 4 then 41 else if k = 5 then 44 else if k = 6 then 46 else 5
def toRT (t : Tok) : RT := ⟨kmap t.kind, if t.kind = 7 then ⟨#[]⟩ else t.text, t.place, t.runes⟩

theorem ext_join (s : ByteArray) (i j k : Nat) (h1 : i ≤ j) (h2 : j ≤ k) (h3 : k ≤ s.size) : s.extract i j ++ s.extract j k = s.extract i k := by
  apply ByteArray.ext
  rw [ByteArray.data_append]
  simp only [ByteArray.data_extract]
  rw [Array.extract_append_extract]
  congr 1 <;> omega

theorem R_take (s : ByteArray) : ∀ (k i : Nat), k ≤ (R s i).length → i ≤ s.size → cat ((R s i).take k) = s.extract i (i + wlen ((R s i).take k)) ∧ i + wlen ((R s i).take k) ≤ s.size
  | 0, i, _, hi => by
    refine ⟨?_, by simpa [wlen] using hi⟩
    simp only [List.take_zero, cat, wlen, Nat.add_zero]
    apply ByteArray.ext
    simp
  | k + 1, i, h, hi' => by
    by_cases hi : i < s.size
    · have hw := width_le_at s i hi
      have hc := R_cons s i hi
      rw [hc] at h ⊢
      rw [List.take_succ_cons]
      have hz : (s.extract i (i + (Utf8.decode s i).2)).size = (Utf8.decode s i).2 := by simp; omega
      have ih := R_take s k (i + (Utf8.decode s i).2) (by simpa using h) hw
      simp only [wlen, hz, cat]
      rw [ih.1, ← Nat.add_assoc]
      exact ⟨ext_join s _ _ _ (by omega) (by omega) ih.2, ih.2⟩
    · rw [R_end s i hi] at h; simp at h

theorem tw_take (l : List Rn) : tw l = l.take (tw l).length := by
  unfold tw
  induction l with
  | nil => rfl
  | cons x l ih =>
    rw [List.takeWhile_cons]
    split
    · simp only [List.length_cons, List.take_succ_cons]
      rw [← ih]
    · simp

theorem tw_le (l : List Rn) : (tw l).length ≤ l.length := by
  have := congrArg List.length (tw_take l)
  rw [List.length_take] at this
  omega

theorem kind_small (r : Nat) (h : smallB r = true) : kindRune r = 1 := by unfold kindRune; rw [if_pos h]
theorem kind_cap (r : Nat) (h : capB r = true) : kindRune r = 2 := by
  have h2 : smallB r = false := by
    unfold capB at h; unfold smallB
    simp only [decide_eq_true_eq] at h
    simp only [decide_eq_false_iff_not]
    omega
  unfold kindRune
  rw [if_neg (by simp [h2]), if_pos h]
theorem kind_blank (r : Nat) (h : blankB r = true) : kindRune r = 4 := by
  unfold blankB at h
  simp only [decide_eq_true_eq] at h
  unfold kindRune smallB capB digB blankB
  simp only [decide_eq_true_eq]
  rw [if_neg (by omega), if_neg (by omega), if_neg (by omega), if_pos (by omega)]

/-- The first word of a text, as runes. -/
theorem word_ref (s : ByteArray) (h : 0 < s.size) (hw : kindRune (Utf8.decode s 0).1 ≤ 3) :
    (scan s s.size 0 0).2 = 1 + (tw (R s (Utf8.decode s 0).2)).length ∧
    s.extract 0 (scan s s.size 0 0).1 = s.extract 0 (Utf8.decode s 0).2 ++ cat (tw (R s (Utf8.decode s 0).2)) ∧
    R (s.extract (scan s s.size 0 0).1 s.size) 0 = (R s (Utf8.decode s 0).2).drop (tw (R s (Utf8.decode s 0).2)).length := by
  have hc := R_cons s 0 h
  rw [Nat.zero_add] at hc
  have hwd := width_le_at s 0 h
  rw [Nat.zero_add] at hwd
  have ht : tw (R s 0) = ⟨kindRune (Utf8.decode s 0).1, s.extract 0 (Utf8.decode s 0).2⟩ :: tw (R s (Utf8.decode s 0).2) := by
    rw [hc]; unfold tw; rw [List.takeWhile_cons, if_pos (by simpa using hw)]
  have hz : (s.extract 0 (Utf8.decode s 0).2).size = (Utf8.decode s 0).2 := by simp; omega
  have hs := scan_runes s s.size 0 0 (by omega)
  rw [ht] at hs
  simp only [wlen, hz, List.length_cons, Nat.zero_add] at hs
  have h1 := R_take s (tw (R s (Utf8.decode s 0).2)).length (Utf8.decode s 0).2 (tw_le _) hwd
  rw [← tw_take] at h1
  have h2 := R_drop s (tw (R s (Utf8.decode s 0).2)).length (Utf8.decode s 0).2 (tw_le _)
  rw [← tw_take] at h2
  rw [hs]
  refine ⟨by simp only; omega, ?_, ?_⟩
  · rw [h1.1, ext_join s _ _ _ (by omega) (by omega) h1.2]
  · rw [R_tail]; exact h2

theorem ext_le (s : ByteArray) (n : Nat) (h : s.size ≤ 1200) : (s.extract 0 n).size ≤ 1200 := by simp; omega
theorem scan_pos (s : ByteArray) (h : 0 < s.size) (hw : kindRune (Utf8.decode s 0).1 ≤ 3) : 0 < (scan s s.size 0 0).1 := by
  have hc := R_cons s 0 h
  rw [Nat.zero_add] at hc
  have hp := width_pos s 0
  have hwd := width_le_at s 0 h
  have hs := scan_runes s s.size 0 0 (by omega)
  have ht : tw (R s 0) = ⟨kindRune (Utf8.decode s 0).1, s.extract 0 (Utf8.decode s 0).2⟩ :: tw (R s (Utf8.decode s 0).2) := by
    rw [hc]; unfold tw; rw [List.takeWhile_cons, if_pos (by simpa using hw)]
  have hz : (s.extract 0 (Utf8.decode s 0).2).size = (Utf8.decode s 0).2 := by simp; omega
  rw [ht] at hs
  simp only [wlen, hz] at hs
  rw [hs]
  simp only
  omega

theorem turn_ref (s : ByteArray) (h : Lib.hasPrefix s.data.toList [58, 45] = true) : (Utf8.decode s 0).2 = 1 ∧ (Utf8.decode s 1).2 = 1 ∧ kindRune (Utf8.decode s 0).1 = 6 ∧ kindRune (Utf8.decode s 1).1 = 7 ∧ 2 ≤ s.size ∧ True := by
  have h1 : [58, 45] <+: s.data.toList := by simpa [Lib.hasPrefix] using h
  obtain ⟨t, ht⟩ := h1
  have hl : s.data.toList.length = s.size := Array.length_toList
  have hz : 2 ≤ s.size := by rw [← hl, ← ht]; simp
  have b0 : byN s 0 = 58 := by
    have : s.data.toList[0]? = some 58 := by rw [← ht]; rfl
    rw [Array.getElem?_toList] at this
    simp [byN, ByteArray.get!, getElem!_def, this]
  have b1 : byN s 1 = 45 := by
    have : s.data.toList[1]? = some 45 := by rw [← ht]; rfl
    rw [Array.getElem?_toList] at this
    simp [byN, ByteArray.get!, getElem!_def, this]
  have d0 := decode_ref s 0
  have d1 := decode_ref s 1
  rw [b0, if_pos (by decide)] at d0
  rw [b1, if_pos (by decide)] at d1
  rw [d0, d1]
  exact ⟨rfl, rfl, by decide, by decide, hz, trivial⟩

theorem size2 (s : ByteArray) (i : Nat) (h : sizeR s i = 2) : 194 ≤ byN s i ∧ byN s i ≤ 223 := by
  apply Classical.byContradiction
  intro hn
  unfold sizeR at h
  rw [if_neg (by omega)] at h
  split at h
  · cases h
  · split at h <;> cases h

theorem decode_ascii (s : ByteArray) (i : Nat) (h : (Utf8.decode s i).1 < 128) : byN s i = (Utf8.decode s i).1 ∧ (Utf8.decode s i).2 = 1 := by
  have hd := decode_ref s i
  by_cases k0 : byN s i < 128
  · rw [if_pos k0] at hd
    rw [hd]; exact ⟨rfl, rfl⟩
  rw [if_neg k0] at hd
  exfalso
  by_cases h2 : sizeR s i = 2
  · have := size2 s i h2
    rw [if_pos h2] at hd; rw [hd] at h; simp only at h; omega
  rw [if_neg h2] at hd
  by_cases h3 : sizeR s i = 3
  · have := size3 s i h3
    rw [if_pos h3] at hd; rw [hd] at h; simp only at h; omega
  rw [if_neg h3] at hd
  by_cases h4 : sizeR s i = 4
  · have := size4 s i h4
    rw [if_pos h4] at hd; rw [hd] at h; simp only at h; omega
  rw [if_neg h4] at hd
  rw [hd] at h; simp only at h; omega

theorem kind7 (r : Nat) (h : kindRune r = 7) : r = 45 := by
  unfold kindRune at h
  repeat' split at h
  all_goals first | (cases h; done) | assumption | omega

theorem pre_of (s : ByteArray) (h0 : byN s 0 = 58) (h1 : byN s 1 = 45) (h2 : 1 < s.size) : Lib.hasPrefix s.data.toList [58, 45] = true := by
  have hl : s.data.toList.length = s.size := Array.length_toList
  have g0 : s.data.toList[0]? = some 58 := by
    rw [Array.getElem?_toList]
    have e : s.data[0]? = some (s.data[0]'(by show 0 < s.size; omega)) := by simp
    rw [e]
    have : byN s 0 = (s.data[0]'(by show 0 < s.size; omega)).toNat := by simp [byN, ByteArray.get!, getElem!_def, e]
    rw [h0] at this
    congr 1
    exact UInt8.toNat.inj (by rw [← this]; rfl)
  have g1 : s.data.toList[1]? = some 45 := by
    rw [Array.getElem?_toList]
    have e : s.data[1]? = some (s.data[1]'(by show 1 < s.size; omega)) := by simp
    rw [e]
    have : byN s 1 = (s.data[1]'(by show 1 < s.size; omega)).toNat := by simp [byN, ByteArray.get!, getElem!_def, e]
    rw [h1] at this
    congr 1
    exact UInt8.toNat.inj (by rw [← this]; rfl)
  generalize s.data.toList = l at *
  cases l with
  | nil => simp at g0
  | cons a l =>
    cases l with
    | nil => simp at g1
    | cons b l =>
      simp at g0 g1
      subst g0 g1
      simp [Lib.hasPrefix]

theorem ext_get0 (s : ByteArray) (n : Nat) (h : 0 < n) (h' : 0 < s.size) : ((s.extract 0 n).get! 0).toNat = byN s 0 := by
  unfold byN
  have : (s.extract 0 n).data[0]? = s.data[0]? := by
    rw [ByteArray.data_extract, Array.getElem?_extract]
    have hz : s.data.size = s.size := rfl
    rw [if_pos (by rw [hz]; omega)]
  simp only [ByteArray.get!, getElem!_def]
  rw [this]

theorem toks_ref : ∀ (f : Nat) (s : ByteArray) (p : Nat), s.size ≤ f → s.size ≤ 1200 → (toks f s p).map toRT = refT f (R s 0) p
  | 0, s, p, h, _ => rfl
  | f + 1, s, p, h, hb => by
    by_cases h0 : s.size = 0
    · rw [toks_empty _ _ _ h0, R_end s 0 (by omega)]; rfl
    have hp := width_pos s 0
    have hc := R_cons s 0 (by omega)
    rw [Nat.zero_add] at hc
    have hwd := width_le_at s 0 (by omega)
    have hsz : ∀ n, (s.extract n s.size).size = s.size - n := fun n => by simp
    rw [hc]
    conv => lhs; unfold toks
    rw [if_neg h0]
    by_cases hbl : blankB (Utf8.decode s 0).1 = true
    · rw [if_pos hbl, toks_ref f _ _ (by rw [hsz]; omega) (by rw [hsz]; omega), R_tail]
      conv => rhs; unfold refT
      simp only [kind_blank _ hbl]
      simp
    rw [if_neg hbl, dif_pos (ext_le s _ hb)]
    have hw3 : capB (Utf8.decode s 0).1 = true ∨ smallB (Utf8.decode s 0).1 = true → kindRune (Utf8.decode s 0).1 ≤ 3 := by
      rintro (h | h)
      · rw [kind_cap _ h]; decide
      · rw [kind_small _ h]; decide
    by_cases hcap : capB (Utf8.decode s 0).1 = true
    · obtain ⟨w1, w2, w3⟩ := word_ref s (by omega) (hw3 (Or.inl hcap))
      have w0 := scan_pos s (by omega) (hw3 (Or.inl hcap))
      have hf : firstT s = (2, (scan s s.size 0 0).1, (scan s s.size 0 0).2) := by unfold firstT; rw [if_pos hcap]
      rw [List.map_cons, hf]
      simp only
      rw [toks_ref f _ _ (by rw [hsz]; omega) (by rw [hsz]; omega), w3]
      conv => rhs; unfold refT
      simp only [kind_cap _ hcap]
      simp [toRT, kmap, w1, w2]
    by_cases hsm : smallB (Utf8.decode s 0).1 = true
    · obtain ⟨w1, w2, w3⟩ := word_ref s (by omega) (hw3 (Or.inr hsm))
      have w0 := scan_pos s (by omega) (hw3 (Or.inr hsm))
      have hf : firstT s = (1, (scan s s.size 0 0).1, (scan s s.size 0 0).2) := by unfold firstT; rw [if_neg hcap, if_pos hsm]
      rw [List.map_cons, hf]
      simp only
      rw [toks_ref f _ _ (by rw [hsz]; omega) (by rw [hsz]; omega), w3]
      conv => rhs; unfold refT
      simp only [kind_small _ hsm]
      simp [toRT, kmap, w1, w2]
    by_cases hpre : Lib.hasPrefix s.data.toList [58, 45] = true
    · obtain ⟨q1, q2, q3, q4, q5, q6⟩ := turn_ref s hpre
      have hf : firstT s = (7, 2, 2) := by unfold firstT; rw [if_neg hcap, if_neg hsm, if_pos hpre]
      rw [List.map_cons, hf]
      simp only
      rw [toks_ref f _ _ (by rw [hsz]; omega) (by rw [hsz]; omega), R_tail, q1]
      have hc1 := R_cons s 1 (by omega)
      rw [hc1, q2]
      conv => rhs; unfold refT
      simp only [q3, q4]
      simp [toRT, kmap]
    have hf : firstT s = (signK (Utf8.decode s 0).1, (Utf8.decode s 0).2, 1) := by unfold firstT; rw [if_neg hcap, if_neg hsm, if_neg hpre]
    rw [List.map_cons, hf]
    simp only
    rw [toks_ref f _ _ (by rw [hsz]; omega) (by rw [hsz]; omega), R_tail]
    have r58 : kindRune (Utf8.decode s 0).1 = 6 → ¬ ((R s (Utf8.decode s 0).2).head?.map (·.kind)) = some 7 := by
      intro hk h7
      have h58 : (Utf8.decode s 0).1 = 58 := by
        unfold kindRune at hk
        repeat' split at hk
        all_goals first | (cases hk; done) | assumption | omega
      obtain ⟨b0, w0⟩ := decode_ascii s 0 (by omega)
      rw [w0] at h7
      by_cases h1 : 1 < s.size
      · rw [R_cons s 1 h1] at h7
        simp at h7
        have h45 := kind7 _ h7
        obtain ⟨b1, w1⟩ := decode_ascii s 1 (by omega)
        exact hpre (pre_of s (by omega) (by omega) h1)
      · rw [R_end s 1 h1] at h7; simp at h7
    have hsg : (Utf8.decode s 0).1 < 128 → ((s.extract 0 (Utf8.decode s 0).2).get! 0).toNat = (Utf8.decode s 0).1 := by
      intro h
      rw [ext_get0 s _ hp (by omega)]
      exact (decode_ascii s 0 h).1
    conv => rhs; unfold refT
    generalize (Utf8.decode s 0).2 = wd at *
    generalize (Utf8.decode s 0).1 = r at *
    have hcap' : capB r = false := by simpa using hcap
    have hsm' : smallB r = false := by simpa using hsm
    have hbl' : blankB r = false := by simpa using hbl
    have hk : kindRune r = if digB r = true then 3 else if r = 40 ∨ r = 41 ∨ r = 44 ∨ r = 46 then 5 else if r = 58 then 6 else if r = 45 then 7 else 8 := by
      unfold kindRune
      rw [hcap', hsm', hbl']; simp
    by_cases h5 : r = 40 ∨ r = 41 ∨ r = 44 ∨ r = 46
    · have hd : digB r = false := by unfold digB; simp only [decide_eq_false_iff_not]; omega
      have hk5 : kindRune r = 5 := by rw [hk, hd]; simp [h5]
      simp only [hk5]
      have hg := hsg (by omega)
      rcases h5 with rfl | rfl | rfl | rfl <;> simp [toRT, kmap, signK, hg]
    · have hs0 : signK r = 0 := by
        unfold signK
        rw [if_neg (by omega), if_neg (by omega), if_neg (by omega), if_neg (by omega)]
      have hk5 : kindRune r ≠ 1 ∧ kindRune r ≠ 2 ∧ kindRune r ≠ 5 ∧ kindRune r ≠ 4 := by
        rw [hk]
        repeat' split
        all_goals simp
        all_goals omega
      have h67 : ¬ (kindRune r = 6 ∧ ((R s wd).head?.map (·.kind)) = some 7) := fun hh => r58 hh.1 hh.2
      simp only
      rw [if_neg (by omega), if_neg (by omega), if_neg h67, if_neg (by omega), hs0]
      simp [toRT, kmap]

end Go.Proofs.YtjajnhemgphefaaGreatDoor

namespace Go.Proofs.YtjajnhemgphefaaGreatDoor
open Go.RowKit Go.Shelf
set_option linter.unusedVariables false
set_option linter.unusedSimpArgs false

theorem flat_get {α : Type} (f : α → List Value) (k : Nat) (hk : ∀ x, (f x).length = k) : ∀ (l : List α) (j o : Nat) (hj : j < l.length), o < k → (l.flatMap f)[j * k + o]? = (f l[j])[o]?
  | [], j, o, hj, _ => by simp at hj
  | x :: l, 0, o, hj, ho => by
    rw [List.flatMap_cons, List.getElem?_append_left (by rw [hk]; omega)]
    simp
  | x :: l, j + 1, o, hj, ho => by
    have hj' : j < l.length := by simpa using hj
    have e : (j + 1) * k + o = k + (j * k + o) := by rw [Nat.succ_mul]; omega
    rw [List.flatMap_cons, List.getElem?_append_right (by rw [hk, e]; omega), hk, e, Nat.add_sub_cancel_left]
    simpa using flat_get f k hk l j o hj' ho

theorem flat_len {α : Type} (f : α → List Value) (k : Nat) (hk : ∀ x, (f x).length = k) (l : List α) : (l.flatMap f).length = l.length * k := by
  induction l with
  | nil => simp
  | cons x l ih => rw [List.flatMap_cons, List.length_append, hk, ih, List.length_cons, Nat.succ_mul]; omega

/-- The form of an owned row that holds a list. -/
theorem own_form {W : World} {B T k n : Nat} {v : Value} {xs : List Value} (h : W.ownsRow B T k v n xs) : ∃ a c, v = .slice a n c := by
  obtain ⟨_, ⟨hv, hn⟩ | ⟨g, cap, cur, hv, _⟩⟩ := h
  · exact ⟨none, 0, by rw [hv, hn]⟩
  · exact ⟨_, _, hv⟩

theorem own_get {W : World} {B T k : Nat} {v : Value} {α : Type} {f : α → List Value} {l : List α} (h : W.ownsRow B T k v l.length (l.flatMap f)) (hk : ∀ x, (f x).length = k) (hne : 0 < l.length) :
    ∃ g cap, v = .slice (some ⟨g, 0, none⟩) l.length cap ∧ B ≤ g ∧ g < W.heap.size ∧ l.length ≤ cap ∧ ∀ (j o : Nat) (hj : j < l.length) (u : Value), o < k → (f l[j])[o]? = some u → W.cell? ⟨g, j * k + o, none⟩ = some u := by
  obtain ⟨_, ⟨hv, hn⟩ | ⟨g, cap, cur, hv, hb, hw, h1, h2, h3, h4⟩⟩ := h
  · omega
  · refine ⟨g, cap, hv, hb, (Array.getElem?_eq_some_iff.1 hw).1, h1, fun j o hj u ho hu => ?_⟩
    have h5 : (cur.toList.take (l.length * k))[j * k + o]? = some u := by rw [h4, flat_get f k hk l j o hj ho, hu]
    have hlt : j * k + o < l.length * k := by
      have : (j + 1) * k ≤ l.length * k := Nat.mul_le_mul_right k hj
      rw [Nat.succ_mul] at this; omega
    rw [List.getElem?_take, if_pos hlt] at h5
    simp only [World.cell?, hw]
    simpa using h5

/-- An owned row abides what keeps its own block. -/
theorem own_keep {W W' : World} {B T k n : Nat} {v : Value} {xs : List Value} (h : W.ownsRow B T k v n xs) (hk : ∀ g, v.ownBlock = some g → g < W.heap.size → W'.heap[g]? = W.heap[g]?) : W'.ownsRow B T k v n xs := by
  obtain ⟨h0, ⟨hv, hn⟩ | ⟨g, cap, cur, hv, hb, hh, h1, h2, h3, h4⟩⟩ := h
  · exact ⟨h0, .inl ⟨hv, hn⟩⟩
  · exact ⟨h0, .inr ⟨g, cap, cur, hv, hb, (hk g (by rw [hv]; rfl) (Array.getElem?_eq_some_iff.1 hh).1).trans hh, h1, h2, h3, h4⟩⟩

theorem own_below {W W' : World} {B T k n : Nat} {v : Value} {xs : List Value} (h : W.ownsRow B T k v n xs) (hb : Below W.heap.size W W') : W'.ownsRow B T k v n xs := own_keep h (fun g _ hg => hb.block g hg)

theorem own_down {W : World} {B B' T k n : Nat} {v : Value} {xs : List Value} (h : W.ownsRow B T k v n xs) (hB : B' ≤ B) : W.ownsRow B' T k v n xs := by
  obtain ⟨h0, ⟨hv, hn⟩ | ⟨g, cap, cur, hv, hb, hw⟩⟩ := h
  · exact ⟨h0, .inl ⟨hv, hn⟩⟩
  · exact ⟨h0, .inr ⟨g, cap, cur, hv, by omega, hw⟩⟩

/-- What was laid ahead of B lies there still. -/
theorem below_heap {B : Nat} {W W' : World} (h : Below B W W') {k : Nat} (hk : k < B) : W'.heap[k]? = W.heap[k]? := h.block k hk

theorem four_new (w : World) (x y z u : Value) (t : TypeId) : ∀ j q, [x, y, z, u][j]? = some q → (w.alloc (.cells #[x, y, z, u] t)).cell? ((⟨w.heap.size, 0, none⟩ : Addr).add j) = some q := by
  intro j q hj
  match j, hj with
  | 0, hj => simp at hj; subst hj; simp [Addr.add]
  | 1, hj => simp at hj; subst hj; simp [Addr.add]
  | 2, hj => simp at hj; subst hj; simp [Addr.add]
  | 3, hj => simp at hj; subst hj; simp [Addr.add]
  | j + 4, hj => simp at hj

/-- The first runes of a kind up to 3: how many. -/
theorem tw_go (l : List Rn) : ∀ m, m ≤ (tw l).length → ∀ hm : m < l.length, l[m].kind ≤ 3 → m + 1 ≤ (tw l).length := by
  induction l with
  | nil => intro m _ hm; simp at hm
  | cons x l ih =>
    intro m h hm hk
    unfold tw at h ⊢
    rw [List.takeWhile_cons] at h ⊢
    cases m with
    | zero => rw [if_pos (by simpa using hk)]; simp
    | succ m =>
      split at h
      · rename_i hx
        rw [if_pos hx]
        simp only [List.length_cons] at h ⊢
        have := ih m (by unfold tw; omega) (by simpa using hm) (by simpa using hk)
        unfold tw at this
        omega
      · simp at h

theorem tw_stop (l : List Rn) : ∀ m, m ≤ (tw l).length → (∀ hm : m < l.length, ¬ l[m].kind ≤ 3) → m = (tw l).length := by
  induction l with
  | nil => intro m h _; simpa [tw] using h
  | cons x l ih =>
    intro m h hk
    cases m with
    | zero =>
      have := hk (by simp)
      unfold tw
      rw [List.takeWhile_cons, if_neg (by simpa using this)]
      simp
    | succ m =>
      unfold tw at h ⊢
      rw [List.takeWhile_cons] at h ⊢
      split at h
      · rename_i hx
        rw [if_pos hx]
        simp only [List.length_cons] at h ⊢
        have := ih m (by unfold tw; omega) (fun hm => by have := hk (by simpa using hm); simpa using this)
        unfold tw at this
        omega
      · simp at h

theorem cat_snoc (l : List Rn) (x : Rn) : cat (l ++ [x]) = cat l ++ x.text := by
  induction l with
  | nil =>
    show x.text ++ ByteArray.empty = ByteArray.empty ++ x.text
    simp
  | cons y l ih => simp only [List.cons_append, cat, ih, ByteArray.append_assoc]

theorem refT_fuel : ∀ (f g : Nat) (l : List Rn) (i : Nat), l.length ≤ f → l.length ≤ g → refT f l i = refT g l i
  | 0, g, [], i, _, _ => by cases g <;> rfl
  | 0, g, r :: l, i, h, _ => by simp at h
  | f + 1, 0, [], i, _, _ => rfl
  | f + 1, 0, r :: l, i, _, h => by simp at h
  | f + 1, g + 1, [], i, _, _ => rfl
  | f + 1, g + 1, r :: l, i, h, h' => by
    simp only [List.length_cons] at h h'
    unfold refT
    rw [refT_fuel f g (l.drop (tw l).length) _ (by simp; omega) (by simp; omega), refT_fuel f g l _ (by omega) (by omega), refT_fuel f g (l.drop 1) _ (by simp; omega) (by simp; omega)]

theorem R_size (s : ByteArray) : ∀ (f i : Nat), s.size ≤ i + f → ∀ r ∈ R s i, 1 ≤ r.text.size ∧ r.text.size ≤ 4
  | 0, i, h, r, hr => by rw [R_end s i (by omega)] at hr; cases hr
  | f + 1, i, h, r, hr => by
    by_cases hi : i < s.size
    · have hw := width_le_at s i hi
      have hp := width_pos s i
      have h4 : (Utf8.decode s i).2 ≤ 4 := by
        rw [size_ref]; unfold sizeR
        split
        · decide
        · split
          · decide
          · split <;> decide
      rw [R_cons s i hi] at hr
      rcases List.mem_cons.1 hr with rfl | hr
      · have hz : (s.extract i (i + (Utf8.decode s i).2)).size = (Utf8.decode s i).2 := by simp; omega
        simp only
        rw [hz]; omega
      · exact R_size s f _ (by omega) r hr
    · rw [R_end s i hi] at hr; cases hr

end Go.Proofs.YtjajnhemgphefaaGreatDoor

namespace Go.Proofs.YtjajnhemgphefaaGreatDoor
open Go.RowKit Go.Shelf
set_option linter.unusedVariables false
set_option linter.unusedSimpArgs false

def sameB (x y : ByteArray) : Bool := y.toList == x.toList
def seenN (vs : List ByteArray) (x : ByteArray) : Nat := vs.findIdx (sameB x)
def seenL (vs : List ByteArray) (x : ByteArray) : List ByteArray := if seenN vs x < vs.length then vs else vs ++ [x]

/-- An argument: a name, or (its name empty) a variable by its number. -/
structure Tm where
  name : ByteArray
  num : Nat
structure Am where
  rel : ByteArray
  args : List Tm
structure Rl where
  head : Am
  body : List Am

def tmC (t : Tm) : List Value := [.string t.name, .int .i64 t.num]
theorem tmC_len (t : Tm) : (tmC t).length = 2 := rfl

def ruleAms (r : Rl) : List Am := r.head :: r.body
def nmStep (vs : List ByteArray) (t : Tm) : List ByteArray := if t.name.toList.isEmpty = true then vs else seenL vs t.name
def nmL (vs : List ByteArray) (l : List Tm) : List ByteArray := l.foldl nmStep vs
def tmsOf (l : List Am) : List Tm := l.flatMap (·.args)

/-- Blocks below B, and those that hold no strings, are as they were. -/
structure StrOnly (B : Nat) (w w' : World) : Prop where
  os : w'.os = w.os
  tape : w'.tape = w.tape
  output : w'.output = w.output
  size : w.heap.size ≤ w'.heap.size
  block : ∀ k, k < w.heap.size → (k < B ∨ ∀ c fz, w.heap[k]? ≠ some (Obj.cells c 9 fz)) → w'.heap[k]? = w.heap[k]?

theorem StrOnly.refl (B : Nat) (w : World) : StrOnly B w w := ⟨rfl, rfl, rfl, Nat.le_refl _, fun _ _ _ => rfl⟩
theorem StrOnly.trans {B : Nat} {a b c : World} (h : StrOnly B a b) (k : StrOnly B b c) : StrOnly B a c :=
  ⟨k.os.trans h.os, k.tape.trans h.tape, k.output.trans h.output, Nat.le_trans h.size k.size, fun i hi hx => by
    have h1 := h.block i hi hx
    rw [k.block i (Nat.lt_of_lt_of_le hi h.size) (by rw [h1]; exact hx), h1]⟩
theorem StrOnly.alloc {B : Nat} {a b : World} (h : StrOnly B a b) (o : Obj) : StrOnly B a (b.alloc o) :=
  ⟨h.os, h.tape, h.output, by have := h.size; simp; omega, fun i hi hx => (Below.heap_alloc b o i (Nat.lt_of_lt_of_le hi h.size)).trans (h.block i hi hx)⟩
theorem StrOnly.setCell {B : Nat} {a b : World} (h : StrOnly B a b) {p : Addr} (hp : a.heap.size ≤ p.block) (v : Value) : StrOnly B a (b.setCell p v) :=
  ⟨h.os, h.tape, h.output, by have := h.size; simpa using this, fun i hi hx => (Below.heap_setCell b p v i (by omega)).trans (h.block i hi hx)⟩
theorem StrOnly.drew {B : Nat} {a b : World} (h : StrOnly B a b) : StrOnly B a b.drew := ⟨h.os, h.tape, h.output, h.size, h.block⟩
theorem StrOnly.grown {B : Nat} {a b c : World} {row : Option Nat} (h : StrOnly B a b) (hg : b.grownBy c row) (hr : ∀ k, row = some k → a.heap.size ≤ k ∨ (B ≤ k ∧ ∃ d fz, b.heap[k]? = some (Obj.cells d 9 fz))) : StrOnly B a c :=
  ⟨hg.os.trans h.os, hg.tape.trans h.tape, hg.output.trans h.output, Nat.le_trans h.size hg.size, fun i hi hx => by
    have h1 := h.block i hi hx
    rw [hg.block i (Nat.lt_of_lt_of_le hi h.size) (fun e => ?_), h1]
    rcases hr i e.symm with h2 | ⟨h2, d, fz, h3⟩
    · omega
    · rcases hx with hx | hx
      · omega
      · rw [h1] at h3; exact hx d fz h3⟩
theorem own_str {W : World} {B k n : Nat} {T : TypeId} {v : Value} {xs : List Value} (h : W.ownsRow B T k v n xs) : ∀ g, v.ownBlock = some g → B ≤ g ∧ g < W.heap.size ∧ ∃ d fz, W.heap[g]? = some (Obj.cells d T fz) := by
  intro g hg
  obtain ⟨_, ⟨hv, hn⟩ | ⟨g', cap, cur, hv, hb, hh, h1, h2, h3, h4⟩⟩ := h
  · rw [hv] at hg; cases hg
  · rw [hv] at hg; cases hg; exact ⟨hb, (Array.getElem?_eq_some_iff.1 hh).1, cur, _, hh⟩
/-- A row of things other than strings abides. -/
theorem StrOnly.own {B B' k n : Nat} {T : TypeId} {a b : World} {v : Value} {xs : List Value} (h : StrOnly B a b) (hT : T ≠ 9) (ho : a.ownsRow B' T k v n xs) : b.ownsRow B' T k v n xs := by
  refine own_keep ho (fun g hg hlt => h.block g hlt (.inr fun c fz e => ?_))
  obtain ⟨_, _, d, fz', h3⟩ := own_str ho g hg
  rw [e] at h3; cases h3; exact hT rfl

def decS (n : Nat) : ByteArray := ⟨(Lib.decDigits n).toArray⟩

theorem digit_ext (d : Nat) (h : d < 10) : (⟨#[48, 49, 50, 51, 52, 53, 54, 55, 56, 57]⟩ : ByteArray).extract d (d + 1) = ⟨#[UInt8.ofNat (48 + d)]⟩ := by
  have hc : d = 0 ∨ d = 1 ∨ d = 2 ∨ d = 3 ∨ d = 4 ∨ d = 5 ∨ d = 6 ∨ d = 7 ∨ d = 8 ∨ d = 9 := by omega
  rcases hc with rfl | rfl | rfl | rfl | rfl | rfl | rfl | rfl | rfl | rfl <;> rfl

theorem decS_small (n : Nat) (h : n < 10) : decS n = (⟨#[48, 49, 50, 51, 52, 53, 54, 55, 56, 57]⟩ : ByteArray).extract (n % 10) (n % 10 + 1) := by
  rw [digit_ext _ (by omega)]
  unfold decS
  rw [Lib.decDigits_one h, Nat.mod_eq_of_lt h]
theorem decS_great (n : Nat) (h : ¬ n < 10) : decS n = decS (n / 10) ++ (⟨#[48, 49, 50, 51, 52, 53, 54, 55, 56, 57]⟩ : ByteArray).extract (n % 10) (n % 10 + 1) := by
  rw [digit_ext _ (by omega)]
  unfold decS
  conv => lhs; rw [Lib.decDigits, dif_neg h]
  apply ByteArray.ext
  rw [ByteArray.data_append]
  simp
theorem decS_size : ∀ (n : Nat), (decS n).size ≤ n + 1 := by
  intro n
  induction n using Nat.strongRecOn with
  | ind n ih =>
    by_cases h : n < 10
    · unfold decS; rw [Lib.decDigits_one h]; show 1 ≤ n + 1; omega
    · rw [decS_great n h, digit_ext _ (by omega), ByteArray.size_append]
      have h1 := ih (n / 10) (by omega)
      have h2 : (⟨#[UInt8.ofNat (48 + n % 10)]⟩ : ByteArray).size = 1 := rfl
      omega

end Go.Proofs.YtjajnhemgphefaaGreatDoor
