/-
  The document's own tokens, in a plain function over a text's runes, and that they are the program's.
-/
import Derived.Test.YtjajnhemgphefaaDoorJRef2
import Derived.Test.YtjajnhemgphefaaDoorJAll
namespace Go.Proofs.YtjajnhemgphefaaDoor
open Go.RowKit Go.Shelf
set_option linter.unusedVariables false
set_option linter.unusedSimpArgs false

structure RT where
  kind : Int
  text : ByteArray
  place : Nat
  runes : Nat

def cat : List Rn → ByteArray
  | [] => ⟨#[]⟩
  | x :: l => x.text ++ cat l

/-- The tokens of the document's answer, by fuel (the last one, the end's, apart). -/
def refT : Nat → List Rn → Nat → List RT
  | 0, _, _ => []
  | f + 1, [], _ => []
  | f + 1, r :: l, i =>
    if r.kind = 1 ∨ r.kind = 2 then ⟨r.kind, r.text ++ cat (tw l), i, 1 + (tw l).length⟩ :: refT f (l.drop (tw l).length) (i + (1 + (tw l).length))
    else if r.kind = 5 then ⟨((r.text.get! 0).toNat : Int), r.text, i, 1⟩ :: refT f l (i + 1)
    else if r.kind = 6 ∧ (l.head?.map (·.kind)) = some 7 then ⟨3, ⟨#[]⟩, i, 2⟩ :: refT f (l.drop 1) (i + 2)
    else if r.kind = 4 then refT f l (i + 1)
    else ⟨5, r.text, i, 1⟩ :: refT f l (i + 1)

def kmap (k : Int) : Int :=
  if k = 1 then 1 else if k = 2 then 2 else if k = 7 then 3 else if k = 3 then 40 else if k = 4 then 41 else if k = 5 then 44 else if k = 6 then 46 else 5
def toRT (t : Tok) : RT := ⟨kmap t.kind, if t.kind = 7 then ⟨#[]⟩ else t.text, t.place, t.runes⟩

theorem ext_join (s : ByteArray) (i j k : Nat) (h1 : i ≤ j) (h2 : j ≤ k) (h3 : k ≤ s.size) : s.extract i j ++ s.extract j k = s.extract i k := by
  apply ByteArray.ext
  rw [ByteArray.data_append]
  simp only [ByteArray.data_extract]
  rw [Array.extract_append_extract]
  congr 1 <;> omega

theorem R_take (s : ByteArray) : ∀ (k i : Nat), k ≤ (R s i).length → i ≤ s.size → cat ((R s i).take k) = s.extract i (i + wlen ((R s i).take k)) ∧ i + wlen ((R s i).take k) ≤ s.size
  | 0, i, _, hi => by
    refine ⟨?_, by simpa [wlen] using hi⟩
    simp only [List.take_zero, cat, wlen, Nat.add_zero]
    apply ByteArray.ext
    simp
  | k + 1, i, h, hi' => by
    by_cases hi : i < s.size
    · have hw := width_le_at s i hi
      have hc := R_cons s i hi
      rw [hc] at h ⊢
      rw [List.take_succ_cons]
      have hz : (s.extract i (i + (Utf8.decode s i).2)).size = (Utf8.decode s i).2 := by simp; omega
      have ih := R_take s k (i + (Utf8.decode s i).2) (by simpa using h) hw
      simp only [wlen, hz, cat]
      rw [ih.1, ← Nat.add_assoc]
      exact ⟨ext_join s _ _ _ (by omega) (by omega) ih.2, ih.2⟩
    · rw [R_end s i hi] at h; simp at h

theorem tw_take (l : List Rn) : tw l = l.take (tw l).length := by
  unfold tw
  induction l with
  | nil => rfl
  | cons x l ih =>
    rw [List.takeWhile_cons]
    split
    · simp only [List.length_cons, List.take_succ_cons]
      rw [← ih]
    · simp

theorem tw_le (l : List Rn) : (tw l).length ≤ l.length := by
  have := congrArg List.length (tw_take l)
  rw [List.length_take] at this
  omega

theorem kind_small (r : Nat) (h : smallB r = true) : kindRune r = 1 := by unfold kindRune; rw [if_pos h]
theorem kind_cap (r : Nat) (h : capB r = true) : kindRune r = 2 := by
  have h2 : smallB r = false := by
    unfold capB at h; unfold smallB
    simp only [decide_eq_true_eq] at h
    simp only [decide_eq_false_iff_not]
    omega
  unfold kindRune
  rw [if_neg (by simp [h2]), if_pos h]
theorem kind_blank (r : Nat) (h : blankB r = true) : kindRune r = 4 := by
  unfold blankB at h
  simp only [decide_eq_true_eq] at h
  unfold kindRune smallB capB digB blankB
  simp only [decide_eq_true_eq]
  rw [if_neg (by omega), if_neg (by omega), if_neg (by omega), if_pos (by omega)]

/-- The first word of a text, as runes. -/
theorem word_ref (s : ByteArray) (h : 0 < s.size) (hw : kindRune (Utf8.decode s 0).1 ≤ 3) :
    (scan s s.size 0 0).2 = 1 + (tw (R s (Utf8.decode s 0).2)).length ∧
    s.extract 0 (scan s s.size 0 0).1 = s.extract 0 (Utf8.decode s 0).2 ++ cat (tw (R s (Utf8.decode s 0).2)) ∧
    R (s.extract (scan s s.size 0 0).1 s.size) 0 = (R s (Utf8.decode s 0).2).drop (tw (R s (Utf8.decode s 0).2)).length := by
  have hc := R_cons s 0 h
  rw [Nat.zero_add] at hc
  have hwd := width_le_at s 0 h
  rw [Nat.zero_add] at hwd
  have ht : tw (R s 0) = ⟨kindRune (Utf8.decode s 0).1, s.extract 0 (Utf8.decode s 0).2⟩ :: tw (R s (Utf8.decode s 0).2) := by
    rw [hc]; unfold tw; rw [List.takeWhile_cons, if_pos (by simpa using hw)]
  have hz : (s.extract 0 (Utf8.decode s 0).2).size = (Utf8.decode s 0).2 := by simp; omega
  have hs := scan_runes s s.size 0 0 (by omega)
  rw [ht] at hs
  simp only [wlen, hz, List.length_cons, Nat.zero_add] at hs
  have h1 := R_take s (tw (R s (Utf8.decode s 0).2)).length (Utf8.decode s 0).2 (tw_le _) hwd
  rw [← tw_take] at h1
  have h2 := R_drop s (tw (R s (Utf8.decode s 0).2)).length (Utf8.decode s 0).2 (tw_le _)
  rw [← tw_take] at h2
  rw [hs]
  refine ⟨by simp only; omega, ?_, ?_⟩
  · rw [h1.1, ext_join s _ _ _ (by omega) (by omega) h1.2]
  · rw [R_tail]; exact h2

theorem ext_le (s : ByteArray) (n : Nat) (h : s.size ≤ 1200) : (s.extract 0 n).size ≤ 1200 := by simp; omega
theorem scan_pos (s : ByteArray) (h : 0 < s.size) (hw : kindRune (Utf8.decode s 0).1 ≤ 3) : 0 < (scan s s.size 0 0).1 := by
  have hc := R_cons s 0 h
  rw [Nat.zero_add] at hc
  have hp := width_pos s 0
  have hwd := width_le_at s 0 h
  have hs := scan_runes s s.size 0 0 (by omega)
  have ht : tw (R s 0) = ⟨kindRune (Utf8.decode s 0).1, s.extract 0 (Utf8.decode s 0).2⟩ :: tw (R s (Utf8.decode s 0).2) := by
    rw [hc]; unfold tw; rw [List.takeWhile_cons, if_pos (by simpa using hw)]
  have hz : (s.extract 0 (Utf8.decode s 0).2).size = (Utf8.decode s 0).2 := by simp; omega
  rw [ht] at hs
  simp only [wlen, hz] at hs
  rw [hs]
  simp only
  omega

theorem turn_ref (s : ByteArray) (h : Lib.hasPrefix s.data.toList [58, 45] = true) : (Utf8.decode s 0).2 = 1 ∧ (Utf8.decode s 1).2 = 1 ∧ kindRune (Utf8.decode s 0).1 = 6 ∧ kindRune (Utf8.decode s 1).1 = 7 ∧ 2 ≤ s.size ∧ True := by
  have h1 : [58, 45] <+: s.data.toList := by simpa [Lib.hasPrefix] using h
  obtain ⟨t, ht⟩ := h1
  have hl : s.data.toList.length = s.size := Array.length_toList
  have hz : 2 ≤ s.size := by rw [← hl, ← ht]; simp
  have b0 : byN s 0 = 58 := by
    have : s.data.toList[0]? = some 58 := by rw [← ht]; rfl
    rw [Array.getElem?_toList] at this
    simp [byN, ByteArray.get!, getElem!_def, this]
  have b1 : byN s 1 = 45 := by
    have : s.data.toList[1]? = some 45 := by rw [← ht]; rfl
    rw [Array.getElem?_toList] at this
    simp [byN, ByteArray.get!, getElem!_def, this]
  have d0 := decode_ref s 0
  have d1 := decode_ref s 1
  rw [b0, if_pos (by decide)] at d0
  rw [b1, if_pos (by decide)] at d1
  rw [d0, d1]
  exact ⟨rfl, rfl, by decide, by decide, hz, trivial⟩

theorem size2 (s : ByteArray) (i : Nat) (h : sizeR s i = 2) : 194 ≤ byN s i ∧ byN s i ≤ 223 := by
  apply Classical.byContradiction
  intro hn
  unfold sizeR at h
  rw [if_neg (by omega)] at h
  split at h
  · cases h
  · split at h <;> cases h

theorem decode_ascii (s : ByteArray) (i : Nat) (h : (Utf8.decode s i).1 < 128) : byN s i = (Utf8.decode s i).1 ∧ (Utf8.decode s i).2 = 1 := by
  have hd := decode_ref s i
  by_cases k0 : byN s i < 128
  · rw [if_pos k0] at hd
    rw [hd]; exact ⟨rfl, rfl⟩
  rw [if_neg k0] at hd
  exfalso
  by_cases h2 : sizeR s i = 2
  · have := size2 s i h2
    rw [if_pos h2] at hd; rw [hd] at h; simp only at h; omega
  rw [if_neg h2] at hd
  by_cases h3 : sizeR s i = 3
  · have := size3 s i h3
    rw [if_pos h3] at hd; rw [hd] at h; simp only at h; omega
  rw [if_neg h3] at hd
  by_cases h4 : sizeR s i = 4
  · have := size4 s i h4
    rw [if_pos h4] at hd; rw [hd] at h; simp only at h; omega
  rw [if_neg h4] at hd
  rw [hd] at h; simp only at h; omega

theorem kind7 (r : Nat) (h : kindRune r = 7) : r = 45 := by
  unfold kindRune at h
  repeat' split at h
  all_goals first | (cases h; done) | assumption | omega

theorem pre_of (s : ByteArray) (h0 : byN s 0 = 58) (h1 : byN s 1 = 45) (h2 : 1 < s.size) : Lib.hasPrefix s.data.toList [58, 45] = true := by
  have hl : s.data.toList.length = s.size := Array.length_toList
  have g0 : s.data.toList[0]? = some 58 := by
    rw [Array.getElem?_toList]
    have e : s.data[0]? = some (s.data[0]'(by show 0 < s.size; omega)) := by simp
    rw [e]
    have : byN s 0 = (s.data[0]'(by show 0 < s.size; omega)).toNat := by simp [byN, ByteArray.get!, getElem!_def, e]
    rw [h0] at this
    congr 1
    exact UInt8.toNat.inj (by rw [← this]; rfl)
  have g1 : s.data.toList[1]? = some 45 := by
    rw [Array.getElem?_toList]
    have e : s.data[1]? = some (s.data[1]'(by show 1 < s.size; omega)) := by simp
    rw [e]
    have : byN s 1 = (s.data[1]'(by show 1 < s.size; omega)).toNat := by simp [byN, ByteArray.get!, getElem!_def, e]
    rw [h1] at this
    congr 1
    exact UInt8.toNat.inj (by rw [← this]; rfl)
  generalize s.data.toList = l at *
  cases l with
  | nil => simp at g0
  | cons a l =>
    cases l with
    | nil => simp at g1
    | cons b l =>
      simp at g0 g1
      subst g0 g1
      simp [Lib.hasPrefix]

theorem ext_get0 (s : ByteArray) (n : Nat) (h : 0 < n) (h' : 0 < s.size) : ((s.extract 0 n).get! 0).toNat = byN s 0 := by
  unfold byN
  have : (s.extract 0 n).data[0]? = s.data[0]? := by
    rw [ByteArray.data_extract, Array.getElem?_extract]
    have hz : s.data.size = s.size := rfl
    rw [if_pos (by rw [hz]; omega)]
  simp only [ByteArray.get!, getElem!_def]
  rw [this]

theorem toks_ref : ∀ (f : Nat) (s : ByteArray) (p : Nat), s.size ≤ f → s.size ≤ 1200 → (toks f s p).map toRT = refT f (R s 0) p
  | 0, s, p, h, _ => rfl
  | f + 1, s, p, h, hb => by
    by_cases h0 : s.size = 0
    · rw [toks_empty _ _ _ h0, R_end s 0 (by omega)]; rfl
    have hp := width_pos s 0
    have hc := R_cons s 0 (by omega)
    rw [Nat.zero_add] at hc
    have hwd := width_le_at s 0 (by omega)
    have hsz : ∀ n, (s.extract n s.size).size = s.size - n := fun n => by simp
    rw [hc]
    conv => lhs; unfold toks
    rw [if_neg h0]
    by_cases hbl : blankB (Utf8.decode s 0).1 = true
    · rw [if_pos hbl, toks_ref f _ _ (by rw [hsz]; omega) (by rw [hsz]; omega), R_tail]
      conv => rhs; unfold refT
      simp only [kind_blank _ hbl]
      simp
    rw [if_neg hbl, dif_pos (ext_le s _ hb)]
    have hw3 : capB (Utf8.decode s 0).1 = true ∨ smallB (Utf8.decode s 0).1 = true → kindRune (Utf8.decode s 0).1 ≤ 3 := by
      rintro (h | h)
      · rw [kind_cap _ h]; decide
      · rw [kind_small _ h]; decide
    by_cases hcap : capB (Utf8.decode s 0).1 = true
    · obtain ⟨w1, w2, w3⟩ := word_ref s (by omega) (hw3 (Or.inl hcap))
      have w0 := scan_pos s (by omega) (hw3 (Or.inl hcap))
      have hf : firstT s = (2, (scan s s.size 0 0).1, (scan s s.size 0 0).2) := by unfold firstT; rw [if_pos hcap]
      rw [List.map_cons, hf]
      simp only
      rw [toks_ref f _ _ (by rw [hsz]; omega) (by rw [hsz]; omega), w3]
      conv => rhs; unfold refT
      simp only [kind_cap _ hcap]
      simp [toRT, kmap, w1, w2]
    by_cases hsm : smallB (Utf8.decode s 0).1 = true
    · obtain ⟨w1, w2, w3⟩ := word_ref s (by omega) (hw3 (Or.inr hsm))
      have w0 := scan_pos s (by omega) (hw3 (Or.inr hsm))
      have hf : firstT s = (1, (scan s s.size 0 0).1, (scan s s.size 0 0).2) := by unfold firstT; rw [if_neg hcap, if_pos hsm]
      rw [List.map_cons, hf]
      simp only
      rw [toks_ref f _ _ (by rw [hsz]; omega) (by rw [hsz]; omega), w3]
      conv => rhs; unfold refT
      simp only [kind_small _ hsm]
      simp [toRT, kmap, w1, w2]
    by_cases hpre : Lib.hasPrefix s.data.toList [58, 45] = true
    · obtain ⟨q1, q2, q3, q4, q5, q6⟩ := turn_ref s hpre
      have hf : firstT s = (7, 2, 2) := by unfold firstT; rw [if_neg hcap, if_neg hsm, if_pos hpre]
      rw [List.map_cons, hf]
      simp only
      rw [toks_ref f _ _ (by rw [hsz]; omega) (by rw [hsz]; omega), R_tail, q1]
      have hc1 := R_cons s 1 (by omega)
      rw [hc1, q2]
      conv => rhs; unfold refT
      simp only [q3, q4]
      simp [toRT, kmap]
    have hf : firstT s = (signK (Utf8.decode s 0).1, (Utf8.decode s 0).2, 1) := by unfold firstT; rw [if_neg hcap, if_neg hsm, if_neg hpre]
    rw [List.map_cons, hf]
    simp only
    rw [toks_ref f _ _ (by rw [hsz]; omega) (by rw [hsz]; omega), R_tail]
    have r58 : kindRune (Utf8.decode s 0).1 = 6 → ¬ ((R s (Utf8.decode s 0).2).head?.map (·.kind)) = some 7 := by
      intro hk h7
      have h58 : (Utf8.decode s 0).1 = 58 := by
        unfold kindRune at hk
        repeat' split at hk
        all_goals first | (cases hk; done) | assumption | omega
      obtain ⟨b0, w0⟩ := decode_ascii s 0 (by omega)
      rw [w0] at h7
      by_cases h1 : 1 < s.size
      · rw [R_cons s 1 h1] at h7
        simp at h7
        have h45 := kind7 _ h7
        obtain ⟨b1, w1⟩ := decode_ascii s 1 (by omega)
        exact hpre (pre_of s (by omega) (by omega) h1)
      · rw [R_end s 1 h1] at h7; simp at h7
    have hsg : (Utf8.decode s 0).1 < 128 → ((s.extract 0 (Utf8.decode s 0).2).get! 0).toNat = (Utf8.decode s 0).1 := by
      intro h
      rw [ext_get0 s _ hp (by omega)]
      exact (decode_ascii s 0 h).1
    conv => rhs; unfold refT
    generalize (Utf8.decode s 0).2 = wd at *
    generalize (Utf8.decode s 0).1 = r at *
    have hcap' : capB r = false := by simpa using hcap
    have hsm' : smallB r = false := by simpa using hsm
    have hbl' : blankB r = false := by simpa using hbl
    have hk : kindRune r = if digB r = true then 3 else if r = 40 ∨ r = 41 ∨ r = 44 ∨ r = 46 then 5 else if r = 58 then 6 else if r = 45 then 7 else 8 := by
      unfold kindRune
      rw [hcap', hsm', hbl']; simp
    by_cases h5 : r = 40 ∨ r = 41 ∨ r = 44 ∨ r = 46
    · have hd : digB r = false := by unfold digB; simp only [decide_eq_false_iff_not]; omega
      have hk5 : kindRune r = 5 := by rw [hk, hd]; simp [h5]
      simp only [hk5]
      have hg := hsg (by omega)
      rcases h5 with rfl | rfl | rfl | rfl <;> simp [toRT, kmap, signK, hg]
    · have hs0 : signK r = 0 := by
        unfold signK
        rw [if_neg (by omega), if_neg (by omega), if_neg (by omega), if_neg (by omega)]
      have hk5 : kindRune r ≠ 1 ∧ kindRune r ≠ 2 ∧ kindRune r ≠ 5 ∧ kindRune r ≠ 4 := by
        rw [hk]
        repeat' split
        all_goals simp
        all_goals omega
      have h67 : ¬ (kindRune r = 6 ∧ ((R s wd).head?.map (·.kind)) = some 7) := fun hh => r58 hh.1 hh.2
      simp only
      rw [if_neg (by omega), if_neg (by omega), if_neg h67, if_neg (by omega), hs0]
      simp [toRT, kmap]

end Go.Proofs.YtjajnhemgphefaaDoor
