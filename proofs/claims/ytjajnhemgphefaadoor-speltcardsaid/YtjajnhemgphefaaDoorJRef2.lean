/-
  The document's own answer, in plain functions: the runes of a text.
-/
import Derived.Test.YtjajnhemgphefaaDoorJRef
namespace Go.Proofs.YtjajnhemgphefaaDoor
open Go.RowKit
set_option linter.unusedVariables false
set_option linter.unusedSimpArgs false

/-- A rune: its kind, its bytes. -/
structure Rn where
  kind : Nat
  text : ByteArray

/-- The runes of a text, by fuel. -/
def runesF : Nat → ByteArray → List Rn
  | 0, _ => []
  | f + 1, s => if s.size = 0 then [] else ⟨kindRune (Utf8.decode s 0).1, s.extract 0 (Utf8.decode s 0).2⟩ :: runesF f (s.extract (Utf8.decode s 0).2 s.size)

theorem word_kind (r : Nat) : wordR r = decide (kindRune r ≤ 3) := by
  unfold wordR kindRune
  by_cases h1 : smallB r = true
  · simp [h1]
  · by_cases h2 : capB r = true
    · simp [h1, h2]
    · by_cases h3 : digB r = true
      · simp [h1, h2, h3]
      · have e1 : smallB r = false := by simpa using h1
        have e2 : capB r = false := by simpa using h2
        have e3 : digB r = false := by simpa using h3
        simp only [e1, e2, e3, Bool.false_eq_true, if_false, Bool.or_self]
        symm
        simp only [decide_eq_false_iff_not]
        repeat' split
        all_goals omega

theorem runes_empty (f : Nat) (s : ByteArray) (h : s.size = 0) : runesF f s = [] := by
  cases f <;> simp [runesF, h]

theorem width_pos (s : ByteArray) (i : Nat) : 0 < (Utf8.decode s i).2 := by
  rw [size_ref]
  unfold sizeR
  split
  · decide
  · split
    · decide
    · split <;> decide

/-- Fuel enough is enough. -/
theorem runes_fuel : ∀ (f g : Nat) (s : ByteArray), s.size ≤ f → s.size ≤ g → runesF f s = runesF g s
  | 0, g, s, h, _ => by rw [runes_empty _ _ (by omega), runes_empty _ _ (by omega)]
  | f + 1, 0, s, _, h => by rw [runes_empty _ _ (by omega), runes_empty _ _ (by omega)]
  | f + 1, g + 1, s, h, h' => by
    unfold runesF
    split
    · rfl
    · rename_i hn
      have hp := width_pos s 0
      have hz : (s.extract (Utf8.decode s 0).2 s.size).size ≤ s.size - 1 := by simp; omega
      rw [runes_fuel f g _ (by omega) (by omega)]

/-- The runes from a place on. -/
def R (s : ByteArray) (i : Nat) : List Rn := runesF s.size (s.extract i s.size)

theorem ext_ext (s : ByteArray) (i a b : Nat) : (s.extract i s.size).extract a b = s.extract (i + a) (min (i + b) s.size) := by
  apply ByteArray.ext
  simp only [ByteArray.data_extract, Array.extract_extract]

theorem R_end (s : ByteArray) (i : Nat) (h : ¬ i < s.size) : R s i = [] := runes_empty _ _ (by simp; omega)

theorem R_cons (s : ByteArray) (i : Nat) (h : i < s.size) : R s i = ⟨kindRune (Utf8.decode s i).1, s.extract i (i + (Utf8.decode s i).2)⟩ :: R s (i + (Utf8.decode s i).2) := by
  have hd := Lib.tail_decode s i 0
  rw [Nat.add_zero] at hd
  have hw := width_le_at s i h
  have hp := width_pos s i
  obtain ⟨k, hk⟩ : ∃ k, s.size = k + 1 := ⟨s.size - 1, by omega⟩
  have hsz : (s.extract i s.size).size = s.size - i := by simp
  unfold R
  rw [hk]
  conv => lhs; unfold runesF
  rw [← hk, if_neg (by rw [hsz]; omega), hd, ext_ext, ext_ext, Nat.add_zero, hsz, Nat.min_eq_left hw]
  have e : min (i + (s.size - i)) s.size = s.size := by omega
  rw [e]
  congr 1
  exact runes_fuel _ _ _ (by simp <;> omega) (by simp <;> omega)

def tw (l : List Rn) : List Rn := l.takeWhile (fun x => decide (x.kind ≤ 3))
def wlen : List Rn → Nat
  | [] => 0
  | x :: l => x.text.size + wlen l

theorem scan_runes (s : ByteArray) : ∀ (f i m : Nat), s.size ≤ i + f → scan s f i m = (i + wlen (tw (R s i)), m + (tw (R s i)).length)
  | 0, i, m, h => by
    rw [scan_end _ _ _ _ (by omega), R_end s i (by omega)]; simp [tw, wlen]
  | f + 1, i, m, h => by
    by_cases hi : i < s.size
    · have hp := width_pos s i
      have hw := width_le_at s i hi
      by_cases hr : wordR (Utf8.decode s i).1 = true
      · have ih := scan_runes s f (i + (Utf8.decode s i).2) (m + 1) (by omega)
        have hk : kindRune (Utf8.decode s i).1 ≤ 3 := by rw [word_kind] at hr; simpa using hr
        conv => lhs; unfold scan
        rw [if_pos hi, if_pos hr, ih, R_cons s i hi]
        have e : tw (⟨kindRune (Utf8.decode s i).1, s.extract i (i + (Utf8.decode s i).2)⟩ :: R s (i + (Utf8.decode s i).2)) = ⟨kindRune (Utf8.decode s i).1, s.extract i (i + (Utf8.decode s i).2)⟩ :: tw (R s (i + (Utf8.decode s i).2)) := by
          unfold tw
          rw [List.takeWhile_cons, if_pos (by simpa using hk)]
        rw [e]
        have hz : (s.extract i (i + (Utf8.decode s i).2)).size = (Utf8.decode s i).2 := by simp; omega
        simp only [wlen, List.length_cons, hz, Prod.mk.injEq]
        omega
      · have hr' : wordR (Utf8.decode s i).1 = false := by simpa using hr
        have hk : ¬ kindRune (Utf8.decode s i).1 ≤ 3 := by rw [word_kind] at hr'; simpa using hr'
        rw [scan_stop _ _ _ _ hr', R_cons s i hi]
        have e : tw (⟨kindRune (Utf8.decode s i).1, s.extract i (i + (Utf8.decode s i).2)⟩ :: R s (i + (Utf8.decode s i).2)) = [] := by
          unfold tw
          rw [List.takeWhile_cons, if_neg (by simpa using hk)]
        rw [e]; simp [wlen]
    · rw [scan_end _ _ _ _ hi, R_end s i hi]; simp [tw, wlen]

theorem R_tail (s : ByteArray) (n : Nat) : R (s.extract n s.size) 0 = R s n := by
  have hz : (s.extract n s.size).size = s.size - n := by simp
  unfold R
  rw [ext_ext, hz, Nat.add_zero]
  have e : min (n + (s.size - n)) s.size = s.size ∨ ¬ n < s.size := by omega
  rcases e with e | e
  · rw [e]
    exact runes_fuel _ _ _ (by simp) (by simp)
  · rw [runes_empty _ _ (by simp; omega), runes_empty _ _ (by simp; omega)]

theorem R_drop (s : ByteArray) : ∀ (k i : Nat), k ≤ (R s i).length → R s (i + wlen ((R s i).take k)) = (R s i).drop k
  | 0, i, _ => by simp [wlen]
  | k + 1, i, h => by
    by_cases hi : i < s.size
    · have hw := width_le_at s i hi
      have hc := R_cons s i hi
      rw [hc] at h ⊢
      rw [List.take_succ_cons, List.drop_succ_cons]
      have hz : (s.extract i (i + (Utf8.decode s i).2)).size = (Utf8.decode s i).2 := by simp; omega
      have ih := R_drop s k (i + (Utf8.decode s i).2) (by simpa using h)
      simp only [wlen, hz]
      rw [← Nat.add_assoc]
      exact ih
    · rw [R_end s i hi] at h; simp at h

end Go.Proofs.YtjajnhemgphefaaDoor
