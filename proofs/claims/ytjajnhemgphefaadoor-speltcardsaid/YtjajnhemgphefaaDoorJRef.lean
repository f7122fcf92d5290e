/-
  The document's own answer, in plain functions: how many bytes the rune has that begins at a place, and of what kind it is: as Go reads the rune there.
-/
import Derived.Test.YtjajnhemgphefaaDoorJWord
namespace Go.Proofs.YtjajnhemgphefaaDoor
open Go.RowKit
set_option linter.unusedVariables false
set_option linter.unusedSimpArgs false

def byN (s : ByteArray) (i : Nat) : Nat := (s.get! i).toNat
theorem byN_lt (s : ByteArray) (i : Nat) : byN s i < 256 := UInt8.toNat_lt _

def folR (s : ByteArray) (i lo hi : Nat) : Bool := decide (i < s.size ∧ lo ≤ byN s i ∧ byN s i ≤ hi)
def loB (c : Nat) : Nat := if c = 224 then 160 else if c = 240 then 144 else 128
def hiB (c : Nat) : Nat := if c = 237 then 159 else if c = 244 then 143 else 191
def sizeR (s : ByteArray) (i : Nat) : Nat :=
  if 194 ≤ byN s i ∧ byN s i ≤ 223 ∧ folR s (i + 1) (loB (byN s i)) (hiB (byN s i)) = true then 2
  else if 224 ≤ byN s i ∧ byN s i ≤ 239 ∧ folR s (i + 1) (loB (byN s i)) (hiB (byN s i)) = true ∧ folR s (i + 2) 128 191 = true then 3
  else if 240 ≤ byN s i ∧ byN s i ≤ 244 ∧ folR s (i + 1) (loB (byN s i)) (hiB (byN s i)) = true ∧ folR s (i + 2) 128 191 = true ∧ folR s (i + 3) 128 191 = true then 4
  else 1

/-- The rune that begins at a place, and its bytes, by the same bounds. -/
theorem decode_ref (s : ByteArray) (i : Nat) :
    Utf8.decode s i = if byN s i < 128 then (byN s i, 1)
      else if sizeR s i = 2 then ((byN s i % 32) * 64 + byN s (i + 1) % 64, 2)
      else if sizeR s i = 3 then ((byN s i % 16) * 4096 + (byN s (i + 1) % 64) * 64 + byN s (i + 2) % 64, 3)
      else if sizeR s i = 4 then ((byN s i % 8) * 262144 + (byN s (i + 1) % 64) * 4096 + (byN s (i + 2) % 64) * 64 + byN s (i + 3) % 64, 4)
      else (65533, 1) := by
  have h0 := byN_lt s i
  have h1 := byN_lt s (i + 1)
  have h2 := byN_lt s (i + 2)
  have h3 := byN_lt s (i + 3)
  have e : Utf8.decode s i = (if byN s i < 128 then (byN s i, 1)
      else if (byN s i / 32 == 6 && (decide (i + 1 < s.size) && byN s (i + 1) / 64 == 2)) = true then
        (if (byN s i % 32) * 64 + byN s (i + 1) % 64 ≥ 128 then ((byN s i % 32) * 64 + byN s (i + 1) % 64, 2) else (65533, 1))
      else if (byN s i / 16 == 14 && (decide (i + 1 < s.size) && byN s (i + 1) / 64 == 2) && (decide (i + 2 < s.size) && byN s (i + 2) / 64 == 2)) = true then
        (if (decide ((byN s i % 16) * 4096 + (byN s (i + 1) % 64) * 64 + byN s (i + 2) % 64 ≥ 2048) && Utf8.valid (((byN s i % 16) * 4096 + (byN s (i + 1) % 64) * 64 + byN s (i + 2) % 64 : Nat) : Int)) = true then ((byN s i % 16) * 4096 + (byN s (i + 1) % 64) * 64 + byN s (i + 2) % 64, 3) else (65533, 1))
      else if (byN s i / 8 == 30 && (decide (i + 1 < s.size) && byN s (i + 1) / 64 == 2) && (decide (i + 2 < s.size) && byN s (i + 2) / 64 == 2) && (decide (i + 3 < s.size) && byN s (i + 3) / 64 == 2)) = true then
        (if (decide ((byN s i % 8) * 262144 + (byN s (i + 1) % 64) * 4096 + (byN s (i + 2) % 64) * 64 + byN s (i + 3) % 64 ≥ 65536) && Utf8.valid (((byN s i % 8) * 262144 + (byN s (i + 1) % 64) * 4096 + (byN s (i + 2) % 64) * 64 + byN s (i + 3) % 64 : Nat) : Int)) = true then ((byN s i % 8) * 262144 + (byN s (i + 1) % 64) * 4096 + (byN s (i + 2) % 64) * 64 + byN s (i + 3) % 64, 4) else (65533, 1))
      else (65533, 1)) := rfl
  rw [e]
  have hlo : (byN s i = 224 → loB (byN s i) = 160) ∧ (byN s i = 240 → loB (byN s i) = 144) ∧ (byN s i ≠ 224 → byN s i ≠ 240 → loB (byN s i) = 128) := by
    unfold loB; refine ⟨fun h => by simp [h], fun h => by simp [h], fun h h' => by simp [h, h']⟩
  have hhi : (byN s i = 237 → hiB (byN s i) = 159) ∧ (byN s i = 244 → hiB (byN s i) = 143) ∧ (byN s i ≠ 237 → byN s i ≠ 244 → hiB (byN s i) = 191) := by
    unfold hiB; refine ⟨fun h => by simp [h], fun h => by simp [h], fun h h' => by simp [h, h']⟩
  unfold sizeR folR Utf8.valid
  generalize loB (byN s i) = lo at *
  generalize hiB (byN s i) = hi at *
  generalize byN s i = b0 at *
  generalize byN s (i + 1) = b1 at *
  generalize byN s (i + 2) = b2 at *
  generalize byN s (i + 3) = b3 at *
  generalize s.size = n at *
  clear e
  simp only [Bool.and_eq_true, Bool.or_eq_true, decide_eq_true_eq, beq_iff_eq, ge_iff_le]
  by_cases k0 : b0 < 128
  · rw [if_pos k0, if_pos k0]
  rw [if_neg k0, if_neg k0]
  by_cases a2 : 194 ≤ b0 ∧ b0 ≤ 223 ∧ i + 1 < n ∧ lo ≤ b1 ∧ b1 ≤ hi
  · rw [if_pos (by omega), if_pos (by omega)]
    simp [a2]
  by_cases a3 : 224 ≤ b0 ∧ b0 ≤ 239 ∧ (i + 1 < n ∧ lo ≤ b1 ∧ b1 ≤ hi) ∧ i + 2 < n ∧ 128 ≤ b2 ∧ b2 ≤ 191
  · rw [if_neg (by omega), if_pos (by omega), if_pos (by omega)]
    rw [if_neg a2, if_pos a3]
    rfl
  by_cases a4 : 240 ≤ b0 ∧ b0 ≤ 244 ∧ (i + 1 < n ∧ lo ≤ b1 ∧ b1 ≤ hi) ∧ (i + 2 < n ∧ 128 ≤ b2 ∧ b2 ≤ 191) ∧ i + 3 < n ∧ 128 ≤ b3 ∧ b3 ≤ 191
  · rw [if_neg (by omega), if_neg (by omega), if_pos (by omega), if_pos (by omega)]
    rw [if_neg a2, if_neg a3, if_pos a4]
    rfl
  rw [if_neg a2, if_neg a3, if_neg a4]
  show _ = (65533, 1)
  split
  · rw [if_neg (by omega)]
  · split
    · rw [if_neg (by omega)]
    · split
      · rw [if_neg (by omega)]
      · rfl

theorem size_ref (s : ByteArray) (i : Nat) : (Utf8.decode s i).2 = sizeR s i := by
  have h0 := byN_lt s i
  rw [decode_ref]
  by_cases k0 : byN s i < 128
  · rw [if_pos k0]
    unfold sizeR
    rw [if_neg (by omega), if_neg (by omega), if_neg (by omega)]
  rw [if_neg k0]
  have h4 : sizeR s i = 1 ∨ sizeR s i = 2 ∨ sizeR s i = 3 ∨ sizeR s i = 4 := by
    unfold sizeR
    split
    · simp
    · split
      · simp
      · split <;> simp
  rcases h4 with h | h | h | h <;> simp [h]

def oneR (c : Nat) : Nat :=
  if 97 ≤ c ∧ c ≤ 122 then 1 else if 65 ≤ c ∧ c ≤ 90 then 2 else if 48 ≤ c ∧ c ≤ 57 then 3 else if c = 32 ∨ c = 9 ∨ c = 10 then 4
  else if c = 40 ∨ c = 41 ∨ c = 44 ∨ c = 46 then 5 else if c = 58 then 6 else if c = 45 then 7 else 8
def greekR (a b : Nat) : Nat :=
  if 945 ≤ 64 * ((a : Int) - 192) + b - 128 ∧ 64 * ((a : Int) - 192) + b - 128 ≤ 969 then 1
  else if 913 ≤ 64 * ((a : Int) - 192) + b - 128 ∧ 64 * ((a : Int) - 192) + b - 128 ≤ 937 ∧ 64 * ((a : Int) - 192) + b - 128 ≠ 930 then 2 else 8
/-- The kind that the document's answer gives the rune at a place. -/
def kindAt (s : ByteArray) (i : Nat) : Nat :=
  if sizeR s i = 1 then oneR (byN s i) else if sizeR s i = 2 then greekR (byN s i) (byN s (i + 1)) else 8
/-- The kind of a rune. -/
def kindRune (r : Nat) : Nat :=
  if smallB r = true then 1 else if capB r = true then 2 else if digB r = true then 3 else if blankB r = true then 4
  else if r = 40 ∨ r = 41 ∨ r = 44 ∨ r = 46 then 5 else if r = 58 then 6 else if r = 45 then 7 else 8

theorem kindRune_big (r : Nat) (h : 970 ≤ r) : kindRune r = 8 := by
  unfold kindRune smallB capB digB blankB
  simp only [decide_eq_true_eq]
  rw [if_neg (by omega), if_neg (by omega), if_neg (by omega), if_neg (by omega), if_neg (by omega), if_neg (by omega), if_neg (by omega)]

theorem size3 (s : ByteArray) (i : Nat) (h : sizeR s i = 3) : 224 ≤ byN s i ∧ byN s i ≤ 239 ∧ (byN s i = 224 → 160 ≤ byN s (i + 1)) ∧ byN s (i + 1) ≤ 191 ∧ 128 ≤ byN s (i + 1) := by
  have hlo : (byN s i = 224 → loB (byN s i) = 160) ∧ 128 ≤ loB (byN s i) := by
    unfold loB; refine ⟨fun h => by simp [h], ?_⟩; split; decide; split <;> decide
  have hhi : hiB (byN s i) ≤ 191 := by unfold hiB; split; decide; split <;> decide
  unfold sizeR at h
  split at h
  · cases h
  · split at h
    · rename_i _ hb
      obtain ⟨b1, b2, b3, b4⟩ := hb
      unfold folR at b3
      simp only [decide_eq_true_eq] at b3
      omega
    · split at h <;> cases h
theorem size4 (s : ByteArray) (i : Nat) (h : sizeR s i = 4) : 240 ≤ byN s i ∧ byN s i ≤ 244 ∧ (byN s i = 240 → 144 ≤ byN s (i + 1)) ∧ byN s (i + 1) ≤ 191 ∧ 128 ≤ byN s (i + 1) := by
  have hlo : (byN s i = 240 → loB (byN s i) = 144) ∧ 128 ≤ loB (byN s i) := by
    unfold loB; refine ⟨fun h => by simp [h], ?_⟩; split; decide; split <;> decide
  have hhi : hiB (byN s i) ≤ 191 := by unfold hiB; split; decide; split <;> decide
  unfold sizeR at h
  split at h
  · cases h
  · split at h
    · cases h
    · split at h
      · rename_i _ _ hb
        obtain ⟨b1, b2, b3, b4⟩ := hb
        unfold folR at b3
        simp only [decide_eq_true_eq] at b3
        omega
      · cases h

theorem kind_ref (s : ByteArray) (i : Nat) : kindAt s i = kindRune (Utf8.decode s i).1 := by
  have h0 := byN_lt s i
  have h1 := byN_lt s (i + 1)
  have hd := decode_ref s i
  have hs := size_ref s i
  by_cases k0 : byN s i < 128
  · rw [if_pos k0] at hd
    rw [hd] at hs ⊢
    unfold kindAt
    rw [if_pos hs.symm]
    unfold oneR kindRune smallB capB digB blankB
    simp only [decide_eq_true_eq]
    generalize byN s i = c at *
    repeat' split
    all_goals first | rfl | (exfalso; omega)
  rw [if_neg k0] at hd
  have h4 : sizeR s i = 1 ∨ sizeR s i = 2 ∨ sizeR s i = 3 ∨ sizeR s i = 4 := by
    unfold sizeR
    split
    · simp
    · split
      · simp
      · split <;> simp
  rcases h4 with h | h | h | h
  · rw [if_neg (by omega), if_neg (by omega), if_neg (by omega)] at hd
    rw [hd]
    unfold kindAt
    rw [if_pos h, kindRune_big _ (by decide)]
    unfold oneR
    rw [if_neg (by omega), if_neg (by omega), if_neg (by omega), if_neg (by omega), if_neg (by omega), if_neg (by omega), if_neg (by omega)]
  · have hb : 194 ≤ byN s i ∧ byN s i ≤ 223 ∧ folR s (i + 1) (loB (byN s i)) (hiB (byN s i)) = true := by
      apply Classical.byContradiction
      intro hn
      unfold sizeR at h
      rw [if_neg hn] at h
      split at h
      · cases h
      · split at h <;> cases h
    have hf := hb.2.2
    unfold folR at hf
    simp only [decide_eq_true_eq] at hf
    have e1 : loB (byN s i) = 128 := by unfold loB; rw [if_neg (by omega), if_neg (by omega)]
    have e2 : hiB (byN s i) = 191 := by unfold hiB; rw [if_neg (by omega), if_neg (by omega)]
    rw [e1, e2] at hf
    rw [if_pos h] at hd
    rw [hd]
    unfold kindAt
    rw [if_neg (by omega), if_pos h]
    unfold greekR
    have hr : 64 * ((byN s i : Int) - 192) + (byN s (i + 1) : Int) - 128 = ((byN s i % 32 * 64 + byN s (i + 1) % 64 : Nat) : Int) := by omega
    have hlo : 128 ≤ byN s i % 32 * 64 + byN s (i + 1) % 64 := by omega
    rw [hr]
    simp only
    generalize byN s i % 32 * 64 + byN s (i + 1) % 64 = r at *
    clear hr hd hs hf hb h h0 h1 k0 e1 e2
    unfold kindRune smallB capB digB blankB
    simp only [decide_eq_true_eq]
    by_cases c1 : 945 ≤ r ∧ r ≤ 969
    · rw [if_pos (by omega), if_pos (by omega)]
    · rw [if_neg (by omega)]
      by_cases c2 : 913 ≤ r ∧ r ≤ 937 ∧ r ≠ 930
      · rw [if_pos (by omega), if_neg (by omega), if_pos (by omega)]
      · rw [if_neg (by omega), if_neg (by omega), if_neg (by omega), if_neg (by omega), if_neg (by omega), if_neg (by omega), if_neg (by omega), if_neg (by omega)]
  · have hb := size3 s i h
    rw [if_neg (by omega), if_pos h] at hd
    rw [hd]
    unfold kindAt
    rw [if_neg (by omega), if_neg (by omega), kindRune_big _ (by show 970 ≤ byN s i % 16 * 4096 + byN s (i + 1) % 64 * 64 + byN s (i + 2) % 64; omega)]
  · have hb := size4 s i h
    rw [if_neg (by omega), if_neg (by omega), if_pos h] at hd
    rw [hd]
    unfold kindAt
    rw [if_neg (by omega), if_neg (by omega), kindRune_big _ (by show 970 ≤ byN s i % 8 * 262144 + byN s (i + 1) % 64 * 4096 + byN s (i + 2) % 64 * 64 + byN s (i + 3) % 64; omega)]

end Go.Proofs.YtjajnhemgphefaaDoor
