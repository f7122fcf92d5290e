/-
  What holds of the parser's state between two tokens stays.
-/
import Derived.Test.YtpfknibkdiebaaaDoorTake2
namespace Go.Proofs.YtpfknibkdiebaaaDoor
set_option linter.unusedVariables false
set_option linter.unusedSimpArgs false

theorem growLast_length (l : List AAtom) (x : ATerm) : (growLast l x).length = l.length := by
  unfold growLast
  split
  · rename_i a h
    have : l ≠ [] := by intro e; rw [e] at h; simp at h
    have := List.length_pos_iff.2 this
    simp; omega
  · rfl

theorem growLast_ne (l : List AAtom) (x : ATerm) (h : l ≠ []) : growLast l x ≠ [] := by
  intro e
  have := growLast_length l x
  rw [e] at this
  exact h (List.eq_nil_of_length_eq_zero this.symm)

theorem growLast_args (l : List AAtom) (x : ATerm) (h : ∀ a ∈ l, a.args.length ≤ 2) (h2 : lastLen l < 2) : ∀ a ∈ growLast l x, a.args.length ≤ 2 := by
  unfold growLast
  unfold lastLen at h2
  split
  · rename_i b hb
    rw [hb] at h2
    simp at h2
    intro a ha
    rcases List.mem_append.1 ha with ha | ha
    · exact h a (List.dropLast_subset l ha)
    · simp at ha; subst ha; simp; omega
  · exact h

theorem lastLen_le (l : List AAtom) (h : ∀ a ∈ l, a.args.length ≤ 2) : lastLen l ≤ 2 := by
  unfold lastLen
  split
  · rename_i a ha; exact h a (List.mem_of_getLast? ha)
  · omega

theorem takeS_inv (s : PSt) (k : Int) (t : ByteArray) (r : Int) (ht : t.size ≤ 1200) (h : PInv s) (h0 : (takeS s k t r ht).1 = 0) : PInv (takeS s k t r ht).2 := by
  obtain ⟨i1, i2, i3, i4, i5, i6, i7⟩ := h
  unfold takeS at h0 ⊢
  by_cases hf : fitsB s.st k = false
  · rw [if_pos hf] at h0; simp at h0
  rw [if_neg hf] at h0 ⊢
  by_cases he : exceedsB s.st r s.rules.length s.atoms.length (lastLen s.atoms) = true
  · rw [if_pos he] at h0; simp at h0
  rw [if_neg he]
  clear h0
  have hf' : fitsB s.st k = true := by simpa using hf
  have he' : exceedsB s.st r s.rules.length s.atoms.length (lastLen s.atoms) = false := by simpa using he
  clear hf he
  unfold exceedsB at he'
  split at he'
  · cases he'
  show PInv (addS s k t ht)
  unfold fitsB at hf'
  have hl := lastLen_le s.atoms i3
  split at hf'
  · -- st is 0 or 1, a name
    rename_i hst
    obtain rfl : k = 1 := by simpa using hf'
    have : addS s 1 t ht = { s with st := 2, atoms := s.atoms ++ [⟨t, [], ht⟩] } := by
      unfold addS addWordS; rw [if_pos (.inl rfl), if_neg (by omega)]
    rw [this]
    refine ⟨i1, ?_, ?_, fun e => by simp at e, fun _ => by simp, fun _ => ?_, i7⟩
    · simp
      rcases hst with e | e
      · rw [i4 e]; simp
      · simp [e] at he'; omega
    · intro a ha
      simp at ha
      rcases ha with ha | rfl
      · exact i3 a ha
      · simp
    · simp
      rcases hst with e | e
      · simp [e] at he'; omega
      · exact i6 (by omega)
  split at hf'
  · rename_i _ hst
    obtain rfl : k = 3 := by simpa using hf'
    have : addS s 3 t ht = { s with st := 3 } := by unfold addS; simp
    rw [this]
    exact ⟨i1, i2, i3, fun e => by simp at e, fun _ => i5 (by omega), fun _ => i6 (by omega), i7⟩
  split at hf'
  · rename_i _ _ hst
    have hk : k = 1 ∨ k = 2 := by simpa using hf'
    have : addS s k t ht = { s with st := 4, atoms := growLast s.atoms ⟨t, k == 2, ht⟩ } := by
      unfold addS addWordS; rw [if_pos hk, if_pos hst]
    rw [this]
    simp [hst] at he'
    exact ⟨i1, by simp [growLast_length]; exact i2, growLast_args _ _ i3 (by omega), fun e => by simp at e, fun _ => growLast_ne _ _ (i5 (by omega)), fun _ => i6 (by omega), i7⟩
  split at hf'
  · rename_i _ _ _ hst
    have hk : k = 5 ∨ k = 4 := by simpa using hf'
    have hst2 : ∀ x : Int, x ≠ 0 → PInv { s with st := x } := fun x hx => ⟨i1, i2, i3, fun e => absurd e hx, fun _ => i5 (by omega), fun _ => i6 (by omega), i7⟩
    rcases hk with rfl | rfl
    · have : addS s 5 t ht = { s with st := 3 } := by unfold addS; simp [hst]
      rw [this]; exact hst2 3 (by decide)
    · have : addS s 4 t ht = endAtomS s := by unfold addS; simp
      rw [this]; exact hst2 _ (by split <;> decide)
  split at hf'
  · rename_i _ _ _ _ hst
    have hk : k = 7 ∨ k = 6 := by simpa using hf'
    rcases hk with rfl | rfl
    · have : addS s 7 t ht = { s with st := 1 } := by unfold addS; simp
      rw [this]
      exact ⟨i1, i2, i3, fun e => by simp at e, fun _ => i5 (by omega), fun _ => i6 (by omega), i7⟩
    · have : addS s 6 t ht = endRuleS s := by unfold addS; simp
      rw [this]
      have hne := i5 (by omega)
      have hr := i6 (by omega)
      unfold endRuleS
      split
      · rename_i a0 al hal
        rw [hal] at i2 i3
        refine ⟨by simp; omega, by simp, by simp, fun _ => rfl, fun e => absurd rfl e, fun e => absurd rfl e, fun q hq => ?_⟩
        simp at hq
        rcases hq with hq | rfl
        · exact i7 q hq
        · exact ⟨i3 _ (by simp), by simp at i2; exact i2, fun b hb => i3 b (by simp [hb])⟩
      · rename_i e; exact absurd e hne
  split at hf'
  · rename_i _ _ _ _ _ hst
    have hk : k = 5 ∨ k = 6 := by simpa using hf'
    rcases hk with rfl | rfl
    · have : addS s 5 t ht = { s with st := 1 } := by unfold addS; simp [hst]
      rw [this]
      exact ⟨i1, i2, i3, fun e => by simp at e, fun _ => i5 (by omega), fun _ => i6 (by omega), i7⟩
    · have : addS s 6 t ht = endRuleS s := by unfold addS; simp
      rw [this]
      have hne := i5 (by omega)
      have hr := i6 (by omega)
      unfold endRuleS
      split
      · rename_i a0 al hal
        rw [hal] at i2 i3
        refine ⟨by simp; omega, by simp, by simp, fun _ => rfl, fun e => absurd rfl e, fun e => absurd rfl e, fun q hq => ?_⟩
        simp at hq
        rcases hq with hq | rfl
        · exact i7 q hq
        · exact ⟨i3 _ (by simp), by simp at i2; exact i2, fun b hb => i3 b (by simp [hb])⟩
      · rename_i e; exact absurd e hne
  · cases hf'

end Go.Proofs.YtpfknibkdiebaaaDoor
