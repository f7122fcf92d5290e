/-
  The parser against the document's own answer: the first token that is refused is the same.
-/
import Derived.Test.YtjajnhemgphefaaGreatDoorJSim
import Derived.Test.YtjajnhemgphefaaGreatDoorJRefV
namespace Go.Proofs.YtjajnhemgphefaaGreatDoor
set_option linter.unusedVariables false
set_option linter.unusedSimpArgs false

theorem kmap_1 (k : Int) : kmap k = 1 ↔ k = 1 := by unfold kmap; repeat' split
                                                    all_goals omega
theorem kmap_2 (k : Int) : kmap k = 2 ↔ k = 2 := by unfold kmap; repeat' split
                                                    all_goals omega
theorem kmap_3 (k : Int) : kmap k = 3 ↔ k = 7 := by unfold kmap; repeat' split
                                                    all_goals omega
theorem kmap_40 (k : Int) : kmap k = 40 ↔ k = 3 := by unfold kmap; repeat' split
                                                      all_goals omega
theorem kmap_41 (k : Int) : kmap k = 41 ↔ k = 4 := by unfold kmap; repeat' split
                                                      all_goals omega
theorem kmap_44 (k : Int) : kmap k = 44 ↔ k = 5 := by unfold kmap; repeat' split
                                                      all_goals omega
theorem kmap_46 (k : Int) : kmap k = 46 ↔ k = 6 := by unfold kmap; repeat' split
                                                      all_goals omega
theorem kmap_4 (k : Int) : kmap k ≠ 4 := by unfold kmap; repeat' split
                                            all_goals omega

theorem take_bad {s : PSt} {k : Int} {t : ByteArray} {r : Int} (h : fitsB s.st k = false) : takeS s k t r = (2, s) := by unfold takeS; rw [if_pos h]
theorem take_big {s : PSt} {k : Int} {t : ByteArray} {r : Int} (h : fitsB s.st k = true) (h2 : exceedsB s.st r s.rules.length s.atoms.length (lastLen s.atoms) = true) : takeS s k t r = (3, s) := by unfold takeS; rw [h, h2]; rfl
theorem take_add {s : PSt} {k : Int} {t : ByteArray} {r : Int} (h : fitsB s.st k = true) (h2 : exceedsB s.st r s.rules.length s.atoms.length (lastLen s.atoms) = false) : takeS s k t r = (0, addS s k t) := by unfold takeS; rw [h, h2]; rfl

/-- A word's length is any; a sign's is small. -/
def TokFine (x : Tok) : Prop := x.kind = 1 ∨ x.kind = 2 ∨ x.runes ≤ 2

theorem sim_step (s : PSt) (l : Lk) (x : Tok) (h : Same2 s l) (hI : PInv s) (hx : TokFine x) :
    (stepR l (toRT x)).e = (takeS s x.kind x.text x.runes).1 ∧ ((takeS s x.kind x.text x.runes).1 = 0 → Same2 (takeS s x.kind x.text x.runes).2 (stepR l (toRT x))) := by
  obtain ⟨h1, h2, h3, h4, h5, h6, h7, h8, h9, h10, h11, hfive, hsix⟩ := h
  obtain ⟨i1, i2, i3, i4, i5, i6, i7, i8⟩ := hI
  have hkk : (toRT x).kind = kmap x.kind := rfl
  have hrr : (toRT x).runes = x.runes := rfl
  have hcase : s.st = 0 ∨ s.st = 1 ∨ s.st = 2 ∨ s.st = 3 ∨ s.st = 4 ∨ s.st = 5 ∨ s.st = 6 := by omega
  rcases hcase with hs | hs | hs | hs | hs | hs | hs
  · -- a rule may begin
    have hw : l.want = 0 := by rw [h3, hs]; rfl
    have hr : l.rules = s.rules.length := by rw [h6, hs]; simp
    have hstep : stepR l (toRT x) = startsR l (toRT x) := by unfold stepR; simp [hw]
    rw [hstep]
    by_cases hk : x.kind = 1
    · have hf : fitsB s.st x.kind = true := by rw [hs, hk]; rfl
      have hst : startsR l (toRT x) = if overMost l = true ∨ 8 < x.runes then { startsL l with e := 3 } else { startsL l with want := 2 } := by
        unfold startsR; rw [if_neg (by rw [hkk]; have := (kmap_1 x.kind).2 hk; omega)]; simp [hw, hrr]
      by_cases he : exceedsB s.st x.runes s.rules.length s.atoms.length (lastLen s.atoms) = true
      · have ho : overMost l = true ∨ 8 < x.runes := by
          unfold exceedsB at he; unfold overMost
          simp [hs] at he; simp [hw]; omega
        rw [take_big hf he, hst, if_pos ho]
        exact ⟨rfl, fun h => by simp at h⟩
      · have he' : exceedsB s.st x.runes s.rules.length s.atoms.length (lastLen s.atoms) = false := by simpa using he
        have ho : ¬ (overMost l = true ∨ 8 < x.runes) := by
          unfold exceedsB at he'; unfold overMost
          simp [hs] at he'; simp [hw]; omega
        rw [take_add hf he', hst, if_neg ho]
        have hadd := (t01 (.inl hs) (r := x.runes) (by rw [take_add hf he'] : (takeS s x.kind x.text x.runes).1 = 0)).2
        rw [hadd]
        have hsl : startsL l = { l with rules := l.rules + 1, body := false } := by unfold startsL; rw [if_pos hw]
        rw [hsl]
        refine ⟨h1, fun _ => ⟨h1, h2, rfl, by simp, by simp, by simp [hr], fun _ _ => by simp [i4 hs], fun _ h => by simp at h, fun h => by simp at h, fun h => by simp at h, fun _ => by simp [lastLen], fun h => by simp at h, fun h => by simp at h⟩⟩
    · have hf : fitsB s.st x.kind = false := by rw [hs]; unfold fitsB; simp [hk]
      have hst : startsR l (toRT x) = { startsL l with e := 2 } := by
        unfold startsR; rw [if_pos (by rw [hkk, hw]; exact ⟨fun e => hk ((kmap_1 _).1 e), .inr (by decide)⟩)]
      rw [take_bad hf, hst]
      exact ⟨rfl, fun h => by simp at h⟩
  · -- an atom of a body
    have hw : l.want = 1 := by rw [h3, hs]; rfl
    have hr : l.rules = s.rules.length + 1 := by rw [h6, hs]; simp
    have hb := h9 hs
    have ha := h8 (by omega) hb
    have hstep : stepR l (toRT x) = startsR l (toRT x) := by unfold stepR; simp [hw]
    rw [hstep]
    by_cases hk : x.kind = 1
    · have hf : fitsB s.st x.kind = true := by rw [hs, hk]; rfl
      have hst : startsR l (toRT x) = if overMost l = true ∨ 8 < x.runes then { startsL l with e := 3 } else { startsL l with want := 2 } := by
        unfold startsR; rw [if_neg (by rw [hkk]; have := (kmap_1 x.kind).2 hk; omega)]; simp [hw, hrr]
      by_cases he : exceedsB s.st x.runes s.rules.length s.atoms.length (lastLen s.atoms) = true
      · have ho : overMost l = true ∨ 8 < x.runes := by
          unfold exceedsB at he; unfold overMost
          simp [hs] at he; simp [hw]; omega
        rw [take_big hf he, hst, if_pos ho]
        exact ⟨rfl, fun h => by simp at h⟩
      · have he' : exceedsB s.st x.runes s.rules.length s.atoms.length (lastLen s.atoms) = false := by simpa using he
        have ho : ¬ (overMost l = true ∨ 8 < x.runes) := by
          unfold exceedsB at he'; unfold overMost
          simp [hs] at he'; simp [hw]; omega
        rw [take_add hf he', hst, if_neg ho]
        have hadd := (t01 (.inr hs) (r := x.runes) (by rw [take_add hf he'] : (takeS s x.kind x.text x.runes).1 = 0)).2
        rw [hadd]
        have hsl : startsL l = { l with atoms := l.atoms + 1 } := by unfold startsL; rw [if_neg (by omega), if_pos hw]
        rw [hsl]
        refine ⟨h1, fun _ => ⟨h1, h2, rfl, by simp, by simp, by simp [hr], fun _ _ => by simp [hb, i5 (by omega)], fun _ _ => by simp; omega, fun h => by simp at h, fun h => by simp at h, fun _ => by simp [lastLen], fun h => by simp at h, fun h => by simp at h⟩⟩
    · have hf : fitsB s.st x.kind = false := by rw [hs]; unfold fitsB; simp [hk]
      have hst : startsR l (toRT x) = { startsL l with e := 2 } := by
        unfold startsR; rw [if_pos (by rw [hkk, hw]; exact ⟨fun e => hk ((kmap_1 _).1 e), .inr (by decide)⟩)]
      rw [take_bad hf, hst]
      exact ⟨rfl, fun h => by simp at h⟩
  · -- a bracket
    have hw : l.want = 2 := by rw [h3, hs]; rfl
    have hr : l.rules = s.rules.length + 1 := by rw [h6, hs]; simp
    have hstep : stepR l (toRT x) = nextR l (toRT x) := by unfold stepR; simp [hw]
    rw [hstep]
    by_cases hk : x.kind = 3
    · have hf : fitsB s.st x.kind = true := by rw [hs, hk]; rfl
      have he' : exceedsB s.st x.runes s.rules.length s.atoms.length (lastLen s.atoms) = false := by
        have : ¬ (8 : Int) < x.runes := by unfold TokFine at hx; omega
        unfold exceedsB; simp [hs, this]
      rw [take_add hf he']
      have hadd := (t2 hs (r := x.runes) (by rw [take_add hf he'] : (takeS s x.kind x.text x.runes).1 = 0)).2
      rw [hadd]
      have hn : nextR l (toRT x) = { l with args := 0, want := 3 } := by unfold nextR; rw [if_pos ⟨hw, by rw [hkk, kmap_40]; exact hk⟩]
      rw [hn]
      have hf11 := h11 hs
      have h7' := h7 (by omega) (by omega)
      have h8' := h8 (by omega)
      exact ⟨h1, fun _ => ⟨h1, h2, rfl, by simp, by simp, by simp [hr], fun _ _ => h7', fun _ => h8', fun h => by simp at h, fun _ => hf11.symm, fun h => by simp at h, fun h => by simp at h, fun h => by simp at h⟩⟩
    · have hf : fitsB s.st x.kind = false := by rw [hs]; unfold fitsB; simp [hk]
      have hn : nextR l (toRT x) = { l with e := 2 } := by
        unfold nextR; simp only [hw, hkk, kmap_40, hk]; simp
      rw [take_bad hf, hn]
      exact ⟨rfl, fun h => by simp at h⟩
  · -- an argument
    have hw : l.want = 3 := by rw [h3, hs]; rfl
    have hr : l.rules = s.rules.length + 1 := by rw [h6, hs]; simp
    have hg := h10 (.inl hs)
    have h7' := h7 (by omega) (by omega)
    have h8' := h8 (by omega)
    have hstep : stepR l (toRT x) = startsR l (toRT x) := by unfold stepR; simp [hw]
    obtain ⟨p, a, hpa⟩ := split_last s.atoms (i5 (by omega))
    have hl2 : lastLen s.atoms = a.args.length := by unfold lastLen; rw [hpa]; simp
    have ha2 := (i3 a (by rw [hpa]; simp)).args
    rw [hstep]
    by_cases hk : x.kind = 1 ∨ x.kind = 2
    · have hf : fitsB s.st x.kind = true := by rw [hs]; unfold fitsB; simp [hk]
      have hst : startsR l (toRT x) = if overMost l = true ∨ 8 < x.runes then { startsL l with e := 3 } else { startsL l with want := 4 } := by
        unfold startsR; rw [if_neg (by rw [hkk, hw]; have := kmap_1 x.kind; have := kmap_2 x.kind; omega)]; simp [hw, hrr]
      by_cases he : exceedsB s.st x.runes s.rules.length s.atoms.length (lastLen s.atoms) = true
      · have ho : overMost l = true ∨ 8 < x.runes := by
          unfold exceedsB at he; unfold overMost
          simp [hs] at he; simp [hw]; omega
        rw [take_big hf he, hst, if_pos ho]
        exact ⟨rfl, fun h => by simp at h⟩
      · have he' : exceedsB s.st x.runes s.rules.length s.atoms.length (lastLen s.atoms) = false := by simpa using he
        have ho : ¬ (overMost l = true ∨ 8 < x.runes) := by
          unfold exceedsB at he'; unfold overMost
          simp [hs] at he'; simp [hw]; omega
        rw [take_add hf he', hst, if_neg ho]
        have hadd := (t3 hs (r := x.runes) (by rw [take_add hf he'] : (takeS s x.kind x.text x.runes).1 = 0)).2
        rw [hadd]
        have hsl : startsL l = { l with args := l.args + 1 } := by unfold startsL; rw [if_neg (by omega), if_neg (by omega)]
        rw [hsl]
        refine ⟨h1, fun _ => ⟨h1, h2, rfl, by simp, by simp, by simp [hr], fun _ _ => by rw [growLast_length]; exact h7', fun _ => by rw [growLast_length]; exact h8', fun h => by simp at h, fun _ => ?_, fun h => by simp at h, fun h => by simp at h, fun h => by simp at h⟩⟩
        rw [hpa, growLast_split]
        simp [lastLen]; omega
    · have hf : fitsB s.st x.kind = false := by rw [hs]; unfold fitsB; simp; omega
      have hst : startsR l (toRT x) = { startsL l with e := 2 } := by
        unfold startsR; rw [if_pos (by rw [hkk, hw]; have := kmap_1 x.kind; have := kmap_2 x.kind; omega)]
      rw [take_bad hf, hst]
      exact ⟨rfl, fun h => by simp at h⟩
  · -- behind an argument
    have hw : l.want = 4 := by rw [h3, hs]; rfl
    have hr : l.rules = s.rules.length + 1 := by rw [h6, hs]; simp
    have hg := h10 (.inr hs)
    have h7' := h7 (by omega) (by omega)
    have h8' := h8 (by omega)
    have hstep : stepR l (toRT x) = nextR l (toRT x) := by unfold stepR; simp [hw]
    rw [hstep]
    by_cases hk : x.kind = 5 ∨ x.kind = 4
    · have hf : fitsB s.st x.kind = true := by rw [hs]; unfold fitsB; simp [hk]
      have he' : exceedsB s.st x.runes s.rules.length s.atoms.length (lastLen s.atoms) = false := by
        have : ¬ (8 : Int) < x.runes := by unfold TokFine at hx; omega
        unfold exceedsB; simp [hs, this]
      rw [take_add hf he']
      rcases t4 hs (r := x.runes) (by rw [take_add hf he'] : (takeS s x.kind x.text x.runes).1 = 0) with ⟨hk5, hadd⟩ | ⟨hk4, hadd⟩
      · rw [hadd]
        have hn : nextR l (toRT x) = { l with want := 3 } := by unfold nextR; simp [hw, hkk, kmap_44, hk5]
        rw [hn]
        exact ⟨h1, fun _ => ⟨h1, h2, rfl, by simp, by simp, by simp [hr], fun _ _ => h7', fun _ => h8', fun h => by simp at h, fun _ => hg, fun h => by simp at h, fun h => by simp at h, fun h => by simp at h⟩⟩
      · rw [hadd]
        have hn : nextR l (toRT x) = { l with want := 5 } := by unfold nextR; simp [hw, hkk, kmap_41, kmap_44, hk4, h2]
        rw [hn]
        unfold endAtomS
        by_cases h1l : s.atoms.length = 1
        · simp only [if_pos h1l]
          exact ⟨h1, fun _ => ⟨h1, h2, rfl, by simp, by simp, by simp [hr], fun _ _ => h7', fun _ => h8', fun h => by simp at h, fun h => by simp at h, fun h => by simp at h, fun _ => h1l, fun h => by simp at h⟩⟩
        · simp only [if_neg h1l]
          exact ⟨h1, fun _ => ⟨h1, h2, rfl, by simp, by simp, by simp [hr], fun _ _ => h7', fun _ => h8', fun h => by simp at h, fun h => by simp at h, fun h => by simp at h, fun h => by simp at h, fun _ => h1l⟩⟩
    · have hf : fitsB s.st x.kind = false := by rw [hs]; unfold fitsB; simp; omega
      have hn : nextR l (toRT x) = { l with e := 2 } := by
        have hk5 : ¬ x.kind = 5 := by omega
        have hk4 : ¬ x.kind = 4 := by omega
        unfold nextR; simp only [hw, hkk, kmap_44, kmap_41, hk5, hk4]; simp
      rw [take_bad hf, hn]
      exact ⟨rfl, fun h => by simp at h⟩
  · -- behind a head
    have hw : l.want = 5 := by rw [h3, hs]; rfl
    have hr : l.rules = s.rules.length + 1 := by rw [h6, hs]; simp
    have h7' := h7 (by omega) (by omega)
    have h8' := h8 (by omega)
    have hone : s.atoms.length = 1 := hfive hs
    have hb : l.body = false := h7'.2 hone
    have hstep : stepR l (toRT x) = nextR l (toRT x) := by unfold stepR; simp [hw]
    rw [hstep]
    by_cases hk : x.kind = 7 ∨ x.kind = 6
    · have hf : fitsB s.st x.kind = true := by rw [hs]; unfold fitsB; simp [hk]
      have he' : exceedsB s.st x.runes s.rules.length s.atoms.length (lastLen s.atoms) = false := by
        have : ¬ (8 : Int) < x.runes := by unfold TokFine at hx; omega
        unfold exceedsB; simp [hs, this]
      rw [take_add hf he']
      rcases t56 (.inl hs) (r := x.runes) (by rw [take_add hf he'] : (takeS s x.kind x.text x.runes).1 = 0) with ⟨hk6, hadd⟩ | ⟨hk57, hadd⟩
      · rw [hadd]
        have hn : nextR l (toRT x) = { l with want := 0 } := by unfold nextR; simp [hw, hkk, kmap_46, hk6]
        rw [hn]
        obtain ⟨a0, al, hal⟩ : ∃ a0 al, s.atoms = a0 :: al := List.exists_cons_of_ne_nil (i5 (by omega))
        have her : endRuleS s = ⟨0, s.rules ++ [⟨a0, al⟩], [], []⟩ := by unfold endRuleS; rw [hal]
        rw [her]
        exact ⟨h1, fun _ => ⟨h1, h2, rfl, by simp, by simp, by simp [hr], fun h => absurd rfl h, fun h => absurd rfl h, fun h => by simp at h, fun h => by simp at h, fun h => by simp at h, fun h => by simp at h, fun h => by simp at h⟩⟩
      · rw [hadd]
        have hk7 : x.kind = 7 := by omega
        have hn : nextR l (toRT x) = { l with body := true, atoms := 0, want := 1 } := by unfold nextR; simp [hw, hkk, kmap_46, kmap_44, kmap_3, hk7, hb]
        rw [hn]
        exact ⟨h1, fun _ => ⟨h1, h2, rfl, by simp, by simp, by simp [hr], fun _ h => absurd rfl h, fun _ _ => by simpa using hone, fun _ => rfl, fun h => by simp at h, fun h => by simp at h, fun h => by simp at h, fun h => by simp at h⟩⟩
    · have hf : fitsB s.st x.kind = false := by rw [hs]; unfold fitsB; simp; omega
      have hn : nextR l (toRT x) = { l with e := 2 } := by
        have hk6 : ¬ x.kind = 6 := by omega
        have hk7 : ¬ x.kind = 7 := by omega
        unfold nextR; simp only [hw, hkk, kmap_46, kmap_3, hk6, hk7, hb]; simp
      rw [take_bad hf, hn]
      exact ⟨rfl, fun h => by simp at h⟩
  · -- behind an atom of a body
    have hw : l.want = 5 := by rw [h3, hs]; rfl
    have hr : l.rules = s.rules.length + 1 := by rw [h6, hs]; simp
    have h7' := h7 (by omega) (by omega)
    have hmany : s.atoms.length ≠ 1 := hsix hs
    have hb : l.body = true := by
      cases hbb : l.body with
      | true => rfl
      | false => exact absurd (h7'.1 hbb) hmany
    have h8' := h8 (by omega) hb
    have hstep : stepR l (toRT x) = nextR l (toRT x) := by unfold stepR; simp [hw]
    rw [hstep]
    by_cases hk : x.kind = 5 ∨ x.kind = 6
    · have hf : fitsB s.st x.kind = true := by rw [hs]; unfold fitsB; simp [hk]
      have he' : exceedsB s.st x.runes s.rules.length s.atoms.length (lastLen s.atoms) = false := by
        have : ¬ (8 : Int) < x.runes := by unfold TokFine at hx; omega
        unfold exceedsB; simp [hs, this]
      rw [take_add hf he']
      rcases t56 (.inr hs) (r := x.runes) (by rw [take_add hf he'] : (takeS s x.kind x.text x.runes).1 = 0) with ⟨hk6, hadd⟩ | ⟨hk57, hadd⟩
      · rw [hadd]
        have hn : nextR l (toRT x) = { l with want := 0 } := by unfold nextR; simp [hw, hkk, kmap_46, hk6]
        rw [hn]
        obtain ⟨a0, al, hal⟩ : ∃ a0 al, s.atoms = a0 :: al := List.exists_cons_of_ne_nil (i5 (by omega))
        have her : endRuleS s = ⟨0, s.rules ++ [⟨a0, al⟩], [], []⟩ := by unfold endRuleS; rw [hal]
        rw [her]
        exact ⟨h1, fun _ => ⟨h1, h2, rfl, by simp, by simp, by simp [hr], fun h => absurd rfl h, fun h => absurd rfl h, fun h => by simp at h, fun h => by simp at h, fun h => by simp at h, fun h => by simp at h, fun h => by simp at h⟩⟩
      · rw [hadd]
        have hk5 : x.kind = 5 := by omega
        have hn : nextR l (toRT x) = { l with want := 1 } := by unfold nextR; simp [hw, hkk, kmap_46, kmap_44, hk5, hb]
        rw [hn]
        exact ⟨h1, fun _ => ⟨h1, h2, rfl, by simp, by simp, by simp [hr], fun _ h => absurd rfl h, fun _ _ => h8', fun _ => hb, fun h => by simp at h, fun h => by simp at h, fun h => by simp at h, fun h => by simp at h⟩⟩
    · have hf : fitsB s.st x.kind = false := by rw [hs]; unfold fitsB; simp; omega
      have hn : nextR l (toRT x) = { l with e := 2 } := by
        have hk6 : ¬ x.kind = 6 := by omega
        have hk5 : ¬ x.kind = 5 := by omega
        unfold nextR; simp only [hw, hkk, kmap_46, kmap_44, kmap_3, hk6, hk5, hb]; simp
      rw [take_bad hf, hn]
      exact ⟨rfl, fun h => by simp at h⟩

theorem sim_over (E : RT) (hE : E.kind = 4) : ∀ (ts : List Tok) (s : PSt) (l : Lk), Same2 s l → PInv s → (∀ x ∈ ts, TokFine x) →
    match foldP s ts with
    | (_, some ep) => overR l (ts.map toRT ++ [E]) = ep ∧ ep.1 ≠ 0
    | (sF, none) => overR l (ts.map toRT ++ [E]) = if sF.st = 0 then (0, 0) else (2, E.place)
  | [], s, l, h, hI, hx => by
    have hw := h.want
    have h5 := h.hi
    have h4 := h.lo
    simp only [foldP, List.map_nil, List.nil_append]
    unfold overR
    by_cases h0 : s.st = 0
    · have hacc : acceptsB l E = true := by unfold acceptsB; simp [hE, hw, h0, h.alone]
      rw [if_pos hacc, if_pos h0]
    · have hw0 : l.want ≠ 0 := by rw [hw]; split <;> omega
      have hw6 : l.want ≠ 6 := by rw [hw]; split <;> omega
      have he : (stepR l E).e = 2 := by
        unfold stepR
        split
        · unfold startsR; rw [if_pos (by rw [hE]; exact ⟨by decide, .inl (by decide)⟩)]
        · unfold nextR; simp [hE]
      rw [if_neg (by rw [noAcc hw0 hw6]; simp), he, if_pos (by decide), if_neg h0]
  | x :: ts, s, l, h, hI, hx => by
    obtain ⟨q1, q2⟩ := sim_step s l x h hI (hx x List.mem_cons_self)
    have hacc : acceptsB l (toRT x) = false := by
      unfold acceptsB
      have : (toRT x).kind ≠ 4 := kmap_4 _
      simp [this]
    simp only [List.map_cons, List.cons_append]
    have hover : overR l (toRT x :: (ts.map toRT ++ [E])) = if (stepR l (toRT x)).e ≠ 0 then ((stepR l (toRT x)).e, (toRT x).place) else overR (stepR l (toRT x)) (ts.map toRT ++ [E]) := by
      rw [overR, if_neg (by rw [hacc]; simp)]
    rw [hover]
    by_cases h0 : (takeS s x.kind x.text x.runes).1 = 0
    · have hf : foldP s (x :: ts) = foldP (takeS s x.kind x.text x.runes).2 ts := by rw [foldP, if_pos h0]
      rw [hf, q1, if_neg (by rw [h0]; simp)]
      exact sim_over E hE ts _ _ (q2 h0) (takeS_inv s _ _ _ x.ok hI h0) (fun y hy => hx y (List.mem_cons_of_mem _ hy))
    · have hf : foldP s (x :: ts) = (s, some ((takeS s x.kind x.text x.runes).1, x.place)) := by rw [foldP, if_neg h0]
      rw [hf, q1, if_pos h0]
      exact ⟨rfl, h0⟩

end Go.Proofs.YtjajnhemgphefaaGreatDoor
