/-
  The parser against the document's own answer: what it reads is what the document reads.
  The parser against the document's own answer: the first token that is refused is the same.
-/
import Derived.Test.YtjajnhemgphefaaGreatDoorJIdx
import Derived.Test.YtjajnhemgphefaaGreatDoorJRefT
import Derived.Test.YtjajnhemgphefaaGreatDoorJMdD
namespace Go.Proofs.YtjajnhemgphefaaGreatDoor
set_option linter.unusedVariables false
set_option linter.unusedSimpArgs false

/-- What a token that is taken says of the state. -/
theorem take_ok {s : PSt} {k : Int} {t : ByteArray} {r : Int} (h : (takeS s k t r).1 = 0) : fitsB s.st k = true ∧ exceedsB s.st r s.rules.length s.atoms.length (lastLen s.atoms) = false ∧ (takeS s k t r).2 = addS s k t := by
  unfold takeS at h ⊢
  by_cases hf : fitsB s.st k = false
  · rw [if_pos hf] at h; simp at h
  · rw [if_neg hf] at h ⊢
    by_cases he : exceedsB s.st r s.rules.length s.atoms.length (lastLen s.atoms) = true
    · rw [if_pos he] at h; simp at h
    · rw [if_neg he]; exact ⟨by simpa using hf, by simpa using he, rfl⟩

theorem fold_cons {s sF : PSt} {x : Tok} {l : List Tok} (h : foldP s (x :: l) = (sF, none)) : (takeS s x.kind x.text x.runes).1 = 0 ∧ foldP (addS s x.kind x.text) l = (sF, none) := by
  unfold foldP at h
  by_cases h0 : (takeS s x.kind x.text x.runes).1 = 0
  · rw [if_pos h0, (take_ok h0).2.2] at h; exact ⟨h0, h⟩
  · rw [if_neg h0] at h; simp at h

theorem t3 {s : PSt} {k : Int} {t : ByteArray} {r : Int} (hs : s.st = 3) (h : (takeS s k t r).1 = 0) : (k = 1 ∨ k = 2) ∧ addS s k t = { s with st := 4, atoms := growLast s.atoms (termT s.vars k t), vars := termVs s.vars k t } := by
  have hf := (take_ok h).1
  have hk : k = 1 ∨ k = 2 := by unfold fitsB at hf; simp [hs] at hf; exact hf
  exact ⟨hk, by unfold addS addWordS; rw [if_pos hk, if_pos hs]⟩
theorem t4 {s : PSt} {k : Int} {t : ByteArray} {r : Int} (hs : s.st = 4) (h : (takeS s k t r).1 = 0) : (k = 5 ∧ addS s k t = { s with st := 3 }) ∨ (k = 4 ∧ addS s k t = endAtomS s) := by
  have hf := (take_ok h).1
  have hk : k = 5 ∨ k = 4 := by unfold fitsB at hf; simp [hs] at hf; exact hf
  rcases hk with rfl | rfl
  · left; exact ⟨rfl, by unfold addS; simp [hs]⟩
  · right; exact ⟨rfl, by unfold addS; simp⟩
theorem t2 {s : PSt} {k : Int} {t : ByteArray} {r : Int} (hs : s.st = 2) (h : (takeS s k t r).1 = 0) : k = 3 ∧ addS s k t = { s with st := 3 } := by
  have hf := (take_ok h).1
  have hk : k = 3 := by unfold fitsB at hf; simp [hs] at hf; exact hf
  subst hk
  exact ⟨rfl, by unfold addS; simp⟩
theorem t01 {s : PSt} {k : Int} {t : ByteArray} {r : Int} (hs : s.st = 0 ∨ s.st = 1) (h : (takeS s k t r).1 = 0) : k = 1 ∧ addS s k t = { s with st := 2, atoms := s.atoms ++ [⟨t, []⟩] } := by
  have hf := (take_ok h).1
  have hk : k = 1 := by unfold fitsB at hf; rw [if_pos hs] at hf; simpa using hf
  subst hk
  exact ⟨rfl, by unfold addS addWordS; rw [if_pos (.inl rfl), if_neg (by omega)]⟩
theorem t56 {s : PSt} {k : Int} {t : ByteArray} {r : Int} (hs : s.st = 5 ∨ s.st = 6) (h : (takeS s k t r).1 = 0) : (k = 6 ∧ addS s k t = endRuleS s) ∨ ((k = 5 ∨ k = 7) ∧ addS s k t = { s with st := 1 }) := by
  have hf := (take_ok h).1
  rcases hs with hs | hs
  · have hk : k = 7 ∨ k = 6 := by unfold fitsB at hf; simp [hs] at hf; exact hf
    rcases hk with rfl | rfl
    · right; exact ⟨.inr rfl, by unfold addS; simp⟩
    · left; exact ⟨rfl, by unfold addS; simp⟩
  · have hk : k = 5 ∨ k = 6 := by unfold fitsB at hf; simp [hs] at hf; exact hf
    rcases hk with rfl | rfl
    · right; exact ⟨.inl rfl, by unfold addS; simp [hs]⟩
    · left; exact ⟨rfl, by unfold addS; simp⟩

theorem argT_term (vs : List ByteArray) (x : Tok) (h : x.kind = 1 ∨ x.kind = 2) : argT vs (toRT x) = termT vs x.kind x.text ∧ argVs vs (toRT x) = termVs vs x.kind x.text := by
  unfold argT argVs termT termVs toRT
  rcases h with h | h <;> simp [h, kmap]

def endSt (n : Nat) : Int := if n = 1 then 5 else 6

theorem args_fold (E : RT) : ∀ (n : Nat) (ts : List Tok) (s sF : PSt) (p : List Am) (a : Am), ts.length ≤ n → s.st = 3 → s.atoms = p ++ [a] → foldP s ts = (sF, none) → sF.st = 0 →
    ∃ L vsF k, argsR s.vars (ts.map toRT ++ [E]) = some (L, vsF, k) ∧ k ≤ ts.length ∧ 2 ≤ k ∧ foldP { s with st := endSt (p.length + 1), atoms := p ++ [{ a with args := a.args ++ L }], vars := vsF } (ts.drop k) = (sF, none)
  | n, [], s, sF, p, a, hn, hs, ha, h, hF => by simp [foldP] at h; subst h; omega
  | n, [x], s, sF, p, a, hn, hs, ha, h, hF => by
    obtain ⟨h1, h2⟩ := fold_cons h
    obtain ⟨hk, he⟩ := t3 hs h1
    rw [he] at h2
    simp [foldP] at h2; subst h2; simp at hF
  | 0, x :: y :: us, s, sF, p, a, hn, hs, ha, h, hF => by simp at hn
  | n + 1, x :: y :: us, s, sF, p, a, hn, hs, ha, h, hF => by
    obtain ⟨h1, h2⟩ := fold_cons h
    obtain ⟨hk, he⟩ := t3 hs h1
    rw [he, ha, growLast_split] at h2
    obtain ⟨e1, e2⟩ := argT_term s.vars x hk
    obtain ⟨h3, h4⟩ := fold_cons h2
    rcases t4 rfl h3 with ⟨hy, he2⟩ | ⟨hy, he2⟩
    · rw [he2] at h4
      obtain ⟨L, vsF, k, q1, q2, q3, q4⟩ := args_fold E n us { s with st := 3, atoms := p ++ [{ a with args := a.args ++ [termT s.vars x.kind x.text] }], vars := termVs s.vars x.kind x.text } sF p { a with args := a.args ++ [termT s.vars x.kind x.text] } (by simp at hn; omega) rfl rfl h4 hF
      refine ⟨termT s.vars x.kind x.text :: L, vsF, k + 2, ?_, by simp; omega, by omega, ?_⟩
      · simp only [List.map_cons, List.cons_append]
        unfold argsR
        have hb : (toRT y).kind ≠ 41 := by show kmap y.kind ≠ 41; rw [hy]; decide
        rw [if_neg hb, e1, e2, q1]
      · simp only [List.drop_succ_cons]
        simpa using q4
    · rw [he2] at h4
      refine ⟨[termT s.vars x.kind x.text], termVs s.vars x.kind x.text, 2, ?_, by simp, by omega, ?_⟩
      · simp only [List.map_cons, List.cons_append]
        unfold argsR
        have hb : (toRT y).kind = 41 := by unfold toRT; rw [hy]; rfl
        rw [if_pos hb, e1, e2]
      · simp only [List.drop_succ_cons, List.drop_zero]
        simpa [endAtomS, endSt] using h4

theorem toRT_name {x : Tok} (h : x.kind = 1) : (toRT x).text = x.text := by unfold toRT; simp [h]

theorem body_fold (E : RT) : ∀ (f : Nat) (ts : List Tok) (s sF : PSt) (a : Am) (l : List Am), ts.length < f → (s.st = 5 ∨ s.st = 6) → s.atoms = a :: l → foldP s ts = (sF, none) → sF.st = 0 →
    ∃ bs m, bodyR f s.vars (ts.map toRT ++ [E]) = some (bs, m) ∧ m < ts.length ∧ foldP ⟨0, s.rules ++ [⟨a, l ++ bs⟩], [], []⟩ (ts.drop (m + 1)) = (sF, none)
  | 0, ts, s, sF, a, l, hn, _, _, _, _ => by omega
  | f + 1, [], s, sF, a, l, hn, hs, ha, h, hF => by simp [foldP] at h; subst h; omega
  | f + 1, x :: us, s, sF, a, l, hn, hs, ha, h, hF => by
    obtain ⟨h1, h2⟩ := fold_cons h
    rcases t56 hs h1 with ⟨hk, he⟩ | ⟨hk, he⟩
    · rw [he] at h2
      have her : endRuleS s = ⟨0, s.rules ++ [⟨a, l⟩], [], []⟩ := by unfold endRuleS; rw [ha]
      rw [her] at h2
      refine ⟨[], 0, ?_, by simp, by simpa using h2⟩
      simp only [List.map_cons, List.cons_append]
      unfold bodyR
      have hb : (toRT x).kind = 46 := by unfold toRT; rw [hk]; rfl
      simp only [if_pos hb]
    · rw [he] at h2
      have hb : (toRT x).kind ≠ 46 := by show kmap x.kind ≠ 46; rcases hk with hk | hk <;> rw [hk] <;> decide
      cases us with
      | nil => simp [foldP] at h2; subst h2; simp at hF
      | cons r us =>
        obtain ⟨h3, h4⟩ := fold_cons h2
        obtain ⟨hkr, he3⟩ := t01 (.inr rfl) h3
        rw [he3] at h4
        cases us with
        | nil => simp [foldP] at h4; subst h4; simp at hF
        | cons o us =>
          obtain ⟨h5, h6⟩ := fold_cons h4
          obtain ⟨hko, he5⟩ := t2 rfl h5
          rw [he5] at h6
          simp only at h6
          obtain ⟨L, vsF, k, q1, q2, q3, q4⟩ := args_fold E us.length us _ sF s.atoms ⟨r.text, []⟩ (Nat.le_refl _) rfl rfl h6 hF
          simp only [List.nil_append] at q4
          have hlen2 : 1 ≤ s.atoms.length := by rw [ha]; simp
          have hend : endSt (s.atoms.length + 1) = 6 := by unfold endSt; rw [if_neg (by omega)]
          rw [hend] at q4
          obtain ⟨bs, m, p1, p2, p3⟩ := body_fold E f (us.drop k) _ sF a (l ++ [⟨r.text, L⟩]) (by simp at hn ⊢; omega) (.inr rfl) (by simp [ha]) q4 hF
          refine ⟨⟨r.text, L⟩ :: bs, 3 + k + m, ?_, ?_, ?_⟩
          · simp only [List.map_cons, List.cons_append]
            unfold bodyR
            simp only [if_neg hb, q1]
            have hd : (us.map toRT ++ [E]).drop k = (us.drop k).map toRT ++ [E] := by
              rw [List.drop_append_of_le_length (by simpa using q2), List.map_drop]
            rw [hd, p1, toRT_name hkr]
          · simp at p2 ⊢; omega
          · have e : 3 + k + m + 1 = (k + (m + 1)) + 1 + 1 + 1 := by omega
            rw [e]; simp only [List.drop_succ_cons]
            rw [← List.drop_drop]
            simpa using p3

theorem rules_fold (E : RT) (hE : E.kind = 4) : ∀ (f : Nat) (ts : List Tok) (s sF : PSt), ts.length < f → s.st = 0 → s.atoms = [] → s.vars = [] → foldP s ts = (sF, none) → sF.st = 0 →
    ∃ rs, readR f (ts.map toRT ++ [E]) = some rs ∧ sF.rules = s.rules ++ rs
  | 0, ts, s, sF, hn, _, _, _, _, _ => by omega
  | f + 1, [], s, sF, hn, hs, ha, hv, h, hF => by
    simp [foldP] at h; subst h
    exact ⟨[], by simp [readR, hE], by simp⟩
  | f + 1, x :: us, s, sF, hn, hs, ha, hv, h, hF => by
    obtain ⟨h1, h2⟩ := fold_cons h
    obtain ⟨hk, he⟩ := t01 (.inl hs) h1
    rw [he, ha] at h2
    have hk4 : (toRT x).kind ≠ 4 := by show kmap x.kind ≠ 4; rw [hk]; decide
    cases us with
    | nil => simp [foldP] at h2; subst h2; simp at hF
    | cons o us =>
      obtain ⟨h3, h4⟩ := fold_cons h2
      obtain ⟨hko, he3⟩ := t2 rfl h3
      rw [he3] at h4
      obtain ⟨L, vsF, k, q1, q2, q3, q4⟩ := args_fold E us.length us _ sF [] ⟨x.text, []⟩ (Nat.le_refl _) rfl rfl h4 hF
      simp only [hv] at q1
      simp only [List.nil_append, List.length_nil] at q4
      obtain ⟨bs, m, p1, p2, p3⟩ := body_fold E (us.map toRT ++ [E]).length (us.drop k) _ sF ⟨x.text, L⟩ [] (by simp; omega) (.inl rfl) rfl q4 hF
      obtain ⟨rs, r1, r2⟩ := rules_fold E hE f ((us.drop k).drop (m + 1)) _ sF (by simp at hn ⊢; omega) rfl rfl rfl p3 hF
      refine ⟨⟨⟨x.text, L⟩, bs⟩ :: rs, ?_, by simpa using r2⟩
      simp only [List.map_cons, List.cons_append]
      unfold readR
      have hd : (us.map toRT ++ [E]).drop k = (us.drop k).map toRT ++ [E] := by
        rw [List.drop_append_of_le_length (by simpa using q2), List.map_drop]
      have hd2 : ((us.drop k).map toRT ++ [E]).drop (m + 1) = ((us.drop k).drop (m + 1)).map toRT ++ [E] := by
        rw [List.drop_append_of_le_length (by simp at p2 ⊢; omega)]; simp [List.map_drop]
      simp only [if_neg hk4, q1, hd, p1, hd2, r1, toRT_name hk]

/-- The parser's state, and how far the document has looked. -/
structure Same2 (s : PSt) (l : Lk) : Prop where
  e : l.e = 0
  alone : l.alone = false
  want : l.want = if s.st = 6 then 5 else s.st
  lo : 0 ≤ s.st
  hi : s.st ≤ 6
  rules : l.rules = s.rules.length + if s.st = 0 then 0 else 1
  body : s.st ≠ 0 → s.st ≠ 1 → (l.body = false ↔ s.atoms.length = 1)
  atoms : s.st ≠ 0 → l.body = true → s.atoms.length = l.atoms + 1
  one : s.st = 1 → l.body = true
  args : s.st = 3 ∨ s.st = 4 → l.args = lastLen s.atoms
  fresh : s.st = 2 → lastLen s.atoms = 0
  five : s.st = 5 → s.atoms.length = 1
  six : s.st = 6 → s.atoms.length ≠ 1

end Go.Proofs.YtjajnhemgphefaaGreatDoor

namespace Go.Proofs.YtjajnhemgphefaaGreatDoor
set_option linter.unusedVariables false
set_option linter.unusedSimpArgs false

theorem kmap_1 (k : Int) : kmap k = 1 ↔ k = 1 := by unfold kmap; repeat' split
                                                    all_goals omega
theorem kmap_2 (k : Int) : kmap k = 2 ↔ k = 2 := by unfold kmap; repeat' split
                                                    all_goals omega
theorem kmap_3 (k : Int) : kmap k = 3 ↔ k = 7 := by unfold kmap; repeat' split
                                                    all_goals omega
theorem kmap_40 (k : Int) : kmap k = 40 ↔ k = 3 := by unfold kmap; repeat' split
                                                      all_goals omega
theorem kmap_41 (k : Int) : kmap k = 41 ↔ k = 4 := by unfold kmap; repeat' split
                                                      all_goals omega
theorem kmap_44 (k : Int) : kmap k = 44 ↔ k = 5 := by unfold kmap; repeat' split
                                                      all_goals omega
theorem kmap_46 (k : Int) : kmap k = 46 ↔ k = 6 := by unfold kmap; repeat' split
                                                      all_goals omega
theorem kmap_4 (k : Int) : kmap k ≠ 4 := by unfold kmap; repeat' split
                                            all_goals omega

theorem take_bad {s : PSt} {k : Int} {t : ByteArray} {r : Int} (h : fitsB s.st k = false) : takeS s k t r = (2, s) := by unfold takeS; rw [if_pos h]
theorem take_big {s : PSt} {k : Int} {t : ByteArray} {r : Int} (h : fitsB s.st k = true) (h2 : exceedsB s.st r s.rules.length s.atoms.length (lastLen s.atoms) = true) : takeS s k t r = (3, s) := by unfold takeS; rw [h, h2]; rfl
theorem take_add {s : PSt} {k : Int} {t : ByteArray} {r : Int} (h : fitsB s.st k = true) (h2 : exceedsB s.st r s.rules.length s.atoms.length (lastLen s.atoms) = false) : takeS s k t r = (0, addS s k t) := by unfold takeS; rw [h, h2]; rfl

/-- A word's length is any; a sign's is small. -/
def TokFine (x : Tok) : Prop := x.kind = 1 ∨ x.kind = 2 ∨ x.runes ≤ 2

theorem sim_step (s : PSt) (l : Lk) (x : Tok) (h : Same2 s l) (hI : PInv s) (hx : TokFine x) :
    (stepD l (toRT x)).e = (takeS s x.kind x.text x.runes).1 ∧ ((takeS s x.kind x.text x.runes).1 = 0 → Same2 (takeS s x.kind x.text x.runes).2 (stepD l (toRT x))) := by
  obtain ⟨h1, h2, h3, h4, h5, h6, h7, h8, h9, h10, h11, hfive, hsix⟩ := h
  obtain ⟨i1, i2, i3, i4, i5, i6, i7, i8⟩ := hI
  have hkk : (toRT x).kind = kmap x.kind := rfl
  have hrr : (toRT x).runes = x.runes := rfl
  have hcase : s.st = 0 ∨ s.st = 1 ∨ s.st = 2 ∨ s.st = 3 ∨ s.st = 4 ∨ s.st = 5 ∨ s.st = 6 := by omega
  rcases hcase with hs | hs | hs | hs | hs | hs | hs
  · -- a rule may begin
    have hw : l.want = 0 := by rw [h3, hs]; rfl
    have hr : l.rules = s.rules.length := by rw [h6, hs]; simp
    have hstep : stepD l (toRT x) = startsR l (toRT x) := by unfold stepD; simp [hw]
    rw [hstep]
    by_cases hk : x.kind = 1
    · have hf : fitsB s.st x.kind = true := by rw [hs, hk]; rfl
      have hst : startsR l (toRT x) = if overMost l = true ∨ 8 < x.runes then { startsL l with e := 3 } else { startsL l with want := 2 } := by
        unfold startsR; rw [if_neg (by rw [hkk]; have := (kmap_1 x.kind).2 hk; omega)]; simp [hw, hrr]
      by_cases he : exceedsB s.st x.runes s.rules.length s.atoms.length (lastLen s.atoms) = true
      · have ho : overMost l = true ∨ 8 < x.runes := by
          unfold exceedsB at he; unfold overMost
          simp [hs] at he; simp [hw]; omega
        rw [take_big hf he, hst, if_pos ho]
        exact ⟨rfl, fun h => by simp at h⟩
      · have he' : exceedsB s.st x.runes s.rules.length s.atoms.length (lastLen s.atoms) = false := by simpa using he
        have ho : ¬ (overMost l = true ∨ 8 < x.runes) := by
          unfold exceedsB at he'; unfold overMost
          simp [hs] at he'; simp [hw]; omega
        rw [take_add hf he', hst, if_neg ho]
        have hadd := (t01 (.inl hs) (r := x.runes) (by rw [take_add hf he'] : (takeS s x.kind x.text x.runes).1 = 0)).2
        rw [hadd]
        have hsl : startsL l = { l with rules := l.rules + 1, body := false } := by unfold startsL; rw [if_pos hw]
        rw [hsl]
        refine ⟨h1, fun _ => ⟨h1, h2, rfl, by simp, by simp, by simp [hr], fun _ _ => by simp [i4 hs], fun _ h => by simp at h, fun h => by simp at h, fun h => by simp at h, fun _ => by simp [lastLen], fun h => by simp at h, fun h => by simp at h⟩⟩
    · have hf : fitsB s.st x.kind = false := by rw [hs]; unfold fitsB; simp [hk]
      have hst : startsR l (toRT x) = { startsL l with e := 2 } := by
        unfold startsR; rw [if_pos (by rw [hkk, hw]; exact ⟨fun e => hk ((kmap_1 _).1 e), .inr (by decide)⟩)]
      rw [take_bad hf, hst]
      exact ⟨rfl, fun h => by simp at h⟩
  · -- an atom of a body
    have hw : l.want = 1 := by rw [h3, hs]; rfl
    have hr : l.rules = s.rules.length + 1 := by rw [h6, hs]; simp
    have hb := h9 hs
    have ha := h8 (by omega) hb
    have hstep : stepD l (toRT x) = startsR l (toRT x) := by unfold stepD; simp [hw]
    rw [hstep]
    by_cases hk : x.kind = 1
    · have hf : fitsB s.st x.kind = true := by rw [hs, hk]; rfl
      have hst : startsR l (toRT x) = if overMost l = true ∨ 8 < x.runes then { startsL l with e := 3 } else { startsL l with want := 2 } := by
        unfold startsR; rw [if_neg (by rw [hkk]; have := (kmap_1 x.kind).2 hk; omega)]; simp [hw, hrr]
      by_cases he : exceedsB s.st x.runes s.rules.length s.atoms.length (lastLen s.atoms) = true
      · have ho : overMost l = true ∨ 8 < x.runes := by
          unfold exceedsB at he; unfold overMost
          simp [hs] at he; simp [hw]; omega
        rw [take_big hf he, hst, if_pos ho]
        exact ⟨rfl, fun h => by simp at h⟩
      · have he' : exceedsB s.st x.runes s.rules.length s.atoms.length (lastLen s.atoms) = false := by simpa using he
        have ho : ¬ (overMost l = true ∨ 8 < x.runes) := by
          unfold exceedsB at he'; unfold overMost
          simp [hs] at he'; simp [hw]; omega
        rw [take_add hf he', hst, if_neg ho]
        have hadd := (t01 (.inr hs) (r := x.runes) (by rw [take_add hf he'] : (takeS s x.kind x.text x.runes).1 = 0)).2
        rw [hadd]
        have hsl : startsL l = { l with atoms := l.atoms + 1 } := by unfold startsL; rw [if_neg (by omega), if_pos hw]
        rw [hsl]
        refine ⟨h1, fun _ => ⟨h1, h2, rfl, by simp, by simp, by simp [hr], fun _ _ => by simp [hb, i5 (by omega)], fun _ _ => by simp; omega, fun h => by simp at h, fun h => by simp at h, fun _ => by simp [lastLen], fun h => by simp at h, fun h => by simp at h⟩⟩
    · have hf : fitsB s.st x.kind = false := by rw [hs]; unfold fitsB; simp [hk]
      have hst : startsR l (toRT x) = { startsL l with e := 2 } := by
        unfold startsR; rw [if_pos (by rw [hkk, hw]; exact ⟨fun e => hk ((kmap_1 _).1 e), .inr (by decide)⟩)]
      rw [take_bad hf, hst]
      exact ⟨rfl, fun h => by simp at h⟩
  · -- a bracket
    have hw : l.want = 2 := by rw [h3, hs]; rfl
    have hr : l.rules = s.rules.length + 1 := by rw [h6, hs]; simp
    have hstep : stepD l (toRT x) = nextR l (toRT x) := by unfold stepD; simp [hw]
    rw [hstep]
    by_cases hk : x.kind = 3
    · have hf : fitsB s.st x.kind = true := by rw [hs, hk]; rfl
      have he' : exceedsB s.st x.runes s.rules.length s.atoms.length (lastLen s.atoms) = false := by
        have : ¬ (8 : Int) < x.runes := by unfold TokFine at hx; omega
        unfold exceedsB; simp [hs, this]
      rw [take_add hf he']
      have hadd := (t2 hs (r := x.runes) (by rw [take_add hf he'] : (takeS s x.kind x.text x.runes).1 = 0)).2
      rw [hadd]
      have hn : nextR l (toRT x) = { l with args := 0, want := 3 } := by unfold nextR; rw [if_pos ⟨hw, by rw [hkk, kmap_40]; exact hk⟩]
      rw [hn]
      have hf11 := h11 hs
      have h7' := h7 (by omega) (by omega)
      have h8' := h8 (by omega)
      exact ⟨h1, fun _ => ⟨h1, h2, rfl, by simp, by simp, by simp [hr], fun _ _ => h7', fun _ => h8', fun h => by simp at h, fun _ => hf11.symm, fun h => by simp at h, fun h => by simp at h, fun h => by simp at h⟩⟩
    · have hf : fitsB s.st x.kind = false := by rw [hs]; unfold fitsB; simp [hk]
      have hn : nextR l (toRT x) = { l with e := 2 } := by
        unfold nextR; simp only [hw, hkk, kmap_40, hk]; simp
      rw [take_bad hf, hn]
      exact ⟨rfl, fun h => by simp at h⟩
  · -- an argument
    have hw : l.want = 3 := by rw [h3, hs]; rfl
    have hr : l.rules = s.rules.length + 1 := by rw [h6, hs]; simp
    have hg := h10 (.inl hs)
    have h7' := h7 (by omega) (by omega)
    have h8' := h8 (by omega)
    have hstep : stepD l (toRT x) = startsR l (toRT x) := by unfold stepD; simp [hw]
    obtain ⟨p, a, hpa⟩ := split_last s.atoms (i5 (by omega))
    have hl2 : lastLen s.atoms = a.args.length := by unfold lastLen; rw [hpa]; simp
    have ha2 := (i3 a (by rw [hpa]; simp)).args
    rw [hstep]
    by_cases hk : x.kind = 1 ∨ x.kind = 2
    · have hf : fitsB s.st x.kind = true := by rw [hs]; unfold fitsB; simp [hk]
      have hst : startsR l (toRT x) = if overMost l = true ∨ 8 < x.runes then { startsL l with e := 3 } else { startsL l with want := 4 } := by
        unfold startsR; rw [if_neg (by rw [hkk, hw]; have := kmap_1 x.kind; have := kmap_2 x.kind; omega)]; simp [hw, hrr]
      by_cases he : exceedsB s.st x.runes s.rules.length s.atoms.length (lastLen s.atoms) = true
      · have ho : overMost l = true ∨ 8 < x.runes := by
          unfold exceedsB at he; unfold overMost
          simp [hs] at he; simp [hw]; omega
        rw [take_big hf he, hst, if_pos ho]
        exact ⟨rfl, fun h => by simp at h⟩
      · have he' : exceedsB s.st x.runes s.rules.length s.atoms.length (lastLen s.atoms) = false := by simpa using he
        have ho : ¬ (overMost l = true ∨ 8 < x.runes) := by
          unfold exceedsB at he'; unfold overMost
          simp [hs] at he'; simp [hw]; omega
        rw [take_add hf he', hst, if_neg ho]
        have hadd := (t3 hs (r := x.runes) (by rw [take_add hf he'] : (takeS s x.kind x.text x.runes).1 = 0)).2
        rw [hadd]
        have hsl : startsL l = { l with args := l.args + 1 } := by unfold startsL; rw [if_neg (by omega), if_neg (by omega)]
        rw [hsl]
        refine ⟨h1, fun _ => ⟨h1, h2, rfl, by simp, by simp, by simp [hr], fun _ _ => by rw [growLast_length]; exact h7', fun _ => by rw [growLast_length]; exact h8', fun h => by simp at h, fun _ => ?_, fun h => by simp at h, fun h => by simp at h, fun h => by simp at h⟩⟩
        rw [hpa, growLast_split]
        simp [lastLen]; omega
    · have hf : fitsB s.st x.kind = false := by rw [hs]; unfold fitsB; simp; omega
      have hst : startsR l (toRT x) = { startsL l with e := 2 } := by
        unfold startsR; rw [if_pos (by rw [hkk, hw]; have := kmap_1 x.kind; have := kmap_2 x.kind; omega)]
      rw [take_bad hf, hst]
      exact ⟨rfl, fun h => by simp at h⟩
  · -- behind an argument
    have hw : l.want = 4 := by rw [h3, hs]; rfl
    have hr : l.rules = s.rules.length + 1 := by rw [h6, hs]; simp
    have hg := h10 (.inr hs)
    have h7' := h7 (by omega) (by omega)
    have h8' := h8 (by omega)
    have hstep : stepD l (toRT x) = nextR l (toRT x) := by unfold stepD; simp [hw]
    rw [hstep]
    by_cases hk : x.kind = 5 ∨ x.kind = 4
    · have hf : fitsB s.st x.kind = true := by rw [hs]; unfold fitsB; simp [hk]
      have he' : exceedsB s.st x.runes s.rules.length s.atoms.length (lastLen s.atoms) = false := by
        have : ¬ (8 : Int) < x.runes := by unfold TokFine at hx; omega
        unfold exceedsB; simp [hs, this]
      rw [take_add hf he']
      rcases t4 hs (r := x.runes) (by rw [take_add hf he'] : (takeS s x.kind x.text x.runes).1 = 0) with ⟨hk5, hadd⟩ | ⟨hk4, hadd⟩
      · rw [hadd]
        have hn : nextR l (toRT x) = { l with want := 3 } := by unfold nextR; simp [hw, hkk, kmap_44, hk5]
        rw [hn]
        exact ⟨h1, fun _ => ⟨h1, h2, rfl, by simp, by simp, by simp [hr], fun _ _ => h7', fun _ => h8', fun h => by simp at h, fun _ => hg, fun h => by simp at h, fun h => by simp at h, fun h => by simp at h⟩⟩
      · rw [hadd]
        have hn : nextR l (toRT x) = { l with want := 5 } := by unfold nextR; simp [hw, hkk, kmap_41, kmap_44, hk4, h2]
        rw [hn]
        unfold endAtomS
        by_cases h1l : s.atoms.length = 1
        · simp only [if_pos h1l]
          exact ⟨h1, fun _ => ⟨h1, h2, rfl, by simp, by simp, by simp [hr], fun _ _ => h7', fun _ => h8', fun h => by simp at h, fun h => by simp at h, fun h => by simp at h, fun _ => h1l, fun h => by simp at h⟩⟩
        · simp only [if_neg h1l]
          exact ⟨h1, fun _ => ⟨h1, h2, rfl, by simp, by simp, by simp [hr], fun _ _ => h7', fun _ => h8', fun h => by simp at h, fun h => by simp at h, fun h => by simp at h, fun h => by simp at h, fun _ => h1l⟩⟩
    · have hf : fitsB s.st x.kind = false := by rw [hs]; unfold fitsB; simp; omega
      have hn : nextR l (toRT x) = { l with e := 2 } := by
        have hk5 : ¬ x.kind = 5 := by omega
        have hk4 : ¬ x.kind = 4 := by omega
        unfold nextR; simp only [hw, hkk, kmap_44, kmap_41, hk5, hk4]; simp
      rw [take_bad hf, hn]
      exact ⟨rfl, fun h => by simp at h⟩
  · -- behind a head
    have hw : l.want = 5 := by rw [h3, hs]; rfl
    have hr : l.rules = s.rules.length + 1 := by rw [h6, hs]; simp
    have h7' := h7 (by omega) (by omega)
    have h8' := h8 (by omega)
    have hone : s.atoms.length = 1 := hfive hs
    have hb : l.body = false := h7'.2 hone
    have hstep : stepD l (toRT x) = nextR l (toRT x) := by unfold stepD; simp [hw]
    rw [hstep]
    by_cases hk : x.kind = 7 ∨ x.kind = 6
    · have hf : fitsB s.st x.kind = true := by rw [hs]; unfold fitsB; simp [hk]
      have he' : exceedsB s.st x.runes s.rules.length s.atoms.length (lastLen s.atoms) = false := by
        have : ¬ (8 : Int) < x.runes := by unfold TokFine at hx; omega
        unfold exceedsB; simp [hs, this]
      rw [take_add hf he']
      rcases t56 (.inl hs) (r := x.runes) (by rw [take_add hf he'] : (takeS s x.kind x.text x.runes).1 = 0) with ⟨hk6, hadd⟩ | ⟨hk57, hadd⟩
      · rw [hadd]
        have hn : nextR l (toRT x) = { l with want := 0 } := by unfold nextR; simp [hw, hkk, kmap_46, hk6]
        rw [hn]
        obtain ⟨a0, al, hal⟩ : ∃ a0 al, s.atoms = a0 :: al := List.exists_cons_of_ne_nil (i5 (by omega))
        have her : endRuleS s = ⟨0, s.rules ++ [⟨a0, al⟩], [], []⟩ := by unfold endRuleS; rw [hal]
        rw [her]
        exact ⟨h1, fun _ => ⟨h1, h2, rfl, by simp, by simp, by simp [hr], fun h => absurd rfl h, fun h => absurd rfl h, fun h => by simp at h, fun h => by simp at h, fun h => by simp at h, fun h => by simp at h, fun h => by simp at h⟩⟩
      · rw [hadd]
        have hk7 : x.kind = 7 := by omega
        have hn : nextR l (toRT x) = { l with body := true, atoms := 0, want := 1 } := by unfold nextR; simp [hw, hkk, kmap_46, kmap_44, kmap_3, hk7, hb]
        rw [hn]
        exact ⟨h1, fun _ => ⟨h1, h2, rfl, by simp, by simp, by simp [hr], fun _ h => absurd rfl h, fun _ _ => by simpa using hone, fun _ => rfl, fun h => by simp at h, fun h => by simp at h, fun h => by simp at h, fun h => by simp at h⟩⟩
    · have hf : fitsB s.st x.kind = false := by rw [hs]; unfold fitsB; simp; omega
      have hn : nextR l (toRT x) = { l with e := 2 } := by
        have hk6 : ¬ x.kind = 6 := by omega
        have hk7 : ¬ x.kind = 7 := by omega
        unfold nextR; simp only [hw, hkk, kmap_46, kmap_3, hk6, hk7, hb]; simp
      rw [take_bad hf, hn]
      exact ⟨rfl, fun h => by simp at h⟩
  · -- behind an atom of a body
    have hw : l.want = 5 := by rw [h3, hs]; rfl
    have hr : l.rules = s.rules.length + 1 := by rw [h6, hs]; simp
    have h7' := h7 (by omega) (by omega)
    have hmany : s.atoms.length ≠ 1 := hsix hs
    have hb : l.body = true := by
      cases hbb : l.body with
      | true => rfl
      | false => exact absurd (h7'.1 hbb) hmany
    have h8' := h8 (by omega) hb
    have hstep : stepD l (toRT x) = nextR l (toRT x) := by unfold stepD; simp [hw]
    rw [hstep]
    by_cases hk : x.kind = 5 ∨ x.kind = 6
    · have hf : fitsB s.st x.kind = true := by rw [hs]; unfold fitsB; simp [hk]
      have he' : exceedsB s.st x.runes s.rules.length s.atoms.length (lastLen s.atoms) = false := by
        have : ¬ (8 : Int) < x.runes := by unfold TokFine at hx; omega
        unfold exceedsB; simp [hs, this]
      rw [take_add hf he']
      rcases t56 (.inr hs) (r := x.runes) (by rw [take_add hf he'] : (takeS s x.kind x.text x.runes).1 = 0) with ⟨hk6, hadd⟩ | ⟨hk57, hadd⟩
      · rw [hadd]
        have hn : nextR l (toRT x) = { l with want := 0 } := by unfold nextR; simp [hw, hkk, kmap_46, hk6]
        rw [hn]
        obtain ⟨a0, al, hal⟩ : ∃ a0 al, s.atoms = a0 :: al := List.exists_cons_of_ne_nil (i5 (by omega))
        have her : endRuleS s = ⟨0, s.rules ++ [⟨a0, al⟩], [], []⟩ := by unfold endRuleS; rw [hal]
        rw [her]
        exact ⟨h1, fun _ => ⟨h1, h2, rfl, by simp, by simp, by simp [hr], fun h => absurd rfl h, fun h => absurd rfl h, fun h => by simp at h, fun h => by simp at h, fun h => by simp at h, fun h => by simp at h, fun h => by simp at h⟩⟩
      · rw [hadd]
        have hk5 : x.kind = 5 := by omega
        have hn : nextR l (toRT x) = { l with want := 1 } := by unfold nextR; simp [hw, hkk, kmap_46, kmap_44, hk5, hb]
        rw [hn]
        exact ⟨h1, fun _ => ⟨h1, h2, rfl, by simp, by simp, by simp [hr], fun _ h => absurd rfl h, fun _ _ => h8', fun _ => hb, fun h => by simp at h, fun h => by simp at h, fun h => by simp at h, fun h => by simp at h⟩⟩
    · have hf : fitsB s.st x.kind = false := by rw [hs]; unfold fitsB; simp; omega
      have hn : nextR l (toRT x) = { l with e := 2 } := by
        have hk6 : ¬ x.kind = 6 := by omega
        have hk5 : ¬ x.kind = 5 := by omega
        unfold nextR; simp only [hw, hkk, kmap_46, kmap_44, kmap_3, hk6, hk5, hb]; simp
      rw [take_bad hf, hn]
      exact ⟨rfl, fun h => by simp at h⟩

theorem sim_over (E : RT) (hE : E.kind = 4) : ∀ (ts : List Tok) (s : PSt) (l : Lk), Same2 s l → PInv s → (∀ x ∈ ts, TokFine x) →
    match foldP s ts with
    | (_, some ep) => overR l (ts.map toRT ++ [E]) = ep ∧ ep.1 ≠ 0
    | (sF, none) => overR l (ts.map toRT ++ [E]) = if sF.st = 0 then (0, 0) else (2, E.place)
  | [], s, l, h, hI, hx => by
    have hw := h.want
    have h5 := h.hi
    have h4 := h.lo
    simp only [foldP, List.map_nil, List.nil_append]
    unfold overR
    by_cases h0 : s.st = 0
    · have hacc : acceptsB l E = true := by unfold acceptsB; simp [hE, hw, h0, h.alone]
      rw [if_pos hacc, if_pos h0]
    · have hw0 : l.want ≠ 0 := by rw [hw]; split <;> omega
      have hw6 : l.want ≠ 6 := by rw [hw]; split <;> omega
      have he : (stepD l E).e = 2 := by
        unfold stepD
        split
        · unfold startsR; rw [if_pos (by rw [hE]; exact ⟨by decide, .inl (by decide)⟩)]
        · unfold nextR; simp [hE]
      rw [if_neg (by rw [noAcc hw0 hw6]; simp), he, if_pos (by decide), if_neg h0]
  | x :: ts, s, l, h, hI, hx => by
    obtain ⟨q1, q2⟩ := sim_step s l x h hI (hx x List.mem_cons_self)
    have hacc : acceptsB l (toRT x) = false := by
      unfold acceptsB
      have : (toRT x).kind ≠ 4 := kmap_4 _
      simp [this]
    simp only [List.map_cons, List.cons_append]
    have hover : overR l (toRT x :: (ts.map toRT ++ [E])) = if (stepD l (toRT x)).e ≠ 0 then ((stepD l (toRT x)).e, (toRT x).place) else overR (stepD l (toRT x)) (ts.map toRT ++ [E]) := by
      rw [overR, if_neg (by rw [hacc]; simp)]
    rw [hover]
    by_cases h0 : (takeS s x.kind x.text x.runes).1 = 0
    · have hf : foldP s (x :: ts) = foldP (takeS s x.kind x.text x.runes).2 ts := by rw [foldP, if_pos h0]
      rw [hf, q1, if_neg (by rw [h0]; simp)]
      exact sim_over E hE ts _ _ (q2 h0) (takeS_inv s _ _ _ x.ok hI h0) (fun y hy => hx y (List.mem_cons_of_mem _ hy))
    · have hf : foldP s (x :: ts) = (s, some ((takeS s x.kind x.text x.runes).1, x.place)) := by rw [foldP, if_neg h0]
      rw [hf, q1, if_pos h0]
      exact ⟨rfl, h0⟩

end Go.Proofs.YtjajnhemgphefaaGreatDoor
