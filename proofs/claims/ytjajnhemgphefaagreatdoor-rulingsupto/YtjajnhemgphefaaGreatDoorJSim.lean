/-
  The parser against the document's own answer: what it reads is what the document reads.
-/
import Derived.Test.YtjajnhemgphefaaGreatDoorJPDef
import Derived.Test.YtjajnhemgphefaaGreatDoorJRefT
namespace Go.Proofs.YtjajnhemgphefaaGreatDoor
set_option linter.unusedVariables false
set_option linter.unusedSimpArgs false

/-- What a token that is taken says of the state. -/
theorem take_ok {s : PSt} {k : Int} {t : ByteArray} {r : Int} (h : (takeS s k t r).1 = 0) : fitsB s.st k = true ∧ exceedsB s.st r s.rules.length s.atoms.length (lastLen s.atoms) = false ∧ (takeS s k t r).2 = addS s k t := by
  unfold takeS at h ⊢
  by_cases hf : fitsB s.st k = false
  · rw [if_pos hf] at h; simp at h
  · rw [if_neg hf] at h ⊢
    by_cases he : exceedsB s.st r s.rules.length s.atoms.length (lastLen s.atoms) = true
    · rw [if_pos he] at h; simp at h
    · rw [if_neg he]; exact ⟨by simpa using hf, by simpa using he, rfl⟩

theorem fold_cons {s sF : PSt} {x : Tok} {l : List Tok} (h : foldP s (x :: l) = (sF, none)) : (takeS s x.kind x.text x.runes).1 = 0 ∧ foldP (addS s x.kind x.text) l = (sF, none) := by
  unfold foldP at h
  by_cases h0 : (takeS s x.kind x.text x.runes).1 = 0
  · rw [if_pos h0, (take_ok h0).2.2] at h; exact ⟨h0, h⟩
  · rw [if_neg h0] at h; simp at h

theorem t3 {s : PSt} {k : Int} {t : ByteArray} {r : Int} (hs : s.st = 3) (h : (takeS s k t r).1 = 0) : (k = 1 ∨ k = 2) ∧ addS s k t = { s with st := 4, atoms := growLast s.atoms (termT s.vars k t), vars := termVs s.vars k t } := by
  have hf := (take_ok h).1
  have hk : k = 1 ∨ k = 2 := by unfold fitsB at hf; simp [hs] at hf; exact hf
  exact ⟨hk, by unfold addS addWordS; rw [if_pos hk, if_pos hs]⟩
theorem t4 {s : PSt} {k : Int} {t : ByteArray} {r : Int} (hs : s.st = 4) (h : (takeS s k t r).1 = 0) : (k = 5 ∧ addS s k t = { s with st := 3 }) ∨ (k = 4 ∧ addS s k t = endAtomS s) := by
  have hf := (take_ok h).1
  have hk : k = 5 ∨ k = 4 := by unfold fitsB at hf; simp [hs] at hf; exact hf
  rcases hk with rfl | rfl
  · left; exact ⟨rfl, by unfold addS; simp [hs]⟩
  · right; exact ⟨rfl, by unfold addS; simp⟩
theorem t2 {s : PSt} {k : Int} {t : ByteArray} {r : Int} (hs : s.st = 2) (h : (takeS s k t r).1 = 0) : k = 3 ∧ addS s k t = { s with st := 3 } := by
  have hf := (take_ok h).1
  have hk : k = 3 := by unfold fitsB at hf; simp [hs] at hf; exact hf
  subst hk
  exact ⟨rfl, by unfold addS; simp⟩
theorem t01 {s : PSt} {k : Int} {t : ByteArray} {r : Int} (hs : s.st = 0 ∨ s.st = 1) (h : (takeS s k t r).1 = 0) : k = 1 ∧ addS s k t = { s with st := 2, atoms := s.atoms ++ [⟨t, []⟩] } := by
  have hf := (take_ok h).1
  have hk : k = 1 := by unfold fitsB at hf; rw [if_pos hs] at hf; simpa using hf
  subst hk
  exact ⟨rfl, by unfold addS addWordS; rw [if_pos (.inl rfl), if_neg (by omega)]⟩
theorem t56 {s : PSt} {k : Int} {t : ByteArray} {r : Int} (hs : s.st = 5 ∨ s.st = 6) (h : (takeS s k t r).1 = 0) : (k = 6 ∧ addS s k t = endRuleS s) ∨ ((k = 5 ∨ k = 7) ∧ addS s k t = { s with st := 1 }) := by
  have hf := (take_ok h).1
  rcases hs with hs | hs
  · have hk : k = 7 ∨ k = 6 := by unfold fitsB at hf; simp [hs] at hf; exact hf
    rcases hk with rfl | rfl
    · right; exact ⟨.inr rfl, by unfold addS; simp⟩
    · left; exact ⟨rfl, by unfold addS; simp⟩
  · have hk : k = 5 ∨ k = 6 := by unfold fitsB at hf; simp [hs] at hf; exact hf
    rcases hk with rfl | rfl
    · right; exact ⟨.inl rfl, by unfold addS; simp [hs]⟩
    · left; exact ⟨rfl, by unfold addS; simp⟩

theorem kmap_word {k : Int} (h : k = 1 ∨ k = 2) : kmap k = k := by rcases h with rfl | rfl <;> rfl
theorem argT_term (vs : List ByteArray) (x : Tok) (h : x.kind = 1 ∨ x.kind = 2) : argT vs (toRT x) = termT vs x.kind x.text ∧ argVs vs (toRT x) = termVs vs x.kind x.text := by
  unfold argT argVs termT termVs toRT
  rcases h with h | h <;> simp [h, kmap]

def endSt (n : Nat) : Int := if n = 1 then 5 else 6

theorem args_fold (E : RT) : ∀ (n : Nat) (ts : List Tok) (s sF : PSt) (p : List Am) (a : Am), ts.length ≤ n → s.st = 3 → s.atoms = p ++ [a] → foldP s ts = (sF, none) → sF.st = 0 →
    ∃ L vsF k, argsR s.vars (ts.map toRT ++ [E]) = some (L, vsF, k) ∧ k ≤ ts.length ∧ 2 ≤ k ∧ foldP { s with st := endSt (p.length + 1), atoms := p ++ [{ a with args := a.args ++ L }], vars := vsF } (ts.drop k) = (sF, none)
  | n, [], s, sF, p, a, hn, hs, ha, h, hF => by simp [foldP] at h; subst h; omega
  | n, [x], s, sF, p, a, hn, hs, ha, h, hF => by
    obtain ⟨h1, h2⟩ := fold_cons h
    obtain ⟨hk, he⟩ := t3 hs h1
    rw [he] at h2
    simp [foldP] at h2; subst h2; simp at hF
  | 0, x :: y :: us, s, sF, p, a, hn, hs, ha, h, hF => by simp at hn
  | n + 1, x :: y :: us, s, sF, p, a, hn, hs, ha, h, hF => by
    obtain ⟨h1, h2⟩ := fold_cons h
    obtain ⟨hk, he⟩ := t3 hs h1
    rw [he, ha, growLast_split] at h2
    obtain ⟨e1, e2⟩ := argT_term s.vars x hk
    obtain ⟨h3, h4⟩ := fold_cons h2
    rcases t4 rfl h3 with ⟨hy, he2⟩ | ⟨hy, he2⟩
    · rw [he2] at h4
      obtain ⟨L, vsF, k, q1, q2, q3, q4⟩ := args_fold E n us { s with st := 3, atoms := p ++ [{ a with args := a.args ++ [termT s.vars x.kind x.text] }], vars := termVs s.vars x.kind x.text } sF p { a with args := a.args ++ [termT s.vars x.kind x.text] } (by simp at hn; omega) rfl rfl h4 hF
      refine ⟨termT s.vars x.kind x.text :: L, vsF, k + 2, ?_, by simp; omega, by omega, ?_⟩
      · simp only [List.map_cons, List.cons_append]
        unfold argsR
        have hb : (toRT y).kind ≠ 41 := by show kmap y.kind ≠ 41; rw [hy]; decide
        rw [if_neg hb, e1, e2, q1]
      · simp only [List.drop_succ_cons]
        simpa using q4
    · rw [he2] at h4
      refine ⟨[termT s.vars x.kind x.text], termVs s.vars x.kind x.text, 2, ?_, by simp, by omega, ?_⟩
      · simp only [List.map_cons, List.cons_append]
        unfold argsR
        have hb : (toRT y).kind = 41 := by unfold toRT; rw [hy]; rfl
        rw [if_pos hb, e1, e2]
      · simp only [List.drop_succ_cons, List.drop_zero]
        simpa [endAtomS, endSt] using h4

theorem toRT_name {x : Tok} (h : x.kind = 1) : (toRT x).text = x.text := by unfold toRT; simp [h]

theorem body_fold (E : RT) : ∀ (f : Nat) (ts : List Tok) (s sF : PSt) (a : Am) (l : List Am), ts.length < f → (s.st = 5 ∨ s.st = 6) → s.atoms = a :: l → foldP s ts = (sF, none) → sF.st = 0 →
    ∃ bs m, bodyR f s.vars (ts.map toRT ++ [E]) = some (bs, m) ∧ m < ts.length ∧ foldP ⟨0, s.rules ++ [⟨a, l ++ bs⟩], [], []⟩ (ts.drop (m + 1)) = (sF, none)
  | 0, ts, s, sF, a, l, hn, _, _, _, _ => by omega
  | f + 1, [], s, sF, a, l, hn, hs, ha, h, hF => by simp [foldP] at h; subst h; omega
  | f + 1, x :: us, s, sF, a, l, hn, hs, ha, h, hF => by
    obtain ⟨h1, h2⟩ := fold_cons h
    rcases t56 hs h1 with ⟨hk, he⟩ | ⟨hk, he⟩
    · rw [he] at h2
      have her : endRuleS s = ⟨0, s.rules ++ [⟨a, l⟩], [], []⟩ := by unfold endRuleS; rw [ha]
      rw [her] at h2
      refine ⟨[], 0, ?_, by simp, by simpa using h2⟩
      simp only [List.map_cons, List.cons_append]
      unfold bodyR
      have hb : (toRT x).kind = 46 := by unfold toRT; rw [hk]; rfl
      simp only [if_pos hb]
    · rw [he] at h2
      have hb : (toRT x).kind ≠ 46 := by show kmap x.kind ≠ 46; rcases hk with hk | hk <;> rw [hk] <;> decide
      cases us with
      | nil => simp [foldP] at h2; subst h2; simp at hF
      | cons r us =>
        obtain ⟨h3, h4⟩ := fold_cons h2
        obtain ⟨hkr, he3⟩ := t01 (.inr rfl) h3
        rw [he3] at h4
        cases us with
        | nil => simp [foldP] at h4; subst h4; simp at hF
        | cons o us =>
          obtain ⟨h5, h6⟩ := fold_cons h4
          obtain ⟨hko, he5⟩ := t2 rfl h5
          rw [he5] at h6
          simp only at h6
          obtain ⟨L, vsF, k, q1, q2, q3, q4⟩ := args_fold E us.length us _ sF s.atoms ⟨r.text, []⟩ (Nat.le_refl _) rfl rfl h6 hF
          simp only [List.nil_append] at q4
          have hlen2 : 1 ≤ s.atoms.length := by rw [ha]; simp
          have hend : endSt (s.atoms.length + 1) = 6 := by unfold endSt; rw [if_neg (by omega)]
          rw [hend] at q4
          obtain ⟨bs, m, p1, p2, p3⟩ := body_fold E f (us.drop k) _ sF a (l ++ [⟨r.text, L⟩]) (by simp at hn ⊢; omega) (.inr rfl) (by simp [ha]) q4 hF
          refine ⟨⟨r.text, L⟩ :: bs, 3 + k + m, ?_, ?_, ?_⟩
          · simp only [List.map_cons, List.cons_append]
            unfold bodyR
            simp only [if_neg hb, q1]
            have hd : (us.map toRT ++ [E]).drop k = (us.drop k).map toRT ++ [E] := by
              rw [List.drop_append_of_le_length (by simpa using q2), List.map_drop]
            rw [hd, p1, toRT_name hkr]
          · simp at p2 ⊢; omega
          · have e : 3 + k + m + 1 = (k + (m + 1)) + 1 + 1 + 1 := by omega
            rw [e]; simp only [List.drop_succ_cons]
            rw [← List.drop_drop]
            simpa using p3

theorem rules_fold (E : RT) (hE : E.kind = 4) : ∀ (f : Nat) (ts : List Tok) (s sF : PSt), ts.length < f → s.st = 0 → s.atoms = [] → s.vars = [] → foldP s ts = (sF, none) → sF.st = 0 →
    ∃ rs, readR f (ts.map toRT ++ [E]) = some rs ∧ sF.rules = s.rules ++ rs
  | 0, ts, s, sF, hn, _, _, _, _, _ => by omega
  | f + 1, [], s, sF, hn, hs, ha, hv, h, hF => by
    simp [foldP] at h; subst h
    exact ⟨[], by simp [readR, hE], by simp⟩
  | f + 1, x :: us, s, sF, hn, hs, ha, hv, h, hF => by
    obtain ⟨h1, h2⟩ := fold_cons h
    obtain ⟨hk, he⟩ := t01 (.inl hs) h1
    rw [he, ha] at h2
    have hk4 : (toRT x).kind ≠ 4 := by show kmap x.kind ≠ 4; rw [hk]; decide
    cases us with
    | nil => simp [foldP] at h2; subst h2; simp at hF
    | cons o us =>
      obtain ⟨h3, h4⟩ := fold_cons h2
      obtain ⟨hko, he3⟩ := t2 rfl h3
      rw [he3] at h4
      obtain ⟨L, vsF, k, q1, q2, q3, q4⟩ := args_fold E us.length us _ sF [] ⟨x.text, []⟩ (Nat.le_refl _) rfl rfl h4 hF
      simp only [hv] at q1
      simp only [List.nil_append, List.length_nil] at q4
      obtain ⟨bs, m, p1, p2, p3⟩ := body_fold E (us.map toRT ++ [E]).length (us.drop k) _ sF ⟨x.text, L⟩ [] (by simp; omega) (.inl rfl) rfl q4 hF
      obtain ⟨rs, r1, r2⟩ := rules_fold E hE f ((us.drop k).drop (m + 1)) _ sF (by simp at hn ⊢; omega) rfl rfl rfl p3 hF
      refine ⟨⟨⟨x.text, L⟩, bs⟩ :: rs, ?_, by simpa using r2⟩
      simp only [List.map_cons, List.cons_append]
      unfold readR
      have hd : (us.map toRT ++ [E]).drop k = (us.drop k).map toRT ++ [E] := by
        rw [List.drop_append_of_le_length (by simpa using q2), List.map_drop]
      have hd2 : ((us.drop k).map toRT ++ [E]).drop (m + 1) = ((us.drop k).drop (m + 1)).map toRT ++ [E] := by
        rw [List.drop_append_of_le_length (by simp at p2 ⊢; omega)]; simp [List.map_drop]
      simp only [if_neg hk4, q1, hd, p1, hd2, r1, toRT_name hk]

/-- The parser's state, and how far the document has looked. -/
structure Same2 (s : PSt) (l : Lk) : Prop where
  e : l.e = 0
  alone : l.alone = false
  want : l.want = if s.st = 6 then 5 else s.st
  lo : 0 ≤ s.st
  hi : s.st ≤ 6
  rules : l.rules = s.rules.length + if s.st = 0 then 0 else 1
  body : s.st ≠ 0 → s.st ≠ 1 → (l.body = false ↔ s.atoms.length = 1)
  atoms : s.st ≠ 0 → l.body = true → s.atoms.length = l.atoms + 1
  one : s.st = 1 → l.body = true
  args : s.st = 3 ∨ s.st = 4 → l.args = lastLen s.atoms
  fresh : s.st = 2 → lastLen s.atoms = 0
  five : s.st = 5 → s.atoms.length = 1
  six : s.st = 6 → s.atoms.length ≠ 1

end Go.Proofs.YtjajnhemgphefaaGreatDoor
