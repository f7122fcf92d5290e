/-
  The checks against the document's own answer: the same rule is refused, for the same reason.
  In plain data: what the program answers for Rules is what the document answers, for every text of up to 300 runes, and longer ones.
  A text of one atom: the code and the document's own answer read it alike.
  The document's own answer: what has come and what has gone, as records.
  The document's own answer: a row that is appended to, and the row that it was, beside it.
  The document's own engine in memory.
  The document's own engine: does a relation stand in bodies alone?
-/
import Derived.Test.YtjajnhemgphefaaGreatDoorJAddN
import Derived.Test.YtjajnhemgphefaaGreatDoorJRefT
import Derived.Test.YtjajnhemgphefaaGreatDoorJRules
import Derived.Test.YtjajnhemgphefaaGreatDoorJSim2
import Derived.Test.YtjajnhemgphefaaGreatDoorJMdD
import Derived.Test.YtjajnhemgphefaaGreatDoorJMdK
import Derived.Test.YtjajnhemgphefaaGreatDoorJRangeN
import Derived.Test.YtjajnhemgphefaaGreatDoorJFd5
import Derived.Test.YtjajnhemgphefaaGreatDoorJRefR
import Derived.Maps.AppendAt
import Derived.Test.YtjajnhemgphefaaGreatDoorJWyD
import Derived.Test.YtjajnhemgphefaaGreatDoorJTerm
namespace Go.Proofs.YtjajnhemgphefaaGreatDoor
set_option linter.unusedVariables false
set_option linter.unusedSimpArgs false

theorem arityL_seen (a : Am) (rest : List Am) : ∀ (seen : List Am), arityL (seen ++ a :: rest) a.rel = match arOf seen a.rel.data.toList with | some n => n | none => a.args.length
  | [] => by simp [arityL, arOf, sameB_data]
  | b :: seen => by
    have ih := arityL_seen a rest seen
    simp only [List.cons_append, arityL, sameB_data]
    by_cases h : (b.rel.data.toList == a.rel.data.toList) = true
    · rw [if_pos h]; simp only [arOf, List.find?_cons, h]; rfl
    · rw [if_neg h, ih]
      have h' : (b.rel.data.toList == a.rel.data.toList) = false := by simpa using h
      simp only [arOf, List.find?_cons, h']

theorem amBad_seen (seen : List Am) (a : Am) (rest : List Am) : amBad (seen ++ a :: rest) a = !fitsA seen a := by
  unfold amBad fitsA
  rw [arityL_seen]
  cases arOf seen a.rel.data.toList with
  | none => simp
  | some n => by_cases h : n = a.args.length <;> simp [h]

theorem scanA_all : ∀ (l seen rest : List Am), scanA seen l = if l.any (amBad (seen ++ l ++ rest)) = true then none else some (seen ++ l)
  | [], seen, rest => by simp [scanA]
  | a :: l, seen, rest => by
    have hb := amBad_seen seen a (l ++ rest)
    have e : seen ++ (a :: l) ++ rest = seen ++ a :: (l ++ rest) := by simp
    unfold scanA
    rw [e]
    simp only [List.any_cons, hb]
    by_cases hf : fitsA seen a = true
    · rw [if_pos hf, hf]
      have ih := scanA_all l (seen ++ [a]) rest
      have e2 : seen ++ [a] ++ l ++ rest = seen ++ a :: (l ++ rest) := by simp
      rw [ih, e2]
      simp
    · rw [if_neg hf]
      have hf' : fitsA seen a = false := by simpa using hf
      rw [hf']; simp

def natOr (o : Option Nat) : Int := match o with | some n => n | none => -1

theorem arityFrom_all : ∀ (rs : List Rl) (seen : List Am) (i : Nat), arityFrom seen i rs = natOr (firstR (arityBad (seen ++ amsR rs)) rs i)
  | [], seen, i => by simp [arityFrom, firstR, natOr]
  | r :: rs, seen, i => by
    have hs := scanA_all (ruleAms r) seen (amsR rs)
    have e : seen ++ ruleAms r ++ amsR rs = seen ++ amsR (r :: rs) := by simp [amsR]
    rw [e] at hs
    have hb : arityBad (seen ++ amsR (r :: rs)) r = (ruleAms r).any (amBad (seen ++ amsR (r :: rs))) := rfl
    unfold arityFrom firstR
    rw [hb]
    show (match scanA seen (ruleAms r) with | none => (i : Int) | some s => arityFrom s (i + 1) rs) = _
    rw [hs]
    by_cases hx : (ruleAms r).any (amBad (seen ++ amsR (r :: rs))) = true
    · rw [if_pos hx, if_pos hx]; rfl
    · rw [if_neg hx, if_neg hx]
      have ih := arityFrom_all rs (seen ++ ruleAms r) (i + 1)
      have e3 : seen ++ ruleAms r ++ amsR rs = seen ++ amsR (r :: rs) := e
      rw [e3] at ih
      exact ih

theorem looseC_eq (r : Rl) : looseC r = looseB r := by
  unfold looseC looseB
  congr 1
  funext t
  unfold unboundB tmLoose
  cases h : t.name.toList.isEmpty with
  | false => rfl
  | true =>
    have h0 : t.name.toList = [] := by simpa using h
    have : bodyHas r t.name t.num = boundR r.body t.num := by
      unfold bodyHas boundR hasT
      congr 1
      funext a
      congr 1
      funext t'
      unfold sameT tmIs
      rw [h0]
      cases ht : t'.name.toList with
      | nil =>
        by_cases hn : t.num = t'.num
        · simp [hn]
        · have hn2 : ¬ t'.num = t.num := fun e => hn e.symm
          simp [hn, hn2]
      | cons c cs => simp
    rw [this]

theorem firstFrom_R (p : Rl → Bool) : ∀ (rs : List Rl) (i : Nat), firstFrom p i rs = natOr (firstR p rs i)
  | [], i => rfl
  | r :: rs, i => by
    unfold firstFrom firstR
    by_cases h : p r = true
    · rw [if_pos h, if_pos h]; rfl
    · rw [if_neg h, if_neg h]; exact firstFrom_R p rs (i + 1)
theorem firstLoose_eq (rs : List Rl) : firstLoose rs = natOr (firstR looseB rs 0) := by
  unfold firstLoose
  rw [firstFrom_R]
  have : looseC = looseB := funext looseC_eq
  rw [this]

theorem manyFrom_R : ∀ (rs : List Rl) (ns : List ByteArray) (i : Nat), manyFrom ns i rs = natOr (manyFromR ns rs i)
  | [], ns, i => rfl
  | r :: rs, ns, i => by
    unfold manyFrom manyFromR
    by_cases h : 8 < (nmL ns (tmsOf (ruleAms r))).length
    · rw [if_pos h, if_pos h]; rfl
    · rw [if_neg h, if_neg h]; exact manyFrom_R rs _ (i + 1)

theorem checkS_eq (rs : List Rl) : checkS rs = ((soundR rs).1, ((soundR rs).2 : Int)) := by
  unfold checkS soundR
  rw [arityFrom_all, firstLoose_eq, manyFrom_R]
  simp only [List.nil_append]
  cases firstR (arityBad (amsR rs)) rs 0 with
  | some i => simp [natOr]
  | none =>
    cases firstR looseB rs 0 with
    | some i => simp [natOr]
    | none =>
      cases manyFromR [] rs 0 with
      | some i => simp [natOr]
      | none => simp [natOr]

end Go.Proofs.YtjajnhemgphefaaGreatDoor

namespace Go.Proofs.YtjajnhemgphefaaGreatDoor
open Go.RowKit Go.Shelf
set_option linter.unusedVariables false
set_option linter.unusedSimpArgs false

theorem R_count (s : ByteArray) : ∀ (f i : Nat), s.size ≤ i + f → Lib.runeCountFrom s f i = (R s i).length
  | 0, i, h => by rw [R_end s i (by omega)]; rfl
  | f + 1, i, h => by
    unfold Lib.runeCountFrom
    by_cases hi : i < s.size
    · have h1 := Lib.decode_width_pos s i hi
      rw [if_pos hi, R_cons s i hi, R_count s f _ (by omega)]
      simp; omega
    · rw [if_neg hi, R_end s i hi]; rfl
theorem runes_count (s : ByteArray) : (R s 0).length = Lib.runeCount s := (R_count s s.size 0 (by omega)).symm

theorem R_le (s : ByteArray) : (R s 0).length ≤ s.size := by rw [runes_count]; exact Lib.runeCount_le s

theorem refToks_toks (s : ByteArray) (h : s.size ≤ 1200) : refToks s = (toks s.size s 0).map toRT ++ [⟨4, ⟨#[]⟩, (R s 0).length, 0⟩] := by
  unfold refToks
  rw [toks_ref s.size s 0 (Nat.le_refl _) h, refT_fuel _ s.size _ _ (Nat.le_refl _) (R_le s)]

theorem toks_fine : ∀ (f : Nat) (s : ByteArray) (p : Nat), ∀ x ∈ toks f s p, TokFine x
  | 0, s, p, x, hx => by simp [toks] at hx
  | f + 1, s, p, x, hx => by
    unfold toks at hx
    split at hx
    · simp at hx
    split at hx
    · exact toks_fine f _ _ x hx
    split at hx
    · rcases List.mem_cons.1 hx with rfl | hx
      · unfold TokFine firstT
        simp only
        repeat' split
        all_goals simp
      · exact toks_fine f _ _ x hx
    · simp at hx

theorem same2_0 : Same2 pst0 (lk0 false) := by
  refine ⟨rfl, rfl, rfl, by decide, by decide, rfl, fun h => absurd rfl h, fun h => absurd rfl h, fun h => ?_, fun h => ?_, fun h => ?_, fun h => ?_, fun h => ?_⟩
  all_goals (simp [pst0] at h)

theorem pinv_0 : PInv pst0 := ⟨by decide, by decide, by simp [pst0], fun _ => rfl, fun h => absurd rfl h, fun h => absurd rfl h, by simp [pst0], by simp [pst0]⟩

theorem data_app (x y : ByteArray) : (x ++ y).data.toList = x.data.toList ++ y.data.toList := by simp

theorem tmW_txt (t : Tm) : (tmW t).data.toList = termTxt t := by
  unfold tmW termTxt decS
  split <;> simp

theorem argsW_txt : ∀ (l : List Tm) (i : Nat), (argsW i l).data.toList = argsTxt i l
  | [], i => rfl
  | t :: l, i => by
    unfold argsW argsTxt
    rw [data_app, data_app, tmW_txt, argsW_txt l (i + 1)]
    by_cases h : i = 0
    · subst h; simp
    · rw [if_pos (by omega), if_neg h]

theorem atomW_txt (a : Am) : (atomW a).data.toList = atomTxt a := by
  unfold atomW atomTxt
  rw [data_app, data_app, data_app, argsW_txt]
  simp

theorem bodyW_txt : ∀ (l : List Am) (i : Nat), (bodyW i l).data.toList = bodyTxt i l
  | [], i => rfl
  | a :: l, i => by
    unfold bodyW bodyTxt
    rw [data_app, data_app, atomW_txt, bodyW_txt l (i + 1)]
    by_cases h : i = 0
    · rw [if_pos h, if_pos h]
    · rw [if_neg h, if_neg h]

theorem rulesW_txt : ∀ (l : List Rl), (rulesW l).data.toList = rulesTxt l
  | [] => rfl
  | r :: l => by
    unfold rulesW rulesTxt
    rw [data_app, rulesW_txt l, List.flatMap_cons]
    unfold rulesTxt ruleW ruleTxt
    rw [data_app, data_app, atomW_txt, bodyW_txt]

theorem parse_same (s : ByteArray) (h : (R s 0).length ≤ 300) (h2 : s.size ≤ 1200) :
    parseD s = match parseR s with | .error ep => .error ep | .ok rs => if (soundR rs).1 ≠ 0 then .error (soundR rs) else .ok rs := by
  have hov := sim_over ⟨4, ⟨#[]⟩, (R s 0).length, 0⟩ rfl (toks s.size s 0) pst0 (lk0 false) same2_0 pinv_0 (toks_fine _ _ _)
  rw [← refToks_toks s h2] at hov
  unfold parseD parseR
  rw [if_neg (by omega)]
  cases hf : foldP pst0 (toks s.size s 0) with
  | mk sF o =>
    rw [hf] at hov
    cases o with
    | some ep =>
      simp only at hov ⊢
      rw [hov.1, if_pos hov.2]
    | none =>
      simp only at hov ⊢
      by_cases h0 : sF.st = 0
      · rw [if_pos h0] at hov ⊢
        rw [hov, if_neg (by simp)]
        obtain ⟨rs, r1, r2⟩ := rules_fold ⟨4, ⟨#[]⟩, (R s 0).length, 0⟩ rfl ((refToks s).length + 1) (toks s.size s 0) pst0 sF (by rw [refToks_toks s h2]; simp; omega) rfl rfl rfl hf h0
        rw [← refToks_toks s h2] at r1
        rw [r1]
        have : sF.rules = rs := by rw [r2]; rfl
        rw [this]
      · rw [if_neg h0] at hov ⊢
        rw [hov, if_pos (by simp), runes_count]

theorem rules_same (s : ByteArray) : refRules s = (⟨(rulesR s).1.toArray⟩, (rulesR s).2.1, (rulesR s).2.2.toNat) ∧ 0 ≤ (rulesR s).2.2 := by
  unfold refRules rulesR
  by_cases hl : 300 < Lib.runeCount s
  · have : parseD s = .error (1, 0) := by unfold parseD; rw [if_pos (by rw [runes_count]; exact hl)]
    rw [this, if_pos hl]
    exact ⟨rfl, by decide⟩
  · rw [if_neg hl, parse_same s (by rw [runes_count]; omega) (by have := size_le_runes s; omega)]
    cases hp : parseR s with
    | error ep => obtain ⟨c, p⟩ := ep; simp
    | ok rs =>
      have hck := checkS_eq rs
      have hpos : 0 ≤ (checkS rs).2 := by rw [hck]; simp
      simp only
      by_cases h0 : (soundR rs).1 = 0
      · have : (checkS rs).1 = 0 := by rw [hck]; exact h0
        rw [if_pos this, if_neg (by simpa using h0)]
        simp only
        refine ⟨?_, by simp⟩
        have := rulesW_txt rs
        refine Prod.ext ?_ rfl
        apply ByteArray.ext
        simp only
        rw [← this]
      · have : ¬ (checkS rs).1 = 0 := by rw [hck]; exact h0
        rw [if_neg this, if_pos (by simpa using h0)]
        simp only
        refine ⟨?_, hpos⟩
        rw [hck]; simp

end Go.Proofs.YtjajnhemgphefaaGreatDoor

namespace Go.Proofs.YtjajnhemgphefaaGreatDoor
open Go.RowKit Go.Shelf
set_option linter.unusedVariables false
set_option linter.unusedSimpArgs false

def codeAt (s : PSt) (r : List Tok) : Option Am := match foldP s r with
  | (_, some _) => none
  | (st, none) => if st.st = 5 ∧ st.rules = [] then st.atoms.head? else none
def okR (E : RT) (l : Lk) (r : List Tok) : Prop := (overR l (r.map toRT ++ [E])).1 = 0
theorem code_bad {s : PSt} {x : Tok} {r : List Tok} (h : (takeS s x.kind x.text x.runes).1 ≠ 0) : codeAt s (x :: r) = none := by
  unfold codeAt foldP; rw [if_neg h]
theorem code_ok {s : PSt} {x : Tok} {r : List Tok} (h1 : fitsB s.st x.kind = true) (h2 : exceedsB s.st x.runes s.rules.length s.atoms.length (lastLen s.atoms) = false) : codeAt s (x :: r) = codeAt (addS s x.kind x.text) r := by
  have ht := take_add (s := s) (k := x.kind) (t := x.text) (r := x.runes) h1 h2
  unfold codeAt
  conv => lhs; unfold foldP
  rw [ht, if_pos rfl]
theorem rt_acc {l : Lk} (x : Tok) : acceptsB l (toRT x) = false := by
  unfold acceptsB
  have : (toRT x).kind ≠ 4 := kmap_4 x.kind
  simp [this]
theorem ref_bad {E : RT} {l : Lk} {x : Tok} {r : List Tok} (h : (stepD l (toRT x)).e ≠ 0) : ¬ okR E l (x :: r) := by
  unfold okR
  rw [List.map_cons, List.cons_append]
  unfold overR
  rw [rt_acc]
  simp [h]
theorem ref_ok {E : RT} {l l' : Lk} {x : Tok} {r : List Tok} (h : stepD l (toRT x) = l') (h0 : l'.e = 0) : okR E l (x :: r) ↔ okR E l' r := by
  unfold okR
  rw [List.map_cons, List.cons_append]
  conv => lhs; unfold overR
  rw [rt_acc, h]
  simp [h0]
/-- What has left an atom alone never comes back to one. -/
def Left (s : PSt) : Prop := s.rules ≠ [] ∨ (s.st ≠ 5 ∧ s.st ≠ 0 ∧ 1 ≤ s.atoms.length ∧ (s.st ≠ 1 → 2 ≤ s.atoms.length))
theorem grow_len (l : List Am) (x : Tm) : (growLast l x).length = l.length := by
  unfold growLast
  cases h : l.getLast? with
  | none => rfl
  | some a =>
    have : l ≠ [] := by rintro rfl; simp at h
    have : 0 < l.length := List.length_pos_iff.2 this
    simp; omega
theorem left_add {s : PSt} {k : Int} {t : ByteArray} (h : Left s) (hf : fitsB s.st k = true) : Left (addS s k t) := by
  rcases h with h | ⟨h5, h0, h1, h2⟩
  · left
    unfold addS addWordS endRuleS endAtomS
    repeat' split
    all_goals simp_all
  · by_cases k1 : k = 1 ∨ k = 2
    · right
      unfold addS addWordS
      rw [if_pos k1]
      by_cases h3 : s.st = 3
      · rw [if_pos h3]
        have := h2 (by omega)
        refine ⟨by simp, by simp, ?_, fun _ => ?_⟩ <;> simp only [grow_len] <;> omega
      · rw [if_neg h3]
        refine ⟨by simp, by simp, ?_, fun _ => ?_⟩ <;> simp <;> omega
    · unfold addS
      rw [if_neg k1]
      by_cases k3 : k = 3
      · rw [if_pos k3]
        have hs : s.st = 2 := by unfold fitsB at hf; subst k3; split at hf <;> simp_all
        have := h2 (by omega)
        exact .inr ⟨by simp, by simp, h1, fun _ => this⟩
      · rw [if_neg k3]
        by_cases k4 : k = 4
        · rw [if_pos k4]
          have hs : s.st = 4 := by unfold fitsB at hf; subst k4; simp at hf; by_cases h4 : s.st = 4; exact h4; simp_all
          have := h2 (by omega)
          right
          unfold endAtomS
          rw [if_neg (by omega)]
          exact ⟨by simp, by simp, h1, fun _ => this⟩
        · rw [if_neg k4]
          by_cases k5 : k = 5
          · rw [if_pos k5]
            right
            by_cases hs : s.st = 4
            · rw [if_pos hs]
              have := h2 (by omega)
              exact ⟨by simp, by simp, h1, fun _ => this⟩
            · rw [if_neg hs]
              exact ⟨by simp, by simp, h1, fun h => absurd rfl h⟩
          · rw [if_neg k5]
            by_cases k7 : k = 7
            · rw [if_pos k7]; exact .inr ⟨by simp, by simp, h1, fun h => absurd rfl h⟩
            · rw [if_neg k7]
              by_cases k6 : k = 6
              · rw [if_pos k6]
                left
                unfold endRuleS
                cases ha : s.atoms with
                | nil => rw [ha] at h1; simp at h1
                | cons a l => simp
              · rw [if_neg k6]; exact .inr ⟨h5, h0, h1, h2⟩
theorem left_none : ∀ (r : List Tok) (s : PSt), Left s → codeAt s r = none
  | [], s, h => by
    unfold codeAt foldP
    simp only
    rw [if_neg]
    rintro ⟨a, b⟩
    rcases h with h | h
    · exact h b
    · exact h.1 a
  | x :: r, s, h => by
    by_cases hf : fitsB s.st x.kind = true
    · by_cases he : exceedsB s.st x.runes s.rules.length s.atoms.length (lastLen s.atoms) = true
      · exact code_bad (by rw [take_big hf he]; simp)
      · rw [Bool.not_eq_true] at he
        rw [code_ok hf he]
        exact left_none r _ (left_add h hf)
    · rw [Bool.not_eq_true] at hf
      exact code_bad (by rw [take_bad hf]; simp)
/-- Behind the bracket. -/
theorem code_five (a : Am) (vs : List ByteArray) (r : List Tok) : codeAt ⟨5, [], [a], vs⟩ r = if r = [] then some a else none := by
  cases r with
  | nil => unfold codeAt foldP; simp
  | cons x r =>
    rw [if_neg (by simp)]
    by_cases hf : fitsB 5 x.kind = true
    · by_cases he : exceedsB 5 x.runes 0 1 (lastLen [a]) = true
      · exact code_bad (s := ⟨5, [], [a], vs⟩) (by rw [take_big hf he]; simp)
      · rw [Bool.not_eq_true] at he
        rw [code_ok (s := ⟨5, [], [a], vs⟩) hf he]
        apply left_none
        have hk : x.kind = 7 ∨ x.kind = 6 := by unfold fitsB at hf; simpa using hf
        rcases hk with hk | hk
        · rw [hk]; right; unfold addS; simp
        · rw [hk]; left; unfold addS endRuleS; simp
    · rw [Bool.not_eq_true] at hf
      exact code_bad (s := ⟨5, [], [a], vs⟩) (by rw [take_bad hf]; simp)
theorem ref_six {E : RT} (hE : E.kind = 4) {l : Lk} (hw : l.want = 6) (r : List Tok) : okR E l r ↔ r = [] := by
  cases r with
  | nil => simp only [iff_true]; unfold okR overR acceptsB; simp [hE, hw]
  | cons x r =>
    simp only [reduceCtorEq, iff_false]
    apply ref_bad
    unfold stepD nextR
    simp [hw]
def wordB (x : Tok) : Prop := (x.kind = 1 ∨ x.kind = 2) ∧ x.runes ≤ 8
/-- At an argument. -/
theorem ref_arg {E : RT} {l : Lk} (hw : l.want = 3) (he : l.e = 0) (x : Tok) (r : List Tok) : (wordB x ∧ l.args + 1 ≤ 2 → (okR E l (x :: r) ↔ okR E { l with args := l.args + 1, want := 4 } r)) ∧ (¬ (wordB x ∧ l.args + 1 ≤ 2) → ¬ okR E l (x :: r)) := by
  constructor
  · rintro ⟨⟨hk, hr⟩, h2⟩
    refine ref_ok ?_ he
    have hk' : kmap x.kind = 1 ∨ kmap x.kind = 2 := by rcases hk with h | h <;> rw [h] <;> decide
    unfold stepD startsR startsL overMost toRT
    simp [hw]
    rw [if_neg (by omega), if_neg (by omega)]
  · intro h
    apply ref_bad
    have hm1 := kmap_1 x.kind
    have hm2 := kmap_2 x.kind
    unfold stepD startsR startsL overMost toRT
    unfold wordB at h
    simp [hw]
    split
    · simp
    · rw [if_pos (by omega)]; simp
theorem code_arg (rel : ByteArray) (l : List Tm) (vs : List ByteArray) (x : Tok) (r : List Tok) : (wordB x ∧ l.length + 1 ≤ 2 → codeAt ⟨3, [], [⟨rel, l⟩], vs⟩ (x :: r) = codeAt ⟨4, [], [⟨rel, l ++ [termT vs x.kind x.text]⟩], termVs vs x.kind x.text⟩ r) ∧ (l.length ≤ 2 → ¬ (wordB x ∧ l.length + 1 ≤ 2) → codeAt ⟨3, [], [⟨rel, l⟩], vs⟩ (x :: r) = none) := by
  constructor
  · rintro ⟨⟨hk, hr⟩, h2⟩
    rw [code_ok (s := ⟨3, [], [⟨rel, l⟩], vs⟩) (by unfold fitsB; rcases hk with h | h <;> simp [h]) (by unfold exceedsB lastLen; simp; omega)]
    congr 1
    unfold addS addWordS growLast
    simp [hk]
  · intro h2 h
    by_cases hk : x.kind = 1 ∨ x.kind = 2
    · refine code_bad (s := ⟨3, [], [⟨rel, l⟩], vs⟩) ?_
      rw [take_big (by unfold fitsB; rcases hk with h | h <;> simp [h]) (by unfold exceedsB lastLen; unfold wordB at h; simp; omega)]
      simp
    · refine code_bad (s := ⟨3, [], [⟨rel, l⟩], vs⟩) ?_
      rw [take_bad (by unfold fitsB; simp; omega)]; simp
/-- Behind an argument. -/
theorem ref_behind {E : RT} {l : Lk} (hw : l.want = 4) (ha : l.alone = true) (he : l.e = 0) (x : Tok) (r : List Tok) : (x.kind = 5 → (okR E l (x :: r) ↔ okR E { l with want := 3 } r)) ∧ (x.kind = 4 → (okR E l (x :: r) ↔ okR E { l with want := 6 } r)) ∧ (x.kind ≠ 5 → x.kind ≠ 4 → ¬ okR E l (x :: r)) := by
  refine ⟨fun h => ref_ok ?_ he, fun h => ref_ok ?_ he, fun h h' => ref_bad ?_⟩
  · unfold stepD nextR toRT kmap; simp [hw, h]
  · unfold stepD nextR toRT kmap; simp [hw, h, ha]
  · have hm := kmap_44 x.kind
    have hm1 := kmap_41 x.kind
    unfold stepD nextR toRT; simp [hw]
    rw [if_neg (by omega), if_neg (by omega)]; simp
theorem code_behind (a : Am) (vs : List ByteArray) (x : Tok) (hf : TokFine x) (r : List Tok) : (x.kind = 5 → codeAt ⟨4, [], [a], vs⟩ (x :: r) = codeAt ⟨3, [], [a], vs⟩ r) ∧ (x.kind = 4 → codeAt ⟨4, [], [a], vs⟩ (x :: r) = codeAt ⟨5, [], [a], vs⟩ r) ∧ (x.kind ≠ 5 → x.kind ≠ 4 → codeAt ⟨4, [], [a], vs⟩ (x :: r) = none) := by
  refine ⟨fun h => ?_, fun h => ?_, fun h h' => ?_⟩
  · unfold TokFine at hf
    rw [code_ok (s := ⟨4, [], [a], vs⟩) (by unfold fitsB; simp [h]) (by unfold exceedsB; simp; omega)]
    unfold addS; simp [h]
  · unfold TokFine at hf
    rw [code_ok (s := ⟨4, [], [a], vs⟩) (by unfold fitsB; simp [h]) (by unfold exceedsB; simp; omega)]
    unfold addS endAtomS; simp [h]
  · refine code_bad (s := ⟨4, [], [a], vs⟩) ?_
    rw [take_bad (by unfold fitsB; simp [h, h'])]; simp
theorem ref_end3 {E : RT} (hE : E.kind = 4) {l : Lk} (hw : l.want = 3 ∨ l.want = 4 ∨ l.want = 2) : ¬ okR E l [] := by
  show ¬ (overR l [E]).1 = 0
  unfold overR acceptsB
  rw [if_neg (by simp; omega)]
  have : (stepD l E).e = 2 := by
    unfold stepD startsR startsL nextR
    rcases hw with h | h | h <;> simp [h, hE]
  simp [this]
theorem code_end {s : PSt} (h : s.st ≠ 5) : codeAt s [] = none := by unfold codeAt foldP; simp [h]

theorem one_tokens (E : RT) (hE : E.kind = 4) (ts : List Tok) (hf : ∀ x ∈ ts, TokFine x) : (okR E (lk0 true) ts → codeAt pst0 ts = oneOf (ts.map toRT ++ [E])) ∧ (¬ okR E (lk0 true) ts → codeAt pst0 ts = none) := by
  cases ts with
  | nil =>
    have hn : ¬ okR E (lk0 true) [] := by unfold okR overR acceptsB stepD startsR startsL lk0; simp [hE]
    exact ⟨fun h => absurd h hn, fun _ => code_end (by simp [pst0])⟩
  | cons x1 ts =>
    by_cases h1 : x1.kind = 1 ∧ x1.runes ≤ 8
    · have r1 : okR E (lk0 true) (x1 :: ts) ↔ okR E ⟨2, false, true, 1, 0, 0, 0⟩ ts := ref_ok (by unfold stepD startsR startsL overMost toRT kmap lk0; simp [h1.1]; omega) rfl
      have c1 : codeAt pst0 (x1 :: ts) = codeAt ⟨2, [], [⟨x1.text, []⟩], []⟩ ts := by
        rw [code_ok (s := pst0) (by unfold fitsB pst0; simp [h1.1]) (by unfold exceedsB pst0; simp; omega)]
        unfold addS addWordS pst0; simp [h1.1]
      rw [r1, c1]
      cases ts with
      | nil => exact ⟨fun h => absurd h (ref_end3 hE (.inr (.inr rfl))), fun _ => code_end (by simp [pst0])⟩
      | cons x2 ts =>
        have f2 := hf x2 (by simp)
        by_cases h2 : x2.kind = 3
        · have r2 : okR E ⟨2, false, true, 1, 0, 0, 0⟩ (x2 :: ts) ↔ okR E ⟨3, false, true, 1, 0, 0, 0⟩ ts := ref_ok (by unfold stepD nextR toRT kmap; simp [h2]) rfl
          have c2 : codeAt ⟨2, [], [⟨x1.text, []⟩], []⟩ (x2 :: ts) = codeAt ⟨3, [], [⟨x1.text, []⟩], []⟩ ts := by
            rw [code_ok (s := ⟨2, [], [⟨x1.text, []⟩], []⟩) (by unfold fitsB; simp [h2]) (by unfold exceedsB; unfold TokFine at f2; simp; omega)]
            unfold addS; simp [h2]
          rw [r2, c2]
          cases ts with
          | nil => exact ⟨fun h => absurd h (ref_end3 hE (.inl rfl)), fun _ => code_end (by simp [pst0])⟩
          | cons x3 ts =>
            have ra := ref_arg (E := E) (l := ⟨3, false, true, 1, 0, 0, 0⟩) rfl rfl x3 ts
            have ca := code_arg x1.text [] [] x3 ts
            by_cases h3 : wordB x3
            · obtain ⟨e1, e2⟩ := argT_term [] x3 h3.1
              rw [ra.1 ⟨h3, by simp⟩, ca.1 ⟨h3, by simp⟩]
              cases ts with
              | nil => exact ⟨fun h => absurd h (ref_end3 hE (.inr (.inl rfl))), fun _ => code_end (by simp [pst0])⟩
              | cons x4 ts =>
                have rb := ref_behind (E := E) (l := ⟨4, false, true, 1, 0, 0 + 1, 0⟩) rfl rfl rfl x4 ts
                have cb := code_behind ⟨x1.text, [] ++ [termT [] x3.kind x3.text]⟩ (termVs [] x3.kind x3.text) x4 (hf x4 (by simp)) ts
                by_cases h4 : x4.kind = 4
                · have e4 : (toRT x4).kind = 41 := (kmap_41 _).2 h4
                  rw [rb.2.1 h4, cb.2.1 h4, ref_six hE rfl, code_five]
                  refine ⟨fun h => ?_, fun h => by rw [if_neg h]⟩
                  rw [if_pos h]
                  subst h
                  simp only [List.map_cons, List.map_nil, List.cons_append, List.nil_append]
                  unfold oneOf argsR
                  simp only [if_pos e4, e1]
                  rw [toRT_name h1.1]
                · by_cases h5 : x4.kind = 5
                  · rw [rb.1 h5, cb.1 h5]
                    have e4 : (toRT x4).kind ≠ 41 := fun h => h4 ((kmap_41 _).1 h)
                    cases ts with
                    | nil => exact ⟨fun h => absurd h (ref_end3 hE (.inl rfl)), fun _ => code_end (by simp [pst0])⟩
                    | cons x5 ts =>
                      have ra := ref_arg (E := E) (l := ⟨3, false, true, 1, 0, 0 + 1, 0⟩) rfl rfl x5 ts
                      have ca := code_arg x1.text ([] ++ [termT [] x3.kind x3.text]) (termVs [] x3.kind x3.text) x5 ts
                      by_cases h6 : wordB x5
                      · obtain ⟨e5, e6⟩ := argT_term (termVs [] x3.kind x3.text) x5 h6.1
                        rw [ra.1 ⟨h6, by simp⟩, ca.1 ⟨h6, by simp⟩]
                        cases ts with
                        | nil => exact ⟨fun h => absurd h (ref_end3 hE (.inr (.inl rfl))), fun _ => code_end (by simp [pst0])⟩
                        | cons x6 ts =>
                          have rb := ref_behind (E := E) (l := ⟨4, false, true, 1, 0, 0 + 1 + 1, 0⟩) rfl rfl rfl x6 ts
                          have cb := code_behind ⟨x1.text, [] ++ [termT [] x3.kind x3.text] ++ [termT (termVs [] x3.kind x3.text) x5.kind x5.text]⟩ (termVs (termVs [] x3.kind x3.text) x5.kind x5.text) x6 (hf x6 (by simp)) ts
                          by_cases h7 : x6.kind = 4
                          · have e7 : (toRT x6).kind = 41 := (kmap_41 _).2 h7
                            rw [rb.2.1 h7, cb.2.1 h7, ref_six hE rfl, code_five]
                            refine ⟨fun h => ?_, fun h => by rw [if_neg h]⟩
                            rw [if_pos h]
                            subst h
                            simp only [List.map_cons, List.map_nil, List.cons_append, List.nil_append]
                            unfold oneOf argsR
                            simp only [if_neg e4]
                            unfold argsR
                            simp only [if_pos e7, e1, e2, e5]
                            rw [toRT_name h1.1]
                          · by_cases h8 : x6.kind = 5
                            · rw [rb.1 h8, cb.1 h8]
                              cases ts with
                              | nil => exact ⟨fun h => absurd h (ref_end3 hE (.inl rfl)), fun _ => code_end (by simp [pst0])⟩
                              | cons x7 ts =>
                                have ra := ref_arg (E := E) (l := ⟨3, false, true, 1, 0, 0 + 1 + 1, 0⟩) rfl rfl x7 ts
                                have ca := code_arg x1.text ([] ++ [termT [] x3.kind x3.text] ++ [termT (termVs [] x3.kind x3.text) x5.kind x5.text]) (termVs (termVs [] x3.kind x3.text) x5.kind x5.text) x7 ts
                                exact ⟨fun h => absurd h (ra.2 (by simp)), fun _ => ca.2 (by simp) (by simp)⟩
                            · exact ⟨fun h => absurd h (rb.2.2 h8 h7), fun _ => cb.2.2 h8 h7⟩
                      · exact ⟨fun h => absurd h (ra.2 (fun h => h6 h.1)), fun _ => ca.2 (by simp) (fun h => h6 h.1)⟩
                  · exact ⟨fun h => absurd h (rb.2.2 h5 h4), fun _ => cb.2.2 h5 h4⟩
            · exact ⟨fun h => absurd h (ra.2 (fun h => h3 h.1)), fun _ => ca.2 (by simp) (fun h => h3 h.1)⟩
        · refine ⟨fun h => absurd h (ref_bad ?_), fun _ => ?_⟩
          · have := kmap_40 x2.kind
            unfold stepD nextR toRT; simp; rw [if_neg (by omega)]; simp
          · refine code_bad (s := ⟨2, [], [⟨x1.text, []⟩], []⟩) ?_
            rw [take_bad (by unfold fitsB; simp [h2])]; simp
    · refine ⟨fun h => absurd h (ref_bad ?_), fun _ => ?_⟩
      · have := kmap_1 x1.kind
        by_cases hk : kmap x1.kind = 1
        · have hr : 8 < x1.runes := by omega
          unfold stepD startsR startsL overMost toRT lk0
          simp [hk, hr]
        · unfold stepD startsR startsL overMost toRT lk0
          simp [hk]
      · refine code_bad (s := pst0) ?_
        by_cases hk : x1.kind = 1
        · rw [take_big (by unfold fitsB pst0; simp [hk]) (by unfold exceedsB; simp; omega)]; simp
        · rw [take_bad (by unfold fitsB pst0; simp [hk])]; simp

theorem one_same (s : ByteArray) : oneD s = atomR s := by
  have hz : (R s 0).length ≤ 300 → s.size ≤ 1200 := fun h => by have := size_le_runes s; rw [← runes_count] at this; omega
  unfold oneD atomR
  rw [← runes_count]
  by_cases h3 : 300 < (R s 0).length
  · rw [if_pos h3, if_pos h3]
  · rw [if_neg h3, if_neg h3]
    have hts := refToks_toks s (hz (by omega))
    have h := one_tokens ⟨4, ⟨#[]⟩, (R s 0).length, 0⟩ rfl (toks s.size s 0) (toks_fine s.size s 0)
    rw [hts]
    unfold okR at h
    unfold codeAt at h
    by_cases ho : (overR (lk0 true) ((toks s.size s 0).map toRT ++ [⟨4, ⟨#[]⟩, (R s 0).length, 0⟩])).1 = 0
    · rw [if_neg (by simpa using ho), ← h.1 ho]
      split <;> simp_all
    · rw [if_pos ho]
      have := h.2 ho
      split <;> simp_all

end Go.Proofs.YtjajnhemgphefaaGreatDoor

namespace Go.Proofs.YtjajnhemgphefaaGreatDoor
open Go.RowKit Go.Shelf
set_option linter.unusedVariables false
set_option linter.unusedSimpArgs false

def amongB (l : List ByteArray) (x : ByteArray) : Bool := l.any (sameB x)

/-- Records of what stands in the one list and not in the other. -/
def changeL (kind : Int) (these those : List ByteArray) : List Rc := (these.filter (fun x => !amongB those x)).map (fun x => ⟨kind, 0, x, 0⟩)
end Go.Proofs.YtjajnhemgphefaaGreatDoor

namespace Go.Proofs.YtjajnhemgphefaaGreatDoor
open Go.RowKit Go.Shelf
set_option linter.unusedVariables false
set_option linter.unusedSimpArgs false

/-- What was a row stays one, whatever is put behind it. -/
theorem append_old {P : Program} (w : World) (base : Nat) (t ty e : TypeId) (i : TypeInfo) (z : Value) (ht : P.underlying t = some (.slice e)) (hi : P.info? e = some i) (hz : i.zero = some z)
    (v : Value) (n : Nat) (xs : List Value) (hown : w.ownsRow base e i.size v n xs)
    (a : Addr) (m c : Nat) (news : List Value) (hl : news.length = m * i.size) (hnews : ∀ j u, news[j]? = some u → w.cell? (a.add j) = some u) (h1 : ∀ u ∈ news, u.oneCell' = true)
    (h63 : n + m ≤ maxLen) (hbytes : (n + m) * i.bytes ≤ 140737488355328) {v' : Value} {w' : World} (hrun : (Builtin.append_ #[t, t] ty #[v, .slice (some a) m c]).run P w = .ok v' w') : w'.ownsRow base e i.size v n xs := by
  have hsmall : n + m ≤ 9223372036854775807 := by simp only [maxLen] at h63; omega
  have hown' := hown
  obtain ⟨hx, ⟨rfl, rfl⟩ | ⟨g, cap, cur, rfl, hbg, hg, hnc, hcm, hcs, htake⟩⟩ := hown
  · exact ⟨hx, .inl ⟨rfl, rfl⟩⟩
  · by_cases hroom : n + m ≤ cap
    · have hfit : n * i.size + news.length ≤ cur.size := by rw [hl, hcs, ← Nat.add_mul]; exact Nat.mul_le_mul_right _ hroom
      rw [run_append_room (P := P) w t ty e i ht hi g n cap cur hg a m c news hl hnews h1 hroom hfit] at hrun
      cases hrun
      refine ⟨hx, .inr ⟨g, cap, _, rfl, hbg, setRow_heap w g cur _ e _ hg, hnc, hcm, ?_, ?_⟩⟩
      · simp only [List.size_toArray, List.length_append, List.length_take, List.length_drop, Array.length_toList]
        omega
      · rw [htake, List.append_assoc, ← hx]
        exact List.take_left
    · have holds : ∀ j u, xs[j]? = some u → w.cell? ((⟨g, 0, none⟩ : Addr).add j) = some u := hown'.cells (g := g) rfl
      rw [run_append_grow (P := P) w t ty e i z ht hi hz ⟨g, 0, none⟩ n cap xs hx holds a m c news hl hnews (by omega) (by omega) (growslice_fits (by omega) hbytes)] at hrun
      cases hrun
      refine ⟨hx, .inr ⟨g, cap, cur, rfl, hbg, ?_, hnc, hcm, hcs, htake⟩⟩
      exact (Below.heap_alloc w.drew _ g (Array.getElem?_eq_some_iff.1 hg).1).trans hg
theorem wpl_appendO {P : Program} (w : World) {ops : Array Oper} {rest : List Oper} {o : Oper} {a : Act} {Q : Exit → Act → World → Prop} (hgd : o.guard = none) (s x : Operand) (t : TypeId)
    (ho : o.op = .call { callee := .builtin .append, args := #[s, x], argTypes := #[t, t] }) (base : Nat) (e : TypeId) (i : TypeInfo) (z : Value) (size bytes : Nat) (h1 : P.underlying t = some (.slice e)) (h2 : P.info? e = some i) (h3 : i.zero = some z) (h4 : i.size = size) (h5 : i.bytes = bytes) (h6 : z.cells.size = size) (h7 : 0 < size)
    (v : Value) (n : Nat) (xs : List Value) (hs : a.eval s = v) (hown : w.ownsRow base e size v n xs)
    (ad : Addr) (m c : Nat) (news : List Value) (hx : a.eval x = .slice (some ad) m c) (hn : news.length = m * size) (hc : ∀ j u, news[j]? = some u → w.cell? (ad.add j) = some u) (h1c : ∀ u ∈ news, u.oneCell' = true)
    (b1 : n + m ≤ maxLen) (b2 : (n + m) * bytes ≤ 140737488355328) (hbase : base ≤ w.heap.size)
    (h : ∀ v' w', w'.ownsRow base e size v' (n + m) (xs ++ news) → w'.ownsRow base e size v n xs → w.grownBy w' v.ownBlock → (v'.ownBlock = v.ownBlock ∨ v'.ownBlock = some w.heap.size) → wpList P ops Q rest (a.put o.dst v') w') : wpList P ops Q (o :: rest) a w := by
  refine wpList_plain hgd fun K hK' => ?_
  obtain ⟨v', w', hrun, r1, r2, _, r3⟩ := run_append_own_at (P := P) w base t o.type e i z size bytes h1 h2 h3 h4 h5 h6 h7 v n xs hown ad m c news hn hc h1c b1 b2 hbase
  subst h4 h5
  have r4 := append_old w base t o.type e i z h1 h2 h3 v n xs hown ad m c news hn hc h1c b1 b2 hrun
  unfold Oper.wp
  simp [execOp, ho, resolve, invoke, builtin, hs, hx, hrun, Result.andThen]
  exact hK' _ _ (h v' w' r1 r4 r2 r3)

set_option maxRecDepth 100000 in
set_option maxHeartbeats 4000000 in
theorem addedB_any (B : Nat) (v : Value) (vs : List ByteArray) (x : ByteArray) (w : World) (hB : B ≤ w.heap.size) (hl : vs.length ≤ 1000000) (hown : w.ownsRow B 9 1 v vs.length (vs.map Value.string)) :
    Calls Tryz.prog 119 #[v, .string x] w fun e w' => ∃ v', e = .returned v' ∧ w'.ownsRow B 9 1 v' (seenL vs x).length ((seenL vs x).map Value.string) ∧ w'.ownsRow B 9 1 v vs.length (vs.map Value.string) ∧ w.grownBy w' v.ownBlock ∧ (v'.ownBlock = v.ownBlock ∨ ∀ g, v'.ownBlock = some g → w.heap.size ≤ g) := by
  obtain ⟨i0, hi, hz0, hz1, hz2⟩ := info_parts Tryz.infoStr
  obtain ⟨a, c, hv⟩ := own_form hown
  have hcells : ∀ (j : Nat) (hj : j < vs.length), ∃ g, a = some ⟨g, 0, none⟩ ∧ w.cell? ⟨g, j, none⟩ = some (.string vs[j]) := by
    intro j hj
    have h2 := hown
    rw [strs_flat] at h2
    obtain ⟨g, cap, e1, e2, e3, e4, e5⟩ := own_get h2 strC_len (by omega)
    rw [hv] at e1
    cases e1
    have := e5 j 0 hj (.string vs[j]) (by decide) rfl
    rw [Nat.mul_one, Nat.add_zero] at this
    exact ⟨g, rfl, this⟩
  subst hv
  have HO : Hid (w.ownsRow B 9 1 (.slice a vs.length c) vs.length (vs.map Value.string)) := hown
  have HC : Hid _ := hcells
  clear hown hcells
  go_enter Tryz.func119, Tryz.ntmps119
  go_wp2
  go_loopw [5] (fun p wr => ∃ i : Nat, p = .int .i64 i ∧ i ≤ vs.length ∧ wr = w ∧ Hid (∀ (j : Nat) (hj : j < vs.length), j < i → sameB x vs[j] = false)) (fun p _ => vs.length - (intOf p).toNat)
  case atStart => exact ⟨0, rfl, Nat.zero_le _, rfl, fun j hj h => by omega⟩
  case round =>
    obtain ⟨i, rfl, hle, rfl, hno⟩ := hrel
    by_cases hlt : i < vs.length
    · obtain ⟨g, rfl, hcell⟩ := HC.out i hlt
      obtain ⟨y, hy⟩ : ∃ y, vs[i] = y := ⟨_, rfl⟩
      rw [hy] at hcell
      have HY : Hid (vs[i] = y) := hy
      clear hy
      by_cases hs : sameB x y = true
      · have hN := seenN_hit vs x i hlt (by rw [HY.out]; exact hs) hno.out
        have HN : Hid _ := hN
        clear hN
        unfold sameB at hs
        go_wp2
        go_ret
        have hL : seenL vs x = vs := by unfold seenL; rw [if_pos (by rw [HN.out]; exact hlt)]
        rw [hL]
        exact ⟨_, rfl, HO.out, HO.out, World.grownBy.refl _ _, .inl rfl⟩
      · have hs' : sameB x y = false := by simpa using hs
        have hno' : Hid (∀ (j : Nat) (hj : j < vs.length), j < i + 1 → sameB x vs[j] = false) := by
          intro j hj hji
          by_cases e : j = i
          · subst e; rw [HY.out]; exact hs'
          · exact hno.out j hj (by omega)
        unfold sameB at hs'
        clear hs
        go_wp2
        go_roundw
        case rel => exact ⟨i + 1, by go_num, by omega, by trivial, hno'⟩
        case measure => simp [intOf]; omega
    · have hN := seenN_miss vs x (fun j hj => hno.out j hj (by omega))
      have hL : seenL vs x = vs ++ [x] := by unfold seenL; rw [if_neg (by omega)]
      have HL : Hid (seenL vs x = vs ++ [x]) := hL
      have hc3 : vs.length + 1 ≤ maxLen := by unfold maxLen; omega
      have hc4 : (vs.length + 1) * 16 ≤ 140737488355328 := by omega
      have hc5 : Hid (∀ O, B ≤ (wr.alloc O).heap.size) := fun O => by simp; omega
      have h1c : ∀ u ∈ [Value.string x], u.oneCell' = true := by simp [Value.oneCell']
      clear hN hL
      go_wp2_with (at_builtin; refine wpl_appendO _ rfl (.tmp 19) (.tmp 21) 22 rfl B 9 i0 (.string ⟨#[]⟩) 1 16 Tryz.underlying22 hi hz0 hz1 hz2 rfl (by decide) _ _ _ rfl (HO.out.alloc _) ⟨wr.heap.size, 0, none⟩ 1 1 [.string x] rfl rfl (one_new _ _ _) h1c hc3 hc4 (hc5.out _) ?_; intro v' w1 hown1 hold1 hgrow1 hat1)
      go_ret
      rw [HL.out]
      refine ⟨v', rfl, ?_, hold1, ?_, ?_⟩
      · simpa using hown1
      · exact ⟨hgrow1.os, hgrow1.tape, hgrow1.output, by have := hgrow1.size; simp at this; omega, fun k hk hn => (hgrow1.block k (by simp; omega) hn).trans (Below.heap_alloc _ _ _ hk)⟩
      · rcases hat1 with h | h
        · exact .inl h
        · exact .inr (fun g hg => by rw [h] at hg; cases hg; simp)

end Go.Proofs.YtjajnhemgphefaaGreatDoor

namespace Go.Proofs.YtjajnhemgphefaaGreatDoor
open Go.RowKit Go.Shelf
set_option linter.unusedVariables false
set_option linter.unusedSimpArgs false

/-- A feed of the document's own engine. -/
structure Fr where
  rel : ByteArray
  behind : Bool
  snap : List Rc
  que : List Rc
  next : Nat
/-- The document's own engine, in plain data; facts: the atom, its time, whether the state is made of it. -/
structure Er where
  rs : List Rl
  win : Int
  lat : Int
  que : Int
  clock : Int
  mark : Int
  facts : List (Gr × Int × Bool)
  names : List ByteArray
  state : List Gr
  feeds : List Fr
def fcC (p : (Gr × Int × Bool) × Value) : List Value := [.string p.1.1.rel, p.2, .int .i64 p.1.2.1, .bool p.1.2.2]
def frC (p : Fr × Value × Value) : List Value := [.string p.1.rel, .bool p.1.behind, p.2.1, p.2.2, .int .i64 (p.1.next : Int)]
/-- A row of records, wherever in its block it begins. -/
def RcIn (W : World) (v : Value) (l : List Rc) : Prop := (v = .slice none 0 0 ∧ l = []) ∨
  ∃ g off cap cur, v = .slice (some ⟨g, off, none⟩) l.length cap ∧ W.heap[g]? = some (Obj.cells cur 71 (0, 0)) ∧ l.length ≤ cap ∧ cap ≤ maxLen ∧ off + cap * 4 ≤ cur.size ∧ (cur.toList.drop off).take (l.length * 4) = l.flatMap Rc.c
theorem RcIn.keep {W W' : World} {v : Value} {l : List Rc} (h : RcIn W v l) (hk : ∀ g, v.ownBlock = some g → W'.heap[g]? = W.heap[g]?) : RcIn W' v l := by
  rcases h with h | ⟨g, off, cap, cur, rfl, h2, h3⟩
  · exact .inl h
  · exact .inr ⟨g, off, cap, cur, rfl, (hk g rfl).trans h2, h3⟩
theorem RcIn.own {W : World} {b : Nat} {v : Value} {l : List Rc} (h : W.ownsRow b 71 4 v l.length (l.flatMap Rc.c)) : RcIn W v l := by
  obtain ⟨_, ⟨hv, hn⟩ | ⟨g, cap, cur, hv, _, hh, h1, h2, h3, h4⟩⟩ := h
  · exact .inl ⟨hv, List.eq_nil_of_length_eq_zero hn⟩
  · exact .inr ⟨g, 0, cap, cur, hv, hh, h1, h2, by omega, by rw [List.drop_zero]; exact h4⟩
/-- Rules are kept wherever blocks of their kinds are. -/
def KeepR (W W' : World) : Prop := ∀ (k : Nat) (c : Array Value) (t : TypeId), (t = 148 ∨ t = 145 ∨ t = 215) → W.heap[k]? = some (Obj.cells c t (0, 0)) → W'.heap[k]? = W.heap[k]?
theorem RulesIn.keep {W W' : World} {v : Value} {qs : List (Rl × Value × Value)} (h : RulesIn W v qs) (hk : KeepR W W') : RulesIn W' v qs := by
  have hrow : ∀ {B T m n : Nat} {v : Value} {xs : List Value}, (T = 148 ∨ T = 145 ∨ T = 215) → W.ownsRow B T m v n xs → W'.ownsRow B T m v n xs := fun hT ho => own_keep ho (fun g hg _ => by
    obtain ⟨c, hc⟩ := own_cells ho hg
    exact hk g c _ hT hc)
  refine ⟨hrow (.inl rfl) h.row, fun q hq => ?_⟩
  obtain ⟨h1, ps, h2, h3⟩ := h.each q hq
  exact ⟨hrow (.inr (.inr rfl)) h1, ps, h2, ⟨hrow (.inr (.inl rfl)) h3.row, fun p hp => hrow (.inr (.inr rfl)) (h3.each p hp)⟩⟩
/-- The document's own engine at block b; T: all that is its own (its rules' rows are nobody's to write). -/
structure ErAt (W : World) (T : Nat → Prop) (b : Nat) (y : Er) (vr vf vn vs vd : Value) (qs : List (Rl × Value × Value)) (fs : List ((Gr × Int × Bool) × Value)) (ss : List (Gr × Value)) (ds : List (Fr × Value × Value)) : Prop where
  box : W.heap[b]? = some (Obj.cells #[vr, .int .i64 y.win, .int .i64 y.lat, .int .i64 y.que, .int .i64 y.clock, .int .i64 y.mark, vf, vn, vs, vd] 222 (0, 0))
  own : T b
  lt : ∀ k, T k → k < W.heap.size
  rules : RulesIn W vr qs
  rsm : qs.map (·.1) = y.rs
  facts : W.ownsRow 0 233 4 vf fs.length (fs.flatMap fcC)
  factsT : ∀ g, vf.ownBlock = some g → T g
  factsm : fs.map (·.1) = y.facts
  facte : ∀ p ∈ fs, StrsIn W p.2 p.1.1.args ∧ ∀ g, p.2.ownBlock = some g → T g
  names : StrsIn W vn y.names
  namesT : ∀ g, vn.ownBlock = some g → T g
  state : GdsIn W vs ss
  stateT : ∀ g, vs.ownBlock = some g → T g
  statem : ss.map (·.1) = y.state
  statee : ∀ p ∈ ss, ∀ g, p.2.ownBlock = some g → T g
  feeds : W.ownsRow 0 246 5 vd ds.length (ds.flatMap frC)
  feedsT : ∀ g, vd.ownBlock = some g → T g
  feedsm : ds.map (·.1) = y.feeds
  feede : ∀ p ∈ ds, (RcIn W p.2.1 p.1.snap ∧ ∀ g, p.2.1.ownBlock = some g → T g) ∧ RcIn W p.2.2 p.1.que ∧ ∀ g, p.2.2.ownBlock = some g → T g
  sepN : ∀ g, vn.ownBlock = some g → (∀ p ∈ fs, p.2.ownBlock ≠ some g) ∧ ∀ p ∈ ss, p.2.ownBlock ≠ some g
  sepQ : ∀ (i j : Nat) (p q : Fr × Value × Value) (g : Nat), ds[i]? = some p → ds[j]? = some q → p.2.2.ownBlock = some g → (i ≠ j → q.2.2.ownBlock ≠ some g) ∧ q.2.1.ownBlock ≠ some g
def ErM (W : World) (T : Nat → Prop) (b : Nat) (y : Er) : Prop := ∃ vr vf vn vs vd qs fs ss ds, ErAt W T b y vr vf vn vs vd qs fs ss ds
/-- What changes elsewhere leaves it as it is. -/
theorem ErAt.keep {W W' : World} {T : Nat → Prop} {b : Nat} {y : Er} {vr vf vn vs vd : Value} {qs : List (Rl × Value × Value)} {fs : List ((Gr × Int × Bool) × Value)} {ss : List (Gr × Value)} {ds : List (Fr × Value × Value)} (h : ErAt W T b y vr vf vn vs vd qs fs ss ds) (hz : W.heap.size ≤ W'.heap.size) (hk : ∀ k, T k → W'.heap[k]? = W.heap[k]?) (hr : KeepR W W') : ErAt W' T b y vr vf vn vs vd qs fs ss ds := by
  have hrow : ∀ {B U m n : Nat} {v : Value} {xs : List Value}, (∀ g, v.ownBlock = some g → T g) → W.ownsRow B U m v n xs → W'.ownsRow B U m v n xs := fun hT ho => own_keep ho (fun g hg _ => hk g (hT g hg))
  exact ⟨(hk b h.own).trans h.box, h.own, fun k hk' => Nat.lt_of_lt_of_le (h.lt k hk') hz, h.rules.keep hr, h.rsm, hrow h.factsT h.facts, h.factsT, h.factsm, fun p hp => ⟨hrow (h.facte p hp).2 (h.facte p hp).1, (h.facte p hp).2⟩, hrow h.namesT h.names, h.namesT, ⟨hrow h.stateT h.state.row, fun p hp => hrow (h.statee p hp) (h.state.each p hp)⟩, h.stateT, h.statem, h.statee, hrow h.feedsT h.feeds, h.feedsT, h.feedsm, fun p hp => ⟨⟨(h.feede p hp).1.1.keep (fun g hg => hk g ((h.feede p hp).1.2 g hg)), (h.feede p hp).1.2⟩, (h.feede p hp).2.1.keep (fun g hg => hk g ((h.feede p hp).2.2 g hg)), (h.feede p hp).2.2⟩, h.sepN, h.sepQ⟩
theorem KeepR.below {W W' : World} (hb : Below W.heap.size W W') : KeepR W W' := fun k c t _ hc => hb.block k (Array.getElem?_eq_some_iff.1 hc).1
theorem ErAt.below {W W' : World} {T : Nat → Prop} {b : Nat} {y : Er} {vr vf vn vs vd : Value} {qs : List (Rl × Value × Value)} {fs : List ((Gr × Int × Bool) × Value)} {ss : List (Gr × Value)} {ds : List (Fr × Value × Value)} (h : ErAt W T b y vr vf vn vs vd qs fs ss ds) (hb : Below W.heap.size W W') : ErAt W' T b y vr vf vn vs vd qs fs ss ds :=
  h.keep hb.size (fun k hk => hb.block k (h.lt k hk)) (KeepR.below hb)

end Go.Proofs.YtjajnhemgphefaaGreatDoor

namespace Go.Proofs.YtjajnhemgphefaaGreatDoor
open Go.RowKit Go.Shelf
set_option linter.unusedVariables false
set_option linter.unusedSimpArgs false

def isHead (rel : ByteArray) (r : Rl) : Bool := r.head.rel.toList == rel.toList
def basicB (rs : List Rl) (rel : ByteArray) : Bool := !(rs.any (isHead rel)) && decide (0 < arityL (amsR rs) rel)

set_option maxRecDepth 100000 in
set_option maxHeartbeats 2000000 in
theorem basic_any {W : World} {T : Nat → Prop} {b : Nat} {y : Er} {vr vf vn vs vd : Value} {qs : List (Rl × Value × Value)} {fs : List ((Gr × Int × Bool) × Value)} {ss : List (Gr × Value)} {ds : List (Fr × Value × Value)} (h : ErAt W T b y vr vf vn vs vd qs fs ss ds) (hq : qs.length ≤ 1000) (hb : ∀ q ∈ qs, q.1.body.length ≤ 900) (rel : ByteArray) :
    Calls Tryz.prog 116 #[.pointer (some ⟨b, 0, none⟩), .string rel] W fun e w' => e = .returned (.bool (basicB y.rs rel)) ∧ Below W.heap.size W w' := by
  obtain ⟨va, vc, hvr⟩ := own_form h.rules.row
  have c0 : W.cell? ⟨b, 0, none⟩ = some (.slice va qs.length vc) := by simp [World.cell?, h.box, hvr]
  have hblt : b < W.heap.size := h.lt b h.own
  have har : Hid _ := arityD_any vr qs rel W h.rules hq hb
  rw [hvr] at har
  have HR : Hid (∀ X, Below W.heap.size W X → RulesIn X (.slice va qs.length vc) qs ∧ X.cell? ⟨b, 0, none⟩ = some (.slice va qs.length vc)) := fun X hX => ⟨by rw [← hvr]; exact h.rules.below hX, (hX.cell (p := ⟨b, 0, none⟩) hblt).trans c0⟩
  have hD : Hid (∀ n : Nat, arityL (amsOf qs) rel = n → basicB y.rs rel = (!((qs.drop 0).any (fun q => isHead rel q.1)) && decide (0 < n))) := fun n hn => by
    unfold basicB
    rw [← h.rsm, List.any_map, ← hn]
    have : amsR (qs.map (·.1)) = amsOf qs := by unfold amsR amsOf; rw [List.flatMap_map]
    rw [this]; rfl
  clear h hvr hb hblt
  obtain ⟨n, hn⟩ : ∃ n, arityL (amsOf qs) rel = n := ⟨_, rfl⟩
  have hD1 : Hid (basicB y.rs rel = (!((qs.drop 0).any (fun q => isHead rel q.1)) && decide (0 < n))) := hD.out n hn
  rw [hn] at har
  clear hn hD
  generalize basicB y.rs rel = bb at *
  go_enter Tryz.func116, Tryz.ntmps116
  go_wp2_with fail
  refine Calls.mono har.out ?_
  rintro e' W1 ⟨rfl, hb1⟩
  have HB1 : Hid (Below W.heap.size W W1) := hb1
  clear har hb1 c0
  go_wp2_with fail
  go_loopw [6] (fun p wr => ∃ i : Nat, p = .int .i64 i ∧ i ≤ qs.length ∧ W1 = wr ∧ Hid (bb = (!((qs.drop i).any (fun q => isHead rel q.1)) && decide (0 < n)))) (fun p _ => qs.length - (intOf p).toNat)
  case atStart => exact ⟨0, rfl, Nat.zero_le _, rfl, hD1⟩
  case round =>
    clear hD1
    obtain ⟨i, rfl, hle, rfl, hbb⟩ := hrel
    obtain ⟨hR1, c0⟩ := HR.out W1 HB1.out
    by_cases hlt : i < qs.length
    · have i1 : (i : Int) < (qs.length : Int) := by omega
      obtain ⟨g, cap, e0, hg, s0, s1, s2, _, _⟩ := hR1.cell i hlt
      cases e0
      have hdr := List.drop_eq_getElem_cons hlt
      rw [hdr, List.any_cons] at hbb
      clear hdr hR1 s1 s2
      cases hs : isHead rel qs[i].1 with
      | true =>
        rw [hs] at hbb
        have hf : Hid (bb = false) := hbb.out
        unfold isHead at hs
        clear hbb
        go_wp2
        go_ret
        exact ⟨by rw [hf.out]; rfl, HB1.out⟩
      | false =>
        rw [hs, Bool.false_or] at hbb
        unfold isHead at hs
        go_wp2
        refine ⟨⟨i + 1, by go_num, by omega, by trivial, hbb⟩, by simp [intOf]; omega⟩
    · have i1 : ¬ (i : Int) < (qs.length : Int) := by omega
      rw [List.drop_eq_nil_of_le (by omega)] at hbb
      have hf : Hid (bb = decide (0 < n)) := hbb.out
      clear hbb hR1
      go_wp2
      go_ret
      refine ⟨?_, HB1.out⟩
      rw [hf.out]
      simp

end Go.Proofs.YtjajnhemgphefaaGreatDoor
