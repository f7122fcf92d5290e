/-
  The rules of the paths in other words are written in order as the document has them; these are written so again; a rune that can stand nowhere is told at its place.
-/
import Derived.Test.YtpfknibkdiebaaaDoorPure2
namespace Go.Proofs.YtpfknibkdiebaaaDoor
open Go.RowKit Go.Shelf
set_option linter.unusedVariables false
set_option linter.unusedSimpArgs false

def codes1 : List Cd := [.path, .op, .x0, .co, .x1, .cl, .ift, .edge, .op, .x0, .co, .x1, .cl, .dot, .path, .op, .x0, .co, .x2, .cl, .ift, .path, .op, .x0, .co, .x1, .cl, .co, .edge, .op, .x1, .co, .x2, .cl, .dot]
def codes2 : List Cd := [.path, .op, .x0, .co, .x1, .cl, .ift, .edge, .op, .x0, .co, .x1, .cl, .dot, .path, .op, .x0, .co, .x1, .cl, .ift, .path, .op, .x0, .co, .x2, .cl, .co, .edge, .op, .x2, .co, .x1, .cl, .dot]

def bPath : ByteArray := B [112, 97, 116, 104]
def bEdge : ByteArray := B [101, 100, 103, 101]
def tv (v : Nm) (c : Cd) : ATerm := ⟨B (codeB v c), true, by rw [size_B]; exact Nat.le_trans (code_len v c) (by decide)⟩
def R1 (a b : ATerm) : ARule := ⟨⟨bPath, [a, b], by decide⟩, [⟨bEdge, [a, b], by decide⟩]⟩
def R2 (a b c : ATerm) : ARule := ⟨⟨bPath, [a, c], by decide⟩, [⟨bPath, [a, b], by decide⟩, ⟨bEdge, [b, c], by decide⟩]⟩

theorem run1 (v : Nm) : runC v pst0 codes1 = some ⟨0, [R1 (tv v .x0) (tv v .x1), R2 (tv v .x0) (tv v .x1) (tv v .x2)], []⟩ := by
  rcases v with _ | _ | _ | _ | _ <;> rfl
theorem run2 : runC .nx pst0 codes2 = some ⟨0, [R1 (tv .nx .x0) (tv .nx .x1), R2 (tv .nx .x0) (tv .nx .x2) (tv .nx .x1)], []⟩ := rfl

theorem dig0 : Lib.decDigits 0 = [48] := by rw [Lib.decDigits, dif_pos (by decide)]; rfl
theorem dig1 : Lib.decDigits 1 = [49] := by rw [Lib.decDigits, dif_pos (by decide)]; rfl
theorem dig2 : Lib.decDigits 2 = [50] := by rw [Lib.decDigits, dif_pos (by decide)]; rfl

def canonL : List UInt8 := [112, 97, 116, 104, 40, 88, 48, 44, 88, 49, 41, 32, 58, 45, 32, 101, 100, 103, 101, 40, 88, 48, 44, 88, 49, 41, 46, 10, 112, 97, 116, 104, 40, 88, 48, 44, 88, 49, 41, 32, 58, 45, 32, 112, 97, 116, 104, 40, 88, 48, 44, 88, 50, 41, 44, 32, 101, 100, 103, 101, 40, 88, 50, 44, 88, 49, 41, 46, 10]

theorem vars_R1 (a b : ATerm) (ha : a.isVar = true) (hb : b.isVar = true) (h1 : a.text ≠ b.text) : ruleVars (R1 a b) = [a.text, b.text] := by
  have e1 : Lib.containsS [] a.text = false := rfl
  have e2 : Lib.containsS [a.text] b.text = false := by rw [Bool.eq_false_iff]; simp [Lib.containsS_iff, Ne.symm h1]
  have e3 : Lib.containsS [a.text, b.text] a.text = true := by simp [Lib.containsS_iff]
  have e4 : Lib.containsS [a.text, b.text] b.text = true := by simp [Lib.containsS_iff]
  simp [ruleVars, varsL, ruleTerms, R1, addVar, ha, hb, e1, e2, e3, e4]

theorem vars_R2 (a b c : ATerm) (ha : a.isVar = true) (hb : b.isVar = true) (hc : c.isVar = true) (h1 : a.text ≠ b.text) (h2 : a.text ≠ c.text) (h3 : b.text ≠ c.text) : ruleVars (R2 a b c) = [a.text, c.text, b.text] := by
  have e1 : Lib.containsS [] a.text = false := rfl
  have e2 : Lib.containsS [a.text] c.text = false := by rw [Bool.eq_false_iff]; simp [Lib.containsS_iff, Ne.symm h2]
  have e3 : Lib.containsS [a.text, c.text] a.text = true := by simp [Lib.containsS_iff]
  have e4 : Lib.containsS [a.text, c.text] b.text = false := by rw [Bool.eq_false_iff]; simp [Lib.containsS_iff, Ne.symm h1, h3]
  have e5 : Lib.containsS [a.text, c.text, b.text] b.text = true := by simp [Lib.containsS_iff]
  have e6 : Lib.containsS [a.text, c.text, b.text] c.text = true := by simp [Lib.containsS_iff]
  simp [ruleVars, varsL, ruleTerms, R2, addVar, ha, hb, hc, e1, e2, e3, e4, e5, e6]

theorem idx0 (a : ByteArray) (l : List ByteArray) : idxN (a :: l) a = 0 := by
  unfold idxN Lib.idxOfS
  simp [Lib.idxFromS]
theorem idx1 (a b : ByteArray) (l : List ByteArray) (h : a ≠ b) : idxN (a :: b :: l) b = 1 := by
  unfold idxN Lib.idxOfS
  simp [Lib.idxFromS, h]
theorem idx2 (a b c : ByteArray) (l : List ByteArray) (h1 : a ≠ c) (h2 : b ≠ c) : idxN (a :: b :: c :: l) c = 2 := by
  unfold idxN Lib.idxOfS
  simp [Lib.idxFromS, h1, h2]

theorem txt_rules (a b c : ATerm) (ha : a.isVar = true) (hb : b.isVar = true) (hc : c.isVar = true) (h1 : a.text ≠ b.text) (h2 : a.text ≠ c.text) (h3 : b.text ≠ c.text) (x y : ATerm) (hx : x = b ∨ x = c) (hxv : x.isVar = true) (hax : a.text ≠ x.text) :
    rulesTxt [R1 a x, R2 a b c] = canonL := by
  simp only [rulesTxt, List.flatMap_cons, List.flatMap_nil, List.append_nil, ruleTxt, vars_R1 a x ha hxv hax, vars_R2 a b c ha hb hc h1 h2 h3]
  simp [R1, R2, atomTxt, bodyTxt, argsTxt, termTxt, ha, hb, hc, hxv, idx0, idx1 _ _ _ hax, idx1 _ _ _ h2, idx2 _ _ _ _ h1 (Ne.symm h3), dig0, dig1, dig2, bPath, bEdge, B, canonL]

theorem check_rules (a b c x : ATerm) (ha : a.isVar = true) (hb : b.isVar = true) (hc : c.isVar = true) (hx : x.isVar = true) : checkS [R1 a x, R2 a b c] = (0, 0) := by
  have e1 : arityFrom [] 0 [R1 a x, R2 a b c] = -1 := rfl
  have e2 : firstLoose [R1 a x, R2 a b c] = -1 := by
    simp [firstLoose, firstFrom, looseB, unboundB, bodyHas, hasT, sameT, R1, R2]
  have e3 : manyFrom [] 0 [R1 a x, R2 a b c] = -1 := by
    simp [manyFrom, namesF, ruleTerms, R1, R2, addName, ha, hb, hc, hx]
  unfold checkS
  rw [e1, e2, e3]
  rfl

theorem tv_ne (v : Nm) : (tv v .x0).text ≠ (tv v .x1).text ∧ (tv v .x0).text ≠ (tv v .x2).text ∧ (tv v .x1).text ≠ (tv v .x2).text := by
  rcases v with _ | _ | _ | _ | _ <;> decide

theorem alt1 : alt false codes1 = true := rfl
theorem alt2 : alt false codes2 = true := rfl

theorem rc_mk (v : Nm) (bad : Option Nat) (g : Nat → List UInt8) (t : List UInt8) (hg2 : ∀ i, (g i).length ≤ 2) (ht2 : t.length ≤ 2) (cs : List Cd) (hl : cs.length ≤ 35) : ¬ 300 < Lib.runeCount (B (txt t (mkL v bad g 0 cs))) ∧ (B (txt t (mkL v bad g 0 cs))).size ≤ 300 := by
  have hlen := len_mk v bad g t hg2 cs 0
  have h := Lib.runeCount_le (B (txt t (mkL v bad g 0 cs)))
  rw [size_B] at *
  omega

theorem parse_mk (v : Nm) (g : Nat → List UInt8) (t : List UInt8) (hg : ∀ i, Blanks (g i)) (hg2 : ∀ i, (g i).length ≤ 2) (ht : Blanks t) (ht2 : t.length ≤ 2) (cs : List Cd) (hl : cs.length ≤ 35) (ha : alt false cs = true) (rs : List ARule) (hr : runC v pst0 cs = some ⟨0, rs, []⟩) (hc : checkS rs = (0, 0)) :
    rulesR (B (txt t (mkL v none g 0 cs))) = (rulesTxt rs, 0, 0) := by
  have hrc := (rc_mk v none g t hg2 ht2 cs hl).1
  have ht := toks_good t (mkL v none g 0 cs) (B (txt t (mkL v none g 0 cs))).size 0 (good_mk v none g t hg ht cs 0 ha) (by rw [size_B]; exact Nat.le_refl _)
  have hf := fold_ok v none g cs pst0 _ 0 0 hr (fun j hj => by cases hj)
  unfold rulesR parseR
  rw [if_neg hrc, ht, hf]
  simp [hc]

theorem spelt_ok (v : Nm) (g : Nat → List UInt8) (hg : ∀ i, Blanks (g i)) (hg2 : ∀ i, (g i).length ≤ 2) : rulesR (B (txt [] (mkL v none g 0 codes1))) = (canonL, 0, 0) := by
  obtain ⟨h1, h2, h3⟩ := tv_ne v
  rw [parse_mk v g [] hg hg2 (by intro c hc; cases hc) (by decide) codes1 (by decide) alt1 _ (run1 v) (check_rules _ _ _ _ rfl rfl rfl rfl), txt_rules _ _ _ rfl rfl rfl h1 h2 h3 _ (tv v .x0) (Or.inl rfl) rfl h1]

def gC (i : Nat) : List UInt8 := if i = 6 ∨ i = 7 ∨ i = 20 ∨ i = 21 ∨ i = 28 then [32] else if i = 14 then [10] else []

theorem gC_ok (i : Nat) : Blanks (gC i) ∧ (gC i).length ≤ 2 := by
  unfold gC
  split
  · exact ⟨by intro c hc; simp at hc; simp [hc], by decide⟩
  · split
    · exact ⟨by intro c hc; simp at hc; simp [hc], by decide⟩
    · exact ⟨(by intro c hc; simp at hc), (by decide)⟩

theorem canon_txt : txt [10] (mkL .nx none gC 0 codes2) = canonL := by decide

theorem canon_ok : rulesR (B canonL) = (canonL, 0, 0) := by
  obtain ⟨h1, h2, h3⟩ := tv_ne .nx
  rw [← canon_txt, parse_mk .nx gC [10] (fun i => (gC_ok i).1) (fun i => (gC_ok i).2) (by intro c hc; simp at hc; simp [hc]) (by decide) codes2 (by decide) alt2 _ run2 (check_rules _ _ _ _ rfl rfl rfl rfl), txt_rules _ _ _ rfl rfl rfl h2 h1 (Ne.symm h3) _ (tv .nx .x0) (Or.inr rfl) rfl h1, canon_txt]

theorem spelt_bad (v : Nm) (g : Nat → List UInt8) (hg : ∀ i, Blanks (g i)) (hg2 : ∀ i, (g i).length ≤ 2) (b : Nat) (hb : b < 35) :
    rulesR (B (txt [] (mkL v (some b) g 0 codes1))) = ([], 2, ((wid (mkL v (some b) g 0 (codes1.take b)) + (g b).length : Nat) : Int)) := by
  have hrc := (rc_mk v (some b) g [] hg2 (by decide) codes1 (by decide)).1
  have ht := toks_good [] (mkL v (some b) g 0 codes1) (B (txt [] (mkL v (some b) g 0 codes1))).size 0 (good_mk v (some b) g [] hg (by intro c hc; cases hc) codes1 0 alt1) (by rw [size_B]; exact Nat.le_refl _)
  obtain ⟨s2, hf⟩ := fold_bad v b g codes1 pst0 _ 0 0 (run1 v) (Nat.zero_le _) (by rw [show codes1.length = 35 from rfl]; omega)
  unfold rulesR parseR
  rw [if_neg hrc, ht, hf]
  simp

end Go.Proofs.YtpfknibkdiebaaaDoor
