/-
  The rules of the paths in other words are written in order as the document has them; these are written so again; a rune that can stand nowhere is told at its place.
-/
import Derived.Test.YtjajnhemgphefaaDoorJPure2
import Derived.KernelRfl
namespace Go.Proofs.YtjajnhemgphefaaDoor
open Go.RowKit Go.Shelf
set_option linter.unusedVariables false
set_option linter.unusedSimpArgs false

def codes1 : List Cd := [.path, .op, .x0, .co, .x1, .cl, .ift, .edge, .op, .x0, .co, .x1, .cl, .dot, .path, .op, .x0, .co, .x2, .cl, .ift, .path, .op, .x0, .co, .x1, .cl, .co, .edge, .op, .x1, .co, .x2, .cl, .dot]
def codes2 : List Cd := [.path, .op, .x0, .co, .x1, .cl, .ift, .edge, .op, .x0, .co, .x1, .cl, .dot, .path, .op, .x0, .co, .x1, .cl, .ift, .path, .op, .x0, .co, .x2, .cl, .co, .edge, .op, .x2, .co, .x1, .cl, .dot]

def bPath : ByteArray := B [112, 97, 116, 104]
def bEdge : ByteArray := B [101, 100, 103, 101]
def vX (n : Nat) : Tm := ⟨⟨#[]⟩, n⟩
def pathsR : List Rl := [⟨⟨bPath, [vX 0, vX 1]⟩, [⟨bEdge, [vX 0, vX 1]⟩]⟩, ⟨⟨bPath, [vX 0, vX 1]⟩, [⟨bPath, [vX 0, vX 2]⟩, ⟨bEdge, [vX 2, vX 1]⟩]⟩]

theorem run1 (v : Nm) : runC v pst0 codes1 = some ⟨0, pathsR, [], []⟩ := by
  rcases v with _ | _ | _ | _ | _ <;> kernel_rfl
theorem run2 : runC .nx pst0 codes2 = some ⟨0, pathsR, [], []⟩ := by kernel_rfl

theorem dig0 : Lib.decDigits 0 = [48] := by rw [Lib.decDigits, dif_pos (by decide)]; rfl
theorem dig1 : Lib.decDigits 1 = [49] := by rw [Lib.decDigits, dif_pos (by decide)]; rfl
theorem dig2 : Lib.decDigits 2 = [50] := by rw [Lib.decDigits, dif_pos (by decide)]; rfl

def canonL : List UInt8 := [112, 97, 116, 104, 40, 88, 48, 44, 88, 49, 41, 32, 58, 45, 32, 101, 100, 103, 101, 40, 88, 48, 44, 88, 49, 41, 46, 10, 112, 97, 116, 104, 40, 88, 48, 44, 88, 49, 41, 32, 58, 45, 32, 112, 97, 116, 104, 40, 88, 48, 44, 88, 50, 41, 44, 32, 101, 100, 103, 101, 40, 88, 50, 44, 88, 49, 41, 46, 10]

theorem txt_rules : rulesTxt pathsR = canonL := by
  simp [rulesTxt, pathsR, ruleTxt, atomTxt, bodyTxt, argsTxt, termTxt, vX, dig0, dig1, dig2, bPath, bEdge, B, canonL, ByteArray.toList_eq]
theorem check_rules : checkS pathsR = (0, 0) := by kernel_rfl

theorem alt1 : alt false codes1 = true := rfl
theorem alt2 : alt false codes2 = true := rfl

theorem rc_mk (v : Nm) (bad : Option Nat) (g : Nat → List UInt8) (t : List UInt8) (hg2 : ∀ i, (g i).length ≤ 2) (ht2 : t.length ≤ 2) (cs : List Cd) (hl : cs.length ≤ 35) : ¬ 300 < Lib.runeCount (B (txt t (mkL v bad g 0 cs))) ∧ (B (txt t (mkL v bad g 0 cs))).size ≤ 300 := by
  have hlen := len_mk v bad g t hg2 cs 0
  have h := Lib.runeCount_le (B (txt t (mkL v bad g 0 cs)))
  rw [size_B] at *
  omega

theorem parse_mk (v : Nm) (g : Nat → List UInt8) (t : List UInt8) (hg : ∀ i, Blanks (g i)) (hg2 : ∀ i, (g i).length ≤ 2) (ht : Blanks t) (ht2 : t.length ≤ 2) (cs : List Cd) (hl : cs.length ≤ 35) (ha : alt false cs = true) (rs : List Rl) (hr : runC v pst0 cs = some ⟨0, rs, [], []⟩) (hc : checkS rs = (0, 0)) :
    rulesR (B (txt t (mkL v none g 0 cs))) = (rulesTxt rs, 0, 0) := by
  have hrc := (rc_mk v none g t hg2 ht2 cs hl).1
  have ht := toks_good t (mkL v none g 0 cs) (B (txt t (mkL v none g 0 cs))).size 0 (good_mk v none g t hg ht cs 0 ha) (by rw [size_B]; exact Nat.le_refl _)
  have hf := fold_ok v none g cs pst0 _ 0 0 hr (fun j hj => by cases hj)
  unfold rulesR parseR
  rw [if_neg hrc, ht, hf]
  simp [hc]

theorem spelt_ok (v : Nm) (g : Nat → List UInt8) (hg : ∀ i, Blanks (g i)) (hg2 : ∀ i, (g i).length ≤ 2) : rulesR (B (txt [] (mkL v none g 0 codes1))) = (canonL, 0, 0) := by
  rw [parse_mk v g [] hg hg2 (by intro c hc; cases hc) (by decide) codes1 (by decide) alt1 _ (run1 v) check_rules, txt_rules]

def gC (i : Nat) : List UInt8 := if i = 6 ∨ i = 7 ∨ i = 20 ∨ i = 21 ∨ i = 28 then [32] else if i = 14 then [10] else []

theorem gC_ok (i : Nat) : Blanks (gC i) ∧ (gC i).length ≤ 2 := by
  unfold gC
  split
  · exact ⟨by intro c hc; simp at hc; simp [hc], by decide⟩
  · split
    · exact ⟨by intro c hc; simp at hc; simp [hc], by decide⟩
    · exact ⟨(by intro c hc; simp at hc), (by decide)⟩

theorem canon_txt : txt [10] (mkL .nx none gC 0 codes2) = canonL := by decide

theorem canon_ok : rulesR (B canonL) = (canonL, 0, 0) := by
  rw [← canon_txt, parse_mk .nx gC [10] (fun i => (gC_ok i).1) (fun i => (gC_ok i).2) (by intro c hc; simp at hc; simp [hc]) (by decide) codes2 (by decide) alt2 _ run2 check_rules, txt_rules, canon_txt]

theorem spelt_bad (v : Nm) (g : Nat → List UInt8) (hg : ∀ i, Blanks (g i)) (hg2 : ∀ i, (g i).length ≤ 2) (b : Nat) (hb : b < 35) :
    rulesR (B (txt [] (mkL v (some b) g 0 codes1))) = ([], 2, ((wid (mkL v (some b) g 0 (codes1.take b)) + (g b).length : Nat) : Int)) := by
  have hrc := (rc_mk v (some b) g [] hg2 (by decide) codes1 (by decide)).1
  have ht := toks_good [] (mkL v (some b) g 0 codes1) (B (txt [] (mkL v (some b) g 0 codes1))).size 0 (good_mk v (some b) g [] hg (by intro c hc; cases hc) codes1 0 alt1) (by rw [size_B]; exact Nat.le_refl _)
  obtain ⟨s2, hf⟩ := fold_bad v b g codes1 pst0 _ 0 0 (run1 v) (Nat.zero_le _) (by rw [show codes1.length = 35 from rfl]; omega)
  unfold rulesR parseR
  rw [if_neg hrc, ht, hf]
  simp

end Go.Proofs.YtjajnhemgphefaaDoor
