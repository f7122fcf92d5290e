/-
  The rules of the paths in other words: their tokens with gaps between, and what is read of them.
-/
import Derived.Test.YtjajnhemgphefaaDoorJPure
namespace Go.Proofs.YtjajnhemgphefaaDoor
open Go.RowKit Go.Shelf
set_option linter.unusedVariables false
set_option linter.unusedSimpArgs false

abbrev Cd : Type := Option (Option (Option (Option (Option (Option (Option (Option Bool)))))))
abbrev Nm : Type := Option (Option (Option Bool))
abbrev Cd.path : Cd := none
abbrev Cd.edge : Cd := some none
abbrev Cd.op : Cd := some (some none)
abbrev Cd.cl : Cd := some (some (some none))
abbrev Cd.co : Cd := some (some (some (some none)))
abbrev Cd.dot : Cd := some (some (some (some (some none))))
abbrev Cd.ift : Cd := some (some (some (some (some (some none)))))
abbrev Cd.x0 : Cd := some (some (some (some (some (some (some none))))))
abbrev Cd.x1 : Cd := some (some (some (some (some (some (some (some false)))))))
abbrev Cd.x2 : Cd := some (some (some (some (some (some (some (some true)))))))
abbrev Nm.n0 : Nm := none
abbrev Nm.n1 : Nm := some none
abbrev Nm.n2 : Nm := some (some none)
abbrev Nm.n3 : Nm := some (some (some false))
abbrev Nm.nx : Nm := some (some (some true))

def wd : Nat → List (List UInt8)
  | 0 => [[88]]
  | 1 => [[206, 158]]
  | 2 => [[65], [98], [49]]
  | 3 => [[206, 169], [207, 137], [57]]
  | 4 => [[88], [48]]
  | 5 => [[88], [49]]
  | _ => [[88], [50]]
def nmI : Nm → Nat → Nat
  | none, j => j
  | some none, j => j + 1
  | some (some none), j => if j = 2 then 0 else j + 2
  | some (some (some false)), j => if j = 0 then 3 else j - 1
  | some (some (some true)), j => j + 4

def codeB (v : Nm) : Cd → List UInt8
  | none => [112, 97, 116, 104]
  | some none => [101, 100, 103, 101]
  | some (some none) => [40]
  | some (some (some none)) => [41]
  | some (some (some (some none))) => [44]
  | some (some (some (some (some none)))) => [46]
  | some (some (some (some (some (some none))))) => [58, 45]
  | some (some (some (some (some (some (some none)))))) => (wd (nmI v 0)).flatten
  | some (some (some (some (some (some (some (some false))))))) => (wd (nmI v 1)).flatten
  | some (some (some (some (some (some (some (some true))))))) => (wd (nmI v 2)).flatten
def codeK : Cd → Int
  | none => 1
  | some none => 1
  | some (some none) => 3
  | some (some (some none)) => 4
  | some (some (some (some none))) => 5
  | some (some (some (some (some none)))) => 6
  | some (some (some (some (some (some none))))) => 7
  | _ => 2
def codeR (v : Nm) : Cd → Nat
  | none => 4
  | some none => 4
  | some (some none) => 1
  | some (some (some none)) => 1
  | some (some (some (some none))) => 1
  | some (some (some (some (some none)))) => 1
  | some (some (some (some (some (some none))))) => 2
  | some (some (some (some (some (some (some none)))))) => (wd (nmI v 0)).length
  | some (some (some (some (some (some (some (some false))))))) => (wd (nmI v 1)).length
  | some (some (some (some (some (some (some (some true))))))) => (wd (nmI v 2)).length
def isW : Cd → Bool
  | none => true
  | some none => true
  | some (some (some (some (some (some (some none)))))) => true
  | some (some (some (some (some (some (some (some false))))))) => true
  | some (some (some (some (some (some (some (some true))))))) => true
  | _ => false

theorem code_len (v : Nm) (c : Cd) : (codeB v c).length ≤ 5 := by rcases v with _ | _ | _ | _ | _ <;> rcases c with _ | _ | _ | _ | _ | _ | _ | _ | _ | _ <;> decide
theorem code_pos (v : Nm) (c : Cd) : 0 < (codeB v c).length := by rcases v with _ | _ | _ | _ | _ <;> rcases c with _ | _ | _ | _ | _ | _ | _ | _ | _ | _ <;> decide
theorem code_runes (v : Nm) (c : Cd) : codeR v c ≤ 4 := by rcases v with _ | _ | _ | _ | _ <;> rcases c with _ | _ | _ | _ | _ | _ | _ | _ | _ | _ <;> decide

theorem gt_wd (k : Nat) (rest : List UInt8) (hn : NW rest) : GT (wd k).flatten 2 (wd k).length rest := by
  have c1 : ∀ b : UInt8, b = 88 ∨ b = 65 ∨ b = 98 ∨ b = 49 ∨ b = 57 ∨ b = 48 ∨ b = 50 → Chunk [b] := by
    rintro b (rfl | rfl | rfl | rfl | rfl | rfl | rfl) <;> exact chunk1 _ (by decide) (by decide)
  have d1 : ∀ (b : UInt8), b.toNat < 128 → ∀ rest, Utf8.decode (B ([b] ++ rest)) 0 = (b.toNat, [b].length) := fun b h rest => decode_one b rest h
  have c2 : ∀ a b : UInt8, (a = 206 ∧ b = 158) ∨ (a = 206 ∧ b = 169) ∨ (a = 207 ∧ b = 137) → Chunk [a, b] := by
    rintro a b (⟨rfl, rfl⟩ | ⟨rfl, rfl⟩ | ⟨rfl, rfl⟩) <;> exact chunk2 _ _ (by decide) (by decide) (by decide) (by decide)
  match k with
  | 0 => exact gt_word [88] [] rest 2 88 (by intro d hd; simp at hd; subst hd; exact c1 _ (by simp)) hn (d1 88 (by decide)) (Or.inl ⟨by decide, rfl⟩) (by decide)
  | 1 => exact gt_word [206, 158] [] rest 2 926 (by intro d hd; simp at hd; subst hd; exact c2 _ _ (by simp)) hn (fun rest => decode_two 206 158 rest (by decide) (by decide) (by decide)) (Or.inl ⟨by decide, rfl⟩) (by decide)
  | 2 => exact gt_word [65] [[98], [49]] rest 2 65 (by intro d hd; simp at hd; rcases hd with rfl | rfl | rfl <;> exact c1 _ (by simp)) hn (d1 65 (by decide)) (Or.inl ⟨by decide, rfl⟩) (by decide)
  | 3 => exact gt_word [206, 169] [[207, 137], [57]] rest 2 937 (by intro d hd; simp at hd; rcases hd with rfl | rfl | rfl; exact c2 _ _ (by simp); exact c2 _ _ (by simp); exact c1 _ (by simp)) hn (fun rest => decode_two 206 169 rest (by decide) (by decide) (by decide)) (Or.inl ⟨by decide, rfl⟩) (by decide)
  | 4 => exact gt_word [88] [[48]] rest 2 88 (by intro d hd; simp at hd; rcases hd with rfl | rfl <;> exact c1 _ (by simp)) hn (d1 88 (by decide)) (Or.inl ⟨by decide, rfl⟩) (by decide)
  | 5 => exact gt_word [88] [[49]] rest 2 88 (by intro d hd; simp at hd; rcases hd with rfl | rfl <;> exact c1 _ (by simp)) hn (d1 88 (by decide)) (Or.inl ⟨by decide, rfl⟩) (by decide)
  | n + 6 => exact gt_word [88] [[50]] rest 2 88 (by intro d hd; simp at hd; rcases hd with rfl | rfl <;> exact c1 _ (by simp)) hn (d1 88 (by decide)) (Or.inl ⟨by decide, rfl⟩) (by decide)

theorem gt_small (a b c d : UInt8) (h : ∀ x ∈ [a, b, c, d], x.toNat < 128 ∧ smallB x.toNat = true ∧ capB x.toNat = false ∧ blankB x.toNat = false) (rest : List UInt8) (hn : NW rest) : GT [a, b, c, d] 1 4 rest := by
  have hc : ∀ x ∈ [a, b, c, d], Chunk [x] := fun x hx => chunk1 x (h x hx).1 (by simp [wordR, (h x hx).2.1])
  refine gt_word [a] [[b], [c], [d]] rest 1 a.toNat ?_ hn (fun rest => decode_one a rest (h a (by simp)).1) (Or.inr ⟨(h a (by simp)).2.2.1, (h a (by simp)).2.1, rfl⟩) (h a (by simp)).2.2.2
  intro x hx
  simp at hx
  rcases hx with rfl | rfl | rfl | rfl
  · exact hc a (by simp)
  · exact hc b (by simp)
  · exact hc c (by simp)
  · exact hc d (by simp)

theorem gt_code (v : Nm) (c : Cd) (rest : List UInt8) (hn : isW c = true → NW rest) : GT (codeB v c) (codeK c) (codeR v c) rest := by
  rcases c with _ | _ | _ | _ | _ | _ | _ | _ | _ | _
  · exact gt_small 112 97 116 104 (by decide) rest (hn rfl)
  · exact gt_small 101 100 103 101 (by decide) rest (hn rfl)
  · exact gt_sign 40 rest (by decide) (by decide) (by decide) (by decide) (by decide)
  · exact gt_sign 41 rest (by decide) (by decide) (by decide) (by decide) (by decide)
  · exact gt_sign 44 rest (by decide) (by decide) (by decide) (by decide) (by decide)
  · exact gt_sign 46 rest (by decide) (by decide) (by decide) (by decide) (by decide)
  · exact gt_if rest
  · exact gt_wd _ rest (hn rfl)
  · exact gt_wd _ rest (hn rfl)
  · exact gt_wd _ rest (hn rfl)

def pcB (g : List UInt8) : P := ⟨g, [195, 169], 0, 1, by decide⟩
def pcC (v : Nm) (g : List UInt8) (c : Cd) : P := ⟨g, codeB v c, codeK c, codeR v c, Nat.le_trans (code_len v c) (by decide)⟩

/-- The pieces: a gap and a token each; ahead of the token number 'bad', behind its gap, a rune that can stand nowhere. -/
def mkL (v : Nm) (bad : Option Nat) (g : Nat → List UInt8) : Nat → List Cd → List P
  | _, [] => []
  | i, c :: cs => if bad = some i then pcB (g i) :: pcC v [] c :: mkL v bad g (i + 1) cs else pcC v (g i) c :: mkL v bad g (i + 1) cs

/-- No two words beside each other. -/
def alt : Bool → List Cd → Bool
  | _, [] => true
  | w, c :: cs => !(w && isW c) && alt (isW c) cs

theorem nw_blank (g rest : List UInt8) (hg : Blanks g) (hne : g ≠ []) : NW (g ++ rest) := by
  cases g with
  | nil => exact absurd rfl hne
  | cons c g =>
    right
    rcases hg c (by simp) with rfl | rfl | rfl
    all_goals
      rw [List.cons_append, decode_one _ _ (by decide)]
      decide

theorem nw_sign (v : Nm) (c : Cd) (rest : List UInt8) (h : isW c = false) : NW (codeB v c ++ rest) := by
  right
  rcases c with _ | _ | _ | _ | _ | _ | _ | _ | _ | _
  all_goals first
    | exact absurd h (by decide)
    | (simp only [codeB, List.cons_append, List.nil_append]
       rw [decode_one _ _ (by decide)]
       decide)

theorem nw_mk (v : Nm) (bad : Option Nat) (g : Nat → List UInt8) (t : List UInt8) (hg : ∀ i, Blanks (g i)) (ht : Blanks t) (i : Nat) (cs : List Cd) (h : alt true cs = true) : NW (txt t (mkL v bad g i cs)) := by
  cases cs with
  | nil =>
    by_cases hne : t = []
    · left; simpa [mkL, txt] using hne
    · have := nw_blank t [] ht hne
      simpa [mkL, txt] using this
  | cons c cs =>
    have hc : isW c = false := by simp [alt] at h; exact h.1
    unfold mkL
    split
    · by_cases hne : g i = []
      · right
        simp only [txt, pcB, hne, List.nil_append, List.cons_append]
        rw [decode_two 195 169 _ (by decide) (by decide) (by decide)]
        decide
      · have := nw_blank (g i) ([195, 169] ++ txt t (pcC v [] c :: mkL v bad g (i + 1) cs)) (hg i) hne
        simpa [txt, pcB] using this
    · by_cases hne : g i = []
      · have := nw_sign v c (txt t (mkL v bad g (i + 1) cs)) hc
        simpa [txt, pcC, hne] using this
      · have := nw_blank (g i) (codeB v c ++ txt t (mkL v bad g (i + 1) cs)) (hg i) hne
        simpa [txt, pcC] using this

theorem good_mk (v : Nm) (bad : Option Nat) (g : Nat → List UInt8) (t : List UInt8) (hg : ∀ i, Blanks (g i)) (ht : Blanks t) : ∀ (cs : List Cd) (i : Nat), alt false cs = true → Good t (mkL v bad g i cs)
  | [], i, _ => by simpa [mkL, Good] using ht
  | c :: cs, i, h => by
    have h2 : alt (isW c) cs = true := by simp [alt] at h; exact h
    have ha : ∀ (w : Bool) (l : List Cd), alt w l = true → alt false l = true := by
      intro w l hl
      cases l with
      | nil => rfl
      | cons d l => simp [alt] at hl ⊢; exact hl.2
    have hr := good_mk v bad g t hg ht cs (i + 1) (ha _ _ h2)
    have hw : isW c = true → NW (txt t (mkL v bad g (i + 1) cs)) := fun hc => nw_mk v bad g t hg ht (i + 1) cs (by rw [hc] at h2; exact h2)
    unfold mkL
    split
    · exact ⟨hg i, gt_bad _, (by intro d hd; simp [pcC] at hd), gt_code v c _ hw, hr⟩
    · exact ⟨hg i, gt_code v c _ hw, hr⟩

theorem len_mk0 (v : Nm) (bad : Option Nat) (g : Nat → List UInt8) (t : List UInt8) (hg : ∀ i, (g i).length ≤ 2) : ∀ (cs : List Cd) (i : Nat), (∀ b, bad = some b → b < i) → (txt t (mkL v bad g i cs)).length ≤ t.length + 7 * cs.length
  | [], i, _ => by simp [mkL, txt]
  | c :: cs, i, hb => by
    have h := len_mk0 v bad g t hg cs (i + 1) (fun b e => by have := hb b e; omega)
    have h1 := hg i
    have h2 := code_len v c
    unfold mkL
    rw [if_neg (fun e => by have := hb i e; omega)]
    simp [txt, pcC]; omega

theorem len_mk (v : Nm) (bad : Option Nat) (g : Nat → List UInt8) (t : List UInt8) (hg : ∀ i, (g i).length ≤ 2) : ∀ (cs : List Cd) (i : Nat), (txt t (mkL v bad g i cs)).length ≤ t.length + 7 * cs.length + 2
  | [], i => by simp [mkL, txt]
  | c :: cs, i => by
    have h := len_mk v bad g t hg cs (i + 1)
    have h1 := hg i
    have h2 := code_len v c
    unfold mkL
    split
    · rename_i hb
      have h3 := len_mk0 v bad g t hg cs (i + 1) (fun b e => by rw [hb] at e; cases e; omega)
      simp [txt, pcB, pcC]; omega
    · simp [txt, pcC]; omega

/-- The runes of the pieces: where the next one stands. -/
def wid : List P → Nat
  | [] => 0
  | x :: l => x.g.length + x.r + wid l

/-- The parser, over tokens that it takes. -/
def runC (v : Nm) : PSt → List Cd → Option PSt
  | s, [] => some s
  | s, c :: cs => if (takeS s (codeK c) (B (codeB v c)) (codeR v c)).1 = 0 then runC v (takeS s (codeK c) (B (codeB v c)) (codeR v c)).2 cs else none

theorem fold_ok (v : Nm) (bad : Option Nat) (g : Nat → List UInt8) : ∀ (cs : List Cd) (s s' : PSt) (i p : Nat), runC v s cs = some s' → (∀ j, bad = some j → j < i ∨ i + cs.length ≤ j) → foldP s (toksP p (mkL v bad g i cs)) = (s', none)
  | [], s, s', i, p, h, _ => by simp [runC] at h; simp [mkL, toksP, foldP, h]
  | c :: cs, s, s', i, p, h, hb => by
    unfold runC at h
    split at h
    · rename_i hz
      have hi : ¬ bad = some i := fun e => by rcases hb i e with h | h <;> simp only [List.length_cons] at * <;> omega
      unfold mkL
      rw [if_neg hi]
      refine (if_pos hz).trans ?_
      exact fold_ok v bad g cs _ s' (i + 1) _ h (fun j hj => by rcases hb j hj with h | h <;> simp only [List.length_cons] at * <;> omega)
    · cases h

theorem fold_bad (v : Nm) (b : Nat) (g : Nat → List UInt8) : ∀ (cs : List Cd) (s s' : PSt) (i p : Nat), runC v s cs = some s' → i ≤ b → b < i + cs.length → ∃ s2, foldP s (toksP p (mkL v (some b) g i cs)) = (s2, some (2, p + wid (mkL v (some b) g i (cs.take (b - i))) + (g b).length))
  | [], s, s', i, p, _, h1, h2 => by simp at h2; omega
  | c :: cs, s, s', i, p, h, h1, h2 => by
    by_cases hi : b = i
    · subst hi
      refine ⟨s, ?_⟩
      unfold mkL
      rw [if_pos rfl]
      unfold toksP foldP
      have hf : ∀ st : Int, fitsB st 0 = false := by
        intro st; unfold fitsB; simp
      simp [pcB, takeS, hf, wid, mkL]
    · unfold runC at h
      split at h
      · rename_i hz
        obtain ⟨s2, ih⟩ := fold_bad v b g cs _ s' (i + 1) (p + (g i).length + codeR v c) h (by omega) (by simp at h2; omega)
        refine ⟨s2, ?_⟩
        have e : b - i = (b - (i + 1)) + 1 := by omega
        have hne : ¬ some b = some i := by simp [hi]
        rw [e, List.take_succ_cons]
        unfold mkL
        rw [if_neg hne, if_neg hne]
        refine (if_pos hz).trans ?_
        refine ih.trans ?_
        simp only [Prod.mk.injEq, Option.some.injEq, true_and, wid, pcC]
        omega
      · cases h

end Go.Proofs.YtjajnhemgphefaaDoor
