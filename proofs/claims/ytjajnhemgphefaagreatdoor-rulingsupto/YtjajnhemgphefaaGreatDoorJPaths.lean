/-
  The document's own answer: Rules.
  In plain data: what the program answers for Rules is what the document answers, for every text of up to 300 runes, and longer ones.
  The rules of the document's examples, read and written.
-/
import Derived.Test.YtjajnhemgphefaaGreatDoorJRefW
import Derived.Test.YtjajnhemgphefaaGreatDoorJRules
import Derived.Test.YtjajnhemgphefaaGreatDoorJSim2
import Derived.KernelRfl
namespace Go.Proofs.YtjajnhemgphefaaGreatDoor
open Go.RowKit Go.Shelf
set_option linter.unusedVariables false
set_option linter.unusedSimpArgs false

def AmSz (K : Nat) (a : Am) : Prop := a.rel.size ≤ K ∧ ∀ t ∈ a.args, t.name.size ≤ K
def RlSz (K : Nat) (r : Rl) : Prop := AmSz K r.head ∧ ∀ a ∈ r.body, AmSz K a

theorem argsR_sz (K : Nat) : ∀ (us : List RT) (vs : List ByteArray) (L : List Tm) (vsF : List ByteArray) (n : Nat), (∀ u ∈ us, u.text.size ≤ K) → argsR vs us = some (L, vsF, n) → ∀ t ∈ L, t.name.size ≤ K
  | [], vs, L, vsF, n, _, h => by simp [argsR] at h
  | [a], vs, L, vsF, n, _, h => by simp [argsR] at h
  | a :: b :: us, vs, L, vsF, n, hu, h => by
    have ha : (argT vs a).name.size ≤ K := by
      unfold argT
      split
      · exact Nat.zero_le _
      · exact hu a List.mem_cons_self
    unfold argsR at h
    split at h
    · simp only [Option.some.injEq, Prod.mk.injEq] at h
      obtain ⟨rfl, rfl, rfl⟩ := h
      intro t ht; simp at ht; subst ht; exact ha
    · cases hr : argsR (argVs vs a) us with
      | none => rw [hr] at h; simp at h
      | some r =>
        obtain ⟨l', v', n'⟩ := r
        rw [hr] at h
        simp only [Option.some.injEq, Prod.mk.injEq] at h
        obtain ⟨rfl, rfl, rfl⟩ := h
        have ih := argsR_sz K us _ _ _ _ (fun u hu' => hu u (List.mem_cons_of_mem _ (List.mem_cons_of_mem _ hu'))) hr
        intro t ht
        rcases List.mem_cons.1 ht with rfl | ht
        · exact ha
        · exact ih t ht

theorem bodyR_sz (K : Nat) : ∀ (n f : Nat) (us : List RT) (vs : List ByteArray) (bs : List Am) (m : Nat), us.length ≤ n → (∀ u ∈ us, u.text.size ≤ K) → bodyR f vs us = some (bs, m) → ∀ a ∈ bs, AmSz K a
  | n, f, us, vs, bs, m, hn, hu, h => by
    obtain ⟨t, us1, rfl, ⟨_, rfl, _⟩ | ⟨_, r, p, us2, l, vs', k, f', bs', m', rfl, h1, h2, rfl, _⟩⟩ := bodyR_step h
    · intro a ha; cases ha
    · cases n with
      | zero => simp at hn
      | succ n =>
        have hu2 : ∀ u ∈ us2, u.text.size ≤ K := fun u hu' => hu u (List.mem_cons_of_mem _ (List.mem_cons_of_mem _ (List.mem_cons_of_mem _ hu')))
        have ih := bodyR_sz K n f' (us2.drop k) vs' bs' m' (by simp at hn ⊢; omega) (fun u hu' => hu2 u (List.mem_of_mem_drop hu')) h2
        intro a ha
        rcases List.mem_cons.1 ha with rfl | ha
        · exact ⟨hu r (List.mem_cons_of_mem _ List.mem_cons_self), argsR_sz K us2 _ _ _ _ hu2 h1⟩
        · exact ih a ha

theorem readR_sz (K : Nat) : ∀ (n f : Nat) (us : List RT) (rs : List Rl), us.length ≤ n → (∀ u ∈ us, u.text.size ≤ K) → readR f us = some rs → ∀ r ∈ rs, RlSz K r
  | n, f, us, rs, hn, hu, h => by
    obtain ⟨t, us1, rfl, ⟨_, rfl⟩ | ⟨_, p, us2, l, vs, k, bs, m, f', rs', rfl, h1, h2, h3, rfl⟩⟩ := readR_step h
    · intro r hr; cases hr
    · cases n with
      | zero => simp at hn
      | succ n =>
        have hu2 : ∀ u ∈ us2, u.text.size ≤ K := fun u hu' => hu u (List.mem_cons_of_mem _ (List.mem_cons_of_mem _ hu'))
        have hu3 : ∀ u ∈ us2.drop k, u.text.size ≤ K := fun u hu' => hu2 u (List.mem_of_mem_drop hu')
        have ih := readR_sz K n f' ((us2.drop k).drop (m + 1)) rs' (by simp at hn ⊢; omega) (fun u hu' => hu3 u (List.mem_of_mem_drop hu')) h3
        intro r hr
        rcases List.mem_cons.1 hr with rfl | hr
        · exact ⟨⟨hu t List.mem_cons_self, argsR_sz K us2 _ _ _ _ hu2 h1⟩, bodyR_sz K _ _ _ _ _ _ (Nat.le_refl _) hu3 h2⟩
        · exact ih r hr

theorem cat_size (l : List Rn) (h : ∀ r ∈ l, r.text.size ≤ 4) : (cat l).size ≤ 4 * l.length := by
  induction l with
  | nil => exact Nat.le_refl 0
  | cons x l ih =>
    have h1 := h x List.mem_cons_self
    have h2 := ih (fun r hr => h r (List.mem_cons_of_mem _ hr))
    simp only [cat, ByteArray.size_append, List.length_cons]; omega
theorem tw_sub (l : List Rn) : ∀ r ∈ tw l, r ∈ l := fun r hr => by rw [tw_take] at hr; exact List.mem_of_mem_take hr

theorem refT_size : ∀ (f : Nat) (l : List Rn) (i : Nat), (∀ r ∈ l, r.text.size ≤ 4) → ∀ t ∈ refT f l i, t.text.size ≤ 4 * l.length
  | 0, l, i, _, t, ht => by simp [refT] at ht
  | f + 1, [], i, _, t, ht => by simp [refT] at ht
  | f + 1, r :: l, i, h, t, ht => by
    have hr := h r List.mem_cons_self
    have hl : ∀ x ∈ l, x.text.size ≤ 4 := fun x hx => h x (List.mem_cons_of_mem _ hx)
    have hc := cat_size (tw l) (fun x hx => hl x (tw_sub l x hx))
    have htl := tw_le l
    have i1 := refT_size f (l.drop (tw l).length) (i + (1 + (tw l).length)) (fun x hx => hl x (List.mem_of_mem_drop hx)) t
    have i2 := refT_size f l (i + 1) hl t
    have i3 := refT_size f (l.drop 1) (i + 2) (fun x hx => hl x (List.mem_of_mem_drop hx)) t
    rw [List.length_drop] at i1 i3
    simp only [List.length_cons]
    unfold refT at ht
    split at ht
    · rcases List.mem_cons.1 ht with rfl | ht
      · simp only [ByteArray.size_append]; omega
      · have := i1 ht; omega
    · split at ht
      · rcases List.mem_cons.1 ht with rfl | ht
        · simp only; omega
        · have := i2 ht; omega
      · split at ht
        · rcases List.mem_cons.1 ht with rfl | ht
          · show (0 : Nat) ≤ _; omega
          · have := i3 ht; omega
        · split at ht
          · have := i2 ht; omega
          · rcases List.mem_cons.1 ht with rfl | ht
            · simp only; omega
            · have := i2 ht; omega

theorem refToks_size (s : ByteArray) (hL : (R s 0).length ≤ 300) : ∀ t ∈ refToks s, t.text.size ≤ 1200 := by
  intro t ht
  unfold refToks at ht
  rcases List.mem_append.1 ht with ht | ht
  · have := refT_size _ _ _ (fun r hr => (R_size s s.size 0 (by omega) r hr).2) t ht
    omega
  · simp at ht; subst ht; exact Nat.zero_le _

/-- Rules that Parse lets in have short words. -/
theorem parseD_sz (s : ByteArray) (rs : List Rl) (h : parseD s = .ok rs) : ∀ r ∈ rs, RlSz 1200 r := by
  unfold parseD at h
  split at h
  · cases h
  · rename_i hL
    split at h
    · cases h
    · split at h
      · cases h
      · rename_i rs' hr
        split at h
        · cases h
        · injection h with h; subst h
          exact readR_sz 1200 _ _ _ _ (Nat.le_refl _) (refToks_size s (by omega)) hr

def bodyW : Nat → List Am → ByteArray
  | _, [] => ⟨#[]⟩
  | i, a :: l => (if i = 0 then ⟨#[32, 58, 45, 32]⟩ else ⟨#[44, 32]⟩) ++ atomW a ++ bodyW (i + 1) l
def ruleW (r : Rl) : ByteArray := atomW r.head ++ bodyW 0 r.body ++ ⟨#[46, 10]⟩
def rulesW : List Rl → ByteArray
  | [] => ⟨#[]⟩
  | r :: l => ruleW r ++ rulesW l

def refRules (s : ByteArray) : ByteArray × Int × Nat :=
  match parseD s with
  | .error (c, p) => (⟨#[]⟩, c, p)
  | .ok rs => (rulesW rs, 0, 0)

def AmFine (a : Am) : Prop := a.rel.size ≤ 2000 ∧ a.args.length ≤ 2 ∧ ∀ t ∈ a.args, t.name.size ≤ 2000 ∧ t.num ≤ 1000

theorem argsW_size : ∀ (l : List Tm) (i : Nat), (∀ t ∈ l, t.name.size ≤ 2000 ∧ t.num ≤ 1000) → (argsW i l).size ≤ l.length * 4000
  | [], i, _ => Nat.zero_le _
  | t :: l, i, h => by
    have h1 := h t List.mem_cons_self
    have h2 := argsW_size l (i + 1) (fun x hx => h x (List.mem_cons_of_mem _ hx))
    have h3 : (tmW t).size ≤ 3000 := by
      unfold tmW
      split
      · have := decS_size t.num
        have hz : (⟨#[88]⟩ : ByteArray).size = 1 := rfl
        rw [ByteArray.size_append]; omega
      · omega
    have h4 : (if 0 < i then (⟨#[44]⟩ : ByteArray) else ⟨#[]⟩).size ≤ 1 := by split <;> decide
    simp only [argsW, ByteArray.size_append, List.length_cons]
    omega
theorem atomW_size (a : Am) (h : AmFine a) : (atomW a).size ≤ 20000 := by
  have h1 := argsW_size a.args 0 h.2.2
  have h2 := h.1
  have h3 := h.2.1
  have hz : (⟨#[40]⟩ : ByteArray).size = 1 := rfl
  have hz' : (⟨#[41]⟩ : ByteArray).size = 1 := rfl
  unfold atomW
  simp only [ByteArray.size_append]
  omega

end Go.Proofs.YtjajnhemgphefaaGreatDoor

namespace Go.Proofs.YtjajnhemgphefaaGreatDoor
open Go.RowKit Go.Shelf
set_option linter.unusedVariables false
set_option linter.unusedSimpArgs false

theorem R_count (s : ByteArray) : ∀ (f i : Nat), s.size ≤ i + f → Lib.runeCountFrom s f i = (R s i).length
  | 0, i, h => by rw [R_end s i (by omega)]; rfl
  | f + 1, i, h => by
    unfold Lib.runeCountFrom
    by_cases hi : i < s.size
    · have h1 := Lib.decode_width_pos s i hi
      rw [if_pos hi, R_cons s i hi, R_count s f _ (by omega)]
      simp; omega
    · rw [if_neg hi, R_end s i hi]; rfl
theorem runes_count (s : ByteArray) : (R s 0).length = Lib.runeCount s := (R_count s s.size 0 (by omega)).symm

theorem R_le (s : ByteArray) : (R s 0).length ≤ s.size := by rw [runes_count]; exact Lib.runeCount_le s

theorem refToks_toks (s : ByteArray) (h : s.size ≤ 1200) : refToks s = (toks s.size s 0).map toRT ++ [⟨4, ⟨#[]⟩, (R s 0).length, 0⟩] := by
  unfold refToks
  rw [toks_ref s.size s 0 (Nat.le_refl _) h, refT_fuel _ s.size _ _ (Nat.le_refl _) (R_le s)]

theorem toks_fine : ∀ (f : Nat) (s : ByteArray) (p : Nat), ∀ x ∈ toks f s p, TokFine x
  | 0, s, p, x, hx => by simp [toks] at hx
  | f + 1, s, p, x, hx => by
    unfold toks at hx
    split at hx
    · simp at hx
    split at hx
    · exact toks_fine f _ _ x hx
    split at hx
    · rcases List.mem_cons.1 hx with rfl | hx
      · unfold TokFine firstT
        simp only
        repeat' split
        all_goals simp
      · exact toks_fine f _ _ x hx
    · simp at hx

theorem same2_0 : Same2 pst0 (lk0 false) := by
  refine ⟨rfl, rfl, rfl, by decide, by decide, rfl, fun h => absurd rfl h, fun h => absurd rfl h, fun h => ?_, fun h => ?_, fun h => ?_, fun h => ?_, fun h => ?_⟩
  all_goals (simp [pst0] at h)

theorem pinv_0 : PInv pst0 := ⟨by decide, by decide, by simp [pst0], fun _ => rfl, fun h => absurd rfl h, fun h => absurd rfl h, by simp [pst0], by simp [pst0]⟩

theorem data_app (x y : ByteArray) : (x ++ y).data.toList = x.data.toList ++ y.data.toList := by simp

theorem tmW_txt (t : Tm) : (tmW t).data.toList = termTxt t := by
  unfold tmW termTxt decS
  split <;> simp

theorem argsW_txt : ∀ (l : List Tm) (i : Nat), (argsW i l).data.toList = argsTxt i l
  | [], i => rfl
  | t :: l, i => by
    unfold argsW argsTxt
    rw [data_app, data_app, tmW_txt, argsW_txt l (i + 1)]
    by_cases h : i = 0
    · subst h; simp
    · rw [if_pos (by omega), if_neg h]

theorem atomW_txt (a : Am) : (atomW a).data.toList = atomTxt a := by
  unfold atomW atomTxt
  rw [data_app, data_app, data_app, argsW_txt]
  simp

theorem bodyW_txt : ∀ (l : List Am) (i : Nat), (bodyW i l).data.toList = bodyTxt i l
  | [], i => rfl
  | a :: l, i => by
    unfold bodyW bodyTxt
    rw [data_app, data_app, atomW_txt, bodyW_txt l (i + 1)]
    by_cases h : i = 0
    · rw [if_pos h, if_pos h]
    · rw [if_neg h, if_neg h]

theorem rulesW_txt : ∀ (l : List Rl), (rulesW l).data.toList = rulesTxt l
  | [] => rfl
  | r :: l => by
    unfold rulesW rulesTxt
    rw [data_app, rulesW_txt l, List.flatMap_cons]
    unfold rulesTxt ruleW ruleTxt
    rw [data_app, data_app, atomW_txt, bodyW_txt]

theorem parse_same (s : ByteArray) (h : (R s 0).length ≤ 300) (h2 : s.size ≤ 1200) :
    parseD s = match parseR s with | .error ep => .error ep | .ok rs => if (soundR rs).1 ≠ 0 then .error (soundR rs) else .ok rs := by
  have hov := sim_over ⟨4, ⟨#[]⟩, (R s 0).length, 0⟩ rfl (toks s.size s 0) pst0 (lk0 false) same2_0 pinv_0 (toks_fine _ _ _)
  rw [← refToks_toks s h2] at hov
  unfold parseD parseR
  rw [if_neg (by omega)]
  cases hf : foldP pst0 (toks s.size s 0) with
  | mk sF o =>
    rw [hf] at hov
    cases o with
    | some ep =>
      simp only at hov ⊢
      rw [hov.1, if_pos hov.2]
    | none =>
      simp only at hov ⊢
      by_cases h0 : sF.st = 0
      · rw [if_pos h0] at hov ⊢
        rw [hov, if_neg (by simp)]
        obtain ⟨rs, r1, r2⟩ := rules_fold ⟨4, ⟨#[]⟩, (R s 0).length, 0⟩ rfl ((refToks s).length + 1) (toks s.size s 0) pst0 sF (by rw [refToks_toks s h2]; simp; omega) rfl rfl rfl hf h0
        rw [← refToks_toks s h2] at r1
        rw [r1]
        have : sF.rules = rs := by rw [r2]; rfl
        rw [this]
      · rw [if_neg h0] at hov ⊢
        rw [hov, if_pos (by simp), runes_count]

theorem rules_same (s : ByteArray) : refRules s = (⟨(rulesR s).1.toArray⟩, (rulesR s).2.1, (rulesR s).2.2.toNat) ∧ 0 ≤ (rulesR s).2.2 := by
  unfold refRules rulesR
  by_cases hl : 300 < Lib.runeCount s
  · have : parseD s = .error (1, 0) := by unfold parseD; rw [if_pos (by rw [runes_count]; exact hl)]
    rw [this, if_pos hl]
    exact ⟨rfl, by decide⟩
  · rw [if_neg hl, parse_same s (by rw [runes_count]; omega) (by have := size_le_runes s; omega)]
    cases hp : parseR s with
    | error ep => obtain ⟨c, p⟩ := ep; simp
    | ok rs =>
      have hck := checkS_eq rs
      have hpos : 0 ≤ (checkS rs).2 := by rw [hck]; simp
      simp only
      by_cases h0 : (soundR rs).1 = 0
      · have : (checkS rs).1 = 0 := by rw [hck]; exact h0
        rw [if_pos this, if_neg (by simpa using h0)]
        simp only
        refine ⟨?_, by simp⟩
        have := rulesW_txt rs
        refine Prod.ext ?_ rfl
        apply ByteArray.ext
        simp only
        rw [← this]
      · have : ¬ (checkS rs).1 = 0 := by rw [hck]; exact h0
        rw [if_neg this, if_pos (by simpa using h0)]
        simp only
        refine ⟨?_, hpos⟩
        rw [hck]; simp

end Go.Proofs.YtjajnhemgphefaaGreatDoor

namespace Go.Proofs.YtjajnhemgphefaaGreatDoor
open Go.RowKit Go.Shelf
set_option linter.unusedVariables false
set_option linter.unusedSimpArgs false

def pathsB : ByteArray := ⟨#[112, 97, 116, 104, 40, 88, 44, 89, 41, 58, 45, 101, 100, 103, 101, 40, 88, 44, 89, 41, 46, 32, 112, 97, 116, 104, 40, 88, 44, 90, 41, 58, 45, 112, 97, 116, 104, 40, 88, 44, 89, 41, 44, 101, 100, 103, 101, 40, 89, 44, 90, 41, 46]⟩
def pathsW : ByteArray := ⟨#[112, 97, 116, 104, 40, 88, 48, 44, 88, 49, 41, 32, 58, 45, 32, 101, 100, 103, 101, 40, 88, 48, 44, 88, 49, 41, 46, 10, 112, 97, 116, 104, 40, 88, 48, 44, 88, 49, 41, 32, 58, 45, 32, 112, 97, 116, 104, 40, 88, 48, 44, 88, 50, 41, 44, 32, 101, 100, 103, 101, 40, 88, 50, 44, 88, 49, 41, 46, 10]⟩

def bPath : ByteArray := ⟨#[112, 97, 116, 104]⟩
def bEdge : ByteArray := ⟨#[101, 100, 103, 101]⟩
def vX (n : Nat) : Tm := ⟨⟨#[]⟩, n⟩
def pathsR : List Rl := [⟨⟨bPath, [vX 0, vX 1]⟩, [⟨bEdge, [vX 0, vX 1]⟩]⟩, ⟨⟨bPath, [vX 0, vX 1]⟩, [⟨bPath, [vX 0, vX 2]⟩, ⟨bEdge, [vX 2, vX 1]⟩]⟩]

theorem paths_count : Lib.runeCount pathsB = 53 := by kernel_rfl
theorem paths_parse : parseR pathsB = .ok pathsR := by kernel_rfl
theorem paths_check : checkS pathsR = (0, 0) := by kernel_rfl
theorem paths_txt : rulesTxt pathsR = pathsW.data.toList := by
  simp [rulesTxt, pathsR, ruleTxt, atomTxt, bodyTxt, argsTxt, termTxt, vX, Lib.decDigits_one, pathsW, bPath, bEdge, ByteArray.toList_eq]
theorem paths_rules : rulesR pathsB = (pathsW.data.toList, 0, 0) := by
  unfold rulesR
  rw [paths_count, if_neg (by decide), paths_parse]
  simp only
  rw [paths_check, if_pos rfl, paths_txt]

end Go.Proofs.YtjajnhemgphefaaGreatDoor
