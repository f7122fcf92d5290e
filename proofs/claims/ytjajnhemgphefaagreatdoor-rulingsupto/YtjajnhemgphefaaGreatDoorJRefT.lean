/-
  The document's own answer: tokens of which none is refused can be read as rules.
-/
import Derived.Test.YtjajnhemgphefaaGreatDoorJRefS
namespace Go.Proofs.YtjajnhemgphefaaGreatDoor
open Go.RowKit Go.Shelf
set_option linter.unusedVariables false
set_option linter.unusedSimpArgs false

def okO (l : Lk) (ts : List RT) : Prop := (overR l ts).1 = 0
def hasEnd (ts : List RT) : Prop := ∃ pre E, ts = pre ++ [E] ∧ E.kind = 4

theorem okO_cons {l : Lk} {t : RT} {us : List RT} (h : okO l (t :: us)) (ha : acceptsB l t = false) : (stepR l t).e = 0 ∧ okO (stepR l t) us := by
  unfold okO overR at h
  rw [if_neg (by rw [ha]; simp)] at h
  by_cases he : (stepR l t).e = 0
  · rw [if_neg (by simpa using he)] at h; exact ⟨he, h⟩
  · rw [if_pos he] at h; exact absurd h he

theorem hasEnd_cons {t : RT} {us : List RT} (h : hasEnd (t :: us)) (hk : t.kind ≠ 4) : hasEnd us := by
  obtain ⟨pre, E, h1, h2⟩ := h
  cases pre with
  | nil => simp at h1; exact absurd (by rw [h1.1]; exact h2) hk
  | cons p pre => simp at h1; exact ⟨pre, E, h1.2, h2⟩
theorem hasEnd_nil : ¬ hasEnd [] := by
  rintro ⟨pre, E, h1, _⟩
  simp at h1

theorem noAcc {l : Lk} {t : RT} (h0 : l.want ≠ 0) (h6 : l.want ≠ 6) : acceptsB l t = false := by
  unfold acceptsB; simp [h0, h6]

theorem step3 {l : Lk} {t : RT} (hw : l.want = 3) (h : (stepR l t).e = 0) : (t.kind = 1 ∨ t.kind = 2) ∧ l.args + 1 ≤ 2 ∧ t.runes ≤ 8 ∧ stepR l t = { l with args := l.args + 1, want := 4 } := by
  have hs : stepR l t = startsR l t := by unfold stepR; simp [hw]
  rw [hs] at h ⊢
  unfold startsR startsL overMost at h ⊢
  simp only [hw] at h ⊢
  by_cases h1 : t.kind ≠ 1 ∧ (t.kind ≠ 2 ∨ (3 : Int) ≠ 3)
  · rw [if_pos h1] at h; simp at h
  · rw [if_neg h1] at h ⊢
    simp at h ⊢
    split at h
    · simp at h
    · rename_i h2
      refine ⟨by simp at h1; omega, by omega, by omega, by omega, by omega⟩
theorem step1 {l : Lk} {t : RT} (hw : l.want = 1) (h : (stepR l t).e = 0) : t.kind = 1 ∧ l.atoms + 1 ≤ 3 ∧ t.runes ≤ 8 ∧ stepR l t = { l with atoms := l.atoms + 1, want := 2 } := by
  have hs : stepR l t = startsR l t := by unfold stepR; simp [hw]
  rw [hs] at h ⊢
  unfold startsR startsL overMost at h ⊢
  simp only [hw] at h ⊢
  by_cases h1 : t.kind ≠ 1 ∧ (t.kind ≠ 2 ∨ (1 : Int) ≠ 3)
  · rw [if_pos h1] at h; simp at h
  · rw [if_neg h1] at h ⊢
    simp at h ⊢
    split at h
    · simp at h
    · rename_i h2
      refine ⟨by simp at h1; omega, by omega, by omega, by omega, by omega⟩
theorem step0 {l : Lk} {t : RT} (hw : l.want = 0) (h : (stepR l t).e = 0) : t.kind = 1 ∧ l.rules + 1 ≤ 8 ∧ t.runes ≤ 8 ∧ stepR l t = { l with rules := l.rules + 1, body := false, want := 2 } := by
  have hs : stepR l t = startsR l t := by unfold stepR; simp [hw]
  rw [hs] at h ⊢
  unfold startsR startsL overMost at h ⊢
  simp only [hw] at h ⊢
  by_cases h1 : t.kind ≠ 1 ∧ (t.kind ≠ 2 ∨ (0 : Int) ≠ 3)
  · rw [if_pos h1] at h; simp at h
  · rw [if_neg h1] at h ⊢
    simp at h ⊢
    split at h
    · simp at h
    · rename_i h2
      refine ⟨by simp at h1; omega, by omega, by omega, by omega, by omega⟩
theorem step2 {l : Lk} {t : RT} (hw : l.want = 2) (h : (stepR l t).e = 0) : t.kind = 40 ∧ stepR l t = { l with args := 0, want := 3 } := by
  have hs : stepR l t = nextR l t := by unfold stepR; simp [hw]
  rw [hs] at h ⊢
  unfold nextR at h ⊢
  simp only [hw] at h ⊢
  simp at h ⊢
  split at h
  · rename_i h1; exact h1
  · simp at h
theorem step4 {l : Lk} {t : RT} (hw : l.want = 4) (ha : l.alone = false) (h : (stepR l t).e = 0) : (t.kind = 44 ∧ stepR l t = { l with want := 3 }) ∨ (t.kind = 41 ∧ stepR l t = { l with want := 5 }) := by
  have hs : stepR l t = nextR l t := by unfold stepR; simp [hw]
  rw [hs] at h ⊢
  unfold nextR at h ⊢
  simp only [hw, ha] at h ⊢
  simp at h ⊢
  by_cases h1 : t.kind = 44
  · left; simp [h1]
  · by_cases h2 : t.kind = 41
    · right; simp [h2]
    · simp [h1, h2] at h
theorem step5 {l : Lk} {t : RT} (hw : l.want = 5) (h : (stepR l t).e = 0) : (t.kind = 46 ∧ stepR l t = { l with want := 0 }) ∨ (t.kind = 44 ∧ l.body = true ∧ stepR l t = { l with want := 1 }) ∨ (t.kind = 3 ∧ l.body = false ∧ stepR l t = { l with body := true, atoms := 0, want := 1 }) := by
  have hs : stepR l t = nextR l t := by unfold stepR; simp [hw]
  rw [hs] at h ⊢
  unfold nextR at h ⊢
  simp only [hw] at h ⊢
  simp at h ⊢
  by_cases h1 : t.kind = 46
  · left; simp [h1]
  · by_cases h2 : t.kind = 44
    · cases hb : l.body with
      | true => right; left; simp [h2]
      | false => simp [h2, hb] at h
    · by_cases h3 : t.kind = 3
      · cases hb : l.body with
        | true => simp [h3, hb] at h
        | false => right; right; simp [h3]
      · simp [h1, h2, h3] at h

/-- What is behind a whole atom. -/
structure Aft (l l' : Lk) : Prop where
  rules : l'.rules = l.rules
  e : l'.e = 0
  alone : l'.alone = false

theorem args_read : ∀ (n : Nat) (ts : List RT) (l : Lk) (vs : List ByteArray), ts.length ≤ n → l.want = 3 → l.e = 0 → l.alone = false → hasEnd ts → okO l ts →
    ∃ L vsF k, argsR vs ts = some (L, vsF, k) ∧ l.args + L.length ≤ 2 ∧ okO { l with want := 5, args := l.args + L.length } (ts.drop k) ∧ hasEnd (ts.drop k) ∧ (∀ t ∈ L, t.num ≤ vs.length + L.length) ∧ vsF.length ≤ vs.length + L.length
  | 0, ts, l, vs, hn, _, _, _, hE, _ => by
    have : ts = [] := List.eq_nil_of_length_eq_zero (by omega)
    rw [this] at hE; exact absurd hE hasEnd_nil
  | n + 1, [], l, vs, hn, _, _, _, hE, _ => absurd hE hasEnd_nil
  | n + 1, t :: us, l, vs, hn, hw, he, hal, hE, hok => by
    obtain ⟨h1, h2⟩ := okO_cons hok (noAcc (by rw [hw]; decide) (by rw [hw]; decide))
    obtain ⟨hk, hg, hr, hst⟩ := step3 hw h1
    have hE2 := hasEnd_cons hE (by omega)
    rw [hst] at h2
    have hnum : (argT vs t).num ≤ vs.length := by
      unfold argT; split
      · exact List.findIdx_le_length
      · simp
    have hvl := argVs_len vs t
    cases us with
    | nil => exact absurd hE2 hasEnd_nil
    | cons b us =>
      obtain ⟨h3, h4⟩ := okO_cons h2 (noAcc (by simp) (by simp))
      rcases step4 (l := { l with args := l.args + 1, want := 4 }) rfl (by simpa using hal) h3 with ⟨hb, hst2⟩ | ⟨hb, hst2⟩
      · rw [hst2] at h4
        have hE3 := hasEnd_cons hE2 (by omega)
        obtain ⟨L, vsF, k, r1, r2, r3, r4, r5, r6⟩ := args_read n us { l with args := l.args + 1, want := 3 } (argVs vs t) (by simp at hn; omega) rfl he hal hE3 h4
        refine ⟨argT vs t :: L, vsF, k + 2, ?_, ?_, ?_, ?_, ?_, ?_⟩
        · unfold argsR; rw [if_neg (by omega), r1]
        · simp at r2 ⊢; omega
        · simp only [List.length_cons, List.drop_succ_cons] at r3 ⊢
          have e : l.args + (L.length + 1) = l.args + 1 + L.length := by omega
          rw [e]; exact r3
        · simpa using r4
        · intro t' ht'
          simp only [List.length_cons]
          rcases List.mem_cons.1 ht' with rfl | ht'
          · omega
          · have := r5 t' ht'; omega
        · simp only [List.length_cons]; omega
      · rw [hst2] at h4
        have hE3 := hasEnd_cons hE2 (by omega)
        refine ⟨[argT vs t], argVs vs t, 2, ?_, by simpa using hg, by simpa using h4, by simpa using hE3, ?_, by simpa using hvl⟩
        · unfold argsR; rw [if_pos hb]
        · intro t' ht'
          simp at ht'; subst ht'; simp; omega

theorem body_read : ∀ (f : Nat) (ts : List RT) (l : Lk) (vs : List ByteArray), ts.length < f → l.want = 5 → l.e = 0 → l.alone = false → hasEnd ts → okO l ts → (l.body = true → l.atoms ≤ 3) →
    ∃ bs m l', bodyR f vs ts = some (bs, m) ∧ (if l.body = true then l.atoms + bs.length ≤ 3 else bs.length ≤ 3) ∧ l'.want = 0 ∧ l'.rules = l.rules ∧ l'.e = 0 ∧ l'.alone = false ∧ okO l' (ts.drop (m + 1)) ∧ hasEnd (ts.drop (m + 1)) ∧
      (∀ a ∈ bs, a.args.length ≤ 2 ∧ ∀ t ∈ a.args, t.num ≤ vs.length + 2 * bs.length)
  | 0, ts, l, vs, hn, _, _, _, _, _, _ => by omega
  | f + 1, [], l, vs, hn, _, _, _, hE, _, _ => absurd hE hasEnd_nil
  | f + 1, t :: us, l, vs, hn, hw, he, hal, hE, hok, hb3 => by
    obtain ⟨h1, h2⟩ := okO_cons hok (noAcc (by rw [hw]; decide) (by rw [hw]; decide))
    have key : ∀ l1 : Lk, l1.want = 1 → l1.e = 0 → l1.alone = false → l1.body = true → l1.rules = l.rules → okO l1 us → hasEnd us → t.kind ≠ 46 → (∀ n, l1.atoms + n ≤ 3 → if l.body = true then l.atoms + n ≤ 3 else n ≤ 3) →
        ∃ bs m l', bodyR (f + 1) vs (t :: us) = some (bs, m) ∧ (if l.body = true then l.atoms + bs.length ≤ 3 else bs.length ≤ 3) ∧ l'.want = 0 ∧ l'.rules = l.rules ∧ l'.e = 0 ∧ l'.alone = false ∧ okO l' ((t :: us).drop (m + 1)) ∧ hasEnd ((t :: us).drop (m + 1)) ∧
          (∀ a ∈ bs, a.args.length ≤ 2 ∧ ∀ t ∈ a.args, t.num ≤ vs.length + 2 * bs.length) := by
      intro l1 w1 e1 a1 b1 r1 o1 E1 k46 hcount
      cases us with
      | nil => exact absurd E1 hasEnd_nil
      | cons r us =>
        obtain ⟨g1, g2⟩ := okO_cons o1 (noAcc (by rw [w1]; decide) (by rw [w1]; decide))
        obtain ⟨kr, ka, krn, kst⟩ := step1 w1 g1
        have E2 := hasEnd_cons E1 (by omega)
        rw [kst] at g2
        cases us with
        | nil => exact absurd E2 hasEnd_nil
        | cons p us =>
          obtain ⟨g3, g4⟩ := okO_cons g2 (noAcc (by simp) (by simp))
          obtain ⟨kp, kst2⟩ := step2 (l := { l1 with atoms := l1.atoms + 1, want := 2 }) rfl g3
          have E3 := hasEnd_cons E2 (by omega)
          rw [kst2] at g4
          obtain ⟨L, vsF, k, q1, q2, q3, q4, q5, q6⟩ := args_read us.length us { l1 with atoms := l1.atoms + 1, args := 0, want := 3 } vs (Nat.le_refl _) rfl e1 a1 E3 g4
          have hlen : (us.drop k).length < f := by simp at hn ⊢; omega
          obtain ⟨bs, m, l', p1, p2, p3, p4, p5, p6, p7, p8, p9⟩ := body_read f (us.drop k) { l1 with atoms := l1.atoms + 1, args := 0 + L.length, want := 5 } vsF hlen rfl e1 a1 q4 q3 (fun _ => by simp; omega)
          simp only [b1, if_true] at p2
          refine ⟨⟨r.text, L⟩ :: bs, 3 + k + m, l', ?_, ?_, p3, p4.trans r1, p5, p6, ?_, ?_, ?_⟩
          · unfold bodyR
            simp only [if_neg k46, q1, p1]
          · simp only [List.length_cons]
            exact hcount (bs.length + 1) (by omega)
          · have e : 3 + k + m + 1 = (k + (m + 1)) + 1 + 1 + 1 := by omega
            rw [e]; simp only [List.drop_succ_cons]
            rw [← List.drop_drop]; exact p7
          · have e : 3 + k + m + 1 = (k + (m + 1)) + 1 + 1 + 1 := by omega
            rw [e]; simp only [List.drop_succ_cons]
            rw [← List.drop_drop]; exact p8
          · intro a ha
            simp only [List.length_cons]
            simp only [Nat.zero_add] at q2
            rcases List.mem_cons.1 ha with rfl | ha
            · exact ⟨by simp only; omega, fun t' ht' => by have := q5 t' ht'; omega⟩
            · obtain ⟨x1, x2⟩ := p9 a ha
              exact ⟨x1, fun t' ht' => by have := x2 t' ht'; omega⟩
    rcases step5 hw h1 with ⟨hk, hst⟩ | ⟨hk, hbd, hst⟩ | ⟨hk, hbd, hst⟩
    · rw [hst] at h2
      refine ⟨[], 0, { l with want := 0 }, ?_, ?_, rfl, rfl, he, hal, h2, hasEnd_cons hE (by omega), fun a ha => by cases ha⟩
      · unfold bodyR; simp only [if_pos hk]
      · split
        · rename_i hb; simpa using hb3 hb
        · simp
    · rw [hst] at h2
      exact key { l with want := 1 } rfl he hal hbd rfl h2 (hasEnd_cons hE (by omega)) (by omega) (fun n hn => by rw [if_pos hbd]; exact hn)
    · rw [hst] at h2
      exact key { l with body := true, atoms := 0, want := 1 } rfl he hal rfl rfl h2 (hasEnd_cons hE (by omega)) (by omega) (fun n hn => by rw [if_neg (by rw [hbd]; simp)]; simpa using hn)

/-- Rules as they may be at most. -/
structure RlSmall (r : Rl) : Prop where
  head : r.head.args.length ≤ 2 ∧ ∀ t ∈ r.head.args, t.num ≤ 100
  few : r.body.length ≤ 3
  body : ∀ a ∈ r.body, a.args.length ≤ 2 ∧ ∀ t ∈ a.args, t.num ≤ 100

theorem rules_read : ∀ (f : Nat) (ts : List RT) (l : Lk), ts.length < f → l.want = 0 → l.e = 0 → l.alone = false → hasEnd ts → okO l ts → l.rules ≤ 8 →
    ∃ rs, readR f ts = some rs ∧ l.rules + rs.length ≤ 8 ∧ ∀ r ∈ rs, RlSmall r
  | 0, ts, l, hn, _, _, _, _, _, _ => by omega
  | f + 1, [], l, hn, _, _, _, hE, _, _ => absurd hE hasEnd_nil
  | f + 1, t :: us, l, hn, hw, he, hal, hE, hok, h8 => by
    by_cases hk4 : t.kind = 4
    · exact ⟨[], by unfold readR; simp only [if_pos hk4], by simpa using h8, fun r hr => by cases hr⟩
    · obtain ⟨h1, h2⟩ := okO_cons hok (by unfold acceptsB; simp [hk4])
      obtain ⟨kt, kr, ktr, kst⟩ := step0 hw h1
      have E1 := hasEnd_cons hE hk4
      rw [kst] at h2
      cases us with
      | nil => exact absurd E1 hasEnd_nil
      | cons p us =>
        obtain ⟨g3, g4⟩ := okO_cons h2 (noAcc (by simp) (by simp))
        obtain ⟨kp, kst2⟩ := step2 (l := { l with rules := l.rules + 1, body := false, want := 2 }) rfl g3
        have E2 := hasEnd_cons E1 (by omega)
        rw [kst2] at g4
        obtain ⟨L, vsF, k, q1, q2, q3, q4, q5, q6⟩ := args_read us.length us { l with rules := l.rules + 1, body := false, args := 0, want := 3 } [] (Nat.le_refl _) rfl he hal E2 g4
        simp only [Nat.zero_add, List.length_nil] at q2 q5 q6
        have hk2 := (argsR_len _ _ _ _ _ q1).2.1
        have hk22 := (argsR_len _ _ _ _ _ q1).2.2.1
        obtain ⟨bs, m, l', p1, p2, p3, p4, p5, p6, p7, p8, p9⟩ := body_read us.length (us.drop k) { l with rules := l.rules + 1, body := false, args := 0 + L.length, want := 5 } vsF (by simp; omega) rfl he hal q4 q3 (fun h => by simp at h)
        simp only [Bool.false_eq_true, if_false] at p2
        have hr' : l'.rules = l.rules + 1 := p4
        obtain ⟨rs, s1, s2, s3⟩ := rules_read f ((us.drop k).drop (m + 1)) l' (by simp at hn ⊢; omega) p3 p5 p6 p8 p7 (by omega)
        refine ⟨⟨⟨t.text, L⟩, bs⟩ :: rs, ?_, by simp; omega, fun r hr => ?_⟩
        · unfold readR
          simp only [if_neg hk4, q1, p1, s1]
        · rcases List.mem_cons.1 hr with rfl | hr
          · exact ⟨⟨q2, fun t' ht' => by have := q5 t' ht'; omega⟩, p2, fun a ha => ⟨(p9 a ha).1, fun t' ht' => by have := (p9 a ha).2 t' ht'; omega⟩⟩
          · exact s3 r hr

end Go.Proofs.YtjajnhemgphefaaGreatDoor
