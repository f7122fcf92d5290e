/-
  The document's own answer: what the variables of a rule's head may be: nothing is lost and nothing comes that does not follow.
-/
import Derived.Test.YtjajnhemgphefaaGreatDoorJMdQ
namespace Go.Proofs.YtjajnhemgphefaaGreatDoor
open Go.RowKit Go.Shelf
set_option linter.unusedVariables false
set_option linter.unusedSimpArgs false

/-- What may be said of the bindings of each round. -/
structure WayInv (r : Rl) (names : List ByteArray) (gs : List Gr) (P : Nat → List ByteArray → Prop) : Prop where
  start : P 0 blank8
  step : ∀ (i : Nat) (a : Am) (g : Gr) (b c : List ByteArray), r.body[i]? = some a → g ∈ gs → P i b → fitG a g b = some c → (lostB r i = true → P (i + 1) (lessL r i c) ∧ keyN names (lessL r i c) < 4096) ∧ (lostB r i = false → P (i + 1) c)

abbrev eBy : ByteArray := ⟨#[]⟩
theorem emptyB_iff (x : ByteArray) : emptyB x = true ↔ x = eBy := by
  constructor
  · intro h
    have h1 : x.toList = [] := List.isEmpty_iff.1 h
    have h2 : eBy.toList = [] := by decide +kernel
    have h3 := beq_bytes x eBy
    rw [h1, h2] at h3
    simpa using h3.symm
  · rintro rfl; decide +kernel
theorem emptyB_e : emptyB eBy = true := by decide +kernel
theorem eqB_iff (x y : ByteArray) : eqB x y = true ↔ x = y := by
  unfold eqB; rw [beq_bytes]; simp
def VarIn (a : Am) (v : Nat) : Prop := ∃ t ∈ a.args, emptyB t.name = true ∧ t.num = v
theorem bound_iff (bd : List Am) (v : Nat) : boundR bd v = true ↔ ∃ a ∈ bd, VarIn a v := by
  unfold boundR VarIn
  rw [List.any_eq_true]
  refine exists_congr fun a => and_congr_right fun _ => ?_
  rw [List.any_eq_true]
  refine exists_congr fun t => and_congr_right fun _ => ?_
  unfold tmIs emptyB
  rw [Bool.and_eq_true, decide_eq_true_eq]
theorem bound_one (a : Am) (v : Nat) : boundR [a] v = true ↔ VarIn a v := by
  rw [bound_iff]; simp
theorem set_get (b : List ByteArray) (n v : Nat) (x : ByteArray) (hn : n < b.length) : (b.set n x).getD v eBy = if v = n then x else b.getD v eBy := by
  simp only [List.getD_eq_getElem?_getD, List.getElem?_set]
  by_cases h : v = n
  · subst h; rw [if_pos rfl, if_pos hn, if_pos rfl]; rfl
  · rw [if_neg (fun e => h e.symm), if_neg h]
/-- What comes of an atom that fits. -/
theorem fitL_ok : ∀ (ts : List Tm) (xs b c : List ByteArray), fitL ts xs b = some c → ts.length = xs.length → (∀ x ∈ xs, emptyB x = false) → (∀ t ∈ ts, t.num < b.length) →
    c.length = b.length ∧ (∀ v, emptyB (b.getD v eBy) = false → c.getD v eBy = b.getD v eBy) ∧ xs = ts.map (nmOf c) ∧ (∀ v, emptyB (c.getD v eBy) = false ↔ (emptyB (b.getD v eBy) = false ∨ ∃ t ∈ ts, emptyB t.name = true ∧ t.num = v)) ∧ ∀ v, emptyB (c.getD v eBy) = false → emptyB (b.getD v eBy) = true → c.getD v eBy ∈ xs
  | [], [], b, c, h, _, _, _ => by
    cases h
    exact ⟨rfl, fun _ _ => rfl, rfl, fun v => by simp, fun v h1 h2 => by rw [h1] at h2; cases h2⟩
  | [], _ :: _, _, _, _, h, _, _ => by cases h
  | _ :: _, [], _, _, _, h, _, _ => by cases h
  | t :: ts, x :: xs, b, c, h, hl, hx, hn => by
    have hl' : ts.length = xs.length := by simpa using hl
    have hx' : ∀ y ∈ xs, emptyB y = false := fun y hy => hx y (List.mem_cons_of_mem _ hy)
    have hx0 := hx x List.mem_cons_self
    have hn' : ∀ u ∈ ts, u.num < b.length := fun u hu => hn u (List.mem_cons_of_mem _ hu)
    have hn0 := hn t List.mem_cons_self
    unfold fitL at h
    by_cases h1 : emptyB t.name = false
    · rw [if_pos h1] at h
      by_cases h2 : eqB t.name x = true
      · rw [if_pos h2] at h
        obtain ⟨i1, i2, i3, i4, i5⟩ := fitL_ok ts xs b c h hl' hx' hn'
        refine ⟨i1, i2, ?_, fun v => ?_, fun v g1 g2 => List.mem_cons_of_mem _ (i5 v g1 g2)⟩
        · rw [List.map_cons, ← i3]
          congr 1
          unfold nmOf
          rw [if_neg (by show ¬ emptyB t.name = true; rw [h1]; decide)]
          exact ((eqB_iff _ _).1 h2).symm
        · rw [i4 v]
          constructor
          · rintro (g | ⟨u, hu, g⟩)
            · exact .inl g
            · exact .inr ⟨u, List.mem_cons_of_mem _ hu, g⟩
          · rintro (g | ⟨u, hu, g⟩)
            · exact .inl g
            · rcases List.mem_cons.1 hu with rfl | hu
              · rw [h1] at g; cases g.1
              · exact .inr ⟨u, hu, g⟩
      · rw [if_neg h2] at h; cases h
    · have h1' : emptyB t.name = true := by simpa using h1
      rw [if_neg h1] at h
      by_cases h2 : emptyB (b.getD t.num ⟨#[]⟩) = true
      · rw [if_pos h2] at h
        obtain ⟨i1, i2, i3, i4, i5⟩ := fitL_ok ts xs (b.set t.num x) c h hl' hx' (fun u hu => by rw [List.length_set]; exact hn' u hu)
        rw [List.length_set] at i1
        have hct : c.getD t.num eBy = x := by
          have := i2 t.num (by rw [set_get _ _ _ _ hn0, if_pos rfl]; exact hx0)
          rw [this, set_get _ _ _ _ hn0, if_pos rfl]
        refine ⟨i1, fun v g => ?_, ?_, fun v => ?_, fun v g1 g2 => ?_⟩
        · have hv : v ≠ t.num := fun e => by rw [e] at g; rw [h2] at g; cases g
          have := i2 v (by rw [set_get _ _ _ _ hn0, if_neg hv]; exact g)
          rw [this, set_get _ _ _ _ hn0, if_neg hv]
        · rw [List.map_cons, ← i3]
          congr 1
          unfold nmOf
          rw [if_pos (by exact h1')]
          exact hct.symm
        · rw [i4 v, set_get _ _ _ _ hn0]
          by_cases hv : v = t.num
          · rw [if_pos hv]
            exact ⟨fun _ => .inr ⟨t, List.mem_cons_self, h1', hv.symm⟩, fun _ => .inl hx0⟩
          · rw [if_neg hv]
            constructor
            · rintro (g | ⟨u, hu, g⟩)
              · exact .inl g
              · exact .inr ⟨u, List.mem_cons_of_mem _ hu, g⟩
            · rintro (g | ⟨u, hu, g⟩)
              · exact .inl g
              · rcases List.mem_cons.1 hu with rfl | hu
                · exact absurd g.2.symm hv
                · exact .inr ⟨u, hu, g⟩
        · by_cases hv : v = t.num
          · subst hv; rw [hct]; exact List.mem_cons_self
          · exact List.mem_cons_of_mem _ (i5 v g1 (by rw [set_get _ _ _ _ hn0, if_neg hv]; exact g2))
      · rw [if_neg h2] at h
        have h2' : emptyB (b.getD t.num eBy) = false := by simpa using h2
        by_cases h3 : eqB (b.getD t.num ⟨#[]⟩) x = true
        · rw [if_pos h3] at h
          have h3' := (eqB_iff _ _).1 h3
          obtain ⟨i1, i2, i3, i4, i5⟩ := fitL_ok ts xs b c h hl' hx' hn'
          refine ⟨i1, i2, ?_, fun v => ?_, fun v g1 g2 => List.mem_cons_of_mem _ (i5 v g1 g2)⟩
          · rw [List.map_cons, ← i3]
            congr 1
            unfold nmOf
            rw [if_pos (by exact h1'), i2 _ h2']
            exact h3'.symm
          · rw [i4 v]
            constructor
            · rintro (g | ⟨u, hu, g⟩)
              · exact .inl g
              · exact .inr ⟨u, List.mem_cons_of_mem _ hu, g⟩
            · rintro (g | ⟨u, hu, g⟩)
              · exact .inl g
              · rcases List.mem_cons.1 hu with rfl | hu
                · exact .inl (by rw [← g.2]; exact h2')
                · exact .inr ⟨u, hu, g⟩
        · rw [if_neg h3] at h; cases h
/-- An atom, names put for its variables. -/
def inT (s : Nat → ByteArray) (t : Tm) : ByteArray := if emptyB t.name = true then s t.num else t.name
def instA (s : Nat → ByteArray) (a : Am) : Gr := ⟨a.rel, a.args.map (inT s)⟩
def Agr (b : List ByteArray) (s : Nat → ByteArray) : Prop := ∀ v, emptyB (b.getD v eBy) = false → b.getD v eBy = s v
theorem fitL_some (s : Nat → ByteArray) : ∀ (ts : List Tm) (b : List ByteArray), (∀ t ∈ ts, t.num < b.length) → Agr b s → (∀ v, emptyB (s v) = false) → ∃ c, fitL ts (ts.map (inT s)) b = some c ∧ Agr c s
  | [], b, _, hb, _ => ⟨b, rfl, hb⟩
  | t :: ts, b, hn, hb, hs => by
    have hn' : ∀ u ∈ ts, u.num < b.length := fun u hu => hn u (List.mem_cons_of_mem _ hu)
    have hn0 := hn t List.mem_cons_self
    rw [List.map_cons]
    unfold fitL
    by_cases h1 : emptyB t.name = false
    · have e1 : inT s t = t.name := by unfold inT; rw [h1]; rfl
      rw [if_pos h1, e1, if_pos ((eqB_iff _ _).2 rfl)]
      exact fitL_some s ts b hn' hb hs
    · have h1' : emptyB t.name = true := by simpa using h1
      have e1 : inT s t = s t.num := by unfold inT; rw [h1']; rfl
      rw [if_neg h1, e1]
      by_cases h2 : emptyB (b.getD t.num ⟨#[]⟩) = true
      · rw [if_pos h2]
        refine fitL_some s ts _ (fun u hu => by rw [List.length_set]; exact hn' u hu) (fun v hv => ?_) hs
        rw [set_get _ _ _ _ hn0] at hv ⊢
        by_cases e : v = t.num
        · rw [if_pos e, e]
        · rw [if_neg e] at hv ⊢; exact hb v hv
      · rw [if_neg h2, if_pos ((eqB_iff _ _).2 (hb _ (by simpa using h2)))]
        exact fitL_some s ts b hn' hb hs

/-- The variables that are known behind i atoms. -/
def domR (r : Rl) : Nat → Nat → Bool
  | 0, _ => false
  | i + 1, v => match r.body[i]? with
    | none => domR r i v
    | some a => if lostB r i = true then (domR r i v || boundR [a] v) && keepsB r i v else domR r i v || boundR [a] v
theorem dom_up (r : Rl) (v : Nat) : ∀ i, i ≤ r.body.length → (∃ k a, k < i ∧ r.body[k]? = some a ∧ VarIn a v) → (VarIn r.head v ∨ ∃ j a, i ≤ j ∧ r.body[j]? = some a ∧ VarIn a v) → domR r i v = true
  | 0, _, ⟨k, a, hk, _⟩, _ => by omega
  | i + 1, hi, ⟨k, a, hk, ha, hv⟩, hm => by
    have hb : r.body[i]? = some r.body[i] := List.getElem?_eq_getElem (by omega)
    have h1 : (domR r i v || boundR [r.body[i]] v) = true := by
      rw [Bool.or_eq_true]
      by_cases e : k = i
      · subst e
        rw [hb] at ha; cases ha
        exact .inr ((bound_one _ _).2 hv)
      · refine .inl (dom_up r v i (by omega) ⟨k, a, by omega, ha, hv⟩ (hm.imp id ?_))
        rintro ⟨j, a', hj, h2⟩
        exact ⟨j, a', by omega, h2⟩
    unfold domR
    rw [hb]
    simp only
    split
    · rw [Bool.and_eq_true]
      refine ⟨h1, ?_⟩
      unfold keepsB
      rw [Bool.or_eq_true]
      rcases hm with hm | ⟨j, a', hj, h2, h3⟩
      · exact .inl ((bound_one _ _).2 hm)
      · refine .inr ((bound_iff _ _).2 ⟨a', ?_, h3⟩)
        rw [List.mem_iff_getElem?]
        exact ⟨j - (i + 1), by rw [List.getElem?_drop]; rw [show i + 1 + (j - (i + 1)) = j by omega]; exact h2⟩
    · exact h1
/-- Rules as they are let in. -/
structure RuleFine (r : Rl) : Prop where
  three : r.body.length ≤ 3
  args : ∀ a ∈ r.head :: r.body, a.args.length ≤ 2 ∧ ∀ t ∈ a.args, t.num < 8
  safe : ∀ v, VarIn r.head v → ∃ a ∈ r.body, VarIn a v
structure Wy (r : Rl) (names : List ByteArray) (d : Nat → Bool) (b : List ByteArray) : Prop where
  len : b.length = 8
  dom : ∀ v, v < 8 → emptyB (b.getD v eBy) = !d v
  mem : ∀ v, emptyB (b.getD v eBy) = false → b.getD v eBy ∈ names
def domA (r : Rl) (i : Nat) (a : Am) (v : Nat) : Bool := domR r i v || boundR [a] v
theorem fitG_ok {a : Am} {g : Gr} {b c : List ByteArray} (h : fitG a g b = some c) : a.rel = g.rel ∧ a.args.length = g.args.length ∧ fitL a.args g.args b = some c := by
  unfold fitG at h
  split at h
  · rename_i h1; exact ⟨(eqB_iff _ _).1 h1.1, h1.2, h⟩
  · cases h
theorem far_get {b : List ByteArray} {v : Nat} (h : emptyB (b.getD v eBy) = false) : v < b.length := by
  rcases Nat.lt_or_ge v b.length with hl | hl
  · exact hl
  · rw [List.getD_eq_getElem?_getD, List.getElem?_eq_none hl, Option.getD_none, emptyB_e] at h; cases h
section
variable {r : Rl} {names : List ByteArray} {gs : List Gr} {i : Nat} {a : Am} {g : Gr} {b c : List ByteArray}
theorem wy_fit (hr : RuleFine r) (hg : ∀ g ∈ gs, ∀ x ∈ g.args, emptyB x = false ∧ x ∈ names) (ha : a ∈ r.body) (hm : g ∈ gs) (h : Wy r names (domR r i) b) (hf : fitG a g b = some c) : Wy r names (domA r i a) c := by
  obtain ⟨f1, f2, f3⟩ := fitG_ok hf
  have hn := (hr.args a (List.mem_cons_of_mem _ ha)).2
  obtain ⟨i1, i2, i3, i4, i5⟩ := fitL_ok _ _ _ _ f3 f2 (fun x hx => (hg g hm x hx).1) (fun t ht => by rw [h.len]; exact hn t ht)
  refine ⟨i1.trans h.len, fun v hv => ?_, fun v hv => ?_⟩
  · have e1 : (emptyB (c.getD v eBy) = false) ↔ domA r i a v = true := by
      rw [i4 v, h.dom v hv]
      unfold domA
      rw [Bool.or_eq_true, bound_one]
      unfold VarIn
      simp
    clear i4 i5 i3 f3 hf
    cases h1 : emptyB (c.getD v eBy) <;> cases h2 : domA r i a v
    · exact absurd (e1.1 h1) (by rw [h2]; decide)
    · rfl
    · rfl
    · exact absurd (e1.2 h2) (by rw [h1]; decide)
  · by_cases hb : emptyB (b.getD v eBy) = true
    · exact (hg g hm _ (i5 v hv hb)).2
    · have hb' : emptyB (b.getD v eBy) = false := by simpa using hb
      rw [i2 v hb']; exact h.mem v hb'
theorem less_get (v : Nat) (hl : c.length = 8) : (lessL r i c).getD v eBy = if v < 8 ∧ keepsB r i v = true then c.getD v eBy else eBy := by
  unfold lessL
  rw [List.getD_eq_getElem?_getD, List.getElem?_map, hl]
  by_cases hv : v < 8
  · rw [List.getElem?_range hv]
    simp only [Option.map_some, Option.getD_some, hv, true_and]
  · rw [List.getElem?_eq_none (by simpa using hv)]
    simp [hv]
theorem wy_less (h : Wy r names (domA r i a) c) (hb : r.body[i]? = some a) (hl : lostB r i = true) : Wy r names (domR r (i + 1)) (lessL r i c) := by
  refine ⟨by unfold lessL; simpa using h.len, fun v hv => ?_, fun v hv => ?_⟩
  · rw [less_get v h.len]
    show _ = !(match r.body[i]? with | none => domR r i v | some a => if lostB r i = true then (domR r i v || boundR [a] v) && keepsB r i v else domR r i v || boundR [a] v)
    rw [hb]
    simp only [hl, if_true]
    have h2 := h.dom v hv
    unfold domA at h2
    by_cases hk : keepsB r i v = true
    · rw [if_pos ⟨hv, hk⟩, h2, hk, Bool.and_true]
    · rw [if_neg (fun e => hk e.2)]
      have : keepsB r i v = false := by simpa using hk
      rw [this, Bool.and_false, emptyB_e]; rfl
  · rw [less_get v h.len] at hv ⊢
    split at hv
    · rename_i h1; rw [if_pos h1]; exact h.mem v hv
    · rw [emptyB_e] at hv; cases hv
theorem wy_same (h : Wy r names (domA r i a) c) (hb : r.body[i]? = some a) (hl : lostB r i = false) : Wy r names (domR r (i + 1)) c := by
  refine ⟨h.len, fun v hv => ?_, h.mem⟩
  rw [h.dom v hv]
  show _ = !(match r.body[i]? with | none => domR r i v | some a => if lostB r i = true then (domR r i v || boundR [a] v) && keepsB r i v else domR r i v || boundR [a] v)
  rw [hb]
  simp only [hl]
  rfl
end
/-- Numbers of bindings. -/
theorem sameY_iff (x y : ByteArray) : sameB x y = true ↔ x = y := by rw [same_eq]; simp
theorem seenN_lt {names : List ByteArray} {x : ByteArray} : seenN names x < names.length ↔ x ∈ names := by
  unfold seenN
  rw [List.findIdx_lt_length]
  constructor
  · rintro ⟨y, hy, h⟩
    rw [(sameY_iff x y).1 h]; exact hy
  · intro h; exact ⟨x, h, (sameY_iff _ _).2 rfl⟩
theorem seenN_inj {names : List ByteArray} {x y : ByteArray} (hx : x ∈ names) (hy : y ∈ names) (h : seenN names x = seenN names y) : x = y := by
  have h1 : seenN names x < names.length := seenN_lt.2 hx
  have h2 : seenN names y < names.length := seenN_lt.2 hy
  have e1 : sameB x (names[seenN names x]'h1) = true := List.findIdx_getElem (p := sameB x) (xs := names) (w := h1)
  have e2 : sameB y (names[seenN names y]'h2) = true := List.findIdx_getElem (p := sameB y) (xs := names) (w := h2)
  rw [(sameY_iff _ _).1 e1, (sameY_iff _ _).1 e2]
  congr 1
theorem key_inj (names : List ByteArray) (h8 : names.length ≤ 8) (he : eBy ∉ names) : ∀ (x y : List ByteArray) (n m : Nat), x.length = y.length → (∀ (v : Nat) (h : v < x.length) (h' : v < y.length), (x[v] = eBy ∧ y[v] = eBy) ∨ (x[v] ∈ names ∧ y[v] ∈ names)) → x.foldl (keyStep names) n = y.foldl (keyStep names) m → n = m ∧ x = y
  | [], [], n, m, _, _, h => ⟨h, rfl⟩
  | [], _ :: _, _, _, h, _, _ => by cases h
  | _ :: _, [], _, _, h, _, _ => by cases h
  | a :: x, b :: y, n, m, hl, hv, h => by
    obtain ⟨h1, h2⟩ := key_inj names h8 he x y (keyStep names n a) (keyStep names m b) (by simpa using hl) (fun v h h' => by
      have := hv (v + 1) (by simp; omega) (by simp; omega)
      simpa using this) h
    have h0 := hv 0 (by simp) (by simp)
    simp only [List.getElem_cons_zero] at h0
    rcases h0 with ⟨rfl, rfl⟩ | ⟨ha, hb⟩
    · have hn : ¬ seenN names eBy < names.length := fun h => he (seenN_lt.1 h)
      unfold keyStep at h1
      rw [if_neg hn, if_neg hn] at h1
      exact ⟨h1, by rw [h2]⟩
    · have ha' := seenN_lt.2 ha
      have hb' := seenN_lt.2 hb
      unfold keyStep at h1
      rw [if_pos ha', if_pos hb'] at h1
      have e1 : n = m := by omega
      have e2 : seenN names a = seenN names b := by omega
      exact ⟨e1, by rw [h2, seenN_inj ha hb e2]⟩
theorem key_bound (names : List ByteArray) (h8 : names.length ≤ 8) (he : eBy ∉ names) : ∀ (x : List ByteArray) (n k : Nat), n < 8 ^ k → x.foldl (keyStep names) n < 8 ^ (k + x.countP (fun y => !emptyB y))
  | [], n, k, h => by simpa using h
  | a :: x, n, k, h => by
    rw [List.foldl_cons]
    by_cases ha : emptyB a = true
    · rw [List.countP_cons_of_neg (by simpa using ha)]
      have e := (emptyB_iff a).1 ha
      have ha' : ¬ seenN names a < names.length := fun h => he (by rw [← e]; exact seenN_lt.1 h)
      have : keyStep names n a = n := by unfold keyStep; rw [if_neg ha']
      rw [this]
      exact key_bound names h8 he x n k h
    · rw [List.countP_cons_of_pos (by simpa using ha)]
      have := key_bound names h8 he x (keyStep names n a) (k + 1) (by
        unfold keyStep
        rw [Nat.pow_succ]
        split <;> omega)
      rw [show k + (x.countP (fun y => !emptyB y) + 1) = k + 1 + x.countP (fun y => !emptyB y) by omega]
      exact this
theorem few_nat : ∀ (l L : List Nat), l.Nodup → (∀ x ∈ l, x ∈ L) → l.length ≤ L.length
  | [], L, _, _ => Nat.zero_le _
  | a :: l, L, hn, hs => by
    have hn' := List.nodup_cons.1 hn
    have h1 := few_nat l (L.erase a) hn'.2 (fun x hx => (List.mem_erase_of_ne (fun e : x = a => hn'.1 (by rw [← e]; exact hx))).2 (hs x (List.mem_cons_of_mem _ hx)))
    have h2 := List.length_erase_of_mem (hs a List.mem_cons_self)
    have h3 : 0 < L.length := List.length_pos_of_mem (hs a List.mem_cons_self)
    simp only [List.length_cons]
    omega
theorem count_few (b : List ByteArray) (L : List Nat) (h : ∀ v, emptyB (b.getD v eBy) = false → v ∈ L) : b.countP (fun y => !emptyB y) ≤ L.length := by
  have e1 : b = (List.range b.length).map (fun v => b.getD v eBy) := by
    apply List.ext_getElem
    · simp
    · intro n h1 h2
      rw [List.getElem_map, List.getElem_range, List.getD_eq_getElem?_getD, List.getElem?_eq_getElem h1]; rfl
  rw [e1, List.countP_map, List.countP_eq_length_filter]
  refine few_nat _ L (List.nodup_range.sublist List.filter_sublist) (fun v hv => ?_)
  have := (List.mem_filter.1 hv).2
  exact h v (by simpa using this)
def numsL (l : List Am) : List Nat := l.flatMap (fun a => a.args.map (·.num))
theorem nums_len : ∀ (l : List Am), (∀ a ∈ l, a.args.length ≤ 2) → (numsL l).length ≤ 2 * l.length
  | [], _ => Nat.le_refl _
  | a :: l, h => by
    have h1 := nums_len l (fun x hx => h x (List.mem_cons_of_mem _ hx))
    have h2 := h a List.mem_cons_self
    unfold numsL at h1 ⊢
    rw [List.flatMap_cons, List.length_append, List.length_map, List.length_cons]
    omega
theorem var_num {a : Am} {l : List Am} {v : Nat} (ha : a ∈ l) (h : VarIn a v) : v ∈ numsL l := by
  obtain ⟨t, ht, _, rfl⟩ := h
  exact List.mem_flatMap.2 ⟨a, ha, List.mem_map.2 ⟨t, ht, rfl⟩⟩
theorem dom_sub (r : Rl) (v : Nat) : ∀ i, domR r i v = true → ∃ a ∈ r.body.take i, VarIn a v
  | 0, h => by cases h
  | i + 1, h => by
    unfold domR at h
    cases hb : r.body[i]? with
    | none =>
      rw [hb] at h
      obtain ⟨a, ha, hv⟩ := dom_sub r v i h
      exact ⟨a, (List.take_subset_take_left _ (Nat.le_succ i)) ha, hv⟩
    | some a =>
      rw [hb] at h
      simp only at h
      have h1 : (domR r i v || boundR [a] v) = true := by
        split at h
        · exact (Bool.and_eq_true _ _ ▸ h).1
        · exact h
      rcases Bool.or_eq_true _ _ ▸ h1 with h2 | h2
      · obtain ⟨a, ha, hv⟩ := dom_sub r v i h2
        exact ⟨a, (List.take_subset_take_left _ (Nat.le_succ i)) ha, hv⟩
      · refine ⟨a, ?_, (bound_one _ _).1 h2⟩
        rw [List.mem_iff_getElem?]
        exact ⟨i, by rw [List.getElem?_take, if_pos (Nat.lt_succ_self i)]; exact hb⟩
theorem key_few {r : Rl} {names : List ByteArray} (hr : RuleFine r) (h8 : names.length ≤ 8) (he : eBy ∉ names) {i : Nat} (hi : i < r.body.length) (hl : lostB r i = true) {b : List ByteArray} (h : Wy r names (domR r (i + 1)) b) : keyN names b < 4096 := by
  have hd : ∀ v, emptyB (b.getD v eBy) = false → domR r (i + 1) v = true := fun v hv => by
    have h1 := h.dom v (by rw [← h.len]; exact far_get hv)
    rw [hv] at h1
    simpa using h1.symm
  obtain ⟨L, hL, hs⟩ : ∃ L : List Nat, L.length ≤ 4 ∧ ∀ v, emptyB (b.getD v eBy) = false → v ∈ L := by
    by_cases h2 : i + 1 ≤ 2
    · refine ⟨numsL (r.body.take (i + 1)), ?_, fun v hv => ?_⟩
      · have := nums_len (r.body.take (i + 1)) (fun a ha => (hr.args a (List.mem_cons_of_mem _ (List.mem_of_mem_take ha))).1)
        rw [List.length_take] at this
        omega
      · obtain ⟨a, ha, hv'⟩ := dom_sub r v _ (hd v hv)
        exact var_num ha hv'
    · have h3 := hr.three
      refine ⟨numsL [r.head], ?_, fun v hv => ?_⟩
      · have := nums_len [r.head] (fun a ha => by simp at ha; subst ha; exact (hr.args _ List.mem_cons_self).1)
        simp only [List.length_cons, List.length_nil] at this
        omega
      · have h4 := hd v hv
        unfold domR at h4
        rw [List.getElem?_eq_getElem hi] at h4
        simp only [hl, if_true] at h4
        have h5 := (Bool.and_eq_true _ _ ▸ h4).2
        unfold keepsB at h5
        rw [List.drop_eq_nil_of_le (by omega)] at h5
        rcases Bool.or_eq_true _ _ ▸ h5 with h6 | h6
        · exact var_num List.mem_cons_self ((bound_one _ _).1 h6)
        · cases h6
  have h1 := key_bound names h8 he b 0 0 (by decide)
  have h2 := Nat.le_trans (count_few b L hs) hL
  have h3 : 8 ^ (0 + b.countP (fun y => !emptyB y)) ≤ 8 ^ 4 := Nat.pow_le_pow_right (by decide) (by omega)
  unfold keyN
  have h4 : (8 : Nat) ^ 4 = 4096 := by decide
  omega
theorem wy_inj {r : Rl} {names : List ByteArray} (h8 : names.length ≤ 8) (he : eBy ∉ names) {d : Nat → Bool} {x y : List ByteArray} (hx : Wy r names d x) (hy : Wy r names d y) (h : keyN names x = keyN names y) : x = y := by
  refine (key_inj names h8 he x y 0 0 (hx.len.trans hy.len.symm) (fun v h1 h2 => ?_) h).2
  have e1 : x.getD v eBy = x[v] := by rw [List.getD_eq_getElem?_getD, List.getElem?_eq_getElem h1]; rfl
  have e2 : y.getD v eBy = y[v] := by rw [List.getD_eq_getElem?_getD, List.getElem?_eq_getElem h2]; rfl
  have d1 := hx.dom v (by rw [← hx.len]; exact h1)
  have d2 := hy.dom v (by rw [← hy.len]; exact h2)
  have m1 := hx.mem v
  have m2 := hy.mem v
  rw [e1] at d1 m1
  rw [e2] at d2 m2
  cases hd : d v with
  | true =>
    rw [hd] at d1 d2
    exact .inr ⟨m1 d1, m2 d2⟩
  | false =>
    rw [hd] at d1 d2
    exact .inl ⟨(emptyB_iff _).1 d1, (emptyB_iff _).1 d2⟩

/-- How a binding came about. -/
def Ws (r : Rl) (gs : List Gr) (i : Nat) (b : List ByteArray) : Prop := ∃ s : Nat → ByteArray, (∀ v, emptyB (s v) = false) ∧ Agr b s ∧ ∀ k a, k < i → r.body[k]? = some a → instA s a ∈ gs
theorem ws_fit {r : Rl} {names : List ByteArray} {gs : List Gr} {i : Nat} {a : Am} {g : Gr} {b c : List ByteArray} (hr : RuleFine r) (hg : ∀ g ∈ gs, ∀ x ∈ g.args, emptyB x = false ∧ x ∈ names) (hb : r.body[i]? = some a) (hm : g ∈ gs) (h : Wy r names (domR r i) b) (hs : Ws r gs i b) (hf : fitG a g b = some c) : Ws r gs (i + 1) c := by
  obtain ⟨f1, f2, f3⟩ := fitG_ok hf
  have ha : a ∈ r.body := List.mem_of_getElem? hb
  have hi : i < r.body.length := (List.getElem?_eq_some_iff.1 hb).1
  have hn := (hr.args a (List.mem_cons_of_mem _ ha)).2
  obtain ⟨i1, i2, i3, i4, i5⟩ := fitL_ok _ _ _ _ f3 f2 (fun x hx => (hg g hm x hx).1) (fun t ht => by rw [h.len]; exact hn t ht)
  obtain ⟨s, s1, s2, s3⟩ := hs
  refine ⟨fun v => if emptyB (c.getD v eBy) = true then s v else c.getD v eBy, fun v => ?_, fun v hv => ?_, fun k a' hk hb' => ?_⟩
  · show emptyB (if _ then _ else _) = false
    split
    · exact s1 v
    · rename_i hne; simpa using hne
  · show _ = if _ then _ else _
    rw [if_neg (by rw [hv]; decide)]
  · by_cases e : k = i
    · subst e
      rw [hb] at hb'; cases hb'
      have : instA (fun v => if emptyB (c.getD v eBy) = true then s v else c.getD v eBy) a = g := by
        obtain ⟨gr, ga⟩ := g
        simp only at f1 i3
        unfold instA
        rw [f1, i3]
        congr 1
        refine List.map_congr_left (fun t ht => ?_)
        unfold inT nmOf
        by_cases he : emptyB t.name = true
        · rw [if_pos he, if_pos (by exact he)]
          show (if _ then _ else _) = _
          rw [if_neg (by rw [(i4 t.num).2 (.inr ⟨t, ht, he, rfl⟩)]; decide)]
        · rw [if_neg he, if_neg (by exact he)]
      rw [this]; exact hm
    · have h3 := s3 k a' (by omega) hb'
      have : instA (fun v => if emptyB (c.getD v eBy) = true then s v else c.getD v eBy) a' = instA s a' := by
        unfold instA
        congr 1
        refine List.map_congr_left (fun t ht => ?_)
        unfold inT
        by_cases he : emptyB t.name = true
        · rw [if_pos he, if_pos he]
          show (if _ then _ else _) = _
          split
          · rfl
          · rename_i hc
            have hc' : emptyB (c.getD t.num eBy) = false := by simpa using hc
            by_cases hbv : emptyB (b.getD t.num eBy) = false
            · rw [i2 _ hbv]; exact s2 _ hbv
            · exfalso
              rcases (i4 t.num).1 hc' with h4 | ⟨u, hu, hu1, hu2⟩
              · exact hbv h4
              · have hd := dom_up r t.num i (by omega) ⟨k, a', by omega, hb', t, ht, he, rfl⟩ (.inr ⟨i, a, Nat.le_refl _, hb, u, hu, hu1, hu2⟩)
                have h8 : t.num < 8 := by rw [← h.len, ← i1]; exact far_get hc'
                rw [h.dom _ h8, hd] at hbv
                exact hbv rfl
        · rw [if_neg he, if_neg he]
      rw [this]; exact h3
theorem ws_less {r : Rl} {gs : List Gr} {i : Nat} {c : List ByteArray} (hl : c.length = 8) (h : Ws r gs (i + 1) c) : Ws r gs (i + 1) (lessL r i c) := by
  obtain ⟨s, s1, s2, s3⟩ := h
  refine ⟨s, s1, fun v hv => ?_, s3⟩
  rw [less_get v hl] at hv ⊢
  split at hv
  · rename_i h1; rw [if_pos h1]; exact s2 v hv
  · rw [emptyB_e] at hv; cases hv
theorem blank_get (v : Nat) : emptyB (blank8.getD v eBy) = true := by
  rw [List.getD_eq_getElem?_getD]
  cases h : blank8[v]? with
  | none => exact emptyB_e
  | some x => rw [List.eq_of_mem_replicate (List.mem_of_getElem? h)]; exact emptyB_e
theorem wy_blank (r : Rl) (names : List ByteArray) : Wy r names (domR r 0) blank8 :=
  ⟨rfl, fun v _ => by rw [blank_get]; rfl, fun v hv => by rw [blank_get] at hv; cases hv⟩
/-- What ways keeps to. -/
def PWay (r : Rl) (names : List ByteArray) (gs : List Gr) (i : Nat) (b : List ByteArray) : Prop := Wy r names (domR r i) b ∧ Ws r gs i b
theorem way_inv {r : Rl} {names : List ByteArray} {gs : List Gr} (hr : RuleFine r) (hg : ∀ g ∈ gs, ∀ x ∈ g.args, emptyB x = false ∧ x ∈ names) (h8 : names.length ≤ 8) (he : eBy ∉ names) : WayInv r names gs (PWay r names gs) := by
  have h97 : emptyB ⟨#[97]⟩ = false := by decide +kernel
  refine ⟨⟨wy_blank _ _, fun _ => ⟨#[97]⟩, fun _ => h97, fun v hv => (by rw [blank_get] at hv; cases hv), fun k a hk => by omega⟩, fun i a g b c hb hm hp hf => ⟨fun hl => ?_, fun hl => ?_⟩⟩
  · have hw := wy_fit hr hg (List.mem_of_getElem? hb) hm hp.1 hf
    have hs := ws_fit hr hg hb hm hp.1 hp.2 hf
    have h1 := wy_less hw hb hl
    exact ⟨⟨h1, ws_less hw.len hs⟩, key_few hr h8 he (List.getElem?_eq_some_iff.1 hb).1 hl h1⟩
  · exact ⟨wy_same (wy_fit hr hg (List.mem_of_getElem? hb) hm hp.1 hf) hb hl, ws_fit hr hg hb hm hp.1 hp.2 hf⟩
theorem head_put {r : Rl} {names : List ByteArray} {s : Nat → ByteArray} {b : List ByteArray} (hr : RuleFine r) (h : Wy r names (domR r r.body.length) b) (hs : Agr b s) : putG r.head b = instA s r.head := by
  unfold putG instA
  congr 1
  refine List.map_congr_left (fun t ht => ?_)
  unfold nmOf inT
  by_cases he : emptyB t.name = true
  · rw [if_pos he, if_pos (by exact he)]
    refine hs _ ?_
    have hv : VarIn r.head t.num := ⟨t, ht, he, rfl⟩
    obtain ⟨a, ha, hva⟩ := hr.safe _ hv
    obtain ⟨k, hk, rfl⟩ := List.mem_iff_getElem.1 ha
    rw [h.dom _ ((hr.args _ List.mem_cons_self).2 t ht), dom_up r t.num _ (Nat.le_refl _) ⟨k, _, hk, List.getElem?_eq_getElem hk, hva⟩ (.inl hv)]
    rfl
  · rw [if_neg he, if_neg (by exact he)]
/-- What comes of a rule follows. -/
theorem way_sound {r : Rl} {names : List ByteArray} {gs : List Gr} {b : List ByteArray} (hr : RuleFine r) (h : PWay r names gs r.body.length b) : ∃ s : Nat → ByteArray, (∀ v, emptyB (s v) = false) ∧ (∀ a ∈ r.body, instA s a ∈ gs) ∧ putG r.head b = instA s r.head := by
  obtain ⟨h1, s, s1, s2, s3⟩ := h
  refine ⟨s, s1, fun a ha => ?_, head_put hr h1 s2⟩
  obtain ⟨k, hk, rfl⟩ := List.mem_iff_getElem.1 ha
  exact s3 k _ hk (List.getElem?_eq_getElem hk)

/-- One round: nothing is lost. -/
theorem fold_same (r : Rl) (i : Nat) (names : List ByteArray) (a : Am) (hl : lostB r i = false) : ∀ (ps : List (List ByteArray × Gr)) (st : List Bool × List (List ByteArray)), (∀ x ∈ st.2, x ∈ (ps.foldl (wayStep r i names a) st).2) ∧ ∀ p ∈ ps, ∀ c, fitG a p.2 p.1 = some c → c ∈ (ps.foldl (wayStep r i names a) st).2
  | [], st => ⟨fun x hx => hx, fun p hp => by cases hp⟩
  | p :: ps, st => by
    rw [List.foldl_cons]
    obtain ⟨h1, h2⟩ := fold_same r i names a hl ps (wayStep r i names a st p)
    have h3 : ∀ x ∈ st.2, x ∈ (wayStep r i names a st p).2 := fun x hx => by
      unfold wayStep
      split
      · exact hx
      · rw [if_neg (by rw [hl]; decide)]
        exact List.mem_append_left _ hx
    refine ⟨fun x hx => h1 x (h3 x hx), fun p' hp c hc => ?_⟩
    rcases List.mem_cons.1 hp with rfl | hp
    · refine h1 c ?_
      unfold wayStep
      rw [hc]
      simp only [hl, if_false, Bool.false_eq_true]
      exact List.mem_append_right _ List.mem_cons_self
    · exact h2 p' hp c hc
theorem fold_less (r : Rl) (i : Nat) (names : List ByteArray) (a : Am) (hl : lostB r i = true) (h8 : names.length ≤ 8) (he : eBy ∉ names) {d : Nat → Bool} : ∀ (ps : List (List ByteArray × Gr)) (st : List Bool × List (List ByteArray)), (∀ p ∈ ps, ∀ c, fitG a p.2 p.1 = some c → Wy r names d (lessL r i c) ∧ keyN names (lessL r i c) < 4096) → st.1.length = 4096 → (∀ k, st.1.getD k false = true → ∃ x ∈ st.2, keyN names x = k) → (∀ x ∈ st.2, Wy r names d x) →
    (∀ x ∈ st.2, x ∈ (ps.foldl (wayStep r i names a) st).2) ∧ ∀ p ∈ ps, ∀ c, fitG a p.2 p.1 = some c → lessL r i c ∈ (ps.foldl (wayStep r i names a) st).2
  | [], st, _, _, _, _ => ⟨fun x hx => hx, fun p hp => by cases hp⟩
  | p :: ps, st, hp, hs, hk, hw => by
    rw [List.foldl_cons]
    have hp' : ∀ p ∈ ps, ∀ c, fitG a p.2 p.1 = some c → Wy r names d (lessL r i c) ∧ keyN names (lessL r i c) < 4096 := fun q hq => hp q (List.mem_cons_of_mem _ hq)
    cases hf : fitG a p.2 p.1 with
    | none =>
      have e1 : wayStep r i names a st p = st := by unfold wayStep; rw [hf]
      rw [e1]
      obtain ⟨h1, h2⟩ := fold_less r i names a hl h8 he ps st hp' hs hk hw
      refine ⟨h1, fun q hq c hc => ?_⟩
      rcases List.mem_cons.1 hq with rfl | hq
      · rw [hf] at hc; cases hc
      · exact h2 q hq c hc
    | some c0 =>
      obtain ⟨hw0, hk0⟩ := hp p List.mem_cons_self c0 hf
      by_cases hsd : st.1.getD (keyN names (lessL r i c0)) false = true
      · have e1 : wayStep r i names a st p = st := by unfold wayStep; rw [hf]; simp only [hl, if_true]; rw [if_pos hsd]
        rw [e1]
        obtain ⟨h1, h2⟩ := fold_less r i names a hl h8 he ps st hp' hs hk hw
        refine ⟨h1, fun q hq c hc => ?_⟩
        rcases List.mem_cons.1 hq with rfl | hq
        · rw [hf] at hc; cases hc
          obtain ⟨x, hx, hkx⟩ := hk _ hsd
          rw [← wy_inj h8 he (hw x hx) hw0 hkx]
          exact h1 x hx
        · exact h2 q hq c hc
      · have e1 : wayStep r i names a st p = (st.1.set (keyN names (lessL r i c0)) true, st.2 ++ [lessL r i c0]) := by unfold wayStep; rw [hf]; simp only [hl, if_true]; rw [if_neg hsd]
        rw [e1]
        obtain ⟨h1, h2⟩ := fold_less r i names a hl h8 he ps (st.1.set (keyN names (lessL r i c0)) true, st.2 ++ [lessL r i c0]) hp' (by simpa using hs) (fun k hkk => by
          simp only [List.getD_eq_getElem?_getD, List.getElem?_set] at hkk
          by_cases e : keyN names (lessL r i c0) = k
          · exact ⟨_, List.mem_append_right _ List.mem_cons_self, e⟩
          · rw [if_neg e] at hkk
            obtain ⟨x, hx, h⟩ := hk k (by rw [List.getD_eq_getElem?_getD]; exact hkk)
            exact ⟨x, List.mem_append_left _ hx, h⟩) (fun x hx => by
          rcases List.mem_append.1 hx with hx | hx
          · exact hw x hx
          · rw [List.mem_singleton] at hx; rw [hx]; exact hw0)
        refine ⟨fun x hx => h1 x (List.mem_append_left _ hx), fun q hq c hc => ?_⟩
        rcases List.mem_cons.1 hq with rfl | hq
        · rw [hf] at hc; cases hc
          exact h1 _ (List.mem_append_right _ List.mem_cons_self)
        · exact h2 q hq c hc
theorem fold_wy (r : Rl) (i : Nat) (names : List ByteArray) (a : Am) (D : List ByteArray → Prop) : ∀ (ps : List (List ByteArray × Gr)) (st : List Bool × List (List ByteArray)), (∀ p ∈ ps, ∀ c, fitG a p.2 p.1 = some c → (lostB r i = true → D (lessL r i c)) ∧ (lostB r i = false → D c)) → (∀ x ∈ st.2, D x) → ∀ x ∈ (ps.foldl (wayStep r i names a) st).2, D x
  | [], st, _, h => h
  | p :: ps, st, hp, h => by
    rw [List.foldl_cons]
    refine fold_wy r i names a D ps _ (fun q hq => hp q (List.mem_cons_of_mem _ hq)) (fun x hx => ?_)
    unfold wayStep at hx
    split at hx
    · exact h x hx
    · rename_i c hc
      have h1 := hp p List.mem_cons_self c hc
      split at hx
      · rename_i hl
        split at hx
        · exact h x hx
        · rcases List.mem_append.1 hx with hx | hx
          · exact h x hx
          · rw [List.mem_singleton] at hx; rw [hx]; exact h1.1 hl
      · rename_i hl
        rcases List.mem_append.1 hx with hx | hx
        · exact h x hx
        · rw [List.mem_singleton] at hx; rw [hx]; exact h1.2 (by simpa using hl)
/-- Whatever follows comes of a rule. -/
theorem way_complete {r : Rl} {gs : List Gr} (hr : RuleFine r) {s : Nat → ByteArray} (hs : ∀ v, emptyB (s v) = false) (names : List ByteArray) (hn : addL [] (wordsOf gs) = names) (hg : ∀ g ∈ gs, ∀ x ∈ g.args, emptyB x = false ∧ x ∈ names) (h8 : names.length ≤ 8) (he : eBy ∉ names) (hb : ∀ a ∈ r.body, instA s a ∈ gs) : ∃ b ∈ waysR r gs, putG r.head b = instA s r.head := by
  have key : ∀ i, i ≤ r.body.length → (∀ b ∈ (List.range i).foldl (wayRound r names gs) [blank8], Wy r names (domR r i) b) ∧ ∃ b ∈ (List.range i).foldl (wayRound r names gs) [blank8], Agr b s := by
    intro i
    induction i with
    | zero => exact fun _ => ⟨fun b hb => by rw [List.mem_singleton.1 hb]; exact wy_blank _ _, blank8, List.mem_cons_self, fun v hv => by rw [blank_get] at hv; cases hv⟩
    | succ i ih =>
      intro hi
      obtain ⟨ih1, b, hbm, hba⟩ := ih (by omega)
      rw [List.range_succ, List.foldl_append]
      generalize (List.range i).foldl (wayRound r names gs) [blank8] = l at *
      have hbi : r.body[i]? = some r.body[i] := List.getElem?_eq_getElem (by omega)
      have e1 : [i].foldl (wayRound r names gs) l = ((pairsOf l gs).foldl (wayStep r i names r.body[i]) (List.replicate 4096 false, [])).2 := by
        show wayRound r names gs l i = _
        unfold wayRound
        rw [hbi]
      rw [e1]
      have hps : ∀ p ∈ pairsOf l gs, p.1 ∈ l ∧ p.2 ∈ gs := fun p hp => by
        obtain ⟨x, hx, hp⟩ := List.mem_flatMap.1 hp
        obtain ⟨y, hy, rfl⟩ := List.mem_map.1 hp
        exact ⟨hx, hy⟩
      have hw : ∀ p ∈ pairsOf l gs, ∀ c, fitG r.body[i] p.2 p.1 = some c → Wy r names (domA r i r.body[i]) c := fun p hp c hc => wy_fit hr hg (List.getElem_mem (by omega)) (hps p hp).2 (ih1 _ (hps p hp).1) hc
      have hwb := ih1 b hbm
      obtain ⟨c, hc, hca⟩ := fitL_some s (r.body[i]).args b (fun t ht => by rw [hwb.len]; exact (hr.args _ (List.mem_cons_of_mem _ (List.getElem_mem (by omega)))).2 t ht) hba hs
      have hcf : fitG r.body[i] (instA s r.body[i]) b = some c := by
        unfold fitG instA
        rw [if_pos ⟨(eqB_iff _ _).2 rfl, by simp⟩]
        exact hc
      have hpm : (b, instA s r.body[i]) ∈ pairsOf l gs := List.mem_flatMap.2 ⟨b, hbm, List.mem_map.2 ⟨_, hb _ (List.getElem_mem (by omega)), rfl⟩⟩
      refine ⟨fold_wy r i names r.body[i] (Wy r names (domR r (i + 1))) _ _ (fun p hp c hc => ⟨fun hl => wy_less (hw p hp c hc) hbi hl, fun hl => wy_same (hw p hp c hc) hbi hl⟩) (fun x hx => by cases hx), ?_⟩
      cases hl : lostB r i with
      | false => exact ⟨c, (fold_same r i names r.body[i] hl _ _).2 _ hpm c hcf, hca⟩
      | true =>
        have hwc := hw _ hpm c hcf
        refine ⟨lessL r i c, (fold_less r i names r.body[i] hl h8 he (d := domR r (i + 1)) _ _ (fun p hp c hc => ?_) List.length_replicate (fun k hk => ?_) (fun x hx => by cases hx)).2 _ hpm c hcf, fun v hv => ?_⟩
        · have h1 := wy_less (hw p hp c hc) hbi hl
          exact ⟨h1, key_few hr h8 he (by omega) hl h1⟩
        · rw [List.getD_eq_getElem?_getD, List.getElem?_replicate] at hk
          split at hk <;> cases hk
        · rw [less_get v hwc.len] at hv ⊢
          split at hv
          · rename_i h1; rw [if_pos h1]; exact hca v hv
          · rw [emptyB_e] at hv; cases hv
  obtain ⟨k1, b, k2, k3⟩ := key r.body.length (Nat.le_refl _)
  refine ⟨b, ?_, head_put hr (k1 b k2) k3⟩
  unfold waysR
  rw [hn]; exact k2

end Go.Proofs.YtjajnhemgphefaaGreatDoor
