/-
  The least model in plain data: what matching and joining come to, what holds between two rounds of Least, and what it comes to.
-/
import Derived.Test.YtjajnhemgphefaaGreatDoorJdMoI
namespace Go.Proofs.YtjajnhemgphefaaGreatDoor
open Go.RowKit Go.Shelf Go.Maps
set_option linter.unusedVariables false
set_option linter.unusedSimpArgs false

/-- No name. -/
def eB : ByteArray := ⟨#[]⟩
theorem empty_iff (x : ByteArray) : x.toList.isEmpty = true ↔ x = eB := by
  rw [ba_list, List.isEmpty_iff]
  constructor
  · intro h; exact ba_inj h
  · rintro rfl; rfl
theorem list_inj {x y : ByteArray} (h : x.toList = y.toList) : x = y := by
  rw [ba_list, ba_list] at h; exact ba_inj h

/-- All names that are put stay. -/
def Ext (n m : Nms) : Prop := ∀ k, n.get k ≠ eB → m.get k = n.get k
theorem Ext.refl (n : Nms) : Ext n n := fun _ _ => rfl
theorem Ext.trans {a b c : Nms} (h : Ext a b) (k : Ext b c) : Ext a c := fun i hi => by
  have h1 := h i hi
  rw [k i (by rw [h1]; exact hi), h1]
theorem ext_zero (p : Nms) : Ext nms0 p := fun k hk => absurd (by unfold nms0 Nms.get; split <;> rfl) hk

theorem ofT_var {t : Tm} (h : t.name = eB) (n : Nms) : ofT n t = n.get t.num := by
  unfold ofT; rw [if_pos ((empty_iff _).2 h)]
theorem ofT_name {t : Tm} (h : t.name ≠ eB) (n : Nms) : ofT n t = t.name := by
  unfold ofT; rw [if_neg (fun h' => h ((empty_iff _).1 h'))]
theorem ofT_ext {n m : Nms} {t : Tm} (h : Ext n m) (hne : ofT n t ≠ eB) : ofT m t = ofT n t := by
  by_cases ht : t.name = eB
  · rw [ofT_var ht] at hne
    rw [ofT_var ht, ofT_var ht, h _ hne]
  · rw [ofT_name ht, ofT_name ht]

theorem putT_ext {n : Nms} {t : Tm} {x : ByteArray} (h6 : t.num < 6) : Ext n (putT n t x) := by
  intro k hk
  unfold putT
  split
  · rename_i h
    rw [Nms.get_set _ _ _ _ h6]
    split
    · rename_i e; subst e; exact absurd ((empty_iff _).1 h.2) hk
    · rfl
  · rfl
theorem step_sound {n m : Nms} {t : Tm} {x : ByteArray} (h6 : t.num < 6) (h : matchStep n t x = some m) : Ext n m ∧ ofT m t = x := by
  unfold matchStep at h
  split at h
  · rename_i hx
    cases h
    exact ⟨putT_ext h6, list_inj hx⟩
  · cases h
theorem step_complete {n p : Nms} {t : Tm} {x : ByteArray} (h6 : t.num < 6) (hx : x ≠ eB) (he : Ext n p) (hp : ofT p t = x) : ∃ m, matchStep n t x = some m ∧ Ext m p := by
  have hof : ofT (putT n t x) t = x := by
    by_cases ht : t.name = eB
    · rw [ofT_var ht] at hp
      rw [ofT_var ht]
      unfold putT
      by_cases hn : n.get t.num = eB
      · rw [if_pos ⟨(empty_iff _).2 ht, (empty_iff _).2 hn⟩, Nms.get_set _ _ _ _ h6, if_pos rfl]
      · rw [if_neg (fun h => hn ((empty_iff _).1 h.2)), ← he _ hn, hp]
    · rw [ofT_name ht]; rwa [ofT_name ht] at hp
  refine ⟨putT n t x, by unfold matchStep; rw [if_pos (by rw [hof])], ?_⟩
  intro k hk
  unfold putT at hk ⊢
  split
  · rename_i h
    rw [if_pos h, Nms.get_set _ _ _ _ h6] at hk
    rw [Nms.get_set _ _ _ _ h6]
    split
    · rename_i e; subst e
      rwa [ofT_var ((empty_iff _).1 h.1)] at hp
    · rename_i e; rw [if_neg e] at hk; exact he _ hk
  · rename_i h; rw [if_neg h] at hk; exact he _ hk

theorem matchF_sound : ∀ (l : List (Tm × ByteArray)) (n m : Nms), (∀ q ∈ l, q.1.num < 6 ∧ q.2 ≠ eB) → matchF n l = some m → Ext n m ∧ ∀ q ∈ l, ofT m q.1 = q.2
  | [], n, m, _, h => by
    simp only [matchF, Option.some.injEq] at h; subst h
    exact ⟨Ext.refl _, by simp⟩
  | q :: l, n, m, hl, h => by
    simp only [matchF] at h
    cases hq : matchStep n q.1 q.2 with
    | none => rw [hq] at h; cases h
    | some m' =>
      rw [hq] at h
      obtain ⟨h1, h2⟩ := step_sound (hl q (by simp)).1 hq
      obtain ⟨h3, h4⟩ := matchF_sound l m' m (fun r hr => hl r (by simp [hr])) h
      refine ⟨h1.trans h3, fun r hr => ?_⟩
      rcases List.mem_cons.1 hr with rfl | hr
      · rw [ofT_ext h3 (by rw [h2]; exact (hl r (by simp)).2), h2]
      · exact h4 r hr
theorem matchF_complete : ∀ (l : List (Tm × ByteArray)) (n p : Nms), (∀ q ∈ l, q.1.num < 6 ∧ q.2 ≠ eB) → Ext n p → (∀ q ∈ l, ofT p q.1 = q.2) → ∃ m, matchF n l = some m ∧ Ext m p
  | [], n, p, _, he, _ => ⟨n, rfl, he⟩
  | q :: l, n, p, hl, he, hp => by
    obtain ⟨m, h1, h2⟩ := step_complete (hl q (by simp)).1 (hl q (by simp)).2 he (hp q (by simp))
    obtain ⟨m', h3, h4⟩ := matchF_complete l m p (fun r hr => hl r (by simp [hr])) h2 (fun r hr => hp r (by simp [hr]))
    exact ⟨m', by simp only [matchF, h1]; exact h3, h4⟩

/-- A ground atom has as many names as its relation has arguments. -/
def arOk (ar : ByteArray → Nat) (g : Gd) : Prop := g.x ≠ eB ∧ ((ar g.rel = 1 ∧ g.y = eB) ∨ (ar g.rel = 2 ∧ g.y ≠ eB))
/-- An atom has as many arguments as its relation, and its variables have numbers below six. -/
def amOk (ar : ByteArray → Nat) (a : Am) : Prop := a.args.length = ar a.rel ∧ ∀ t ∈ a.args, t.num < 6

theorem am_cases {ar : ByteArray → Nat} {a : Am} (ha : amOk ar a) {x y : ByteArray} (hg : arOk ar ⟨a.rel, x, y⟩) : (∃ t, a.args = [t] ∧ y = eB ∧ x ≠ eB) ∨ ∃ t u, a.args = [t, u] ∧ x ≠ eB ∧ y ≠ eB := by
  obtain ⟨hx, ⟨h1, h2⟩ | ⟨h1, h2⟩⟩ := hg
  · have hl : a.args.length = 1 := ha.1.trans h1
    match ha' : a.args, hl with
    | [t], _ => exact .inl ⟨t, rfl, h2, hx⟩
  · have hl : a.args.length = 2 := ha.1.trans h1
    match ha' : a.args, hl with
    | [t, u], _ => exact .inr ⟨t, u, rfl, hx, h2⟩

theorem matchA_sound {ar : ByteArray → Nat} {a : Am} (ha : amOk ar a) {x y : ByteArray} (hg : arOk ar ⟨a.rel, x, y⟩) {n m : Nms} (h : matchA n a x y = some m) : Ext n m ∧ groundA m a = ⟨a.rel, x, y⟩ := by
  unfold matchA at h
  rcases am_cases ha hg with ⟨t, e1, e2, e3⟩ | ⟨t, u, e1, e2, e3⟩
  · rw [e1] at h
    obtain ⟨h1, h2⟩ := matchF_sound _ _ _ (by
      intro q hq
      simp at hq; subst hq
      exact ⟨ha.2 t (by rw [e1]; simp), e3⟩) h
    refine ⟨h1, ?_⟩
    unfold groundA xOf yOf
    rw [e1]
    simp only
    rw [h2 (t, x) (by simp), e2]; rfl
  · rw [e1] at h
    obtain ⟨h1, h2⟩ := matchF_sound _ _ _ (by
      intro q hq
      simp at hq
      rcases hq with rfl | rfl
      · exact ⟨ha.2 t (by rw [e1]; simp), e2⟩
      · exact ⟨ha.2 u (by rw [e1]; simp), e3⟩) h
    refine ⟨h1, ?_⟩
    unfold groundA xOf yOf
    rw [e1]
    simp only
    rw [h2 (t, x) (by simp), h2 (u, y) (by simp)]
theorem matchA_complete {ar : ByteArray → Nat} {a : Am} (ha : amOk ar a) {n p : Nms} (hg : arOk ar (groundA p a)) (he : Ext n p) : ∃ m, matchA n a (groundA p a).x (groundA p a).y = some m ∧ Ext m p := by
  unfold matchA
  rcases am_cases ha (x := (groundA p a).x) (y := (groundA p a).y) hg with ⟨t, e1, e2, e3⟩ | ⟨t, u, e1, e2, e3⟩
  · refine matchF_complete _ _ _ (fun q hq => ?_) he (fun q hq => ?_)
    · rw [e1] at hq; simp at hq; subst hq; exact ⟨ha.2 t (by rw [e1]; simp), e3⟩
    · rw [e1] at hq; simp at hq; subst hq
      simp [groundA, e1, xOf]
  · refine matchF_complete _ _ _ (fun q hq => ?_) he (fun q hq => ?_)
    · rw [e1] at hq; simp at hq
      rcases hq with rfl | rfl
      · exact ⟨ha.2 t (by rw [e1]; simp), e2⟩
      · exact ⟨ha.2 u (by rw [e1]; simp), e3⟩
    · rw [e1] at hq; simp at hq
      rcases hq with rfl | rfl
      · simp [groundA, e1, xOf]
      · simp [groundA, e1, yOf]

theorem ground_ext {ar : ByteArray → Nat} {a : Am} (ha : amOk ar a) {n p : Nms} (hg : arOk ar (groundA n a)) (he : Ext n p) : groundA p a = groundA n a := by
  rcases am_cases ha (x := (groundA n a).x) (y := (groundA n a).y) hg with ⟨t, e1, e2, e3⟩ | ⟨t, u, e1, e2, e3⟩
  · unfold groundA xOf at e3; rw [e1] at e3; simp only at e3
    unfold groundA xOf yOf; rw [e1]; simp only; rw [ofT_ext he e3]
  · unfold groundA xOf at e2; rw [e1] at e2; simp only at e2
    unfold groundA yOf at e3; rw [e1] at e3; simp only at e3
    unfold groundA xOf yOf; rw [e1]; simp only; rw [ofT_ext he e2, ofT_ext he e3]

/-- All of a model have as many names as their relations have arguments, and no name is too long. -/
def mdOk (ar : ByteArray → Nat) (M : Gd → Option Int) : Prop := ∀ g, (M g).isSome = true → arOk ar g ∧ GdOk g

theorem joinR_sound {ar : ByteArray → Nat} {M : Gd → Option Int} (hM : mdOk ar M) : ∀ (L : List Am) (n p : Nms), (∀ a ∈ L, amOk ar a) → joinR M L n p → Ext n p ∧ ∀ a ∈ L, (M (groundA p a)).isSome = true
  | [], n, p, _, h => by
    have h' : p = n := h
    subst h'
    exact ⟨Ext.refl _, by simp⟩
  | a :: L, n, p, hL, h => by
    obtain ⟨x, y, q, _, _, h1, h2, h3⟩ := h
    obtain ⟨k1, k2⟩ := matchA_sound (hL a (by simp)) (hM _ h1).1 h2
    obtain ⟨k3, k4⟩ := joinR_sound hM L q p (fun b hb => hL b (by simp [hb])) h3
    refine ⟨k1.trans k3, fun b hb => ?_⟩
    rcases List.mem_cons.1 hb with rfl | hb
    · rw [ground_ext (hL b (by simp)) (by rw [k2]; exact (hM _ h1).1) k3, k2]; exact h1
    · exact k4 b hb
theorem joinR_complete {ar : ByteArray → Nat} {M : Gd → Option Int} (hM : mdOk ar M) : ∀ (L : List Am) (n p : Nms), (∀ a ∈ L, amOk ar a) → Ext n p → (∀ a ∈ L, (M (groundA p a)).isSome = true) → ∃ q, joinR M L n q ∧ Ext q p
  | [], n, p, _, he, _ => ⟨n, rfl, he⟩
  | a :: L, n, p, hL, he, h => by
    have h1 := h a (by simp)
    obtain ⟨m, k1, k2⟩ := matchA_complete (hL a (by simp)) (hM _ h1).1 he
    obtain ⟨q, k3, k4⟩ := joinR_complete hM L m p (fun b hb => hL b (by simp [hb])) k2 (fun b hb => h b (by simp [hb]))
    exact ⟨q, ⟨_, _, m, (hM _ h1).2.x, (hM _ h1).2.y, h1, k1, k3⟩, k4⟩

theorem mem_split {L : List Am} {i : Nat} (h : i < L.length) {a : Am} : a ∈ L ↔ a = L[i] ∨ a ∈ L.take i ++ L.drop (i + 1) := by
  conv => lhs; rw [← List.take_append_drop i L, List.drop_eq_getElem_cons h]
  simp only [List.mem_append, List.mem_cons]
  constructor
  · rintro (h | h | h)
    · exact .inr (.inl h)
    · exact .inl h
    · exact .inr (.inr h)
  · rintro (h | h | h)
    · exact .inr (.inl h)
    · exact .inl h
    · exact .inr (.inr h)

theorem usesR_sound {ar : ByteArray → Nat} {M : Gd → Option Int} (hM : mdOk ar M) {L : List Am} (hL : ∀ a ∈ L, amOk ar a) {g : Gd} (hg : (M g).isSome = true) {p : Nms} (h : usesR M L g p) : L ≠ [] ∧ ∀ a ∈ L, (M (groundA p a)).isSome = true := by
  obtain ⟨i, hi, h1, put, h2, h3⟩ := h
  have hgi : (⟨(L[i]).rel, g.x, g.y⟩ : Gd) = g := by rw [h1]
  obtain ⟨k1, k2⟩ := matchA_sound (hL _ (List.getElem_mem hi)) (by rw [hgi]; exact (hM _ hg).1) h2
  obtain ⟨k3, k4⟩ := joinR_sound hM _ _ _ (fun b hb => hL b ((mem_split hi).2 (.inr hb))) h3
  refine ⟨fun e => by rw [e] at hi; simp at hi, fun a ha => ?_⟩
  rcases (mem_split hi).1 ha with rfl | ha
  · rw [ground_ext (hL _ (List.getElem_mem hi)) (by rw [k2, hgi]; exact (hM _ hg).1) k3, k2, hgi]; exact hg
  · exact k4 a ha
theorem usesR_complete {ar : ByteArray → Nat} {M : Gd → Option Int} (hM : mdOk ar M) {L : List Am} (hL : ∀ a ∈ L, amOk ar a) {p : Nms} {a : Am} (ha : a ∈ L) (h : ∀ a ∈ L, (M (groundA p a)).isSome = true) : ∃ q, usesR M L (groundA p a) q ∧ Ext q p := by
  obtain ⟨i, hi, rfl⟩ := List.getElem_of_mem ha
  obtain ⟨m, k1, k2⟩ := matchA_complete (hL _ ha) (hM _ (h _ ha)).1 (ext_zero p)
  obtain ⟨q, k3, k4⟩ := joinR_complete hM (L.take i ++ L.drop (i + 1)) m p (fun b hb => hL b ((mem_split hi).2 (.inr hb))) k2 (fun b hb => h b ((mem_split hi).2 (.inr hb)))
  exact ⟨q, ⟨i, hi, rfl, m, k1, k3⟩, k4⟩

/-- A rule whose atoms are right and whose head has no variable that its body has not. -/
structure RlOk (ar : ByteArray → Nat) (r : Rl) : Prop where
  head : amOk ar r.head
  body : ∀ a ∈ r.body, amOk ar a
  safe : ∀ t ∈ r.head.args, t.name = eB → ∃ a ∈ r.body, ∃ u ∈ a.args, u.name = eB ∧ u.num = t.num

theorem ground_arg {ar : ByteArray → Nat} {a : Am} (ha : amOk ar a) {p : Nms} (hg : arOk ar (groundA p a)) {u : Tm} (hu : u ∈ a.args) : ofT p u ≠ eB ∧ (ofT p u = (groundA p a).x ∨ ofT p u = (groundA p a).y) := by
  rcases am_cases ha (x := (groundA p a).x) (y := (groundA p a).y) hg with ⟨t, e1, e2, e3⟩ | ⟨t, v, e1, e2, e3⟩
  · rw [e1] at hu; simp at hu; subst hu
    have : (groundA p a).x = ofT p u := by simp [groundA, e1, xOf]
    exact ⟨by rw [← this]; exact e3, .inl this.symm⟩
  · rw [e1] at hu; simp at hu
    rcases hu with rfl | rfl
    · have : (groundA p a).x = ofT p u := by simp [groundA, e1, xOf]
      exact ⟨by rw [← this]; exact e2, .inl this.symm⟩
    · have : (groundA p a).y = ofT p u := by simp [groundA, e1, yOf]
      exact ⟨by rw [← this]; exact e3, .inr this.symm⟩

/-- Each argument of the head is a name of the rule or one of what the body comes to. -/
theorem head_arg {ar : ByteArray → Nat} {r : Rl} (hr : RlOk ar r) {p : Nms} (hb : ∀ a ∈ r.body, arOk ar (groundA p a)) {t : Tm} (ht : t ∈ r.head.args) : ofT p t ≠ eB ∧ ((t.name ≠ eB ∧ ofT p t = t.name) ∨ ∃ a ∈ r.body, ofT p t = (groundA p a).x ∨ ofT p t = (groundA p a).y) := by
  by_cases h : t.name = eB
  · obtain ⟨a, ha, u, hu, e1, e2⟩ := hr.safe t ht h
    obtain ⟨k1, k2⟩ := ground_arg (hr.body a ha) (hb a ha) hu
    have he : ofT p t = ofT p u := by rw [ofT_var h, ofT_var e1, e2]
    rw [he]
    exact ⟨k1, .inr ⟨a, ha, k2⟩⟩
  · rw [ofT_name h]; exact ⟨h, .inl ⟨h, rfl⟩⟩
theorem head_ok {ar : ByteArray → Nat} (har : ∀ r, ar r = 1 ∨ ar r = 2 ∨ ar r = 0) {r : Rl} (hr : RlOk ar r) (h0 : r.head.args ≠ []) {p : Nms} (hb : ∀ a ∈ r.body, arOk ar (groundA p a)) : arOk ar (groundA p r.head) := by
  have hl := hr.head.1
  match ha : r.head.args, hl with
  | [], _ => exact absurd ha h0
  | [t], hl =>
    refine ⟨?_, .inl ⟨by show ar r.head.rel = 1; rw [← hl]; rfl, by show yOf p r.head.args = eB; rw [ha]; rfl⟩⟩
    show xOf p r.head.args ≠ eB
    rw [ha]; exact (head_arg hr hb (t := t) (by rw [ha]; simp)).1
  | [t, u], hl =>
    refine ⟨?_, .inr ⟨by show ar r.head.rel = 2; rw [← hl]; rfl, ?_⟩⟩
    · show xOf p r.head.args ≠ eB
      rw [ha]; exact (head_arg hr hb (t := t) (by rw [ha]; simp)).1
    · show yOf p r.head.args ≠ eB
      rw [ha]; exact (head_arg hr hb (t := u) (by rw [ha]; simp)).1
  | t :: u :: v :: l, hl =>
    exfalso
    simp at hl
    rcases har r.head.rel with h | h | h <;> omega
theorem head_same {ar : ByteArray → Nat} {r : Rl} (hr : RlOk ar r) {q p : Nms} (he : Ext q p) (hb : ∀ a ∈ r.body, arOk ar (groundA q a)) : groundA p r.head = groundA q r.head := by
  have h : ∀ t ∈ r.head.args, ofT p t = ofT q t := fun t ht => ofT_ext he (head_arg hr hb ht).1
  unfold groundA
  have hx : xOf p r.head.args = xOf q r.head.args := by
    unfold xOf; split
    · rfl
    · rename_i t l e; exact h t (by rw [e]; simp)
  have hy : yOf p r.head.args = yOf q r.head.args := by
    unfold yOf; split
    · rename_i t u l e; exact h u (by rw [e]; simp)
    · rfl
  rw [hx, hy]

/-- What follows from facts that last beyond a time: in every set that holds these and is closed under the rules. -/
def Der (R : List Rl) (F : List (Gd × Int)) (e : Int) (g : Gd) : Prop :=
  ∀ S : Gd → Prop, (∀ x ∈ F, e < x.2 → S x.1) → (∀ r ∈ R, r.body ≠ [] → ∀ p : Nms, (∀ a ∈ r.body, S (groundA p a)) → S (groundA p r.head)) → S g
theorem Der.fact {R : List Rl} {F : List (Gd × Int)} {e : Int} {x : Gd × Int} (hx : x ∈ F) (he : e < x.2) : Der R F e x.1 := fun S h1 _ => h1 x hx he
theorem Der.rule {R : List Rl} {F : List (Gd × Int)} {e : Int} {r : Rl} (hr : r ∈ R) (h0 : r.body ≠ []) {p : Nms} (h : ∀ a ∈ r.body, Der R F e (groundA p a)) : Der R F e (groundA p r.head) := fun S h1 h2 => h2 r hr h0 p (fun a ha => h a ha S h1 h2)

/-- What holds of a model between two rounds of Least, and of what waits, the last first. -/
structure LsInv (ar : ByteArray → Nat) (R : List Rl) (F : List (Gd × Int)) (U : List Gd) (M : Gd → Option Int) (q : List (Gd × Int)) : Prop where
  sorted : q.Pairwise (fun a b => a.2 ≤ b.2)
  top : ∀ x ∈ q, ∀ g t, M g = some t → x.2 ≤ t
  okM : mdOk ar M
  okQ : ∀ x ∈ q, arOk ar x.1 ∧ GdOk x.1
  soundM : ∀ g t, M g = some t → ∀ e, e < t → Der R F e g
  soundQ : ∀ x ∈ q, ∀ e, e < x.2 → Der R F e x.1
  facts : ∀ x ∈ F, x ∈ q ∨ ∃ t, M x.1 = some t ∧ x.2 ≤ t
  closed : ∀ r ∈ R, r.body ≠ [] → ∀ (p : Nms) (e : Int), (∀ a ∈ r.body, ∃ t, M (groundA p a) = some t ∧ e < t) → (∃ t, M (groundA p r.head) = some t ∧ e < t) ∨ ∃ x ∈ q, x.1 = groundA p r.head ∧ e < x.2
  keys : ∃ ks : List Gd, ks.Nodup ∧ (∀ g, (M g).isSome = true ↔ g ∈ ks) ∧ ∀ g ∈ ks, g ∈ U
  inU : ∀ x ∈ q, x.1 ∈ U

theorem LsInv.first {ar : ByteArray → Nat} {R : List Rl} {F q : List (Gd × Int)} {U : List Gd} (hs : q.Pairwise (fun a b => a.2 ≤ b.2)) (hq : ∀ x, x ∈ q ↔ x ∈ F) (hok : ∀ x ∈ F, arOk ar x.1 ∧ GdOk x.1) (hU : ∀ x ∈ F, x.1 ∈ U) : LsInv ar R F U (fun _ => none) q :=
  ⟨hs, fun _ _ _ _ h => (by cases h), fun _ h => (by cases h), fun x hx => hok x ((hq x).1 hx), fun _ _ h => (by cases h), fun x hx e he => Der.fact ((hq x).1 hx) he, fun x hx => .inl ((hq x).2 hx), fun r _ h0 p e h => (by
    obtain ⟨a, ha⟩ := List.exists_mem_of_ne_nil _ h0
    obtain ⟨t, ht, _⟩ := h a ha
    cases ht), ⟨[], List.nodup_nil, fun g => by simp, by simp⟩, fun x hx => hU x ((hq x).1 hx)⟩

theorem LsInv.skip {ar : ByteArray → Nat} {R : List Rl} {F q : List (Gd × Int)} {U : List Gd} {M : Gd → Option Int} {x : Gd × Int} (h : LsInv ar R F U M (q ++ [x])) (hx : (M x.1).isSome = true) : LsInv ar R F U M q := by
  obtain ⟨t, ht⟩ := Option.isSome_iff_exists.1 hx
  have hle := h.top x (by simp) _ _ ht
  refine ⟨(List.pairwise_append.1 h.sorted).1, fun y hy => h.top y (by simp [hy]), h.okM, fun y hy => h.okQ y (by simp [hy]), h.soundM, fun y hy => h.soundQ y (by simp [hy]), fun y hy => ?_, fun r hr h0 p e hb => ?_, h.keys, fun y hy => h.inU y (by simp [hy])⟩
  · rcases h.facts y hy with h1 | h1
    · rcases List.mem_append.1 h1 with h1 | h1
      · exact .inl h1
      · simp at h1; subst h1; exact .inr ⟨t, ht, hle⟩
    · exact .inr h1
  · rcases h.closed r hr h0 p e hb with h1 | ⟨y, hy, h1, h2⟩
    · exact .inl h1
    · rcases List.mem_append.1 hy with hy | hy
      · exact .inr ⟨y, hy, h1, h2⟩
      · simp at hy; subst hy; rw [← h1]; exact .inl ⟨t, ht, by omega⟩

theorem gd_eq {g h : Gd} (h1 : h.rel = g.rel ∧ h.x = g.x ∧ h.y = g.y) : h = g := by
  cases g; cases h; simp at h1 ⊢; exact h1
theorem updM_same (M : Gd → Option Int) (g : Gd) (e : Int) : updM M g e g = some e := by unfold updM; rw [if_pos ⟨rfl, rfl, rfl⟩]
theorem updM_ne {M : Gd → Option Int} {g h : Gd} {e : Int} (hne : h ≠ g) : updM M g e h = M h := by unfold updM; rw [if_neg (fun h' => hne (gd_eq h'))]
theorem updM_cases {M : Gd → Option Int} {g h : Gd} {e t : Int} (hu : updM M g e h = some t) : (h = g ∧ t = e) ∨ M h = some t := by
  unfold updM at hu
  split at hu
  · rename_i h'; cases hu; exact .inl ⟨gd_eq h', rfl⟩
  · exact .inr hu

/-- The heads that follow from an atom that has just come, and are not there. -/
def followR (R : List Rl) (M : Gd → Option Int) (g : Gd) (h : Gd) : Prop := ∃ r ∈ R, ∃ p, usesR M r.body g p ∧ h = groundA p r.head ∧ M h = none

theorem LsInv.add {ar : ByteArray → Nat} (har : ∀ r, ar r = 1 ∨ ar r = 2 ∨ ar r = 0) {R : List Rl} (hR : ∀ r ∈ R, RlOk ar r ∧ r.head.args ≠ []) {F q : List (Gd × Int)} {U : List Gd} (hU : ∀ r ∈ R, r.body ≠ [] → ∀ p : Nms, (∀ a ∈ r.body, groundA p a ∈ U ∧ arOk ar (groundA p a)) → groundA p r.head ∈ U) (hUk : ∀ g ∈ U, GdOk g)
    {M : Gd → Option Int} {x : Gd × Int} (h : LsInv ar R F U M (q ++ [x])) (hx : M x.1 = none) {hs : List Gd} (hhs : ∀ g, g ∈ hs ↔ followR R (updM M x.1 x.2) x.1 g) : LsInv ar R F U (updM M x.1 x.2) (q ++ hs.map (fun g => (g, x.2))) := by
  have hmax : ∀ y ∈ q, y.2 ≤ x.2 := fun y hy => (List.pairwise_append.1 h.sorted).2.2 y hy x (by simp)
  have hokx := h.okQ x (by simp)
  have htop : ∀ g t, updM M x.1 x.2 g = some t → x.2 ≤ t := by
    intro g t hu
    rcases updM_cases hu with ⟨_, rfl⟩ | hu
    · exact Int.le_refl _
    · exact h.top x (by simp) _ _ hu
  have hokM : mdOk ar (updM M x.1 x.2) := by
    intro g hg
    obtain ⟨t, ht⟩ := Option.isSome_iff_exists.1 hg
    rcases updM_cases ht with ⟨rfl, _⟩ | hu
    · exact hokx
    · exact h.okM g (by rw [hu]; rfl)
  have hkeys : ∃ ks : List Gd, ks.Nodup ∧ (∀ g, (updM M x.1 x.2 g).isSome = true ↔ g ∈ ks) ∧ ∀ g ∈ ks, g ∈ U := by
    obtain ⟨ks, k1, k2, k3⟩ := h.keys
    refine ⟨x.1 :: ks, List.nodup_cons.2 ⟨fun hm => (by have := (k2 _).2 hm; rw [hx] at this; cases this), k1⟩, fun g => ?_, fun g hg => ?_⟩
    · by_cases e : g = x.1
      · subst e; rw [updM_same]; simp
      · rw [updM_ne e, k2]; simp [e]
    · rcases List.mem_cons.1 hg with rfl | hg
      · exact h.inU x (by simp)
      · exact k3 g hg
  have hinU : ∀ g, (updM M x.1 x.2 g).isSome = true → g ∈ U := fun g hg => by
    obtain ⟨ks, k1, k2, k3⟩ := hkeys
    exact k3 g ((k2 g).1 hg)
  have hsoundM : ∀ g t, updM M x.1 x.2 g = some t → ∀ e, e < t → Der R F e g := by
    intro g t hu e he
    rcases updM_cases hu with ⟨rfl, rfl⟩ | hu
    · exact h.soundQ x (by simp) e he
    · exact h.soundM g t hu e he
  have hgx : (updM M x.1 x.2 x.1).isSome = true := by rw [updM_same]; rfl
  have hheads : ∀ g ∈ hs, arOk ar g ∧ g ∈ U ∧ ∀ e, e < x.2 → Der R F e g := by
    intro g hg
    obtain ⟨r, hr, p, h1, rfl, h2⟩ := (hhs g).1 hg
    obtain ⟨u1, u2⟩ := usesR_sound hokM (hR r hr).1.body hgx h1
    refine ⟨head_ok har (hR r hr).1 (hR r hr).2 (fun a ha => (hokM _ (u2 a ha)).1), hU r hr u1 p (fun a ha => ⟨hinU _ (u2 a ha), (hokM _ (u2 a ha)).1⟩), fun e he => Der.rule hr u1 (fun a ha => ?_)⟩
    obtain ⟨t, ht⟩ := Option.isSome_iff_exists.1 (u2 a ha)
    exact hsoundM _ _ ht e (Int.lt_of_lt_of_le he (htop _ _ ht))
  have hmem : ∀ y, y ∈ q ++ hs.map (fun g => (g, x.2)) → y ∈ q ∨ (y.1 ∈ hs ∧ y.2 = x.2) := by
    intro y hy
    rcases List.mem_append.1 hy with hy | hy
    · exact .inl hy
    · obtain ⟨g, hg, rfl⟩ := List.mem_map.1 hy
      exact .inr ⟨hg, rfl⟩
  refine ⟨?_, ?_, hokM, ?_, hsoundM, ?_, ?_, ?_, hkeys, ?_⟩
  · refine List.pairwise_append.2 ⟨(List.pairwise_append.1 h.sorted).1, ?_, fun a ha b hb => ?_⟩
    · rw [List.pairwise_map]
      exact List.pairwise_of_forall (fun _ _ => Int.le_refl _)
    · obtain ⟨g, hg, rfl⟩ := List.mem_map.1 hb
      exact hmax a ha
  · intro y hy g t hu
    rcases hmem y hy with hy | ⟨_, he⟩
    · exact Int.le_trans (hmax y hy) (htop g t hu)
    · rw [he]; exact htop g t hu
  · intro y hy
    rcases hmem y hy with hy | ⟨hy, _⟩
    · exact h.okQ y (by simp [hy])
    · exact ⟨(hheads _ hy).1, hUk _ (hheads _ hy).2.1⟩
  · intro y hy e he
    rcases hmem y hy with hy | ⟨hy, h2⟩
    · exact h.soundQ y (by simp [hy]) e he
    · rw [h2] at he; exact (hheads _ hy).2.2 e he
  · intro y hy
    rcases h.facts y hy with h1 | ⟨t, h1, h2⟩
    · rcases List.mem_append.1 h1 with h1 | h1
      · exact .inl (List.mem_append_left _ h1)
      · simp at h1; subst h1; exact .inr ⟨_, updM_same _ _ _, Int.le_refl _⟩
    · by_cases e : y.1 = x.1
      · rw [e, hx] at h1; cases h1
      · exact .inr ⟨t, by rw [updM_ne e]; exact h1, h2⟩
  · intro r hr h0 p e hb
    by_cases hin : ∃ a ∈ r.body, groundA p a = x.1
    · obtain ⟨a, ha, hax⟩ := hin
      have hall : ∀ a ∈ r.body, (updM M x.1 x.2 (groundA p a)).isSome = true := fun a ha => by
        obtain ⟨t, ht, _⟩ := hb a ha; rw [ht]; rfl
      have hex : e < x.2 := by
        obtain ⟨t, ht, hlt⟩ := hb a ha
        rw [hax, updM_same] at ht; cases ht; exact hlt
      obtain ⟨pq, hu, hext⟩ := usesR_complete hokM (hR r hr).1.body ha hall
      rw [hax] at hu
      obtain ⟨_, u2⟩ := usesR_sound hokM (hR r hr).1.body hgx hu
      have hsame := head_same (hR r hr).1 hext (fun a ha => (hokM _ (u2 a ha)).1)
      cases hM : updM M x.1 x.2 (groundA p r.head) with
      | some t => exact .inl ⟨t, rfl, Int.lt_of_lt_of_le hex (htop _ _ hM)⟩
      | none =>
        refine .inr ⟨(groundA p r.head, x.2), List.mem_append_right _ (List.mem_map.2 ⟨_, (hhs _).2 ⟨r, hr, pq, hu, hsame, hM⟩, rfl⟩), rfl, hex⟩
    · have hb' : ∀ a ∈ r.body, ∃ t, M (groundA p a) = some t ∧ e < t := fun a ha => by
        obtain ⟨t, ht, hlt⟩ := hb a ha
        rw [updM_ne (fun e => hin ⟨a, ha, e⟩)] at ht
        exact ⟨t, ht, hlt⟩
      rcases h.closed r hr h0 p e hb' with ⟨t, h1, h2⟩ | ⟨y, hy, h1, h2⟩
      · by_cases e' : groundA p r.head = x.1
        · rw [e', hx] at h1; cases h1
        · exact .inl ⟨t, by rw [updM_ne e']; exact h1, h2⟩
      · rcases List.mem_append.1 hy with hy | hy
        · exact .inr ⟨y, List.mem_append_left _ hy, h1, h2⟩
        · simp at hy; subst hy
          exact .inl ⟨_, by rw [← h1]; exact updM_same _ _ _, h2⟩
  · intro y hy
    rcases hmem y hy with hy | ⟨hy, _⟩
    · exact h.inU y (by simp [hy])
    · exact (hheads _ hy).2.1

/-- The least model, each atom with the greatest end up to which it follows. -/
structure LeastM (R : List Rl) (F : List (Gd × Int)) (M : Gd → Option Int) : Prop where
  sound : ∀ g t, M g = some t → ∀ e, e < t → Der R F e g
  complete : ∀ e g, Der R F e g → ∃ t, M g = some t ∧ e < t

theorem LsInv.done {ar : ByteArray → Nat} {R : List Rl} {F : List (Gd × Int)} {U : List Gd} {M : Gd → Option Int} (h : LsInv ar R F U M []) : LeastM R F M := by
  refine ⟨h.soundM, fun e g hd => ?_⟩
  refine hd (fun g => ∃ t, M g = some t ∧ e < t) (fun x hx he => ?_) (fun r hr h0 p hb => ?_)
  · rcases h.facts x hx with h1 | ⟨t, h1, h2⟩
    · cases h1
    · exact ⟨t, h1, by omega⟩
  · rcases h.closed r hr h0 p e hb with h1 | ⟨y, hy, _⟩
    · exact h1
    · cases hy

theorem nodup_le {α : Type} : ∀ (ks U : List α), ks.Nodup → (∀ g ∈ ks, g ∈ U) → ks.length ≤ U.length
  | [], U, _, _ => Nat.zero_le _
  | k :: ks, U, h, hs => by
    obtain ⟨A, B, rfl⟩ := List.append_of_mem (hs k (by simp))
    have := nodup_le ks (A ++ B) (List.nodup_cons.1 h).2 (fun g hg => by
      have h1 := hs g (by simp [hg])
      have hne : g ≠ k := fun e => (List.nodup_cons.1 h).1 (e ▸ hg)
      simp only [List.mem_append, List.mem_cons] at h1 ⊢
      rcases h1 with h1 | h1 | h1
      · exact .inl h1
      · exact absurd h1 hne
      · exact .inr h1)
    simp at this ⊢
    omega

/-- All ground atoms of some relations over some names. -/
def uni (rels NS : List ByteArray) : List Gd := rels.flatMap fun r => NS.flatMap fun x => (eB :: NS).map fun y => ⟨r, x, y⟩
theorem mem_uni {rels NS : List ByteArray} {g : Gd} : g ∈ uni rels NS ↔ g.rel ∈ rels ∧ g.x ∈ NS ∧ (g.y = eB ∨ g.y ∈ NS) := by
  unfold uni
  simp only [List.mem_flatMap, List.mem_map, List.mem_cons]
  constructor
  · rintro ⟨r, hr, x, hx, y, hy, rfl⟩; exact ⟨hr, hx, hy⟩
  · rintro ⟨h1, h2, h3⟩; exact ⟨_, h1, _, h2, _, h3, rfl⟩
theorem flat_lenU {α β : Type} (f : α → List β) (k : Nat) : ∀ l : List α, (∀ a ∈ l, (f a).length = k) → (l.flatMap f).length = l.length * k
  | [], _ => by simp
  | a :: l, h => by
    rw [List.flatMap_cons, List.length_append, h a (by simp), flat_lenU f k l (fun b hb => h b (by simp [hb])), List.length_cons, Nat.add_mul, Nat.one_mul, Nat.add_comm]
theorem uni_len (rels NS : List ByteArray) : (uni rels NS).length = rels.length * (NS.length * (NS.length + 1)) := by
  unfold uni
  refine flat_lenU _ _ _ (fun r _ => flat_lenU _ _ _ (fun x _ => by simp))
theorem uni_closed {ar : ByteArray → Nat} {rels NS : List ByteArray} {R : List Rl} (hR : ∀ r ∈ R, RlOk ar r ∧ r.head.args ≠ []) (hrel : ∀ r ∈ R, r.head.rel ∈ rels) (hnm : ∀ r ∈ R, ∀ t ∈ r.head.args, t.name ≠ eB → t.name ∈ NS) :
    ∀ r ∈ R, r.body ≠ [] → ∀ p : Nms, (∀ a ∈ r.body, groundA p a ∈ uni rels NS ∧ arOk ar (groundA p a)) → groundA p r.head ∈ uni rels NS := by
  intro r hr _ p hb
  have harg : ∀ t ∈ r.head.args, ofT p t ∈ NS := by
    intro t ht
    obtain ⟨h1, ⟨h2, h3⟩ | ⟨a, ha, h2⟩⟩ := head_arg (hR r hr).1 (fun a ha => (hb a ha).2) ht
    · rw [h3]; exact hnm r hr t ht h2
    · obtain ⟨k1, k2, k3⟩ := mem_uni.1 (hb a ha).1
      rcases h2 with h2 | h2
      · rw [h2]; exact k2
      · rcases k3 with k3 | k3
        · rw [h2, k3] at h1; exact absurd rfl h1
        · rw [h2]; exact k3
  rw [mem_uni]
  refine ⟨hrel r hr, ?_, ?_⟩
  · show xOf p r.head.args ∈ NS
    have h0 := (hR r hr).2
    revert harg h0
    cases r.head.args with
    | nil => intro _ h; exact absurd rfl h
    | cons t l => intro h _; exact h t (by simp)
  · show yOf p r.head.args = eB ∨ yOf p r.head.args ∈ NS
    revert harg
    cases r.head.args with
    | nil => intro _; exact .inl rfl
    | cons t l =>
      intro h
      cases l with
      | nil => exact .inl rfl
      | cons u l => exact .inr (h u (by simp))
theorem uni_ok {rels NS : List ByteArray} (h1 : ∀ r ∈ rels, r.size ≤ maxLen) (h2 : ∀ x ∈ NS, x.size ≤ maxLen) : ∀ g ∈ uni rels NS, GdOk g := by
  intro g hg
  obtain ⟨k1, k2, k3⟩ := mem_uni.1 hg
  refine ⟨h1 _ k1, h2 _ k2, ?_⟩
  rcases k3 with k3 | k3
  · rw [k3]; exact Nat.zero_le _
  · exact h2 _ k3

/-- Only which facts there are matters. -/
theorem Der.congr {R : List Rl} {F F' : List (Gd × Int)} (h : ∀ x, x ∈ F ↔ x ∈ F') (e : Int) (g : Gd) : Der R F e g ↔ Der R F' e g :=
  ⟨fun hd S h1 h2 => hd S (fun x hx => h1 x ((h x).1 hx)) h2, fun hd S h1 h2 => hd S (fun x hx => h1 x ((h x).2 hx)) h2⟩
/-- Facts that have ended before a time do not matter beyond it. -/
theorem Der.later {R : List Rl} {F F' : List (Gd × Int)} {e : Int} (h : ∀ x, e < x.2 → (x ∈ F ↔ x ∈ F')) (g : Gd) : Der R F e g ↔ Der R F' e g :=
  ⟨fun hd S h1 h2 => hd S (fun x hx he => h1 x ((h x he).1 hx) he) h2, fun hd S h1 h2 => hd S (fun x hx he => h1 x ((h x he).2 hx) he) h2⟩
end Go.Proofs.YtjajnhemgphefaaGreatDoor
