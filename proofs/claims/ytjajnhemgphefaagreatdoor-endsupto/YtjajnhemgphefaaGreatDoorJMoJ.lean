/-
  The least model in plain data: what matching and joining come to, what holds between two rounds of Least, and what it comes to.
  Package model: the iterator over what follows from an atom.
-/
import Derived.Test.YtjajnhemgphefaaGreatDoorJMoI
import Derived.Test.YtjajnhemgphefaaGreatDoorJApI
namespace Go.Proofs.YtjajnhemgphefaaGreatDoor
open Go.RowKit Go.Shelf Go.Maps
set_option linter.unusedVariables false
set_option linter.unusedSimpArgs false

/-- No name. -/
def eB : ByteArray := ⟨#[]⟩
theorem empty_iff (x : ByteArray) : x.toList.isEmpty = true ↔ x = eB := by
  rw [ba_list, List.isEmpty_iff]
  constructor
  · intro h; exact ba_inj h
  · rintro rfl; rfl
theorem list_inj {x y : ByteArray} (h : x.toList = y.toList) : x = y := by
  rw [ba_list, ba_list] at h; exact ba_inj h

/-- All names that are put stay. -/
def Ext (n m : Nms) : Prop := ∀ k, n.get k ≠ eB → m.get k = n.get k
theorem Ext.refl (n : Nms) : Ext n n := fun _ _ => rfl
theorem Ext.trans {a b c : Nms} (h : Ext a b) (k : Ext b c) : Ext a c := fun i hi => by
  have h1 := h i hi
  rw [k i (by rw [h1]; exact hi), h1]
theorem ext_zero (p : Nms) : Ext nms0 p := fun k hk => absurd (by unfold nms0 Nms.get; split <;> rfl) hk

theorem ofT_var {t : Tm} (h : t.name = eB) (n : Nms) : ofT n t = n.get t.num := by
  unfold ofT; rw [if_pos ((empty_iff _).2 h)]
theorem ofT_name {t : Tm} (h : t.name ≠ eB) (n : Nms) : ofT n t = t.name := by
  unfold ofT; rw [if_neg (fun h' => h ((empty_iff _).1 h'))]
theorem ofT_ext {n m : Nms} {t : Tm} (h : Ext n m) (hne : ofT n t ≠ eB) : ofT m t = ofT n t := by
  by_cases ht : t.name = eB
  · rw [ofT_var ht] at hne
    rw [ofT_var ht, ofT_var ht, h _ hne]
  · rw [ofT_name ht, ofT_name ht]

theorem putT_ext {n : Nms} {t : Tm} {x : ByteArray} (h6 : t.num < 6) : Ext n (putT n t x) := by
  intro k hk
  unfold putT
  split
  · rename_i h
    rw [Nms.get_set _ _ _ _ h6]
    split
    · rename_i e; subst e; exact absurd ((empty_iff _).1 h.2) hk
    · rfl
  · rfl
theorem step_sound {n m : Nms} {t : Tm} {x : ByteArray} (h6 : t.num < 6) (h : matchStep n t x = some m) : Ext n m ∧ ofT m t = x := by
  unfold matchStep at h
  split at h
  · rename_i hx
    cases h
    exact ⟨putT_ext h6, list_inj hx⟩
  · cases h
theorem step_complete {n p : Nms} {t : Tm} {x : ByteArray} (h6 : t.num < 6) (hx : x ≠ eB) (he : Ext n p) (hp : ofT p t = x) : ∃ m, matchStep n t x = some m ∧ Ext m p := by
  have hof : ofT (putT n t x) t = x := by
    by_cases ht : t.name = eB
    · rw [ofT_var ht] at hp
      rw [ofT_var ht]
      unfold putT
      by_cases hn : n.get t.num = eB
      · rw [if_pos ⟨(empty_iff _).2 ht, (empty_iff _).2 hn⟩, Nms.get_set _ _ _ _ h6, if_pos rfl]
      · rw [if_neg (fun h => hn ((empty_iff _).1 h.2)), ← he _ hn, hp]
    · rw [ofT_name ht]; rwa [ofT_name ht] at hp
  refine ⟨putT n t x, by unfold matchStep; rw [if_pos (by rw [hof])], ?_⟩
  intro k hk
  unfold putT at hk ⊢
  split
  · rename_i h
    rw [if_pos h, Nms.get_set _ _ _ _ h6] at hk
    rw [Nms.get_set _ _ _ _ h6]
    split
    · rename_i e; subst e
      rwa [ofT_var ((empty_iff _).1 h.1)] at hp
    · rename_i e; rw [if_neg e] at hk; exact he _ hk
  · rename_i h; rw [if_neg h] at hk; exact he _ hk

theorem matchF_sound : ∀ (l : List (Tm × ByteArray)) (n m : Nms), (∀ q ∈ l, q.1.num < 6 ∧ q.2 ≠ eB) → matchF n l = some m → Ext n m ∧ ∀ q ∈ l, ofT m q.1 = q.2
  | [], n, m, _, h => by
    simp only [matchF, Option.some.injEq] at h; subst h
    exact ⟨Ext.refl _, by simp⟩
  | q :: l, n, m, hl, h => by
    simp only [matchF] at h
    cases hq : matchStep n q.1 q.2 with
    | none => rw [hq] at h; cases h
    | some m' =>
      rw [hq] at h
      obtain ⟨h1, h2⟩ := step_sound (hl q (by simp)).1 hq
      obtain ⟨h3, h4⟩ := matchF_sound l m' m (fun r hr => hl r (by simp [hr])) h
      refine ⟨h1.trans h3, fun r hr => ?_⟩
      rcases List.mem_cons.1 hr with rfl | hr
      · rw [ofT_ext h3 (by rw [h2]; exact (hl r (by simp)).2), h2]
      · exact h4 r hr
theorem matchF_complete : ∀ (l : List (Tm × ByteArray)) (n p : Nms), (∀ q ∈ l, q.1.num < 6 ∧ q.2 ≠ eB) → Ext n p → (∀ q ∈ l, ofT p q.1 = q.2) → ∃ m, matchF n l = some m ∧ Ext m p
  | [], n, p, _, he, _ => ⟨n, rfl, he⟩
  | q :: l, n, p, hl, he, hp => by
    obtain ⟨m, h1, h2⟩ := step_complete (hl q (by simp)).1 (hl q (by simp)).2 he (hp q (by simp))
    obtain ⟨m', h3, h4⟩ := matchF_complete l m p (fun r hr => hl r (by simp [hr])) h2 (fun r hr => hp r (by simp [hr]))
    exact ⟨m', by simp only [matchF, h1]; exact h3, h4⟩

/-- A ground atom has as many names as its relation has arguments. -/
def arOk (ar : ByteArray → Nat) (g : Gd) : Prop := g.x ≠ eB ∧ ((ar g.rel = 1 ∧ g.y = eB) ∨ (ar g.rel = 2 ∧ g.y ≠ eB))
/-- An atom has as many arguments as its relation, and its variables have numbers below six. -/
def amOk (ar : ByteArray → Nat) (a : Am) : Prop := a.args.length = ar a.rel ∧ ∀ t ∈ a.args, t.num < 6

theorem am_cases {ar : ByteArray → Nat} {a : Am} (ha : amOk ar a) {x y : ByteArray} (hg : arOk ar ⟨a.rel, x, y⟩) : (∃ t, a.args = [t] ∧ y = eB ∧ x ≠ eB) ∨ ∃ t u, a.args = [t, u] ∧ x ≠ eB ∧ y ≠ eB := by
  obtain ⟨hx, ⟨h1, h2⟩ | ⟨h1, h2⟩⟩ := hg
  · have hl : a.args.length = 1 := ha.1.trans h1
    match ha' : a.args, hl with
    | [t], _ => exact .inl ⟨t, rfl, h2, hx⟩
  · have hl : a.args.length = 2 := ha.1.trans h1
    match ha' : a.args, hl with
    | [t, u], _ => exact .inr ⟨t, u, rfl, hx, h2⟩

theorem matchA_sound {ar : ByteArray → Nat} {a : Am} (ha : amOk ar a) {x y : ByteArray} (hg : arOk ar ⟨a.rel, x, y⟩) {n m : Nms} (h : matchA n a x y = some m) : Ext n m ∧ groundA m a = ⟨a.rel, x, y⟩ := by
  unfold matchA at h
  rcases am_cases ha hg with ⟨t, e1, e2, e3⟩ | ⟨t, u, e1, e2, e3⟩
  · rw [e1] at h
    obtain ⟨h1, h2⟩ := matchF_sound _ _ _ (by
      intro q hq
      simp at hq; subst hq
      exact ⟨ha.2 t (by rw [e1]; simp), e3⟩) h
    refine ⟨h1, ?_⟩
    unfold groundA xOf yOf
    rw [e1]
    simp only
    rw [h2 (t, x) (by simp), e2]; rfl
  · rw [e1] at h
    obtain ⟨h1, h2⟩ := matchF_sound _ _ _ (by
      intro q hq
      simp at hq
      rcases hq with rfl | rfl
      · exact ⟨ha.2 t (by rw [e1]; simp), e2⟩
      · exact ⟨ha.2 u (by rw [e1]; simp), e3⟩) h
    refine ⟨h1, ?_⟩
    unfold groundA xOf yOf
    rw [e1]
    simp only
    rw [h2 (t, x) (by simp), h2 (u, y) (by simp)]
theorem matchA_complete {ar : ByteArray → Nat} {a : Am} (ha : amOk ar a) {n p : Nms} (hg : arOk ar (groundA p a)) (he : Ext n p) : ∃ m, matchA n a (groundA p a).x (groundA p a).y = some m ∧ Ext m p := by
  unfold matchA
  rcases am_cases ha (x := (groundA p a).x) (y := (groundA p a).y) hg with ⟨t, e1, e2, e3⟩ | ⟨t, u, e1, e2, e3⟩
  · refine matchF_complete _ _ _ (fun q hq => ?_) he (fun q hq => ?_)
    · rw [e1] at hq; simp at hq; subst hq; exact ⟨ha.2 t (by rw [e1]; simp), e3⟩
    · rw [e1] at hq; simp at hq; subst hq
      simp [groundA, e1, xOf]
  · refine matchF_complete _ _ _ (fun q hq => ?_) he (fun q hq => ?_)
    · rw [e1] at hq; simp at hq
      rcases hq with rfl | rfl
      · exact ⟨ha.2 t (by rw [e1]; simp), e2⟩
      · exact ⟨ha.2 u (by rw [e1]; simp), e3⟩
    · rw [e1] at hq; simp at hq
      rcases hq with rfl | rfl
      · simp [groundA, e1, xOf]
      · simp [groundA, e1, yOf]

theorem ground_ext {ar : ByteArray → Nat} {a : Am} (ha : amOk ar a) {n p : Nms} (hg : arOk ar (groundA n a)) (he : Ext n p) : groundA p a = groundA n a := by
  rcases am_cases ha (x := (groundA n a).x) (y := (groundA n a).y) hg with ⟨t, e1, e2, e3⟩ | ⟨t, u, e1, e2, e3⟩
  · unfold groundA xOf at e3; rw [e1] at e3; simp only at e3
    unfold groundA xOf yOf; rw [e1]; simp only; rw [ofT_ext he e3]
  · unfold groundA xOf at e2; rw [e1] at e2; simp only at e2
    unfold groundA yOf at e3; rw [e1] at e3; simp only at e3
    unfold groundA xOf yOf; rw [e1]; simp only; rw [ofT_ext he e2, ofT_ext he e3]

/-- All of a model have as many names as their relations have arguments, and no name is too long. -/
def mdOk (ar : ByteArray → Nat) (M : Gd → Option Int) : Prop := ∀ g, (M g).isSome = true → arOk ar g ∧ GdOk g

theorem joinR_sound {ar : ByteArray → Nat} {M : Gd → Option Int} (hM : mdOk ar M) : ∀ (L : List Am) (n p : Nms), (∀ a ∈ L, amOk ar a) → joinR M L n p → Ext n p ∧ ∀ a ∈ L, (M (groundA p a)).isSome = true
  | [], n, p, _, h => by
    have h' : p = n := h
    subst h'
    exact ⟨Ext.refl _, by simp⟩
  | a :: L, n, p, hL, h => by
    obtain ⟨x, y, q, _, _, h1, h2, h3⟩ := h
    obtain ⟨k1, k2⟩ := matchA_sound (hL a (by simp)) (hM _ h1).1 h2
    obtain ⟨k3, k4⟩ := joinR_sound hM L q p (fun b hb => hL b (by simp [hb])) h3
    refine ⟨k1.trans k3, fun b hb => ?_⟩
    rcases List.mem_cons.1 hb with rfl | hb
    · rw [ground_ext (hL b (by simp)) (by rw [k2]; exact (hM _ h1).1) k3, k2]; exact h1
    · exact k4 b hb
theorem joinR_complete {ar : ByteArray → Nat} {M : Gd → Option Int} (hM : mdOk ar M) : ∀ (L : List Am) (n p : Nms), (∀ a ∈ L, amOk ar a) → Ext n p → (∀ a ∈ L, (M (groundA p a)).isSome = true) → ∃ q, joinR M L n q ∧ Ext q p
  | [], n, p, _, he, _ => ⟨n, rfl, he⟩
  | a :: L, n, p, hL, he, h => by
    have h1 := h a (by simp)
    obtain ⟨m, k1, k2⟩ := matchA_complete (hL a (by simp)) (hM _ h1).1 he
    obtain ⟨q, k3, k4⟩ := joinR_complete hM L m p (fun b hb => hL b (by simp [hb])) k2 (fun b hb => h b (by simp [hb]))
    exact ⟨q, ⟨_, _, m, (hM _ h1).2.x, (hM _ h1).2.y, h1, k1, k3⟩, k4⟩

theorem mem_split {L : List Am} {i : Nat} (h : i < L.length) {a : Am} : a ∈ L ↔ a = L[i] ∨ a ∈ L.take i ++ L.drop (i + 1) := by
  conv => lhs; rw [← List.take_append_drop i L, List.drop_eq_getElem_cons h]
  simp only [List.mem_append, List.mem_cons]
  constructor
  · rintro (h | h | h)
    · exact .inr (.inl h)
    · exact .inl h
    · exact .inr (.inr h)
  · rintro (h | h | h)
    · exact .inr (.inl h)
    · exact .inl h
    · exact .inr (.inr h)

theorem usesR_sound {ar : ByteArray → Nat} {M : Gd → Option Int} (hM : mdOk ar M) {L : List Am} (hL : ∀ a ∈ L, amOk ar a) {g : Gd} (hg : (M g).isSome = true) {p : Nms} (h : usesR M L g p) : L ≠ [] ∧ ∀ a ∈ L, (M (groundA p a)).isSome = true := by
  obtain ⟨i, hi, h1, put, h2, h3⟩ := h
  have hgi : (⟨(L[i]).rel, g.x, g.y⟩ : Gd) = g := by rw [h1]
  obtain ⟨k1, k2⟩ := matchA_sound (hL _ (List.getElem_mem hi)) (by rw [hgi]; exact (hM _ hg).1) h2
  obtain ⟨k3, k4⟩ := joinR_sound hM _ _ _ (fun b hb => hL b ((mem_split hi).2 (.inr hb))) h3
  refine ⟨fun e => by rw [e] at hi; simp at hi, fun a ha => ?_⟩
  rcases (mem_split hi).1 ha with rfl | ha
  · rw [ground_ext (hL _ (List.getElem_mem hi)) (by rw [k2, hgi]; exact (hM _ hg).1) k3, k2, hgi]; exact hg
  · exact k4 a ha
theorem usesR_complete {ar : ByteArray → Nat} {M : Gd → Option Int} (hM : mdOk ar M) {L : List Am} (hL : ∀ a ∈ L, amOk ar a) {p : Nms} {a : Am} (ha : a ∈ L) (h : ∀ a ∈ L, (M (groundA p a)).isSome = true) : ∃ q, usesR M L (groundA p a) q ∧ Ext q p := by
  obtain ⟨i, hi, rfl⟩ := List.getElem_of_mem ha
  obtain ⟨m, k1, k2⟩ := matchA_complete (hL _ ha) (hM _ (h _ ha)).1 (ext_zero p)
  obtain ⟨q, k3, k4⟩ := joinR_complete hM (L.take i ++ L.drop (i + 1)) m p (fun b hb => hL b ((mem_split hi).2 (.inr hb))) k2 (fun b hb => h b ((mem_split hi).2 (.inr hb)))
  exact ⟨q, ⟨i, hi, rfl, m, k1, k3⟩, k4⟩

/-- A rule whose atoms are right and whose head has no variable that its body has not. -/
structure RlOk (ar : ByteArray → Nat) (r : Rl) : Prop where
  head : amOk ar r.head
  body : ∀ a ∈ r.body, amOk ar a
  safe : ∀ t ∈ r.head.args, t.name = eB → ∃ a ∈ r.body, ∃ u ∈ a.args, u.name = eB ∧ u.num = t.num

theorem ground_arg {ar : ByteArray → Nat} {a : Am} (ha : amOk ar a) {p : Nms} (hg : arOk ar (groundA p a)) {u : Tm} (hu : u ∈ a.args) : ofT p u ≠ eB ∧ (ofT p u = (groundA p a).x ∨ ofT p u = (groundA p a).y) := by
  rcases am_cases ha (x := (groundA p a).x) (y := (groundA p a).y) hg with ⟨t, e1, e2, e3⟩ | ⟨t, v, e1, e2, e3⟩
  · rw [e1] at hu; simp at hu; subst hu
    have : (groundA p a).x = ofT p u := by simp [groundA, e1, xOf]
    exact ⟨by rw [← this]; exact e3, .inl this.symm⟩
  · rw [e1] at hu; simp at hu
    rcases hu with rfl | rfl
    · have : (groundA p a).x = ofT p u := by simp [groundA, e1, xOf]
      exact ⟨by rw [← this]; exact e2, .inl this.symm⟩
    · have : (groundA p a).y = ofT p u := by simp [groundA, e1, yOf]
      exact ⟨by rw [← this]; exact e3, .inr this.symm⟩

/-- Each argument of the head is a name of the rule or one of what the body comes to. -/
theorem head_arg {ar : ByteArray → Nat} {r : Rl} (hr : RlOk ar r) {p : Nms} (hb : ∀ a ∈ r.body, arOk ar (groundA p a)) {t : Tm} (ht : t ∈ r.head.args) : ofT p t ≠ eB ∧ ((t.name ≠ eB ∧ ofT p t = t.name) ∨ ∃ a ∈ r.body, ofT p t = (groundA p a).x ∨ ofT p t = (groundA p a).y) := by
  by_cases h : t.name = eB
  · obtain ⟨a, ha, u, hu, e1, e2⟩ := hr.safe t ht h
    obtain ⟨k1, k2⟩ := ground_arg (hr.body a ha) (hb a ha) hu
    have he : ofT p t = ofT p u := by rw [ofT_var h, ofT_var e1, e2]
    rw [he]
    exact ⟨k1, .inr ⟨a, ha, k2⟩⟩
  · rw [ofT_name h]; exact ⟨h, .inl ⟨h, rfl⟩⟩
theorem head_ok {ar : ByteArray → Nat} (har : ∀ r, ar r = 1 ∨ ar r = 2 ∨ ar r = 0) {r : Rl} (hr : RlOk ar r) (h0 : r.head.args ≠ []) {p : Nms} (hb : ∀ a ∈ r.body, arOk ar (groundA p a)) : arOk ar (groundA p r.head) := by
  have hl := hr.head.1
  match ha : r.head.args, hl with
  | [], _ => exact absurd ha h0
  | [t], hl =>
    refine ⟨?_, .inl ⟨by show ar r.head.rel = 1; rw [← hl]; rfl, by show yOf p r.head.args = eB; rw [ha]; rfl⟩⟩
    show xOf p r.head.args ≠ eB
    rw [ha]; exact (head_arg hr hb (t := t) (by rw [ha]; simp)).1
  | [t, u], hl =>
    refine ⟨?_, .inr ⟨by show ar r.head.rel = 2; rw [← hl]; rfl, ?_⟩⟩
    · show xOf p r.head.args ≠ eB
      rw [ha]; exact (head_arg hr hb (t := t) (by rw [ha]; simp)).1
    · show yOf p r.head.args ≠ eB
      rw [ha]; exact (head_arg hr hb (t := u) (by rw [ha]; simp)).1
  | t :: u :: v :: l, hl =>
    exfalso
    simp at hl
    rcases har r.head.rel with h | h | h <;> omega
theorem head_same {ar : ByteArray → Nat} {r : Rl} (hr : RlOk ar r) {q p : Nms} (he : Ext q p) (hb : ∀ a ∈ r.body, arOk ar (groundA q a)) : groundA p r.head = groundA q r.head := by
  have h : ∀ t ∈ r.head.args, ofT p t = ofT q t := fun t ht => ofT_ext he (head_arg hr hb ht).1
  unfold groundA
  have hx : xOf p r.head.args = xOf q r.head.args := by
    unfold xOf; split
    · rfl
    · rename_i t l e; exact h t (by rw [e]; simp)
  have hy : yOf p r.head.args = yOf q r.head.args := by
    unfold yOf; split
    · rename_i t u l e; exact h u (by rw [e]; simp)
    · rfl
  rw [hx, hy]

/-- What follows from facts that last beyond a time: in every set that holds these and is closed under the rules. -/
def Der (R : List Rl) (F : List (Gd × Int)) (e : Int) (g : Gd) : Prop :=
  ∀ S : Gd → Prop, (∀ x ∈ F, e < x.2 → S x.1) → (∀ r ∈ R, r.body ≠ [] → ∀ p : Nms, (∀ a ∈ r.body, S (groundA p a)) → S (groundA p r.head)) → S g
theorem Der.fact {R : List Rl} {F : List (Gd × Int)} {e : Int} {x : Gd × Int} (hx : x ∈ F) (he : e < x.2) : Der R F e x.1 := fun S h1 _ => h1 x hx he
theorem Der.rule {R : List Rl} {F : List (Gd × Int)} {e : Int} {r : Rl} (hr : r ∈ R) (h0 : r.body ≠ []) {p : Nms} (h : ∀ a ∈ r.body, Der R F e (groundA p a)) : Der R F e (groundA p r.head) := fun S h1 h2 => h2 r hr h0 p (fun a ha => h a ha S h1 h2)

/-- What holds of a model between two rounds of Least, and of what waits, the last first. -/
structure LsInv (ar : ByteArray → Nat) (R : List Rl) (F : List (Gd × Int)) (U : List Gd) (M : Gd → Option Int) (q : List (Gd × Int)) : Prop where
  sorted : q.Pairwise (fun a b => a.2 ≤ b.2)
  top : ∀ x ∈ q, ∀ g t, M g = some t → x.2 ≤ t
  okM : mdOk ar M
  okQ : ∀ x ∈ q, arOk ar x.1 ∧ GdOk x.1
  soundM : ∀ g t, M g = some t → ∀ e, e < t → Der R F e g
  soundQ : ∀ x ∈ q, ∀ e, e < x.2 → Der R F e x.1
  facts : ∀ x ∈ F, x ∈ q ∨ ∃ t, M x.1 = some t ∧ x.2 ≤ t
  closed : ∀ r ∈ R, r.body ≠ [] → ∀ (p : Nms) (e : Int), (∀ a ∈ r.body, ∃ t, M (groundA p a) = some t ∧ e < t) → (∃ t, M (groundA p r.head) = some t ∧ e < t) ∨ ∃ x ∈ q, x.1 = groundA p r.head ∧ e < x.2
  keys : ∃ ks : List Gd, ks.Nodup ∧ (∀ g, (M g).isSome = true ↔ g ∈ ks) ∧ ∀ g ∈ ks, g ∈ U
  inU : ∀ x ∈ q, x.1 ∈ U

theorem LsInv.first {ar : ByteArray → Nat} {R : List Rl} {F q : List (Gd × Int)} {U : List Gd} (hs : q.Pairwise (fun a b => a.2 ≤ b.2)) (hq : ∀ x, x ∈ q ↔ x ∈ F) (hok : ∀ x ∈ F, arOk ar x.1 ∧ GdOk x.1) (hU : ∀ x ∈ F, x.1 ∈ U) : LsInv ar R F U (fun _ => none) q :=
  ⟨hs, fun _ _ _ _ h => (by cases h), fun _ h => (by cases h), fun x hx => hok x ((hq x).1 hx), fun _ _ h => (by cases h), fun x hx e he => Der.fact ((hq x).1 hx) he, fun x hx => .inl ((hq x).2 hx), fun r _ h0 p e h => (by
    obtain ⟨a, ha⟩ := List.exists_mem_of_ne_nil _ h0
    obtain ⟨t, ht, _⟩ := h a ha
    cases ht), ⟨[], List.nodup_nil, fun g => by simp, by simp⟩, fun x hx => hU x ((hq x).1 hx)⟩

theorem LsInv.skip {ar : ByteArray → Nat} {R : List Rl} {F q : List (Gd × Int)} {U : List Gd} {M : Gd → Option Int} {x : Gd × Int} (h : LsInv ar R F U M (q ++ [x])) (hx : (M x.1).isSome = true) : LsInv ar R F U M q := by
  obtain ⟨t, ht⟩ := Option.isSome_iff_exists.1 hx
  have hle := h.top x (by simp) _ _ ht
  refine ⟨(List.pairwise_append.1 h.sorted).1, fun y hy => h.top y (by simp [hy]), h.okM, fun y hy => h.okQ y (by simp [hy]), h.soundM, fun y hy => h.soundQ y (by simp [hy]), fun y hy => ?_, fun r hr h0 p e hb => ?_, h.keys, fun y hy => h.inU y (by simp [hy])⟩
  · rcases h.facts y hy with h1 | h1
    · rcases List.mem_append.1 h1 with h1 | h1
      · exact .inl h1
      · simp at h1; subst h1; exact .inr ⟨t, ht, hle⟩
    · exact .inr h1
  · rcases h.closed r hr h0 p e hb with h1 | ⟨y, hy, h1, h2⟩
    · exact .inl h1
    · rcases List.mem_append.1 hy with hy | hy
      · exact .inr ⟨y, hy, h1, h2⟩
      · simp at hy; subst hy; rw [← h1]; exact .inl ⟨t, ht, by omega⟩

theorem gd_eq {g h : Gd} (h1 : h.rel = g.rel ∧ h.x = g.x ∧ h.y = g.y) : h = g := by
  cases g; cases h; simp at h1 ⊢; exact h1
theorem updM_same (M : Gd → Option Int) (g : Gd) (e : Int) : updM M g e g = some e := by unfold updM; rw [if_pos ⟨rfl, rfl, rfl⟩]
theorem updM_ne {M : Gd → Option Int} {g h : Gd} {e : Int} (hne : h ≠ g) : updM M g e h = M h := by unfold updM; rw [if_neg (fun h' => hne (gd_eq h'))]
theorem updM_cases {M : Gd → Option Int} {g h : Gd} {e t : Int} (hu : updM M g e h = some t) : (h = g ∧ t = e) ∨ M h = some t := by
  unfold updM at hu
  split at hu
  · rename_i h'; cases hu; exact .inl ⟨gd_eq h', rfl⟩
  · exact .inr hu

/-- The heads that follow from an atom that has just come, and are not there. -/
def followR (R : List Rl) (M : Gd → Option Int) (g : Gd) (h : Gd) : Prop := ∃ r ∈ R, ∃ p, usesR M r.body g p ∧ h = groundA p r.head ∧ M h = none

theorem LsInv.add {ar : ByteArray → Nat} (har : ∀ r, ar r = 1 ∨ ar r = 2 ∨ ar r = 0) {R : List Rl} (hR : ∀ r ∈ R, RlOk ar r ∧ r.head.args ≠ []) {F q : List (Gd × Int)} {U : List Gd} (hU : ∀ r ∈ R, r.body ≠ [] → ∀ p : Nms, (∀ a ∈ r.body, groundA p a ∈ U ∧ arOk ar (groundA p a)) → groundA p r.head ∈ U) (hUk : ∀ g ∈ U, GdOk g)
    {M : Gd → Option Int} {x : Gd × Int} (h : LsInv ar R F U M (q ++ [x])) (hx : M x.1 = none) {hs : List Gd} (hhs : ∀ g, g ∈ hs ↔ followR R (updM M x.1 x.2) x.1 g) : LsInv ar R F U (updM M x.1 x.2) (q ++ hs.map (fun g => (g, x.2))) := by
  have hmax : ∀ y ∈ q, y.2 ≤ x.2 := fun y hy => (List.pairwise_append.1 h.sorted).2.2 y hy x (by simp)
  have hokx := h.okQ x (by simp)
  have htop : ∀ g t, updM M x.1 x.2 g = some t → x.2 ≤ t := by
    intro g t hu
    rcases updM_cases hu with ⟨_, rfl⟩ | hu
    · exact Int.le_refl _
    · exact h.top x (by simp) _ _ hu
  have hokM : mdOk ar (updM M x.1 x.2) := by
    intro g hg
    obtain ⟨t, ht⟩ := Option.isSome_iff_exists.1 hg
    rcases updM_cases ht with ⟨rfl, _⟩ | hu
    · exact hokx
    · exact h.okM g (by rw [hu]; rfl)
  have hkeys : ∃ ks : List Gd, ks.Nodup ∧ (∀ g, (updM M x.1 x.2 g).isSome = true ↔ g ∈ ks) ∧ ∀ g ∈ ks, g ∈ U := by
    obtain ⟨ks, k1, k2, k3⟩ := h.keys
    refine ⟨x.1 :: ks, List.nodup_cons.2 ⟨fun hm => (by have := (k2 _).2 hm; rw [hx] at this; cases this), k1⟩, fun g => ?_, fun g hg => ?_⟩
    · by_cases e : g = x.1
      · subst e; rw [updM_same]; simp
      · rw [updM_ne e, k2]; simp [e]
    · rcases List.mem_cons.1 hg with rfl | hg
      · exact h.inU x (by simp)
      · exact k3 g hg
  have hinU : ∀ g, (updM M x.1 x.2 g).isSome = true → g ∈ U := fun g hg => by
    obtain ⟨ks, k1, k2, k3⟩ := hkeys
    exact k3 g ((k2 g).1 hg)
  have hsoundM : ∀ g t, updM M x.1 x.2 g = some t → ∀ e, e < t → Der R F e g := by
    intro g t hu e he
    rcases updM_cases hu with ⟨rfl, rfl⟩ | hu
    · exact h.soundQ x (by simp) e he
    · exact h.soundM g t hu e he
  have hgx : (updM M x.1 x.2 x.1).isSome = true := by rw [updM_same]; rfl
  have hheads : ∀ g ∈ hs, arOk ar g ∧ g ∈ U ∧ ∀ e, e < x.2 → Der R F e g := by
    intro g hg
    obtain ⟨r, hr, p, h1, rfl, h2⟩ := (hhs g).1 hg
    obtain ⟨u1, u2⟩ := usesR_sound hokM (hR r hr).1.body hgx h1
    refine ⟨head_ok har (hR r hr).1 (hR r hr).2 (fun a ha => (hokM _ (u2 a ha)).1), hU r hr u1 p (fun a ha => ⟨hinU _ (u2 a ha), (hokM _ (u2 a ha)).1⟩), fun e he => Der.rule hr u1 (fun a ha => ?_)⟩
    obtain ⟨t, ht⟩ := Option.isSome_iff_exists.1 (u2 a ha)
    exact hsoundM _ _ ht e (Int.lt_of_lt_of_le he (htop _ _ ht))
  have hmem : ∀ y, y ∈ q ++ hs.map (fun g => (g, x.2)) → y ∈ q ∨ (y.1 ∈ hs ∧ y.2 = x.2) := by
    intro y hy
    rcases List.mem_append.1 hy with hy | hy
    · exact .inl hy
    · obtain ⟨g, hg, rfl⟩ := List.mem_map.1 hy
      exact .inr ⟨hg, rfl⟩
  refine ⟨?_, ?_, hokM, ?_, hsoundM, ?_, ?_, ?_, hkeys, ?_⟩
  · refine List.pairwise_append.2 ⟨(List.pairwise_append.1 h.sorted).1, ?_, fun a ha b hb => ?_⟩
    · rw [List.pairwise_map]
      exact List.pairwise_of_forall (fun _ _ => Int.le_refl _)
    · obtain ⟨g, hg, rfl⟩ := List.mem_map.1 hb
      exact hmax a ha
  · intro y hy g t hu
    rcases hmem y hy with hy | ⟨_, he⟩
    · exact Int.le_trans (hmax y hy) (htop g t hu)
    · rw [he]; exact htop g t hu
  · intro y hy
    rcases hmem y hy with hy | ⟨hy, _⟩
    · exact h.okQ y (by simp [hy])
    · exact ⟨(hheads _ hy).1, hUk _ (hheads _ hy).2.1⟩
  · intro y hy e he
    rcases hmem y hy with hy | ⟨hy, h2⟩
    · exact h.soundQ y (by simp [hy]) e he
    · rw [h2] at he; exact (hheads _ hy).2.2 e he
  · intro y hy
    rcases h.facts y hy with h1 | ⟨t, h1, h2⟩
    · rcases List.mem_append.1 h1 with h1 | h1
      · exact .inl (List.mem_append_left _ h1)
      · simp at h1; subst h1; exact .inr ⟨_, updM_same _ _ _, Int.le_refl _⟩
    · by_cases e : y.1 = x.1
      · rw [e, hx] at h1; cases h1
      · exact .inr ⟨t, by rw [updM_ne e]; exact h1, h2⟩
  · intro r hr h0 p e hb
    by_cases hin : ∃ a ∈ r.body, groundA p a = x.1
    · obtain ⟨a, ha, hax⟩ := hin
      have hall : ∀ a ∈ r.body, (updM M x.1 x.2 (groundA p a)).isSome = true := fun a ha => by
        obtain ⟨t, ht, _⟩ := hb a ha; rw [ht]; rfl
      have hex : e < x.2 := by
        obtain ⟨t, ht, hlt⟩ := hb a ha
        rw [hax, updM_same] at ht; cases ht; exact hlt
      obtain ⟨pq, hu, hext⟩ := usesR_complete hokM (hR r hr).1.body ha hall
      rw [hax] at hu
      obtain ⟨_, u2⟩ := usesR_sound hokM (hR r hr).1.body hgx hu
      have hsame := head_same (hR r hr).1 hext (fun a ha => (hokM _ (u2 a ha)).1)
      cases hM : updM M x.1 x.2 (groundA p r.head) with
      | some t => exact .inl ⟨t, rfl, Int.lt_of_lt_of_le hex (htop _ _ hM)⟩
      | none =>
        refine .inr ⟨(groundA p r.head, x.2), List.mem_append_right _ (List.mem_map.2 ⟨_, (hhs _).2 ⟨r, hr, pq, hu, hsame, hM⟩, rfl⟩), rfl, hex⟩
    · have hb' : ∀ a ∈ r.body, ∃ t, M (groundA p a) = some t ∧ e < t := fun a ha => by
        obtain ⟨t, ht, hlt⟩ := hb a ha
        rw [updM_ne (fun e => hin ⟨a, ha, e⟩)] at ht
        exact ⟨t, ht, hlt⟩
      rcases h.closed r hr h0 p e hb' with ⟨t, h1, h2⟩ | ⟨y, hy, h1, h2⟩
      · by_cases e' : groundA p r.head = x.1
        · rw [e', hx] at h1; cases h1
        · exact .inl ⟨t, by rw [updM_ne e']; exact h1, h2⟩
      · rcases List.mem_append.1 hy with hy | hy
        · exact .inr ⟨y, List.mem_append_left _ hy, h1, h2⟩
        · simp at hy; subst hy
          exact .inl ⟨_, by rw [← h1]; exact updM_same _ _ _, h2⟩
  · intro y hy
    rcases hmem y hy with hy | ⟨hy, _⟩
    · exact h.inU y (by simp [hy])
    · exact (hheads _ hy).2.1

/-- The least model, each atom with the greatest end up to which it follows. -/
structure LeastM (R : List Rl) (F : List (Gd × Int)) (M : Gd → Option Int) : Prop where
  sound : ∀ g t, M g = some t → ∀ e, e < t → Der R F e g
  complete : ∀ e g, Der R F e g → ∃ t, M g = some t ∧ e < t

theorem LsInv.done {ar : ByteArray → Nat} {R : List Rl} {F : List (Gd × Int)} {U : List Gd} {M : Gd → Option Int} (h : LsInv ar R F U M []) : LeastM R F M := by
  refine ⟨h.soundM, fun e g hd => ?_⟩
  refine hd (fun g => ∃ t, M g = some t ∧ e < t) (fun x hx he => ?_) (fun r hr h0 p hb => ?_)
  · rcases h.facts x hx with h1 | ⟨t, h1, h2⟩
    · cases h1
    · exact ⟨t, h1, by omega⟩
  · rcases h.closed r hr h0 p e hb with h1 | ⟨y, hy, _⟩
    · exact h1
    · cases hy

theorem LeastM.eq {R : List Rl} {F F' : List (Gd × Int)} {M M' : Gd → Option Int} (h : LeastM R F M) (h' : LeastM R F' M') (hD : ∀ e g, Der R F e g ↔ Der R F' e g) : M = M' := by
  funext g
  have key : ∀ {F F' : List (Gd × Int)} {M M' : Gd → Option Int}, LeastM R F M → LeastM R F' M' → (∀ e g, Der R F e g ↔ Der R F' e g) → ∀ t, M g = some t → ∃ t', M' g = some t' ∧ t ≤ t' := by
    intro F F' M M' h h' hD t ht
    obtain ⟨t', h1, h2⟩ := h'.complete (t - 1) g ((hD _ _).1 (h.sound g t ht (t - 1) (by omega)))
    exact ⟨t', h1, by omega⟩
  cases hm : M g with
  | none =>
    cases hm' : M' g with
    | none => rfl
    | some t' =>
      obtain ⟨t, h1, _⟩ := key h' h (fun e g => (hD e g).symm) t' hm'
      rw [hm] at h1; cases h1
  | some t =>
    obtain ⟨t', h1, h2⟩ := key h h' hD t hm
    obtain ⟨t'', h3, h4⟩ := key h' h (fun e g => (hD e g).symm) t' h1
    rw [hm] at h3; cases h3
    rw [h1]
    congr 1; omega

theorem nodup_le {α : Type} : ∀ (ks U : List α), ks.Nodup → (∀ g ∈ ks, g ∈ U) → ks.length ≤ U.length
  | [], U, _, _ => Nat.zero_le _
  | k :: ks, U, h, hs => by
    obtain ⟨A, B, rfl⟩ := List.append_of_mem (hs k (by simp))
    have := nodup_le ks (A ++ B) (List.nodup_cons.1 h).2 (fun g hg => by
      have h1 := hs g (by simp [hg])
      have hne : g ≠ k := fun e => (List.nodup_cons.1 h).1 (e ▸ hg)
      simp only [List.mem_append, List.mem_cons] at h1 ⊢
      rcases h1 with h1 | h1 | h1
      · exact .inl h1
      · exact absurd h1 hne
      · exact .inr h1)
    simp at this ⊢
    omega

/-- All ground atoms of some relations over some names. -/
def uni (rels NS : List ByteArray) : List Gd := rels.flatMap fun r => NS.flatMap fun x => (eB :: NS).map fun y => ⟨r, x, y⟩
theorem mem_uni {rels NS : List ByteArray} {g : Gd} : g ∈ uni rels NS ↔ g.rel ∈ rels ∧ g.x ∈ NS ∧ (g.y = eB ∨ g.y ∈ NS) := by
  unfold uni
  simp only [List.mem_flatMap, List.mem_map, List.mem_cons]
  constructor
  · rintro ⟨r, hr, x, hx, y, hy, rfl⟩; exact ⟨hr, hx, hy⟩
  · rintro ⟨h1, h2, h3⟩; exact ⟨_, h1, _, h2, _, h3, rfl⟩
theorem flat_lenU {α β : Type} (f : α → List β) (k : Nat) : ∀ l : List α, (∀ a ∈ l, (f a).length = k) → (l.flatMap f).length = l.length * k
  | [], _ => by simp
  | a :: l, h => by
    rw [List.flatMap_cons, List.length_append, h a (by simp), flat_lenU f k l (fun b hb => h b (by simp [hb])), List.length_cons, Nat.add_mul, Nat.one_mul, Nat.add_comm]
theorem uni_len (rels NS : List ByteArray) : (uni rels NS).length = rels.length * (NS.length * (NS.length + 1)) := by
  unfold uni
  refine flat_lenU _ _ _ (fun r _ => flat_lenU _ _ _ (fun x _ => by simp))
theorem uni_closed {ar : ByteArray → Nat} {rels NS : List ByteArray} {R : List Rl} (hR : ∀ r ∈ R, RlOk ar r ∧ r.head.args ≠ []) (hrel : ∀ r ∈ R, r.head.rel ∈ rels) (hnm : ∀ r ∈ R, ∀ t ∈ r.head.args, t.name ≠ eB → t.name ∈ NS) :
    ∀ r ∈ R, r.body ≠ [] → ∀ p : Nms, (∀ a ∈ r.body, groundA p a ∈ uni rels NS ∧ arOk ar (groundA p a)) → groundA p r.head ∈ uni rels NS := by
  intro r hr _ p hb
  have harg : ∀ t ∈ r.head.args, ofT p t ∈ NS := by
    intro t ht
    obtain ⟨h1, ⟨h2, h3⟩ | ⟨a, ha, h2⟩⟩ := head_arg (hR r hr).1 (fun a ha => (hb a ha).2) ht
    · rw [h3]; exact hnm r hr t ht h2
    · obtain ⟨k1, k2, k3⟩ := mem_uni.1 (hb a ha).1
      rcases h2 with h2 | h2
      · rw [h2]; exact k2
      · rcases k3 with k3 | k3
        · rw [h2, k3] at h1; exact absurd rfl h1
        · rw [h2]; exact k3
  rw [mem_uni]
  refine ⟨hrel r hr, ?_, ?_⟩
  · show xOf p r.head.args ∈ NS
    have h0 := (hR r hr).2
    revert harg h0
    cases r.head.args with
    | nil => intro _ h; exact absurd rfl h
    | cons t l => intro h _; exact h t (by simp)
  · show yOf p r.head.args = eB ∨ yOf p r.head.args ∈ NS
    revert harg
    cases r.head.args with
    | nil => intro _; exact .inl rfl
    | cons t l =>
      intro h
      cases l with
      | nil => exact .inl rfl
      | cons u l => exact .inr (h u (by simp))
theorem uni_ok {rels NS : List ByteArray} (h1 : ∀ r ∈ rels, r.size ≤ maxLen) (h2 : ∀ x ∈ NS, x.size ≤ maxLen) : ∀ g ∈ uni rels NS, GdOk g := by
  intro g hg
  obtain ⟨k1, k2, k3⟩ := mem_uni.1 hg
  refine ⟨h1 _ k1, h2 _ k2, ?_⟩
  rcases k3 with k3 | k3
  · rw [k3]; exact Nat.zero_le _
  · exact h2 _ k3

/-- Facts that have ended before a time do not matter beyond it. -/
theorem Der.later {R : List Rl} {F F' : List (Gd × Int)} {e : Int} (h : ∀ x, e < x.2 → (x ∈ F ↔ x ∈ F')) (g : Gd) : Der R F e g ↔ Der R F' e g :=
  ⟨fun hd S h1 h2 => hd S (fun x hx he => h1 x ((h x he).1 hx) he) h2, fun hd S h1 h2 => hd S (fun x hx he => h1 x ((h x he).2 hx) he) h2⟩
/-- An end is that of a fact. -/
theorem LeastM.end_mem {R : List Rl} {F : List (Gd × Int)} {M : Gd → Option Int} (h : LeastM R F M) {g : Gd} {t : Int} (hg : M g = some t) : ∃ x ∈ F, x.2 = t := by
  refine Classical.byContradiction fun hn => ?_
  have hd : Der R F t g := (Der.later (R := R) (F := F) (F' := F) (e := t) (fun x _ => Iff.rfl) g).1 (fun S h1 h2 => h.sound g t hg (t - 1) (by omega) S (fun x hx hl => h1 x hx (by
    have : x.2 ≠ t := fun e => hn ⟨x, hx, e⟩
    omega)) h2)
  obtain ⟨t', h1, h2⟩ := h.complete t g hd
  rw [hg] at h1; cases h1; omega

end Go.Proofs.YtjajnhemgphefaaGreatDoor

namespace Go.Proofs.YtjajnhemgphefaaGreatDoor
open Go.RowKit Go.Shelf Go.Maps
set_option linter.unusedVariables false
set_option linter.unusedSimpArgs false
attribute [local go_sem] Oper.semAt_some

theorem follow_any (B : Nat) (v : Value) (g : Gd) (w : World) (ta : Option Addr) (tn tc : Nat) (hva : v = .slice ta tn tc) :
    Calls Tryz.prog 138 #[.map (some B), v, g.v] w fun e w' => e = .returned (.func (.func 189) #[] #[.pointer (some ⟨w.heap.size + 1, 0, none⟩), .pointer (some ⟨w.heap.size, 0, none⟩), .pointer (some ⟨w.heap.size + 2, 0, none⟩)]) ∧
      w' = ((w.alloc (.cells #[.map (some B)] 98)).alloc (.cells #[v] 75)).alloc (.cells g.c 111) := by
  subst hva
  unfold Gd.v Gd.c
  go_enter Tryz.func138, Tryz.ntmps138
  go_wp2
  go_ret
  exact ⟨rfl, rfl⟩

/-- As followR, of the first rules alone. -/
def followK (R : List Rl) (M : Gd → Option Int) (g : Gd) (k : Nat) (h : Gd) : Prop := ∃ i, ∃ hi : i < R.length, i < k ∧ ∃ p, usesR M (R[i]).body g p ∧ h = groundA p (R[i]).head ∧ M h = none
theorem followK_all (R : List Rl) (M : Gd → Option Int) (g h : Gd) : followK R M g R.length h ↔ followR R M g h := by
  constructor
  · rintro ⟨i, hi, _, p, h1⟩; exact ⟨_, List.getElem_mem hi, p, h1⟩
  · rintro ⟨r, hr, p, h1⟩
    obtain ⟨i, hi, rfl⟩ := List.getElem_of_mem hr
    exact ⟨i, hi, hi, p, h1⟩
theorem followK_succ {R : List Rl} {M : Gd → Option Int} {g h : Gd} {k : Nat} (hk : k < R.length) : followK R M g (k + 1) h ↔ followK R M g k h ∨ ∃ p, usesR M (R[k]).body g p ∧ h = groundA p (R[k]).head ∧ M h = none := by
  constructor
  · rintro ⟨i, hi, h1, h2⟩
    by_cases e : i = k
    · subst e; exact .inr h2
    · exact .inl ⟨i, hi, by omega, h2⟩
  · rintro (⟨i, hi, h1, h2⟩ | h2)
    · exact ⟨i, hi, by omega, h2⟩
    · exact ⟨k, hk, by omega, h2⟩

/-- The boxes that the iterator of follow has captured. -/
structure FoSt (Bl Bm Bg B nn rb b45 b87 : Nat) (M : Gd → Option Int) (v : Value) (R : List Rl) (g : Gd) (W : World) : Prop where
  bl : W.heap[Bl]? = some (Obj.cells #[v] 75 (0, 0))
  bm : W.heap[Bm]? = some (Obj.cells #[.map (some B)] 98 (0, 0))
  bg : W.heap[Bg]? = some (Obj.cells g.c 111 (0, 0))
  rules : RulesAt W rb b45 b87 v R
  md : MdAt W B nn M
theorem FoSt.mk' {m Bl Bm Bg B nn rb b45 b87 : Nat} {M : Gd → Option Int} {v : Value} {R : List Rl} {g : Gd} {W W' : World} (h : FoSt Bl Bm Bg B nn rb b45 b87 M v R g W) (hk : MKept m W W') : FoSt Bl Bm Bg B nn rb b45 b87 M v R g W' :=
  ⟨hk.cells _ _ _ (by unfold MFix; decide) h.bl, hk.cells _ _ _ (by unfold MFix; decide) h.bm, hk.cells _ _ _ (by unfold MFix; decide) h.bg, h.rules.keep (fun k c t ht hc => hk.cells k c t (by rcases ht with rfl | rfl | rfl <;> (unfold MFix; decide)) hc), h.md.mk hk⟩

/-- A rule that may be used. -/
structure UseOk (r : Rl) : Prop where
  body : BodyOk r.body
  few : r.body.length ≤ 3
  args : r.head.args.length ≤ 2
  nums : ∀ t ∈ r.head.args, t.num < 6
  rel : r.head.rel.size ≤ maxLen
  names : ∀ t ∈ r.head.args, t.name.size ≤ maxLen

def foN (nn : Nat) : Nat := 3 * (nn + 1) ^ 2
theorem uses_le {L : List Am} (h3 : L.length ≤ 3) (nn : Nat) : L.length * nn ^ (L.length - 1) ≤ foN nn := by
  unfold foN
  have hc : L.length = 0 ∨ L.length = 1 ∨ L.length = 2 ∨ L.length = 3 := by omega
  rcases hc with h | h | h | h <;> rw [h]
  · simp
  · have : 0 < (nn + 1) ^ 2 := Nat.pow_pos (by omega)
    simp; omega
  · have : nn ≤ (nn + 1) ^ 2 := by rw [Nat.pow_two]; have := Nat.mul_le_mul (show 1 ≤ nn + 1 by omega) (show nn ≤ nn + 1 by omega); omega
    simp; omega
  · have : nn ^ 2 ≤ (nn + 1) ^ 2 := Nat.pow_le_pow_left (by omega) 2
    simp; omega

set_option maxRecDepth 100000 in
set_option maxHeartbeats 16000000 in
theorem follow_seq (n0 Bl Bm Bg B nn rb b45 b87 : Nat) (M : Gd → Option Int) (v : Value) (R : List Rl) (g : Gd) (w : World) (hst : FoSt Bl Bm Bg B nn rb b45 b87 M v R g w) (hok : ∀ r ∈ R, UseOk r) (h8 : R.length ≤ 8) (hg : GdOk g) (m : Nat) :
    SeqM m n0 189 #[.pointer (some ⟨Bl, 0, none⟩), .pointer (some ⟨Bm, 0, none⟩), .pointer (some ⟨Bg, 0, none⟩)] (fun x : GdX => #[x.1.v]) (MKept m)
      (fun hs => (∀ h, h ∈ hs.map (·.1) ↔ followR R M g h) ∧ hs.length ≤ R.length * foN nn) (fun _ => True) (R.length * foN nn) w := by
  obtain ⟨n, hn⟩ : ∃ n, 12 ≤ n := ⟨12, Nat.le_refl _⟩
  refine SeqM.any (n := n) ?_ n0
  have n1 : 1 ≤ n := by omega
  have n2 : 1 ≤ n - 1 := by omega
  have n3 : 1 ≤ n - 1 - 1 := by omega
  intro l J Jx W hW hsz hJ hJx hY h0
  have hst' := hst.mk' (MKept.ofBelow (m := m) hW)
  clear hst hW
  obtain ⟨va, vc, hv⟩ := hst'.rules.form
  subst hv
  have HST : Hid _ := hst'
  have HY : Hid _ := hY
  have HJ : Hid (OwnFrom W.heap.size J) := hJ
  have HJx : Hid (OwnFrom W.heap.size Jx) := hJx
  have H0 : Hid _ := h0
  have hal : ∀ O, Below W.heap.size W (W.alloc O) := fun O => (Below.refl _ W).alloc (Nat.le_refl _) O
  have e1 : ∀ O, (W.alloc O).cell? ⟨Bl, 0, none⟩ = some (.slice va R.length vc) := fun O => cell_later (hal O) (by have := hst'.bl; simp [World.cell?, this])
  clear hY hJ hJx h0 hst' hal
  refine callsIn_of_wp_marks Tryz.func189 rfl trivial ?_ rfl
  simp only [Tryz.ntmps189, List.size_toArray, List.length_cons, List.length_nil, Nat.reduceAdd, Nat.reduceSub, Array.replicate_succ, Array.replicate_zero, List.push_toArray, List.append_toArray, List.nil_append, List.cons_append]
  gi_wp2
  obtain ⟨N, hN⟩ : ∃ N, W.heap.size = N := ⟨_, rfl⟩
  obtain ⟨W1, hW1⟩ : ∃ W1, W.alloc (.cells #[.func (.yield l) #[] #[]] 181) = W1 := ⟨_, rfl⟩
  have hb1 : Below W.heap.size W W1 := by rw [← hW1]; exact (Below.refl _ W).alloc (Nat.le_refl _) _
  have hs1 : W1.heap.size = N + 1 := by rw [← hW1, ← hN]; simp
  have bY : W1.heap[N]? = some (Obj.cells #[.func (.yield l) #[] #[]] 181 (0, 0)) := by rw [← hW1, ← hN]; exact World.alloc_heap_new W _
  have hst1 := (HST.out).mk' (MKept.ofBelow (m := m) hb1)
  have hJ1 : J [] W1 := HJ.out _ _ _ none H0.out (below_grownBy hb1) (fun r e => by cases e)
  have hmN : m ≤ N := by omega
  rw [hN] at HJ HJx
  simp only [hN]
  rw [hW1]
  clear hW1 e1 HST H0 hb1 hN hsz
  have HST : Hid _ := hst1
  have HYB : Hid _ := bY
  clear hst1 bY
  refine wpIn_loop (fun A V => ∃ (k : Nat) (ds : List Nat) (ys : List GdX) (u6 u12 u13 u14 u15 u16 u17 u18 u34 : Value), A = { tmps := #[.func (.yield l) #[] #[], .pointer (some ⟨Bl, 0, none⟩), .pointer (some ⟨Bm, 0, none⟩), .pointer (some ⟨Bg, 0, none⟩), .pointer (some ⟨N, 0, none⟩), undef, u6, undef, undef, .slice va R.length vc, .int .i64 R.length, .int .i64 k, u12, u13, u14, u15, u16, u17, u18, undef, undef, undef, undef, undef, undef, undef, undef, undef, undef, undef, undef, undef, undef, undef, u34], defers := marks ds } ∧ k ≤ R.length ∧ J ys V ∧ Shut (N + 1) ds V ∧ MKept m W1 V ∧ Hid ((∀ h, h ∈ ys.map (·.1) ↔ followK R M g k h) ∧ ys.length ≤ k * foN nn)) (fun A _ => R.length - (intOf (A.tmps.getD 11 undef)).toNat) ⟨0, [], [], _, _, _, _, _, _, _, _, _, rfl, Nat.zero_le _, hJ1, Shut.nil _ _, MKept.ofBelow (Below.refl _ _), ⟨fun h => by simp [followK], by simp⟩⟩ ?_
  rintro A V ⟨k, ds, ys, u6, u12, u13, u14, u15, u16, u17, u18, u34, rfl, hk, hJk, hSh, hMk, hspec⟩
  clear hJ1
  have hstV := (HST.out).mk' hMk
  by_cases hlt : k < R.length
  · obtain ⟨gb, c, v0, vb, e0, x0, x1, x2, hv1, hv2⟩ := rules_cell hstV.rules hlt
    cases e0
    obtain ⟨fa, fc, hf0⟩ := hv1.form
    obtain ⟨ga, gc, hfb⟩ := SealA.form hv2
    subst hf0 hfb
    have hrk := hok _ (List.getElem_mem hlt)
    have hsucc := fun h => followK_succ (M := M) (g := g) (h := h) hlt
    generalize hxk : R[k] = rk at *
    have hal : ∀ O, Below V.heap.size V (V.alloc O) := fun O => (Below.refl _ V).alloc (Nat.le_refl _) O
    have hbg := hstV.bg
    unfold Gd.c at hbg
    have z0 : ∀ O, (V.alloc O).cell? ⟨Bg, 0, none⟩ = some (.string g.rel) := fun O => cell_later (hal O) (by simp [World.cell?, hbg])
    have z1 : ∀ O, (V.alloc O).cell? ⟨Bg, 1, none⟩ = some (.string g.x) := fun O => cell_later (hal O) (by simp [World.cell?, hbg])
    have z2 : ∀ O, (V.alloc O).cell? ⟨Bg, 2, none⟩ = some (.string g.y) := fun O => cell_later (hal O) (by simp [World.cell?, hbg])
    have zm : ∀ O, (V.alloc O).cell? ⟨Bm, 0, none⟩ = some (.map (some B)) := fun O => cell_later (hal O) (by have := hstV.bm; simp [World.cell?, this])
    have hus : Hid (∀ W, Calls Tryz.prog 190 #[.map (some B), .agg #[.string rk.head.rel, .slice fa rk.head.args.length fc, .slice ga rk.body.length gc], .agg #[.string g.rel, .string g.x, .string g.y]] W fun e w' => e = .returned (.func (.func 229) #[] #[.pointer (some ⟨W.heap.size + 1, 0, none⟩), .pointer (some ⟨W.heap.size + 2, 0, none⟩), .pointer (some ⟨W.heap.size, 0, none⟩)]) ∧
      w' = ((W.alloc (.cells #[.map (some B)] 98)).alloc (.cells #[.string rk.head.rel, .slice fa rk.head.args.length fc, .slice ga rk.body.length gc] 136)).alloc (.cells #[.string g.rel, .string g.x, .string g.y] 111)) := fun W => uses_any B _ _ _ g W _ _ _ rfl _ _ _ rfl
    have HSV : Hid _ := hstV
    have HV1 : Hid _ := hv1
    have HV2 : Hid _ := hv2
    have HSU : Hid _ := hsucc
    have HRK : Hid _ := hrk
    clear hal hbg hstV hv1 hv2 hsucc hrk hxk
    gi_wp2_with (refine ⟨trivial, ?_⟩; gi_at_call 190; refine (callsIn_wide.2 (hus.out _)).mono ?_; rintro e w' ⟨rfl, rfl⟩)
    obtain ⟨VN, hVN⟩ : ∃ VN, V.heap.size = VN := ⟨_, rfl⟩
    obtain ⟨W5, hW5⟩ : ∃ W5, (((V.alloc (.cells #[.string rk.head.rel, .slice fa rk.head.args.length fc, .slice ga rk.body.length gc] 136)).alloc (.cells #[.map (some B)] 98)).alloc (.cells #[.string rk.head.rel, .slice fa rk.head.args.length fc, .slice ga rk.body.length gc] 136)).alloc (.cells #[.string g.rel, .string g.x, .string g.y] 111) = W5 := ⟨_, rfl⟩
    have hb5 : Below V.heap.size V W5 := by rw [← hW5]; exact ((((Below.refl _ V).alloc (Nat.le_refl _) _).alloc (by simp) _).alloc (by simp; omega) _).alloc (by simp; omega) _
    have hs5 : W5.heap.size = VN + 4 := by rw [← hW5, ← hVN]; simp
    have eR : W5.heap[VN]? = some (Obj.cells #[.string rk.head.rel, .slice fa rk.head.args.length fc, .slice ga rk.body.length gc] 136 (0, 0)) := by
      rw [← hW5, ← hVN]
      exact (Below.heap_alloc _ _ _ (by simp; omega)).trans ((Below.heap_alloc _ _ _ (by simp; omega)).trans ((Below.heap_alloc _ _ _ (by simp)).trans (World.alloc_heap_new V _)))
    have eM : W5.heap[VN + 1]? = some (Obj.cells #[.map (some B)] 98 (0, 0)) := by
      rw [← hW5, ← hVN]
      refine (Below.heap_alloc _ _ _ (by simp)).trans ((Below.heap_alloc _ _ _ (by simp)).trans ?_)
      have := World.alloc_heap_new (V.alloc (.cells #[.string rk.head.rel, .slice fa rk.head.args.length fc, .slice ga rk.body.length gc] 136)) (.cells #[.map (some B)] 98)
      rw [World.size_alloc] at this; exact this
    have eS : W5.heap[VN + 1 + 1]? = some (Obj.cells #[.string rk.head.rel, .slice fa rk.head.args.length fc, .slice ga rk.body.length gc] 136 (0, 0)) := by
      rw [← hW5, ← hVN]
      refine (Below.heap_alloc _ _ _ (by simp)).trans ?_
      have := World.alloc_heap_new ((V.alloc (.cells #[.string rk.head.rel, .slice fa rk.head.args.length fc, .slice ga rk.body.length gc] 136)).alloc (.cells #[.map (some B)] 98)) (.cells #[.string rk.head.rel, .slice fa rk.head.args.length fc, .slice ga rk.body.length gc] 136)
      rw [World.size_alloc, World.size_alloc] at this; exact this
    have eG : W5.heap[VN + 1 + 2]? = some (Obj.cells g.c 111 (0, 0)) := by
      rw [← hW5, ← hVN]
      have := World.alloc_heap_new (((V.alloc (.cells #[.string rk.head.rel, .slice fa rk.head.args.length fc, .slice ga rk.body.length gc] 136)).alloc (.cells #[.map (some B)] 98)).alloc (.cells #[.string rk.head.rel, .slice fa rk.head.args.length fc, .slice ga rk.body.length gc] 136)) (.cells #[.string g.rel, .string g.x, .string g.y] 111)
      rw [World.size_alloc, World.size_alloc, World.size_alloc] at this; exact this
    have hk5 : ∀ m', MKept m' V W5 := fun m' => MKept.ofBelow hb5
    have hst5 := (HSV.out).mk' (hk5 m)
    have ust : UsSt (VN + 1) (VN + 1 + 1) (VN + 1 + 2) B nn b45 b87 M rk.head.rel (.slice fa rk.head.args.length fc) (.slice ga rk.body.length gc) rk.body g W5 := ⟨eM, eS, eG, SealA.kept HV2.out (fun k c _ hc => (hk5 0).cells k c _ (by unfold MFix; decide) hc) (fun k c _ hc => (hk5 0).cells k c _ (by unfold MFix; decide) hc), hst5.md⟩
    have hV15 : SealT W5 b87 (.slice fa rk.head.args.length fc) rk.head.args := SealT.mk HV1.out (hk5 0)
    have hJ5 : J (ys ++ []) W5 := by rw [List.append_nil]; exact HJ.out _ _ _ none hJk (below_grownBy hb5) (fun r e => by cases e)
    have ih := uses_seq (n - 1) (VN + 1) (VN + 1 + 1) (VN + 1 + 2) B nn b45 b87 M rk.head.rel (.slice fa rk.head.args.length fc) (.slice ga rk.body.length gc) rk.body g W5 ust HRK.out.body HRK.out.few hg (W5.heap.size + 2)
    have hMk5 : MKept m W1 W5 := hMk.tr (MKept.ofBelow hb5)
    have hSh5 : Shut (N + 1) ds W5 := hSh.below hb5
    have hdsl : ∀ d ∈ ds, d < W5.heap.size := hSh5.lt
    have hN5 : N + 1 ≤ W5.heap.size := by have := hMk5.from'.size; omega
    have hus3 := uses_le HRK.out.few nn
    simp only [hVN]
    rw [hW5]
    clear hW5 hus z0 z1 z2 zm x0 x1 x2
    refine range_outM (n := n) (gf := 229) (lb := #[.pointer (some ⟨VN + 1 + 1, 0, none⟩), .pointer (some ⟨VN + 1 + 2, 0, none⟩), .pointer (some ⟨VN + 1, 0, none⟩)]) rfl (enters_of Tryz.func229 (by kernel_rfl) rfl)
      ih MKept.tr (fun V' rc' o' ho => MKept.put V' _ _ o' (by omega) ho rfl (fun _ _ h => by cases h)) (fun _ => rfl)
      (fun pre V2 => ∃ hs2 : List GdX, J (ys ++ hs2) V2 ∧ hs2.map (·.1) = (pre.map (fun p => groundA p.1 rk.head)).filter (fun h => (M h).isNone) ∧ MKept m W1 V2 ∧ Shut (N + 1) ds V2 ∧ MKept (W5.heap.size + 2) W5 V2)
      (fun c pre V2 => c = .ret ∧ (∃ zs, Jx zs V2) ∧ Shut (N + 1) ds V2)
      ?hI2 ?hIx2 ⟨[], hJ5, rfl, hMk5, hSh5, MKept.ofBelow (Below.refl _ _)⟩
      (fun x a' V2 => ∃ Bx, V2.heap[Bx]? = some (Obj.cells x.1.c 176 (0, 0)) ∧ a' = { tmps := #[.func (.yield l) #[] #[], .pointer (some ⟨Bl, 0, none⟩), .pointer (some ⟨Bm, 0, none⟩), .pointer (some ⟨Bg, 0, none⟩), .pointer (some ⟨N, 0, none⟩), undef, .pointer (some ⟨VN, 0, none⟩), .pointer (some ⟨Bx, 0, none⟩), undef, .slice (some ⟨gb, 0, none⟩) R.length vc, .int .i64 R.length, .int .i64 k, .bool true, .pointer (some ⟨gb, k * 3, none⟩), .agg #[.string rk.head.rel, .slice fa rk.head.args.length fc, .slice ga rk.body.length gc], .map (some B), .agg #[.string rk.head.rel, .slice fa rk.head.args.length fc, .slice ga rk.body.length gc], .agg #[.string g.rel, .string g.x, .string g.y], .func (.func 229) #[] #[.pointer (some ⟨VN + 1 + 1, 0, none⟩), .pointer (some ⟨VN + 1 + 2, 0, none⟩), .pointer (some ⟨VN + 1, 0, none⟩)], .agg #[.string x.1.a0, .string x.1.a1, .string x.1.a2, .string x.1.a3, .string x.1.a4, .string x.1.a5], undef, undef, undef, undef, undef, undef, undef, undef, undef, undef, undef, undef, undef, undef, u34], defers := [] })
      ?hAx2 ?assign2 ?body2 ?done2 ?stop2
    case hI2 =>
      rintro pre2 X X' row ⟨hs2, j1, j0, j2, j3, j4⟩ hg hr
      exact ⟨hs2, HJ.out _ _ _ row j1 hg (fun r e => ⟨by have := (hr r e).1; omega, (hr r e).2⟩), j0, j2.own hg (fun r e => by have := (hr r e).1; omega), j3.grown hg (fun r e => (hr r e).1) hdsl, j4.own hg (fun r e => (hr r e).1)⟩
    case hIx2 =>
      rintro c pre2 X X' row ⟨rfl, ⟨zs, j1⟩, j3⟩ hg hr
      exact ⟨rfl, ⟨zs, HJx.out _ _ _ row j1 hg (fun r e => ⟨by have := (hr r e).1; omega, (hr r e).2⟩)⟩, j3.grown hg (fun r e => (hr r e).1) hdsl⟩
    case hAx2 =>
      rintro x2 a' _ X X' row ⟨Bx, q2, q3⟩ hg hr
      exact ⟨Bx, kept_of_grown hg (fun r e => (hr r e).2) _ _ _ _ q2, q3⟩
    case assign2 =>
      rintro l2 pre2 x2 X K hl2 hlr2 ⟨hs2, j1, j0, j2, j3, j4⟩ hK
      have HK : Hid _ := hK
      clear hK
      unfold Nms.v Nms.c
      gi_wp2
      have hbl : Below X.heap.size X (X.alloc (.cells #[.string x2.1.a0, .string x2.1.a1, .string x2.1.a2, .string x2.1.a3, .string x2.1.a4, .string x2.1.a5] 176)) := (Below.refl _ X).alloc (Nat.le_refl _) _
      exact HK.out _ _ (KeepsFrom.ofBelow hbl) (MKept.ofBelow hbl) ⟨hs2, HJ.out _ _ _ none j1 (below_grownBy hbl) (fun r e => by cases e), j0, j2.tr (MKept.ofBelow hbl), j3.below hbl, j4.tr (MKept.ofBelow hbl)⟩ ⟨X.heap.size, World.alloc_heap_new X _, rfl⟩
    case done2 =>
      rintro D xs X hD ⟨s1, s2⟩ ⟨hs2, j1, j0, j2, j3, j4⟩ hK
      have hsp : Hid ((∀ h, h ∈ (ys ++ hs2).map (·.1) ↔ followK R M g (k + 1) h) ∧ (ys ++ hs2).length ≤ (k + 1) * foN nn) := by
        refine ⟨fun h => ?_, ?_⟩
        · rw [List.map_append, List.mem_append, hspec.out.1, HSU.out, j0, List.mem_filter, List.mem_map]
          constructor
          · rintro (h1 | ⟨⟨p, hp, rfl⟩, h2⟩)
            · exact .inl h1
            · exact .inr ⟨p.1, (s1 p.1).1 (List.mem_map.2 ⟨p, hp, rfl⟩), rfl, by simpa using h2⟩
          · rintro (h1 | ⟨p, h1, rfl, h2⟩)
            · exact .inl h1
            · obtain ⟨q, hq, rfl⟩ := List.mem_map.1 ((s1 p).2 h1)
              exact .inr ⟨⟨q, hq, rfl⟩, by simpa using h2⟩
        · have e1 := congrArg List.length j0
          rw [List.length_map] at e1
          have e2 := List.length_filter_le (fun h => (M h).isNone) (xs.map (fun p => groundA p.1 rk.head))
          rw [List.length_map] at e2
          have e3 := hspec.out.2
          rw [List.length_append, Nat.add_mul, Nat.one_mul]
          omega
      have hDn : D ∉ ds := fun h => by have := hdsl D h; omega
      have HSC : Hid _ := j3.cons (D := D) (by omega) hK hDn
      clear hspec s1 s2 j0
      gi_wp2
      refine ⟨⟨k + 1, D :: ds, ys ++ hs2, _, _, _, _, _, _, _, _, _, rfl, by omega, j1, HSC.out, j2, hsp.out⟩, ?_⟩
      simp [intOf]; omega
    case stop2 =>
      rintro D c pre X hD _ ⟨rfl, hz, j3⟩ hK
      have hDn : D ∉ ds := fun h => by have := hdsl D h; omega
      have HSC : Hid _ := j3.cons (D := D) (by omega) hK hDn
      have HZ : Hid _ := hz
      clear hspec hz
      gi_wp2
      show LeavesInM Fence.wide n Tryz.prog _ _ _ (marks (D :: ds)) .returning X
      refine leaves_own (X := fun V => ∃ zs, Jx zs V) (B := N) (fun _ A B row hs hg hr => by obtain ⟨zs, hz⟩ := hs; exact ⟨zs, HJx.out zs A B row hz hg hr⟩) (D :: ds) X HSC.out.nodup (fun D' hD' => ⟨by have := (HSC.out.at' D' hD').1; omega, (HSC.out.at' D' hD').2⟩) HZ.out (fun W' hx => ?_)
      obtain ⟨zs, hz⟩ := hx
      exact ⟨_, results_none rfl _ _ _, ⟨_, rfl⟩, .inr ⟨zs, trivial, hz⟩⟩
    case body2 =>
      rintro l2 pre2 x a' X hl2 ⟨rc2, hrc2⟩ ⟨hs2, j1, j0, j2, j3, j4⟩ ⟨Bx, hbx, rfl⟩ hlt2
      have hxR := j4.cells _ _ _ (by unfold MFix; decide) eR
      have hxM := (HST.out.mk' j2).bm
      have hmdX := (HST.out.mk' j2).md
      have hyb := j2.cells _ _ _ (by unfold MFix; decide) HYB.out
      have hSX : SealT X b87 (.slice fa rk.head.args.length fc) rk.head.args := SealT.mk hV15 j4
      have cR0 : X.cell? ⟨VN, 0, none⟩ = some (.string rk.head.rel) := by simp [World.cell?, hxR]
      have cR1 : X.cell? ⟨VN, 1, none⟩ = some (.slice fa rk.head.args.length fc) := by simp [World.cell?, hxR]
      have hbx' := hbx
      unfold Nms.c at hbx'
      have q0 : X.cell? ⟨Bx, 0, none⟩ = some (.string x.1.a0) := by simp [World.cell?, hbx']
      have q1 : X.cell? ⟨Bx, 1, none⟩ = some (.string x.1.a1) := by simp [World.cell?, hbx']
      have q2 : X.cell? ⟨Bx, 2, none⟩ = some (.string x.1.a2) := by simp [World.cell?, hbx']
      have q3 : X.cell? ⟨Bx, 3, none⟩ = some (.string x.1.a3) := by simp [World.cell?, hbx']
      have q4 : X.cell? ⟨Bx, 4, none⟩ = some (.string x.1.a4) := by simp [World.cell?, hbx']
      have q5 : X.cell? ⟨Bx, 5, none⟩ = some (.string x.1.a5) := by simp [World.cell?, hbx']
      have hgok : GdOk (groundA x.1 rk.head) := ground_ok x.2 HRK.out.rel HRK.out.names
      have hgr : Hid (Calls Tryz.prog 89 #[.agg #[.string x.1.a0, .string x.1.a1, .string x.1.a2, .string x.1.a3, .string x.1.a4, .string x.1.a5], .agg #[.string rk.head.rel, .slice fa rk.head.args.length fc]] X fun e w' => e = .returned (.agg #[.string (groundA x.1 rk.head).rel, .string (groundA x.1 rk.head).x, .string (groundA x.1 rk.head).y]) ∧ Below X.heap.size X w') := ground_any x.1 rk.head _ b87 X hSX HRK.out.args HRK.out.nums
      have hbb : Hid (∀ (X1 : World) (O : Obj), Below X.heap.size X X1 → Below X.heap.size X (X1.alloc O)) := fun X1 O hb => hb.alloc hb.size O
      have hcm : Hid (∀ X1 O, Below X.heap.size X X1 → (X1.alloc O).cell? ⟨Bm, 0, none⟩ = some (.map (some B))) := fun X1 O hb => cell_later (hbb.out X1 O hb) (by simp [World.cell?, hxM])
      have hhas : Hid (∀ X1 O, Below X.heap.size X X1 → Calls Tryz.prog 136 #[.map (some B), .agg #[.string (groundA x.1 rk.head).rel, .string (groundA x.1 rk.head).x, .string (groundA x.1 rk.head).y]] (X1.alloc O) fun e w' => e = .returned (.bool (M (groundA x.1 rk.head)).isSome) ∧ Below (X1.alloc O).heap.size (X1.alloc O) w') := fun X1 O hb => has_any B nn M (groundA x.1 rk.head) hgok (X1.alloc O) (hmdX.mk (MKept.ofBelow (m := m) (hbb.out X1 O hb)))
      have hlen2 : (ys ++ hs2).length < R.length * foN nn := by
        have e1 := congrArg List.length j0
        rw [List.length_map] at e1
        have e2 := List.length_filter_le (fun h => (M h).isNone) (pre2.map (fun p => groundA p.1 rk.head))
        rw [List.length_map] at e2
        have e3 := hspec.out.2
        have e4 : (k + 1) * foN nn ≤ R.length * foN nn := Nat.mul_le_mul_right _ (by omega)
        rw [Nat.add_mul, Nat.one_mul] at e4
        rw [List.length_append]
        omega
      have hyl : Hid (∀ X3, Below X.heap.size X X3 → YieldAt Fence.wide (n - 1) Tryz.prog l #[.agg #[.string (groundA x.1 rk.head).rel, .string (groundA x.1 rk.head).x, .string (groundA x.1 rk.head).y]] X3 fun e W' => ∃ b : Bool, e = .returned (.bool b) ∧ ((b = true ∧ J ((ys ++ hs2) ++ [gdX (groundA x.1 rk.head) hgok]) W' ∧ MKept m X W') ∨ (b = false ∧ Jx ((ys ++ hs2) ++ [gdX (groundA x.1 rk.head) hgok]) W' ∧ KeepsFrom m X W'))) := by
        intro X3 hb
        obtain ⟨fn, tmps, assign, body, hy, hR⟩ := HY.out (ys ++ hs2) (gdX (groundA x.1 rk.head) hgok) X3 (HJ.out _ _ _ none j1 (below_grownBy hb) (fun r e => by cases e)) hlen2
        refine ⟨fn, tmps, assign, body, hy, hR.mono ?_⟩
        rintro e W' (⟨rfl, k1, k2⟩ | ⟨rfl, k1, k2⟩)
        · exact ⟨true, rfl, .inl ⟨rfl, k1, (MKept.ofBelow hb).tr k2⟩⟩
        · exact ⟨false, rfl, .inr ⟨rfl, k1, KeepsFrom.tr (KeepsFrom.ofBelow hb) k2⟩⟩
      have hfl : Hid (((pre2 ++ [x]).map (fun p => groundA p.1 rk.head)).filter (fun h => (M h).isNone) = hs2.map (·.1) ++ (if (M (groundA x.1 rk.head)).isNone = true then [groundA x.1 rk.head] else [])) := by
        show _ = _
        rw [List.map_append, List.filter_append, j0]
        congr 1
        show List.filter _ [groundA x.1 rk.head] = _
        rw [List.filter_cons, List.filter_nil]
      have hcy : Hid (∀ X3, Below X.heap.size X X3 → X3.cell? ⟨N, 0, none⟩ = some (.func (.yield l) #[] #[])) := fun X3 hb => cell_later hb (by simp [World.cell?, hyb])
      have hcg : Hid (∀ (X1 X3 : World), Below (X1.alloc (.cells #[.string (groundA x.1 rk.head).rel, .string (groundA x.1 rk.head).x, .string (groundA x.1 rk.head).y] 111)).heap.size (X1.alloc (.cells #[.string (groundA x.1 rk.head).rel, .string (groundA x.1 rk.head).x, .string (groundA x.1 rk.head).y] 111)) X3 → X3.cell? ⟨X1.heap.size, 0, none⟩ = some (.string (groundA x.1 rk.head).rel) ∧ X3.cell? ⟨X1.heap.size, 1, none⟩ = some (.string (groundA x.1 rk.head).x) ∧ X3.cell? ⟨X1.heap.size, 2, none⟩ = some (.string (groundA x.1 rk.head).y)) := by
        intro X1 X3 hb
        have hh := (hb.block X1.heap.size (by simp)).trans (World.alloc_heap_new X1 _)
        refine ⟨?_, ?_, ?_⟩ <;> simp [World.cell?, hh]
      have hb3 : Hid (∀ (X1 : World) (O : Obj) (X3 : World), Below X.heap.size X X1 → Below (X1.alloc O).heap.size (X1.alloc O) X3 → Below X.heap.size X X3) := fun X1 O X3 h1 h2 => (hbb.out X1 O h1).trans (h2.mono (by have := h1.size; simp; omega))
      cases hMh : M (groundA x.1 rk.head) with
      | some t =>
        have hfl2 : Hid (((pre2 ++ [x]).map (fun p => groundA p.1 rk.head)).filter (fun h => (M h).isNone) = hs2.map (·.1)) := by show _ = _; rw [hfl.out, hMh]; simp
        rw [hMh] at hhas
        clear hMh hfl hyl hcy hcg hlen2 hbx' hxR hxM hmdX hyb hSX j0 hspec
        generalize hGr : (groundA x.1 rk.head).rel = gr at *
        generalize hGx : (groundA x.1 rk.head).x = gx at *
        generalize hGy : (groundA x.1 rk.head).y = gy at *
        clear hGr hGx hGy
        gi_wp2_with (first | (refine ⟨trivial, ?_⟩; gi_at_call 89; refine (CallsIn.inRound l2 (callsIn_wide.2 hgr.out)).mono ?_; rintro e X1 ⟨rfl, hbx1⟩; have km := fun O => hcm.out X1 O hbx1) | (refine ⟨trivial, ?_⟩; gi_at_call 136; refine (CallsIn.inRound l2 (callsIn_wide.2 (hhas.out X1 _ hbx1))).mono ?_; rintro e X3 ⟨rfl, hbx3⟩))
        refine ⟨fun f h => (by cases h), ?_⟩
        gi_wp2
        have HB3 := hb3.out X1 _ X3 hbx1 hbx3
        exact ⟨KeepsFrom.ofBelow HB3, MKept.ofBelow HB3, hs2, HJ.out _ _ _ none j1 (below_grownBy HB3) (fun r e => by cases e), hfl2.out.symm, j2.tr (MKept.ofBelow HB3), j3.below HB3, j4.tr (MKept.ofBelow HB3)⟩
      | none =>
        have hfl2 : Hid (((pre2 ++ [x]).map (fun p => groundA p.1 rk.head)).filter (fun h => (M h).isNone) = (hs2 ++ [gdX (groundA x.1 rk.head) hgok]).map (·.1)) := by
          show _ = _
          rw [hfl.out, hMh, List.map_append]
          rfl
        rw [hMh] at hhas
        have hyl2 : Hid (∀ X3, Below X.heap.size X X3 → YieldAt Fence.wide (n - 1) Tryz.prog l #[.agg #[.string (groundA x.1 rk.head).rel, .string (groundA x.1 rk.head).x, .string (groundA x.1 rk.head).y]] X3 fun e W' => ∃ b : Bool, e = .returned (.bool b) ∧ ((b = true ∧ J (ys ++ (hs2 ++ [gdX (groundA x.1 rk.head) hgok])) W' ∧ MKept m X W') ∨ (b = false ∧ Jx (ys ++ (hs2 ++ [gdX (groundA x.1 rk.head) hgok])) W' ∧ KeepsFrom m X W'))) := by
          have := hyl.out
          rw [List.append_assoc] at this
          exact this
        generalize hs2 ++ [gdX (groundA x.1 rk.head) hgok] = hs3 at *
        clear hMh hfl hyl hlen2 hbx' hxR hxM hmdX hyb hSX j0 hspec
        generalize hGr : (groundA x.1 rk.head).rel = gr at *
        generalize hGx : (groundA x.1 rk.head).x = gx at *
        generalize hGy : (groundA x.1 rk.head).y = gy at *
        clear hGr hGx hGy
        gi_wp2_with (first | (refine ⟨trivial, ?_⟩; gi_at_call 89; refine (CallsIn.inRound l2 (callsIn_wide.2 hgr.out)).mono ?_; rintro e X1 ⟨rfl, hbx1⟩; have km := fun O => hcm.out X1 O hbx1) | (refine ⟨trivial, ?_⟩; gi_at_call 136; refine (CallsIn.inRound l2 (callsIn_wide.2 (hhas.out X1 _ hbx1))).mono ?_; rintro e X3 ⟨rfl, hbx3⟩; have HB3 := hb3.out X1 _ X3 hbx1 hbx3; have cyy := hcy.out X3 HB3; obtain ⟨g0, g1, g2⟩ := hcg.out X1 X3 hbx3; obtain ⟨fn, tmps, assign, body, hy, hR⟩ := hyl2.out X3 HB3))
        refine (roundIn_any hR).mono ?_
        rintro e X' ⟨b, rfl, ⟨rfl, hJ', hk'⟩ | ⟨rfl, hJx', hk'⟩⟩
        · clear hy hR
          gi_wp2
          exact ⟨KeepsFrom.up hk'.from' (by omega), hk'.up (by omega), hs3, hJ', hfl2.out.symm, j2.tr hk', j3.keeps hk'.from' (by omega), j4.tr (hk'.up (by omega))⟩
        · clear hy hR
          gi_wp2
          exact ⟨KeepsFrom.up hk' (by omega), rfl, ⟨_, hJx'⟩, j3.keeps hk' (by omega)⟩
  · have hkl : k = R.length := by omega
    subst hkl
    have hfin : Hid ((∀ h, h ∈ ys.map (·.1) ↔ followR R M g h) ∧ ys.length ≤ R.length * foN nn) := ⟨fun h => (hspec.out.1 h).trans (followK_all R M g h), hspec.out.2⟩
    clear hspec hstV
    gi_wp2
    show LeavesInM Fence.wide n Tryz.prog _ _ _ (marks ds) .returning V
    refine leaves_own (X := J ys) (B := N) (fun _ A B row hs hg hr => HJ.out ys A B row hs hg hr) ds V hSh.nodup (fun D hD => ⟨by have := (hSh.at' D hD).1; omega, (hSh.at' D hD).2⟩) hJk (fun W' hx => ?_)
    exact ⟨_, results_none rfl _ _ _, ⟨_, rfl⟩, .inl ⟨ys, hfin.out, hx⟩⟩

end Go.Proofs.YtjajnhemgphefaaGreatDoor
