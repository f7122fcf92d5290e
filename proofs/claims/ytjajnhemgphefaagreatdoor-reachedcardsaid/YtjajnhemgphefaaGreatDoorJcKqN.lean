/-
  The statement Reached in plain data: the ends that are reckoned point by point are the engine's.
-/
import Derived.Test.YtjajnhemgphefaaGreatDoorJcTerm
import Derived.Test.YtjajnhemgphefaaGreatDoorJcKpW
namespace Go.Proofs.YtjajnhemgphefaaGreatDoor
open Go.RowKit Go.Shelf Go.Maps
set_option linter.unusedVariables false
set_option linter.unusedSimpArgs false

/-- The fact of an edge between points. -/
def edG (x : Nat × Nat × Int) : Gd × Int := (⟨bEd, ptB x.1, ptB x.2.1⟩, x.2.2)
theorem stepR_lt (m e : Int) (A : Nat → Nat → Int) (x : Nat × Nat × Int) (i j : Nat) : e < stepR m A x i j ↔ (e < A i j ∨ (x.1 = i ∧ x.2.1 = j ∧ x.2.2 ≤ m ∧ m < x.2.2 + 20 ∧ e < x.2.2 + 20)) := by
  obtain ⟨f, t, u⟩ := x
  unfold stepR
  simp only
  by_cases hc : u ≤ m ∧ m < u + 20 ∧ A f t < u + 20
  · rw [if_pos hc]
    unfold setA
    by_cases hij : i = f ∧ j = t
    · rw [if_pos hij]
      obtain ⟨rfl, rfl⟩ := hij
      constructor
      · intro h; exact .inr ⟨rfl, rfl, hc.1, hc.2.1, h⟩
      · rintro (h | ⟨_, _, _, _, h⟩)
        · omega
        · exact h
    · rw [if_neg hij]
      constructor
      · exact .inl
      · rintro (h | ⟨h1, h2, _⟩)
        · exact h
        · exact absurd ⟨h1.symm, h2.symm⟩ hij
  · rw [if_neg hc]
    constructor
    · exact .inl
    · rintro (h | ⟨rfl, rfl, h1, h2, h3⟩)
      · exact h
      · have : ¬ A f t < u + 20 := fun h4 => hc ⟨h1, h2, h4⟩
        omega
theorem foldR_lt (m e : Int) (i j : Nat) : ∀ (l : List (Nat × Nat × Int)) (A : Nat → Nat → Int), e < l.foldl (stepR m) A i j ↔ (e < A i j ∨ ∃ x ∈ l, x.1 = i ∧ x.2.1 = j ∧ x.2.2 ≤ m ∧ m < x.2.2 + 20 ∧ e < x.2.2 + 20)
  | [], A => by simp
  | x :: l, A => by
    rw [List.foldl_cons, foldR_lt m e i j l, stepR_lt]
    constructor
    · rintro ((h | h) | ⟨y, hy, h⟩)
      · exact .inl h
      · exact .inr ⟨x, List.mem_cons_self, h⟩
      · exact .inr ⟨y, List.mem_cons_of_mem _ hy, h⟩
    · rintro (h | ⟨y, hy, h⟩)
      · exact .inl (.inl h)
      · rcases List.mem_cons.1 hy with rfl | hy
        · exact .inl (.inr h)
        · exact .inr ⟨y, hy, h⟩
theorem recA_nn (m : Int) (l : List (Nat × Nat × Int)) (i j : Nat) : 0 ≤ allA 6 (recA m l) i j := by
  have h1 : (-1 : Int) < recA m l i j := (foldR_lt m (-1) i j l _).2 (.inl (by decide))
  have := allA_mono (-1) (recA m l) i j 6 h1
  omega
theorem recA_lt (m : Int) (l : List (Nat × Nat × Int)) {e : Int} (he : 0 ≤ e) (i j : Nat) : e < recA m l i j ↔ ∃ x ∈ l, x.1 = i ∧ x.2.1 = j ∧ x.2.2 ≤ m ∧ m < x.2.2 + 20 ∧ e < x.2.2 + 20 := by
  unfold recA
  rw [foldR_lt]
  exact ⟨fun h => h.elim (fun h => by omega) id, .inr⟩
/-- Ways between points. -/
theorem way_pts {E : ByteArray → ByteArray → Prop} {N : Nat → Nat → Prop} (h : ∀ a b, E a b ↔ ∃ i j, i < 6 ∧ j < 6 ∧ a = ptB i ∧ b = ptB j ∧ N i j) (hN : ∀ i j, N i j → i < 6 ∧ j < 6) {i j : Nat} (hi : i < 6) (hj : j < 6) : Way E (ptB i) (ptB j) ↔ WayN N i j := by
  constructor
  · intro hw
    obtain ⟨i', j', hi', hj', e1, e2, h3⟩ := hw (fun a b => ∃ i j, i < 6 ∧ j < 6 ∧ a = ptB i ∧ b = ptB j ∧ WayN N i j) (fun a b hab => by
      obtain ⟨i, j, hi, hj, h1, h2, h3⟩ := (h a b).1 hab
      exact ⟨i, j, hi, hj, h1, h2, fun S s1 _ => s1 _ _ h3⟩) (by
      rintro a b c ⟨i, j, hi, hj, h1, h2, h3⟩ hbc
      obtain ⟨j', k, hj', hk, h4, h5, h6⟩ := (h b c).1 hbc
      obtain rfl := pt_inj hj hj' (h2.symm.trans h4)
      exact ⟨i, k, hi, hk, h1, h5, fun S s1 s2 => s2 _ _ _ (h3 S s1 s2) h6⟩)
    rw [pt_inj hi hi' e1, pt_inj hj hj' e2]
    exact h3
  · intro hw
    exact hw (fun i j => Way E (ptB i) (ptB j)) (fun a b hab => fun S s1 _ => s1 _ _ ((h _ _).2 ⟨a, b, (hN a b hab).1, (hN a b hab).2, rfl, rfl, hab⟩)) (fun a b c h1 hbc => fun S s1 s2 => s2 _ _ _ (h1 S s1 s2) ((h _ _).2 ⟨b, c, (hN b c hbc).1, (hN b c hbc).2, rfl, rfl, hbc⟩))
theorem eq_ends {x y : Int} (hx : 0 ≤ x) (hy : 0 ≤ y) (h : ∀ e, 0 ≤ e → (e < x ↔ e < y)) : x = y := by
  rcases Int.lt_trichotomy x y with hl | rfl | hl
  · have := (h x hx).2 hl; omega
  · rfl
  · have := (h y hy).1 hl; omega
/-- The ends that the engine tells are the ends that are reckoned. -/
theorem ends_eq {F : List (Gd × Int)} {M : Gd → Option Int} (hM : LeastM rsP F M) {m : Int} (hm : 0 ≤ m) {l : List (Nat × Nat × Int)} (hl : ∀ x ∈ l, x.1 < 6 ∧ x.2.1 < 6) (hF : ∀ d, d ∈ F ↔ ∃ x ∈ l, x.2.2 ≤ m ∧ m < x.2.2 + 20 ∧ d = ((edG x).1, x.2.2 + 20)) {i j : Nat} (hi : i < 6) (hj : j < 6) : (M ⟨bPa, ptB i, ptB j⟩).getD 0 = allA 6 (recA m l) i j := by
  have hpos : ∀ g t, M g = some t → 0 < t := fun g t hg => by
    obtain ⟨d, hd, rfl⟩ := hM.end_mem hg
    obtain ⟨x, _, _, h2, rfl⟩ := (hF d).1 hd
    show 0 < x.2.2 + 20
    omega
  have hr : rsP = pathR bPa bEd ++ [] := by simp [rsP]
  have hrel : ∀ z ∈ F, z.1.rel = bEd := fun z hz => by
    obtain ⟨x, _, _, _, rfl⟩ := (hF z).1 hz
    rfl
  refine eq_ends ?_ (recA_nn _ _ _ _) (fun e he => ?_)
  · cases hg : M ⟨bPa, ptB i, ptB j⟩ with
    | none => exact Int.le_refl _
    | some t => exact Int.le_of_lt (hpos _ _ hg)
  have hA : ∀ a b, e < recA m l a b → a < 6 ∧ b < 6 := fun a b hab => by
    obtain ⟨x, hx, rfl, rfl, _⟩ := (recA_lt m l he a b).1 hab
    exact hl x hx
  rw [allA_way e _ hA i j]
  have hd : Der rsP F e ⟨bPa, ptB i, ptB j⟩ ↔ Way (fun a b => ∃ t, (⟨bEd, a, b⟩, t) ∈ F ∧ e < t) (ptB i) (ptB j) := by
    rw [hr]; exact path_der pe_ne (by simp) F hrel e _ _
  rw [← way_pts (E := fun a b => ∃ t, (⟨bEd, a, b⟩, t) ∈ F ∧ e < t) (fun a b => ?_) hA hi hj, ← hd]
  · constructor
    · intro h
      cases hg : M ⟨bPa, ptB i, ptB j⟩ with
      | none => rw [hg] at h; simp at h; omega
      | some t => rw [hg] at h; exact hM.sound _ t hg e h
    · intro h
      obtain ⟨t, h1, h2⟩ := hM.complete _ _ h
      rw [h1]; exact h2
  · constructor
    · rintro ⟨t, h1, h2⟩
      obtain ⟨x, hx, h3, h4, h5⟩ := (hF _).1 h1
      simp only [edG, Prod.mk.injEq, Gd.mk.injEq, true_and] at h5
      refine ⟨x.1, x.2.1, (hl x hx).1, (hl x hx).2, h5.1.1, h5.1.2, (recA_lt m l he _ _).2 ⟨x, hx, rfl, rfl, h3, h4, by omega⟩⟩
    · rintro ⟨a', b', ha, hb, rfl, rfl, h1⟩
      obtain ⟨x, hx, rfl, rfl, h3, h4, h5⟩ := (recA_lt m l he _ _).1 h1
      exact ⟨x.2.2 + 20, (hF _).2 ⟨x, hx, h3, h4, rfl⟩, h5⟩

/-- The engine of Reached: l is what was kept so far, A the ends at its watermark. -/
structure ReE (l : List (Nat × Nat × Int)) (A : Nat → Nat → Int) (e : Eg) : Prop where
  pe : PeE rsP 1000000 e
  fds : e.fds = []
  pts : ∀ x ∈ l, x.1 < 6 ∧ x.2.1 < 6 ∧ 0 ≤ x.2.2 ∧ x.2.2 ≤ 1000000
  kept : ∀ d, d ∈ e.kept ↔ (∃ x ∈ l, edG x = d) ∧ e.mark < d.2 + 20
  ends : ∀ i j, i < 6 → j < 6 → (e.M ⟨bPa, ptB i, ptB j⟩).getD 0 = A i j
  pos : ∀ g t, e.M g = some t → 0 < t
  on : OnPts e.M
  len : (l.length : Int) ≤ e.kept.length + 24 * e.mark
theorem on_pts {e : Eg} (h : EgOk e) (hp : PtsOk e.names) (hr : arR e.rs bPa = 2) : OnPts e.M := fun x y hs => by
  obtain ⟨h1, h2⟩ := h.md _ hs
  obtain ⟨_, h3, h4⟩ := mem_uni.1 h2
  obtain ⟨i, hi, e1⟩ := hp.2 x h3
  rcases h1.2 with ⟨h5, _⟩ | ⟨_, h5⟩
  · have h6 : arR e.rs bPa = 1 := h5
    rw [hr] at h6; cases h6
  · rcases h4 with h4 | h4
    · exact absurd h4 h5
    · obtain ⟨j, hj, e2⟩ := hp.2 y h4
      exact ⟨i, j, hi, hj, e1, e2⟩
theorem re_new {q : Int} {M : Gd → Option Int} (hM : LeastM rsP (givenL rsP) M) : ReE [] (fun _ _ => 0) (newE rsP 20 3 q M) := by
  rw [p_given] at hM
  have hn := none_model hM
  refine ⟨⟨rfl, rfl, rfl, ?_, fun d hd => (by cases hd)⟩, rfl, fun x hx => (by cases hx), fun d => ⟨fun hd => (by cases hd), fun hd => ?_⟩, fun i j _ _ => ?_, fun g t hg => ?_, fun x y hs => ?_, ?_⟩
  · show PtsOk (namesR [] rsP); rw [p_names]; exact pts_nil
  · obtain ⟨⟨x, hx, _⟩, _⟩ := hd; cases hx
  · show (M _).getD 0 = 0; rw [hn]; rfl
  · have h1 : M g = some t := hg
    rw [hn] at h1; cases h1
  · have h1 : (M ⟨bPa, x, y⟩).isSome = true := hs
    rw [hn] at h1; cases h1
  · show ((0 : Nat) : Int) ≤ ((0 : Nat) : Int) + 24 * 0
    decide
theorem re_ins {l : List (Nat × Nat × Int)} {A : Nat → Nat → Int} {e : Eg} (h : ReE l A e) {a b : Nat} (ha : a < 6) (hb : b < 6) {t : Int} (ht : 0 ≤ t ∧ t ≤ 1000000) {r : Int × Eg} (hr : insR e (ofB bEd a b) t = r) :
    (r.1 = 0 ∨ r.1 = 8 ∨ r.1 = 9 ∨ r.1 = 10) ∧ (r.1 = 8 ↔ t + 20 ≤ e.mark) ∧ r.2.mark = e.mark ∧ (r.1 = 0 → ReE (l ++ [(a, b, t)]) A r.2) ∧ (r.1 ≠ 0 → ReE l A r.2) ∧ (l = [] → e.mark = 0 → r.1 = 0) := by
  have hpk := pe_kept p_der p_arE h.pe ha hb ht (by decide)
  have hpi := pe_ins p_der p_arE h.pe ha hb (t := t) ht
  simp only [hr] at hpi
  rw [hr] at hpk
  clear hr
  obtain ⟨r1, r2⟩ := r
  simp only at hpi hpk ⊢
  rcases hpi with ⟨rfl, g2, g3, g4, g5⟩ | ⟨rfl, g2, g3, g4, rfl⟩
  · refine ⟨.inr g2, g3, rfl, fun h0 => ?_, fun _ => h, fun hl hm => ?_⟩
    · exfalso; rcases g2 with g | g | g <;> omega
    · exfalso
      have hk : r2.kept = [] := List.eq_nil_iff_forall_not_mem.2 (fun d hd => by
        obtain ⟨⟨x, hx, _⟩, _⟩ := (h.kept d).1 hd
        rw [hl] at hx; cases hx)
      rcases g2 with g | g | g
      · have := g3.1 g; omega
      · have := g4 g; rw [hk] at this; cases this
      · have := g5 g; rw [hk] at this; cases this
  · refine ⟨.inl rfl, ⟨fun h8 => by omega, fun hle => by omega⟩, rfl, fun _ => ?_, fun h0 => absurd rfl h0, fun _ _ => rfl⟩
    refine ⟨hpk, h.fds, fun x hx => ?_, fun d => ?_, h.ends, h.pos, h.on, ?_⟩
    · rcases List.mem_append.1 hx with hx | hx
      · exact h.pts x hx
      · rw [List.mem_singleton] at hx; subst hx; exact ⟨ha, hb, ht⟩
    · show d ∈ e.kept ++ [_] ↔ _ ∧ e.mark < d.2 + 20
      rw [List.mem_append, h.kept d, List.mem_singleton]
      constructor
      · rintro (⟨⟨x, hx, e1⟩, hd⟩ | rfl)
        · exact ⟨⟨x, List.mem_append_left _ hx, e1⟩, hd⟩
        · exact ⟨⟨(a, b, t), List.mem_append_right _ List.mem_cons_self, rfl⟩, g2⟩
      · rintro ⟨⟨x, hx, e1⟩, hd⟩
        rcases List.mem_append.1 hx with hx | hx
        · exact .inl ⟨⟨x, hx, e1⟩, hd⟩
        · rw [List.mem_singleton] at hx; subst hx; exact .inr e1.symm
    · show ((l ++ [(a, b, t)]).length : Int) ≤ ((e.kept ++ [((⟨bEd, ptB a, ptB b⟩ : Gd), t)]).length : Int) + 24 * e.mark
      have := h.len
      simp only [List.length_append, List.length_cons, List.length_nil]
      omega
theorem re_tick {l : List (Nat × Nat × Int)} {A : Nat → Nat → Int} {e e' : Eg} {c : Int} {r : Int × Int} (h : ReE l A e) (hok : EgOk e) (hok' : EgOk e') (hc : 0 ≤ c ∧ c ≤ 1000000) (ht : TickE e c e' r) :
    r.2 = 0 ∧ r.1 = e'.mark ∧ ((c - 3 ≤ e.mark ∧ e' = e) ∨ (e.mark < c - 3 ∧ e'.mark = c - 3 ∧ ReE l (allA 6 (recA (c - 3) l)) e')) := by
  rcases ht with ⟨hn, _⟩ | ⟨_, hr, ⟨hle, rfl⟩ | ⟨hlt, hmv⟩⟩
  · exact absurd hc hn
  · rw [h.pe.lat] at hle
    rw [hr]
    exact ⟨rfl, rfl, .inl ⟨hle, rfl⟩⟩
  · rw [h.pe.lat] at hlt hmv
    obtain ⟨M', fds', hM, hl, hmf, rfl⟩ := hmv
    rw [hr]
    refine ⟨rfl, rfl, .inr ⟨hlt, rfl, ?_⟩⟩
    have hm0 := hok.mark.1
    rw [h.pe.rs, p_given, List.append_nil] at hM
    have hF : ∀ d, d ∈ factsF e (c - 3) ↔ ∃ x ∈ l, x.2.2 ≤ c - 3 ∧ c - 3 < x.2.2 + 20 ∧ d = ((edG x).1, x.2.2 + 20) := fun d => by
      rw [facts_mem h.pe.win, h.kept]
      constructor
      · rintro ⟨⟨⟨x, hx, e1⟩, _⟩, h2, h3⟩
        have e2 : x.2.2 = d.2 - 20 := by have := congrArg (fun p => p.2) e1; exact this
        have e3 : (edG x).1 = d.1 := by have := congrArg (fun p => p.1) e1; exact this
        exact ⟨x, hx, by omega, by omega, Prod.ext e3.symm (by show d.2 = x.2.2 + 20; omega)⟩
      · rintro ⟨x, hx, h1, h2, rfl⟩
        refine ⟨⟨⟨x, hx, Prod.ext rfl (by show x.2.2 = x.2.2 + 20 - 20; omega)⟩, ?_⟩, h2, by show x.2.2 + 20 - 20 ≤ _; omega⟩
        show e.mark < x.2.2 + 20 - 20 + 20
        omega
    have hfd : fds' = [] := List.eq_nil_of_length_eq_zero (by rw [hl, h.fds]; rfl)
    refine ⟨⟨h.pe.rs, h.pe.win, h.pe.lat, h.pe.names, fun d hd => h.pe.kept d (List.mem_filter.1 hd).1⟩, hfd, h.pts, fun d => ?_, fun i j hi hj => ends_eq hM (by omega) (fun x hx => ⟨(h.pts x hx).1, (h.pts x hx).2.1⟩) hF hi hj, fun g t hg => ?_, on_pts hok' h.pe.names (by show arR e.rs bPa = 2; rw [h.pe.rs]; exact p_arP), ?_⟩
    · show d ∈ e.kept.filter _ ↔ _ ∧ c - 3 < d.2 + 20
      rw [List.mem_filter, h.kept d, h.pe.win]
      have : ((!overB 20 (c - 3) d.2) = true) ↔ c - 3 < d.2 + 20 := by unfold overB; simp
      rw [this]
      exact ⟨fun hh => ⟨hh.1.1, hh.2⟩, fun hh => ⟨⟨hh.1, by omega⟩, hh.2⟩⟩
    · obtain ⟨d, hd, rfl⟩ := hM.end_mem (show M' g = some t from hg)
      obtain ⟨x, hx, _, _, rfl⟩ := (hF d).1 hd
      have := (h.pts x hx).2.2.1
      show 0 < x.2.2 + 20
      omega
    · have h1 := h.len
      have h2 := hok.k24
      show (l.length : Int) ≤ ((e.kept.filter _).length : Int) + 24 * (c - 3)
      omega

/-- What Ask tells: the paths that hold, in the order of the points. -/
def ordP (A : Nat → Nat → Int) : List (Nat × Nat) := pairs6.filter (fun p => decide (0 < A p.1 p.2))
theorem pairs_sorted : pairs6.Pairwise (fun p q => decide ((ofB bPa p.1 p.2).data.toList ≤ (ofB bPa q.1 q.2).data.toList) = true) := by decide +kernel
theorem pairs_nodup : pairs6.Nodup := by decide +kernel
theorem re_texts {l : List (Nat × Nat × Int)} {A : Nat → Nat → Int} {e : Eg} (h : ReE l A e) {gs : List Gd} (hf : fitP e.M aPX gs) : gs.length = (ordP A).length ∧ textsOf gs = (ordP A).map (fun p => (ofB bPa p.1 p.2).data.toList) := by
  obtain ⟨h1, h2⟩ := fit_hold hf h.on
  have hp : gs.Perm ((ordP A).map (fun p => (⟨bPa, ptB p.1, ptB p.2⟩ : Gd))) := by
    refine (List.perm_ext_iff_of_nodup h1 ?_).2 (fun g => ?_)
    · rw [List.nodup_iff_pairwise_ne, List.pairwise_map]
      refine List.Pairwise.imp_of_mem ?_ (List.Pairwise.filter _ pairs_nodup)
      rintro ⟨a, b⟩ ⟨c, d⟩ hab hcd hne e1
      have m1 := mem_pairs6.1 (List.mem_filter.1 hab).1
      have m2 := mem_pairs6.1 (List.mem_filter.1 hcd).1
      simp only [Gd.mk.injEq, true_and] at e1
      exact hne (Prod.ext (pt_inj m1.1 m2.1 e1.1) (pt_inj m1.2 m2.2 e1.2))
    · rw [h2, List.mem_map]
      constructor
      · rintro ⟨i, j, hi, hj, hs, rfl⟩
        refine ⟨(i, j), List.mem_filter.2 ⟨mem_pairs6.2 ⟨hi, hj⟩, ?_⟩, rfl⟩
        obtain ⟨t, ht⟩ := Option.isSome_iff_exists.1 hs
        have := h.pos _ _ ht
        have h3 := h.ends i j hi hj
        rw [ht] at h3
        simp only [Option.getD_some] at h3
        simp only [decide_eq_true_eq]
        omega
      · rintro ⟨⟨i, j⟩, hm, rfl⟩
        obtain ⟨m1, m2⟩ := List.mem_filter.1 hm
        obtain ⟨hi, hj⟩ := mem_pairs6.1 m1
        refine ⟨i, j, hi, hj, ?_, rfl⟩
        have h3 := h.ends i j hi hj
        simp only [decide_eq_true_eq] at m2
        cases hg : e.M ⟨bPa, ptB i, ptB j⟩ with
        | none => rw [hg] at h3; simp only [Option.getD_none] at h3; omega
        | some t => rfl
  refine ⟨by rw [hp.length_eq, List.length_map], ?_⟩
  unfold textsOf
  have hp2 := hp.map (fun g => (textG g).data.toList)
  rw [sortT_perm hp2, List.map_map]
  have hmap : (ordP A).map ((fun g => (textG g).data.toList) ∘ fun p => (⟨bPa, ptB p.1, ptB p.2⟩ : Gd)) = (ordP A).map (fun p => (ofB bPa p.1 p.2).data.toList) := by
    refine List.map_congr_left (fun p hp => ?_)
    obtain ⟨hi, hj⟩ := mem_pairs6.1 (List.mem_filter.1 hp).1
    show (textG ⟨bPa, ptB p.1, ptB p.2⟩).data.toList = _
    rw [text_pt hi hj]
  rw [hmap]
  unfold sortT
  refine List.mergeSort_of_pairwise ?_
  rw [List.pairwise_map]
  exact List.Pairwise.filter _ pairs_sorted
/-- Where a path stands among those that hold. -/
theorem ord_at (A : Nat → Nat → Int) {k : Nat} (hk : k < pairs6.length) (hp : 0 < A (pairs6[k]).1 (pairs6[k]).2) : (ordP A)[((pairs6.take k).filter (fun p => decide (0 < A p.1 p.2))).length]? = some pairs6[k] := by
  have e1 : pairs6 = pairs6.take k ++ pairs6[k] :: pairs6.drop (k + 1) := by rw [← List.drop_eq_getElem_cons hk, List.take_append_drop]
  have e2 : ordP A = (pairs6.take k).filter (fun p => decide (0 < A p.1 p.2)) ++ pairs6[k] :: (pairs6.drop (k + 1)).filter (fun p => decide (0 < A p.1 p.2)) := by
    unfold ordP
    conv => lhs; rw [e1]
    rw [List.filter_append, List.filter_cons_of_pos (by simpa using hp)]
  rw [e2, List.getElem?_append_right (Nat.le_refl _), Nat.sub_self]
  rfl

end Go.Proofs.YtjajnhemgphefaaGreatDoor
