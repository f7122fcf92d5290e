/-
  One who follows a feed of paths, in plain data: what is told comes to what holds.
-/
import Derived.Test.YtjajnhemgphefaaGreatDoorJdEgO
import Derived.Test.YtjajnhemgphefaaGreatDoorJdKpI
import Derived.Test.YtjajnhemgphefaaGreatDoorJdKpQ
namespace Go.Proofs.YtjajnhemgphefaaGreatDoor
open Go.RowKit Go.Shelf Go.Maps
set_option linter.unusedVariables false
set_option linter.unusedSimpArgs false

def aPX : Am := ⟨bPa, [v0T, v1T]⟩
/-- The text of a path that holds. -/
def HoldM (M : Gd → Option Int) (x : ByteArray) : Prop := ∃ i j, i < 6 ∧ j < 6 ∧ (M ⟨bPa, ptB i, ptB j⟩).isSome = true ∧ x = ofB bPa i j
/-- Paths hold between the six points alone. -/
def OnPts (M : Gd → Option Int) : Prop := ∀ x y, (M ⟨bPa, x, y⟩).isSome = true → ∃ i j, i < 6 ∧ j < 6 ∧ x = ptB i ∧ y = ptB j
def PtX (x : ByteArray) : Prop := ∃ i j, i < 6 ∧ j < 6 ∧ x = ofB bPa i j
theorem HoldM.pt {M : Gd → Option Int} {x : ByteArray} (h : HoldM M x) : PtX x := by
  obtain ⟨i, j, hi, hj, _, e⟩ := h
  exact ⟨i, j, hi, hj, e⟩
theorem text_pt {i j : Nat} (hi : i < 6) (hj : j < 6) : textG ⟨bPa, ptB i, ptB j⟩ = ofB bPa i j := by
  have h : ∀ i j : Fin 6, sameB (textG ⟨bPa, ptB i, ptB j⟩) (ofB bPa i j) = true := by decide +kernel
  exact (sameB_iff _ _).1 (h ⟨i, hi⟩ ⟨j, hj⟩)
theorem of_inj {i j i' j' : Nat} (hi : i < 6) (hj : j < 6) (hi' : i' < 6) (hj' : j' < 6) (h : ofB bPa i j = ofB bPa i' j') : i = i' ∧ j = j' := by
  have hh : ∀ i j i' j' : Fin 6, sameB (ofB bPa i j) (ofB bPa i' j') = true → i = i' ∧ j = j' := by decide +kernel
  have := hh ⟨i, hi⟩ ⟨j, hj⟩ ⟨i', hi'⟩ ⟨j', hj'⟩ ((sameB_iff _ _).2 h)
  exact ⟨by simpa using this.1, by simpa using this.2⟩
theorem match_pt {i j : Nat} (hi : i < 6) (hj : j < 6) : (matchA nms0 aPX (ptB i) (ptB j)).map (fun p => groundA p aPX) = some ⟨bPa, ptB i, ptB j⟩ := by
  have h : ∀ i j : Fin 6, (match matchA nms0 aPX (ptB i) (ptB j) with | some p => sameB (groundA p aPX).rel bPa && sameB (groundA p aPX).x (ptB i) && sameB (groundA p aPX).y (ptB j) | none => false) = true := by decide +kernel
  have := h ⟨i, hi⟩ ⟨j, hj⟩
  cases hm : matchA nms0 aPX (ptB i) (ptB j) with
  | none => rw [hm] at this; cases this
  | some p =>
    rw [hm] at this
    simp only [Bool.and_eq_true, sameB_iff] at this
    obtain ⟨⟨h1, h2⟩, h3⟩ := this
    show some (groundA p aPX) = _
    rw [← h2, ← h3, ← h1]
/-- What fits path(X,Y): the paths that hold, each once. -/
theorem fit_hold {M : Gd → Option Int} {gs : List Gd} (h : fitP M aPX gs) (ho : OnPts M) : gs.Nodup ∧ ∀ g, g ∈ gs ↔ ∃ i j, i < 6 ∧ j < 6 ∧ (M ⟨bPa, ptB i, ptB j⟩).isSome = true ∧ g = ⟨bPa, ptB i, ptB j⟩ := by
  obtain ⟨ks, k1, k2, rfl⟩ := h
  have hk : ∀ k ∈ ks, ∃ i j, i < 6 ∧ j < 6 ∧ k = (ptB i, ptB j) := by
    rintro ⟨x, y⟩ hm
    obtain ⟨i, j, hi, hj, rfl, rfl⟩ := ho x y ((k2 x y).1 hm).2.2
    exact ⟨i, j, hi, hj, rfl⟩
  have heq : ∀ l : List (ByteArray × ByteArray), (∀ k ∈ l, ∃ i j, i < 6 ∧ j < 6 ∧ k = (ptB i, ptB j)) → (l.filterMap (fun k => matchA nms0 aPX k.1 k.2)).map (fun p => groundA p aPX) = l.map (fun k => (⟨bPa, k.1, k.2⟩ : Gd)) := by
    intro l
    induction l with
    | nil => intro _; rfl
    | cons k l ih =>
      intro hl
      obtain ⟨i, j, hi, hj, rfl⟩ := hl k List.mem_cons_self
      have hm := match_pt hi hj
      cases hmm : matchA nms0 aPX (ptB i) (ptB j) with
      | none => rw [hmm] at hm; cases hm
      | some p =>
        rw [hmm] at hm
        rw [List.filterMap_cons_some (by exact hmm), List.map_cons, List.map_cons, ih (fun k hk => hl k (List.mem_cons_of_mem _ hk))]
        simp only [Option.map_some, Option.some.injEq] at hm
        rw [hm]
  rw [heq ks hk]
  refine ⟨?_, fun g => ?_⟩
  · exact List.Pairwise.map _ (fun a b hab e => hab (by cases a; cases b; simp only [Gd.mk.injEq, true_and] at e; exact Prod.ext e.1 e.2)) k1
  · rw [List.mem_map]
    constructor
    · rintro ⟨k, hm, rfl⟩
      obtain ⟨i, j, hi, hj, rfl⟩ := hk k hm
      exact ⟨i, j, hi, hj, ((k2 _ _).1 hm).2.2, rfl⟩
    · rintro ⟨i, j, hi, hj, hs, rfl⟩
      exact ⟨(ptB i, ptB j), (k2 _ _).2 ⟨by show (1 : Nat) ≤ maxLen; decide, by show (1 : Nat) ≤ maxLen; decide, hs⟩, rfl⟩
/-- The texts, as they are told. -/
def txL (gs : List Gd) : List ByteArray := (sortT (gs.map (fun g => (textG g).data.toList))).map (fun t => (⟨t.toArray⟩ : ByteArray))
theorem tx_perm (gs : List Gd) : (txL gs).Perm (gs.map textG) := by
  have h := (List.mergeSort_perm (gs.map (fun g => (textG g).data.toList)) (fun x y => decide (x ≤ y))).map (fun t => (⟨t.toArray⟩ : ByteArray))
  rw [List.map_map] at h
  exact h
theorem textsR_tx (kind : Int) (gs : List Gd) : textsR kind gs = (txL gs).map (fun x => ⟨kind, 0, x, 0⟩) := by
  unfold textsR recsT txL
  rw [List.map_map]; rfl
/-- Just these. -/
def Like (L : List ByteArray) (T : ByteArray → Prop) : Prop := L.Nodup ∧ ∀ x, x ∈ L ↔ T x
theorem Like.congr {L : List ByteArray} {T T' : ByteArray → Prop} (h : Like L T) (hT : ∀ x, T x ↔ T' x) : Like L T' := ⟨h.1, fun x => (h.2 x).trans (hT x)⟩
theorem tx_like {gs : List Gd} (hn : gs.Nodup) (hp : ∀ g ∈ gs, ∃ i j, i < 6 ∧ j < 6 ∧ g = ⟨bPa, ptB i, ptB j⟩) : Like (txL gs) (fun x => ∃ i j, i < 6 ∧ j < 6 ∧ (⟨bPa, ptB i, ptB j⟩ : Gd) ∈ gs ∧ x = ofB bPa i j) := by
  refine ⟨(tx_perm gs).nodup_iff.2 ?_, fun x => ?_⟩
  · rw [List.nodup_iff_pairwise_ne, List.pairwise_map]
    refine List.Pairwise.imp_of_mem ?_ hn
    intro a b ha hb hab e
    obtain ⟨i, j, hi, hj, rfl⟩ := hp a ha
    obtain ⟨i', j', hi', hj', rfl⟩ := hp b hb
    rw [text_pt hi hj, text_pt hi' hj'] at e
    obtain ⟨rfl, rfl⟩ := of_inj hi hj hi' hj' e
    exact hab rfl
  · rw [(tx_perm gs).mem_iff, List.mem_map]
    constructor
    · rintro ⟨g, hg, rfl⟩
      obtain ⟨i, j, hi, hj, rfl⟩ := hp g hg
      exact ⟨i, j, hi, hj, hg, text_pt hi hj⟩
    · rintro ⟨i, j, hi, hj, hg, rfl⟩
      exact ⟨_, hg, text_pt hi hj⟩
theorem tx_hold {M : Gd → Option Int} {gs : List Gd} (h : fitP M aPX gs) (ho : OnPts M) : Like (txL gs) (HoldM M) := by
  obtain ⟨h1, h2⟩ := fit_hold h ho
  refine (tx_like h1 (fun g hg => ?_)).congr (fun x => ?_)
  · obtain ⟨i, j, hi, hj, _, e⟩ := (h2 g).1 hg
    exact ⟨i, j, hi, hj, e⟩
  · constructor
    · rintro ⟨i, j, hi, hj, hg, e⟩
      obtain ⟨i', j', hi', hj', hs, e'⟩ := (h2 _).1 hg
      exact ⟨i, j, hi, hj, by rw [e']; exact hs, e⟩
    · rintro ⟨i, j, hi, hj, hs, e⟩
      exact ⟨i, j, hi, hj, (h2 _).2 ⟨i, j, hi, hj, hs, rfl⟩, e⟩
theorem tx_bey {M M' : Gd → Option Int} {gs : List Gd} (h : beyP M M' aPX gs) (ho : OnPts M) : Like (txL gs) (fun x => HoldM M x ∧ ¬ HoldM M' x) := by
  obtain ⟨g0, h0, rfl⟩ := h
  obtain ⟨h1, h2⟩ := fit_hold h0 ho
  refine (tx_like (h1.sublist List.filter_sublist) (fun g hg => ?_)).congr (fun x => ?_)
  · obtain ⟨i, j, hi, hj, _, e⟩ := (h2 g).1 (List.mem_filter.1 hg).1
    exact ⟨i, j, hi, hj, e⟩
  · constructor
    · rintro ⟨i, j, hi, hj, hg, e⟩
      obtain ⟨hg1, hg2⟩ := List.mem_filter.1 hg
      obtain ⟨i', j', hi', hj', hs, e'⟩ := (h2 _).1 hg1
      refine ⟨⟨i, j, hi, hj, by rw [e']; exact hs, e⟩, ?_⟩
      rintro ⟨i2, j2, hi2, hj2, hs2, e2⟩
      obtain ⟨rfl, rfl⟩ := of_inj hi hj hi2 hj2 (e.symm.trans e2)
      cases hm : M' ⟨bPa, ptB i, ptB j⟩ with
      | none => rw [hm] at hs2; cases hs2
      | some t => rw [hm] at hg2; cases hg2
    · rintro ⟨⟨i, j, hi, hj, hs, e⟩, hn⟩
      refine ⟨i, j, hi, hj, List.mem_filter.2 ⟨(h2 _).2 ⟨i, j, hi, hj, hs, rfl⟩, ?_⟩, e⟩
      cases hm : M' ⟨bPa, ptB i, ptB j⟩ with
      | none => rfl
      | some t => exact absurd ⟨i, j, hi, hj, by rw [hm]; rfl, e⟩ hn
theorem pts_few {L : List ByteArray} (hn : L.Nodup) (hp : ∀ x ∈ L, PtX x) : L.length ≤ 36 := by
  have hs : ∀ x ∈ L, x ∈ (List.range 6).flatMap (fun i => (List.range 6).map (fun j => ofB bPa i j)) := fun x hx => by
    obtain ⟨i, j, hi, hj, rfl⟩ := hp x hx
    exact List.mem_flatMap.2 ⟨i, List.mem_range.2 hi, List.mem_map.2 ⟨j, List.mem_range.2 hj, rfl⟩⟩
  have hl : ((List.range 6).flatMap (fun i => (List.range 6).map (fun j => ofB bPa i j))).length = 36 := by decide +kernel
  have := nodup_le L _ hn hs
  rw [hl] at this
  exact this
theorem like_like {L l : List ByteArray} {T : ByteArray → Prop} (h : Like L T) (h' : Like l T) : likeR L l = true := by
  have hp : l.Perm L := (List.perm_ext_iff_of_nodup h'.1 h.1).2 (fun x => (h'.2 x).trans (h.2 x).symm)
  unfold likeR
  rw [Bool.and_eq_true, List.all_eq_true]
  refine ⟨by simpa using hp.length_eq, fun x hx => ?_⟩
  rw [decide_eq_true_eq]
  rcases Int.lt_or_le (placeR L x) 0 with hlt | hle
  · exact absurd ((h.2 x).2 ((h'.2 x).1 hx)) ((placeR_neg _ _).1 hlt)
  · exact hle

theorem del_mem {L : List ByteArray} {x : ByteArray} (hn : L.Nodup) (y : ByteArray) : y ∈ delR L x ↔ y ∈ L ∧ y ≠ x := by
  induction L with
  | nil => simp [delR]
  | cons a l ih =>
    have hn' := List.nodup_cons.1 hn
    unfold delR at ih ⊢
    by_cases hs : sameB x a = true
    · rw [List.eraseP_cons_of_pos hs]
      have hxa := (sameB_iff _ _).1 hs
      subst hxa
      constructor
      · intro hy
        exact ⟨List.mem_cons_of_mem _ hy, fun e => hn'.1 (e ▸ hy)⟩
      · rintro ⟨hy, hne⟩
        rcases List.mem_cons.1 hy with e | hy
        · exact absurd e hne
        · exact hy
    · rw [List.eraseP_cons_of_neg hs, List.mem_cons, List.mem_cons, ih hn'.2]
      have hxa : a ≠ x := fun e => hs ((sameB_iff _ _).2 e.symm)
      constructor
      · rintro (e | ⟨h1, h2⟩)
        · exact ⟨.inl e, by rw [e]; exact hxa⟩
        · exact ⟨.inr h1, h2⟩
      · rintro ⟨e | h1, h2⟩
        · exact .inl e
        · exact .inr ⟨h1, h2⟩
theorem del_nodup {L : List ByteArray} {x : ByteArray} (hn : L.Nodup) : (delR L x).Nodup := hn.sublist List.eraseP_sublist

/-- Records told one after another to one who has L: each can come; at a Marker he has what was seen; at the end E. -/
def Run (sn : Int → List ByteArray → Prop) (E : List ByteArray → Prop) : List ByteArray → List Rc → Prop
  | L, [] => E L
  | L, r :: rs => (r.kind = 2 ∧ r.time = 0 ∧ r.text ∉ L ∧ PtX r.text ∧ Run sn E (L ++ [r.text]) rs) ∨ (r.kind = 3 ∧ r.time = 0 ∧ r.text ∈ L ∧ Run sn E (delR L r.text) rs) ∨ (r.kind = 4 ∧ r.text = ⟨#[]⟩ ∧ sn r.time L ∧ Run sn E L rs)
theorem run_append {sn sn' : Int → List ByteArray → Prop} {E E' : List ByteArray → Prop} (hs : ∀ t L, sn t L → sn' t L) {rs' : List Rc} (hE : ∀ L, E L → Run sn' E' L rs') : ∀ (rs : List Rc) (L : List ByteArray), Run sn E L rs → Run sn' E' L (rs ++ rs')
  | [], L, h => hE L h
  | r :: rs, L, h => by
    rcases h with ⟨h1, h2, h3, h4, h5⟩ | ⟨h1, h2, h3, h4⟩ | ⟨h1, h2, h3, h4⟩
    · exact .inl ⟨h1, h2, h3, h4, run_append hs hE rs _ h5⟩
    · exact .inr (.inl ⟨h1, h2, h3, run_append hs hE rs _ h4⟩)
    · exact .inr (.inr ⟨h1, h2, hs _ _ h3, run_append hs hE rs _ h4⟩)
theorem run_adds {sn : Int → List ByteArray → Prop} {E : List ByteArray → Prop} {rs : List Rc} : ∀ (ts L : List ByteArray) (T : ByteArray → Prop), Like L T → ts.Nodup → (∀ x ∈ ts, ¬ T x ∧ PtX x) → (∀ L', Like L' (fun x => T x ∨ x ∈ ts) → Run sn E L' rs) → Run sn E L (ts.map (fun x => (⟨2, 0, x, 0⟩ : Rc)) ++ rs)
  | [], L, T, hL, _, _, hk => hk L (hL.congr (fun x => by simp))
  | t :: ts, L, T, hL, hn, hx, hk => by
    have hn' := List.nodup_cons.1 hn
    have ht := hx t List.mem_cons_self
    have htL : t ∉ L := fun hm => ht.1 ((hL.2 t).1 hm)
    refine .inl ⟨rfl, rfl, htL, ht.2, run_adds ts (L ++ [t]) (fun x => T x ∨ x = t) ⟨?_, fun x => ?_⟩ hn'.2 (fun x hxm => ⟨?_, (hx x (List.mem_cons_of_mem _ hxm)).2⟩) (fun L' hL' => hk L' (hL'.congr (fun x => ?_)))⟩
    · rw [List.nodup_append]
      refine ⟨hL.1, by simp, fun a ha b hb e => ?_⟩
      rw [List.mem_singleton] at hb
      exact htL (by rw [← hb, ← e]; exact ha)
    · rw [List.mem_append, List.mem_singleton, hL.2 x]
    · rintro (h1 | h1)
      · exact (hx x (List.mem_cons_of_mem _ hxm)).1 h1
      · exact hn'.1 (h1 ▸ hxm)
    · rw [List.mem_cons, or_assoc]
theorem run_dels {sn : Int → List ByteArray → Prop} {E : List ByteArray → Prop} {rs : List Rc} : ∀ (ts L : List ByteArray) (T : ByteArray → Prop), Like L T → ts.Nodup → (∀ x ∈ ts, T x) → (∀ L', Like L' (fun x => T x ∧ x ∉ ts) → Run sn E L' rs) → Run sn E L (ts.map (fun x => (⟨3, 0, x, 0⟩ : Rc)) ++ rs)
  | [], L, T, hL, _, _, hk => hk L (hL.congr (fun x => by simp))
  | t :: ts, L, T, hL, hn, hx, hk => by
    have hn' := List.nodup_cons.1 hn
    refine .inr (.inl ⟨rfl, rfl, (hL.2 t).2 (hx t List.mem_cons_self), run_dels ts (delR L t) (fun x => T x ∧ x ≠ t) ⟨del_nodup hL.1, fun x => ?_⟩ hn'.2 (fun x hxm => ⟨hx x (List.mem_cons_of_mem _ hxm), fun e => hn'.1 (e ▸ hxm)⟩) (fun L' hL' => hk L' (hL'.congr (fun x => ?_)))⟩)
    · rw [del_mem hL.1, hL.2 x]
    · rw [List.mem_cons, not_or, and_assoc]

/-- What was seen at a watermark. -/
def findS (S : List (Int × List ByteArray)) (t : Int) : Option (List ByteArray) := (S.find? (fun d => d.1 == t)).map (·.2)
def snS (S : List (Int × List ByteArray)) (t : Int) (L : List ByteArray) : Prop := ∃ l, findS S t = some l ∧ likeR L l = true
theorem findS_more {S : List (Int × List ByteArray)} {t : Int} {l : List ByteArray} (h : findS S t = some l) (d : Int × List ByteArray) : findS (S ++ [d]) t = some l := by
  unfold findS at h ⊢
  rw [List.find?_append]
  cases hf : S.find? (fun d => d.1 == t) with
  | none => rw [hf] at h; cases h
  | some x => rw [hf] at h; exact h
theorem findS_new {S : List (Int × List ByteArray)} {m : Int} {l : List ByteArray} (h : ∀ d ∈ S, d.1 ≠ m) : findS (S ++ [(m, l)]) m = some l := by
  unfold findS
  rw [List.find?_append]
  have : S.find? (fun d => d.1 == m) = none := List.find?_eq_none.2 (fun d hd => by simpa using h d hd)
  rw [this]
  simp

/-- How many records wait. -/
def leftF (F : Fs) : Nat := if F.behind = true then 75 else F.snap.length + F.que.length
/-- One who has been told f by the feed F follows it. -/
structure Flw (f : Fo) (F : Fs) (M : Gd → Option Int) (m : Int) (S : List (Int × List ByteArray)) : Prop where
  next : f.next = F.told
  form : F.form = aPX
  nodup : f.L.Nodup
  pts : ∀ x ∈ f.L, PtX x
  snap : F.snap.length ≤ 73
  que : F.que.length ≤ 50
  few : (F.told : Int) + leftF F ≤ 200 * (m + 1)
  st : (F.behind = true ∧ F.snap = [] ∧ F.que = []) ∨ (F.behind = false ∧ f.any = true ∧ Run (snS S) (fun L => Like L (HoldM M)) f.L (F.snap ++ F.que))
/-- A record that waits is told. -/
theorem next_cons {M : Gd → Option Int} {m : Int} {F F' : Fs} {r : Rc} (hb : F.behind = false) (hp : PollR M m F r F') :
    (F.snap ++ F.que = [] ∧ r = ⟨0, 0, ⟨#[]⟩, 0⟩ ∧ F' = F) ∨
    (∃ x l, F.snap ++ F.que = x :: l ∧ (x.kind ≠ 0 → r = { x with seq := F.told } ∧ F'.snap ++ F'.que = l ∧ F'.behind = false ∧ F'.told = F.told + 1 ∧ F'.form = F.form ∧ F'.snap.length ≤ F.snap.length ∧ F'.que.length ≤ F.que.length)) := by
  obtain ⟨r0, f0, hn, hc⟩ := hp
  rcases hn with ⟨l', e1, rfl⟩ | ⟨_, hb', _⟩ | ⟨e0, _, l', e1, rfl⟩ | ⟨e0, _, e1, rfl, rfl⟩
  · refine .inr ⟨r0, l' ++ F.que, by rw [e1]; rfl, fun hk => ?_⟩
    rcases hc with ⟨hk', _, _⟩ | ⟨_, rfl, rfl⟩
    · exact absurd hk' hk
    · exact ⟨rfl, rfl, hb, rfl, rfl, by rw [e1]; simp, Nat.le_refl _⟩
  · rw [hb] at hb'; cases hb'
  · refine .inr ⟨r0, l', by rw [e0, e1]; rfl, fun hk => ?_⟩
    rcases hc with ⟨hk', _, _⟩ | ⟨_, rfl, rfl⟩
    · exact absurd hk' hk
    · exact ⟨rfl, by show F.snap ++ l' = l'; rw [e0]; rfl, hb, rfl, rfl, Nat.le_refl _, by rw [e1]; simp⟩
  · refine .inl ⟨by rw [e0, e1]; rfl, ?_⟩
    rcases hc with ⟨_, rfl, rfl⟩ | ⟨hk, _, _⟩
    · exact ⟨rfl, rfl⟩
    · exact absurd rfl hk
theorem flw_poll {f : Fo} {F F' : Fs} {M : Gd → Option Int} {m : Int} {S : List (Int × List ByteArray)} {r : Rc} (h : Flw f F M m S) (ho : OnPts M) {lm : List ByteArray} (hlm : findS S m = some lm) (hLm : Like lm (HoldM M)) (hp : PollR M m F r F') :
    (r = ⟨0, 0, ⟨#[]⟩, 0⟩ ∧ F' = F ∧ f.any = true ∧ Like f.L (HoldM M)) ∨
    (leftF F' + 1 ≤ leftF F ∧ ((r = ⟨1, f.next, ⟨#[]⟩, 0⟩ ∧ Flw ⟨[], f.next + 1, true⟩ F' M m S) ∨
      (f.any = true ∧ ((∃ x, r = ⟨2, f.next, x, 0⟩ ∧ x ∉ f.L ∧ Flw ⟨f.L ++ [x], f.next + 1, true⟩ F' M m S) ∨ (∃ x, r = ⟨3, f.next, x, 0⟩ ∧ x ∈ f.L ∧ Flw ⟨delR f.L x, f.next + 1, true⟩ F' M m S) ∨
        ∃ t l, r = ⟨4, f.next, ⟨#[]⟩, t⟩ ∧ findS S t = some l ∧ likeR f.L l = true ∧ Flw { f with next := f.next + 1 } F' M m S)))) := by
  rcases h.st with ⟨hb, hs, hq⟩ | ⟨hb, hany, hrun⟩
  · right
    obtain ⟨hr, gs, hg, ⟨hb', hpen⟩, htold, hform⟩ := pen_behind hb hs hq hp
    rw [h.form] at hg hform
    have hl := tx_hold hg ho
    have hlen : (textsR 2 gs ++ [(⟨4, 0, ⟨#[]⟩, m⟩ : Rc)]).length ≤ 37 := by
      rw [textsR_tx, List.length_append, List.length_map]
      have := pts_few hl.1 (fun x hx => ((hl.2 x).1 hx).pt)
      simp only [List.length_cons, List.length_nil]; omega
    rw [← hpen, List.length_append] at hlen
    have hleft : leftF F' ≤ 37 := by unfold leftF; rw [hb', if_neg (by decide)]; exact hlen
    have hleft0 : leftF F = 75 := by unfold leftF; rw [hb, if_pos rfl]
    refine ⟨by omega, .inl ⟨by rw [hr, h.next], ⟨by show f.next + 1 = F'.told; rw [htold, h.next], hform, List.nodup_nil, fun x hx => (by cases hx), by omega, by omega, ?_, .inr ⟨hb', rfl, ?_⟩⟩⟩⟩
    · have := h.few
      rw [htold]; omega
    · rw [hpen, textsR_tx]
      refine run_adds _ [] (fun _ => False) ⟨List.nodup_nil, fun x => by simp⟩ hl.1 (fun x hx => ⟨id, ((hl.2 x).1 hx).pt⟩) (fun L' hL' => ?_)
      have hL2 : Like L' (HoldM M) := hL'.congr (fun x => by rw [false_or]; exact hl.2 x)
      exact .inr (.inr ⟨rfl, rfl, ⟨lm, hlm, like_like hL2 hLm⟩, hL2⟩)
  · rcases next_cons hb hp with ⟨e0, hr, hF⟩ | ⟨x, l, e0, hk⟩
    · rw [e0] at hrun
      exact .inl ⟨hr, hF, hany, hrun⟩
    · right
      rw [e0] at hrun
      have hk0 : x.kind ≠ 0 := by rcases hrun with ⟨h1, _⟩ | ⟨h1, _⟩ | ⟨h1, _⟩ <;> rw [h1] <;> decide
      obtain ⟨hr, hl', hb', htold, hform, hs1, hq1⟩ := hk hk0
      have hlen : F.snap.length + F.que.length = l.length + 1 := by rw [← List.length_append, e0]; rfl
      have hlen' : F'.snap.length + F'.que.length = l.length := by rw [← List.length_append, hl']
      have hleft : leftF F = l.length + 1 := by unfold leftF; rw [hb, if_neg (by decide)]; exact hlen
      have hleft' : leftF F' = l.length := by unfold leftF; rw [hb', if_neg (by decide)]; exact hlen'
      have hfew : (F'.told : Int) + leftF F' ≤ 200 * (m + 1) := by
        have := h.few
        rw [htold, hleft']; rw [hleft] at this; omega
      have hsn := Nat.le_trans hs1 h.snap
      have hqu := Nat.le_trans hq1 h.que
      have hne : f.next + 1 = F'.told := by rw [htold, h.next]
      have hfo := hform.trans h.form
      refine ⟨by omega, .inr ⟨hany, ?_⟩⟩
      obtain ⟨xk, xs, xt, xm⟩ := x
      rcases hrun with ⟨h1, h2, h3, h4, h5⟩ | ⟨h1, h2, h3, h4⟩ | ⟨h1, h2, ⟨lx, h3, h3'⟩, h4⟩
      · simp only at h1 h2 h3 h4 h5
        subst h1 h2
        refine .inl ⟨xt, by rw [hr, h.next], h3, ⟨hne, hfo, ?_, fun y hy => ?_, hsn, hqu, hfew, .inr ⟨hb', rfl, by rw [hl']; exact h5⟩⟩⟩
        · rw [List.nodup_append]
          refine ⟨h.nodup, by simp, fun a ha b hb e => ?_⟩
          rw [List.mem_singleton] at hb
          exact h3 (by rw [← hb, ← e]; exact ha)
        · rcases List.mem_append.1 hy with hy | hy
          · exact h.pts y hy
          · rw [List.mem_singleton] at hy; rw [hy]; exact h4
      · simp only at h1 h2 h3 h4
        subst h1 h2
        exact .inr (.inl ⟨xt, by rw [hr, h.next], h3, ⟨hne, hfo, del_nodup h.nodup, fun y hy => h.pts y ((del_mem h.nodup y).1 hy).1, hsn, hqu, hfew, .inr ⟨hb', rfl, by rw [hl']; exact h4⟩⟩⟩)
      · simp only at h1 h2 h3 h4
        subst h1 h2
        exact .inr (.inr ⟨xm, lx, by rw [hr, h.next], h3, h3', ⟨hne, hfo, h.nodup, h.pts, hsn, hqu, hfew, .inr ⟨hb', hany, by rw [hl']; exact h4⟩⟩⟩)
/-- The watermark moves on. -/
theorem flw_move {f : Fo} {F F' : Fs} {M M' : Gd → Option Int} {m m' q : Int} {S : List (Int × List ByteArray)} {l : List ByteArray} (h : Flw f F M m S) (hm : m < m') (ho : OnPts M) (ho' : OnPts M') (hmv : MoveF M M' m' q F F') (hq : q ≤ 50) (hl : Like l (HoldM M')) (hS : ∀ d ∈ S, d.1 ≠ m') : Flw f F' M' m' (S ++ [(m', l)]) := by
  rcases hmv with ⟨hb, rfl⟩ | ⟨hb, g1, g2, hg1, hg2, ⟨hlt, rfl⟩ | ⟨hle, rfl⟩⟩
  · refine ⟨h.next, h.form, h.nodup, h.pts, h.snap, h.que, by have := h.few; omega, ?_⟩
    rcases h.st with hs | ⟨hb', _⟩
    · exact .inl hs
    · rw [hb] at hb'; cases hb'
  · refine ⟨h.next, h.form, h.nodup, h.pts, by show (0 : Nat) ≤ 73; decide, by show (0 : Nat) ≤ 50; decide, ?_, .inl ⟨rfl, rfl, rfl⟩⟩
    have := h.few
    show ((F.told : Nat) : Int) + ((75 : Nat) : Int) ≤ 200 * (m' + 1)
    omega
  · rcases h.st with ⟨hb', _⟩ | ⟨_, hany, hrun⟩
    · rw [hb] at hb'; cases hb'
    rw [h.form] at hg1 hg2
    have l1 := tx_bey hg1 ho
    have l2 := tx_bey hg2 ho'
    have n1 : (textsR 3 g1).length ≤ 36 := by
      rw [textsR_tx, List.length_map]; exact pts_few l1.1 (fun x hx => ((l1.2 x).1 hx).1.pt)
    have n2 : (textsR 2 g2).length ≤ 36 := by
      rw [textsR_tx, List.length_map]; exact pts_few l2.1 (fun x hx => ((l2.2 x).1 hx).1.pt)
    have hlq : (F.que ++ textsR 3 g1 ++ textsR 2 g2 ++ [(⟨4, 0, ⟨#[]⟩, m'⟩ : Rc)]).length = F.que.length + (textsR 3 g1).length + (textsR 2 g2).length + 1 := by simp only [List.length_append, List.length_cons, List.length_nil]
    refine ⟨h.next, h.form, h.nodup, h.pts, h.snap, ?_, ?_, .inr ⟨hb, hany, ?_⟩⟩
    · show (F.que ++ textsR 3 g1 ++ textsR 2 g2 ++ [(⟨4, 0, ⟨#[]⟩, m'⟩ : Rc)]).length ≤ 50
      rw [hlq]
      simp only [List.length_append] at hle
      omega
    · have hfew := h.few
      unfold leftF at hfew ⊢
      rw [hb, if_neg (by decide)] at hfew
      show (F.told : Int) + (((if F.behind = true then 75 else F.snap.length + (F.que ++ textsR 3 g1 ++ textsR 2 g2 ++ [(⟨4, 0, ⟨#[]⟩, m'⟩ : Rc)]).length) : Nat) : Int) ≤ _
      rw [hb, if_neg (by decide), hlq]
      omega
    · show Run _ _ f.L (F.snap ++ (F.que ++ textsR 3 g1 ++ textsR 2 g2 ++ [_]))
      have e1 : F.snap ++ (F.que ++ textsR 3 g1 ++ textsR 2 g2 ++ [(⟨4, 0, ⟨#[]⟩, m'⟩ : Rc)]) = (F.snap ++ F.que) ++ (textsR 3 g1 ++ (textsR 2 g2 ++ [(⟨4, 0, ⟨#[]⟩, m'⟩ : Rc)])) := by simp only [List.append_assoc]
      rw [e1]
      refine run_append (fun t L hs => ?_) (fun L hL => ?_) _ _ hrun
      · obtain ⟨lx, h1, h2⟩ := hs
        exact ⟨lx, findS_more h1 _, h2⟩
      · rw [textsR_tx 3 g1, textsR_tx 2 g2]
        refine run_dels _ L _ hL l1.1 (fun x hx => ((l1.2 x).1 hx).1) (fun L1 hL1 => ?_)
        refine run_adds _ L1 _ hL1 l2.1 (fun x hx => ⟨fun hh => ((l2.2 x).1 hx).2 hh.1, ((l2.2 x).1 hx).1.pt⟩) (fun L2 hL2 => ?_)
        have hL3 : Like L2 (HoldM M') := hL2.congr (fun x => by
          rw [l1.2 x, l2.2 x]
          constructor
          · rintro (⟨h1, h2⟩ | ⟨h1, _⟩)
            · exact Classical.byContradiction (fun hn => h2 ⟨h1, hn⟩)
            · exact h1
          · intro h1
            by_cases h2 : HoldM M x
            · exact .inl ⟨h2, fun hh => hh.2 h1⟩
            · exact .inr ⟨h1, h2⟩)
        exact .inr (.inr ⟨rfl, rfl, ⟨l, findS_new hS, like_like hL3 hl⟩, hL3⟩)

end Go.Proofs.YtjajnhemgphefaaGreatDoor
