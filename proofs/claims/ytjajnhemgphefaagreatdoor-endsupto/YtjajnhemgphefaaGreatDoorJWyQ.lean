/-
  The two engines in plain data: what an insertion, a tick and a question come to is one.
  What holds of rules that were let in, in plain data.
  An engine is made, or refused: the code.
-/
import Derived.Test.YtjajnhemgphefaaGreatDoorJRules
import Derived.Test.YtjajnhemgphefaaGreatDoorJWyK
import Derived.Test.YtjajnhemgphefaaGreatDoorJWyN
import Derived.Test.YtjajnhemgphefaaGreatDoorJEgT
namespace Go.Proofs.YtjajnhemgphefaaGreatDoor
open Go.RowKit Go.Shelf
set_option linter.unusedVariables false
set_option linter.unusedSimpArgs false

theorem arity_one (x : ByteArray) : ∀ (l : List Am), arityL l x = (arOf l x.data.toList).getD 0
  | [] => rfl
  | a :: l => by
    rw [arOf_cons]
    unfold arityL
    rw [sameB_data]
    by_cases h : (a.rel.data.toList == x.data.toList) = true
    · rw [if_pos h, if_pos h]; rfl
    · rw [if_neg h, if_neg h]; exact arity_one x l
theorem arity_R (rs : List Rl) (x : ByteArray) : arityL (amsR rs) x = arR rs x := arity_one x _
theorem asked_one (rs : List Rl) (a : Am) : askedE rs a = ckR rs a := by unfold askedE ckR; rw [arity_R]
theorem basic_one (rs : List Rl) (x : ByteArray) : basicB rs x = (!derB rs x && decide (0 < arR rs x)) := by unfold basicB; rw [arity_R]; rfl
theorem fixed_one (a : Am) : fixedG a = if groundB a = true then some ⟨a.rel, a.args.map (·.name)⟩ else none := by
  unfold fixedG groundB
  show (if a.args.any varB = true then _ else _) = _
  cases a.args.any varB <;> rfl
theorem ground_gr {a : Am} (h : groundB a = true) (h2 : a.args.length = 1 ∨ a.args.length = 2) : toGr (groundA nms0 a) = ⟨a.rel, a.args.map (·.name)⟩ := by
  have hn := ground_names h
  obtain ⟨rel, args⟩ := a
  simp only at hn h2
  rcases h2 with h2 | h2
  · match args, h2 with
    | [t], _ =>
      have h1 := hn t (by simp)
      unfold toGr groundA xOf yOf
      simp only [List.map_cons, List.map_nil, ofT_name h1]
      rw [if_pos (by exact emptyB_e)]
  · match args, h2 with
    | [t, u], _ =>
      have h1 := hn t (by simp)
      have h2 := hn u (by simp)
      unfold toGr groundA xOf yOf
      simp only [List.map_cons, List.map_nil, ofT_name h1, ofT_name h2]
      rw [if_neg (by intro h; exact h2 ((empty_iff _).1 h))]
theorem names_one {l : List Tm} (hn : ∀ t ∈ l, t.name ≠ eB) : ∀ (vs : List ByteArray), nmL vs l = addL vs (l.map (·.name)) := by
  induction l with
  | nil => intro vs; rfl
  | cons t l ih =>
    intro vs
    have h1 : nmStep vs t = seenL vs t.name := by unfold nmStep; rw [if_neg (fun h => hn t (by simp) ((empty_iff _).1 h))]
    show nmL (nmStep vs t) l = addL (seenL vs t.name) (l.map (·.name))
    rw [h1]; exact ih (fun u hu => hn u (List.mem_cons_of_mem _ hu)) _
/-- A fact, its time, whether the state is made of it. -/
abbrev Dk := Gd × Int × Bool
/-- The code's engine and the document's own are one, but for their feeds. -/
structure RelE (e : Eg) (y : Er) (ds : List Dk) : Prop where
  rs : e.rs = y.rs
  win : e.win = y.win
  lat : e.lat = y.lat
  que : e.que = y.que
  mark : e.mark = y.mark
  clk : y.clock - y.lat ≤ y.mark ∧ 0 ≤ y.clock ∧ y.clock ≤ 1000000
  names : e.names = y.names
  ne : eB ∉ y.names
  kept : e.kept = ds.map (fun d => (d.1, d.2.1))
  facts : SameF ds y.facts
  least : LeastM e.rs (begE e.win ds ++ givenL e.rs) e.M
  beg : ∀ d ∈ ds, d.2.2 = true → e.mark < d.2.1 + e.win
  nodup : y.state.Nodup
  sok : ∀ g ∈ y.state, GrOk y.rs y.names g
  state : ∀ g, g ∈ y.state ↔ Dv y.rs (begG y.win y.facts y.mark) g
theorem has_one {ds : List Dk} {fs : List Fk} (hs : SameF ds fs) (g : Gd) (t : Int) : hasD (ds.map (fun d => (d.1, d.2.1))) (g, t) = fs.any (fun f => sameG f.1 (toGr g) && decide (f.2.1 = t)) := by
  unfold SameF at hs
  subst hs
  unfold hasD
  rw [List.any_map, List.any_map, Bool.eq_iff_iff, List.any_eq_true, List.any_eq_true]
  simp only [Function.comp_apply, sameD_iff, Bool.and_eq_true, sameG_iff, decide_eq_true_eq, Prod.mk.injEq]
  constructor
  · rintro ⟨d, hd, h1, h2⟩; exact ⟨d, hd, by rw [h1], h2.symm⟩
  · rintro ⟨d, hd, h1, h2⟩; exact ⟨d, hd, (toGr_inj h1).symm, h2.symm⟩
theorem ck_two {e : Eg} (hok : EgOk e) {a : Am} (hc : ckR e.rs a = 0) : a.args.length = 1 ∨ a.args.length = 2 := by
  obtain ⟨h1, h2⟩ := ck_zero hc
  have hm := rel_mem h1
  unfold relsR at hm
  obtain ⟨b, hb, hr⟩ := List.mem_map.1 hm
  have := hok.rs.arity b hb
  rw [hr] at this
  omega
theorem ins_rel {e : Eg} {y : Er} {ds : List Dk} (h : RelE e y ds) (hok : EgOk e) (s : ByteArray) (t : Int) :
    (insR e s t).1 = (insD y s t).1 ∧ ∃ ds', RelE (insR e s t).2 (insD y s t).2 ds' := by
  obtain ⟨rs, win, lat, que, mark, names, kept, M, fds⟩ := e
  obtain ⟨rs', win', lat', que', clock, mark', facts, names', state, feeds⟩ := y
  obtain rfl : rs' = rs := h.rs.symm
  obtain rfl : win' = win := h.win.symm
  obtain rfl : mark' = mark := h.mark.symm
  obtain rfl : names' = names := h.names.symm
  unfold insR insD
  rw [one_same]
  cases ha : atomR s with
  | none => exact ⟨rfl, ds, h⟩
  | some a =>
    simp only [fixed_one]
    cases hg : groundB a with
    | false => exact ⟨rfl, ds, h⟩
    | true =>
      simp only [if_pos trivial, Bool.true_eq_false, if_false, basic_one, arity_R]
      cases hd : derB rs' a.rel with
      | true => simp only [Bool.not_true, Bool.false_and, if_true]; exact ⟨trivial, ds, h⟩
      | false =>
        simp only [Bool.not_false, Bool.true_and, Bool.false_eq_true, if_false]
        by_cases h0 : arR rs' a.rel = 0
        · have : ckR rs' a = 7 := by unfold ckR; rw [if_pos h0]
          rw [this, h0]
          simp only [if_pos, ne_eq, Int.reduceEq, not_false_eq_true, Nat.lt_irrefl, decide_false]
          exact ⟨trivial, ds, h⟩
        · rw [if_neg (c := decide (0 < arR rs' a.rel) = false) (by simp; omega)]
          by_cases h1 : arR rs' a.rel = a.args.length
          · have hc : ckR rs' a = 0 := by unfold ckR; rw [if_neg h0, if_pos h1]
            rw [hc]
            simp only [ne_eq, not_true_eq_false, if_false, h1]
            by_cases ht : 0 ≤ t ∧ t ≤ 1000000
            · rw [if_neg (by simpa using ht), if_neg (by simpa using ht)]
              have h2 := ck_two hok hc
              have hgr := ground_gr hg h2
              have hnm := names_one (ground_names hg) names'
              unfold accR overB
              by_cases ho : t + win' ≤ mark'
              · rw [if_pos (by simpa using ho), if_pos ho]; exact ⟨rfl, ds, h⟩
              · rw [if_neg (by simpa using ho), if_neg ho]
                have hh := has_one h.facts (groundA nms0 a) t
                rw [hgr, ← h.kept] at hh
                rw [← hh]
                by_cases hb : hasD kept (groundA nms0 a, t) = true
                · rw [if_pos hb, if_pos hb]; exact ⟨rfl, ds, h⟩
                · rw [if_neg hb, if_neg hb]
                  have hl : facts.length = kept.length := by
                    have h1 : kept = _ := h.kept
                    have h2 : facts = _ := h.facts
                    rw [h1, h2]; simp
                  have h24 : kept.length ≤ 24 := hok.k24
                  rw [hnm, hl]
                  by_cases hf : kept.length = 24 ∨ 8 < (addL names' (a.args.map (·.name))).length
                  · rw [if_pos hf, if_pos (by omega)]; exact ⟨rfl, ds, h⟩
                  · rw [if_neg hf, if_neg (by omega)]
                    refine ⟨rfl, ds ++ [(groundA nms0 a, t, false)], ⟨h.rs, h.win, h.lat, h.que, h.mark, h.clk, rfl, ?_, ?_, ?_, ?_, ?_, h.nodup, ?_, ?_⟩⟩
                    · show eB ∉ addL names' (a.args.map (·.name))
                      intro hm
                      rcases (addL_mem _ _ _).1 hm with hm | hm
                      · exact h.ne hm
                      · obtain ⟨u, hu, he⟩ := List.mem_map.1 hm
                        exact ground_names hg u hu he
                    · show kept ++ _ = _
                      rw [List.map_append, ← h.kept]; rfl
                    · show SameF _ (facts ++ _)
                      have hf2 := h.facts
                      unfold SameF at hf2 ⊢
                      rw [List.map_append, ← hf2]
                      simp [hgr]
                    · show LeastM rs' (begE win' (ds ++ _) ++ givenL rs') M
                      have : begE win' (ds ++ [(groundA nms0 a, t, false)]) = begE win' ds := by unfold begE; simp
                      rw [this]; exact h.least
                    · intro d hd hb
                      rcases List.mem_append.1 hd with hd | hd
                      · exact h.beg d hd hb
                      · simp only [List.mem_cons, List.not_mem_nil, or_false] at hd
                        subst hd; cases hb
                    · intro g hg'
                      have := h.sok g hg'
                      exact ⟨this.rel, fun x hx => (addL_mem _ _ _).2 (.inl (this.mem x hx))⟩
                    · intro g
                      have : begG win' (facts ++ [((⟨a.rel, a.args.map (·.name)⟩ : Gr), t, false)]) mark' = begG win' facts mark' := by unfold begG; simp
                      show g ∈ state ↔ Dv rs' (begG win' (facts ++ _) mark') g
                      rw [this]; exact h.state g
            · rw [if_pos (by simpa using ht), if_pos (by simpa using ht)]; exact ⟨rfl, ds, h⟩
          · have hc : ckR rs' a = 4 := by unfold ckR; rw [if_neg h0, if_neg h1]
            rw [hc]
            simp only [ne_eq, h1, not_false_eq_true, if_true, Int.reduceEq]
            exact ⟨trivial, ds, h⟩
/-- What is kept when the watermark has come to m. -/
def keptD (win m : Int) (fs : List Fk) : List Fk := (fs.filter (fun f => !decide (f.2.1 + win ≤ m))).map (fun f => (f.1, f.2.1, decide (f.2.1 ≤ m)))
def nowD (win m : Int) (fs : List Fk) : List Gr := ((keptD win m fs).filter (fun f => f.2.2)).map (·.1)
def textsD (st : List Gr) (rel : ByteArray) : List ByteArray := sortS [] ((st.filter (fun g => g.rel.toList == rel.toList)).map toldW)
def newsD (was now : List Gr) (rel : ByteArray) (m : Int) : List Rc := changeL 3 (textsD was rel) (textsD now rel) ++ changeL 2 (textsD now rel) (textsD was rel) ++ [⟨4, 0, ⟨#[]⟩, m⟩]
def moveD (que m : Int) (was now : List Gr) (f : Fr) : Fr :=
  if f.behind = true then f
  else if que < ((f.que.length + (newsD was now f.rel m).length : Nat) : Int) then { f with behind := true, que := [], snap := [] }
  else { f with que := f.que ++ newsD was now f.rel m }
def clkD (y : Er) (c : Int) : Int := if y.clock < c then c else y.clock
/-- What Tick does. -/
def TickD (y : Er) (c : Int) (y' : Er) (r : Int × Int) : Prop :=
  (¬ (0 ≤ c ∧ c ≤ 1000000) ∧ y' = y ∧ r = (0, 6)) ∨
  ((0 ≤ c ∧ c ≤ 1000000) ∧ ((clkD y c - y.lat ≤ y.mark ∧ y' = { y with clock := clkD y c } ∧ r = (y.mark, 0)) ∨
    (y.mark < clkD y c - y.lat ∧ r = (clkD y c - y.lat, 0) ∧ ∃ st, IsLeast y.rs (nowD y.win (clkD y c - y.lat) y.facts) y.names st ∧
      y' = { y with clock := clkD y c, mark := clkD y c - y.lat, facts := keptD y.win (clkD y c - y.lat) y.facts, state := st, feeds := y.feeds.map (moveD y.que (clkD y c - y.lat) y.state st) })))
/-- The facts of the code's engine when the watermark has come to m. -/
def keptS (win m : Int) (ds : List Dk) : List Dk := (ds.filter (fun d => !decide (d.2.1 + win ≤ m))).map (fun d => (d.1, d.2.1, decide (d.2.1 ≤ m)))
theorem same_kept {win m : Int} {ds : List Dk} {fs : List Fk} (h : SameF ds fs) : SameF (keptS win m ds) (keptD win m fs) := by
  unfold SameF at h ⊢
  subst h
  unfold keptD keptS
  rw [List.filter_map, List.map_map, List.map_map]
  rfl
theorem kept_beg {win m : Int} (ds : List Dk) : ∀ d ∈ keptS win m ds, m < d.2.1 + win := by
  intro d hd
  unfold keptS at hd
  obtain ⟨d0, h0, rfl⟩ := List.mem_map.1 hd
  have := (List.mem_filter.1 h0).2
  simp at this
  simpa using this
theorem kept_list {win m : Int} (ds : List Dk) : (ds.map (fun d => (d.1, d.2.1))).filter (fun d => !overB win m d.2) = (keptS win m ds).map (fun d => (d.1, d.2.1)) := by
  unfold keptS overB
  rw [List.filter_map, List.map_map]
  rfl
theorem facts_list {e : Eg} {ds : List Dk} (hk : e.kept = ds.map (fun d => (d.1, d.2.1))) (m : Int) : factsF e m = begE e.win (keptS e.win m ds) := by
  unfold factsF begE
  rw [hk, kept_list]
  unfold keptS
  rw [List.map_map, List.filter_map, List.map_map, List.filter_map, List.map_map]
  rfl
theorem now_beg {win m : Int} (fs : List Fk) : nowD win m fs = begG win (keptD win m fs) m := by
  unfold nowD begG
  congr 1
  apply List.filter_congr
  intro f hf
  unfold keptD at hf
  obtain ⟨f0, h0, rfl⟩ := List.mem_map.1 hf
  have := (List.mem_filter.1 h0).2
  simp at this
  simp [this]
theorem tick_rel {e e' : Eg} {y y' : Er} {ds : List Dk} (h : RelE e y ds) (hok : EgOk e) {c : Int} {r r' : Int × Int} (h1 : TickE e c e' r) (h2 : TickD y c y' r') : r = r' ∧ ∃ ds', RelE e' y' ds' := by
  have hcl := h.clk
  have hlat := h.lat
  have hmark := h.mark
  rcases h1 with ⟨hc, rfl, rfl⟩ | ⟨hc, hr, h1⟩
  · rcases h2 with ⟨_, rfl, rfl⟩ | ⟨hc', _⟩
    · exact ⟨rfl, ds, h⟩
    · exact absurd hc' hc
  · rcases h2 with ⟨hc', _⟩ | ⟨_, h2⟩
    · exact absurd hc hc'
    · have hmono : clkD y c - y.lat ≤ y.mark ↔ c - e.lat ≤ e.mark := by
        unfold clkD; split <;> omega
      rcases h1 with ⟨hle, rfl⟩ | ⟨hlt, hm⟩
      · rcases h2 with ⟨hle2, rfl, rfl⟩ | ⟨hlt2, _⟩
        · refine ⟨by rw [hr, hmark], ds, ⟨h.rs, h.win, h.lat, h.que, h.mark, ?_, h.names, h.ne, h.kept, h.facts, h.least, h.beg, h.nodup, h.sok, h.state⟩⟩
          refine ⟨hle2, ?_⟩
          show 0 ≤ clkD y c ∧ clkD y c ≤ 1000000
          unfold clkD; split <;> omega
        · have := hmono.2 hle; omega
      · rcases h2 with ⟨hle2, _⟩ | ⟨hlt2, rfl, st, hst, rfl⟩
        · have := hmono.1 hle2; omega
        · have hck : clkD y c = c := by unfold clkD; split <;> omega
          obtain ⟨M', fds', hM, hl, hfd, rfl⟩ := hm
          rw [facts_list h.kept] at hM
          have hm1 : c - e.lat ≤ 1000000 := by have := hok.lat; omega
          refine ⟨by rw [hr, hck, hlat], keptS e.win (c - e.lat) ds, ⟨h.rs, h.win, h.lat, h.que, by show c - e.lat = clkD y c - y.lat; rw [hck, hlat], ?_, h.names, h.ne, ?_, ?_, hM, fun d hd _ => kept_beg ds d hd, hst.1.nodup, hst.1.ok, ?_⟩⟩
          · show clkD y c - y.lat ≤ clkD y c - y.lat ∧ 0 ≤ clkD y c ∧ clkD y c ≤ 1000000
            rw [hck]; omega
          · show e.kept.filter _ = _
            rw [h.kept, kept_list]
          · show SameF _ (keptD y.win (clkD y c - y.lat) y.facts)
            rw [hck, ← h.win, ← hlat]; exact same_kept h.facts
          · intro g
            show g ∈ st ↔ Dv y.rs (begG y.win (keptD y.win (clkD y c - y.lat) y.facts) (clkD y c - y.lat)) g
            rw [← now_beg]; exact hst.2 g

end Go.Proofs.YtjajnhemgphefaaGreatDoor

namespace Go.Proofs.YtjajnhemgphefaaGreatDoor
open Go.RowKit Go.Shelf
set_option linter.unusedVariables false
set_option linter.unusedSimpArgs false

/-- The numbers of variables: each that is new is told by a variable. -/
structure Nums (L : List Tm) (n m : Nat) : Prop where
  le : n ≤ m
  lt : ∀ t ∈ L, t.num < m ∨ t.num = 0
  all : ∀ v, n ≤ v → v < m → ∃ t ∈ L, t.name = eB ∧ t.num = v
theorem Nums.app {L L' : List Tm} {n m k : Nat} (h : Nums L n m) (h' : Nums L' m k) : Nums (L ++ L') n k := by
  refine ⟨Nat.le_trans h.le h'.le, fun t ht => ?_, fun v h1 h2 => ?_⟩
  · have := h'.le
    rcases List.mem_append.1 ht with ht | ht
    · rcases h.lt t ht with h | h
      · left; omega
      · exact .inr h
    · exact h'.lt t ht
  · by_cases hv : v < m
    · obtain ⟨t, ht, h3⟩ := h.all v h1 hv
      exact ⟨t, List.mem_append_left _ ht, h3⟩
    · obtain ⟨t, ht, h3⟩ := h'.all v (by omega) h2
      exact ⟨t, List.mem_append_right _ ht, h3⟩
theorem nums_one (vs : List ByteArray) (t : RT) : Nums [argT vs t] vs.length (argVs vs t).length := by
  unfold argT argVs
  by_cases h : t.kind = 2
  · rw [if_pos h, if_pos h]
    unfold seenL
    by_cases hs : seenN vs t.text < vs.length
    · rw [if_pos hs]
      exact ⟨Nat.le_refl _, fun u hu => by simp only [List.mem_cons, List.not_mem_nil, or_false] at hu; subst hu; exact .inl hs, fun v h1 h2 => by omega⟩
    · rw [if_neg hs]
      have hle : seenN vs t.text ≤ vs.length := List.findIdx_le_length
      refine ⟨by simp, fun u hu => ?_, fun v h1 h2 => ⟨_, List.mem_cons_self, rfl, ?_⟩⟩
      · simp only [List.mem_cons, List.not_mem_nil, or_false] at hu; subst hu; left; simp; omega
      · simp at h2; show seenN vs t.text = v; omega
  · rw [if_neg h, if_neg h]
    exact ⟨Nat.le_refl _, fun u hu => by simp only [List.mem_cons, List.not_mem_nil, or_false] at hu; subst hu; exact .inr rfl, fun v h1 h2 => by omega⟩
theorem args_nums : ∀ (us : List RT) (vs : List ByteArray) (L : List Tm) (vsF : List ByteArray) (n : Nat), argsR vs us = some (L, vsF, n) → Nums L vs.length vsF.length ∧ 1 ≤ L.length
  | [], vs, L, vsF, n, h => by simp [argsR] at h
  | [a], vs, L, vsF, n, h => by simp [argsR] at h
  | a :: b :: us, vs, L, vsF, n, h => by
    unfold argsR at h
    split at h
    · simp only [Option.some.injEq, Prod.mk.injEq] at h
      obtain ⟨rfl, rfl, _⟩ := h
      exact ⟨nums_one vs a, by simp⟩
    · split at h
      · rename_i l v' k hr
        simp only [Option.some.injEq, Prod.mk.injEq] at h
        obtain ⟨rfl, rfl, _⟩ := h
        exact ⟨(nums_one vs a).app (args_nums us _ _ _ _ hr).1, by simp⟩
      · cases h
theorem body_nums : ∀ (n f : Nat) (us : List RT) (vs : List ByteArray) (bs : List Am) (m : Nat), us.length ≤ n → bodyR f vs us = some (bs, m) → (∃ k, Nums (bs.flatMap (·.args)) vs.length k) ∧ ∀ a ∈ bs, 1 ≤ a.args.length
  | n, f, us, vs, bs, m, hn, h => by
    obtain ⟨t, us1, rfl, ⟨_, rfl, _⟩ | ⟨_, r, p, us2, l, vs', k, f', bs', m', rfl, h1, h2, rfl, _⟩⟩ := bodyR_step h
    · exact ⟨⟨vs.length, ⟨Nat.le_refl _, fun _ h => by simp at h, fun v h1 h2 => by omega⟩⟩, fun _ h => by cases h⟩
    · cases n with
      | zero => simp at hn
      | succ n =>
        obtain ⟨⟨q, ih⟩, ih2⟩ := body_nums n f' (us2.drop k) vs' bs' m' (by simp at hn ⊢; omega) h2
        obtain ⟨a1, a2⟩ := args_nums us2 _ _ _ _ h1
        refine ⟨⟨q, ?_⟩, fun a ha => ?_⟩
        · rw [List.flatMap_cons]; exact a1.app ih
        · rcases List.mem_cons.1 ha with rfl | ha
          · exact a2
          · exact ih2 a ha
theorem read_nums : ∀ (n f : Nat) (us : List RT) (rs : List Rl), us.length ≤ n → readR f us = some rs → ∀ r ∈ rs, (∃ k, Nums (ruleTerms r) 0 k) ∧ ∀ a ∈ ruleAms r, 1 ≤ a.args.length
  | n, f, us, rs, hn, h => by
    obtain ⟨t, us1, rfl, ⟨_, rfl⟩ | ⟨_, p, us2, l, vs, k, bs, m, f', rs', rfl, h1, h2, h3, rfl⟩⟩ := readR_step h
    · intro r hr; cases hr
    · cases n with
      | zero => simp at hn
      | succ n =>
        have ih := read_nums n f' ((us2.drop k).drop (m + 1)) rs' (by simp at hn ⊢; omega) h3
        intro r hr
        rcases List.mem_cons.1 hr with rfl | hr
        · obtain ⟨a1, a2⟩ := args_nums us2 _ _ _ _ h1
          obtain ⟨⟨q, b1⟩, b2⟩ := body_nums _ _ _ _ _ _ (Nat.le_refl _) h2
          refine ⟨⟨q, a1.app b1⟩, fun a ha => ?_⟩
          rcases List.mem_cons.1 ha with rfl | ha
          · exact a2
          · exact b2 a ha
        · exact ih r hr
theorem first_none {p : Rl → Bool} : ∀ {rs : List Rl} {i : Nat}, firstR p rs i = none → ∀ r ∈ rs, p r = false
  | [], _, _, r, hr => by cases hr
  | r0 :: rs, i, h, r, hr => by
    unfold firstR at h
    split at h
    · cases h
    · rename_i hp
      rcases List.mem_cons.1 hr with rfl | hr
      · simpa using hp
      · exact first_none h r hr
theorem many_none : ∀ {rs : List Rl} {vs : List ByteArray} {i : Nat}, vs.length ≤ 8 → manyFromR vs rs i = none → ∀ k, (namesR vs (rs.take k)).length ≤ 8
  | [], vs, i, h8, _, k => by simpa [namesR] using h8
  | r :: rs, vs, i, h8, h, k => by
    cases k with
    | zero => simpa [namesR] using h8
    | succ k =>
      unfold manyFromR at h
      split at h
      · cases h
      · rename_i hn
        exact many_none (rs := rs) (by omega) h k
theorem names_flat : ∀ (rs : List Rl) (vs : List ByteArray), namesR vs rs = nmL vs (tmsOf (amsR rs))
  | [], vs => rfl
  | r :: rs, vs => by
    have ih := names_flat rs (nmL vs (ruleTerms r))
    show namesR (nmL vs (ruleTerms r)) rs = _
    rw [ih, ← nmL_append]
    congr 1
    show _ = (ruleAms r ++ amsR rs).flatMap (·.args)
    rw [List.flatMap_append]; rfl
/-- What holds of rules that are let in. -/
structure RsGood (s : ByteArray) (rs : List Rl) : Prop where
  new : NewOk s rs
  two : RulesTwo (arR rs) rs
  fine : ∀ Nm : List ByteArray, Nm.length ≤ 8 → eBy ∉ Nm → (∀ x ∈ namesR [] rs, x ∈ Nm) → RsFine rs Nm
  ne : eB ∉ namesR [] rs
  names : namesR [] rs = nmL [] (tmsOf (amsR rs))
theorem flatG4 : ∀ (rs : List Rl), (∀ r ∈ rs, r.body.length ≤ 3) → (rs.flatMap amsG).length ≤ rs.length * 4
  | [], _ => by simp
  | r :: rs, h => by
    have h1 := h r List.mem_cons_self
    have h2 := flatG4 rs (fun x hx => h x (List.mem_cons_of_mem _ hx))
    rw [List.flatMap_cons, List.length_append, List.length_cons]
    have : (amsG r).length = r.body.length + 1 := rfl
    omega
theorem parse_good (s : ByteArray) (rs : List Rl) (h : parseD s = .ok rs) : RsGood s rs := by
  have hsz := parseD_sz s rs h
  have h' := h
  unfold parseD at h
  split at h
  · cases h
  rename_i hL
  split at h
  · cases h
  rename_i ho
  split at h
  · cases h
  rename_i rs' hr
  split at h
  · cases h
  rename_i hsd
  injection h with h
  subst h
  have hsd0 : (soundR rs').1 = 0 := by simpa using hsd
  obtain ⟨rs2, q1, q2, q3⟩ := rules_read ((refToks s).length + 1) (refToks s) (lk0 false) (by omega) rfl rfl rfl (refToks_end s) (by simpa [okO] using ho) (by decide)
  rw [hr] at q1
  injection q1 with q1
  subst q1
  have h8 : rs'.length ≤ 8 := by simpa [lk0] using q2
  have hnums := read_nums _ _ _ _ (Nat.le_refl _) hr
  have hA : ∀ r ∈ rs', arityBad (amsR rs') r = false := by
    unfold soundR at hsd0
    split at hsd0
    · cases hsd0
    · rename_i hf; exact first_none hf
  have hB : ∀ r ∈ rs', looseB r = false := by
    unfold soundR at hsd0
    split at hsd0
    · cases hsd0
    · split at hsd0
      · cases hsd0
      · rename_i hf; exact first_none hf
  have hC : manyFromR [] rs' 0 = none := by
    unfold soundR at hsd0
    split at hsd0
    · cases hsd0
    · split at hsd0
      · cases hsd0
      · split at hsd0
        · cases hsd0
        · assumption
  have har : ∀ a ∈ rs'.flatMap ruleAms, a.args.length = arR rs' a.rel := by
    intro a ha
    obtain ⟨r, hr', ha'⟩ := List.mem_flatMap.1 ha
    have := hA r hr'
    unfold arityBad at this
    rw [List.any_eq_false] at this
    have h1 := this a ha'
    unfold amBad at h1
    rw [← arity_R]
    have h2 : arityL (amsR rs') a.rel = a.args.length := by simpa using h1
    exact h2.symm
  have hsafe : ∀ r ∈ rs', ∀ t ∈ r.head.args, t.name = eB → ∃ a ∈ r.body, ∃ u ∈ a.args, u.name = eB ∧ u.num = t.num := by
    intro r hr' t ht he
    have := hB r hr'
    unfold looseB at this
    rw [List.any_eq_false] at this
    have h1 := this t ht
    unfold tmLoose at h1
    have he' : t.name.toList.isEmpty = true := (empty_iff _).2 he
    rw [he'] at h1
    have h2 : boundR r.body t.num = true := by simpa using h1
    unfold boundR at h2
    obtain ⟨a, ha, h3⟩ := List.any_eq_true.1 h2
    obtain ⟨u, hu, h4⟩ := List.any_eq_true.1 h3
    unfold tmIs at h4
    simp only [Bool.and_eq_true, decide_eq_true_eq] at h4
    exact ⟨a, ha, u, hu, (empty_iff _).1 h4.1, h4.2⟩
  have hone : ∀ a ∈ rs'.flatMap ruleAms, 1 ≤ a.args.length ∧ a.args.length ≤ 2 := by
    intro a ha
    obtain ⟨r, hr', ha'⟩ := List.mem_flatMap.1 ha
    refine ⟨(hnums r hr').2 a ha', ?_⟩
    have := q3 r hr'
    rcases List.mem_cons.1 ha' with rfl | ha'
    · exact this.head.1
    · exact (this.body a ha').1
  have hsix : ∀ r ∈ rs', ∀ t ∈ ruleTerms r, t.num < 6 := by
    intro r hr' t ht
    obtain ⟨⟨k, hk⟩, _⟩ := hnums r hr'
    have hb : k ≤ 6 := by
      have hsub : ∀ v ∈ List.range k, v ∈ (r.body.flatMap (·.args)).map (·.num) := by
        intro v hv
        rw [List.mem_range] at hv
        obtain ⟨u, hu, h1, h2⟩ := hk.all v (Nat.zero_le _) hv
        unfold ruleTerms at hu
        rcases List.mem_append.1 hu with hu | hu
        · obtain ⟨a, ha, w, hw, h3, h4⟩ := hsafe r hr' u hu h1
          exact List.mem_map.2 ⟨w, List.mem_flatMap.2 ⟨a, ha, hw⟩, by omega⟩
        · exact List.mem_map.2 ⟨u, hu, h2⟩
      have hlen := few_any (List.range k) _ List.nodup_range hsub
      rw [List.length_range, List.length_map] at hlen
      have := flat_few (fun a : Am => a.args) 2 r.body (fun a ha => ((q3 r hr').body a ha).1)
      have := (q3 r hr').few
      omega
    rcases hk.lt t ht with h | h <;> omega
  have hnum : ∀ a ∈ rs'.flatMap ruleAms, ∀ t ∈ a.args, t.num < 6 := by
    intro a ha t ht
    obtain ⟨r, hr', ha'⟩ := List.mem_flatMap.1 ha
    refine hsix r hr' t ?_
    unfold ruleTerms
    rcases List.mem_cons.1 ha' with rfl | ha'
    · exact List.mem_append_left _ ht
    · exact List.mem_append_right _ (List.mem_flatMap.2 ⟨a, ha', ht⟩)
  have hrok : ∀ r ∈ rs', RuleOk r := by
    intro r hr'
    have h1 := hsz r hr'
    have h2 := q3 r hr'
    refine ⟨⟨h1.1.1, h2.head.1, fun t ht => ⟨h1.1.2 t ht, ?_⟩⟩, h2.few, fun a ha => ⟨(h1.2 a ha).1, (h2.body a ha).1, fun t ht => ⟨(h1.2 a ha).2 t ht, ?_⟩⟩⟩
    · have := hnum r.head (List.mem_flatMap.2 ⟨r, hr', List.mem_cons_self⟩) t ht; omega
    · have := hnum a (List.mem_flatMap.2 ⟨r, hr', List.mem_cons_of_mem _ ha⟩) t ht; omega
  have hnm := names_flat rs' []
  have hmem : ∀ y, y ∈ namesR [] rs' ↔ ∃ t ∈ tmsOf (amsR rs'), t.name ≠ eB ∧ y = t.name := by
    intro y; rw [hnm, nmL_mem]; simp
  have hhead : ∀ r ∈ rs', ∀ t ∈ r.head.args, t.name ≠ eB → t.name ∈ namesR [] rs' := fun r hr' t ht hne => (hmem _).2 ⟨t, List.mem_flatMap.2 ⟨r.head, List.mem_flatMap.2 ⟨r, hr', List.mem_cons_self⟩, ht⟩, hne, rfl⟩
  have hok : RsOk rs' := ⟨h8, hrok, fun a ha => ⟨har a ha, by have := hone a ha; omega⟩, hnum, hsafe⟩
  have hsz2 : s.size ≤ 1200 := by have := size_le_runes s; rw [← runes_count] at this; omega
  have hps := parse_same s (by omega) hsz2
  rw [h'] at hps
  have hpr : parseR s = .ok rs' := by
    cases hp : parseR s with
    | error ep => rw [hp] at hps; cases hps
    | ok rs3 =>
      rw [hp] at hps
      simp only at hps
      split at hps
      · cases hps
      · injection hps with hps; rw [hps]
  have hvar : ∀ (a : Am) (v : Nat), VarIn a v ↔ ∃ t ∈ a.args, t.name = eB ∧ t.num = v := by
    intro a v
    unfold VarIn
    constructor
    · rintro ⟨t, h1, h2, h3⟩; exact ⟨t, h1, (empty_iff _).1 h2, h3⟩
    · rintro ⟨t, h1, h2, h3⟩; exact ⟨t, h1, (empty_iff _).2 h2, h3⟩
  have hsv : ∀ r ∈ rs', ∀ v, VarIn r.head v → ∃ a ∈ r.body, VarIn a v := by
    intro r hr' v hv
    obtain ⟨t, h1, h2, h3⟩ := (hvar _ _).1 hv
    obtain ⟨a, ha, u, hu, h4, h5⟩ := hsafe r hr' t h1 h2
    exact ⟨a, ha, (hvar _ _).2 ⟨u, hu, h4, h5.trans h3⟩⟩
  refine ⟨⟨hpr, ?_, hok, many_none (by simp) hC, hhead, ?_⟩, ⟨fun r hr' a ha => ?_, hsv⟩, fun Nm n8 ne hsub => ⟨fun r hr' => ⟨(q3 r hr').few, fun a ha => ?_, hsv r hr'⟩, n8, ne, fun r hr' t ht he => ?_, ?_⟩, ?_, hnm⟩
  · unfold rulesR
    rw [← runes_count, if_neg hL, hpr]
    simp only
    rw [checkS_eq, hsd0]; rfl
  · intro x hx
    obtain ⟨t, ht, _, rfl⟩ := (hmem x).1 hx
    obtain ⟨a, ha, ht'⟩ := List.mem_flatMap.1 ht
    obtain ⟨r, hr', ha'⟩ := List.mem_flatMap.1 ha
    rcases List.mem_cons.1 ha' with rfl | ha'
    · exact ((hrok r hr').head.tms t ht').name
    · exact (((hrok r hr').ams a ha').tms t ht').name
  · have hm : a ∈ rs'.flatMap ruleAms := List.mem_flatMap.2 ⟨r, hr', ha⟩
    exact ⟨⟨by have := hone a hm; omega, hnum a hm⟩, har a hm⟩
  · have hm : a ∈ rs'.flatMap ruleAms := List.mem_flatMap.2 ⟨r, hr', ha⟩
    exact ⟨(hone a hm).2, fun t ht => by have := hnum a hm t ht; omega⟩
  · refine hsub _ (hhead r hr' t ht (fun e => ?_))
    rw [e] at he
    rw [show emptyB eB = true from emptyB_e] at he; cases he
  · have := flatG4 rs' (fun r hr' => (q3 r hr').few); omega
  · intro hm
    obtain ⟨t, _, h1, h2⟩ := (hmem _).1 hm
    exact h1 h2.symm

end Go.Proofs.YtjajnhemgphefaaGreatDoor

namespace Go.Proofs.YtjajnhemgphefaaGreatDoor
open Go.RowKit Go.Shelf
set_option linter.unusedVariables false
set_option linter.unusedSimpArgs false

def argsOk (win lat que : Int) : Prop := (1 ≤ win ∧ win ≤ 1000) ∧ (0 ≤ lat ∧ lat ≤ 1000) ∧ 1 ≤ que ∧ que ≤ 50
def NewC (s : ByteArray) (win lat que : Int) (w : World) (e : Ending) (w' : World) : Prop :=
  match parseD s with
  | .error (c, _) => e = .returned (.tuple #[.pointer none, .int .i64 c]) ∧ Below w.heap.size w w'
  | .ok rs => (argsOk win lat que ∧ NewPost rs win lat que w e w') ∨ (¬ argsOk win lat que ∧ e = .returned (.tuple #[.pointer none, .int .i64 6]) ∧ Below w.heap.size w w')

set_option maxRecDepth 100000 in
set_option maxHeartbeats 2000000 in
theorem newC_any (s : ByteArray) (win lat que : Int) (w : World) (hs : s.size ≤ 1048576) (hT : Lib.Utf8Tabs 0 1 w) :
    Calls Tryz.prog 39 #[.string s, .int .i64 win, .int .i64 lat, .int .i64 que] w (NewC s win lat que w) := by
  have hrd : Hid _ := readAll_any s w (by omega) hT
  have hsame := (rules_same s).1
  cases hp : parseD s with
  | error cp =>
    obtain ⟨c, p⟩ := cp
    have hc0 : c ≠ 0 := parseD_err s c p hp
    have hu : NewC s win lat que w = fun e w' => e = .returned (.tuple #[.pointer none, .int .i64 c]) ∧ Below w.heap.size w w' := by
      funext e w'; unfold NewC; rw [hp]
    rw [hu]
    have hrc : (rulesR s).2.1 = c := by
      unfold refRules at hsame
      rw [hp] at hsame
      simp only [Prod.mk.injEq] at hsame
      exact hsame.2.1.symm
    have hr2 : Hid (Calls Tryz.prog 30 #[.string s] w fun e w' => ∃ (p : Int), e = .returned (.tuple #[.slice none 0 0, .int .i64 c, .int .i64 p]) ∧ Below w.heap.size w w') := by
      refine Calls.mono hrd.out ?_
      rintro e w' ⟨hb, ⟨c', p', he, hc, hr⟩ | ⟨rs', v, b45, b87, he, hR, _, _, hr, _, _⟩⟩
      · rw [hr] at hrc
        obtain rfl : c' = c := hrc
        exact ⟨p', he, hb⟩
      · rw [hr] at hrc
        exact absurd hrc.symm hc0
    have hcb : (c == 0) = false := by simpa using hc0
    clear hrd hsame hu hT hp hrc
    go_enter Tryz.func39, Tryz.ntmps39
    go_wp2_with fail
    refine Calls.mono hr2.out ?_
    rintro e' W1 ⟨p', rfl, hb1⟩
    clear hr2
    go_wp2
    go_ret2
    exact ⟨rfl, hb1⟩
  | ok rs =>
    have hgood := parse_good s rs hp
    by_cases ha : argsOk win lat que
    · refine (new_any s rs win lat que w hgood.new (by omega) hT ha.1 ha.2.1 ha.2.2).mono ?_
      intro e w' h
      unfold NewC; rw [hp]; exact .inl ⟨ha, h⟩
    · have hr2 : Hid (Calls Tryz.prog 30 #[.string s] w fun e w' => ∃ (ra : Option Addr) (rc : Nat), e = .returned (.tuple #[.slice ra rs.length rc, .int .i64 0, .int .i64 0]) ∧ Below w.heap.size w w') := by
        refine Calls.mono hrd.out ?_
        rintro e w' ⟨hb, ⟨c', p', he, hc, hr⟩ | ⟨rs', v, b45, b87, he, hR, _, _, hr, hp', _⟩⟩
        · have := hgood.new.rules
          rw [hr] at this
          exact absurd this hc
        · have hrs : rs' = rs := by
            have := hp'.symm.trans hgood.new.parse
            injection this
          subst hrs
          obtain ⟨ra, rc, hf⟩ := hR.form
          subst hf
          exact ⟨ra, rc, he, hb⟩
      have hu : NewC s win lat que w = fun e w' => (argsOk win lat que ∧ NewPost rs win lat que w e w') ∨ (¬ argsOk win lat que ∧ e = .returned (.tuple #[.pointer none, .int .i64 6]) ∧ Below w.heap.size w w') := by
        funext e w'; unfold NewC; rw [hp]
      rw [hu]
      have HA : Hid (¬ argsOk win lat que) := ha
      have hwi : Hid (∀ (n l m : Int) W, Calls Tryz.prog 43 #[.int .i64 n, .int .i64 l, .int .i64 m] W fun e' w' => e' = .returned (.bool (decide (l ≤ n) && decide (n ≤ m))) ∧ W = w') := fun n l m W => by
        refine (isWithin_any n l m W).mono ?_
        rintro e' w' ⟨h1, h2⟩
        exact ⟨h1, h2.symm⟩
      have hpart : ¬ (1 ≤ win ∧ win ≤ 1000) ∨ ((1 ≤ win ∧ win ≤ 1000) ∧ ¬ (0 ≤ lat ∧ lat ≤ 1000)) ∨ ((1 ≤ win ∧ win ≤ 1000) ∧ (0 ≤ lat ∧ lat ≤ 1000) ∧ ¬ (1 ≤ que ∧ que ≤ 50)) := by
        unfold argsOk at ha; omega
      clear hrd hsame hu hT hp ha hgood
      go_enter Tryz.func39, Tryz.ntmps39
      go_wp2_with fail
      refine Calls.mono hr2.out ?_
      rintro e' W1 ⟨ra, rc, rfl, hb1⟩
      clear hr2
      have HB : Hid (Below w.heap.size w W1) := hb1
      go_wp2_with fail
      refine (hwi.out win 1 1000 _).mono ?_
      rintro e' w' ⟨rfl, hw'⟩
      subst hw'
      rcases hpart with hc | ⟨hc, hc2⟩ | ⟨hc, hc2, hc3⟩
      · rw [show (decide (1 ≤ win) && decide (win ≤ 1000)) = false by simpa using hc]
        clear hc hwi
        go_wp2
        go_ret2
        exact .inr ⟨HA.out, rfl, HB.out⟩
      · rw [show (decide (1 ≤ win) && decide (win ≤ 1000)) = true by simpa using hc]
        go_wp2_with fail
        refine (hwi.out lat 0 1000 _).mono ?_
        rintro e' w' ⟨rfl, hw'⟩
        subst hw'
        rw [show (decide (0 ≤ lat) && decide (lat ≤ 1000)) = false by simpa using hc2]
        clear hc hc2 hwi
        go_wp2
        go_ret2
        exact .inr ⟨HA.out, rfl, HB.out⟩
      · rw [show (decide (1 ≤ win) && decide (win ≤ 1000)) = true by simpa using hc]
        go_wp2_with fail
        refine (hwi.out lat 0 1000 _).mono ?_
        rintro e' w' ⟨rfl, hw'⟩
        subst hw'
        rw [show (decide (0 ≤ lat) && decide (lat ≤ 1000)) = true by simpa using hc2]
        go_wp2_with fail
        refine (hwi.out que 1 50 _).mono ?_
        rintro e' w' ⟨rfl, hw'⟩
        subst hw'
        rw [show (decide (1 ≤ que) && decide (que ≤ 50)) = false by simpa using hc3]
        clear hc hc2 hc3 hwi
        go_wp2
        go_ret2
        exact .inr ⟨HA.out, rfl, HB.out⟩

end Go.Proofs.YtjajnhemgphefaaGreatDoor
