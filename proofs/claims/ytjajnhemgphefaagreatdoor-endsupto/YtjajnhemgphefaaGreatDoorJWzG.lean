/-
  The two engines in plain data: what is told until when, a new engine; what is wanted for the document's own.
  Pairs of engines, side by side.
  A pair of engines is moved: Insert, Tick.
  A pair of engines is asked until when something holds; which pair a number speaks of.
  A pair more: both make an engine, or both refuse.
-/
import Derived.Test.YtjajnhemgphefaaGreatDoorJWyQ
import Derived.Test.YtjajnhemgphefaaGreatDoorJWyT
namespace Go.Proofs.YtjajnhemgphefaaGreatDoor
open Go.RowKit Go.Shelf
set_option linter.unusedVariables false
set_option linter.unusedSimpArgs false

theorem rules_two {rs : List Rl} (h : RsOk rs) : RulesTwo (arR rs) rs := by
  refine ⟨fun r hr a ha => ?_, fun r hr v hv => ?_⟩
  · have hm : a ∈ rs.flatMap ruleAms := List.mem_flatMap.2 ⟨r, hr, ha⟩
    exact ⟨⟨(h.arity a hm).2, h.nums a hm⟩, (h.arity a hm).1⟩
  · obtain ⟨t, ht, h1, h2⟩ := hv
    obtain ⟨a, ha, u, hu, h3, h4⟩ := h.safe r hr t ht ((empty_iff _).1 h1)
    exact ⟨a, ha, u, hu, (empty_iff _).2 h3, h4.trans h2⟩
theorem rs_fine {e : Eg} (h : EgOk e) (hne : eB ∉ e.names) : RsFine e.rs e.names := by
  refine ⟨fun r hr => ⟨(h.rs.rok r hr).body, fun a ha => ?_, (rules_two h.rs).safe r hr⟩, h.n8, hne, fun r hr t ht he => h.nrs r hr t ht (fun e => ?_), ?_⟩
  · have hm : a ∈ e.rs.flatMap ruleAms := List.mem_flatMap.2 ⟨r, hr, ha⟩
    exact ⟨by have := (h.rs.arity a hm).2; omega, fun t ht => by have := h.rs.nums a hm t ht; omega⟩
  · rw [e] at he
    rw [show emptyB eB = true from emptyB_e] at he; cases he
  · have := flatG4 e.rs (fun r hr => (h.rs.rok r hr).body)
    have := h.rs.r8
    omega
theorem gr_ok {e : Eg} (h : EgOk e) {g : Gd} (h1 : g ∈ uni (relsR e.rs) e.names) (h2 : arOk (arR e.rs) g) : GrOk e.rs e.names (toGr g) := by
  obtain ⟨hr, hx, hy⟩ := mem_uni.1 h1
  unfold relsR at hr
  obtain ⟨a, ha, hrel⟩ := List.mem_map.1 hr
  have har := (h.rs.arity a ha).1
  rw [hrel] at har
  obtain ⟨hx0, ⟨h3, h4⟩ | ⟨h3, h4⟩⟩ := h2
  · have hg : toGr g = ⟨g.rel, [g.x]⟩ := by unfold toGr; rw [if_pos (by exact (empty_iff _).2 h4)]
    rw [hg]
    exact ⟨⟨a, ha, hrel.symm, by simp; omega⟩, fun x hx' => by simp at hx'; rw [hx']; exact hx⟩
  · have hg : toGr g = ⟨g.rel, [g.x, g.y]⟩ := by unfold toGr; rw [if_neg (by intro e; exact h4 ((empty_iff _).1 e))]
    rw [hg]
    refine ⟨⟨a, ha, hrel.symm, by simp; omega⟩, fun x hx' => ?_⟩
    simp at hx'
    rcases hx' with rfl | rfl
    · exact hx
    · rcases hy with hy | hy
      · exact absurd hy h4
      · exact hy
theorem RelE.fine {e : Eg} {y : Er} {ds : List Dk} (h : RelE e y ds) (hok : EgOk e) : ErFine y := by
  have hf : RsFine y.rs y.names := by
    have := rs_fine hok (by rw [h.names]; exact h.ne)
    rw [h.rs, h.names] at this; exact this
  refine ⟨hf, fun f hf' => ?_, h.sok⟩
  have hs := h.facts
  unfold SameF at hs
  rw [hs] at hf'
  obtain ⟨d, hd, rfl⟩ := List.mem_map.1 hf'
  have hk := hok.kept (d.1, d.2.1) (by rw [h.kept]; exact List.mem_map.2 ⟨d, hd, rfl⟩)
  have := gr_ok hok hk.1 hk.2.1
  rw [h.rs, h.names] at this
  exact this
theorem RelE.sz {e : Eg} {y : Er} {ds : List Dk} (h : RelE e y ds) (hok : EgOk e) (hfd : y.feeds.length ≤ 3) : ErSz y := by
  have hf := h.fine hok
  have hl : y.facts.length = e.kept.length := by rw [h.kept, h.facts]; simp
  refine ⟨by rw [← h.rs]; exact hok.rs.r8, fun r hr => (hok.rs.rok r (by rw [h.rs]; exact hr)).body, by rw [← h.win]; exact hok.win, by rw [← h.lat]; exact hok.lat, by rw [← h.que]; exact hok.que, by rw [← h.mark]; exact hok.mark, h.clk.2, by have := hok.k24; omega, fun f hf' => ⟨gr_two hf.fine (hf.gr f hf'), ?_⟩, by rw [← h.names]; exact hok.n8, ?_, hfd⟩
  · have hs := h.facts
    unfold SameF at hs
    rw [hs] at hf'
    obtain ⟨d, hd, rfl⟩ := List.mem_map.1 hf'
    exact (hok.kept (d.1, d.2.1) (by rw [h.kept]; exact List.mem_map.2 ⟨d, hd, rfl⟩)).2.2
  · exact Nat.le_trans (few_any y.state _ h.nodup (fun g hg => in_uni hf.fine (h.sok g hg))) (uni_few hf.fine)
theorem RelE.are {e : Eg} {y : Er} {ds : List Dk} (h : RelE e y ds) (hok : EgOk e) : ∀ d ∈ ds, ArE (arR e.rs) d.1 := fun d hd => arE_ok.1 (hok.kept (d.1, d.2.1) (by rw [h.kept]; exact List.mem_map.2 ⟨d, hd, rfl⟩)).2.1
theorem RelE.holds {e : Eg} {y : Er} {ds : List Dk} (h : RelE e y ds) (hok : EgOk e) (g : Gd) : (e.M g).isSome = true ↔ toGr g ∈ y.state := by
  rw [h.state, ← h.rs, ← h.win, ← h.mark]
  exact state_iff (rules_two hok.rs) h.facts (h.are hok) h.least (by have := hok.mark; omega) h.beg g
theorem until_rel {e : Eg} {y : Er} {ds : List Dk} (h : RelE e y ds) (hok : EgOk e) (s : ByteArray) {r : Int × Int} (hu : UntD y s r) : untilR e s = r := by
  unfold UntD at hu
  rw [one_same] at hu
  unfold untilR
  cases ha : atomR s with
  | none => rw [ha] at hu; exact hu.symm
  | some a =>
    rw [ha] at hu
    simp only at hu ⊢
    rw [fixed_one] at hu
    cases hg : groundB a with
    | false => rw [hg] at hu; simp only [Bool.false_eq_true, if_false] at hu; rw [if_pos rfl]; exact hu.symm
    | true =>
      rw [hg] at hu
      simp only [if_true, asked_one, ← h.rs] at hu
      rw [if_neg (by decide)]
      by_cases hc : ckR e.rs a = 0
      · rw [if_pos hc]
        rw [if_neg (by simpa using hc)] at hu
        have hgr := ground_gr hg (ck_two hok hc)
        rw [← hgr] at hu
        have hh := h.holds hok (groundA nms0 a)
        cases hm : e.M (groundA nms0 a) with
        | none =>
          rw [hm] at hh
          have hn : inG y.state (toGr (groundA nms0 a)) = false := by
            rw [Bool.eq_false_iff]
            intro hi
            have := hh.2 ((inG_iff _ _).1 hi)
            cases this
          rw [if_pos hn] at hu
          rw [hu]; rfl
        | some u =>
          rw [hm] at hh
          have hn : inG y.state (toGr (groundA nms0 a)) = true := (inG_iff _ _).2 (hh.1 rfl)
          rw [hn, if_neg (by decide)] at hu
          obtain ⟨P, hP, rfl⟩ := hu
          have hw := hok.win
          have := until_one (m := e.mark) (rules_two hok.rs) h.facts (h.are hok) h.least (fun d hd _ => by
            have := (hok.kept (d.1, d.2.1) (by rw [h.kept]; exact List.mem_map.2 ⟨d, hd, rfl⟩)).2.2
            simp only at this
            omega) (groundA nms0 a) hm P (by rw [h.win, h.rs]; rw [h.rs] at hP; exact hP)
          rw [h.win] at this
          rw [this]; rfl
      · rw [if_neg hc]
        rw [if_pos (by simpa using hc)] at hu
        exact hu.symm
theorem new_rel {s : ByteArray} {rs : List Rl} (hg : RsGood s rs) {win lat que : Int} (ha : argsOk win lat que) {M : Gd → Option Int} (hM : LeastM rs (givenL rs) M) {st : List Gr} (hs : IsLeast rs [] (nmL [] (tmsOf (amsR rs))) st) : RelE (newE rs win lat que M) (newEr rs win lat que st) [] := by
  obtain ⟨h1, h2, h3⟩ := ha
  refine ⟨rfl, rfl, rfl, rfl, rfl, ⟨by show (0 : Int) - lat ≤ 0; omega, by show (0 : Int) ≤ 0; omega, by show (0 : Int) ≤ 1000000; omega⟩, hg.names, ?_, rfl, rfl, hM, fun d hd => (by cases hd), hs.1.nodup, hs.1.ok, hs.2⟩
  show eB ∉ nmL [] (tmsOf (amsR rs))
  rw [← hg.names]; exact hg.ne

end Go.Proofs.YtjajnhemgphefaaGreatDoor

namespace Go.Proofs.YtjajnhemgphefaaGreatDoor
open Go.RowKit Go.Shelf
set_option linter.unusedVariables false
set_option linter.unusedSimpArgs false

/-- A pair: the code's engine at bx, the document's own at bz; S and T: what is their own. -/
structure Pr where
  bx : Nat
  bz : Nat
  e : Eg
  y : Er
  ds : List Dk
  S : Nat → Prop
  T : Nat → Prop
def Pr.U (p : Pr) (k : Nat) : Prop := p.S k ∨ p.T k
def XTy (W : World) (k : Nat) : Prop := WTy W k ∨ RTy W k
theorem RTy.lt {W : World} {k : Nat} (h : RTy W k) : k < W.heap.size := by
  obtain ⟨c, t, h1, _⟩ := h
  exact (Array.getElem?_eq_some_iff.1 h1).1
theorem XTy.lt {W : World} {k : Nat} (h : XTy W k) : k < W.heap.size := h.elim WTy.lt RTy.lt
theorem RTy.n {W : World} {k : Nat} (h : RTy W k) : NTy W k := by
  obtain ⟨c, t, h1, h2⟩ := h
  exact ⟨c, t, h1, by rcases h2 with rfl | rfl | rfl | rfl | rfl | rfl <;> decide⟩
theorem XTy.n {W : World} {k : Nat} (h : XTy W k) : NTy W k := h.elim WTy.n RTy.n
/-- The types that no engine writes. -/
theorem XTy.not {W : World} {k : Nat} {c : Array Value} {t : TypeId} (h : W.heap[k]? = some (Obj.cells c t (0, 0))) (h1 : t ≠ 101 ∧ t ≠ 161 ∧ t ≠ 120 ∧ t ≠ 198 ∧ t ≠ 71 ∧ t ≠ 9) (h2 : t ≠ 222 ∧ t ≠ 233 ∧ t ≠ 226 ∧ t ≠ 246) : ¬ XTy W k := by
  rintro (hw | ⟨c', t', h3, h4⟩)
  · exact WTy.not h h1 hw
  · rw [h] at h3
    cases h3
    rcases h4 with h4 | h4 | h4 | h4 | h4 | h4
    · exact h2.1 h4
    · exact h2.2.1 h4
    · exact h1.2.2.2.2.2 h4
    · exact h2.2.2.1 h4
    · exact h2.2.2.2 h4
    · exact h1.2.2.2.2.1 h4
theorem EngAt.tyW {W : World} {S : Nat → Prop} {be : Nat} {e : Eg} (h : EngAt W S be e) : ∀ k, S k → WTy W k := by
  obtain ⟨vr, vn, vk, vf, bm, rb, b45, b87, bfs, Sf, hv⟩ := h
  exact hv.typ
/-- A pair in memory. -/
structure PrAt (W : World) (p : Pr) : Prop where
  x : EngAt W p.S p.bx p.e
  y : ErM W p.T p.bz p.y
  ty : ∀ k, p.T k → RTy W k
  sep : ∀ k, p.S k → ¬ p.T k
theorem PrAt.uty {W : World} {p : Pr} (h : PrAt W p) : ∀ k, p.U k → XTy W k := fun k hk => hk.elim (fun h1 => .inl (h.x.tyW k h1)) (fun h1 => .inr (h.ty k h1))
theorem keepR_of {W W' : World} {ex : Nat → Prop} (hc : Chg W W' ex) (hx : ∀ k, k < W.heap.size → ex k → XTy W k) : KeepR W W' := fun k c t ht hk => by
  have hlt := (Array.getElem?_eq_some_iff.1 hk).1
  refine hc.block k hlt (fun e => XTy.not hk ?_ ?_ (hx k hlt e))
  · rcases ht with rfl | rfl | rfl <;> decide
  · rcases ht with rfl | rfl | rfl <;> decide
theorem ErM.keep {W W' : World} {T : Nat → Prop} {b : Nat} {y : Er} (h : ErM W T b y) (hz : W.heap.size ≤ W'.heap.size) (hk : ∀ k, T k → W'.heap[k]? = W.heap[k]?) (hr : KeepR W W') : ErM W' T b y := by
  obtain ⟨vr, vf, vn, vs, vd, qs, fs, ss, ds, hv⟩ := h
  exact ⟨vr, vf, vn, vs, vd, qs, fs, ss, ds, hv.keep hz hk hr⟩
theorem PrAt.keep {W W' : World} {p : Pr} (h : PrAt W p) {ex : Nat → Prop} (hc : Chg W W' ex) (hU : ∀ k, p.U k → ¬ ex k) (hx : ∀ k, k < W.heap.size → ex k → XTy W k) : PrAt W' p := by
  have hk : ∀ k, p.U k → W'.heap[k]? = W.heap[k]? := fun k hk => hc.block k (h.uty k hk).lt (hU k hk)
  exact ⟨h.x.keepN hc (fun k hk => hU k (.inl hk)) (fun k h1 h2 => (hx k h1 h2).n), h.y.keep hc.size (fun k hk' => hk k (.inr hk')) (keepR_of hc hx), fun k hk' => (h.ty k hk').same (hk k (.inr hk')), h.sep⟩
/-- Behind calls on a pair. -/
def PrPost (p : Pr) (W : World) (p' : Pr) (W' : World) : Prop := PrAt W' p' ∧ p'.bx = p.bx ∧ p'.bz = p.bz ∧ (∀ k, p'.U k → p.U k ∨ W.heap.size ≤ k) ∧ Chg W W' p.U
theorem PrPost.same {p : Pr} {W W' : World} (h : PrAt W p) (hb : Below W.heap.size W W') : PrPost p W p W' :=
  ⟨h.keep (Chg.ofBelow (fun _ => False) hb) (fun _ _ => id) (fun _ _ => False.elim), rfl, rfl, fun k hk => .inl hk, Chg.ofBelow _ hb⟩
theorem PrPost.trans {p p1 p2 : Pr} {W W1 W2 : World} (h : PrPost p W p1 W1) (k : PrPost p1 W1 p2 W2) : PrPost p W p2 W2 := by
  obtain ⟨h1, h2, h3, h4, h5⟩ := h
  obtain ⟨k1, k2, k3, k4, k5⟩ := k
  have hz := h5.size
  refine ⟨k1, k2.trans h2, k3.trans h3, fun j hj => ?_, ⟨k5.os.trans h5.os, k5.tape.trans h5.tape, k5.output.trans h5.output, Nat.le_trans h5.size k5.size, fun i hi hn => (k5.block i (Nat.lt_of_lt_of_le hi h5.size) (fun e => ?_)).trans (h5.block i hi hn)⟩⟩
  · rcases k4 j hj with h6 | h6
    · exact h4 j h6
    · right; omega
  · rcases h4 i e with h6 | h6
    · exact hn h6
    · omega
theorem PrAt.runX {W W' : World} {p : Pr} (h : PrAt W p) {e' : Eg} (hp : EngPost p.S p.bx e' W W') (ds' : List Dk) : ∃ S', PrPost p W { p with e := e', S := S', ds := ds' } W' := by
  obtain ⟨S', h1, h2, h3⟩ := hp
  have hT : ∀ k, p.T k → W'.heap[k]? = W.heap[k]? := fun k hk => h3.block k (h.ty k hk).lt (fun e => h.sep k e hk)
  refine ⟨S', ⟨h1, h.y.keep h3.size hT (keepR_of h3 (fun k _ e => .inl (h.x.tyW k e))), fun k hk => (h.ty k hk).same (hT k hk), fun k hk hk' => ?_⟩, rfl, rfl, fun k hk => ?_, h3.mono (fun k _ hk => .inl hk)⟩
  · rcases h2 k hk with h4 | h4
    · exact h.sep k h4 hk'
    · have := (h.ty k hk').lt; omega
  · rcases hk with hk | hk
    · exact (h2 k hk).imp .inl id
    · exact .inl (.inr hk)
theorem PrAt.runY {W W' : World} {p : Pr} (h : PrAt W p) {y' : Er} (hp : ErPost p.T p.bz y' W W') (ds' : List Dk) : ∃ T', PrPost p W { p with y := y', T := T', ds := ds' } W' := by
  obtain ⟨⟨T', h1, h2⟩, h3⟩ := hp
  have hS : ∀ k, p.S k → ¬ p.T k := h.sep
  refine ⟨fun k => T' k ∧ RTy W' k, ⟨h.x.keepN h3 hS (fun k _ e => (h.ty k e).n), h1.narrow, fun k hk => hk.2, fun k hk hk' => ?_⟩, rfl, rfl, fun k hk => ?_, h3.mono (fun k _ hk => .inr hk)⟩
  · rcases h2 k hk'.1 with h4 | h4
    · exact h.sep k hk h4
    · have := (h.x.tyW k hk).lt; omega
  · rcases hk with hk | hk
    · exact .inl (.inl hk)
    · exact (h2 k hk.1).imp .inr id
/-- The two of a pair are one. F: what is asked of their feeds, n steps behind the beginning. -/
structure PrOk (F : Nat → Eg → Er → Prop) (n : Nat) (p : Pr) : Prop where
  ok : EgOk p.e
  rel : RelE p.e p.y p.ds
  f3 : p.y.feeds.length ≤ 3
  fd : F n p.e p.y
def prC (p : Pr) : List Value := [.pointer (some ⟨p.bx, 0, none⟩), .pointer (some ⟨p.bz, 0, none⟩)]
/-- All pairs; Q: blocks of the caller's. -/
structure LwI (F : Nat → Eg → Er → Prop) (n : Nat) (w : World) (Q : Nat → Prop) (vl : Value) (ps : List Pr) (W : World) : Prop where
  row : W.ownsRow w.heap.size 81 2 vl ps.length (ps.flatMap prC)
  each : ∀ p ∈ ps, PrAt W p ∧ PrOk F n p
  low : ∀ p ∈ ps, ∀ k, p.U k → w.heap.size ≤ k ∧ ¬ Q k
  sep : ∀ (i j : Nat) (p q : Pr), ps[i]? = some p → ps[j]? = some q → i ≠ j → ∀ k, p.U k → ¬ q.U k
  below : Below w.heap.size w W
  q : ∀ k, Q k → k < W.heap.size
theorem LwI.change {F : Nat → Eg → Er → Prop} {n n' : Nat} {w : World} {Q : Nat → Prop} {vl : Value} {ps : List Pr} {W W' : World} (h : LwI F n w Q vl ps W) (hF : ∀ e y, F n e y → F n' e y) {i : Nat} {p p' : Pr} (hi : ps[i]? = some p) (hp : PrPost p W p' W') (hok : PrOk F n' p') : LwI F n' w Q vl (ps.set i p') W' := by
  obtain ⟨h1, h2, h3, h4, h5⟩ := hp
  have hmem : p ∈ ps := List.mem_of_getElem? hi
  have hty : ∀ k, k < W.heap.size → p.U k → XTy W k := fun k _ hk => (h.each p hmem).1.uty k hk
  have hlt : i < ps.length := (List.getElem?_eq_some_iff.1 hi).1
  have hpi : ps[i] = p := (List.getElem?_eq_some_iff.1 hi).2
  have hmap : (ps.set i p').flatMap prC = ps.flatMap prC := by
    have he : prC p' = prC p := by unfold prC; rw [h2, h3]
    clear h h1 h4 h5 hty hmem
    induction ps generalizing i with
    | nil => rfl
    | cons q ps ih =>
      cases i with
      | zero =>
        have : q = p := by simpa using hi
        subst this
        simp [he]
      | succ i =>
        have hi' : ps[i]? = some p := by simpa using hi
        have hl' : i < ps.length := (List.getElem?_eq_some_iff.1 hi').1
        simp only [List.set_cons_succ, List.flatMap_cons]
        rw [ih hi' hl' (List.getElem?_eq_some_iff.1 hi').2]
  have hge : ∀ (j : Nat) (q : Pr), (ps.set i p')[j]? = some q → (j = i ∧ q = p') ∨ (j ≠ i ∧ ps[j]? = some q) := fun j q hq => by
    by_cases e : j = i
    · subst e
      rw [List.getElem?_set_self hlt] at hq
      exact .inl ⟨rfl, by simpa using hq.symm⟩
    · rw [List.getElem?_set_ne (Ne.symm e)] at hq
      exact .inr ⟨e, hq⟩
  have hother : ∀ (j : Nat) (q : Pr), j ≠ i → ps[j]? = some q → PrAt W' q := fun j q hj hq => (h.each q (List.mem_of_getElem? hq)).1.keep h5 (fun k hk => h.sep j i q p hq hi hj k hk) hty
  have hfar : ∀ (j : Nat) (q : Pr), j ≠ i → ps[j]? = some q → ∀ k, q.U k → ¬ p'.U k := fun j q hj hq k hk hk' => by
    rcases h4 k hk' with h6 | h6
    · exact h.sep j i q p hq hi hj k hk h6
    · have := ((h.each q (List.mem_of_getElem? hq)).1.uty k hk).lt; omega
  refine ⟨?_, fun q hq => ?_, fun q hq k hk => ?_, fun j l q r hq hr hjl k hk hk' => ?_, ?_, fun k hk => Nat.lt_of_lt_of_le (h.q k hk) h5.size⟩
  · rw [List.length_set, hmap]
    refine own_keep h.row (fun g hg hl => h5.block g hl (fun e => ?_))
    obtain ⟨c, hc⟩ := own_cells h.row hg
    exact XTy.not hc (by decide) (by decide) (hty g hl e)
  · obtain ⟨j, hj, rfl⟩ := List.getElem_of_mem hq
    rcases hge j _ (List.getElem?_eq_getElem hj) with ⟨_, e⟩ | ⟨e, hq'⟩
    · rw [e]; exact ⟨h1, hok⟩
    · have := (h.each _ (List.mem_of_getElem? hq')).2
      exact ⟨hother j _ e hq', ⟨this.ok, this.rel, this.f3, hF _ _ this.fd⟩⟩
  · obtain ⟨j, hj, rfl⟩ := List.getElem_of_mem hq
    rcases hge j _ (List.getElem?_eq_getElem hj) with ⟨_, e⟩ | ⟨e, hq'⟩
    · rw [e] at hk
      rcases h4 k hk with h6 | h6
      · exact h.low p hmem k h6
      · have := h.below.size
        refine ⟨by omega, fun hQ => ?_⟩
        have := h.q k hQ
        omega
    · exact h.low _ (List.mem_of_getElem? hq') k hk
  · rcases hge j q hq with ⟨rfl, rfl⟩ | ⟨e, hq'⟩
    · rcases hge l r hr with ⟨rfl, rfl⟩ | ⟨e', hr'⟩
      · exact hjl rfl
      · exact hfar l r e' hr' k hk' hk
    · rcases hge l r hr with ⟨rfl, rfl⟩ | ⟨e', hr'⟩
      · exact hfar j q e hq' k hk hk'
      · exact h.sep j l q r hq' hr' hjl k hk hk'
  · exact h.below.trans (h5.below h.below.size (fun k hk => (h.low p hmem k hk).1))
theorem LwI.same {F : Nat → Eg → Er → Prop} {n n' : Nat} {w : World} {Q : Nat → Prop} {vl : Value} {ps : List Pr} {W W' : World} (h : LwI F n w Q vl ps W) (hF : ∀ e y, F n e y → F n' e y) (hb : Below W.heap.size W W') : LwI F n' w Q vl ps W' :=
  ⟨own_below h.row hb, fun p hp => ⟨(PrPost.same (h.each p hp).1 hb).1, ⟨(h.each p hp).2.ok, (h.each p hp).2.rel, (h.each p hp).2.f3, hF _ _ (h.each p hp).2.fd⟩⟩, h.low, h.sep, h.below.trans (hb.mono h.below.size), fun k hk => Nat.lt_of_lt_of_le (h.q k hk) hb.size⟩

end Go.Proofs.YtjajnhemgphefaaGreatDoor

namespace Go.Proofs.YtjajnhemgphefaaGreatDoor
open Go.RowKit Go.Shelf
set_option linter.unusedVariables false
set_option linter.unusedSimpArgs false

/-- A step of a script. -/
structure Stp where
  kind : Int
  e : Int
  s : ByteArray
  a : Int
  b : Int
  c : Int
def Stp.v (o : Stp) : Value := .agg #[.int .i64 o.kind, .int .i64 o.e, .string o.s, .int .i64 o.a, .int .i64 o.b, .int .i64 o.c]
def Pr.v (p : Pr) : Value := .agg #[.pointer (some ⟨p.bx, 0, none⟩), .pointer (some ⟨p.bz, 0, none⟩)]
/-- What is asked of the feeds' part. -/
structure FOk (F : Nat → Eg → Er → Prop) : Prop where
  mono : ∀ n e y, F n e y → F (n + 1) e y
  ins : ∀ n e y s t, F n e y → F n (insR e s t).2 (insD y s t).2
  tick : ∀ n e y ds c e' y' r r', EgOk e → RelE e y ds → F n e y → TickE e c e' r → TickD y c y' r' → F n e' y' ∧ y'.feeds.length ≤ 3
  new : ∀ n rs win lat que M st, F n (newE rs win lat que M) (newEr rs win lat que st)
  mv : ∀ b n e y ds, EgOk e → RelE e y ds → F n e y → ∀ i, i < y.feeds.length → ∀ m st, MoveAt b i y.state y.que m st
theorem atom_six (s : ByteArray) : ∀ a, atomR s = some a → AmOk a ∧ ∀ t ∈ a.args, t.num < 6 := by
  intro a ha
  rw [← one_same] at ha
  have h1 := ha
  unfold oneD at ha
  split at ha
  · cases ha
  rename_i hL
  split at ha
  · cases ha
  rename_i ho
  obtain ⟨t, p, us, L, vsF, k, e1, e2, e3, e4, e5⟩ := one_read (refToks s) (refToks_end s) (by simpa [okO] using ho)
  have hsz := refToks_size s (by omega)
  rw [e1] at ha hsz
  unfold oneOf at ha
  simp only [e2] at ha
  injection ha with ha
  subst ha
  refine ⟨⟨hsz t (by simp), e3, fun u hu => ⟨argsR_sz 1200 us _ _ _ _ (fun v hv => hsz v (by simp [hv])) e2 u hu, by have := e5 u hu; omega⟩⟩, fun u hu => by have := e5 u hu; omega⟩
theorem insD_feeds (y : Er) (s : ByteArray) (t : Int) : (insD y s t).2.feeds = y.feeds := by
  unfold insD
  repeat' split
  all_goals rfl

set_option maxRecDepth 100000 in
set_option maxHeartbeats 2000000 in
theorem moves_any {F : Nat → Eg → Er → Prop} (hF : FOk F) {n : Nat} {p : Pr} {W : World} (h : PrAt W p) (hok : PrOk F n p) (o : Stp) (hk : o.kind = 3 ∨ o.kind = 4) (hs : o.s.size ≤ 1048576) (hT : Lib.Utf8Tabs 0 1 W) :
    Calls Tryz.prog 35 #[p.v, o.v] W fun en W' => en = .returned (.bool true) ∧ ∃ p', PrPost p W p' W' ∧ PrOk F n p' := by
  unfold Pr.v Stp.v
  have HP : Hid (PrAt W p) := h
  have HO : Hid (PrOk F n p) := hok
  have HTT : Hid (∀ Y, Below W.heap.size W Y → Lib.Utf8Tabs 0 1 Y) := fun Y hY => Utf8Tabs_below hT hY
  clear h hok hT
  obtain ⟨kd, ke, s, a, b, c⟩ := o
  simp only at hk hs ⊢
  obtain ⟨N, hN⟩ : ∃ N, W.heap.size = N := ⟨_, rfl⟩
  obtain ⟨W0, hW0⟩ : ∃ W0, (W.alloc (.cells #[.pointer (some ⟨p.bx, 0, none⟩), .pointer (some ⟨p.bz, 0, none⟩)] 81)).alloc (.cells #[.int .i64 kd, .int .i64 ke, .string s, .int .i64 a, .int .i64 b, .int .i64 c] 34) = W0 := ⟨_, rfl⟩
  have hb0 : Below W.heap.size W W0 := by rw [← hW0]; exact ((Below.refl _ W).alloc (Nat.le_refl _) _).alloc (by simp) _
  have hbp : W0.heap[N]? = some (Obj.cells #[.pointer (some ⟨p.bx, 0, none⟩), .pointer (some ⟨p.bz, 0, none⟩)] 81 (0, 0)) := by
    rw [← hW0, ← hN]
    exact (Below.heap_alloc _ _ _ (by simp)).trans (World.alloc_heap_new W _)
  have hbo : W0.heap[N + 1]? = some (Obj.cells #[.int .i64 kd, .int .i64 ke, .string s, .int .i64 a, .int .i64 b, .int .i64 c] 34 (0, 0)) := by
    rw [← hW0, ← hN]
    have := World.alloc_heap_new (W.alloc (.cells #[.pointer (some ⟨p.bx, 0, none⟩), .pointer (some ⟨p.bz, 0, none⟩)] 81)) (.cells #[.int .i64 kd, .int .i64 ke, .string s, .int .i64 a, .int .i64 b, .int .i64 c] 34)
    simpa using this
  have hP0 : PrPost p W p W0 := PrPost.same HP.out hb0
  have HP0 : Hid (PrPost p W p W0) := hP0
  have hT0 := HTT.out W0 hb0
  have HC : Hid (∀ p1 Y, PrPost p W0 p1 Y → Y.cell? ⟨N, 1, none⟩ = some (.pointer (some ⟨p.bz, 0, none⟩)) ∧ Y.cell? ⟨N + 1, 2, none⟩ = some (.string s) ∧ Y.cell? ⟨N + 1, 3, none⟩ = some (.int .i64 a)) := fun p1 Y hY => by
    have hty : ∀ k, p.U k → XTy W0 k := hP0.1.uty
    have h1 := (hY.2.2.2.2.block N (Array.getElem?_eq_some_iff.1 hbp).1 (fun e => XTy.not hbp (by decide) (by decide) (hty N e))).trans hbp
    have h2 := (hY.2.2.2.2.block (N + 1) (Array.getElem?_eq_some_iff.1 hbo).1 (fun e => XTy.not hbo (by decide) (by decide) (hty (N + 1) e))).trans hbo
    exact ⟨by simp [World.cell?, h1], by simp [World.cell?, h2], by simp [World.cell?, h2]⟩
  have c0 : W0.cell? ⟨N, 0, none⟩ = some (.pointer (some ⟨p.bx, 0, none⟩)) := by simp [World.cell?, hbp]
  have c1 : W0.cell? ⟨N + 1, 0, none⟩ = some (.int .i64 kd) := by simp [World.cell?, hbo]
  have c2 : W0.cell? ⟨N + 1, 2, none⟩ = some (.string s) := by simp [World.cell?, hbo]
  have c3 : W0.cell? ⟨N + 1, 3, none⟩ = some (.int .i64 a) := by simp [World.cell?, hbo]
  have hA0 := hP0.1
  clear hb0 hbp hbo hP0
  rcases hk with rfl | rfl
  · obtain ⟨hr1, ds', hr2⟩ := ins_rel HO.out.rel HO.out.ok s a
    have hin : Hid (Calls Tryz.prog 20 #[.pointer (some ⟨p.bx, 0, none⟩), .string s, .int .i64 a] W0 fun e w' => e = .returned (.int .i64 (insD p.y s a).1) ∧ ∃ S1, PrPost p W0 { p with e := (insR p.e s a).2, S := S1, ds := ds' } w') := by
      refine (insert_any p.S p.bx p.e s a W0 hA0.x HO.out.ok (by omega) hT0 (fun u hu => (atom_six s u hu).2)).mono ?_
      rintro e w' ⟨k1, k2⟩
      rw [hr1] at k1
      exact ⟨k1, hA0.runX k2 ds'⟩
    have hsz := HO.out.rel.sz HO.out.ok HO.out.f3
    have hiy : Hid (∀ S1 Y, PrPost p W0 { p with e := (insR p.e s a).2, S := S1, ds := ds' } Y → Calls Tryz.prog 67 #[.pointer (some ⟨p.bz, 0, none⟩), .string s, .int .i64 a] Y fun e w' => e = .returned (.int .i64 (insD p.y s a).1) ∧ ∃ p', PrPost p W p' w' ∧ PrOk F n p') := fun S1 Y hY => by
      obtain ⟨vr, vf, vn, vs, vd, qs, fs, ss, ds2, hv⟩ := hY.1.y
      refine (insertD_any hv hsz s hs a).mono ?_
      rintro e w' ⟨k1, k2⟩
      obtain ⟨T', k3⟩ := hY.1.runY k2 ds'
      refine ⟨k1, _, HP0.out.trans (hY.trans k3), ⟨ins_ok HO.out.ok s (fun u hu => (atom_six s u hu).1) a, hr2, ?_, hF.ins n _ _ s a HO.out.fd⟩⟩
      show (insD p.y s a).2.feeds.length ≤ 3
      rw [insD_feeds]; exact HO.out.f3
    clear hr1 hr2 hsz hA0 hT0
    go_enter Tryz.func35, Tryz.ntmps35
    go_wp2_with fail
    refine Calls.mono hin.out ?_
    clear hin
    rintro e' W1 ⟨rfl, S1, hP1⟩
    obtain ⟨d1, d2, d3⟩ := HC.out _ W1 hP1
    have hy := hiy.out S1 W1 hP1
    clear hP1 c0 c1 c2 c3
    go_wp2_with fail
    refine Calls.mono hy ?_
    clear hy hiy
    rintro e' W2 ⟨rfl, hP2⟩
    have HP2 : Hid _ := hP2
    clear hP2 d1 d2 d3
    go_wp2
    go_ret
    exact ⟨by simp, HP2.out⟩
  · have htx : Hid (Calls Tryz.prog 22 #[.pointer (some ⟨p.bx, 0, none⟩), .int .i64 a] W0 fun e w' => ∃ (r : Int) (f : Int) (e' : Eg), e = .returned (.tuple #[.int .i64 r, .int .i64 f]) ∧ TickE p.e a e' (r, f) ∧ ∃ S1, PrPost p W0 { p with e := e', S := S1 } w') := by
      refine (tick_any p.S p.bx p.e a W0 hA0.x HO.out.ok).mono ?_
      rintro e w' ⟨e', r, k1, k2, k3⟩
      exact ⟨r.1, r.2, e', k2, k1, hA0.runX k3 p.ds⟩
    have hsz := HO.out.rel.sz HO.out.ok HO.out.f3
    have hfi := HO.out.rel.fine HO.out.ok
    have hty : Hid (∀ S1 e' r f Y, TickE p.e a e' (r, f) → PrPost p W0 { p with e := e', S := S1 } Y → Calls Tryz.prog 68 #[.pointer (some ⟨p.bz, 0, none⟩), .int .i64 a] Y fun e w' => e = .returned (.tuple #[.int .i64 r, .int .i64 f]) ∧ ∃ p', PrPost p W p' w' ∧ PrOk F n p') := fun S1 e' r f Y hTe hY => by
      obtain ⟨vr, vf, vn, vs, vd, qs, fs, ss, ds2, hv⟩ := hY.1.y
      refine (tickD_any hv hsz hfi a (hF.mv p.bz n p.e p.y p.ds HO.out.ok HO.out.rel HO.out.fd)).mono ?_
      rintro e w' ⟨y', r', k1, k2, k3⟩
      obtain ⟨h1, ds', h2⟩ := tick_rel HO.out.rel HO.out.ok hTe k1
      obtain ⟨h3, h4⟩ := hF.tick n _ _ _ _ _ _ _ _ HO.out.ok HO.out.rel HO.out.fd hTe k1
      obtain ⟨T', k4⟩ := hY.1.runY k3 ds'
      rw [← h1] at k2
      exact ⟨k2, _, HP0.out.trans (hY.trans k4), ⟨tick_ok HO.out.ok hTe, h2, h4, h3⟩⟩
    clear hsz hfi hA0 hT0
    go_enter Tryz.func35, Tryz.ntmps35
    go_wp2_with fail
    refine Calls.mono htx.out ?_
    clear htx
    rintro e' W1 ⟨r, f, e1, rfl, hTe, S1, hP1⟩
    obtain ⟨d1, d2, d3⟩ := HC.out _ W1 hP1
    have hy := hty.out S1 e1 r f W1 hTe hP1
    clear hP1 hTe c0 c1 c2 c3
    go_wp2_with fail
    refine Calls.mono hy ?_
    clear hy hty
    rintro e' W2 ⟨rfl, hP2⟩
    have HP2 : Hid _ := hP2
    clear hP2 d1 d2 d3
    go_wp2
    go_ret
    exact ⟨by simp, HP2.out⟩

end Go.Proofs.YtjajnhemgphefaaGreatDoor

namespace Go.Proofs.YtjajnhemgphefaaGreatDoor
open Go.RowKit Go.Shelf
set_option linter.unusedVariables false
set_option linter.unusedSimpArgs false

set_option maxRecDepth 100000 in
set_option maxHeartbeats 2000000 in
theorem asksU_any {F : Nat → Eg → Er → Prop} {n : Nat} {p : Pr} {W : World} (bw : Nat) (h : PrAt W p) (hok : PrOk F n p) (o : Stp) (hk : o.kind = 6) (hs : o.s.size ≤ 1048576) (hT : Lib.Utf8Tabs 0 1 W) :
    Calls Tryz.prog 36 #[.pointer (some ⟨bw, 0, none⟩), p.v, o.v] W fun en W' => en = .returned (.bool true) ∧ Below W.heap.size W W' := by
  unfold Pr.v Stp.v
  obtain ⟨kd, ke, s, a, b, c⟩ := o
  simp only at hk hs ⊢
  subst hk
  obtain ⟨N, hN⟩ : ∃ N, W.heap.size = N := ⟨_, rfl⟩
  obtain ⟨W0, hW0⟩ : ∃ W0, (W.alloc (.cells #[.pointer (some ⟨p.bx, 0, none⟩), .pointer (some ⟨p.bz, 0, none⟩)] 81)).alloc (.cells #[.int .i64 6, .int .i64 ke, .string s, .int .i64 a, .int .i64 b, .int .i64 c] 34) = W0 := ⟨_, rfl⟩
  have hb0 : Below W.heap.size W W0 := by rw [← hW0]; exact ((Below.refl _ W).alloc (Nat.le_refl _) _).alloc (by simp) _
  have hbp : W0.heap[N]? = some (Obj.cells #[.pointer (some ⟨p.bx, 0, none⟩), .pointer (some ⟨p.bz, 0, none⟩)] 81 (0, 0)) := by
    rw [← hW0, ← hN]
    exact (Below.heap_alloc _ _ _ (by simp)).trans (World.alloc_heap_new W _)
  have hbo : W0.heap[N + 1]? = some (Obj.cells #[.int .i64 6, .int .i64 ke, .string s, .int .i64 a, .int .i64 b, .int .i64 c] 34 (0, 0)) := by
    rw [← hW0, ← hN]
    have := World.alloc_heap_new (W.alloc (.cells #[.pointer (some ⟨p.bx, 0, none⟩), .pointer (some ⟨p.bz, 0, none⟩)] 81)) (.cells #[.int .i64 6, .int .i64 ke, .string s, .int .i64 a, .int .i64 b, .int .i64 c] 34)
    simpa using this
  have hA0 := (PrPost.same h hb0).1
  have hT0 := Utf8Tabs_below hT hb0
  have HC : Hid (∀ Y, Below W0.heap.size W0 Y → Y.cell? ⟨N, 1, none⟩ = some (.pointer (some ⟨p.bz, 0, none⟩)) ∧ Y.cell? ⟨N + 1, 2, none⟩ = some (.string s)) := fun Y hY => by
    have h1 := (hY.block N (Array.getElem?_eq_some_iff.1 hbp).1).trans hbp
    have h2 := (hY.block (N + 1) (Array.getElem?_eq_some_iff.1 hbo).1).trans hbo
    exact ⟨by simp [World.cell?, h1], by simp [World.cell?, h2]⟩
  have c0 : W0.cell? ⟨N, 0, none⟩ = some (.pointer (some ⟨p.bx, 0, none⟩)) := by simp [World.cell?, hbp]
  have c1 : W0.cell? ⟨N + 1, 0, none⟩ = some (.int .i64 6) := by simp [World.cell?, hbo]
  have c2 : W0.cell? ⟨N + 1, 2, none⟩ = some (.string s) := by simp [World.cell?, hbo]
  have hux : Hid (Calls Tryz.prog 24 #[.pointer (some ⟨p.bx, 0, none⟩), .string s] W0 fun e w' => e = .returned (.tuple #[.int .i64 (untilR p.e s).1, .int .i64 (untilR p.e s).2]) ∧ Below W0.heap.size W0 w') := until_any p.S p.bx p.e s W0 hA0.x hok.ok (by omega) hT0 (fun u hu => (atom_six s u hu).2)
  have huy : Hid (∀ Y, Below W0.heap.size W0 Y → Calls Tryz.prog 69 #[.pointer (some ⟨p.bz, 0, none⟩), .string s] Y fun e w' => e = .returned (.tuple #[.int .i64 (untilR p.e s).1, .int .i64 (untilR p.e s).2]) ∧ Below Y.heap.size Y w') := fun Y hY => by
    obtain ⟨vr, vf, vn, vs, vd, qs, fs, ss, ds2, hv⟩ := (PrPost.same hA0 hY).1.y
    refine (untilD_any hv (hok.rel.sz hok.ok hok.f3) (hok.rel.fine hok.ok) s hs).mono ?_
    rintro e w' ⟨⟨r, k1, k2⟩, k3⟩
    rw [until_rel hok.rel hok.ok s k1]
    exact ⟨k2, k3⟩
  have HB0 : Hid (Below W.heap.size W W0) := hb0
  clear hb0 hbp hbo hA0 hT0 h hok hT
  generalize (untilR p.e s).1 = r1 at *
  generalize (untilR p.e s).2 = r2 at *
  go_enter Tryz.func36, Tryz.ntmps36
  go_wp2_with fail
  refine Calls.mono hux.out ?_
  clear hux
  rintro e' W1 ⟨rfl, hb1⟩
  obtain ⟨d1, d2⟩ := HC.out W1 hb1
  have hy := huy.out W1 hb1
  have HB1 : Hid (Below W0.heap.size W0 W1) := hb1
  clear c0 c1 c2 hb1
  go_wp2_with fail
  refine Calls.mono hy ?_
  clear hy huy
  rintro e' W2 ⟨rfl, hb2⟩
  have HB2 : Hid (Below W1.heap.size W1 W2) := hb2
  clear hb2 d1 d2
  go_wp2
  go_ret
  have h1 := HB1.out.trans (HB2.out.mono HB1.out.size)
  exact ⟨by simp, by first | exact HB0.out.trans (h1.mono HB0.out.size) | (rw [← hN]; exact HB0.out.trans (h1.mono HB0.out.size))⟩

set_option maxRecDepth 100000 in
theorem lpick_any (c : Int) (n : Nat) (w : World) (hn : 1 ≤ n) (hn2 : n ≤ 10000000) (hc : -9223372036854775808 ≤ c ∧ c ≤ 9223372036854775807) :
    Calls Tryz.prog 34 #[.int .i64 c, .int .i64 n] w fun e w' => ∃ r : Nat, r < n ∧ e = .returned (.int .i64 r) ∧ w = w' := by
  have hn0 : ((n : Int) == 0) = false := by simp; omega
  have hp := pickZ_bounds c n (by omega)
  have hpn : ((pickZ c n).toNat : Int) = pickZ c n := Int.toNat_of_nonneg hp.1
  have HR : Hid (∀ x : Int, x = pickZ c n → ∃ r : Nat, r < n ∧ Ending.returned (.int .i64 x) = .returned (.int .i64 r)) := fun x hx => ⟨(pickZ c n).toNat, by omega, by rw [hpn, hx]⟩
  clear hp hpn
  by_cases h : c < 0
  · go_enter Tryz.func34, Tryz.ntmps34
    go_wp2
    go_ret
    obtain ⟨r, h1, h2⟩ := HR.out _ (pick_neg c n (by omega))
    exact ⟨r, h1, h2, rfl⟩
  · go_enter Tryz.func34, Tryz.ntmps34
    go_wp2
    go_ret
    obtain ⟨r, h1, h2⟩ := HR.out (c % n) (by unfold pickZ; rw [if_neg (by omega)])
    exact ⟨r, h1, h2, rfl⟩

end Go.Proofs.YtjajnhemgphefaaGreatDoor

namespace Go.Proofs.YtjajnhemgphefaaGreatDoor
open Go.RowKit Go.Shelf
set_option linter.unusedVariables false
set_option linter.unusedSimpArgs false

theorem PrAt.keep2 {W W' : World} {p : Pr} (h : PrAt W p) {ex : Nat → Prop} (hc : Chg W W' ex) (hU : ∀ k, p.U k → ¬ ex k) (hn : ∀ k, k < W.heap.size → ex k → NTy W k) (hr : KeepR W W') : PrAt W' p := by
  have hk : ∀ k, p.U k → W'.heap[k]? = W.heap[k]? := fun k hk => hc.block k (h.uty k hk).lt (hU k hk)
  exact ⟨h.x.keepN hc (fun k hk => hU k (.inl hk)) hn, h.y.keep hc.size (fun k hk' => hk k (.inr hk')) hr, fun k hk' => (h.ty k hk').same (hk k (.inr hk')), h.sep⟩
theorem LwI.add {F : Nat → Eg → Er → Prop} {n : Nat} {w : World} {Q : Nat → Prop} {vl vl' vls vks : Value} {ps : List Pr} {W W1 W2 : World} {bw : Nat} (h : LwI F n w Q vl ps W) (hbw : w.heap.size ≤ bw) (hbox : W.heap[bw]? = some (Obj.cells #[vl, vls, vks] 31 (0, 0))) (hb : Below W.heap.size W W1) {p : Pr} (hp : PrAt W1 p) (hok : PrOk F n p) (hU : ∀ k, p.U k → W.heap.size ≤ k) {O : Obj}
    (hg : (W1.alloc O).grownBy W2 vl.ownBlock) (ho : W2.ownsRow w.heap.size 81 2 vl' (ps.length + 1) (ps.flatMap prC ++ prC p)) :
    W2.cell? ⟨bw, 0, none⟩ = some vl ∧ W2.frozen? ⟨bw, 0, none⟩ = false ∧ (W2.setCell ⟨bw, 0, none⟩ vl').heap[bw]? = some (Obj.cells #[vl', vls, vks] 31 (0, 0)) ∧ LwI F n w Q vl' (ps ++ [p]) (W2.setCell ⟨bw, 0, none⟩ vl') ∧ Chg W (W2.setCell ⟨bw, 0, none⟩ vl') (fun k => k = bw ∨ vl.ownBlock = some k) := by
  have hbl : bw < W.heap.size := (Array.getElem?_eq_some_iff.1 hbox).1
  have hne : vl.ownBlock ≠ some bw := fun e => by
    obtain ⟨c, hc⟩ := own_cells h.row e
    rw [hbox] at hc; cases hc
  have hz1 := hb.size
  have hzA : (W1.alloc O).heap.size = W1.heap.size + 1 := by simp
  have hz2 := hg.size
  have h1 : W1.heap[bw]? = some (Obj.cells #[vl, vls, vks] 31 (0, 0)) := (hb.block bw hbl).trans hbox
  have h2 : W2.heap[bw]? = some (Obj.cells #[vl, vls, vks] 31 (0, 0)) := ((hg.block bw (by omega) (fun e => hne e.symm)).trans (Below.heap_alloc W1 O bw (by omega))).trans h1
  have hL1 := h.same (fun _ _ => id) hb
  have hc1 : Chg W1 (W2.setCell ⟨bw, 0, none⟩ vl') (fun k => k = bw ∨ vl.ownBlock = some k) := by
    refine Chg.setCell ?_ ⟨bw, 0, none⟩ vl' (fun _ => .inl rfl)
    exact ((Chg.refl W1 (fun k => k = bw ∨ vl.ownBlock = some k)).alloc O).grown hg (fun k hk _ => .inr hk)
  have hN : ∀ k, k < W1.heap.size → (k = bw ∨ vl.ownBlock = some k) → NTy W1 k := fun k hk he => by
    rcases he with rfl | he
    · exact ⟨_, _, h1, by decide⟩
    · obtain ⟨c, hc⟩ := own_cells hL1.row he
      exact ⟨_, _, hc, by decide⟩
  have hR : KeepR W1 (W2.setCell ⟨bw, 0, none⟩ vl') := fun k c t ht hk => by
    refine hc1.block k (Array.getElem?_eq_some_iff.1 hk).1 (fun e => ?_)
    rcases e with rfl | e
    · rw [h1] at hk; cases hk; rcases ht with ht | ht | ht <;> cases ht
    · obtain ⟨c', hc'⟩ := own_cells hL1.row e
      rw [hk] at hc'; cases hc'; rcases ht with ht | ht | ht <;> cases ht
  have hX : ∀ k, XTy W1 k → ¬ (k = bw ∨ vl.ownBlock = some k) := fun k hk e => by
    rcases e with rfl | e
    · exact XTy.not h1 (by decide) (by decide) hk
    · obtain ⟨c', hc'⟩ := own_cells hL1.row e
      exact XTy.not hc' (by decide) (by decide) hk
  refine ⟨by simp [World.cell?, h2], by simp [World.frozen?, h2], heap_set h2 0 vl', ⟨?_, fun q hq => ?_, fun q hq k hk => ?_, fun i j q r hq hr hij k hk hk' => ?_, ?_, fun k hk => ?_⟩, ?_⟩
  · rw [List.length_append, List.flatMap_append]
    have := owns_set ho ⟨bw, 0, none⟩ vl' (fun g hg' e => by
      obtain ⟨c, hc⟩ := own_cells ho hg'
      have e' : g = bw := e
      rw [e', h2] at hc; cases hc)
    simpa using this
  · rcases List.mem_append.1 hq with hq | hq
    · exact ⟨(hL1.each q hq).1.keep2 hc1 (fun k hk => hX k ((hL1.each q hq).1.uty k hk)) hN hR, (h.each q hq).2⟩
    · simp only [List.mem_cons, List.not_mem_nil, or_false] at hq
      subst hq
      exact ⟨hp.keep2 hc1 (fun k hk => hX k (hp.uty k hk)) hN hR, hok⟩
  · rcases List.mem_append.1 hq with hq | hq
    · exact h.low q hq k hk
    · simp only [List.mem_cons, List.not_mem_nil, or_false] at hq
      subst hq
      have h5 := hU k hk
      have := h.below.size
      exact ⟨by omega, fun hQ => by have := h.q k hQ; omega⟩
  · have hcase : ∀ (i : Nat) (q : Pr), (ps ++ [p])[i]? = some q → (ps[i]? = some q ∧ i < ps.length) ∨ (i = ps.length ∧ q = p) := fun i q hq => by
      by_cases hi : i < ps.length
      · rw [List.getElem?_append_left hi] at hq; exact .inl ⟨hq, hi⟩
      · rw [List.getElem?_append_right (by omega)] at hq
        have hlt := (List.getElem?_eq_some_iff.1 hq).1
        simp at hlt
        have e : i = ps.length := by omega
        subst e
        simp at hq
        exact .inr ⟨rfl, hq.symm⟩
    rcases hcase i q hq with ⟨hq1, hi⟩ | ⟨hi, e1⟩
    · rcases hcase j r hr with ⟨hr1, hj⟩ | ⟨hj, e2⟩
      · exact h.sep i j q r hq1 hr1 hij k hk hk'
      · have := ((h.each q (List.mem_of_getElem? hq1)).1.uty k hk).lt
        have := hU k (e2 ▸ hk')
        omega
    · rcases hcase j r hr with ⟨hr1, hj⟩ | ⟨hj, e2⟩
      · have := ((h.each r (List.mem_of_getElem? hr1)).1.uty k hk').lt
        have := hU k (e1 ▸ hk)
        omega
      · exact hij (hi.trans hj.symm)
  · exact hL1.below.trans (hc1.below hL1.below.size (fun k hk => by
      rcases hk with rfl | hk
      · exact hbw
      · exact (owns_block h.row hk).1))
  · have := h.q k hk
    have := hc1.size
    omega
  · have := (Chg.ofBelow (fun k => k = bw ∨ vl.ownBlock = some k) hb).trans hc1
    exact this

/-- Behind begins. -/
def BegP (F : Nat → Eg → Er → Prop) (n : Nat) (w : World) (Q : Nat → Prop) (bw : Nat) (vl vls vks : Value) (ps : List Pr) (G : Prop) (W W' : World) : Prop :=
  ∃ vl' ps', W'.heap[bw]? = some (Obj.cells #[vl', vls, vks] 31 (0, 0)) ∧ LwI F n w Q vl' ps' W' ∧ ps.length ≤ ps'.length ∧ ps'.length ≤ ps.length + 1 ∧ (G → ps'.length = ps.length + 1) ∧ Chg W W' (fun k => k = bw ∨ vl.ownBlock = some k)
theorem Tryz.infoPair : (Tryz.prog.info? 81).map (fun i => (i.zero, i.size, i.bytes)) = some (some (.agg #[.pointer none, .pointer none]), 2, 16) := by kernel_rfl

set_option maxRecDepth 100000 in
set_option maxHeartbeats 2000000 in
theorem begins_any {F : Nat → Eg → Er → Prop} (hF : FOk F) {n : Nat} {w : World} {Q : Nat → Prop} {vl vls vks : Value} {ps : List Pr} {W : World} {bw : Nat} (h : LwI F n w Q vl ps W) (hbw : w.heap.size ≤ bw) (hbox : W.heap[bw]? = some (Obj.cells #[vl, vls, vks] 31 (0, 0))) (hpl : ps.length ≤ 10000000) (o : Stp) (hs : o.s.size ≤ 1048576) (hT : Lib.Utf8Tabs 0 1 W) :
    Calls Tryz.prog 33 #[.pointer (some ⟨bw, 0, none⟩), o.v] W fun en W' => en = .returned (.bool true) ∧ BegP F n w Q bw vl vls vks ps ((∃ rs, parseD o.s = .ok rs) ∧ argsOk o.a o.b o.c) W W' := by
  unfold Stp.v
  obtain ⟨kd, ke, s, a, b, c⟩ := o
  simp only at hs ⊢
  obtain ⟨N, hN⟩ : ∃ N, W.heap.size = N := ⟨_, rfl⟩
  obtain ⟨W0, hW0⟩ : ∃ W0, W.alloc (.cells #[.int .i64 kd, .int .i64 ke, .string s, .int .i64 a, .int .i64 b, .int .i64 c] 34) = W0 := ⟨_, rfl⟩
  have hb0 : Below W.heap.size W W0 := by rw [← hW0]; exact (Below.refl _ W).alloc (Nat.le_refl _) _
  have hbo : W0.heap[N]? = some (Obj.cells #[.int .i64 kd, .int .i64 ke, .string s, .int .i64 a, .int .i64 b, .int .i64 c] 34 (0, 0)) := by rw [← hW0, ← hN]; exact World.alloc_heap_new W _
  have hT0 := Utf8Tabs_below hT hb0
  have HC : Hid (∀ Y, Below W0.heap.size W0 Y → Y.cell? ⟨N, 2, none⟩ = some (.string s) ∧ Y.cell? ⟨N, 3, none⟩ = some (.int .i64 a) ∧ Y.cell? ⟨N, 4, none⟩ = some (.int .i64 b) ∧ Y.cell? ⟨N, 5, none⟩ = some (.int .i64 c)) := fun Y hY => by
    have h2 := (hY.block N (Array.getElem?_eq_some_iff.1 hbo).1).trans hbo
    exact ⟨by simp [World.cell?, h2], by simp [World.cell?, h2], by simp [World.cell?, h2], by simp [World.cell?, h2]⟩
  obtain ⟨c2, c3, c4, c5⟩ := HC.out W0 (Below.refl _ _)
  have HB0 : Hid (Below W.heap.size W W0) := hb0
  have HI : Hid (LwI F n w Q vl ps W) := h
  have hny : Hid (∀ Y, Calls Tryz.prog 66 #[.string s, .int .i64 a, .int .i64 b, .int .i64 c] Y (NewR s a b c Y)) := fun Y => newD_any s a b c Y hs
  have hnx : Hid (Calls Tryz.prog 39 #[.string s, .int .i64 a, .int .i64 b, .int .i64 c] W0 (NewC s a b c W0)) := newC_any s a b c W0 hs hT0
  have HBOX : Hid (W.heap[bw]? = some (Obj.cells #[vl, vls, vks] 31 (0, 0))) := hbox
  have hsame : Hid (∀ Y, Below W.heap.size W Y → (¬ ((∃ rs, parseD s = .ok rs) ∧ argsOk a b c)) → BegP F n w Q bw vl vls vks ps ((∃ rs, parseD s = .ok rs) ∧ argsOk a b c) W Y) := fun Y hY hG => ⟨vl, ps, (hY.block bw (Array.getElem?_eq_some_iff.1 HBOX.out).1).trans HBOX.out, HI.out.same (fun _ _ => id) hY, Nat.le_refl _, Nat.le_succ _, fun g => absurd g hG, Chg.ofBelow _ hY⟩
  obtain ⟨la, lc, hvl⟩ := owns_form h.row
  subst hvl
  obtain ⟨i0, hi, hz0, hz1, hz2⟩ := info_parts Tryz.infoPair
  clear hb0 hbo hT0 h hT hbox
  by_cases hG : (∃ rs, parseD s = .ok rs) ∧ argsOk a b c
  · obtain ⟨⟨rs, hp⟩, ha⟩ := hG
    have hgood := parse_good s rs hp
    have hnx2 : Hid (Calls Tryz.prog 39 #[.string s, .int .i64 a, .int .i64 b, .int .i64 c] W0 (NewPost rs a b c W0)) := by
      refine Calls.mono hnx.out ?_
      intro e w' hh
      unfold NewC at hh
      rw [hp] at hh
      rcases hh with ⟨_, hh⟩ | ⟨h5, _⟩
      · exact hh
      · exact absurd ha h5
    have hny2 : Hid (∀ Y, Calls Tryz.prog 66 #[.string s, .int .i64 a, .int .i64 b, .int .i64 c] Y fun e w' => Below Y.heap.size Y w' ∧ ∃ (b' : Nat) (T : Nat → Prop) (st : List Gr), e = .returned (.tuple #[.pointer (some ⟨b', 0, none⟩), .int .i64 0]) ∧ IsLeast rs [] (nmL [] (tmsOf (amsR rs))) st ∧ ErM w' T b' (newEr rs a b c st) ∧ ∀ k, T k → Y.heap.size ≤ k) := fun Y => by
      refine Calls.mono (hny.out Y) ?_
      intro e w' hh
      unfold NewR at hh
      rw [hp] at hh
      rcases hh with ⟨h0, ⟨_, hh⟩ | ⟨h5, _⟩⟩
      · exact ⟨h0, hh⟩
      · exact absurd ha h5
    have HGd : Hid (RsGood s rs) := hgood
    have HA : Hid (argsOk a b c) := ha
    clear hnx hny hsame hgood ha hp
    go_enter Tryz.func33, Tryz.ntmps33
    go_wp2_with fail
    refine Calls.mono hnx2.out ?_
    rintro e' W1 ⟨be, S, M, rfl, hM, hE, hS, hb1⟩
    obtain ⟨d2, d3, d4, d5⟩ := HC.out W1 hb1
    have HB1 : Hid (Below W0.heap.size W0 W1) := hb1
    have HE : Hid (EngAt W1 S be (newE rs a b c M) ∧ (∀ k, S k → W0.heap.size ≤ k) ∧ LeastM rs (givenL rs) M) := ⟨hE, hS, hM⟩
    clear c2 c3 c4 c5 hnx2 hE hS hM hb1
    go_wp2_with fail
    refine Calls.mono (hny2.out W1) ?_
    rintro e' W2 ⟨hb2, bz, T, st, rfl, hLe, hEr, hTl⟩
    clear d2 d3 d4 d5 hny2
    obtain ⟨p, hpd⟩ : ∃ p : Pr, ⟨be, bz, newE rs a b c M, newEr rs a b c st, [], S, fun k => T k ∧ RTy W2 k⟩ = p := ⟨_, rfl⟩
    have hz0' := HB0.out.size
    have hz1' := HB1.out.size
    have hbw2 : Below W.heap.size W W2 := (HB0.out.trans (HB1.out.mono hz0')).trans (hb2.mono (by omega))
    have hPA : PrAt W2 p ∧ PrOk F n p ∧ ∀ k, p.U k → W.heap.size ≤ k := by
      rw [← hpd]
      refine ⟨⟨HE.out.1.below hb2, hEr.narrow, fun k hk => hk.2, fun k hk hk' => ?_⟩, ⟨new_ok HGd.out.new HA.out.1 HA.out.2.1 HA.out.2.2 HE.out.2.2, new_rel HGd.out HA.out HE.out.2.2 hLe, by simp [newEr], hF.new n rs a b c M st⟩, fun k hk => ?_⟩
      · have h5 := (HE.out.1.tyW k hk).lt
        have := hTl k hk'.1
        omega
      · rcases hk with hk | hk
        · have := HE.out.2.1 k hk; omega
        · have := hTl k hk.1; omega
    have HPA : Hid _ := hPA
    have hprc : prC p = [.pointer (some ⟨be, 0, none⟩), .pointer (some ⟨bz, 0, none⟩)] := by rw [← hpd]; rfl
    have HPC : Hid _ := hprc
    have hadd : Hid (∀ (O : Obj) (w1 : World) (vl' : Value), (W2.alloc O).grownBy w1 (Value.slice la ps.length lc).ownBlock → w1.ownsRow w.heap.size 81 2 vl' (ps.length + 1) (ps.flatMap prC ++ [.pointer (some ⟨be, 0, none⟩), .pointer (some ⟨bz, 0, none⟩)]) → w1.cell? ⟨bw, 0, none⟩ = some (.slice la ps.length lc) ∧ w1.frozen? ⟨bw, 0, none⟩ = false ∧ Hid (BegP F n w Q bw (.slice la ps.length lc) vls vks ps ((∃ rs, parseD s = .ok rs) ∧ argsOk a b c) W (w1.setCell ⟨bw, 0, none⟩ vl'))) := fun O w1 vl' hg ho => by
      rw [← HPC.out] at ho
      obtain ⟨k1, k2, k3, k4, k5⟩ := HI.out.add hbw HBOX.out hbw2 HPA.out.1 HPA.out.2.1 HPA.out.2.2 hg ho
      exact ⟨k1, k2, vl', ps ++ [p], k3, k4, by simp, by simp, fun _ => by simp, k5⟩
    have hrow2 : Hid (W2.ownsRow w.heap.size 81 2 (.slice la ps.length lc) ps.length (ps.flatMap prC)) := own_below HI.out.row hbw2
    have hbx2 : W2.heap[bw]? = some (Obj.cells #[.slice la ps.length lc, vls, vks] 31 (0, 0)) := (hbw2.block bw (Array.getElem?_eq_some_iff.1 HBOX.out).1).trans HBOX.out
    have l0 : W2.cell? ⟨bw, 0, none⟩ = some (.slice la ps.length lc) := by simp [World.cell?, hbx2]
    have hbase : Hid (∀ O, w.heap.size ≤ (W2.alloc O).heap.size) := fun O => by have := hbw2.size; have := HI.out.below.size; simp; omega
    clear hPA hprc hLe hEr hTl hb2 hbw2 hbx2 hz0' hz1' hpd
    go_wp2_with (at_builtin; refine wpList_append_own _ rfl _ _ 27 rfl w.heap.size 81 i0 _ 2 16 Tryz.underlying27 hi hz0 hz1 hz2 rfl (by decide) _ ps.length (ps.flatMap prC) rfl (hrow2.out.alloc _) ⟨W2.heap.size, 0, none⟩ 1 _ [.pointer (some ⟨be, 0, none⟩), .pointer (some ⟨bz, 0, none⟩)] rfl rfl (two_new _ _ _ _) (by simp [Value.oneCell']) (by unfold maxLen; omega) (by omega) (hbase.out _) ?_; intro vx' w1 ho1 hg1 _; obtain ⟨g', cap', hv'⟩ := ownsRow_succ ho1; subst hv'; obtain ⟨s0, y0, hfin⟩ := hadd.out _ _ _ hg1 ho1; clear ho1 hg1)
    go_ret
    exact ⟨rfl, hfin.out⟩
  · obtain ⟨cd, hcd, hnx2, hny2⟩ : ∃ cd : Int, cd ≠ 0 ∧ Hid (Calls Tryz.prog 39 #[.string s, .int .i64 a, .int .i64 b, .int .i64 c] W0 fun e w' => e = .returned (.tuple #[.pointer none, .int .i64 cd]) ∧ Below W0.heap.size W0 w') ∧ Hid (∀ Y, Calls Tryz.prog 66 #[.string s, .int .i64 a, .int .i64 b, .int .i64 c] Y fun e w' => e = .returned (.tuple #[.pointer none, .int .i64 cd]) ∧ Below Y.heap.size Y w') := by
      cases hp : parseD s with
      | error cp =>
        obtain ⟨cd, pl⟩ := cp
        refine ⟨cd, parseD_err s cd pl hp, ?_, fun Y => ?_⟩
        · refine Calls.mono hnx.out ?_
          intro e w' hh
          unfold NewC at hh
          rw [hp] at hh
          exact hh
        · refine Calls.mono (hny.out Y) ?_
          intro e w' hh
          unfold NewR at hh
          rw [hp] at hh
          exact ⟨hh.2, hh.1⟩
      | ok rs =>
        have hna : ¬ argsOk a b c := fun ha => hG ⟨⟨rs, hp⟩, ha⟩
        refine ⟨6, by decide, ?_, fun Y => ?_⟩
        · refine Calls.mono hnx.out ?_
          intro e w' hh
          unfold NewC at hh
          rw [hp] at hh
          rcases hh with ⟨h5, _⟩ | ⟨_, hh⟩
          · exact absurd h5 hna
          · exact hh
        · refine Calls.mono (hny.out Y) ?_
          intro e w' hh
          unfold NewR at hh
          rw [hp] at hh
          rcases hh with ⟨h0, ⟨h5, _⟩ | ⟨_, hh⟩⟩
          · exact absurd h5 hna
          · exact ⟨hh, h0⟩
    have hcb : (cd == 0) = false := by simpa using hcd
    have hcb2 : (cd != 0) = true := by simpa using hcd
    have HG : Hid _ := hG
    clear hnx hny hG
    go_enter Tryz.func33, Tryz.ntmps33
    go_wp2_with fail
    refine Calls.mono hnx2.out ?_
    rintro e' W1 ⟨rfl, hb1⟩
    obtain ⟨d2, d3, d4, d5⟩ := HC.out W1 hb1
    have HB1 : Hid (Below W0.heap.size W0 W1) := hb1
    clear c2 c3 c4 c5 hnx2 hb1
    go_wp2_with fail
    refine Calls.mono (hny2.out W1) ?_
    rintro e' W2 ⟨rfl, hb2⟩
    have HBF : Hid (Below W.heap.size W W2) := (HB0.out.trans (HB1.out.mono HB0.out.size)).trans (hb2.mono (by have := HB0.out.size; have := HB1.out.size; omega))
    clear d2 d3 d4 d5 hny2 hb2
    go_wp2
    go_ret
    exact ⟨rfl, hsame.out _ HBF.out HG.out⟩

end Go.Proofs.YtjajnhemgphefaaGreatDoor
