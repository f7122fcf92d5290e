/-
  The document's own answer: rules, read off tokens: in plain functions, and how they lie in memory.
-/
import Derived.Test.YtjajnhemgphefaaGreatDoorJRefK
namespace Go.Proofs.YtjajnhemgphefaaGreatDoor
open Go.RowKit Go.Shelf
set_option linter.unusedVariables false
set_option linter.unusedSimpArgs false

/-- The atoms of a body, from the token behind the head (or behind an atom) on; how many tokens stand ahead of the dot. -/
def bodyR : Nat → List ByteArray → List RT → Option (List Am × Nat)
  | 0, _, _ => none
  | f + 1, vs, us =>
    match us with
    | [] => none
    | t :: us1 =>
      if t.kind = 46 then some ([], 0) else
      match us1 with
      | r :: p :: us2 =>
        match argsR vs us2 with
        | some (l, vs', n) =>
          match bodyR f vs' (us2.drop n) with
          | some (bs, m) => some (⟨r.text, l⟩ :: bs, 3 + n + m)
          | none => none
        | none => none
      | _ => none

def readR : Nat → List RT → Option (List Rl)
  | 0, _ => none
  | f + 1, us =>
    match us with
    | [] => none
    | t :: us1 =>
      if t.kind = 4 then some [] else
      match us1 with
      | [] => none
      | p :: us2 =>
        match argsR [] us2 with
        | some (l, vs, n) =>
          match bodyR us2.length vs (us2.drop n) with
          | some (bs, m) =>
            match readR f ((us2.drop n).drop (m + 1)) with
            | some rs => some (⟨⟨t.text, l⟩, bs⟩ :: rs)
            | none => none
          | none => none
        | none => none

def amC (p : Am × Value) : List Value := [.string p.1.rel, p.2]
def rlC (q : Rl × Value × Value) : List Value := [.string q.1.head.rel, q.2.1, q.2.2]
theorem amC_len (p : Am × Value) : (amC p).length = 2 := rfl
theorem rlC_len (q : Rl × Value × Value) : (rlC q).length = 3 := rfl

def AtomV (W : World) (p : Am × Value) : Prop := W.ownsRow 0 215 2 p.2 p.1.args.length (p.1.args.flatMap tmC)
def BodyV (W : World) (S : Nat) (v : Value) (l : List Am) : Prop :=
  ∃ ps : List (Am × Value), ps.map (·.1) = l ∧ W.ownsRow 0 145 2 v ps.length (ps.flatMap amC) ∧ (∀ g, v.ownBlock = some g → g < S) ∧ ∀ p ∈ ps, AtomV W p
def RuleV2 (W : World) (S : Nat) (q : Rl × Value × Value) : Prop := AtomV W (q.1.head, q.2.1) ∧ BodyV W S q.2.2 q.1.body

/-- Whatever holds arguments, and whatever below S holds atoms, is as it was. -/
structure Kp (S : Nat) (X Y : World) : Prop where
  arg : ∀ (k : Nat) (c : Array Value), X.heap[k]? = some (Obj.cells c 215 (0, 0)) → Y.heap[k]? = X.heap[k]?
  atom : ∀ (k : Nat) (c : Array Value), k < S → X.heap[k]? = some (Obj.cells c 145 (0, 0)) → Y.heap[k]? = X.heap[k]?

theorem own_cells {W : World} {B T k n : Nat} {v : Value} {xs : List Value} (h : W.ownsRow B T k v n xs) {g : Nat} (hg : v.ownBlock = some g) : ∃ c, W.heap[g]? = some (Obj.cells c T (0, 0)) := by
  obtain ⟨_, ⟨hv, hn⟩ | ⟨g', cap, cur, hv, hb, hh, _⟩⟩ := h
  · rw [hv] at hg; cases hg
  · rw [hv] at hg; cases hg; exact ⟨cur, hh⟩

theorem AtomV.kept {S : Nat} {X Y : World} {p : Am × Value} (h : AtomV X p) (hk : Kp S X Y) : AtomV Y p :=
  own_keep h (fun g hg _ => by obtain ⟨c, hc⟩ := own_cells h hg; exact hk.arg g c hc)
theorem BodyV.kept {S : Nat} {X Y : World} {v : Value} {l : List Am} (h : BodyV X S v l) (hk : Kp S X Y) : BodyV Y S v l := by
  obtain ⟨ps, h1, h2, h3, h4⟩ := h
  exact ⟨ps, h1, own_keep h2 (fun g hg _ => by obtain ⟨c, hc⟩ := own_cells h2 hg; exact hk.atom g c (h3 g hg) hc), h3, fun p hp => (h4 p hp).kept hk⟩
theorem RuleV2.kept {S : Nat} {X Y : World} {q : Rl × Value × Value} (h : RuleV2 X S q) (hk : Kp S X Y) : RuleV2 Y S q := ⟨h.1.kept hk, h.2.kept hk⟩
theorem BodyV.mono {S S' : Nat} {X : World} {v : Value} {l : List Am} (h : BodyV X S v l) (hs : S ≤ S') : BodyV X S' v l := by
  obtain ⟨ps, h1, h2, h3, h4⟩ := h
  exact ⟨ps, h1, h2, fun g hg => by have := h3 g hg; omega, h4⟩
theorem RuleV2.mono {S S' : Nat} {X : World} {q : Rl × Value × Value} (h : RuleV2 X S q) (hs : S ≤ S') : RuleV2 X S' q := ⟨h.1, h.2.mono hs⟩

theorem Kp.ofStr {B S : Nat} {X Y : World} (h : StrOnly B X Y) : Kp S X Y :=
  ⟨fun k c hc => h.block k (Array.getElem?_eq_some_iff.1 hc).1 (.inr fun c' fz e => by rw [hc] at e; cases e),
   fun k c _ hc => h.block k (Array.getElem?_eq_some_iff.1 hc).1 (.inr fun c' fz e => by rw [hc] at e; cases e)⟩
theorem Kp.alloc {S : Nat} (X : World) (o : Obj) : Kp S X (X.alloc o) :=
  ⟨fun k c hc => Below.heap_alloc _ _ _ (Array.getElem?_eq_some_iff.1 hc).1, fun k c _ hc => Below.heap_alloc _ _ _ (Array.getElem?_eq_some_iff.1 hc).1⟩
theorem Kp.trans {S : Nat} {X Y Z : World} (h : Kp S X Y) (k : Kp S Y Z) : Kp S X Z :=
  ⟨fun i c hc => by have h1 := h.arg i c hc; rw [k.arg i c (h1.trans hc), h1], fun i c hi hc => by have h1 := h.atom i c hi hc; rw [k.atom i c hi (h1.trans hc), h1]⟩
/-- A row of atoms from S on grows. -/
theorem Kp.grownAtom {S B n : Nat} {X Y : World} {v : Value} {xs : List Value} (ho : X.ownsRow B 145 2 v n xs) (hB : S ≤ B) (hg : X.grownBy Y v.ownBlock) : Kp S X Y := by
  refine ⟨fun k c hc => hg.block k (Array.getElem?_eq_some_iff.1 hc).1 (fun e => ?_), fun k c hk hc => hg.block k (Array.getElem?_eq_some_iff.1 hc).1 (fun e => ?_)⟩
  · obtain ⟨c', hc'⟩ := own_cells ho e.symm; rw [hc] at hc'; cases hc'
  · have := (own_str ho k e.symm).1; omega
/-- A row of rules grows. -/
theorem Kp.grownRule {S B n : Nat} {X Y : World} {v : Value} {xs : List Value} (ho : X.ownsRow B 148 3 v n xs) (hg : X.grownBy Y v.ownBlock) : Kp S X Y := by
  refine ⟨fun k c hc => hg.block k (Array.getElem?_eq_some_iff.1 hc).1 (fun e => ?_), fun k c hk hc => hg.block k (Array.getElem?_eq_some_iff.1 hc).1 (fun e => ?_)⟩
  · obtain ⟨c', hc'⟩ := own_cells ho e.symm; rw [hc] at hc'; cases hc'
  · obtain ⟨c', hc'⟩ := own_cells ho e.symm; rw [hc] at hc'; cases hc'
theorem Kp.setRule {S : Nat} {X : World} {b : Nat} {c : Array Value} (hb : X.heap[b]? = some (Obj.cells c 148 (0, 0))) (o : Nat) (u : Value) : Kp S X (X.setCell ⟨b, o, none⟩ u) := by
  refine ⟨fun k c' hc => Below.heap_setCell _ _ _ _ (fun e => ?_), fun k c' _ hc => Below.heap_setCell _ _ _ _ (fun e => ?_)⟩
  · simp at e; subst e; rw [hb] at hc; cases hc
  · simp at e; subst e; rw [hb] at hc; cases hc

structure InSt (N S : Nat) (w X : World) (vl : Value) (qs : List (Rl × Value × Value)) (hd : Am) (va vb : Value) (ps : List (Am × Value)) (v : Value) (vs : List ByteArray) : Prop where
  ns : N ≤ S
  below : Below N w X
  rows : X.ownsRow N 148 3 vl qs.length (qs.flatMap rlC)
  vlS : ∀ g, vl.ownBlock = some g → g < S
  each : ∀ q ∈ qs, RuleV2 X S q
  xb : X.heap[S + 1]? = some (Obj.cells #[.string hd.rel, va, vb] 148 (0, 0))
  head : AtomV X (hd, va)
  brow : X.ownsRow (S + 2) 145 2 vb ps.length (ps.flatMap amC)
  beach : ∀ p ∈ ps, AtomV X p
  vars : X.ownsRow N 9 1 v vs.length (vs.map Value.string)

variable {N S : Nat} {w X Y : World} {vl : Value} {qs : List (Rl × Value × Value)} {hd : Am} {va vb vb' : Value} {ps : List (Am × Value)} {v v' : Value} {vs vs' : List ByteArray}

theorem InSt.alloc (h : InSt N S w X vl qs hd va vb ps v vs) (o : Obj) : InSt N S w (X.alloc o) vl qs hd va vb ps v vs := by
  have hs : N ≤ X.heap.size := by have := (Array.getElem?_eq_some_iff.1 h.xb).1; have := h.ns; omega
  exact ⟨h.ns, h.below.alloc hs o, h.rows.alloc o, h.vlS, fun q hq => (h.each q hq).kept (Kp.alloc X o), (Below.heap_alloc _ _ _ (Array.getElem?_eq_some_iff.1 h.xb).1).trans h.xb, h.head.kept (Kp.alloc (S := S) X o), h.brow.alloc o, fun p hp => (h.beach p hp).kept (Kp.alloc (S := S) X o), h.vars.alloc o⟩

theorem below_str {B : Nat} {X Y : World} (h : StrOnly B X Y) (hB : B ≤ X.heap.size) : Below B X Y := ⟨h.os, h.tape, h.output, h.size, fun k hk => h.block k (by omega) (.inl hk)⟩

theorem InSt.atom (h : InSt N S w X vl qs hd va vb ps v vs) (hs : StrOnly N X Y) (hv : Y.ownsRow N 9 1 v' vs'.length (vs'.map Value.string)) : InSt N S w Y vl qs hd va vb ps v' vs' := by
  have hk : Kp S X Y := Kp.ofStr hs
  have hN : N ≤ X.heap.size := by have := (Array.getElem?_eq_some_iff.1 h.xb).1; have := h.ns; omega
  exact ⟨h.ns, h.below.trans (below_str hs hN), hs.own (by decide) h.rows, h.vlS, fun q hq => (h.each q hq).kept hk, (hs.block _ (Array.getElem?_eq_some_iff.1 h.xb).1 (.inr fun c fz e => by rw [h.xb] at e; cases e)).trans h.xb, h.head.kept hk, hs.own (by decide) h.brow, fun p hp => (h.beach p hp).kept hk, hv⟩

theorem InSt.app (h : InSt N S w X vl qs hd va vb ps v vs) (hw : w.heap.size = N) (p : Am × Value) (hp : AtomV X p) (hg : X.grownBy Y vb.ownBlock) (ho : Y.ownsRow (S + 2) 145 2 vb' (ps.length + 1) (ps.flatMap amC ++ amC p)) : InSt N S w (Y.setCell ⟨S + 1, 2, none⟩ vb') vl qs hd va vb' (ps ++ [p]) v vs := by
  have hN : N ≤ X.heap.size := by have := (Array.getElem?_eq_some_iff.1 h.xb).1; have := h.ns; omega
  have hns := h.ns
  have hlo : ∀ k, vb.ownBlock = some k → S + 2 ≤ k := fun k e => (own_str h.brow k e).1
  have k1 : Kp S X Y := Kp.grownAtom h.brow (by omega) hg
  have hx : Y.heap[S + 1]? = some (Obj.cells #[.string hd.rel, va, vb] 148 (0, 0)) := (hg.block _ (Array.getElem?_eq_some_iff.1 h.xb).1 (fun e => by have := hlo _ e.symm; omega)).trans h.xb
  have k2 : Kp S Y (Y.setCell ⟨S + 1, 2, none⟩ vb') := Kp.setRule hx 2 vb'
  have kk := k1.trans k2
  refine ⟨h.ns, (h.below.grown hg hN (fun k e => by have := hlo k e; omega)).setCell (by simp; omega) _, ?_, h.vlS, fun q hq => (h.each q hq).kept kk, heap_set1 hx 2 vb', h.head.kept kk, ?_, ?_, ?_⟩
  · refine own_keep h.rows (fun g hg' hlt => ?_)
    have h1 := h.vlS g hg'
    rw [Below.heap_setCell _ _ _ _ (by simp; omega)]
    exact hg.block g hlt (fun e => by have := hlo g e.symm; omega)
  · have h2 : Y.ownsRow (S + 2) 145 2 vb' (ps ++ [p]).length ((ps ++ [p]).flatMap amC) := by simpa using ho
    exact own_keep h2 (fun g hg' _ => Below.heap_setCell _ _ _ _ (fun e => by have := (own_str ho g hg').1; simp at e; omega))
  · intro q hq
    rcases List.mem_append.1 hq with hq | hq
    · exact (h.beach q hq).kept kk
    · simp at hq; subst hq; exact hp.kept kk
  · refine own_keep h.vars (fun g hg' hlt => ?_)
    rw [Below.heap_setCell _ _ _ _ (fun e => ?_)]
    · refine hg.block g hlt (fun e => ?_)
      obtain ⟨c, hc⟩ := own_cells h.vars hg'
      obtain ⟨c', hc'⟩ := own_cells h.brow e.symm
      rw [hc] at hc'; cases hc'
    · simp at e; subst e
      obtain ⟨c, hc⟩ := own_cells h.vars hg'
      rw [h.xb] at hc; cases hc

/-- The rules that are read so far. -/
structure OutSt (N : Nat) (w X : World) (vl : Value) (qs : List (Rl × Value × Value)) : Prop where
  below : Below N w X
  size : N ≤ X.heap.size
  rows : X.ownsRow N 148 3 vl qs.length (qs.flatMap rlC)
  each : ∀ q ∈ qs, RuleV2 X X.heap.size q

/-- A rule is read to its end. -/
theorem InSt.done (h : InSt N S w X vl qs hd va vb ps v vs) {vl' : Value} {o : Obj} (hg : (X.alloc o).grownBy Y vl.ownBlock) (ho : Y.ownsRow N 148 3 vl' (qs.length + 1) (qs.flatMap rlC ++ [.string hd.rel, va, vb])) :
    OutSt N w Y vl' (qs ++ [(⟨hd, ps.map (·.1)⟩, va, vb)]) := by
  have hx := (Array.getElem?_eq_some_iff.1 h.xb).1
  have hns := h.ns
  have h2 := h.alloc o
  have hsz := hg.size
  have k1 : Kp X.heap.size X (X.alloc o) := Kp.alloc X o
  have k2 : Kp X.heap.size (X.alloc o) Y := Kp.grownRule h2.rows hg
  have kk := k1.trans k2
  simp at hsz
  refine ⟨h2.below.grown hg (by simp; omega) (fun k e => (own_str h.rows k e).1), by omega, by simpa [rlC] using ho, fun q hq => ?_⟩
  rcases List.mem_append.1 hq with hq | hq
  · exact (((h.each q hq).mono (by omega : S ≤ X.heap.size)).kept kk).mono (by omega)
  · simp at hq
    subst hq
    refine ⟨h.head.kept kk, ⟨ps, rfl, ?_, ?_, fun p hp => (h.beach p hp).kept kk⟩⟩
    · refine own_keep (own_down h.brow (Nat.zero_le _)) (fun g hg' _ => ?_)
      obtain ⟨c, hc⟩ := own_cells h.brow hg'
      exact kk.atom g c (Array.getElem?_eq_some_iff.1 hc).1 hc
    · intro g hg'
      have := (own_str h.brow g hg').2.1; omega

end Go.Proofs.YtjajnhemgphefaaGreatDoor
