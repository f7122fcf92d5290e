/-
  A range over an iterator that itself ranges over an iterator: the iterator's contract may lean on an invariant that abides the turn of any block that is no cells and lies beyond the call; one law for the caller.
-/
import Derived.Test.YtjajnhemgphefaaDoorJAtoms
namespace Go.Proofs.YtjajnhemgphefaaDoor
open Go.RowKit Go.Shelf
set_option linter.unusedVariables false
set_option linter.unusedSimpArgs false

/-- The iterator gf hands out a list with S, or a part of one with Sp where the loop bids it end: for every loop whose invariant abides what lies beyond. -/
def SeqN {α : Type} (n gf : Nat) (lb : Array Value) (encs : α → Array Value) (Kp : World → World → Prop) (S Sp : List α → Prop) (N : Nat) (w : World) : Prop :=
  ∀ (l : Nat) (J Jx : List α → World → Prop) (W : World), Below w.heap.size w W → w.heap.size + 2 ≤ W.heap.size → OwnFrom W.heap.size J → OwnFrom W.heap.size Jx →
    (∀ pre x W1, J pre W1 → pre.length < N → YieldAt Fence.wide (n - 1) Tryd.prog l (encs x) W1 fun e W' =>
      (e = .returned (.bool true) ∧ J (pre ++ [x]) W' ∧ Kp W1 W') ∨ (e = .returned (.bool false) ∧ Jx (pre ++ [x]) W' ∧ KeepsFrom (w.heap.size + 2) W1 W')) →
    J [] W → CallsIn Fence.wide n Tryd.prog gf (#[.func (.yield l) #[] #[]] ++ lb) W fun e W' => (∃ v, e = .returned v) ∧ ((∃ xs, S xs ∧ J xs W') ∨ (∃ pre, Sp pre ∧ Jx pre W'))

theorem KeepsFrom.tr {m : Nat} {A B C : World} (h : KeepsFrom m A B) (k : KeepsFrom m B C) : KeepsFrom m A C := ⟨Nat.le_trans h.size k.size, fun i o hi ho hc => k.same i o hi (h.same i o hi ho hc) hc⟩
theorem KeepsFrom.up {m m' : Nat} {A B : World} (h : KeepsFrom m A B) (hm : m ≤ m') : KeepsFrom m' A B := ⟨h.size, fun i o hi ho hc => h.same i o (by omega) ho hc⟩
theorem KeepsFrom.ofBelow {m : Nat} {W W' : World} (h : Below W.heap.size W W') : KeepsFrom m W W' := ⟨h.size, fun k o _ hk _ => (h.block k (Array.getElem?_eq_some_iff.1 hk).1).trans hk⟩
theorem KeepsFrom.put {m : Nat} (W : World) (l : Nat) (o' : Obj) (hl : l < m) : KeepsFrom m W (W.putObj l o') :=
  ⟨(grownBy_putObj' W l o').size, fun k x hk hx _ => ((grownBy_putObj' W l o').block k (Array.getElem?_eq_some_iff.1 hx).1 (by simp; omega)).trans hx⟩

theorem SeqN.ofStops {α : Type} {n gf : Nat} {lb : Array Value} {encs : α → Array Value} {Kp : World → World → Prop} {S Sp : List α → Prop} {N : Nat} {w : World}
    (h : SeqStopsK Fence.wide n Tryd.prog gf lb encs Kp S Sp N w) : SeqN n gf lb encs Kp S Sp N w := by
  intro l J Jx W hW _ hJ hJx hY h0
  refine h l J Jx W hW (fun s A B row hs hg hr => hJ s A B row hs hg (fun r e => ?_)) (fun s A B row hs hg hr => hJx s A B row hs hg (fun r e => ?_)) (fun pre x W1 h1 h2 => (hY pre x W1 h1 h2).mono (fun e W' h => h.imp id (fun k => ⟨k.1, k.2.1⟩))) h0
  all_goals
    obtain ⟨h1, o, ho, hw⟩ := hr r e
    exact ⟨h1, o, ho, Obj.not_cells_of_walk hw⟩

/-- What the loop's own two blocks hold, beside the caller's invariant. -/
structure Held (I : World → Prop) (D : Nat) (rec : Loop) (W : World) : Prop where
  inv : I W
  loop : W.heap[D + 1]? = some (.loop rec)
  mark : W.heap[D]? = some (.deferred (some []))

theorem Held.own {β : Type} {I : β → World → Prop} {B D : Nat} {rec : β → Loop} (hI : OwnFrom B I) (hB : D + 2 ≤ B) : OwnFrom B (fun s => Held (I s) D (rec s)) := by
  rintro s W W' row ⟨h1, h2, h3⟩ hg hr
  have hk : ∀ (k : Nat) (o : Obj), k < B → W.heap[k]? = some o → W'.heap[k]? = some o := fun k o hk ho =>
    (hg.block k (Array.getElem?_eq_some_iff.1 ho).1 (fun e => by have := (hr k e.symm).1; omega)).trans ho
  exact ⟨hI s W W' row h1 hg hr, hk _ _ (by omega) h2, hk _ _ (by omega) h3⟩

section
variable {α : Type} {n gf : Nat} {lb : Array Value} {encs : α → Array Value} {Kp : World → World → Prop} {S Sp : List α → Prop} {N : Nat}

theorem range_law {g : Operand} {ps : Array Tmp} {assign body : Code} {Q : Exit → Act → World → Prop} {a : Act} {w : World}
    (hg : a.eval g = .func (.func gf) #[] lb) (eg : ∀ args w, (callFunc gf args).run Tryd.prog w = .ok (.enter gf args) w) (hseq : SeqN (n - 1) gf lb encs Kp S Sp N w)
    (hKt : ∀ {A B C : World}, Kp A B → Kp B C → Kp A C) (hKb : ∀ (W : World) (o o' : Obj), W.heap[w.heap.size + 1]? = some o → o.isCells = false → Kp W (W.putObj (w.heap.size + 1) o')) (hps : ∀ x, (encs x).size = ps.size)
    (I : List α → World → Prop) (Ix : Code → List α → World → Prop) (hI : OwnFrom w.heap.size I) (hIx : ∀ c, OwnFrom w.heap.size (Ix c)) (h0 : I [] w) (Ax : α → Act → World → Prop) (hAx : ∀ x a', OwnFrom w.heap.size (fun (_ : Unit) W => Ax x a' W))
    (hassign : ∀ (l : Nat) (pre : List α) (x : α) (W : World) (K : Act → World → Prop), w.heap.size ≤ l → (∃ r, W.heap[l]? = some (.loop r)) → I pre W → (∀ a' W', KeepsFrom w.heap.size W W' → Kp W W' → I pre W' → Ax x a' W' → K a' W') →
      assign.wpIn (Fence.wide.inRound l) (n - 1 - 1) Tryd.prog (Exit.then K (fun _ _ _ => False)) { tmps := (ps.zip (encs x)).foldl (fun t (p, v) => t.setIfInBounds p v) a.tmps, defers := [] } W)
    (hbody : ∀ (l : Nat) (pre : List α) (x : α) (a' : Act) (W : World), w.heap.size ≤ l → (∃ r, W.heap[l]? = some (.loop r)) → I pre W → Ax x a' W → pre.length < N → body.wpIn (Fence.wide.inRound l) (n - 1 - 1) Tryd.prog (ownPostG w.heap.size Kp I Ix (pre ++ [x]) W) a' W)
    (hdone : ∀ (D : Nat) (xs : List α) (W : World), w.heap.size ≤ D → S xs → I xs W → W.heap[D]? = some (.deferred (some [])) → Q .normal { a with defers := { target := .collected D, args := #[] } :: a.defers } W)
    (hstop : ∀ (D : Nat) (c : Code) (pre : List α) (W : World), w.heap.size ≤ D → Sp pre → Ix c pre W → W.heap[D]? = some (.deferred (some [])) → c.wpIn Fence.wide n Tryd.prog Q { a with defers := { target := .collected D, args := #[] } :: a.defers } W) :
    (Code.rangeFunc g ps assign body).wpIn Fence.wide n Tryd.prog Q a w := by
  refine wpIn_rangeFunc (fun fn hfn => ?_)
  -- the record of this loop
  let rc : LoopState → Option Code → Loop := fun st pe => { state := st, pending := pe, fn := fn, tmps := a.tmps, params := ps, assign := assign, body := body, defers := w.heap.size }
  let wA := w.alloc (.deferred (some []))
  let wB := wA.alloc (.loop (rc .ready none))
  have sA : wA.heap.size = w.heap.size + 1 := by simp [wA]
  have sB : wB.heap.size = w.heap.size + 2 := by simp [wB, wA]
  have gB : Below w.heap.size w wB := ((Below.refl _ w).alloc (Nat.le_refl _) _).alloc (by simp) _
  have heldB : Held (I []) w.heap.size (rc .ready none) wB := by
    refine ⟨hI _ _ _ none h0 (below_grownBy gB) (fun r e => by cases e), ?_, ?_⟩
    · have := World.alloc_heap_new wA (.loop (rc .ready none)); rw [sA] at this; exact this
    · exact (Below.heap_alloc wA _ _ (by omega)).trans (World.alloc_heap_new w _)
  -- turning the record keeps the invariant and the mark
  have turn : ∀ {I' : World → Prop} {r : Loop} (r' : Loop) {W : World}, OwnFrom w.heap.size (fun (_ : Unit) => I') → Held I' w.heap.size r W → Held I' w.heap.size r' (W.putObj (w.heap.size + 1) (.loop r')) := by
    intro I' r r' W ho hh
    exact ⟨ho.putObj (s := ()) _ hh.inv (by omega) hh.loop rfl, World.putObj_heap_same (Array.getElem?_eq_some_iff.1 hh.loop).1, (World.putObj_heap_other (by omega)).trans hh.mark⟩
  have oI : ∀ pre, OwnFrom w.heap.size (fun (_ : Unit) => I pre) := fun pre _ A B row hs hg' hr => hI pre A B row hs hg' hr
  have oX : ∀ c pre, OwnFrom w.heap.size (fun (_ : Unit) => Ix c pre) := fun c pre _ A B row hs hg' hr => hIx c pre A B row hs hg' hr
  have up : ∀ {β : Type} {X : β → World → Prop}, OwnFrom w.heap.size X → OwnFrom wB.heap.size X := fun h s A B row hs hg' hr => h s A B row hs hg' (fun r e => ⟨by have := (hr r e).1; omega, (hr r e).2⟩)
  have oJ : OwnFrom wB.heap.size (fun pre => Held (I pre) w.heap.size (rc .ready none)) := Held.own (up hI) (by omega)
  have oJx : OwnFrom wB.heap.size (fun pre W => ∃ c, Held (Ix c pre) w.heap.size (rc .done (some c)) W) := by
    rintro pre A B row ⟨c, hc⟩ hg' hr
    exact ⟨c, Held.own (I := fun _ : Unit => Ix c pre) (rec := fun _ => rc .done (some c)) (up (oX c pre)) (by omega) () A B row hc hg' hr⟩
  refine ⟨w.heap.size + 1, [{ target := .collected w.heap.size, args := #[] }], wB, { target := .fn (.func gf) lb, args := #[.func (.yield (w.heap.size + 1)) #[] #[]] }, wB, gf, #[.func (.yield (w.heap.size + 1)) #[] #[]] ++ lb, wB, run_enterLoop_outer _ _ _ _ _, ?_, fun _ _ => trivial, ?_, (fun h => (by cases h)), ?_⟩
  · simp only [resolve, hg]; simp [go_sem]
  · simp [invoke, go_sem, eg]
  refine (hseq (w.heap.size + 1) (fun pre => Held (I pre) w.heap.size (rc .ready none)) (fun pre W => ∃ c, Held (Ix c pre) w.heap.size (rc .done (some c)) W) wB gB (by omega) oJ oJx ?_ heldB).mono ?_
  · intro pre x W hh hlen
    have hy := run_yield (P := Tryd.prog) (args := encs x) hh.loop (hps x)
    refine ⟨fn, _, assign, body, hy, roundIn_of_wpIn trivial (hassign _ pre x W _ (by omega) ⟨_, hh.loop⟩ hh.inv ?_)⟩
    intro a' Wa kA kpA iA axA
    have hhA : Held (I pre) w.heap.size (rc .ready none) Wa := ⟨iA, kA.same _ _ (by omega) hh.loop rfl, kA.same _ _ (Nat.le_refl _) hh.mark rfl⟩
    refine ⟨_, run_beginRound hhA.loop rfl, ?_⟩
    have hhB := turn { rc .ready none with state := .busy } (oI pre) hhA
    have kpB := hKb Wa _ (.loop { rc .ready none with state := .busy }) hhA.loop rfl
    refine wpIn_mono (hbody _ pre x a' _ (by omega) ⟨_, hhB.loop⟩ hhB.inv ((hAx x a').putObj (s := ()) _ axA (by omega) hhA.loop rfl) hlen) ?_
    intro e a3 W3 hp
    -- however the body is left, the record is busy there
    have done : ∀ (jump : Option Code) {I' : World → Prop}, OwnFrom w.heap.size (fun (_ : Unit) => I') → KeepsFrom w.heap.size (Wa.putObj (w.heap.size + 1) (.loop { rc .ready none with state := .busy })) W3 → I' W3 →
        ∃ W4, (Instr.endRound (w.heap.size + 1) jump).run Tryd.prog W3 = .ok (.bool jump.isNone) W4 ∧ Held I' w.heap.size (rc (if jump.isNone then .ready else .done) jump) W4 ∧ Kp W3 W4 ∧ KeepsFrom (w.heap.size + 2) W W4 := by
      intro jump I' ho kf i3
      have h3 : Held I' w.heap.size { rc .ready none with state := .busy } W3 := ⟨i3, kf.same _ _ (by omega) hhB.loop rfl, kf.same _ _ (Nat.le_refl _) hhB.mark rfl⟩
      exact ⟨_, run_endRound jump h3.loop, turn _ ho h3, hKb _ _ _ h3.loop rfl, KeepsFrom.tr (KeepsFrom.tr (KeepsFrom.tr (KeepsFrom.up kA (by omega)) (KeepsFrom.put _ _ _ (by omega))) (KeepsFrom.up kf (by omega))) (KeepsFrom.put _ _ _ (by omega))⟩
    cases e with
    | normal =>
      obtain ⟨kf, kp, i3⟩ := hp
      obtain ⟨W4, hr, h4, k4, _⟩ := done none (oI _) kf i3
      exact ⟨_, _, hr, .inl ⟨rfl, h4, hKt kpA (hKt kpB (hKt kp k4))⟩⟩
    | ret =>
      obtain ⟨kf, i3⟩ := hp
      obtain ⟨W4, hr, h4, _, k4⟩ := done (some .ret) (oX _ _) kf i3
      exact ⟨_, _, hr, .inr ⟨rfl, ⟨_, h4⟩, k4⟩⟩
    | exit id =>
      obtain ⟨kf, i3⟩ := hp
      obtain ⟨W4, hr, h4, _, k4⟩ := done (some (.exit id)) (oX _ _) kf i3
      exact ⟨_, _, hr, .inr ⟨rfl, ⟨_, h4⟩, k4⟩⟩
    | goto t =>
      obtain ⟨kf, i3⟩ := hp
      obtain ⟨W4, hr, h4, _, k4⟩ := done (some (.goto t)) (oX _ _) kf i3
      exact ⟨_, _, hr, .inr ⟨rfl, ⟨_, h4⟩, k4⟩⟩
    | panic ch => exact hp.elim
    | outgrown => exact hp.elim
  · rintro e W2 ⟨⟨v, rfl⟩, (⟨xs, hS, hh⟩ | ⟨pre, hSp, c, hh⟩)⟩
    · have h2 := turn { rc .ready none with state := .exhausted } (oI xs) hh
      exact ⟨none, _, run_endLoop hh.loop (by intro h; cases h), hdone _ xs _ (Nat.le_refl _) hS h2.inv h2.mark⟩
    · have h2 := turn { rc .done (some c) with state := .exhausted } (oX c pre) hh
      exact ⟨some c, _, run_endLoop hh.loop (by intro h; cases h), hstop _ c pre _ (Nat.le_refl _) hSp h2.inv h2.mark⟩
end

end Go.Proofs.YtjajnhemgphefaaDoor
