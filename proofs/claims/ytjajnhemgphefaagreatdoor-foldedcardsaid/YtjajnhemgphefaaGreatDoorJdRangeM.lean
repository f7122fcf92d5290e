/-
  Ranges over iterators whose contract names the block from which on a loop must leave alone what is no cells: one law for the outermost loop, one for a loop within a round.
-/
import Derived.Test.YtjajnhemgphefaaGreatDoorJdRangeN
namespace Go.Proofs.YtjajnhemgphefaaGreatDoor
open Go.RowKit Go.Shelf
set_option linter.unusedVariables false
set_option linter.unusedSimpArgs false

/-- As SeqN, for a loop of which the record lies ahead of block m. -/
def SeqM {α : Type} (m n gf : Nat) (lb : Array Value) (encs : α → Array Value) (Kp : World → World → Prop) (S Sp : List α → Prop) (N : Nat) (w : World) : Prop :=
  ∀ (l : Nat) (J Jx : List α → World → Prop) (W : World), Below w.heap.size w W → m ≤ W.heap.size → OwnFrom W.heap.size J → OwnFrom W.heap.size Jx →
    (∀ pre x W1, J pre W1 → pre.length < N → YieldAt Fence.wide (n - 1) Tryz.prog l (encs x) W1 fun e W' =>
      (e = .returned (.bool true) ∧ J (pre ++ [x]) W' ∧ Kp W1 W') ∨ (e = .returned (.bool false) ∧ Jx (pre ++ [x]) W' ∧ KeepsFrom m W1 W')) →
    J [] W → CallsIn Fence.wide n Tryz.prog gf (#[.func (.yield l) #[] #[]] ++ lb) W fun e W' => (∃ v, e = .returned v) ∧ ((∃ xs, S xs ∧ J xs W') ∨ (∃ pre, Sp pre ∧ Jx pre W'))

theorem yield_any {n n' l : Nat} {args : Array Value} {w : World} {R : Ending → World → Prop} (h : YieldAt Fence.wide n Tryz.prog l args w R) : YieldAt Fence.wide n' Tryz.prog l args w R := by
  obtain ⟨fn, tmps, assign, body, hy, hR⟩ := h
  exact ⟨fn, tmps, assign, body, hy, ⟨hR.1, fun c cs _ => hR.2 c cs (room_wide _)⟩⟩
/-- The room that is left does not matter. -/
theorem SeqM.any {α : Type} {m n gf : Nat} {lb : Array Value} {encs : α → Array Value} {Kp : World → World → Prop} {S Sp : List α → Prop} {N : Nat} {w : World} (h : SeqM m n gf lb encs Kp S Sp N w) (n' : Nat) : SeqM m n' gf lb encs Kp S Sp N w :=
  fun l J Jx W hW hsz hJ hJx hY h0 => callsIn_wide.2 (callsIn_wide.1 (h l J Jx W hW hsz hJ hJx (fun pre x W1 h1 h2 => yield_any (hY pre x W1 h1 h2)) h0))

/-- What the loop's own block holds, beside the caller's invariant. -/
structure Held1 (I : World → Prop) (D : Nat) (rec : Loop) (W : World) : Prop where
  inv : I W
  loop : W.heap[D]? = some (.loop rec)

theorem Held1.own {β : Type} {I : β → World → Prop} {B D : Nat} {rec : β → Loop} (hI : OwnFrom B I) (hB : D + 1 ≤ B) : OwnFrom B (fun s => Held1 (I s) D (rec s)) := by
  rintro s W W' row ⟨h1, h2⟩ hg hr
  exact ⟨hI s W W' row h1 hg hr, (hg.block D (Array.getElem?_eq_some_iff.1 h2).1 (fun e => by have := (hr D e.symm).1; omega)).trans h2⟩

section
variable {α : Type} {n gf : Nat} {lb : Array Value} {encs : α → Array Value} {Kp : World → World → Prop} {S Sp : List α → Prop} {N : Nat}

theorem range_outM {g : Operand} {ps : Array Tmp} {assign body : Code} {Q : Exit → Act → World → Prop} {a : Act} {w : World}
    (hg : a.eval g = .func (.func gf) #[] lb) (eg : ∀ args w, (callFunc gf args).run Tryz.prog w = .ok (.enter gf args) w) (hseq : SeqM (w.heap.size + 2) (n - 1) gf lb encs Kp S Sp N w)
    (hKt : ∀ {A B C : World}, Kp A B → Kp B C → Kp A C) (hKb : ∀ (W : World) (rc : Loop) (o' : Obj), W.heap[w.heap.size + 1]? = some (.loop rc) → Kp W (W.putObj (w.heap.size + 1) o')) (hps : ∀ x, (encs x).size = ps.size)
    (I : List α → World → Prop) (Ix : Code → List α → World → Prop) (hI : OwnFrom w.heap.size I) (hIx : ∀ c, OwnFrom w.heap.size (Ix c)) (h0 : I [] w) (Ax : α → Act → World → Prop) (hAx : ∀ x a', OwnFrom w.heap.size (fun (_ : Unit) W => Ax x a' W))
    (hassign : ∀ (l : Nat) (pre : List α) (x : α) (W : World) (K : Act → World → Prop), w.heap.size ≤ l → (∃ r, W.heap[l]? = some (.loop r)) → I pre W → (∀ a' W', KeepsFrom w.heap.size W W' → Kp W W' → I pre W' → Ax x a' W' → K a' W') →
      assign.wpIn (Fence.wide.inRound l) (n - 1 - 1) Tryz.prog (Exit.then K (fun _ _ _ => False)) { tmps := (ps.zip (encs x)).foldl (fun t (p, v) => t.setIfInBounds p v) a.tmps, defers := [] } W)
    (hbody : ∀ (l : Nat) (pre : List α) (x : α) (a' : Act) (W : World), w.heap.size ≤ l → (∃ r, W.heap[l]? = some (.loop r)) → I pre W → Ax x a' W → pre.length < N → body.wpIn (Fence.wide.inRound l) (n - 1 - 1) Tryz.prog (ownPostG w.heap.size Kp I Ix (pre ++ [x]) W) a' W)
    (hdone : ∀ (D : Nat) (xs : List α) (W : World), w.heap.size ≤ D → S xs → I xs W → W.heap[D]? = some (.deferred (some [])) → Q .normal { a with defers := { target := .collected D, args := #[] } :: a.defers } W)
    (hstop : ∀ (D : Nat) (c : Code) (pre : List α) (W : World), w.heap.size ≤ D → Sp pre → Ix c pre W → W.heap[D]? = some (.deferred (some [])) → c.wpIn Fence.wide n Tryz.prog Q { a with defers := { target := .collected D, args := #[] } :: a.defers } W) :
    (Code.rangeFunc g ps assign body).wpIn Fence.wide n Tryz.prog Q a w := by
  refine wpIn_rangeFunc (fun fn hfn => ?_)
  -- the record of this loop
  let rc : LoopState → Option Code → Loop := fun st pe => { state := st, pending := pe, fn := fn, tmps := a.tmps, params := ps, assign := assign, body := body, defers := w.heap.size }
  let wA := w.alloc (.deferred (some []))
  let wB := wA.alloc (.loop (rc .ready none))
  have sA : wA.heap.size = w.heap.size + 1 := by simp [wA]
  have sB : wB.heap.size = w.heap.size + 2 := by simp [wB, wA]
  have gB : Below w.heap.size w wB := ((Below.refl _ w).alloc (Nat.le_refl _) _).alloc (by simp) _
  have heldB : Held (I []) w.heap.size (rc .ready none) wB := by
    refine ⟨hI _ _ _ none h0 (below_grownBy gB) (fun r e => by cases e), ?_, ?_⟩
    · have := World.alloc_heap_new wA (.loop (rc .ready none)); rw [sA] at this; exact this
    · exact (Below.heap_alloc wA _ _ (by omega)).trans (World.alloc_heap_new w _)
  -- turning the record keeps the invariant and the mark
  have turn : ∀ {I' : World → Prop} {r : Loop} (r' : Loop) {W : World}, OwnFrom w.heap.size (fun (_ : Unit) => I') → Held I' w.heap.size r W → Held I' w.heap.size r' (W.putObj (w.heap.size + 1) (.loop r')) := by
    intro I' r r' W ho hh
    exact ⟨ho.putObj (s := ()) _ hh.inv (by omega) hh.loop rfl, World.putObj_heap_same (Array.getElem?_eq_some_iff.1 hh.loop).1, (World.putObj_heap_other (by omega)).trans hh.mark⟩
  have oI : ∀ pre, OwnFrom w.heap.size (fun (_ : Unit) => I pre) := fun pre _ A B row hs hg' hr => hI pre A B row hs hg' hr
  have oX : ∀ c pre, OwnFrom w.heap.size (fun (_ : Unit) => Ix c pre) := fun c pre _ A B row hs hg' hr => hIx c pre A B row hs hg' hr
  have up : ∀ {β : Type} {X : β → World → Prop}, OwnFrom w.heap.size X → OwnFrom wB.heap.size X := fun h s A B row hs hg' hr => h s A B row hs hg' (fun r e => ⟨by have := (hr r e).1; omega, (hr r e).2⟩)
  have oJ : OwnFrom wB.heap.size (fun pre => Held (I pre) w.heap.size (rc .ready none)) := Held.own (up hI) (by omega)
  have oJx : OwnFrom wB.heap.size (fun pre W => ∃ c, Held (Ix c pre) w.heap.size (rc .done (some c)) W) := by
    rintro pre A B row ⟨c, hc⟩ hg' hr
    exact ⟨c, Held.own (I := fun _ : Unit => Ix c pre) (rec := fun _ => rc .done (some c)) (up (oX c pre)) (by omega) () A B row hc hg' hr⟩
  refine ⟨w.heap.size + 1, [{ target := .collected w.heap.size, args := #[] }], wB, { target := .fn (.func gf) lb, args := #[.func (.yield (w.heap.size + 1)) #[] #[]] }, wB, gf, #[.func (.yield (w.heap.size + 1)) #[] #[]] ++ lb, wB, run_enterLoop_outer _ _ _ _ _, ?_, fun _ _ => trivial, ?_, (fun h => (by cases h)), ?_⟩
  · simp only [resolve, hg]; simp [go_sem]
  · simp [invoke, go_sem, eg]
  refine (hseq (w.heap.size + 1) (fun pre => Held (I pre) w.heap.size (rc .ready none)) (fun pre W => ∃ c, Held (Ix c pre) w.heap.size (rc .done (some c)) W) wB gB (by omega) oJ oJx ?_ heldB).mono ?_
  · intro pre x W hh hlen
    have hy := run_yield (P := Tryz.prog) (args := encs x) hh.loop (hps x)
    refine ⟨fn, _, assign, body, hy, roundIn_of_wpIn trivial (hassign _ pre x W _ (by omega) ⟨_, hh.loop⟩ hh.inv ?_)⟩
    intro a' Wa kA kpA iA axA
    have hhA : Held (I pre) w.heap.size (rc .ready none) Wa := ⟨iA, kA.same _ _ (by omega) hh.loop rfl, kA.same _ _ (Nat.le_refl _) hh.mark rfl⟩
    refine ⟨_, run_beginRound hhA.loop rfl, ?_⟩
    have hhB := turn { rc .ready none with state := .busy } (oI pre) hhA
    have kpB := hKb Wa _ (.loop { rc .ready none with state := .busy }) hhA.loop
    refine wpIn_mono (hbody _ pre x a' _ (by omega) ⟨_, hhB.loop⟩ hhB.inv ((hAx x a').putObj (s := ()) _ axA (by omega) hhA.loop rfl) hlen) ?_
    intro e a3 W3 hp
    -- however the body is left, the record is busy there
    have done : ∀ (jump : Option Code) {I' : World → Prop}, OwnFrom w.heap.size (fun (_ : Unit) => I') → KeepsFrom w.heap.size (Wa.putObj (w.heap.size + 1) (.loop { rc .ready none with state := .busy })) W3 → I' W3 →
        ∃ W4, (Instr.endRound (w.heap.size + 1) jump).run Tryz.prog W3 = .ok (.bool jump.isNone) W4 ∧ Held I' w.heap.size (rc (if jump.isNone then .ready else .done) jump) W4 ∧ Kp W3 W4 ∧ KeepsFrom (w.heap.size + 2) W W4 := by
      intro jump I' ho kf i3
      have h3 : Held I' w.heap.size { rc .ready none with state := .busy } W3 := ⟨i3, kf.same _ _ (by omega) hhB.loop rfl, kf.same _ _ (Nat.le_refl _) hhB.mark rfl⟩
      exact ⟨_, run_endRound jump h3.loop, turn _ ho h3, hKb _ _ _ h3.loop, KeepsFrom.tr (KeepsFrom.tr (KeepsFrom.tr (KeepsFrom.up kA (by omega)) (KeepsFrom.put _ _ _ (by omega))) (KeepsFrom.up kf (by omega))) (KeepsFrom.put _ _ _ (by omega))⟩
    cases e with
    | normal =>
      obtain ⟨kf, kp, i3⟩ := hp
      obtain ⟨W4, hr, h4, k4, _⟩ := done none (oI _) kf i3
      exact ⟨_, _, hr, .inl ⟨rfl, h4, hKt kpA (hKt kpB (hKt kp k4))⟩⟩
    | ret =>
      obtain ⟨kf, i3⟩ := hp
      obtain ⟨W4, hr, h4, _, k4⟩ := done (some .ret) (oX _ _) kf i3
      exact ⟨_, _, hr, .inr ⟨rfl, ⟨_, h4⟩, k4⟩⟩
    | exit id =>
      obtain ⟨kf, i3⟩ := hp
      obtain ⟨W4, hr, h4, _, k4⟩ := done (some (.exit id)) (oX _ _) kf i3
      exact ⟨_, _, hr, .inr ⟨rfl, ⟨_, h4⟩, k4⟩⟩
    | goto t =>
      obtain ⟨kf, i3⟩ := hp
      obtain ⟨W4, hr, h4, _, k4⟩ := done (some (.goto t)) (oX _ _) kf i3
      exact ⟨_, _, hr, .inr ⟨rfl, ⟨_, h4⟩, k4⟩⟩
    | panic ch => exact hp.elim
    | outgrown => exact hp.elim
  · rintro e W2 ⟨⟨v, rfl⟩, (⟨xs, hS, hh⟩ | ⟨pre, hSp, c, hh⟩)⟩
    · have h2 := turn { rc .ready none with state := .exhausted } (oI xs) hh
      exact ⟨none, _, run_endLoop hh.loop (by intro h; cases h), hdone _ xs _ (Nat.le_refl _) hS h2.inv h2.mark⟩
    · have h2 := turn { rc .done (some c) with state := .exhausted } (oX c pre) hh
      exact ⟨some c, _, run_endLoop hh.loop (by intro h; cases h), hstop _ c pre _ (Nat.le_refl _) hSp h2.inv h2.mark⟩

theorem range_inM {g : Operand} {ps : Array Tmp} {assign body : Code} {Q : Exit → Act → World → Prop} {a : Act} {w : World} {l₀ : Nat} {r₀ : Loop} (hl₀ : w.heap[l₀]? = some (.loop r₀))
    (hg : a.eval g = .func (.func gf) #[] lb) (eg : ∀ args w, (callFunc gf args).run Tryz.prog w = .ok (.enter gf args) w) (hseq : SeqM (w.heap.size + 1) (n - 1) gf lb encs Kp S Sp N w)
    (hKt : ∀ {A B C : World}, Kp A B → Kp B C → Kp A C) (hKb : ∀ (W : World) (rc : Loop) (o' : Obj), W.heap[w.heap.size]? = some (.loop rc) → Kp W (W.putObj w.heap.size o')) (hps : ∀ x, (encs x).size = ps.size)
    (I : List α → World → Prop) (Ix : Code → List α → World → Prop) (hI : OwnFrom w.heap.size I) (hIx : ∀ c, OwnFrom w.heap.size (Ix c)) (h0 : I [] w) (Ax : α → Act → World → Prop) (hAx : ∀ x a', OwnFrom w.heap.size (fun (_ : Unit) W => Ax x a' W))
    (hassign : ∀ (l : Nat) (pre : List α) (x : α) (W : World) (K : Act → World → Prop), w.heap.size ≤ l → (∃ r, W.heap[l]? = some (.loop r)) → I pre W → (∀ a' W', KeepsFrom w.heap.size W W' → Kp W W' → I pre W' → Ax x a' W' → K a' W') →
      assign.wpIn (Fence.wide.inRound l) (n - 1 - 1) Tryz.prog (Exit.then K (fun _ _ _ => False)) { tmps := (ps.zip (encs x)).foldl (fun t (p, v) => t.setIfInBounds p v) a.tmps, defers := [] } W)
    (hbody : ∀ (l : Nat) (pre : List α) (x : α) (a' : Act) (W : World), w.heap.size ≤ l → (∃ r, W.heap[l]? = some (.loop r)) → I pre W → Ax x a' W → pre.length < N → body.wpIn (Fence.wide.inRound l) (n - 1 - 1) Tryz.prog (ownPostG w.heap.size Kp I Ix (pre ++ [x]) W) a' W)
    (hdone : ∀ (xs : List α) (W : World), S xs → I xs W → Q .normal a W)
    (hstop : ∀ (c : Code) (pre : List α) (W : World), Sp pre → Ix c pre W → c.wpIn (Fence.wide.inRound l₀) n Tryz.prog Q a W) :
    (Code.rangeFunc g ps assign body).wpIn (Fence.wide.inRound l₀) n Tryz.prog Q a w := by
  refine wpIn_rangeFunc (fun fn hfn => ?_)
  let rc : LoopState → Option Code → Loop := fun st pe => { state := st, pending := pe, fn := fn, tmps := a.tmps, params := ps, assign := assign, body := body, defers := r₀.defers }
  let wB := w.alloc (.loop (rc .ready none))
  have sB : wB.heap.size = w.heap.size + 1 := by simp [wB]
  have gB : Below w.heap.size w wB := (Below.refl _ w).alloc (Nat.le_refl _) _
  have heldB : Held1 (I []) w.heap.size (rc .ready none) wB := ⟨hI _ _ _ none h0 (below_grownBy gB) (fun r e => by cases e), World.alloc_heap_new w _⟩
  have turn : ∀ {I' : World → Prop} {r : Loop} (r' : Loop) {W : World}, OwnFrom w.heap.size (fun (_ : Unit) => I') → Held1 I' w.heap.size r W → Held1 I' w.heap.size r' (W.putObj w.heap.size (.loop r')) := by
    intro I' r r' W ho hh
    exact ⟨ho.putObj (s := ()) _ hh.inv (Nat.le_refl _) hh.loop rfl, World.putObj_heap_same (Array.getElem?_eq_some_iff.1 hh.loop).1⟩
  have oI : ∀ pre, OwnFrom w.heap.size (fun (_ : Unit) => I pre) := fun pre _ A B row hs hg' hr => hI pre A B row hs hg' hr
  have oX : ∀ c pre, OwnFrom w.heap.size (fun (_ : Unit) => Ix c pre) := fun c pre _ A B row hs hg' hr => hIx c pre A B row hs hg' hr
  have up : ∀ {β : Type} {X : β → World → Prop}, OwnFrom w.heap.size X → OwnFrom wB.heap.size X := fun h s A B row hs hg' hr => h s A B row hs hg' (fun r e => ⟨by have := (hr r e).1; omega, (hr r e).2⟩)
  have oJ : OwnFrom wB.heap.size (fun pre => Held1 (I pre) w.heap.size (rc .ready none)) := Held1.own (up hI) (by omega)
  have oJx : OwnFrom wB.heap.size (fun pre W => ∃ c, Held1 (Ix c pre) w.heap.size (rc .done (some c)) W) := by
    rintro pre A B row ⟨c, hc⟩ hg' hr
    exact ⟨c, Held1.own (I := fun _ : Unit => Ix c pre) (rec := fun _ => rc .done (some c)) (up (oX c pre)) (by omega) () A B row hc hg' hr⟩
  refine ⟨w.heap.size, [], wB, { target := .fn (.func gf) lb, args := #[.func (.yield w.heap.size) #[] #[]] }, wB, gf, #[.func (.yield w.heap.size) #[] #[]] ++ lb, wB, run_enterLoop_inner hl₀ _ _ _ _ _, ?_, fun _ _ => trivial, ?_, (fun h => (by cases h)), ?_⟩
  · simp only [resolve, hg]; simp [go_sem]
  · simp [invoke, go_sem, eg]
  refine (CallsIn.inRound l₀ (hseq w.heap.size (fun pre => Held1 (I pre) w.heap.size (rc .ready none)) (fun pre W => ∃ c, Held1 (Ix c pre) w.heap.size (rc .done (some c)) W) wB gB (by omega) oJ oJx ?_ heldB)).mono ?_
  · intro pre x W hh hlen
    have hy := run_yield (P := Tryz.prog) (args := encs x) hh.loop (hps x)
    refine ⟨fn, _, assign, body, hy, roundIn_of_wpIn trivial (hassign _ pre x W _ (Nat.le_refl _) ⟨_, hh.loop⟩ hh.inv ?_)⟩
    intro a' Wa kA kpA iA axA
    have hhA : Held1 (I pre) w.heap.size (rc .ready none) Wa := ⟨iA, kA.same _ _ (Nat.le_refl _) hh.loop rfl⟩
    refine ⟨_, run_beginRound hhA.loop rfl, ?_⟩
    have hhB := turn { rc .ready none with state := .busy } (oI pre) hhA
    have kpB := hKb Wa _ (.loop { rc .ready none with state := .busy }) hhA.loop
    refine wpIn_mono (hbody _ pre x a' _ (Nat.le_refl _) ⟨_, hhB.loop⟩ hhB.inv ((hAx x a').putObj (s := ()) _ axA (Nat.le_refl _) hhA.loop rfl) hlen) ?_
    intro e a3 W3 hp
    have done : ∀ (jump : Option Code) {I' : World → Prop}, OwnFrom w.heap.size (fun (_ : Unit) => I') → KeepsFrom w.heap.size (Wa.putObj w.heap.size (.loop { rc .ready none with state := .busy })) W3 → I' W3 →
        ∃ W4, (Instr.endRound w.heap.size jump).run Tryz.prog W3 = .ok (.bool jump.isNone) W4 ∧ Held1 I' w.heap.size (rc (if jump.isNone then .ready else .done) jump) W4 ∧ Kp W3 W4 ∧ KeepsFrom (w.heap.size + 1) W W4 := by
      intro jump I' ho kf i3
      have h3 : Held1 I' w.heap.size { rc .ready none with state := .busy } W3 := ⟨i3, kf.same _ _ (Nat.le_refl _) hhB.loop rfl⟩
      exact ⟨_, run_endRound jump h3.loop, turn _ ho h3, hKb _ _ _ h3.loop, KeepsFrom.tr (KeepsFrom.tr (KeepsFrom.tr (KeepsFrom.up kA (by omega)) (KeepsFrom.put _ _ _ (by omega))) (KeepsFrom.up kf (by omega))) (KeepsFrom.put _ _ _ (by omega))⟩
    cases e with
    | normal =>
      obtain ⟨kf, kp, i3⟩ := hp
      obtain ⟨W4, hr, h4, k4, _⟩ := done none (oI _) kf i3
      exact ⟨_, _, hr, .inl ⟨rfl, h4, hKt kpA (hKt kpB (hKt kp k4))⟩⟩
    | ret =>
      obtain ⟨kf, i3⟩ := hp
      obtain ⟨W4, hr, h4, _, k4⟩ := done (some .ret) (oX _ _) kf i3
      exact ⟨_, _, hr, .inr ⟨rfl, ⟨_, h4⟩, k4⟩⟩
    | exit id =>
      obtain ⟨kf, i3⟩ := hp
      obtain ⟨W4, hr, h4, _, k4⟩ := done (some (.exit id)) (oX _ _) kf i3
      exact ⟨_, _, hr, .inr ⟨rfl, ⟨_, h4⟩, k4⟩⟩
    | goto t =>
      obtain ⟨kf, i3⟩ := hp
      obtain ⟨W4, hr, h4, _, k4⟩ := done (some (.goto t)) (oX _ _) kf i3
      exact ⟨_, _, hr, .inr ⟨rfl, ⟨_, h4⟩, k4⟩⟩
    | panic ch => exact hp.elim
    | outgrown => exact hp.elim
  · rintro e W2 ⟨⟨v, rfl⟩, (⟨xs, hS, hh⟩ | ⟨pre, hSp, c, hh⟩)⟩
    · have h2 := turn { rc .ready none with state := .exhausted } (oI xs) hh
      exact ⟨none, _, run_endLoop hh.loop (by intro h; cases h), hdone xs _ hS h2.inv⟩
    · have h2 := turn { rc .done (some c) with state := .exhausted } (oX c pre) hh
      exact ⟨some c, _, run_endLoop hh.loop (by intro h; cases h), hstop c pre _ hSp h2.inv⟩
end

end Go.Proofs.YtjajnhemgphefaaGreatDoor
