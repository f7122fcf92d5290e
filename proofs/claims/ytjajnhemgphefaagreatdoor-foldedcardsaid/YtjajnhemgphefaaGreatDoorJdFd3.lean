/-
  Package feeds: a feed in memory; its next record.
  Package feeds: a feed in memory; its next record.
-/
import Derived.Test.YtjajnhemgphefaaGreatDoorJdDel
namespace Go.Proofs.YtjajnhemgphefaaGreatDoor
open Go.RowKit Go.Shelf Go.Maps
set_option linter.unusedVariables false
set_option linter.unusedSimpArgs false

theorem rec_cell {W : World} {b : Nat} {v : Value} {r : Rc} {l : List Rc} (h : W.ownsRow b 71 4 v (r :: l).length ((r :: l).flatMap Rc.c)) :
    ∃ g c, v = .slice (some ⟨g, 0, none⟩) (l.length + 1) c ∧ W.cell? ⟨g, 0, none⟩ = some (.int .i64 r.kind) ∧ W.cell? ⟨g, 1, none⟩ = some (.int .i64 r.seq) ∧ W.cell? ⟨g, 2, none⟩ = some (.string r.text) ∧ W.cell? ⟨g, 3, none⟩ = some (.int .i64 r.time) := by
  obtain ⟨hl, ⟨_, hz⟩ | ⟨g, c, cur, hv, _, hw, _, _, _, htk⟩⟩ := h
  · simp at hz
  have hc : ∀ (j : Nat) (u : Value), ((r :: l).flatMap Rc.c)[j]? = some u → cur[j]? = some u := by
    intro j u hj
    have hj2 : j < ((r :: l).flatMap Rc.c).length := (List.getElem?_eq_some_iff.1 hj).1
    rw [hl] at hj2
    rw [← htk, List.getElem?_take, if_pos hj2] at hj
    simpa using hj
  refine ⟨g, c, hv, ?_, ?_, ?_, ?_⟩
  · simp only [World.cell?, hw]; simpa using hc 0 _ rfl
  · simp only [World.cell?, hw]; simpa using hc 1 _ rfl
  · simp only [World.cell?, hw]; simpa using hc 2 _ rfl
  · simp only [World.cell?, hw]; simpa using hc 3 _ rfl

set_option maxRecDepth 100000 in
set_option maxHeartbeats 4000000 in
theorem takeFirst_any (B o g cap b : Nat) (t : TypeId) (cs : Array Value) (r : Rc) (l : List Rc) (w : World) (hB : w.heap[B]? = some (Obj.cells cs t (0, 0))) (ho : cs[o]? = some (.slice (some ⟨g, 0, none⟩) (l.length + 1) cap)) (hT : t ≠ 71)
    (hown : w.ownsRow b 71 4 (.slice (some ⟨g, 0, none⟩) (l.length + 1) cap) (l.length + 1) ((r :: l).flatMap Rc.c)) (hl : l.length ≤ 100000) :
    Calls Tryz.prog 164 #[.pointer (some ⟨B, o, none⟩)] w fun e w' => e = .returned (.agg #[.int .i64 r.kind, .int .i64 r.seq, .string r.text, .int .i64 r.time]) ∧ w'.heap[B]? = some (Obj.cells (cs.setIfInBounds o (.slice (some ⟨g, 0, none⟩) l.length cap)) t (0, 0)) ∧
      w'.ownsRow b 71 4 (.slice (some ⟨g, 0, none⟩) l.length cap) l.length (l.flatMap Rc.c) ∧ Chg w w' (fun k => k = g ∨ k = B) := by
  have hBg : g ≠ B := owns_ne hown hB hT g rfl
  have hBl := (Array.getElem?_eq_some_iff.1 hB).1
  obtain ⟨g', c', e0, x0, x1, x2, x3⟩ := rec_cell hown
  cases e0
  have cB : w.cell? ⟨B, o, none⟩ = some (.slice (some ⟨g, 0, none⟩) (l.length + 1) cap) := by simp only [World.cell?, hB]; simpa using ho
  have hgl : g < w.heap.size := by obtain ⟨_, c, hc⟩ := owns_block hown (g := g) rfl; exact (Array.getElem?_eq_some_iff.1 hc).1
  go_enter Tryz.func164, Tryz.ntmps164
  obtain ⟨W0, hW0⟩ : ∃ W0, ((w.alloc (.cells #[.int .i64 0, .int .i64 0, .string ⟨#[]⟩, .int .i64 0] 71)).alloc (.cells #[.int .i64 r.kind, .int .i64 r.seq, .string r.text, .int .i64 r.time] 71)) = W0 := ⟨_, rfl⟩
  obtain ⟨N, hN⟩ : ∃ N, w.heap.size = N := ⟨_, rfl⟩
  have hb0 : Below N w W0 := by rw [← hW0, ← hN]; exact ((Below.refl _ w).alloc (Nat.le_refl _) _).alloc (by simp) _
  have e0 : W0.heap[N]? = some (Obj.cells #[.int .i64 0, .int .i64 0, .string ⟨#[]⟩, .int .i64 0] 71 (0, 0)) := by
    rw [← hW0, ← hN]; exact (Below.heap_alloc _ _ _ (by simp)).trans (World.alloc_heap_new w _)
  have e1 : W0.heap[N + 1]? = some (Obj.cells #[.int .i64 r.kind, .int .i64 r.seq, .string r.text, .int .i64 r.time] 71 (0, 0)) := by
    rw [← hW0, ← hN]
    have := World.alloc_heap_new (w.alloc (.cells #[.int .i64 0, .int .i64 0, .string ⟨#[]⟩, .int .i64 0] 71)) (.cells #[.int .i64 r.kind, .int .i64 r.seq, .string r.text, .int .i64 r.time] 71)
    rw [World.size_alloc] at this; exact this
  have hs0 : W0.heap.size = N + 2 := by rw [← hW0, ← hN]; simp
  have hBN : B < N := by omega
  have hgN : g < N := by omega
  have hdel : Hid (Calls Tryz.prog 216 #[.slice (some ⟨g, 0, none⟩) (l.length + 1) cap, .int .i64 0, .int .i64 1] W0 fun e w' => e = .returned (.slice (some ⟨g, 0, none⟩) l.length cap) ∧ w'.ownsRow b 71 4 (.slice (some ⟨g, 0, none⟩) l.length cap) l.length (l.flatMap Rc.c) ∧ Chg W0 w' (fun k => k = g)) := deleteR_any g cap b r l W0 (own_below hown (by rw [hN]; exact hb0)) hl
  have hf : Hid (∀ W1, Chg W0 W1 (fun k => k = g) → W1.heap[B]? = some (Obj.cells cs t (0, 0)) ∧ W1.heap[N]? = some (Obj.cells #[.int .i64 0, .int .i64 0, .string ⟨#[]⟩, .int .i64 0] 71 (0, 0)) ∧ W1.heap[N + 1]? = some (Obj.cells #[.int .i64 r.kind, .int .i64 r.seq, .string r.text, .int .i64 r.time] 71 (0, 0))) := fun W1 hc =>
    ⟨(hc.block B (by omega) (fun e => hBg e.symm)).trans ((hb0.block B hBN).trans hB), (hc.block N (by omega) (by omega)).trans e0, (hc.block (N + 1) (by omega) (by omega)).trans e1⟩
  have HO : Hid _ := ho
  have cB0 : W0.cell? ⟨B, o, none⟩ = some (.slice (some ⟨g, 0, none⟩) (l.length + 1) cap) := by have := (hb0.block B hBN).trans hB; simp only [World.cell?, this]; simpa using ho
  clear ho e0 e1 hown hB
  go_wp2_with (first | (go_at_call 216; refine (hdel.out).mono ?_; rintro e W1 ⟨rfl, ho1, hc1⟩; obtain ⟨p0, p1, p2⟩ := hf.out W1 hc1; have s0 : W1.cell? ⟨B, o, none⟩ = some (.slice (some ⟨g, 0, none⟩) (l.length + 1) cap) := (by simp only [World.cell?, p0]; simpa using HO.out); have s1 : W1.frozen? ⟨B, o, none⟩ = false := (by simp [World.frozen?, p0]); clear hW0; have t0 : ∀ v, (W1.setCell ⟨B, o, none⟩ v).cell? ⟨N + 1, 0, none⟩ = some (.int .i64 r.kind) := fun v => (cell_other _ _ _ _ _ _ (by omega)).trans (by simp [World.cell?, p2]); have t1 : ∀ v, (W1.setCell ⟨B, o, none⟩ v).cell? ⟨N + 1, 1, none⟩ = some (.int .i64 r.seq) := fun v => (cell_other _ _ _ _ _ _ (by omega)).trans (by simp [World.cell?, p2]); have t2 : ∀ v, (W1.setCell ⟨B, o, none⟩ v).cell? ⟨N + 1, 2, none⟩ = some (.string r.text) := fun v => (cell_other _ _ _ _ _ _ (by omega)).trans (by simp [World.cell?, p2]); have t3 : ∀ v, (W1.setCell ⟨B, o, none⟩ v).cell? ⟨N + 1, 3, none⟩ = some (.int .i64 r.time) := fun v => (cell_other _ _ _ _ _ _ (by omega)).trans (by simp [World.cell?, p2]); have q0 : ∀ v, (W1.setCell ⟨B, o, none⟩ v).cell? ⟨N, 0, none⟩ = some (.int .i64 0) := fun v => (cell_other _ _ _ _ _ _ (by omega)).trans (by simp [World.cell?, p1]); have y0 : W1.frozen? ⟨N, 0, none⟩ = false := (by simp [World.frozen?, p1]); have q1 : ∀ v, (W1.setCell ⟨B, o, none⟩ v).cell? ⟨N, 1, none⟩ = some (.int .i64 0) := fun v => (cell_other _ _ _ _ _ _ (by omega)).trans (by simp [World.cell?, p1]); have y1 : W1.frozen? ⟨N, 1, none⟩ = false := (by simp [World.frozen?, p1]); have q2 : ∀ v, (W1.setCell ⟨B, o, none⟩ v).cell? ⟨N, 2, none⟩ = some (.string ⟨#[]⟩) := fun v => (cell_other _ _ _ _ _ _ (by omega)).trans (by simp [World.cell?, p1]); have y2 : W1.frozen? ⟨N, 2, none⟩ = false := (by simp [World.frozen?, p1]); have q3 : ∀ v, (W1.setCell ⟨B, o, none⟩ v).cell? ⟨N, 3, none⟩ = some (.int .i64 0) := fun v => (cell_other _ _ _ _ _ _ (by omega)).trans (by simp [World.cell?, p1]); have y3 : W1.frozen? ⟨N, 3, none⟩ = false := (by simp [World.frozen?, p1])))
  refine bodyPost_ret (v := .agg #[.int .i64 r.kind, .int .i64 r.seq, .string r.text, .int .i64 r.time]) (by simp [results, Tryz.results164, go_sem, q0, q1, q2, q3]) rfl ?_
  have hcw : Chg w W1 (fun k => k = g ∨ k = B) := ⟨hc1.os.trans hb0.os, hc1.tape.trans hb0.tape, hc1.output.trans hb0.output, by have := hc1.size; omega, fun k hk hx => (hc1.block k (by omega) (fun e => hx (.inl e))).trans (hb0.block k (by omega))⟩
  have hset := (((((hcw.setCell ⟨B, o, none⟩ (.slice (some ⟨g, 0, none⟩) l.length cap) (fun _ => .inr rfl)).setCell ⟨N, 0, none⟩ (.int .i64 r.kind) (fun h => by simp at h; omega)).setCell ⟨N, 1, none⟩ (.int .i64 r.seq) (fun h => by simp at h; omega)).setCell ⟨N, 2, none⟩ (.string r.text) (fun h => by simp at h; omega)).setCell ⟨N, 3, none⟩ (.int .i64 r.time) (fun h => by simp at h; omega))
  refine ⟨rfl, ?_, ?_, hset⟩
  · have := heap_set p0 o (.slice (some ⟨g, 0, none⟩) l.length cap)
    exact (Below.heap_setCell _ _ _ _ (by show B ≠ N; omega)).trans ((Below.heap_setCell _ _ _ _ (by show B ≠ N; omega)).trans ((Below.heap_setCell _ _ _ _ (by show B ≠ N; omega)).trans ((Below.heap_setCell _ _ _ _ (by show B ≠ N; omega)).trans this)))
  · have hg : ∀ g', (Value.slice (some ⟨g, 0, none⟩) l.length cap).ownBlock = some g' → g' = g := fun g' e => by cases e; rfl
    refine owns_set (owns_set (owns_set (owns_set (owns_set ho1 ⟨B, o, none⟩ _ ?_) ⟨N, 0, none⟩ _ ?_) ⟨N, 1, none⟩ _ ?_) ⟨N, 2, none⟩ _ ?_) ⟨N, 3, none⟩ _ ?_
    · intro g' e; rw [hg g' e]; exact hBg
    all_goals (intro g' e; rw [hg g' e]; show g ≠ N; omega)

end Go.Proofs.YtjajnhemgphefaaGreatDoor

namespace Go.Proofs.YtjajnhemgphefaaGreatDoor
open Go.RowKit Go.Shelf Go.Maps
set_option linter.unusedVariables false
set_option linter.unusedSimpArgs false

/-- A feed. -/
structure Fs where
  form : Am
  behind : Bool
  snap : List Rc
  que : List Rc
  told : Nat
/-- Block bf is a feed; S: the blocks that are its own. -/
def FdAt (W : World) (S : Nat → Prop) (bf b87 : Nat) (f : Fs) : Prop :=
  ∃ va vs vq, W.heap[bf]? = some (Obj.cells #[.string f.form.rel, va, .bool f.behind, vs, vq, .int .i64 f.told] 198 (0, 0)) ∧ SealT W b87 va f.form.args ∧
    W.ownsRow 0 71 4 vs f.snap.length (f.snap.flatMap Rc.c) ∧ W.ownsRow 0 71 4 vq f.que.length (f.que.flatMap Rc.c) ∧
    (∀ g, vs.ownBlock = some g → S g ∧ vq.ownBlock ≠ some g) ∧ (∀ g, vq.ownBlock = some g → S g) ∧ S bf
/-- What is asked of a feed's form. -/
structure FormOk (a : Am) : Prop where
  args : a.args.length ≤ 2
  nums : ∀ t ∈ a.args, t.num < 6
  rel : a.rel.size ≤ 2000
  names : ∀ t ∈ a.args, t.name.size ≤ 2000

/-- A record stored into its box. -/
def putRc (W : World) (N : Nat) (r : Rc) : World := (((W.setCell ⟨N, 0, none⟩ (.int .i64 r.kind)).setCell ⟨N, 1, none⟩ (.int .i64 r.seq)).setCell ⟨N, 2, none⟩ (.string r.text)).setCell ⟨N, 3, none⟩ (.int .i64 r.time)
theorem putRc_other (W : World) (N : Nat) (r : Rc) {k : Nat} (h : k ≠ N) : (putRc W N r).heap[k]? = W.heap[k]? :=
  (Below.heap_setCell _ _ _ _ (by show k ≠ N; exact h)).trans ((Below.heap_setCell _ _ _ _ (by show k ≠ N; exact h)).trans ((Below.heap_setCell _ _ _ _ (by show k ≠ N; exact h)).trans (Below.heap_setCell _ _ _ _ (by show k ≠ N; exact h))))
theorem putRc_chg {w W : World} {ex : Nat → Prop} (h : Chg w W ex) {N : Nat} (hN : w.heap.size ≤ N) (r : Rc) : Chg w (putRc W N r) ex :=
  (((h.setCell ⟨N, 0, none⟩ _ (fun e => by simp at e; omega)).setCell ⟨N, 1, none⟩ _ (fun e => by simp at e; omega)).setCell ⟨N, 2, none⟩ _ (fun e => by simp at e; omega)).setCell ⟨N, 3, none⟩ _ (fun e => by simp at e; omega)
/-- A feed abides where only blocks are changed that are not its own. -/
theorem FdAt.keep {W W' : World} {S : Nat → Prop} {bf b87 : Nat} {f : Fs} (h : FdAt W S bf b87 f) {ex : Nat → Prop} (hk : ∀ k, k < W.heap.size → ¬ ex k → W'.heap[k]? = W.heap[k]?) (hS : ∀ k, S k → ¬ ex k) (hT : ∀ k c, W.heap[k]? = some (Obj.cells c 166 (0, 0)) → ¬ ex k) : FdAt W' S bf b87 f := by
  obtain ⟨va, vs, vq, h1, h2, h3, h4, h5, h6, h7⟩ := h
  exact ⟨va, vs, vq, (hk bf (Array.getElem?_eq_some_iff.1 h1).1 (hS bf h7)).trans h1, h2.kept (fun k c _ hc => (hk k (Array.getElem?_eq_some_iff.1 hc).1 (hT k c hc)).trans hc), own_keep h3 (fun g hg hlt => hk g hlt (hS g (h5 g hg).1)), own_keep h4 (fun g hg hlt => hk g hlt (hS g (h6 g hg))), h5, h6, h7⟩

/-- The first of the snapshot, or of the queue, is taken: in memory. -/
theorem first_mem (S : Nat → Prop) (bf b87 : Nat) (f : Fs) (x : Rc) (l : List Rc) (w : World) (h : FdAt w S bf b87 f) (hS : ∀ k, S k → k < w.heap.size) (hl : l.length ≤ 100000) (o : Nat) (ho : (o = 3 ∧ f.snap = x :: l) ∨ (o = 4 ∧ f.que = x :: l)) (W : World) (hb : Below w.heap.size w W) :
    Calls Tryz.prog 164 #[.pointer (some ⟨bf, o, none⟩)] W fun e w' => e = .returned (.agg #[.int .i64 x.kind, .int .i64 x.seq, .string x.text, .int .i64 x.time]) ∧ FdAt w' S bf b87 (if o = 3 then { f with snap := l } else { f with que := l }) ∧ Chg W w' S := by
  obtain ⟨va, vs, vq, h1, h2, h3, h4, h5, h6, h7⟩ := h
  have h1W := (hb.block _ (Array.getElem?_eq_some_iff.1 h1).1).trans h1
  have h3W := own_below h3 hb
  have h4W := own_below h4 hb
  have h2W : SealT W b87 va f.form.args := h2.kept (fun k cc _ hc => (hb.block k (Array.getElem?_eq_some_iff.1 hc).1).trans hc)
  rcases ho with ⟨rfl, hs⟩ | ⟨rfl, hs⟩
  · rw [hs] at h3W
    obtain ⟨g, c, rfl, _⟩ := rec_cell h3W
    refine (takeFirst_any bf 3 g c 0 198 _ x l W h1W rfl (by decide) h3W hl).mono ?_
    rintro e w' ⟨rfl, k1, k2, k3⟩
    have hne : ∀ k, k < W.heap.size → k ≠ g → k ≠ bf → w'.heap[k]? = W.heap[k]? := fun k hk e1 e2 => k3.block k hk (fun e => e.elim e1 e2)
    refine ⟨rfl, ⟨_, _, _, k1, ?_, k2, ?_, fun g' hg => ?_, h6, h7⟩, ?_⟩
    · refine h2W.kept (fun k cc _ hc => (hne k (Array.getElem?_eq_some_iff.1 hc).1 (fun e => ?_) (fun e => ?_)).trans hc)
      · obtain ⟨_, c', hc'⟩ := owns_block h3W (g := g) rfl
        rw [e, hc'] at hc; cases hc
      · rw [e, h1W] at hc; cases hc
    · refine own_keep h4W (fun g' hg hlt => hne g' hlt (fun e => ?_) (fun e => ?_))
      · subst e; exact (h5 g' rfl).2 hg
      · exact owns_ne h4 h1 (by decide) g' hg e
    · cases hg; exact ⟨(h5 g rfl).1, (h5 g rfl).2⟩
    · exact ⟨k3.os, k3.tape, k3.output, k3.size, fun k hk hx => hne k hk (fun e => hx (e ▸ (h5 g rfl).1)) (fun e => hx (e ▸ h7))⟩
  · rw [hs] at h4W
    obtain ⟨g, c, rfl, _⟩ := rec_cell h4W
    refine (takeFirst_any bf 4 g c 0 198 _ x l W h1W rfl (by decide) h4W hl).mono ?_
    rintro e w' ⟨rfl, k1, k2, k3⟩
    have hne : ∀ k, k < W.heap.size → k ≠ g → k ≠ bf → w'.heap[k]? = W.heap[k]? := fun k hk e1 e2 => k3.block k hk (fun e => e.elim e1 e2)
    refine ⟨rfl, ⟨_, _, _, k1, ?_, ?_, k2, fun g' hg => ⟨(h5 g' hg).1, fun e => ?_⟩, fun g' hg => ?_, h7⟩, ?_⟩
    · refine h2W.kept (fun k cc _ hc => (hne k (Array.getElem?_eq_some_iff.1 hc).1 (fun e => ?_) (fun e => ?_)).trans hc)
      · obtain ⟨_, c', hc'⟩ := owns_block h4W (g := g) rfl
        rw [e, hc'] at hc; cases hc
      · rw [e, h1W] at hc; cases hc
    · refine own_keep h3W (fun g' hg hlt => hne g' hlt (fun e => ?_) (fun e => ?_))
      · subst e; exact (h5 g' hg).2 rfl
      · exact owns_ne h3 h1 (by decide) g' hg e
    · cases e; exact (h5 g hg).2 rfl
    · cases hg; exact h6 g rfl
    · exact ⟨k3.os, k3.tape, k3.output, k3.size, fun k hk hx => hne k hk (fun e => hx (e ▸ h6 g rfl)) (fun e => hx (e ▸ h7))⟩

set_option maxRecDepth 100000 in
set_option maxHeartbeats 4000000 in
theorem next_snap (S : Nat → Prop) (bf b87 : Nat) (f : Fs) (x : Rc) (l : List Rc) (mm : Option Nat) (mark : Int) (w : World) (h : FdAt w S bf b87 f) (hS : ∀ k, S k → k < w.heap.size) (hs : f.snap = x :: l) (hl : l.length ≤ 100000) :
    Calls Tryz.prog 99 #[.pointer (some ⟨bf, 0, none⟩), .map mm, .int .i64 mark] w fun e w' => e = .returned (.agg #[.int .i64 x.kind, .int .i64 x.seq, .string x.text, .int .i64 x.time]) ∧ FdAt w' S bf b87 { f with snap := l } ∧ Chg w w' S := by
  obtain ⟨N, hN⟩ : ∃ N, w.heap.size = N := ⟨_, rfl⟩
  have htf : Hid (∀ O, Calls Tryz.prog 164 #[.pointer (some ⟨bf, 3, none⟩)] (w.alloc O) fun e w' => e = .returned (.agg #[.int .i64 x.kind, .int .i64 x.seq, .string x.text, .int .i64 x.time]) ∧ FdAt w' S bf b87 { f with snap := l } ∧ Chg (w.alloc O) w' S) := fun O =>
    first_mem S bf b87 f x l w h hS hl 3 (.inl ⟨rfl, hs⟩) (w.alloc O) ((Below.refl _ w).alloc (Nat.le_refl _) O)
  obtain ⟨va, vs, vq, h1, h2, h3, h4, h5, h6, h7⟩ := h
  have hal : ∀ O, Below w.heap.size w (w.alloc O) := fun O => (Below.refl _ w).alloc (Nat.le_refl _) O
  rw [hs] at h3
  obtain ⟨g, c, rfl, _⟩ := rec_cell h3
  have c3 : ∀ O, (w.alloc O).cell? ⟨bf, 3, none⟩ = some (.slice (some ⟨g, 0, none⟩) (l.length + 1) c) := fun O => cell_later (hal O) (by simp [World.cell?, h1])
  have hp1 : Hid (∀ W1, Chg (w.alloc (.cells #[.int .i64 0, .int .i64 0, .string ⟨#[]⟩, .int .i64 0] 71)) W1 S → W1.heap[N]? = some (Obj.cells #[.int .i64 0, .int .i64 0, .string ⟨#[]⟩, .int .i64 0] 71 (0, 0))) := fun W1 hc => by
    have := World.alloc_heap_new w (.cells #[.int .i64 0, .int .i64 0, .string ⟨#[]⟩, .int .i64 0] 71)
    rw [hN] at this
    exact (hc.block N (by simp; omega) (fun e => by have := hS N e; omega)).trans this
  have hcw : Hid (∀ O W1, Chg (w.alloc O) W1 S → Chg w W1 S) := fun O W1 hc => ⟨hc.os, hc.tape, hc.output, by have := hc.size; simp at this; omega, fun k hk hx => (hc.block k (by simp; omega) hx).trans (Below.heap_alloc _ _ _ hk)⟩
  have hfk : Hid (∀ W1, FdAt W1 S bf b87 { f with snap := l } → W1.heap[N]? = some (Obj.cells #[.int .i64 0, .int .i64 0, .string ⟨#[]⟩, .int .i64 0] 71 (0, 0)) → FdAt (putRc W1 N x) S bf b87 { f with snap := l }) := fun W1 hf hp => hf.keep (ex := fun k => k = N) (fun k _ hk => putRc_other W1 N x hk) (fun k hk e => by have := hS k hk; omega) (fun k c hc e => by rw [e, hp] at hc; cases hc)
  clear h1 h2 h3 h4 h5 h6 h7 hal
  go_enter Tryz.func99, Tryz.ntmps99
  go_wp2_with (go_at_call 164; refine (htf.out _).mono ?_; rintro e W1 ⟨rfl, hf1, hc1⟩; have p1 := hp1.out W1 hc1; have q0 : W1.cell? ⟨N, 0, none⟩ = some (.int .i64 0) := (by simp [World.cell?, p1]); have y0 : W1.frozen? ⟨N, 0, none⟩ = false := (by simp [World.frozen?, p1]); have q1 : W1.cell? ⟨N, 1, none⟩ = some (.int .i64 0) := (by simp [World.cell?, p1]); have y1 : W1.frozen? ⟨N, 1, none⟩ = false := (by simp [World.frozen?, p1]); have q2 : W1.cell? ⟨N, 2, none⟩ = some (.string ⟨#[]⟩) := (by simp [World.cell?, p1]); have y2 : W1.frozen? ⟨N, 2, none⟩ = false := (by simp [World.frozen?, p1]); have q3 : W1.cell? ⟨N, 3, none⟩ = some (.int .i64 0) := (by simp [World.cell?, p1]); have y3 : W1.frozen? ⟨N, 3, none⟩ = false := (by simp [World.frozen?, p1]); have HF1 : Hid _ := hf1; clear hf1)
  refine bodyPost_ret (v := .agg #[.int .i64 x.kind, .int .i64 x.seq, .string x.text, .int .i64 x.time]) (by simp [results, Tryz.results99, go_sem, q0, q1, q2, q3]) rfl ?_
  exact ⟨rfl, hfk.out W1 HF1.out p1, putRc_chg (hcw.out _ W1 hc1) (by omega) x⟩

set_option maxRecDepth 100000 in
set_option maxHeartbeats 4000000 in
theorem next_que (S : Nat → Prop) (bf b87 : Nat) (f : Fs) (x : Rc) (l : List Rc) (mm : Option Nat) (mark : Int) (w : World) (h : FdAt w S bf b87 f) (hS : ∀ k, S k → k < w.heap.size) (hs0 : f.snap = []) (hb : f.behind = false) (hs : f.que = x :: l) (hl : l.length ≤ 100000) :
    Calls Tryz.prog 99 #[.pointer (some ⟨bf, 0, none⟩), .map mm, .int .i64 mark] w fun e w' => e = .returned (.agg #[.int .i64 x.kind, .int .i64 x.seq, .string x.text, .int .i64 x.time]) ∧ FdAt w' S bf b87 { f with que := l } ∧ Chg w w' S := by
  obtain ⟨N, hN⟩ : ∃ N, w.heap.size = N := ⟨_, rfl⟩
  have htf : Hid (∀ O, Calls Tryz.prog 164 #[.pointer (some ⟨bf, 4, none⟩)] (w.alloc O) fun e w' => e = .returned (.agg #[.int .i64 x.kind, .int .i64 x.seq, .string x.text, .int .i64 x.time]) ∧ FdAt w' S bf b87 { f with que := l } ∧ Chg (w.alloc O) w' S) := fun O =>
    first_mem S bf b87 f x l w h hS hl 4 (.inr ⟨rfl, hs⟩) (w.alloc O) ((Below.refl _ w).alloc (Nat.le_refl _) O)
  obtain ⟨va, vs, vq, h1, h2, h3, h4, h5, h6, h7⟩ := h
  have hal : ∀ O, Below w.heap.size w (w.alloc O) := fun O => (Below.refl _ w).alloc (Nat.le_refl _) O
  rw [hs0] at h3
  obtain ⟨sa, sc, hsf⟩ := owns_form h3
  subst hsf
  rw [hs] at h4
  obtain ⟨g, c, rfl, _⟩ := rec_cell h4
  rw [hb] at h1
  have c3 : ∀ O, (w.alloc O).cell? ⟨bf, 3, none⟩ = some (.slice sa 0 sc) := fun O => cell_later (hal O) (by simp [World.cell?, h1])
  have c2 : ∀ O, (w.alloc O).cell? ⟨bf, 2, none⟩ = some (.bool false) := fun O => cell_later (hal O) (by simp [World.cell?, h1])
  have c4 : ∀ O, (w.alloc O).cell? ⟨bf, 4, none⟩ = some (.slice (some ⟨g, 0, none⟩) (l.length + 1) c) := fun O => cell_later (hal O) (by simp [World.cell?, h1])
  have hp1 : Hid (∀ W1, Chg (w.alloc (.cells #[.int .i64 0, .int .i64 0, .string ⟨#[]⟩, .int .i64 0] 71)) W1 S → W1.heap[N]? = some (Obj.cells #[.int .i64 0, .int .i64 0, .string ⟨#[]⟩, .int .i64 0] 71 (0, 0))) := fun W1 hc => by
    have := World.alloc_heap_new w (.cells #[.int .i64 0, .int .i64 0, .string ⟨#[]⟩, .int .i64 0] 71)
    rw [hN] at this
    exact (hc.block N (by simp; omega) (fun e => by have := hS N e; omega)).trans this
  have hcw : Hid (∀ O W1, Chg (w.alloc O) W1 S → Chg w W1 S) := fun O W1 hc => ⟨hc.os, hc.tape, hc.output, by have := hc.size; simp at this; omega, fun k hk hx => (hc.block k (by simp; omega) hx).trans (Below.heap_alloc _ _ _ hk)⟩
  have hfk : Hid (∀ W1, FdAt W1 S bf b87 { f with que := l } → W1.heap[N]? = some (Obj.cells #[.int .i64 0, .int .i64 0, .string ⟨#[]⟩, .int .i64 0] 71 (0, 0)) → FdAt (putRc W1 N x) S bf b87 { f with que := l }) := fun W1 hf hp => hf.keep (ex := fun k => k = N) (fun k _ hk => putRc_other W1 N x hk) (fun k hk e => by have := hS k hk; omega) (fun k c hc e => by rw [e, hp] at hc; cases hc)
  clear h1 h2 h3 h4 h5 h6 h7 hal
  go_enter Tryz.func99, Tryz.ntmps99
  go_wp2_with (go_at_call 164; refine (htf.out _).mono ?_; rintro e W1 ⟨rfl, hf1, hc1⟩; have p1 := hp1.out W1 hc1; have q0 : W1.cell? ⟨N, 0, none⟩ = some (.int .i64 0) := (by simp [World.cell?, p1]); have y0 : W1.frozen? ⟨N, 0, none⟩ = false := (by simp [World.frozen?, p1]); have q1 : W1.cell? ⟨N, 1, none⟩ = some (.int .i64 0) := (by simp [World.cell?, p1]); have y1 : W1.frozen? ⟨N, 1, none⟩ = false := (by simp [World.frozen?, p1]); have q2 : W1.cell? ⟨N, 2, none⟩ = some (.string ⟨#[]⟩) := (by simp [World.cell?, p1]); have y2 : W1.frozen? ⟨N, 2, none⟩ = false := (by simp [World.frozen?, p1]); have q3 : W1.cell? ⟨N, 3, none⟩ = some (.int .i64 0) := (by simp [World.cell?, p1]); have y3 : W1.frozen? ⟨N, 3, none⟩ = false := (by simp [World.frozen?, p1]); have HF1 : Hid _ := hf1; clear hf1)
  refine bodyPost_ret (v := .agg #[.int .i64 x.kind, .int .i64 x.seq, .string x.text, .int .i64 x.time]) (by simp [results, Tryz.results99, go_sem, q0, q1, q2, q3]) rfl ?_
  exact ⟨rfl, hfk.out W1 HF1.out p1, putRc_chg (hcw.out _ W1 hc1) (by omega) x⟩

end Go.Proofs.YtjajnhemgphefaaGreatDoor
