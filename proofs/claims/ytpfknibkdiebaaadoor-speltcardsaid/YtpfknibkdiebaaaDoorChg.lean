/-
  What a call may change: 'Chg w w' ex': every block of w that 'ex' does not name lies in w' as it lay. It chains.
-/
import Derived.Test.YtpfknibkdiebaaaDoorParser
namespace Go.Proofs.YtpfknibkdiebaaaDoor
open Go.RowKit Go.Shelf
set_option linter.unusedVariables false
set_option linter.unusedSimpArgs false

structure Chg (w w' : World) (ex : Nat → Prop) : Prop where
  os : w'.os = w.os
  tape : w'.tape = w.tape
  output : w'.output = w.output
  size : w.heap.size ≤ w'.heap.size
  block : ∀ k, k < w.heap.size → ¬ ex k → w'.heap[k]? = w.heap[k]?

theorem Chg.refl (w : World) (ex : Nat → Prop) : Chg w w ex := ⟨rfl, rfl, rfl, Nat.le_refl _, fun _ _ _ => rfl⟩
theorem Chg.trans {a b c : World} {ex : Nat → Prop} (h : Chg a b ex) (k : Chg b c ex) : Chg a c ex :=
  ⟨k.os.trans h.os, k.tape.trans h.tape, k.output.trans h.output, Nat.le_trans h.size k.size, fun i hi hx => (k.block i (Nat.lt_of_lt_of_le hi h.size) hx).trans (h.block i hi hx)⟩
theorem Chg.mono {a b : World} {ex ex' : Nat → Prop} (h : Chg a b ex) (hx : ∀ k, k < a.heap.size → ex k → ex' k) : Chg a b ex' :=
  ⟨h.os, h.tape, h.output, h.size, fun i hi hn => h.block i hi (fun e => hn (hx i hi e))⟩
theorem Chg.drew {a b : World} {ex : Nat → Prop} (h : Chg a b ex) : Chg a b.drew ex := ⟨h.os, h.tape, h.output, h.size, h.block⟩
theorem Chg.alloc {a b : World} {ex : Nat → Prop} (h : Chg a b ex) (o : Obj) : Chg a (b.alloc o) ex :=
  ⟨h.os, h.tape, h.output, by have := h.size; simp; omega, fun i hi hn => (Below.heap_alloc b o i (Nat.lt_of_lt_of_le hi h.size)).trans (h.block i hi hn)⟩
theorem Chg.setCell {a b : World} {ex : Nat → Prop} (h : Chg a b ex) (p : Addr) (v : Value) (hp : p.block < a.heap.size → ex p.block) : Chg a (b.setCell p v) ex :=
  ⟨h.os, h.tape, h.output, by have := h.size; have e : (b.setCell p v).heap.size = b.heap.size := by simp
                              omega, fun i hi hn => (Below.heap_setCell b p v i (fun e => hn (by rw [e] at hi ⊢; exact hp hi))).trans (h.block i hi hn)⟩
theorem Chg.grown {a b c : World} {ex : Nat → Prop} {row : Option Nat} (h : Chg a b ex) (hg : b.grownBy c row) (hr : ∀ k, row = some k → k < a.heap.size → ex k) : Chg a c ex :=
  ⟨hg.os.trans h.os, hg.tape.trans h.tape, hg.output.trans h.output, Nat.le_trans h.size hg.size,
    fun i hi hn => (hg.block i (Nat.lt_of_lt_of_le hi h.size) (fun e => hn (hr i e.symm hi))).trans (h.block i hi hn)⟩
theorem Chg.below {a b : World} {ex : Nat → Prop} {B : Nat} (h : Chg a b ex) (hB : B ≤ a.heap.size) (hx : ∀ k, ex k → B ≤ k) : Below B a b :=
  ⟨h.os, h.tape, h.output, h.size, fun k hk => h.block k (Nat.lt_of_lt_of_le hk hB) (fun e => by have := hx k e; omega)⟩
theorem Chg.ofBelow {a b : World} (ex : Nat → Prop) (h : Below a.heap.size a b) : Chg a b ex := ⟨h.os, h.tape, h.output, h.size, fun k hk _ => h.block k hk⟩

theorem Tryd.info45 : (Tryd.prog.info? 45).map (fun i => (i.zero, i.size, i.bytes)) = some (some (.agg #[.string ⟨#[]⟩, .slice none 0 0]), 2, 40) := by kernel_rfl
theorem Tryd.info87 : (Tryd.prog.info? 87).map (fun i => (i.zero, i.size, i.bytes)) = some (some (.agg #[.string ⟨#[]⟩, .bool false]), 2, 24) := by kernel_rfl
theorem Tryd.info48 : (Tryd.prog.info? 48).map (fun i => (i.zero, i.size, i.bytes)) = some (some (.agg #[.string ⟨#[]⟩, .slice none 0 0, .slice none 0 0]), 3, 64) := by kernel_rfl

theorem heap_set {w : World} {b : Nat} {c : Array Value} {t : TypeId} {fz : Nat × Nat} (h : w.heap[b]? = some (Obj.cells c t fz)) (o : Nat) (v : Value) : (w.setCell ⟨b, o, none⟩ v).heap[b]? = some (Obj.cells (c.setIfInBounds o v) t fz) := by
  simp [World.setCell, Array.getElem?_modify, h]

theorem owns_ne {w : World} {b e size n : Nat} {v : Value} {xs : List Value} (h : w.ownsRow b e size v n xs) {k : Nat} {c : Array Value} {u : TypeId} {fz : Nat × Nat} (hk : w.heap[k]? = some (Obj.cells c u fz)) (hne : u ≠ e) : ∀ g, v.ownBlock = some g → g ≠ k := by
  intro g hg e'
  obtain ⟨_, ⟨hv, hn⟩ | ⟨g', cap, cur, hv, _, hw, _⟩⟩ := h
  · rw [hv] at hg; simp [Value.ownBlock] at hg
  · rw [hv] at hg; simp [Value.ownBlock] at hg; rw [hg, e', hk] at hw; simp at hw; exact hne hw.2.1

theorem owns_set {w : World} {b e size n : Nat} {v : Value} {xs : List Value} (h : w.ownsRow b e size v n xs) (a : Addr) (u : Value) (hne : ∀ g, v.ownBlock = some g → g ≠ a.block) : (w.setCell a u).ownsRow b e size v n xs :=
  owns_kept h (fun g c hg hc => (Below.heap_setCell w a u g (hne g hg)).trans hc)

theorem fin_two {w w1 : World} {bp n b e size : Nat} {st st' : Int} {x y z v' : Value} {j : Nat} {xs : List Value} {ex : Nat → Prop} (hj : 1 ≤ j) (he : 54 ≠ e) (hx : ex bp) (hh : w1.heap[bp]? = some (Obj.cells #[.int .i64 st, x, y] 54 (0, 0)))
    (hz : (#[Value.int .i64 st, x, y].setIfInBounds j v').setIfInBounds 0 (.int .i64 st') = z.cells) (ho : w1.ownsRow b e size v' n xs) (hc : Chg w w1 ex) :
    ((w1.setCell ⟨bp, j, none⟩ v').setCell ⟨bp, 0, none⟩ (.int .i64 st')).heap[bp]? = some (Obj.cells z.cells 54 (0, 0)) ∧
    ((w1.setCell ⟨bp, j, none⟩ v').setCell ⟨bp, 0, none⟩ (.int .i64 st')).ownsRow b e size v' n xs ∧ Chg w ((w1.setCell ⟨bp, j, none⟩ v').setCell ⟨bp, 0, none⟩ (.int .i64 st')) ex := by
  refine ⟨by rw [← hz]; exact heap_set (heap_set hh j v') 0 _, ?_, (hc.setCell _ _ (fun _ => hx)).setCell _ _ (fun _ => hx)⟩
  exact owns_set (owns_set ho _ _ (owns_ne ho hh he)) _ _ (owns_ne ho hh he)

set_option maxHeartbeats 1000000 in
theorem addWord_atom (bp : Nat) (st : Int) (vr va : Value) (n b45 : Nat) (xs : List Value) (k : Int) (t : ByteArray) (p r : Int) (hst : st ≠ 3) (hn : n ≤ 1000) (w : World) (hb45 : b45 ≤ w.heap.size)
    (hh : w.heap[bp]? = some (Obj.cells #[.int .i64 st, vr, va] 54 (0, 0))) (hown : w.ownsRow b45 45 2 va n xs) :
    Calls Tryd.prog 50 #[.pointer (some ⟨bp, 0, none⟩), tokV k t p r] w fun e w' => e = .returned (.tuple #[]) ∧
      ∃ v', w'.heap[bp]? = some (Obj.cells #[.int .i64 2, vr, v'] 54 (0, 0)) ∧ w'.ownsRow b45 45 2 v' (n + 1) (xs ++ [.string t, .slice none 0 0]) ∧ Chg w w' (fun j => j = bp ∨ some j = va.ownBlock) := by
  have hbp : bp < w.heap.size := (Array.getElem?_eq_some_iff.1 hh).1
  have h0 : w.cell? ⟨bp, 0, none⟩ = some (.int .i64 st) := by simp [World.cell?, hh]
  have h2 : w.cell? ⟨bp, 2, none⟩ = some va := by simp [World.cell?, hh]
  have hst' : (st == 3) = false := by simp [hst]
  obtain ⟨i0, hi, hz0, hz1, hz2⟩ := info_parts Tryd.info45
  unfold tokV tokC
  have hform : ∃ a c, va = .slice a n c := by
    obtain ⟨_, ⟨hv, hn⟩ | ⟨g, cap, cur, hv, _⟩⟩ := hown
    · exact ⟨none, 0, by rw [hv, hn]⟩
    · exact ⟨_, _, hv⟩
  obtain ⟨a, c, rfl⟩ := hform
  have hbne : ∀ g, (Value.slice a n c).ownBlock = some g → g ≠ bp := by
    intro g hg e
    obtain ⟨_, ⟨hv, hn⟩ | ⟨g', cap, cur, hv, _, hw, _⟩⟩ := hown
    · rw [hv] at hg; simp [Value.ownBlock] at hg
    · rw [hv] at hg; simp [Value.ownBlock] at hg; rw [hg, e, hh] at hw; simp at hw
  have hA : Hid (((w.alloc (.cells #[.int .i64 k, .string t, .int .i64 p, .int .i64 r] 60)).alloc (.cells #[.string t, .slice none 0 0] 45)).ownsRow b45 45 2 (.slice a n c) n xs) := (hown.alloc _).alloc _
  have hN : Hid (∀ j u, [Value.string t, .slice none 0 0][j]? = some u → ((w.alloc (.cells #[.int .i64 k, .string t, .int .i64 p, .int .i64 r] 60)).alloc (.cells #[.string t, .slice none 0 0] 45)).cell? ((⟨w.heap.size + 1, 0, none⟩ : Addr).add j) = some u) := by
    have := cell_two_new (w.alloc (.cells #[.int .i64 k, .string t, .int .i64 p, .int .i64 r] 60)) (.string t) (.slice none 0 0) 45
    rw [World.size_alloc] at this; exact this
  have hG : Hid (∀ w1, ((w.alloc (.cells #[.int .i64 k, .string t, .int .i64 p, .int .i64 r] 60)).alloc (.cells #[.string t, .slice none 0 0] 45)).drew.grownBy w1 (Value.slice a n c).ownBlock →
      w1.heap[bp]? = some (Obj.cells #[.int .i64 st, vr, .slice a n c] 54 (0, 0)) ∧ Chg w w1 (fun j => j = bp ∨ some j = (Value.slice a n c).ownBlock)) := by
    intro w1 hg
    have hc : Chg w w1 (fun j => some j = (Value.slice a n c).ownBlock) := ((((Chg.refl w _).alloc _).alloc _).drew).grown hg (fun k e _ => e.symm)
    exact ⟨(hc.block bp hbp (fun e => hbne bp e.symm rfl)).trans hh, hc.mono (fun _ _ e => .inr e)⟩
  have h1c : ∀ u ∈ [Value.string t, .slice none 0 0], u.oneCell' = true := by simp [Value.oneCell']
  have hb1 : n + 1 ≤ maxLen := by unfold maxLen; omega
  have hb2 : (n + 1) * 40 ≤ 140737488355328 := by omega
  have hb3 : b45 ≤ ((w.alloc (.cells #[.int .i64 k, .string t, .int .i64 p, .int .i64 r] 60)).alloc (.cells #[.string t, .slice none 0 0] 45)).drew.heap.size := by simp [World.drew]; omega
  have HB3 : Hid (b45 ≤ ((w.alloc (.cells #[.int .i64 k, .string t, .int .i64 p, .int .i64 r] 60)).alloc (.cells #[.string t, .slice none 0 0] 45)).drew.heap.size) := hb3
  clear hh hb3
  go_enter Tryd.func50, Tryd.ntmps50
  go_wp2
  go_region_law (refine step_append_own rfl (.tmp 34) (.tmp 38) 46 rfl b45 45 i0 (.agg #[.string ⟨#[]⟩, .slice none 0 0]) 2 40 Tryd.underlying46 hi hz0 hz1 hz2 rfl (by decide) (.slice a n c) n xs (by simp [Act.eval, Act.put]) hA.out ⟨w.heap.size + 1, 0, none⟩ 1 1 [.string t, .slice none 0 0] (by simp [Act.eval, Act.put]) rfl hN.out h1c hb1 hb2 HB3.out ?_; intro v' w1 hown1 hgrow1; obtain ⟨g', cap', hv'⟩ := ownsRow_succ hown1; subst hv'; obtain ⟨hhw, hch⟩ := hG.out w1 hgrow1; have c0 : w1.cell? ⟨bp, 0, none⟩ = some (.int .i64 st) := (by simp [World.cell?, hhw]); have c2 : w1.cell? ⟨bp, 2, none⟩ = some (.slice a n c) := (by simp [World.cell?, hhw]); have f0 : w1.frozen? ⟨bp, 0, none⟩ = false := (by simp [World.frozen?, hhw]); have f2 : w1.frozen? ⟨bp, 2, none⟩ = false := (by simp [World.frozen?, hhw]))
  all_goals
    go_wp2
    go_end0
    exact ⟨rfl, .slice (some ⟨g', 0, none⟩) (n + 1) cap', fin_two (z := .agg #[.int .i64 2, vr, .slice (some ⟨g', 0, none⟩) (n + 1) cap']) (by decide) (by decide) (.inl rfl) hhw rfl hown1 hch⟩

theorem row_last {W : World} {b e n : Nat} {v : Value} {ys : List Value} {x y : Value} (h : W.ownsRow b e 2 v n (ys ++ [x, y])) (hn : 1 ≤ n) :
    ∃ g c cur, v = .slice (some ⟨g, 0, none⟩) n c ∧ W.heap[g]? = some (Obj.cells cur e (0, 0)) ∧ b ≤ g ∧ (n - 1) * 2 + 1 < cur.size ∧ cur[(n - 1) * 2 + 1]? = some y ∧ cur.toList.take (n * 2) = ys ++ [x, y] ∧ ys.length = (n - 1) * 2 := by
  obtain ⟨hl, ⟨_, h0⟩ | ⟨g, cap, cur, hv, hb, hw, h1, h2, h3, h4⟩⟩ := h
  · omega
  · simp at hl
    have hlt : (n - 1) * 2 + 1 < cur.size := by rw [h3]; omega
    refine ⟨g, cap, cur, hv, hw, hb, hlt, ?_, h4, by omega⟩
    have : (cur.toList.take (n * 2))[(n - 1) * 2 + 1]? = some y := by
      rw [h4, List.getElem?_append_right (by omega)]
      rw [show (n - 1) * 2 + 1 - ys.length = 1 by omega]; rfl
    rw [List.getElem?_take] at this
    split at this
    · simpa using this
    · cases this

theorem row_set_last {W : World} {b e n : Nat} {v : Value} {ys : List Value} {x y z : Value} (h : W.ownsRow b e 2 v n (ys ++ [x, y])) (hn : 1 ≤ n) {g : Nat} (hg : v.ownBlock = some g) :
    (W.setCell ⟨g, (n - 1) * 2 + 1, none⟩ z).ownsRow b e 2 v n (ys ++ [x, z]) := by
  obtain ⟨g', c, cur, hv, hw, hb, hlt, hy, ht, hl⟩ := row_last h hn
  rw [hv] at hg; simp [Value.ownBlock] at hg; subst hg
  obtain ⟨h0, ⟨hv', _⟩ | ⟨g2, cap2, cur2, hv2, hb2, hw2, h1, h2, h3, h4⟩⟩ := h
  · rw [hv] at hv'; cases hv'
  · rw [hv] at hv2; cases hv2
    rw [hw] at hw2; cases hw2
    refine ⟨by simpa using h0, .inr ⟨g', c, cur.setIfInBounds ((n - 1) * 2 + 1) z, hv, hb, heap_set hw _ _, h1, h2, by simpa using h3, ?_⟩⟩
    rw [Array.toList_setIfInBounds, List.take_set, ht]
    rw [List.set_append_right _ _ (by omega), show (n - 1) * 2 + 1 - ys.length = 1 by omega]
    rfl

end Go.Proofs.YtpfknibkdiebaaaDoor
