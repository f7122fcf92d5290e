/-
  What a call may change: 'Chg w w' ex': every block of w that 'ex' does not name lies in w' as it lay. It chains.
  A row of edges in memory.
  Ends from point to point, reckoned point by point: the longest lasting way. Plain data.
-/
import Derived.Test.YtjajnhemgphefaaGreatDoorJcIdx
import Derived.Test.YtjajnhemgphefaaGreatDoorJcWord
namespace Go.Proofs.YtjajnhemgphefaaGreatDoor
open Go.RowKit Go.Shelf
set_option linter.unusedVariables false
set_option linter.unusedSimpArgs false

structure Chg (w w' : World) (ex : Nat → Prop) : Prop where
  os : w'.os = w.os
  tape : w'.tape = w.tape
  output : w'.output = w.output
  size : w.heap.size ≤ w'.heap.size
  block : ∀ k, k < w.heap.size → ¬ ex k → w'.heap[k]? = w.heap[k]?

theorem Chg.refl (w : World) (ex : Nat → Prop) : Chg w w ex := ⟨rfl, rfl, rfl, Nat.le_refl _, fun _ _ _ => rfl⟩
theorem Chg.trans {a b c : World} {ex : Nat → Prop} (h : Chg a b ex) (k : Chg b c ex) : Chg a c ex :=
  ⟨k.os.trans h.os, k.tape.trans h.tape, k.output.trans h.output, Nat.le_trans h.size k.size, fun i hi hx => (k.block i (Nat.lt_of_lt_of_le hi h.size) hx).trans (h.block i hi hx)⟩
theorem Chg.mono {a b : World} {ex ex' : Nat → Prop} (h : Chg a b ex) (hx : ∀ k, k < a.heap.size → ex k → ex' k) : Chg a b ex' :=
  ⟨h.os, h.tape, h.output, h.size, fun i hi hn => h.block i hi (fun e => hn (hx i hi e))⟩
theorem Chg.drew {a b : World} {ex : Nat → Prop} (h : Chg a b ex) : Chg a b.drew ex := ⟨h.os, h.tape, h.output, h.size, h.block⟩
theorem Chg.alloc {a b : World} {ex : Nat → Prop} (h : Chg a b ex) (o : Obj) : Chg a (b.alloc o) ex :=
  ⟨h.os, h.tape, h.output, by have := h.size; simp; omega, fun i hi hn => (Below.heap_alloc b o i (Nat.lt_of_lt_of_le hi h.size)).trans (h.block i hi hn)⟩
theorem Chg.setCell {a b : World} {ex : Nat → Prop} (h : Chg a b ex) (p : Addr) (v : Value) (hp : p.block < a.heap.size → ex p.block) : Chg a (b.setCell p v) ex :=
  ⟨h.os, h.tape, h.output, by have := h.size; have e : (b.setCell p v).heap.size = b.heap.size := by simp
                              omega, fun i hi hn => (Below.heap_setCell b p v i (fun e => hn (by rw [e] at hi ⊢; exact hp hi))).trans (h.block i hi hn)⟩
theorem Chg.grown {a b c : World} {ex : Nat → Prop} {row : Option Nat} (h : Chg a b ex) (hg : b.grownBy c row) (hr : ∀ k, row = some k → k < a.heap.size → ex k) : Chg a c ex :=
  ⟨hg.os.trans h.os, hg.tape.trans h.tape, hg.output.trans h.output, Nat.le_trans h.size hg.size,
    fun i hi hn => (hg.block i (Nat.lt_of_lt_of_le hi h.size) (fun e => hn (hr i e.symm hi))).trans (h.block i hi hn)⟩
theorem Chg.below {a b : World} {ex : Nat → Prop} {B : Nat} (h : Chg a b ex) (hB : B ≤ a.heap.size) (hx : ∀ k, ex k → B ≤ k) : Below B a b :=
  ⟨h.os, h.tape, h.output, h.size, fun k hk => h.block k (Nat.lt_of_lt_of_le hk hB) (fun e => by have := hx k e; omega)⟩
theorem Chg.ofBelow {a b : World} (ex : Nat → Prop) (h : Below a.heap.size a b) : Chg a b ex := ⟨h.os, h.tape, h.output, h.size, fun k hk _ => h.block k hk⟩

theorem Tryz.info45 : (Tryz.prog.info? 92).map (fun i => (i.zero, i.size, i.bytes)) = some (some (.agg #[.string ⟨#[]⟩, .slice none 0 0]), 2, 40) := by kernel_rfl
theorem Tryz.info87 : (Tryz.prog.info? 166).map (fun i => (i.zero, i.size, i.bytes)) = some (some (.agg #[.string ⟨#[]⟩, .int .i64 0]), 2, 24) := by kernel_rfl
theorem Tryz.info48 : (Tryz.prog.info? 136).map (fun i => (i.zero, i.size, i.bytes)) = some (some (.agg #[.string ⟨#[]⟩, .slice none 0 0, .slice none 0 0]), 3, 64) := by kernel_rfl

theorem heap_set {w : World} {b : Nat} {c : Array Value} {t : TypeId} {fz : Nat × Nat} (h : w.heap[b]? = some (Obj.cells c t fz)) (o : Nat) (v : Value) : (w.setCell ⟨b, o, none⟩ v).heap[b]? = some (Obj.cells (c.setIfInBounds o v) t fz) := by
  simp [World.setCell, Array.getElem?_modify, h]

theorem owns_ne {w : World} {b e size n : Nat} {v : Value} {xs : List Value} (h : w.ownsRow b e size v n xs) {k : Nat} {c : Array Value} {u : TypeId} {fz : Nat × Nat} (hk : w.heap[k]? = some (Obj.cells c u fz)) (hne : u ≠ e) : ∀ g, v.ownBlock = some g → g ≠ k := by
  intro g hg e'
  obtain ⟨_, ⟨hv, hn⟩ | ⟨g', cap, cur, hv, _, hw, _⟩⟩ := h
  · rw [hv] at hg; simp [Value.ownBlock] at hg
  · rw [hv] at hg; simp [Value.ownBlock] at hg; rw [hg, e', hk] at hw; simp at hw; exact hne hw.2.1

theorem owns_set {w : World} {b e size n : Nat} {v : Value} {xs : List Value} (h : w.ownsRow b e size v n xs) (a : Addr) (u : Value) (hne : ∀ g, v.ownBlock = some g → g ≠ a.block) : (w.setCell a u).ownsRow b e size v n xs :=
  owns_kept h (fun g c hg hc => (Below.heap_setCell w a u g (hne g hg)).trans hc)

theorem fin_two {w w1 : World} {bp n b e size : Nat} {st' : Int} {C Z : Array Value} {v' : Value} {j : Nat} {xs : List Value} {ex : Nat → Prop} (he : 179 ≠ e) (hx : ex bp) (hh : w1.heap[bp]? = some (Obj.cells C 179 (0, 0)))
    (hz : (C.setIfInBounds j v').setIfInBounds 0 (.int .i64 st') = Z) (ho : w1.ownsRow b e size v' n xs) (hc : Chg w w1 ex) :
    ((w1.setCell ⟨bp, j, none⟩ v').setCell ⟨bp, 0, none⟩ (.int .i64 st')).heap[bp]? = some (Obj.cells Z 179 (0, 0)) ∧
    ((w1.setCell ⟨bp, j, none⟩ v').setCell ⟨bp, 0, none⟩ (.int .i64 st')).ownsRow b e size v' n xs ∧ Chg w ((w1.setCell ⟨bp, j, none⟩ v').setCell ⟨bp, 0, none⟩ (.int .i64 st')) ex := by
  refine ⟨by rw [← hz]; exact heap_set (heap_set hh j v') 0 _, ?_, (hc.setCell _ _ (fun _ => hx)).setCell _ _ (fun _ => hx)⟩
  exact owns_set (owns_set ho _ _ (owns_ne ho hh he)) _ _ (owns_ne ho hh he)

theorem clone_any (s : ByteArray) (w : World) (hs : s.size ≤ 1000000) :
    Calls Tryz.prog 97 #[.string s] w fun e w' => e = .returned (.string s) ∧ Below w.heap.size w w' := by
  have h := fun W => Tryz.stringslite_Clone s W (by omega)
  go_enter Tryz.func97, Tryz.ntmps97
  go_wp2_with (go_at_call 162; refine (h _).mono ?_; rintro e w' ⟨rfl, hb⟩)
  go_ret
  exact ⟨rfl, hb⟩

set_option maxRecDepth 100000 in
set_option maxHeartbeats 2000000 in
theorem addWord_atom (bp : Nat) (st : Int) (vr va vv : Value) (n b45 : Nat) (xs : List Value) (k : Int) (t : ByteArray) (p r : Int) (hst : st ≠ 3) (hn : n ≤ 1000) (ht : t.size ≤ 1000000) (w : World) (hb45 : b45 ≤ w.heap.size)
    (hh : w.heap[bp]? = some (Obj.cells #[.int .i64 st, vr, va, vv] 179 (0, 0))) (hown : w.ownsRow b45 92 2 va n xs) :
    Calls Tryz.prog 233 #[.pointer (some ⟨bp, 0, none⟩), tokV k t p r] w fun e w' => e = .returned (.tuple #[]) ∧
      ∃ v', w'.heap[bp]? = some (Obj.cells #[.int .i64 2, vr, v', vv] 179 (0, 0)) ∧ w'.ownsRow b45 92 2 v' (n + 1) (xs ++ [.string t, .slice none 0 0]) ∧ Chg w w' (fun j => j = bp ∨ some j = va.ownBlock) := by
  have hbp : bp < w.heap.size := (Array.getElem?_eq_some_iff.1 hh).1
  have h0 : w.cell? ⟨bp, 0, none⟩ = some (.int .i64 st) := by simp [World.cell?, hh]
  have h2 : w.cell? ⟨bp, 2, none⟩ = some va := by simp [World.cell?, hh]
  have hst' : (st == 3) = false := by simp [hst]
  obtain ⟨i0, hi, hz0, hz1, hz2⟩ := info_parts Tryz.info45
  unfold tokV tokC
  obtain ⟨a, c, rfl⟩ : ∃ a c, va = .slice a n c := by
    obtain ⟨_, ⟨hv, hn⟩ | ⟨g, cap, cur, hv, _⟩⟩ := hown
    · exact ⟨none, 0, by rw [hv, hn]⟩
    · exact ⟨_, _, hv⟩
  have hbne : ∀ g, (Value.slice a n c).ownBlock = some g → g ≠ bp := owns_ne hown hh (by decide)
  obtain ⟨W0, hW0⟩ : ∃ W0, (w.alloc (.cells #[.int .i64 k, .string t, .int .i64 p, .int .i64 r] 191)).drew = W0 := ⟨_, rfl⟩
  have hb0 : Below w.heap.size w W0 := by rw [← hW0]; exact ((Below.refl _ w).alloc (Nat.le_refl _) _).drew
  have hs0 : W0.heap.size = w.heap.size + 1 := by rw [← hW0]; show (w.alloc _).heap.size = _; simp
  have hcl : Hid (∀ W, Calls Tryz.prog 97 #[.string t] W fun e w' => e = .returned (.string t) ∧ Below W.heap.size W w') := fun W => clone_any t W ht
  -- behind the copy
  have hS : Hid (∀ W1, Below W0.heap.size W0 W1 → W1.cell? ⟨bp, 0, none⟩ = some (.int .i64 st) ∧ W1.cell? ⟨bp, 2, none⟩ = some (.slice a n c) ∧ W1.heap.size ≠ bp ∧ W1.ownsRow b45 92 2 (.slice a n c) n xs ∧ b45 ≤ W1.heap.size) := by
    intro W1 h1
    have hb : Below w.heap.size w W1 := hb0.trans (h1.mono (by omega))
    have hsz := hb.size
    exact ⟨(hb.cell (p := ⟨bp, 0, none⟩) hbp).trans h0, (hb.cell (p := ⟨bp, 2, none⟩) hbp).trans h2, by omega, own_below hown hb, by omega⟩
  have hG : Hid (∀ W1 O w1, Below W0.heap.size W0 W1 → (W1.alloc O).grownBy w1 (Value.slice a n c).ownBlock →
      w1.heap[bp]? = some (Obj.cells #[.int .i64 st, vr, .slice a n c, vv] 179 (0, 0)) ∧ Chg w w1 (fun j => j = bp ∨ some j = (Value.slice a n c).ownBlock)) := by
    intro W1 O w1 h1 hg
    have hb : Below w.heap.size w W1 := hb0.trans (h1.mono (by omega))
    have hc : Chg w w1 (fun j => some j = (Value.slice a n c).ownBlock) := ((Chg.ofBelow _ hb).alloc _).grown hg (fun k e _ => e.symm)
    exact ⟨(hc.block bp hbp (fun e => hbne bp e.symm rfl)).trans hh, hc.mono (fun _ _ e => .inr e)⟩
  have h1c : ∀ u ∈ [Value.string t, .slice none 0 0], u.oneCell' = true := by simp [Value.oneCell']
  have hb1 : n + 1 ≤ maxLen := by unfold maxLen; omega
  have hb2 : (n + 1) * 40 ≤ 140737488355328 := by omega
  obtain ⟨z0, z2, zne, _, _⟩ := hS.out W0 (Below.refl _ _)
  have zne2 := zne.symm
  have zt : W0.cell? ⟨w.heap.size, 1, none⟩ = some (.string t) := by rw [← hW0]; simp
  clear hh hb0 hs0 hown
  go_enter Tryz.func233, Tryz.ntmps233
  go_wp2
  go_region_law (first | (refine step_append_own rfl (.tmp 31) (.tmp 36) 134 rfl b45 92 i0 (.agg #[.string ⟨#[]⟩, .slice none 0 0]) 2 40 Tryz.underlying134 hi hz0 hz1 hz2 rfl (by decide) (.slice a n c) n xs (by simp [Act.eval, Act.put]) (World.ownsRow.alloc (hS.out W1 hbW).2.2.2.1 _) ⟨W1.heap.size, 0, none⟩ 1 1 [.string t, .slice none 0 0] (by simp [Act.eval, Act.put]) rfl (cell_two_new W1 (.string t) (.slice none 0 0) 92) h1c hb1 hb2 (by have := (hS.out W1 hbW).2.2.2.2; simp; omega) ?_; intro v' w1 hown1 hgrow1; obtain ⟨g', cap', hv'⟩ := ownsRow_succ hown1; subst hv'; obtain ⟨hhw, hch⟩ := hG.out W1 _ w1 hbW hgrow1; have c0 : w1.cell? ⟨bp, 0, none⟩ = some (.int .i64 st) := (by simp [World.cell?, hhw]); have c2 : w1.cell? ⟨bp, 2, none⟩ = some (.slice a n c) := (by simp [World.cell?, hhw]); have f0 : w1.frozen? ⟨bp, 0, none⟩ = false := (by simp [World.frozen?, hhw]); have f2 : w1.frozen? ⟨bp, 2, none⟩ = false := (by simp [World.frozen?, hhw])) | (go_simp; go_wp2_with (go_at_call 97; refine (hcl.out _).mono ?_; rintro e W1 ⟨rfl, hbW⟩; obtain ⟨k0, k2, kne, _, _⟩ := hS.out W1 hbW; have kne2 := kne.symm; have ka2 : ∀ O, (W1.alloc O).cell? ⟨bp, 2, none⟩ = some (.slice a n c) := fun O => cell_later ((Below.refl W1.heap.size W1).alloc (Nat.le_refl _) O) k2)))
  all_goals
    go_wp2
    go_end0
    exact ⟨rfl, .slice (some ⟨g', 0, none⟩) (n + 1) cap', fin_two (Z := #[.int .i64 2, vr, .slice (some ⟨g', 0, none⟩) (n + 1) cap', vv]) (by decide) (.inl rfl) hhw rfl hown1 hch⟩

theorem row_last {W : World} {b e n : Nat} {v : Value} {ys : List Value} {x y : Value} (h : W.ownsRow b e 2 v n (ys ++ [x, y])) (hn : 1 ≤ n) :
    ∃ g c cur, v = .slice (some ⟨g, 0, none⟩) n c ∧ W.heap[g]? = some (Obj.cells cur e (0, 0)) ∧ b ≤ g ∧ (n - 1) * 2 + 1 < cur.size ∧ cur[(n - 1) * 2 + 1]? = some y ∧ cur.toList.take (n * 2) = ys ++ [x, y] ∧ ys.length = (n - 1) * 2 := by
  obtain ⟨hl, ⟨_, h0⟩ | ⟨g, cap, cur, hv, hb, hw, h1, h2, h3, h4⟩⟩ := h
  · omega
  · simp at hl
    have hlt : (n - 1) * 2 + 1 < cur.size := by rw [h3]; omega
    refine ⟨g, cap, cur, hv, hw, hb, hlt, ?_, h4, by omega⟩
    have : (cur.toList.take (n * 2))[(n - 1) * 2 + 1]? = some y := by
      rw [h4, List.getElem?_append_right (by omega)]
      rw [show (n - 1) * 2 + 1 - ys.length = 1 by omega]; rfl
    rw [List.getElem?_take] at this
    split at this
    · simpa using this
    · cases this

theorem row_set_last {W : World} {b e n : Nat} {v : Value} {ys : List Value} {x y z : Value} (h : W.ownsRow b e 2 v n (ys ++ [x, y])) (hn : 1 ≤ n) {g : Nat} (hg : v.ownBlock = some g) :
    (W.setCell ⟨g, (n - 1) * 2 + 1, none⟩ z).ownsRow b e 2 v n (ys ++ [x, z]) := by
  obtain ⟨g', c, cur, hv, hw, hb, hlt, hy, ht, hl⟩ := row_last h hn
  rw [hv] at hg; simp [Value.ownBlock] at hg; subst hg
  obtain ⟨h0, ⟨hv', _⟩ | ⟨g2, cap2, cur2, hv2, hb2, hw2, h1, h2, h3, h4⟩⟩ := h
  · rw [hv] at hv'; cases hv'
  · rw [hv] at hv2; cases hv2
    rw [hw] at hw2; cases hw2
    refine ⟨by simpa using h0, .inr ⟨g', c, cur.setIfInBounds ((n - 1) * 2 + 1) z, hv, hb, heap_set hw _ _, h1, h2, by simpa using h3, ?_⟩⟩
    rw [Array.toList_setIfInBounds, List.take_set, ht]
    rw [List.set_append_right _ _ (by omega), show (n - 1) * 2 + 1 - ys.length = 1 by omega]
    rfl

end Go.Proofs.YtjajnhemgphefaaGreatDoor

namespace Go.Proofs.YtjajnhemgphefaaGreatDoor
open Go.RowKit Go.Shelf
set_option linter.unusedVariables false

/-- A row of edges in memory. -/
def EdAt (w : World) (a : Option Addr) (l : List (Int × Int × Int)) : Prop := ∀ i (h : i < l.length), ∃ b off, a = some ⟨b, off, none⟩ ∧ b < w.heap.size ∧ w.cell? ⟨b, off + i * 3, none⟩ = some (.int .i64 (l[i]).1) ∧ w.cell? ⟨b, off + i * 3 + 1, none⟩ = some (.int .i64 (l[i]).2.1) ∧ w.cell? ⟨b, off + i * 3 + 2, none⟩ = some (.int .i64 (l[i]).2.2)
def IntOk (z : Int) : Prop := -9223372036854775808 ≤ z ∧ z ≤ 9223372036854775807
/-- Which of six points a raw number speaks of. -/
def p6 (z : Int) : Nat := (pickZ z 6).toNat
theorem p6_lt (z : Int) : p6 z < 6 := by
  have := pickZ_bounds z 6 (by decide)
  unfold p6; omega

end Go.Proofs.YtjajnhemgphefaaGreatDoor

namespace Go.Proofs.YtjajnhemgphefaaGreatDoor
set_option linter.unusedVariables false

/-- Ends from point to point. -/
def setA (A : Nat → Nat → Int) (i j : Nat) (v : Int) : Nat → Nat → Int := fun a b => if a = i ∧ b = j then v else A a b
def stepA (k : Nat) (A : Nat → Nat → Int) (p : Nat × Nat) : Nat → Nat → Int := setA A p.1 p.2 (max (A p.1 p.2) (min (A p.1 k) (A k p.2)))
def pairs6 : List (Nat × Nat) := (List.range 6).flatMap fun i => (List.range 6).map fun j => (i, j)
def roundA (k : Nat) (A : Nat → Nat → Int) : Nat → Nat → Int := pairs6.foldl (stepA k) A
def allA (n : Nat) (A : Nat → Nat → Int) : Nat → Nat → Int := (List.range n).foldl (fun A k => roundA k A) A
theorem stepA_lt (k : Nat) (e : Int) (A B : Nat → Nat → Int) (D : List (Nat × Nat)) (h : ∀ i j, e < B i j ↔ (e < A i j ∨ ((i, j) ∈ D ∧ e < A i k ∧ e < A k j))) (p : Nat × Nat) :
    ∀ i j, e < stepA k B p i j ↔ (e < A i j ∨ ((i, j) ∈ D ++ [p] ∧ e < A i k ∧ e < A k j)) := by
  intro i j
  have hik : ∀ i, e < B i k ↔ e < A i k := fun i => by rw [h]; exact ⟨fun h => h.elim id (fun h => h.2.1), .inl⟩
  have hkj : ∀ j, e < B k j ↔ e < A k j := fun j => by rw [h]; exact ⟨fun h => h.elim id (fun h => h.2.2), .inl⟩
  unfold stepA setA
  by_cases hp : i = p.1 ∧ j = p.2
  · rw [if_pos hp]
    obtain ⟨rfl, rfl⟩ := hp
    have hm : e < max (B p.1 p.2) (min (B p.1 k) (B k p.2)) ↔ (e < B p.1 p.2 ∨ (e < B p.1 k ∧ e < B k p.2)) := by omega
    rw [hm, h, hik, hkj]
    constructor
    · rintro ((h1 | ⟨h1, h2⟩) | h1)
      · exact .inl h1
      · exact .inr ⟨by simp, h2⟩
      · exact .inr ⟨by simp, h1⟩
    · rintro (h1 | ⟨_, h1⟩)
      · exact .inl (.inl h1)
      · exact .inr h1
  · rw [if_neg hp, h]
    have : (i, j) ∈ D ++ [p] ↔ (i, j) ∈ D := by
      simp only [List.mem_append, List.mem_cons, List.not_mem_nil, or_false]
      exact ⟨fun h => h.elim id (fun h => absurd ⟨congrArg Prod.fst h, congrArg Prod.snd h⟩ hp), .inl⟩
    rw [this]
theorem foldA_lt (k : Nat) (e : Int) (A : Nat → Nat → Int) : ∀ (l D : List (Nat × Nat)) (B : Nat → Nat → Int), (∀ i j, e < B i j ↔ (e < A i j ∨ ((i, j) ∈ D ∧ e < A i k ∧ e < A k j))) →
    ∀ i j, e < l.foldl (stepA k) B i j ↔ (e < A i j ∨ ((i, j) ∈ D ++ l ∧ e < A i k ∧ e < A k j))
  | [], D, B, h => by simpa using h
  | p :: l, D, B, h => by
    intro i j
    rw [List.foldl_cons, foldA_lt k e A l (D ++ [p]) _ (stepA_lt k e A B D h p) i j]
    simp
theorem mem_pairs6 {i j : Nat} : (i, j) ∈ pairs6 ↔ i < 6 ∧ j < 6 := by
  unfold pairs6; simp
theorem roundA_lt (k : Nat) (e : Int) (A : Nat → Nat → Int) (i j : Nat) : e < roundA k A i j ↔ (e < A i j ∨ ((i < 6 ∧ j < 6) ∧ e < A i k ∧ e < A k j)) := by
  unfold roundA
  rw [foldA_lt k e A pairs6 [] A (fun i j => by simp) i j, List.nil_append, mem_pairs6]
theorem allA_succ (n : Nat) (A : Nat → Nat → Int) : allA (n + 1) A = roundA n (allA n A) := by
  unfold allA; rw [List.range_succ, List.foldl_append]; rfl
/-- A way of steps between points. -/
def WayN (E : Nat → Nat → Prop) (x y : Nat) : Prop := ∀ S : Nat → Nat → Prop, (∀ x y, E x y → S x y) → (∀ x y z, S x y → E y z → S x z) → S x y
theorem WayN.trans {E : Nat → Nat → Prop} {x y z : Nat} (h : WayN E x y) (k : WayN E y z) : WayN E x z := by
  refine k (fun a b => a = y ∨ WayN E a y → True ∧ (WayN E x a ∨ a = y → WayN E x b)) ?_ ?_ (.inl rfl) |>.2 (.inr rfl)
  · intro a b hab _
    refine ⟨trivial, fun hor => ?_⟩
    have hxa : WayN E x a := hor.elim id (fun e => e ▸ h)
    exact fun S h1 h2 => h2 _ _ _ (hxa S h1 h2) hab
  · intro a b c hS hbc hor
    refine ⟨trivial, fun hor2 => ?_⟩
    have hxb := (hS hor).2 hor2
    exact fun S h1 h2 => h2 _ _ _ (hxb S h1 h2) hbc
theorem allA_sound (e : Int) (A : Nat → Nat → Int) : ∀ n i j, e < allA n A i j → WayN (fun i j => e < A i j) i j
  | 0, i, j, h => fun S h1 _ => h1 _ _ h
  | n + 1, i, j, h => by
    rw [allA_succ, roundA_lt] at h
    rcases h with h | ⟨_, h1, h2⟩
    · exact allA_sound e A n i j h
    · exact (allA_sound e A n _ _ h1).trans (allA_sound e A n _ _ h2)
theorem allA_trans (e : Int) (A : Nat → Nat → Int) : ∀ n m i j, n ≤ 6 → m < n → i < 6 → j < 6 → e < allA n A i m → e < allA n A m j → e < allA n A i j
  | 0, m, i, j, _, h, _, _, _, _ => absurd h (Nat.not_lt_zero _)
  | n + 1, m, i, j, h6, hm, hi, hj, h1, h2 => by
    rw [allA_succ, roundA_lt] at h1 h2 ⊢
    by_cases hmn : m = n
    · subst hmn
      have k1 : e < allA m A i m := h1.elim id (fun h => h.2.1)
      have k2 : e < allA m A m j := h2.elim id (fun h => h.2.2)
      exact .inr ⟨⟨hi, hj⟩, k1, k2⟩
    · have hlt : m < n := by omega
      have hn : n < 6 := by omega
      rcases h1 with h1 | ⟨_, h1, h1'⟩ <;> rcases h2 with h2 | ⟨_, h2, h2'⟩
      · exact .inl (allA_trans e A n m i j (by omega) hlt hi hj h1 h2)
      · exact .inr ⟨⟨hi, hj⟩, allA_trans e A n m i n (by omega) hlt hi hn h1 h2, h2'⟩
      · exact .inr ⟨⟨hi, hj⟩, h1, allA_trans e A n m n j (by omega) hlt hn hj h1' h2⟩
      · exact .inr ⟨⟨hi, hj⟩, h1, h2'⟩
theorem allA_mono (e : Int) (A : Nat → Nat → Int) (i j : Nat) : ∀ n, e < A i j → e < allA n A i j
  | 0, h => h
  | n + 1, h => by rw [allA_succ, roundA_lt]; exact .inl (allA_mono e A i j n h)
/-- Point by point comes to the longest lasting way. -/
theorem allA_way (e : Int) (A : Nat → Nat → Int) (hA : ∀ i j, e < A i j → i < 6 ∧ j < 6) (i j : Nat) : e < allA 6 A i j ↔ WayN (fun i j => e < A i j) i j := by
  refine ⟨allA_sound e A 6 i j, fun h => ?_⟩
  have := h (fun i j => (i < 6 ∧ j < 6) ∧ e < allA 6 A i j) (fun a b hab => ⟨hA a b hab, allA_mono e A a b 6 hab⟩) (fun a b c ⟨⟨h1, h2⟩, h3⟩ hbc => ⟨⟨h1, (hA b c hbc).2⟩, allA_trans e A 6 b a c (Nat.le_refl _) h2 h1 (hA b c hbc).2 h3 (allA_mono e A b c 6 hbc)⟩)
  exact this.2

end Go.Proofs.YtjajnhemgphefaaGreatDoor
