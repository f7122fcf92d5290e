/-
  What a call may change: 'Chg w w' ex': every block of w that 'ex' does not name lies in w' as it lay. It chains.
  The parser's addWord where it adds a term to the last atom.
-/
import Derived.Test.YtjajnhemgphefaaGreatDoorJIdx
namespace Go.Proofs.YtjajnhemgphefaaGreatDoor
open Go.RowKit Go.Shelf
set_option linter.unusedVariables false
set_option linter.unusedSimpArgs false

structure Chg (w w' : World) (ex : Nat → Prop) : Prop where
  os : w'.os = w.os
  tape : w'.tape = w.tape
  output : w'.output = w.output
  size : w.heap.size ≤ w'.heap.size
  block : ∀ k, k < w.heap.size → ¬ ex k → w'.heap[k]? = w.heap[k]?

theorem Chg.refl (w : World) (ex : Nat → Prop) : Chg w w ex := ⟨rfl, rfl, rfl, Nat.le_refl _, fun _ _ _ => rfl⟩
theorem Chg.trans {a b c : World} {ex : Nat → Prop} (h : Chg a b ex) (k : Chg b c ex) : Chg a c ex :=
  ⟨k.os.trans h.os, k.tape.trans h.tape, k.output.trans h.output, Nat.le_trans h.size k.size, fun i hi hx => (k.block i (Nat.lt_of_lt_of_le hi h.size) hx).trans (h.block i hi hx)⟩
theorem Chg.mono {a b : World} {ex ex' : Nat → Prop} (h : Chg a b ex) (hx : ∀ k, k < a.heap.size → ex k → ex' k) : Chg a b ex' :=
  ⟨h.os, h.tape, h.output, h.size, fun i hi hn => h.block i hi (fun e => hn (hx i hi e))⟩
theorem Chg.drew {a b : World} {ex : Nat → Prop} (h : Chg a b ex) : Chg a b.drew ex := ⟨h.os, h.tape, h.output, h.size, h.block⟩
theorem Chg.alloc {a b : World} {ex : Nat → Prop} (h : Chg a b ex) (o : Obj) : Chg a (b.alloc o) ex :=
  ⟨h.os, h.tape, h.output, by have := h.size; simp; omega, fun i hi hn => (Below.heap_alloc b o i (Nat.lt_of_lt_of_le hi h.size)).trans (h.block i hi hn)⟩
theorem Chg.setCell {a b : World} {ex : Nat → Prop} (h : Chg a b ex) (p : Addr) (v : Value) (hp : p.block < a.heap.size → ex p.block) : Chg a (b.setCell p v) ex :=
  ⟨h.os, h.tape, h.output, by have := h.size; have e : (b.setCell p v).heap.size = b.heap.size := by simp
                              omega, fun i hi hn => (Below.heap_setCell b p v i (fun e => hn (by rw [e] at hi ⊢; exact hp hi))).trans (h.block i hi hn)⟩
theorem Chg.grown {a b c : World} {ex : Nat → Prop} {row : Option Nat} (h : Chg a b ex) (hg : b.grownBy c row) (hr : ∀ k, row = some k → k < a.heap.size → ex k) : Chg a c ex :=
  ⟨hg.os.trans h.os, hg.tape.trans h.tape, hg.output.trans h.output, Nat.le_trans h.size hg.size,
    fun i hi hn => (hg.block i (Nat.lt_of_lt_of_le hi h.size) (fun e => hn (hr i e.symm hi))).trans (h.block i hi hn)⟩
theorem Chg.below {a b : World} {ex : Nat → Prop} {B : Nat} (h : Chg a b ex) (hB : B ≤ a.heap.size) (hx : ∀ k, ex k → B ≤ k) : Below B a b :=
  ⟨h.os, h.tape, h.output, h.size, fun k hk => h.block k (Nat.lt_of_lt_of_le hk hB) (fun e => by have := hx k e; omega)⟩
theorem Chg.ofBelow {a b : World} (ex : Nat → Prop) (h : Below a.heap.size a b) : Chg a b ex := ⟨h.os, h.tape, h.output, h.size, fun k hk _ => h.block k hk⟩

theorem Tryz.info45 : (Tryz.prog.info? 92).map (fun i => (i.zero, i.size, i.bytes)) = some (some (.agg #[.string ⟨#[]⟩, .slice none 0 0]), 2, 40) := by kernel_rfl
theorem Tryz.info87 : (Tryz.prog.info? 166).map (fun i => (i.zero, i.size, i.bytes)) = some (some (.agg #[.string ⟨#[]⟩, .int .i64 0]), 2, 24) := by kernel_rfl
theorem Tryz.info48 : (Tryz.prog.info? 136).map (fun i => (i.zero, i.size, i.bytes)) = some (some (.agg #[.string ⟨#[]⟩, .slice none 0 0, .slice none 0 0]), 3, 64) := by kernel_rfl

theorem heap_set {w : World} {b : Nat} {c : Array Value} {t : TypeId} {fz : Nat × Nat} (h : w.heap[b]? = some (Obj.cells c t fz)) (o : Nat) (v : Value) : (w.setCell ⟨b, o, none⟩ v).heap[b]? = some (Obj.cells (c.setIfInBounds o v) t fz) := by
  simp [World.setCell, Array.getElem?_modify, h]

theorem owns_ne {w : World} {b e size n : Nat} {v : Value} {xs : List Value} (h : w.ownsRow b e size v n xs) {k : Nat} {c : Array Value} {u : TypeId} {fz : Nat × Nat} (hk : w.heap[k]? = some (Obj.cells c u fz)) (hne : u ≠ e) : ∀ g, v.ownBlock = some g → g ≠ k := by
  intro g hg e'
  obtain ⟨_, ⟨hv, hn⟩ | ⟨g', cap, cur, hv, _, hw, _⟩⟩ := h
  · rw [hv] at hg; simp [Value.ownBlock] at hg
  · rw [hv] at hg; simp [Value.ownBlock] at hg; rw [hg, e', hk] at hw; simp at hw; exact hne hw.2.1

theorem owns_set {w : World} {b e size n : Nat} {v : Value} {xs : List Value} (h : w.ownsRow b e size v n xs) (a : Addr) (u : Value) (hne : ∀ g, v.ownBlock = some g → g ≠ a.block) : (w.setCell a u).ownsRow b e size v n xs :=
  owns_kept h (fun g c hg hc => (Below.heap_setCell w a u g (hne g hg)).trans hc)

theorem fin_two {w w1 : World} {bp n b e size : Nat} {st' : Int} {C Z : Array Value} {v' : Value} {j : Nat} {xs : List Value} {ex : Nat → Prop} (he : 179 ≠ e) (hx : ex bp) (hh : w1.heap[bp]? = some (Obj.cells C 179 (0, 0)))
    (hz : (C.setIfInBounds j v').setIfInBounds 0 (.int .i64 st') = Z) (ho : w1.ownsRow b e size v' n xs) (hc : Chg w w1 ex) :
    ((w1.setCell ⟨bp, j, none⟩ v').setCell ⟨bp, 0, none⟩ (.int .i64 st')).heap[bp]? = some (Obj.cells Z 179 (0, 0)) ∧
    ((w1.setCell ⟨bp, j, none⟩ v').setCell ⟨bp, 0, none⟩ (.int .i64 st')).ownsRow b e size v' n xs ∧ Chg w ((w1.setCell ⟨bp, j, none⟩ v').setCell ⟨bp, 0, none⟩ (.int .i64 st')) ex := by
  refine ⟨by rw [← hz]; exact heap_set (heap_set hh j v') 0 _, ?_, (hc.setCell _ _ (fun _ => hx)).setCell _ _ (fun _ => hx)⟩
  exact owns_set (owns_set ho _ _ (owns_ne ho hh he)) _ _ (owns_ne ho hh he)

theorem clone_any (s : ByteArray) (w : World) (hs : s.size ≤ 1000000) :
    Calls Tryz.prog 97 #[.string s] w fun e w' => e = .returned (.string s) ∧ Below w.heap.size w w' := by
  have h := fun W => Tryz.stringslite_Clone s W (by omega)
  go_enter Tryz.func97, Tryz.ntmps97
  go_wp2_with (go_at_call 162; refine (h _).mono ?_; rintro e w' ⟨rfl, hb⟩)
  go_ret
  exact ⟨rfl, hb⟩

set_option maxRecDepth 100000 in
set_option maxHeartbeats 2000000 in
theorem addWord_atom (bp : Nat) (st : Int) (vr va vv : Value) (n b45 : Nat) (xs : List Value) (k : Int) (t : ByteArray) (p r : Int) (hst : st ≠ 3) (hn : n ≤ 1000) (ht : t.size ≤ 1000000) (w : World) (hb45 : b45 ≤ w.heap.size)
    (hh : w.heap[bp]? = some (Obj.cells #[.int .i64 st, vr, va, vv] 179 (0, 0))) (hown : w.ownsRow b45 92 2 va n xs) :
    Calls Tryz.prog 233 #[.pointer (some ⟨bp, 0, none⟩), tokV k t p r] w fun e w' => e = .returned (.tuple #[]) ∧
      ∃ v', w'.heap[bp]? = some (Obj.cells #[.int .i64 2, vr, v', vv] 179 (0, 0)) ∧ w'.ownsRow b45 92 2 v' (n + 1) (xs ++ [.string t, .slice none 0 0]) ∧ Chg w w' (fun j => j = bp ∨ some j = va.ownBlock) := by
  have hbp : bp < w.heap.size := (Array.getElem?_eq_some_iff.1 hh).1
  have h0 : w.cell? ⟨bp, 0, none⟩ = some (.int .i64 st) := by simp [World.cell?, hh]
  have h2 : w.cell? ⟨bp, 2, none⟩ = some va := by simp [World.cell?, hh]
  have hst' : (st == 3) = false := by simp [hst]
  obtain ⟨i0, hi, hz0, hz1, hz2⟩ := info_parts Tryz.info45
  unfold tokV tokC
  obtain ⟨a, c, rfl⟩ : ∃ a c, va = .slice a n c := by
    obtain ⟨_, ⟨hv, hn⟩ | ⟨g, cap, cur, hv, _⟩⟩ := hown
    · exact ⟨none, 0, by rw [hv, hn]⟩
    · exact ⟨_, _, hv⟩
  have hbne : ∀ g, (Value.slice a n c).ownBlock = some g → g ≠ bp := owns_ne hown hh (by decide)
  obtain ⟨W0, hW0⟩ : ∃ W0, (w.alloc (.cells #[.int .i64 k, .string t, .int .i64 p, .int .i64 r] 191)).drew = W0 := ⟨_, rfl⟩
  have hb0 : Below w.heap.size w W0 := by rw [← hW0]; exact ((Below.refl _ w).alloc (Nat.le_refl _) _).drew
  have hs0 : W0.heap.size = w.heap.size + 1 := by rw [← hW0]; show (w.alloc _).heap.size = _; simp
  have hcl : Hid (∀ W, Calls Tryz.prog 97 #[.string t] W fun e w' => e = .returned (.string t) ∧ Below W.heap.size W w') := fun W => clone_any t W ht
  -- behind the copy
  have hS : Hid (∀ W1, Below W0.heap.size W0 W1 → W1.cell? ⟨bp, 0, none⟩ = some (.int .i64 st) ∧ W1.cell? ⟨bp, 2, none⟩ = some (.slice a n c) ∧ W1.heap.size ≠ bp ∧ W1.ownsRow b45 92 2 (.slice a n c) n xs ∧ b45 ≤ W1.heap.size) := by
    intro W1 h1
    have hb : Below w.heap.size w W1 := hb0.trans (h1.mono (by omega))
    have hsz := hb.size
    exact ⟨(hb.cell (p := ⟨bp, 0, none⟩) hbp).trans h0, (hb.cell (p := ⟨bp, 2, none⟩) hbp).trans h2, by omega, own_below hown hb, by omega⟩
  have hG : Hid (∀ W1 O w1, Below W0.heap.size W0 W1 → (W1.alloc O).grownBy w1 (Value.slice a n c).ownBlock →
      w1.heap[bp]? = some (Obj.cells #[.int .i64 st, vr, .slice a n c, vv] 179 (0, 0)) ∧ Chg w w1 (fun j => j = bp ∨ some j = (Value.slice a n c).ownBlock)) := by
    intro W1 O w1 h1 hg
    have hb : Below w.heap.size w W1 := hb0.trans (h1.mono (by omega))
    have hc : Chg w w1 (fun j => some j = (Value.slice a n c).ownBlock) := ((Chg.ofBelow _ hb).alloc _).grown hg (fun k e _ => e.symm)
    exact ⟨(hc.block bp hbp (fun e => hbne bp e.symm rfl)).trans hh, hc.mono (fun _ _ e => .inr e)⟩
  have h1c : ∀ u ∈ [Value.string t, .slice none 0 0], u.oneCell' = true := by simp [Value.oneCell']
  have hb1 : n + 1 ≤ maxLen := by unfold maxLen; omega
  have hb2 : (n + 1) * 40 ≤ 140737488355328 := by omega
  obtain ⟨z0, z2, zne, _, _⟩ := hS.out W0 (Below.refl _ _)
  have zne2 := zne.symm
  have zt : W0.cell? ⟨w.heap.size, 1, none⟩ = some (.string t) := by rw [← hW0]; simp
  clear hh hb0 hs0 hown
  go_enter Tryz.func233, Tryz.ntmps233
  go_wp2
  go_region_law (first | (refine step_append_own rfl (.tmp 31) (.tmp 36) 134 rfl b45 92 i0 (.agg #[.string ⟨#[]⟩, .slice none 0 0]) 2 40 Tryz.underlying134 hi hz0 hz1 hz2 rfl (by decide) (.slice a n c) n xs (by simp [Act.eval, Act.put]) (World.ownsRow.alloc (hS.out W1 hbW).2.2.2.1 _) ⟨W1.heap.size, 0, none⟩ 1 1 [.string t, .slice none 0 0] (by simp [Act.eval, Act.put]) rfl (cell_two_new W1 (.string t) (.slice none 0 0) 92) h1c hb1 hb2 (by have := (hS.out W1 hbW).2.2.2.2; simp; omega) ?_; intro v' w1 hown1 hgrow1; obtain ⟨g', cap', hv'⟩ := ownsRow_succ hown1; subst hv'; obtain ⟨hhw, hch⟩ := hG.out W1 _ w1 hbW hgrow1; have c0 : w1.cell? ⟨bp, 0, none⟩ = some (.int .i64 st) := (by simp [World.cell?, hhw]); have c2 : w1.cell? ⟨bp, 2, none⟩ = some (.slice a n c) := (by simp [World.cell?, hhw]); have f0 : w1.frozen? ⟨bp, 0, none⟩ = false := (by simp [World.frozen?, hhw]); have f2 : w1.frozen? ⟨bp, 2, none⟩ = false := (by simp [World.frozen?, hhw])) | (go_simp; go_wp2_with (go_at_call 97; refine (hcl.out _).mono ?_; rintro e W1 ⟨rfl, hbW⟩; obtain ⟨k0, k2, kne, _, _⟩ := hS.out W1 hbW; have kne2 := kne.symm; have ka2 : ∀ O, (W1.alloc O).cell? ⟨bp, 2, none⟩ = some (.slice a n c) := fun O => cell_later ((Below.refl W1.heap.size W1).alloc (Nat.le_refl _) O) k2)))
  all_goals
    go_wp2
    go_end0
    exact ⟨rfl, .slice (some ⟨g', 0, none⟩) (n + 1) cap', fin_two (Z := #[.int .i64 2, vr, .slice (some ⟨g', 0, none⟩) (n + 1) cap', vv]) (by decide) (.inl rfl) hhw rfl hown1 hch⟩

theorem row_last {W : World} {b e n : Nat} {v : Value} {ys : List Value} {x y : Value} (h : W.ownsRow b e 2 v n (ys ++ [x, y])) (hn : 1 ≤ n) :
    ∃ g c cur, v = .slice (some ⟨g, 0, none⟩) n c ∧ W.heap[g]? = some (Obj.cells cur e (0, 0)) ∧ b ≤ g ∧ (n - 1) * 2 + 1 < cur.size ∧ cur[(n - 1) * 2 + 1]? = some y ∧ cur.toList.take (n * 2) = ys ++ [x, y] ∧ ys.length = (n - 1) * 2 := by
  obtain ⟨hl, ⟨_, h0⟩ | ⟨g, cap, cur, hv, hb, hw, h1, h2, h3, h4⟩⟩ := h
  · omega
  · simp at hl
    have hlt : (n - 1) * 2 + 1 < cur.size := by rw [h3]; omega
    refine ⟨g, cap, cur, hv, hw, hb, hlt, ?_, h4, by omega⟩
    have : (cur.toList.take (n * 2))[(n - 1) * 2 + 1]? = some y := by
      rw [h4, List.getElem?_append_right (by omega)]
      rw [show (n - 1) * 2 + 1 - ys.length = 1 by omega]; rfl
    rw [List.getElem?_take] at this
    split at this
    · simpa using this
    · cases this

theorem row_set_last {W : World} {b e n : Nat} {v : Value} {ys : List Value} {x y z : Value} (h : W.ownsRow b e 2 v n (ys ++ [x, y])) (hn : 1 ≤ n) {g : Nat} (hg : v.ownBlock = some g) :
    (W.setCell ⟨g, (n - 1) * 2 + 1, none⟩ z).ownsRow b e 2 v n (ys ++ [x, z]) := by
  obtain ⟨g', c, cur, hv, hw, hb, hlt, hy, ht, hl⟩ := row_last h hn
  rw [hv] at hg; simp [Value.ownBlock] at hg; subst hg
  obtain ⟨h0, ⟨hv', _⟩ | ⟨g2, cap2, cur2, hv2, hb2, hw2, h1, h2, h3, h4⟩⟩ := h
  · rw [hv] at hv'; cases hv'
  · rw [hv] at hv2; cases hv2
    rw [hw] at hw2; cases hw2
    refine ⟨by simpa using h0, .inr ⟨g', c, cur.setIfInBounds ((n - 1) * 2 + 1) z, hv, hb, heap_set hw _ _, h1, h2, by simpa using h3, ?_⟩⟩
    rw [Array.toList_setIfInBounds, List.take_set, ht]
    rw [List.set_append_right _ _ (by omega), show (n - 1) * 2 + 1 - ys.length = 1 by omega]
    rfl

end Go.Proofs.YtjajnhemgphefaaGreatDoor

namespace Go.Proofs.YtjajnhemgphefaaGreatDoor
open Go.RowKit Go.Shelf
set_option linter.unusedVariables false
set_option linter.unusedSimpArgs false

theorem isVariable_any (t : Tm) (w : World) :
    Calls Tryz.prog 139 #[.agg #[.string t.name, .int .i64 t.num]] w fun e w' => e = .returned (.bool t.name.toList.isEmpty) ∧ Below w.heap.size w w' := by
  go_enter Tryz.func139, Tryz.ntmps139
  go_wp2
  go_ret
  exact ⟨rfl, (Below.refl _ w).alloc (Nat.le_refl _) _⟩

theorem owns_form0 {W : World} {b e size n : Nat} {v : Value} {xs : List Value} (h : W.ownsRow b e size v n xs) : ∃ a c, v = .slice a n c := by
  obtain ⟨_, ⟨hv, hn⟩ | ⟨g, cap, cur, hv, _⟩⟩ := h
  · exact ⟨none, 0, by rw [hv, hn]⟩
  · exact ⟨_, _, hv⟩

/-- The library's index, as the document counts. -/
theorem idx_seen (vs : List ByteArray) (x : ByteArray) : (Lib.idxOfS vs x < 0 ∧ seenN vs x = vs.length) ∨ (Lib.idxOfS vs x = (seenN vs x : Int) ∧ seenN vs x < vs.length) := by
  have key : ∀ (vs : List ByteArray) (i : Nat), (Lib.idxFromS vs x i < 0 ∧ seenN vs x = vs.length) ∨ (Lib.idxFromS vs x i = ((i + seenN vs x : Nat) : Int) ∧ seenN vs x < vs.length) := by
    intro vs
    induction vs with
    | nil => intro i; left; simp [Lib.idxFromS, seenN]
    | cons y vs ih =>
      intro i
      by_cases hy : y = x
      · right
        subst hy
        have h1 : sameB y y = true := by unfold sameB; simp
        simp [Lib.idxFromS, seenN, List.findIdx_cons, h1]
      · have h1 : sameB x y = false := by
          cases h : sameB x y with
          | false => rfl
          | true => exact absurd ((sameB_iff x y).1 h).symm hy
        rcases ih (i + 1) with ⟨h2, h3⟩ | ⟨h2, h3⟩
        · left
          refine ⟨by simp only [Lib.idxFromS, if_neg hy]; exact h2, ?_⟩
          unfold seenN at h3 ⊢
          simp [List.findIdx_cons, h1, h3]
        · right
          refine ⟨?_, ?_⟩
          · simp only [Lib.idxFromS, if_neg hy]; rw [h2]
            unfold seenN
            simp [List.findIdx_cons, h1]; omega
          · unfold seenN at h3 ⊢
            rw [List.findIdx_cons, h1]; simp only [cond_false, List.length_cons]; omega
  rcases key vs 0 with h | ⟨h1, h2⟩
  · left; exact h
  · right; exact ⟨by unfold Lib.idxOfS; rw [h1]; simp, h2⟩

set_option maxHeartbeats 2000000 in
theorem term_name (bp : Nat) (t : ByteArray) (p r : Int) (ht : t.size ≤ 1000000) (w : World) :
    Calls Tryz.prog 261 #[.pointer (some ⟨bp, 0, none⟩), tokV 1 t p r] w fun e w' => e = .returned (.agg #[.string t, .int .i64 0]) ∧ Below w.heap.size w w' := by
  have hcl : Hid (∀ W, Calls Tryz.prog 97 #[.string t] W fun e w' => e = .returned (.string t) ∧ Below W.heap.size W w') := fun W => clone_any t W ht
  unfold tokV tokC
  obtain ⟨W0, hW0⟩ : ∃ W0, (w.alloc (.cells #[.int .i64 1, .string t, .int .i64 p, .int .i64 r] 191)).alloc (.cells #[.string ⟨#[]⟩, .int .i64 0] 166) = W0 := ⟨_, rfl⟩
  have hb0 : Below w.heap.size w W0 := by rw [← hW0]; exact ((Below.refl _ w).alloc (Nat.le_refl _) _).alloc (by simp) _
  have hbx : W0.heap[w.heap.size + 1]? = some (Obj.cells #[.string ⟨#[]⟩, .int .i64 0] 166 (0, 0)) := by
    rw [← hW0]
    have := World.alloc_heap_new (w.alloc (.cells #[.int .i64 1, .string t, .int .i64 p, .int .i64 r] 191)) (.cells #[.string ⟨#[]⟩, .int .i64 0] 166)
    rw [World.size_alloc] at this; exact this
  have hS : Hid (∀ W1, Below W0.heap.size W0 W1 → W1.heap[w.heap.size + 1]? = some (Obj.cells #[.string ⟨#[]⟩, .int .i64 0] 166 (0, 0)) ∧ Below w.heap.size w W1) := fun W1 h1 =>
    ⟨(h1.block _ (Array.getElem?_eq_some_iff.1 hbx).1).trans hbx, hb0.trans (h1.mono hb0.size)⟩
  have z0 : W0.cell? ⟨w.heap.size, 0, none⟩ = some (.int .i64 1) := by rw [← hW0]; simp
  have z1 : W0.cell? ⟨w.heap.size, 1, none⟩ = some (.string t) := by rw [← hW0]; simp
  go_enter Tryz.func261, Tryz.ntmps261
  go_wp2_with (go_at_call 97; refine (hcl.out _).mono ?_; rintro e W1 ⟨rfl, hbW⟩; obtain ⟨kx, kb⟩ := hS.out W1 hbW; have k0 : W1.cell? ⟨w.heap.size + 1, 0, none⟩ = some (.string ⟨#[]⟩) := (by simp [World.cell?, kx]); have k1 : W1.cell? ⟨w.heap.size + 1, 1, none⟩ = some (.int .i64 0) := (by simp [World.cell?, kx]); have f0 : W1.frozen? ⟨w.heap.size + 1, 0, none⟩ = false := (by simp [World.frozen?, kx]); have f1 : W1.frozen? ⟨w.heap.size + 1, 1, none⟩ = false := (by simp [World.frozen?, kx]))
  (try simp only [Exit.inBlock, Exit.then])
  refine bodyPost_ret (v := .agg #[.string t, .int .i64 0]) (by simp [results, Tryz.results261, go_sem, k0, k1]) rfl ?_
  exact ⟨rfl, (kb.setCell (p := ⟨w.heap.size + 1, 0, none⟩) (by simp) _).setCell (p := ⟨w.heap.size + 1, 1, none⟩) (by simp) _⟩

set_option maxRecDepth 100000 in
set_option maxHeartbeats 4000000 in
theorem term_var (bp : Nat) (st : Int) (vr va vv : Value) (vs : List ByteArray) (bS : Nat) (k : Int) (t : ByteArray) (p r : Int) (hk : k ≠ 1) (hl : vs.length ≤ 100) (w : World) (hbS : bS ≤ w.heap.size)
    (hh : w.heap[bp]? = some (Obj.cells #[.int .i64 st, vr, va, vv] 179 (0, 0))) (hV : w.ownsRow bS 9 1 vv vs.length (vs.map Value.string)) :
    Calls Tryz.prog 261 #[.pointer (some ⟨bp, 0, none⟩), tokV k t p r] w fun e w' => e = .returned (.agg #[.string ⟨#[]⟩, .int .i64 (seenN vs t)]) ∧
      ∃ vv', w'.heap[bp]? = some (Obj.cells #[.int .i64 st, vr, va, vv'] 179 (0, 0)) ∧ w'.ownsRow bS 9 1 vv' (seenL vs t).length ((seenL vs t).map Value.string) ∧ Chg w w' (fun j => j = bp ∨ some j = vv.ownBlock) := by
  have hbp : bp < w.heap.size := (Array.getElem?_eq_some_iff.1 hh).1
  have hk' : (k == 1) = false := by simp [hk]
  obtain ⟨a, c, rfl⟩ := owns_form0 hV
  have hbne : ∀ g, (Value.slice a vs.length c).ownBlock = some g → g ≠ bp := owns_ne hV hh (by decide)
  obtain ⟨i0, hi, hz0, hz1, hz2⟩ := info_parts Tryz.info9
  unfold tokV tokC
  obtain ⟨W0, hW0⟩ : ∃ W0, (w.alloc (.cells #[.int .i64 k, .string t, .int .i64 p, .int .i64 r] 191)).alloc (.cells #[.string ⟨#[]⟩, .int .i64 0] 166) = W0 := ⟨_, rfl⟩
  have hb0 : Below w.heap.size w W0 := by rw [← hW0]; exact ((Below.refl _ w).alloc (Nat.le_refl _) _).alloc (by simp) _
  have hs0 : W0.heap.size = w.heap.size + 2 := by rw [← hW0]; simp
  have hbx : W0.heap[w.heap.size + 1]? = some (Obj.cells #[.string ⟨#[]⟩, .int .i64 0] 166 (0, 0)) := by
    rw [← hW0]
    have := World.alloc_heap_new (w.alloc (.cells #[.int .i64 k, .string t, .int .i64 p, .int .i64 r] 191)) (.cells #[.string ⟨#[]⟩, .int .i64 0] 166)
    rw [World.size_alloc] at this; exact this
  have z0 : W0.cell? ⟨w.heap.size, 0, none⟩ = some (.int .i64 k) := by rw [← hW0]; simp
  have z1 : W0.cell? ⟨w.heap.size, 1, none⟩ = some (.string t) := by rw [← hW0]; simp
  have h30 : w.cell? ⟨bp, 3, none⟩ = some (.slice a vs.length c) := by simp [World.cell?, hh]
  have h3 : W0.cell? ⟨bp, 3, none⟩ = some (.slice a vs.length c) := (hb0.cell (p := ⟨bp, 3, none⟩) hbp).trans h30
  have r0 : W0.cell? ⟨w.heap.size + 1, 0, none⟩ = some (.string ⟨#[]⟩) := by simp [World.cell?, hbx]
  have r1 : W0.cell? ⟨w.heap.size + 1, 1, none⟩ = some (.int .i64 0) := by simp [World.cell?, hbx]
  have f0 : W0.frozen? ⟨w.heap.size + 1, 0, none⟩ = false := by simp [World.frozen?, hbx]
  have f1 : W0.frozen? ⟨w.heap.size + 1, 1, none⟩ = false := by simp [World.frozen?, hbx]
  have hVd : W0.drew.ownsRow bS 9 1 (.slice a vs.length c) vs.length (vs.map Value.string) := own_below hV (hb0.drew)
  have hidx : Hid (Calls Tryz.prog 191 #[.slice a vs.length c, .string t] W0.drew fun e w' => e = .returned (.int .i64 (Lib.idxOfS vs t)) ∧ w' = W0.drew) := index_own hVd (by omega) t
  have hbpd : W0.heap[bp]? = some (Obj.cells #[.int .i64 st, vr, va, .slice a vs.length c] 179 (0, 0)) := (hb0.block bp hbp).trans hh
  rcases idx_seen vs t with ⟨hneg, hsn⟩ | ⟨hpos, hsn⟩
  · have hseen : Hid (seenL vs t = vs ++ [t]) := by show _ = _; unfold seenL; rw [if_neg (by omega)]
    have hfin : Hid (seenN vs t = vs.length) := hsn
    generalize hix : Lib.idxOfS vs t = ix at *
    have hlt : (ix : Int) < 0 := hneg
    have hA : Hid ((W0.alloc (.cells #[.string t] 9)).drew.drew.ownsRow bS 9 1 (.slice a vs.length c) vs.length (vs.map Value.string)) := own_below hV ((hb0.alloc (by omega) _).drew).drew
    have hN : Hid (∀ j u, [Value.string t][j]? = some u → (W0.alloc (.cells #[.string t] 9)).drew.drew.cell? ((⟨W0.heap.size, 0, none⟩ : Addr).add j) = some u) := fun j u hj => cell_one_new W0 _ _ j u hj
    have hG : Hid (∀ w1, (W0.alloc (.cells #[.string t] 9)).drew.drew.grownBy w1 (Value.slice a vs.length c).ownBlock →
        w1.heap[bp]? = some (Obj.cells #[.int .i64 st, vr, va, .slice a vs.length c] 179 (0, 0)) ∧ w1.heap[w.heap.size + 1]? = some (Obj.cells #[.string ⟨#[]⟩, .int .i64 0] 166 (0, 0)) ∧ Chg w w1 (fun j => j = bp ∨ some j = (Value.slice a vs.length c).ownBlock)) := by
      intro w1 hg
      have hc0 : Chg W0 w1 (fun j => some j = (Value.slice a vs.length c).ownBlock) := ((((Chg.refl W0 _).alloc _).drew).drew).grown hg (fun k e _ => e.symm)
      have hc : Chg w w1 (fun j => some j = (Value.slice a vs.length c).ownBlock) := (Chg.ofBelow _ hb0).trans hc0
      refine ⟨(hc.block bp hbp (fun e => hbne bp e.symm rfl)).trans hh, (hc0.block _ (Array.getElem?_eq_some_iff.1 hbx).1 (fun e => ?_)).trans hbx, hc.mono (fun _ _ e => .inr e)⟩
      obtain ⟨_, hlt2, _⟩ := own_str hV _ e.symm
      omega
    have hb1 : vs.length + 1 ≤ maxLen := by unfold maxLen; omega
    have hb2 : (vs.length + 1) * 16 ≤ 140737488355328 := by omega
    have HB3 : Hid (bS ≤ (W0.alloc (.cells #[.string t] 9)).drew.drew.heap.size) := by
      show bS ≤ (W0.alloc (.cells #[.string t] 9)).heap.size
      simp; omega
    have h3a : ∀ O, (W0.alloc O).cell? ⟨bp, 3, none⟩ = some (.slice a vs.length c) := fun O => cell_later ((Below.refl W0.heap.size W0).alloc (Nat.le_refl _) O) h3
    have n1 : w.heap.size + 1 ≠ W0.heap.size := by omega
    have n2 : bp ≠ W0.heap.size := by omega
    have n3 : w.heap.size ≠ W0.heap.size := by omega
    have n4 : w.heap.size + 1 ≠ bp := by omega
    have n5 : bp ≠ w.heap.size + 1 := by omega
    clear hh hb0 hs0 hV hVd hbx h30 hneg hsn hix hbpd
    go_enter Tryz.func261, Tryz.ntmps261
    go_wp2
    go_region_with (go_at_call 191; refine Calls.mono hidx.out ?_; rintro e w' ⟨rfl, rfl⟩)
    all_goals
      go_wp2
      go_region_law (refine step_append_own rfl (.tmp 31) (.tmp 34) 22 rfl bS 9 i0 (.string ⟨#[]⟩) 1 16 Tryz.underlying22 hi hz0 hz1 hz2 rfl (by decide) (.slice a vs.length c) vs.length (vs.map Value.string) (by simp [Act.eval, Act.put]) hA.out ⟨W0.heap.size, 0, none⟩ 1 1 [.string t] (by simp [Act.eval, Act.put]) rfl hN.out (by simp [Value.oneCell']) hb1 hb2 HB3.out ?_; intro v' w1 hown1 hgrow1; obtain ⟨g', cap', hv'⟩ := ownsRow_succ hown1; subst hv'; obtain ⟨hhw, hxw, hch⟩ := hG.out w1 hgrow1; have d3 : w1.cell? ⟨bp, 3, none⟩ = some (.slice a vs.length c) := (by simp [World.cell?, hhw]); have e3 : w1.frozen? ⟨bp, 3, none⟩ = false := (by simp [World.frozen?, hhw]); have q0 : w1.cell? ⟨w.heap.size + 1, 0, none⟩ = some (.string ⟨#[]⟩) := (by simp [World.cell?, hxw]); have q1 : w1.cell? ⟨w.heap.size + 1, 1, none⟩ = some (.int .i64 0) := (by simp [World.cell?, hxw]); have q2 : w1.frozen? ⟨w.heap.size + 1, 0, none⟩ = false := (by simp [World.frozen?, hxw]); have q3 : w1.frozen? ⟨w.heap.size + 1, 1, none⟩ = false := (by simp [World.frozen?, hxw]))
      all_goals
        go_wp2
        (try simp only [Exit.inBlock, Exit.then])
        refine bodyPost_ret (v := .agg #[.string ⟨#[]⟩, .int .i64 vs.length]) (by simp [results, Tryz.results261, go_sem, q0, q1, n4, n5]) rfl ?_
        rw [hfin.out, hseen.out]
        refine ⟨rfl, .slice (some ⟨g', 0, none⟩) (vs.length + 1) cap', ?_, ?_, ?_⟩
        · exact (Below.heap_setCell _ _ _ _ n5).trans ((Below.heap_setCell _ _ _ _ n5).trans (heap_set hhw 3 _))
        · have := owns_set (owns_set (owns_set hown1 ⟨bp, 3, none⟩ (.slice (some ⟨g', 0, none⟩) (vs.length + 1) cap') (owns_ne hown1 hhw (by decide))) ⟨w.heap.size + 1, 0, none⟩ (.string ⟨#[]⟩) (owns_ne hown1 hxw (by decide))) ⟨w.heap.size + 1, 1, none⟩ (.int .i64 vs.length) (owns_ne hown1 hxw (by decide))
          simpa using this
        · exact ((hch.setCell ⟨bp, 3, none⟩ _ (fun _ => .inl rfl)).setCell ⟨w.heap.size + 1, 0, none⟩ _ (fun h => absurd h (by simp))).setCell ⟨w.heap.size + 1, 1, none⟩ _ (fun h => absurd h (by simp))
  · have hseen : Hid (seenL vs t = vs) := by show _ = _; unfold seenL; rw [if_pos hsn]
    rw [hpos] at hidx
    generalize seenN vs t = sn at *
    have n5 : bp ≠ w.heap.size + 1 := by omega
    have hbE : Below w.heap.size w ((W0.drew.setCell ⟨w.heap.size + 1, 0, none⟩ (.string ⟨#[]⟩)).setCell ⟨w.heap.size + 1, 1, none⟩ (.int .i64 sn)) := (hb0.drew.setCell (p := ⟨w.heap.size + 1, 0, none⟩) (by simp) _).setCell (p := ⟨w.heap.size + 1, 1, none⟩) (by simp) _
    have HOW : Hid (((W0.drew.setCell ⟨w.heap.size + 1, 0, none⟩ (.string ⟨#[]⟩)).setCell ⟨w.heap.size + 1, 1, none⟩ (.int .i64 sn)).ownsRow bS 9 1 (.slice a vs.length c) vs.length (vs.map Value.string)) := own_below hV hbE
    have HCH : Hid (Chg w ((W0.drew.setCell ⟨w.heap.size + 1, 0, none⟩ (.string ⟨#[]⟩)).setCell ⟨w.heap.size + 1, 1, none⟩ (.int .i64 sn)) (fun j => j = bp ∨ some j = (Value.slice a vs.length c).ownBlock)) := Chg.ofBelow _ hbE
    clear hbE
    clear hh hb0 hs0 hV hVd hbx h30 hpos
    go_enter Tryz.func261, Tryz.ntmps261
    go_wp2
    go_region_with (go_at_call 191; refine Calls.mono hidx.out ?_; rintro e w' ⟨rfl, rfl⟩)
    all_goals
      go_wp2
      (try simp only [Exit.inBlock, Exit.then])
      refine bodyPost_ret (v := .agg #[.string ⟨#[]⟩, .int .i64 sn]) (by simp [results, Tryz.results261, go_sem, r0, r1]) rfl ?_
      rw [hseen.out]
      refine ⟨rfl, .slice a vs.length c, ?_, ?_, ?_⟩
      · exact (Below.heap_setCell _ _ _ _ n5).trans ((Below.heap_setCell _ _ _ _ n5).trans hbpd)
      · exact HOW.out
      · exact HCH.out

theorem fin_term {w w3 : World} {bp g n b45 b87 bS k kv c : Nat} {vr v' vv : Value} {cur : Array Value} {ys zs us : List Value} {rel y : Value} {ex : Nat → Prop} (hn : 1 ≤ n)
    (hh : w3.heap[bp]? = some (Obj.cells #[.int .i64 3, vr, .slice (some ⟨g, 0, none⟩) n c, vv] 179 (0, 0))) (hg : w3.heap[g]? = some (Obj.cells cur 92 (0, 0)))
    (hoA : w3.ownsRow b45 92 2 (.slice (some ⟨g, 0, none⟩) n c) n (ys ++ [rel, y])) (hoT : w3.ownsRow b87 166 2 v' k zs) (hoV : w3.ownsRow bS 9 1 vv kv us)
    (hc : Chg w w3 (fun j => j = bp ∨ some j = (Value.slice (some ⟨g, 0, none⟩) n c).ownBlock ∨ ex j)) :
    ((w3.setCell ⟨g, (n - 1) * 2 + 1, none⟩ v').setCell ⟨bp, 0, none⟩ (.int .i64 4)).heap[bp]? = some (Obj.cells #[.int .i64 4, vr, .slice (some ⟨g, 0, none⟩) n c, vv] 179 (0, 0)) ∧
    ((w3.setCell ⟨g, (n - 1) * 2 + 1, none⟩ v').setCell ⟨bp, 0, none⟩ (.int .i64 4)).ownsRow b45 92 2 (.slice (some ⟨g, 0, none⟩) n c) n (ys ++ [rel, v']) ∧
    ((w3.setCell ⟨g, (n - 1) * 2 + 1, none⟩ v').setCell ⟨bp, 0, none⟩ (.int .i64 4)).ownsRow b87 166 2 v' k zs ∧
    ((w3.setCell ⟨g, (n - 1) * 2 + 1, none⟩ v').setCell ⟨bp, 0, none⟩ (.int .i64 4)).ownsRow bS 9 1 vv kv us ∧
    Chg w ((w3.setCell ⟨g, (n - 1) * 2 + 1, none⟩ v').setCell ⟨bp, 0, none⟩ (.int .i64 4)) (fun j => j = bp ∨ some j = (Value.slice (some ⟨g, 0, none⟩) n c).ownBlock ∨ ex j) := by
  have hne : g ≠ bp := owns_ne hoA hh (by decide) g rfl
  refine ⟨heap_set ((Below.heap_setCell _ _ _ bp (fun e => hne e.symm)).trans hh) 0 _, ?_, ?_, ?_, (hc.setCell ⟨g, (n - 1) * 2 + 1, none⟩ v' (fun _ => .inr (.inl rfl))).setCell ⟨bp, 0, none⟩ _ (fun _ => .inl rfl)⟩
  · exact owns_set (row_set_last hoA hn rfl) _ _ (fun g' hg' => by simp [Value.ownBlock] at hg'; subst hg'; exact hne)
  · exact owns_set (owns_set hoT _ _ (owns_ne hoT hg (by decide))) _ _ (owns_ne hoT hh (by decide))
  · exact owns_set (owns_set hoV _ _ (owns_ne hoV hg (by decide))) _ _ (owns_ne hoV hh (by decide))

/-- term, whatever the word. -/
theorem term_any (bp : Nat) (st : Int) (vr va vv : Value) (vs : List ByteArray) (bS : Nat) (k : Int) (t : ByteArray) (p r : Int) (hk : k = 1 ∨ k = 2) (ht : t.size ≤ 1000000) (hl : vs.length ≤ 100) (w : World) (hbS : bS ≤ w.heap.size)
    (hh : w.heap[bp]? = some (Obj.cells #[.int .i64 st, vr, va, vv] 179 (0, 0))) (hV : w.ownsRow bS 9 1 vv vs.length (vs.map Value.string)) :
    Calls Tryz.prog 261 #[.pointer (some ⟨bp, 0, none⟩), tokV k t p r] w fun e w' => e = .returned (.agg #[.string (termT vs k t).name, .int .i64 (termT vs k t).num]) ∧
      ∃ vv', w'.heap[bp]? = some (Obj.cells #[.int .i64 st, vr, va, vv'] 179 (0, 0)) ∧ w'.ownsRow bS 9 1 vv' (termVs vs k t).length ((termVs vs k t).map Value.string) ∧ Chg w w' (fun j => j = bp ∨ some j = vv.ownBlock) := by
  rcases hk with rfl | rfl
  · refine (term_name bp t p r ht w).mono ?_
    rintro e w' ⟨rfl, hb⟩
    exact ⟨rfl, vv, (hb.block bp (Array.getElem?_eq_some_iff.1 hh).1).trans hh, own_below hV hb, Chg.ofBelow _ hb⟩
  · exact term_var bp st vr va vv vs bS 2 t p r (by decide) hl w hbS hh hV

end Go.Proofs.YtjajnhemgphefaaGreatDoor
