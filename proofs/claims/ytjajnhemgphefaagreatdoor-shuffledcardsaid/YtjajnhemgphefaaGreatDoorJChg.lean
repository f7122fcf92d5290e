/-
  The parser's methods: what each does to the parser's memory, said of the state that it stands for.
  slices.Index and slices.Contains over a row of strings, in the words of the document's own answer.
  What a call may change: 'Chg w w' ex': every block of w that 'ex' does not name lies in w' as it lay. It chains.
-/
import Derived.Test.YtjajnhemgphefaaGreatDoorJPDef
import Derived.BigQuiet
import Derived.BigRegion
namespace Go.Proofs.YtjajnhemgphefaaGreatDoor
open Go.RowKit Go.Shelf
set_option linter.unusedVariables false
set_option linter.unusedSimpArgs false

set_option maxHeartbeats 1000000 in
theorem fits_any (bp : Nat) (st k : Int) (w : World) (hc : w.cell? ⟨bp, 0, none⟩ = some (.int .i64 st)) :
    Calls Tryz.prog 195 #[.pointer (some ⟨bp, 0, none⟩), .int .i64 k] w fun e w' => e = .returned (.bool (fitsB st k)) ∧ w' = w := by
  go_enter Tryz.func195, Tryz.ntmps195
  go_wp2
  all_goals
    go_ret
    exact ⟨ret_bool (by simp_all [fitsB]), rfl⟩

set_option maxHeartbeats 400000 in
theorem endAtom_any (bp : Nat) (st : Int) (vr vv : Value) (a : Option Addr) (n c : Nat) (w : World) (hh : w.heap[bp]? = some (Obj.cells #[.int .i64 st, vr, .slice a n c, vv] 179 (0, 0))) :
    Calls Tryz.prog 234 #[.pointer (some ⟨bp, 0, none⟩)] w fun e w' => e = .returned (.tuple #[]) ∧ w' = w.setCell ⟨bp, 0, none⟩ (.int .i64 (if n = 1 then 5 else 6)) := by
  have h0 : w.cell? ⟨bp, 0, none⟩ = some (.int .i64 st) := by simp [World.cell?, hh]
  have h2 : w.cell? ⟨bp, 2, none⟩ = some (.slice a n c) := by simp [World.cell?, hh]
  have hf : w.frozen? ⟨bp, 0, none⟩ = false := by simp [World.frozen?, hh]
  clear hh
  by_cases hn : n = 1
  · subst hn
    go_enter Tryz.func234, Tryz.ntmps234
    go_wp2
    go_end0
    exact ⟨rfl, rfl⟩
  · have e1 : ((n : Int) == 1) = false := by simp; omega
    go_enter Tryz.func234, Tryz.ntmps234
    go_wp2
    go_end0
    exact ⟨rfl, rfl⟩

set_option maxHeartbeats 400000 in
theorem addComma_any (bp : Nat) (st : Int) (vr va vv : Value) (w : World) (hh : w.heap[bp]? = some (Obj.cells #[.int .i64 st, vr, va, vv] 179 (0, 0))) :
    Calls Tryz.prog 235 #[.pointer (some ⟨bp, 0, none⟩)] w fun e w' => e = .returned (.tuple #[]) ∧ w' = w.setCell ⟨bp, 0, none⟩ (.int .i64 (if st = 4 then 3 else 1)) := by
  have h0 : w.cell? ⟨bp, 0, none⟩ = some (.int .i64 st) := by simp [World.cell?, hh]
  have hf : w.frozen? ⟨bp, 0, none⟩ = false := by simp [World.frozen?, hh]
  clear hh
  by_cases hn : st = 4
  · subst hn
    go_enter Tryz.func235, Tryz.ntmps235
    go_wp2
    go_end0
    exact ⟨rfl, rfl⟩
  · have e1 : (st == 4) = false := by simp [hn]
    go_enter Tryz.func235, Tryz.ntmps235
    go_wp2
    go_end0
    exact ⟨rfl, rfl⟩

set_option maxHeartbeats 400000 in
theorem lastAtom_any (bp : Nat) (st : Int) (vr vv : Value) (g n c : Nat) (hn : 1 ≤ n) (hb : n ≤ 1000) (w : World) (hh : w.heap[bp]? = some (Obj.cells #[.int .i64 st, vr, .slice (some ⟨g, 0, none⟩) n c, vv] 179 (0, 0))) :
    Calls Tryz.prog 232 #[.pointer (some ⟨bp, 0, none⟩)] w fun e w' => e = .returned (.pointer (some ⟨g, (n - 1) * 2, none⟩)) ∧ ∃ q, w' = w.drewN q := by
  have h2 : w.cell? ⟨bp, 2, none⟩ = some (.slice (some ⟨g, 0, none⟩) n c) := by simp [World.cell?, hh]
  clear hh
  have i1 : (0 : Int) ≤ (n : Int) - 1 := by omega
  have i2 : (n : Int) - 1 < (n : Int) := by omega
  go_enter Tryz.func232, Tryz.ntmps232
  go_wp2
  go_quiet (fail)
  go_wp2
  go_ret
  exact ⟨rfl, _, rfl⟩

set_option maxHeartbeats 1000000 in
theorem exceeds_any (bp : Nat) (st : Int) (ar : Option Addr) (nr cr : Nat) (aa : Option Addr) (na ca : Nat) (vv : Value) (at' : Option Addr) (m cm : Nat) (k : Int) (t : ByteArray) (p r : Int) (hb : na ≤ 1000) (w : World)
    (hh : w.heap[bp]? = some (Obj.cells #[.int .i64 st, .slice ar nr cr, .slice aa na ca, vv] 179 (0, 0)))
    (hlast : st = 3 → 1 ≤ na ∧ ∃ g, aa = some ⟨g, 0, none⟩ ∧ w.cell? ⟨g, (na - 1) * 2 + 1, none⟩ = some (.slice at' m cm) ∧ g < w.heap.size) :
    Calls Tryz.prog 196 #[.pointer (some ⟨bp, 0, none⟩), tokV k t p r] w fun e w' => e = .returned (.bool (exceedsB st r nr na m)) ∧ ∃ q, w' = (w.alloc (.cells (tokC k t p r) 191)).drewN q := by
  have hbp : bp < w.heap.size := (Array.getElem?_eq_some_iff.1 hh).1
  have h0 : w.cell? ⟨bp, 0, none⟩ = some (.int .i64 st) := by simp [World.cell?, hh]
  have h1 : w.cell? ⟨bp, 1, none⟩ = some (.slice ar nr cr) := by simp [World.cell?, hh]
  have h2 : w.cell? ⟨bp, 2, none⟩ = some (.slice aa na ca) := by simp [World.cell?, hh]
  unfold tokV tokC
  by_cases hr : 8 < r
  · clear hlast hh
    go_enter Tryz.func196, Tryz.ntmps196
    go_wp2
    go_ret
    exact ⟨ret_bool (by simp [exceedsB, hr]), 0, rfl⟩
  · by_cases h3 : st = 3
    · obtain ⟨h1n, g, rfl, hcg, hgw⟩ := hlast h3
      subst h3
      have hh' : (w.alloc (.cells #[.int .i64 k, .string t, .int .i64 p, .int .i64 r] 191)).heap[bp]? = some (Obj.cells #[.int .i64 3, .slice ar nr cr, .slice (some ⟨g, 0, none⟩) na ca, vv] 179 (0, 0)) := by rw [Below.heap_alloc _ _ _ hbp]; exact hh
      have hne : g ≠ w.heap.size := by omega
      have hcg' : (w.alloc (.cells #[.int .i64 k, .string t, .int .i64 p, .int .i64 r] 191)).cell? ⟨g, (na - 1) * 2 + 1, none⟩ = some (.slice at' m cm) := cell_later ((Below.refl w.heap.size w).alloc (Nat.le_refl _) _) hcg
      clear hh hcg
      go_enter Tryz.func196, Tryz.ntmps196
      go_wp2_with (go_at_call 232; refine (lastAtom_any _ _ _ _ _ _ _ h1n hb _ hh').mono ?_; rintro e w' ⟨rfl, q, rfl⟩)
      go_ret
      exact ⟨ret_bool (by rw [Bool.eq_iff_iff]; simp [exceedsB]; omega), _, rfl⟩
    · have h3' : (st == 3) = false := by simp [h3]
      clear hlast hh
      go_enter Tryz.func196, Tryz.ntmps196
      go_wp2
      all_goals
        go_ret
        exact ⟨ret_bool (by rw [Bool.eq_iff_iff]; simp_all [exceedsB] <;> omega), 0, rfl⟩

end Go.Proofs.YtjajnhemgphefaaGreatDoor

namespace Go.Proofs.YtjajnhemgphefaaGreatDoor
open Go.RowKit Go.Shelf
set_option linter.unusedVariables false
set_option linter.unusedSimpArgs false

theorem contains_own {W : World} {b : Nat} {v : Value} {vs : List ByteArray} (h : W.ownsRow b 9 1 v vs.length (vs.map Value.string)) (hl : vs.length ≤ 1000) (x : ByteArray) :
    Calls Tryz.prog 140 #[v, .string x] W fun e w' => e = .returned (.bool (Lib.containsS vs x)) ∧ w' = W := by
  obtain ⟨_, ⟨hv, hn⟩ | ⟨g, cap, cur, hv, hb, hw, h1, h2, h3, h4⟩⟩ := h
  · have : vs = [] := List.eq_nil_of_length_eq_zero hn
    subst this
    rw [hv]
    exact Tryz.slices_Contains_string_empty none 0 x W
  · rw [hv]
    have := Tryz.slices_Contains_string g 0 vs.length cap vs x W (Nat.le_refl _) (by omega) (fun j hj => by
      simp only [World.cell?, hw, Nat.zero_add]
      have h5 : (cur.toList.take (vs.length * 1))[j]? = some (.string (vs.getD j ByteArray.empty)) := by
        rw [h4]; simp [List.getElem?_eq_getElem hj]
      rw [List.getElem?_take, if_pos (by omega)] at h5
      simpa using h5)
    simpa using this

theorem index_own {W : World} {b : Nat} {v : Value} {vs : List ByteArray} (h : W.ownsRow b 9 1 v vs.length (vs.map Value.string)) (hl : vs.length ≤ 1000) (x : ByteArray) :
    Calls Tryz.prog 191 #[v, .string x] W fun e w' => e = .returned (.int .i64 (Lib.idxOfS vs x)) ∧ w' = W := by
  obtain ⟨_, ⟨hv, hn⟩ | ⟨g, cap, cur, hv, hb, hw, h1, h2, h3, h4⟩⟩ := h
  · have : vs = [] := List.eq_nil_of_length_eq_zero hn
    subst this
    rw [hv]
    exact Tryz.slices_Index_string_empty none 0 x W
  · rw [hv]
    have := Tryz.slices_Index_string g 0 vs.length cap vs x W (Nat.le_refl _) (by omega) (fun j hj => by
      simp only [World.cell?, hw, Nat.zero_add]
      have h5 : (cur.toList.take (vs.length * 1))[j]? = some (.string (vs.getD j ByteArray.empty)) := by
        rw [h4]; simp [List.getElem?_eq_getElem hj]
      rw [List.getElem?_take, if_pos (by omega)] at h5
      simpa using h5)
    simpa using this

theorem Tryz.info9 : (Tryz.prog.info? 9).map (fun i => (i.zero, i.size, i.bytes)) = some (some (.string ⟨#[]⟩), 1, 16) := by kernel_rfl

end Go.Proofs.YtjajnhemgphefaaGreatDoor

namespace Go.Proofs.YtjajnhemgphefaaGreatDoor
open Go.RowKit Go.Shelf
set_option linter.unusedVariables false
set_option linter.unusedSimpArgs false

structure Chg (w w' : World) (ex : Nat → Prop) : Prop where
  os : w'.os = w.os
  tape : w'.tape = w.tape
  output : w'.output = w.output
  size : w.heap.size ≤ w'.heap.size
  block : ∀ k, k < w.heap.size → ¬ ex k → w'.heap[k]? = w.heap[k]?

theorem Chg.refl (w : World) (ex : Nat → Prop) : Chg w w ex := ⟨rfl, rfl, rfl, Nat.le_refl _, fun _ _ _ => rfl⟩
theorem Chg.trans {a b c : World} {ex : Nat → Prop} (h : Chg a b ex) (k : Chg b c ex) : Chg a c ex :=
  ⟨k.os.trans h.os, k.tape.trans h.tape, k.output.trans h.output, Nat.le_trans h.size k.size, fun i hi hx => (k.block i (Nat.lt_of_lt_of_le hi h.size) hx).trans (h.block i hi hx)⟩
theorem Chg.mono {a b : World} {ex ex' : Nat → Prop} (h : Chg a b ex) (hx : ∀ k, k < a.heap.size → ex k → ex' k) : Chg a b ex' :=
  ⟨h.os, h.tape, h.output, h.size, fun i hi hn => h.block i hi (fun e => hn (hx i hi e))⟩
theorem Chg.drew {a b : World} {ex : Nat → Prop} (h : Chg a b ex) : Chg a b.drew ex := ⟨h.os, h.tape, h.output, h.size, h.block⟩
theorem Chg.alloc {a b : World} {ex : Nat → Prop} (h : Chg a b ex) (o : Obj) : Chg a (b.alloc o) ex :=
  ⟨h.os, h.tape, h.output, by have := h.size; simp; omega, fun i hi hn => (Below.heap_alloc b o i (Nat.lt_of_lt_of_le hi h.size)).trans (h.block i hi hn)⟩
theorem Chg.setCell {a b : World} {ex : Nat → Prop} (h : Chg a b ex) (p : Addr) (v : Value) (hp : p.block < a.heap.size → ex p.block) : Chg a (b.setCell p v) ex :=
  ⟨h.os, h.tape, h.output, by have := h.size; have e : (b.setCell p v).heap.size = b.heap.size := by simp
                              omega, fun i hi hn => (Below.heap_setCell b p v i (fun e => hn (by rw [e] at hi ⊢; exact hp hi))).trans (h.block i hi hn)⟩
theorem Chg.grown {a b c : World} {ex : Nat → Prop} {row : Option Nat} (h : Chg a b ex) (hg : b.grownBy c row) (hr : ∀ k, row = some k → k < a.heap.size → ex k) : Chg a c ex :=
  ⟨hg.os.trans h.os, hg.tape.trans h.tape, hg.output.trans h.output, Nat.le_trans h.size hg.size,
    fun i hi hn => (hg.block i (Nat.lt_of_lt_of_le hi h.size) (fun e => hn (hr i e.symm hi))).trans (h.block i hi hn)⟩
theorem Chg.below {a b : World} {ex : Nat → Prop} {B : Nat} (h : Chg a b ex) (hB : B ≤ a.heap.size) (hx : ∀ k, ex k → B ≤ k) : Below B a b :=
  ⟨h.os, h.tape, h.output, h.size, fun k hk => h.block k (Nat.lt_of_lt_of_le hk hB) (fun e => by have := hx k e; omega)⟩
theorem Chg.ofBelow {a b : World} (ex : Nat → Prop) (h : Below a.heap.size a b) : Chg a b ex := ⟨h.os, h.tape, h.output, h.size, fun k hk _ => h.block k hk⟩

theorem Tryz.info45 : (Tryz.prog.info? 92).map (fun i => (i.zero, i.size, i.bytes)) = some (some (.agg #[.string ⟨#[]⟩, .slice none 0 0]), 2, 40) := by kernel_rfl
theorem Tryz.info87 : (Tryz.prog.info? 166).map (fun i => (i.zero, i.size, i.bytes)) = some (some (.agg #[.string ⟨#[]⟩, .int .i64 0]), 2, 24) := by kernel_rfl
theorem Tryz.info48 : (Tryz.prog.info? 136).map (fun i => (i.zero, i.size, i.bytes)) = some (some (.agg #[.string ⟨#[]⟩, .slice none 0 0, .slice none 0 0]), 3, 64) := by kernel_rfl

theorem heap_set {w : World} {b : Nat} {c : Array Value} {t : TypeId} {fz : Nat × Nat} (h : w.heap[b]? = some (Obj.cells c t fz)) (o : Nat) (v : Value) : (w.setCell ⟨b, o, none⟩ v).heap[b]? = some (Obj.cells (c.setIfInBounds o v) t fz) := by
  simp [World.setCell, Array.getElem?_modify, h]

theorem owns_ne {w : World} {b e size n : Nat} {v : Value} {xs : List Value} (h : w.ownsRow b e size v n xs) {k : Nat} {c : Array Value} {u : TypeId} {fz : Nat × Nat} (hk : w.heap[k]? = some (Obj.cells c u fz)) (hne : u ≠ e) : ∀ g, v.ownBlock = some g → g ≠ k := by
  intro g hg e'
  obtain ⟨_, ⟨hv, hn⟩ | ⟨g', cap, cur, hv, _, hw, _⟩⟩ := h
  · rw [hv] at hg; simp [Value.ownBlock] at hg
  · rw [hv] at hg; simp [Value.ownBlock] at hg; rw [hg, e', hk] at hw; simp at hw; exact hne hw.2.1

theorem owns_set {w : World} {b e size n : Nat} {v : Value} {xs : List Value} (h : w.ownsRow b e size v n xs) (a : Addr) (u : Value) (hne : ∀ g, v.ownBlock = some g → g ≠ a.block) : (w.setCell a u).ownsRow b e size v n xs :=
  owns_kept h (fun g c hg hc => (Below.heap_setCell w a u g (hne g hg)).trans hc)

theorem fin_two {w w1 : World} {bp n b e size : Nat} {st' : Int} {C Z : Array Value} {v' : Value} {j : Nat} {xs : List Value} {ex : Nat → Prop} (he : 179 ≠ e) (hx : ex bp) (hh : w1.heap[bp]? = some (Obj.cells C 179 (0, 0)))
    (hz : (C.setIfInBounds j v').setIfInBounds 0 (.int .i64 st') = Z) (ho : w1.ownsRow b e size v' n xs) (hc : Chg w w1 ex) :
    ((w1.setCell ⟨bp, j, none⟩ v').setCell ⟨bp, 0, none⟩ (.int .i64 st')).heap[bp]? = some (Obj.cells Z 179 (0, 0)) ∧
    ((w1.setCell ⟨bp, j, none⟩ v').setCell ⟨bp, 0, none⟩ (.int .i64 st')).ownsRow b e size v' n xs ∧ Chg w ((w1.setCell ⟨bp, j, none⟩ v').setCell ⟨bp, 0, none⟩ (.int .i64 st')) ex := by
  refine ⟨by rw [← hz]; exact heap_set (heap_set hh j v') 0 _, ?_, (hc.setCell _ _ (fun _ => hx)).setCell _ _ (fun _ => hx)⟩
  exact owns_set (owns_set ho _ _ (owns_ne ho hh he)) _ _ (owns_ne ho hh he)

theorem clone_any (s : ByteArray) (w : World) (hs : s.size ≤ 1000000) :
    Calls Tryz.prog 97 #[.string s] w fun e w' => e = .returned (.string s) ∧ Below w.heap.size w w' := by
  have h := fun W => Tryz.stringslite_Clone s W (by omega)
  go_enter Tryz.func97, Tryz.ntmps97
  go_wp2_with (go_at_call 162; refine (h _).mono ?_; rintro e w' ⟨rfl, hb⟩)
  go_ret
  exact ⟨rfl, hb⟩

set_option maxRecDepth 100000 in
set_option maxHeartbeats 2000000 in
theorem addWord_atom (bp : Nat) (st : Int) (vr va vv : Value) (n b45 : Nat) (xs : List Value) (k : Int) (t : ByteArray) (p r : Int) (hst : st ≠ 3) (hn : n ≤ 1000) (ht : t.size ≤ 1000000) (w : World) (hb45 : b45 ≤ w.heap.size)
    (hh : w.heap[bp]? = some (Obj.cells #[.int .i64 st, vr, va, vv] 179 (0, 0))) (hown : w.ownsRow b45 92 2 va n xs) :
    Calls Tryz.prog 233 #[.pointer (some ⟨bp, 0, none⟩), tokV k t p r] w fun e w' => e = .returned (.tuple #[]) ∧
      ∃ v', w'.heap[bp]? = some (Obj.cells #[.int .i64 2, vr, v', vv] 179 (0, 0)) ∧ w'.ownsRow b45 92 2 v' (n + 1) (xs ++ [.string t, .slice none 0 0]) ∧ Chg w w' (fun j => j = bp ∨ some j = va.ownBlock) := by
  have hbp : bp < w.heap.size := (Array.getElem?_eq_some_iff.1 hh).1
  have h0 : w.cell? ⟨bp, 0, none⟩ = some (.int .i64 st) := by simp [World.cell?, hh]
  have h2 : w.cell? ⟨bp, 2, none⟩ = some va := by simp [World.cell?, hh]
  have hst' : (st == 3) = false := by simp [hst]
  obtain ⟨i0, hi, hz0, hz1, hz2⟩ := info_parts Tryz.info45
  unfold tokV tokC
  obtain ⟨a, c, rfl⟩ : ∃ a c, va = .slice a n c := by
    obtain ⟨_, ⟨hv, hn⟩ | ⟨g, cap, cur, hv, _⟩⟩ := hown
    · exact ⟨none, 0, by rw [hv, hn]⟩
    · exact ⟨_, _, hv⟩
  have hbne : ∀ g, (Value.slice a n c).ownBlock = some g → g ≠ bp := owns_ne hown hh (by decide)
  obtain ⟨W0, hW0⟩ : ∃ W0, (w.alloc (.cells #[.int .i64 k, .string t, .int .i64 p, .int .i64 r] 191)).drew = W0 := ⟨_, rfl⟩
  have hb0 : Below w.heap.size w W0 := by rw [← hW0]; exact ((Below.refl _ w).alloc (Nat.le_refl _) _).drew
  have hs0 : W0.heap.size = w.heap.size + 1 := by rw [← hW0]; show (w.alloc _).heap.size = _; simp
  have hcl : Hid (∀ W, Calls Tryz.prog 97 #[.string t] W fun e w' => e = .returned (.string t) ∧ Below W.heap.size W w') := fun W => clone_any t W ht
  -- behind the copy
  have hS : Hid (∀ W1, Below W0.heap.size W0 W1 → W1.cell? ⟨bp, 0, none⟩ = some (.int .i64 st) ∧ W1.cell? ⟨bp, 2, none⟩ = some (.slice a n c) ∧ W1.heap.size ≠ bp ∧ W1.ownsRow b45 92 2 (.slice a n c) n xs ∧ b45 ≤ W1.heap.size) := by
    intro W1 h1
    have hb : Below w.heap.size w W1 := hb0.trans (h1.mono (by omega))
    have hsz := hb.size
    exact ⟨(hb.cell (p := ⟨bp, 0, none⟩) hbp).trans h0, (hb.cell (p := ⟨bp, 2, none⟩) hbp).trans h2, by omega, own_below hown hb, by omega⟩
  have hG : Hid (∀ W1 O w1, Below W0.heap.size W0 W1 → (W1.alloc O).grownBy w1 (Value.slice a n c).ownBlock →
      w1.heap[bp]? = some (Obj.cells #[.int .i64 st, vr, .slice a n c, vv] 179 (0, 0)) ∧ Chg w w1 (fun j => j = bp ∨ some j = (Value.slice a n c).ownBlock)) := by
    intro W1 O w1 h1 hg
    have hb : Below w.heap.size w W1 := hb0.trans (h1.mono (by omega))
    have hc : Chg w w1 (fun j => some j = (Value.slice a n c).ownBlock) := ((Chg.ofBelow _ hb).alloc _).grown hg (fun k e _ => e.symm)
    exact ⟨(hc.block bp hbp (fun e => hbne bp e.symm rfl)).trans hh, hc.mono (fun _ _ e => .inr e)⟩
  have h1c : ∀ u ∈ [Value.string t, .slice none 0 0], u.oneCell' = true := by simp [Value.oneCell']
  have hb1 : n + 1 ≤ maxLen := by unfold maxLen; omega
  have hb2 : (n + 1) * 40 ≤ 140737488355328 := by omega
  obtain ⟨z0, z2, zne, _, _⟩ := hS.out W0 (Below.refl _ _)
  have zne2 := zne.symm
  have zt : W0.cell? ⟨w.heap.size, 1, none⟩ = some (.string t) := by rw [← hW0]; simp
  clear hh hb0 hs0 hown
  go_enter Tryz.func233, Tryz.ntmps233
  go_wp2
  go_region_law (first | (refine step_append_own rfl (.tmp 31) (.tmp 36) 134 rfl b45 92 i0 (.agg #[.string ⟨#[]⟩, .slice none 0 0]) 2 40 Tryz.underlying134 hi hz0 hz1 hz2 rfl (by decide) (.slice a n c) n xs (by simp [Act.eval, Act.put]) (World.ownsRow.alloc (hS.out W1 hbW).2.2.2.1 _) ⟨W1.heap.size, 0, none⟩ 1 1 [.string t, .slice none 0 0] (by simp [Act.eval, Act.put]) rfl (cell_two_new W1 (.string t) (.slice none 0 0) 92) h1c hb1 hb2 (by have := (hS.out W1 hbW).2.2.2.2; simp; omega) ?_; intro v' w1 hown1 hgrow1; obtain ⟨g', cap', hv'⟩ := ownsRow_succ hown1; subst hv'; obtain ⟨hhw, hch⟩ := hG.out W1 _ w1 hbW hgrow1; have c0 : w1.cell? ⟨bp, 0, none⟩ = some (.int .i64 st) := (by simp [World.cell?, hhw]); have c2 : w1.cell? ⟨bp, 2, none⟩ = some (.slice a n c) := (by simp [World.cell?, hhw]); have f0 : w1.frozen? ⟨bp, 0, none⟩ = false := (by simp [World.frozen?, hhw]); have f2 : w1.frozen? ⟨bp, 2, none⟩ = false := (by simp [World.frozen?, hhw])) | (go_simp; go_wp2_with (go_at_call 97; refine (hcl.out _).mono ?_; rintro e W1 ⟨rfl, hbW⟩; obtain ⟨k0, k2, kne, _, _⟩ := hS.out W1 hbW; have kne2 := kne.symm; have ka2 : ∀ O, (W1.alloc O).cell? ⟨bp, 2, none⟩ = some (.slice a n c) := fun O => cell_later ((Below.refl W1.heap.size W1).alloc (Nat.le_refl _) O) k2)))
  all_goals
    go_wp2
    go_end0
    exact ⟨rfl, .slice (some ⟨g', 0, none⟩) (n + 1) cap', fin_two (Z := #[.int .i64 2, vr, .slice (some ⟨g', 0, none⟩) (n + 1) cap', vv]) (by decide) (.inl rfl) hhw rfl hown1 hch⟩

theorem row_last {W : World} {b e n : Nat} {v : Value} {ys : List Value} {x y : Value} (h : W.ownsRow b e 2 v n (ys ++ [x, y])) (hn : 1 ≤ n) :
    ∃ g c cur, v = .slice (some ⟨g, 0, none⟩) n c ∧ W.heap[g]? = some (Obj.cells cur e (0, 0)) ∧ b ≤ g ∧ (n - 1) * 2 + 1 < cur.size ∧ cur[(n - 1) * 2 + 1]? = some y ∧ cur.toList.take (n * 2) = ys ++ [x, y] ∧ ys.length = (n - 1) * 2 := by
  obtain ⟨hl, ⟨_, h0⟩ | ⟨g, cap, cur, hv, hb, hw, h1, h2, h3, h4⟩⟩ := h
  · omega
  · simp at hl
    have hlt : (n - 1) * 2 + 1 < cur.size := by rw [h3]; omega
    refine ⟨g, cap, cur, hv, hw, hb, hlt, ?_, h4, by omega⟩
    have : (cur.toList.take (n * 2))[(n - 1) * 2 + 1]? = some y := by
      rw [h4, List.getElem?_append_right (by omega)]
      rw [show (n - 1) * 2 + 1 - ys.length = 1 by omega]; rfl
    rw [List.getElem?_take] at this
    split at this
    · simpa using this
    · cases this

theorem row_set_last {W : World} {b e n : Nat} {v : Value} {ys : List Value} {x y z : Value} (h : W.ownsRow b e 2 v n (ys ++ [x, y])) (hn : 1 ≤ n) {g : Nat} (hg : v.ownBlock = some g) :
    (W.setCell ⟨g, (n - 1) * 2 + 1, none⟩ z).ownsRow b e 2 v n (ys ++ [x, z]) := by
  obtain ⟨g', c, cur, hv, hw, hb, hlt, hy, ht, hl⟩ := row_last h hn
  rw [hv] at hg; simp [Value.ownBlock] at hg; subst hg
  obtain ⟨h0, ⟨hv', _⟩ | ⟨g2, cap2, cur2, hv2, hb2, hw2, h1, h2, h3, h4⟩⟩ := h
  · rw [hv] at hv'; cases hv'
  · rw [hv] at hv2; cases hv2
    rw [hw] at hw2; cases hw2
    refine ⟨by simpa using h0, .inr ⟨g', c, cur.setIfInBounds ((n - 1) * 2 + 1) z, hv, hb, heap_set hw _ _, h1, h2, by simpa using h3, ?_⟩⟩
    rw [Array.toList_setIfInBounds, List.take_set, ht]
    rw [List.set_append_right _ _ (by omega), show (n - 1) * 2 + 1 - ys.length = 1 by omega]
    rfl

end Go.Proofs.YtjajnhemgphefaaGreatDoor
