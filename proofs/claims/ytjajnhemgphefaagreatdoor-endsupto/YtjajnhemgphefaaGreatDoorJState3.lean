/-
  The parser's addWord where it adds a term to the last atom: the whole of it.
  The parser's endRule: the rule that was read is laid behind the others.
  The parser's state as plain data, how it lies in memory, and what each method does to it.
  The parser's addWord, said of the state that the parser stands for.
  The parser's endRule, where the row of atoms has room for more than one.
  The parser's endRule, said of the state that the parser stands for.
-/
import Derived.Test.YtjajnhemgphefaaGreatDoorJTerm
namespace Go.Proofs.YtjajnhemgphefaaGreatDoor
open Go.RowKit Go.Shelf
set_option linter.unusedVariables false
set_option linter.unusedSimpArgs false

set_option maxRecDepth 100000 in
set_option maxHeartbeats 4000000 in
theorem addWord_term (bp : Nat) (vr va vv : Value) (n b45 b87 bS : Nat) (ys : List Value) (rel : Value) (aa : Option Addr) (m ca : Nat) (zs : List Value) (vs : List ByteArray) (k : Int) (t : ByteArray) (p r : Int) (hk12 : k = 1 ∨ k = 2) (hn1 : 1 ≤ n) (hn : n ≤ 1000) (hm : m ≤ 1000) (hnv : vs.length ≤ 100) (ht : t.size ≤ 1000000) (w : World) (hb87 : b87 ≤ w.heap.size) (hbS : bS ≤ w.heap.size)
    (hh : w.heap[bp]? = some (Obj.cells #[.int .i64 3, vr, va, vv] 179 (0, 0))) (hown : w.ownsRow b45 92 2 va n (ys ++ [rel, .slice aa m ca])) (hownT : w.ownsRow b87 166 2 (.slice aa m ca) m zs) (hV : w.ownsRow bS 9 1 vv vs.length (vs.map Value.string)) :
    Calls Tryz.prog 233 #[.pointer (some ⟨bp, 0, none⟩), tokV k t p r] w fun e w' => e = .returned (.tuple #[]) ∧
      ∃ v' vv', w'.heap[bp]? = some (Obj.cells #[.int .i64 4, vr, va, vv'] 179 (0, 0)) ∧ w'.ownsRow b45 92 2 va n (ys ++ [rel, v']) ∧ w'.ownsRow b87 166 2 v' (m + 1) (zs ++ [.string (termT vs k t).name, .int .i64 (termT vs k t).num]) ∧
        w'.ownsRow bS 9 1 vv' (termVs vs k t).length ((termVs vs k t).map Value.string) ∧
        Chg w w' (fun j => j = bp ∨ some j = va.ownBlock ∨ some j = (Value.slice aa m ca).ownBlock ∨ some j = vv.ownBlock) := by
  obtain ⟨TN, hTN⟩ : ∃ TN, (termT vs k t).name = TN := ⟨_, rfl⟩
  obtain ⟨TM, hTM⟩ : ∃ TM, (termT vs k t).num = TM := ⟨_, rfl⟩
  obtain ⟨VS, hVS⟩ : ∃ VS, termVs vs k t = VS := ⟨_, rfl⟩
  rw [hTN, hTM, hVS]
  have hbp : bp < w.heap.size := (Array.getElem?_eq_some_iff.1 hh).1
  have h0 : w.cell? ⟨bp, 0, none⟩ = some (.int .i64 3) := by simp [World.cell?, hh]
  obtain ⟨g, c, cur, rfl, hg, hbg, hlt, hy, htk, hyl⟩ := row_last hown hn1
  have hgw : g < w.heap.size := (Array.getElem?_eq_some_iff.1 hg).1
  have hgb : g ≠ bp := owns_ne hown hh (by decide) g rfl
  have hhT : (w.alloc (.cells (tokC k t p r) 191)).heap[bp]? = some (Obj.cells #[.int .i64 3, vr, .slice (some ⟨g, 0, none⟩) n c, vv] 179 (0, 0)) := (Below.heap_alloc _ _ _ hbp).trans hh
  have hlast := lastAtom_any bp 3 vr vv g n c hn1 hn _ hhT
  obtain ⟨i0, hi, hz0, hz1, hz2⟩ := info_parts Tryz.info87
  unfold tokV
  unfold tokC at hlast ⊢
  go_enter Tryz.func233, Tryz.ntmps233
  go_wp2_with fail
  refine hlast.mono ?_
  rintro e w2 ⟨rfl, q, hw2⟩
  have hc2 : Chg w w2 (fun _ => False) := by rw [hw2]; exact ⟨rfl, rfl, rfl, by show _ ≤ (w.alloc _).heap.size; simp, fun j hj _ => Below.heap_alloc _ _ j hj⟩
  have htok : w2.heap[w.heap.size]? = some (Obj.cells #[.int .i64 k, .string t, .int .i64 p, .int .i64 r] 191 (0, 0)) := by rw [hw2]; exact World.alloc_heap_new w _
  clear hw2 hlast hhT
  have hh2 : w2.heap[bp]? = some (Obj.cells #[.int .i64 3, vr, .slice (some ⟨g, 0, none⟩) n c, vv] 179 (0, 0)) := (hc2.block bp hbp (fun h => h)).trans hh
  have hg2 : w2.heap[g]? = some (Obj.cells cur 92 (0, 0)) := (hc2.block g hgw (fun h => h)).trans hg
  have hkp : ∀ (g' : Nat) (c' : Array Value) (T : TypeId), w.heap[g']? = some (Obj.cells c' T (0, 0)) → w2.heap[g']? = some (Obj.cells c' T (0, 0)) := fun g' c' T hc' => (hc2.block g' (Array.getElem?_eq_some_iff.1 hc').1 (fun h => h)).trans hc'
  have hownA2 : w2.ownsRow b45 92 2 (.slice (some ⟨g, 0, none⟩) n c) n (ys ++ [rel, .slice aa m ca]) := owns_kept hown (fun g' c' hg' hc' => hkp _ _ _ hc')
  have hownT2 : w2.ownsRow b87 166 2 (.slice aa m ca) m zs := owns_kept hownT (fun g' c' hg' hc' => hkp _ _ _ hc')
  have hV2 : w2.ownsRow bS 9 1 vv vs.length (vs.map Value.string) := owns_kept hV (fun g' c' hg' hc' => hkp _ _ _ hc')
  have hsz2 : w.heap.size ≤ w2.heap.size := hc2.size
  clear hh hg hown hownT h0 hV hkp
  have c0 : w2.cell? ⟨w.heap.size, 0, none⟩ = some (.int .i64 k) := by simp [World.cell?, htok]
  have c1 : w2.cell? ⟨w.heap.size, 1, none⟩ = some (.string t) := by simp [World.cell?, htok]
  have c3 : w2.cell? ⟨w.heap.size, 2, none⟩ = some (.int .i64 p) := by simp [World.cell?, htok]
  have c4 : w2.cell? ⟨w.heap.size, 3, none⟩ = some (.int .i64 r) := by simp [World.cell?, htok]
  have c2 : w2.cell? ⟨g, (n - 1) * 2 + 1, none⟩ = some (.slice aa m ca) := by simp [World.cell?, hg2, hy]
  have hTerm : Hid (∀ W, Below w2.heap.size w2 W → Calls Tryz.prog 261 #[.pointer (some ⟨bp, 0, none⟩), .agg #[.int .i64 k, .string t, .int .i64 p, .int .i64 r]] W fun e W1 => e = .returned (.agg #[.string TN, .int .i64 TM]) ∧
      ∃ vv', W1.heap[bp]? = some (Obj.cells #[.int .i64 3, vr, .slice (some ⟨g, 0, none⟩) n c, vv'] 179 (0, 0)) ∧ W1.heap[g]? = some (Obj.cells cur 92 (0, 0)) ∧ W1.ownsRow b45 92 2 (.slice (some ⟨g, 0, none⟩) n c) n (ys ++ [rel, .slice aa m ca]) ∧ W1.ownsRow b87 166 2 (.slice aa m ca) m zs ∧
        W1.ownsRow bS 9 1 vv' VS.length (VS.map Value.string) ∧ b87 ≤ W1.heap.size ∧ Chg w W1 (fun j => j = bp ∨ some j = (Value.slice (some ⟨g, 0, none⟩) n c).ownBlock ∨ some j = (Value.slice aa m ca).ownBlock ∨ some j = vv.ownBlock)) := by
    intro W hb
    have hkp : ∀ (g' : Nat) (c' : Array Value) (T : TypeId), w2.heap[g']? = some (Obj.cells c' T (0, 0)) → W.heap[g']? = some (Obj.cells c' T (0, 0)) := fun g' c' T hc' => (hb.block g' (Array.getElem?_eq_some_iff.1 hc').1).trans hc'
    have hVW := owns_kept hV2 (fun g' c' hg' hc' => hkp _ _ _ hc')
    have hbW := hb.size
    refine (term_any bp 3 vr _ vv vs bS k t p r hk12 ht hnv W (by omega) (hkp _ _ _ hh2) hVW).mono ?_
    rintro e W1 ⟨rfl, vv', q1, q2, q3⟩
    have hk3 : ∀ (g' : Nat) (c' : Array Value) (T : TypeId), T ≠ 179 → T ≠ 9 → w2.heap[g']? = some (Obj.cells c' T (0, 0)) → W1.heap[g']? = some (Obj.cells c' T (0, 0)) := by
      intro g' c' T t1 t2 hc'
      have hW := hkp _ _ _ hc'
      rw [q3.block g' (Array.getElem?_eq_some_iff.1 hW).1 (fun e => ?_)]
      · exact hW
      · rcases e with rfl | e
        · rw [hkp _ _ _ hh2] at hW; cases hW; exact t1 rfl
        · obtain ⟨_, _, d, fz, hd⟩ := own_str hVW _ e.symm; rw [hW] at hd; cases hd; exact t2 rfl
    rw [hTN, hTM]
    rw [hVS] at q2
    refine ⟨rfl, vv', q1, hk3 _ _ _ (by decide) (by decide) hg2, owns_kept hownA2 (fun g' c' hg' hc' => hk3 _ _ _ (by decide) (by decide) hc'), owns_kept hownT2 (fun g' c' hg' hc' => hk3 _ _ _ (by decide) (by decide) hc'), q2, by have := q3.size; omega, ?_⟩
    refine (hc2.mono (fun _ _ e => e.elim)).trans ((Chg.ofBelow _ hb).trans (q3.mono (fun j _ e => ?_)))
    rcases e with e | e
    · exact .inl e
    · exact .inr (.inr (.inr e))
  have hG : Hid (∀ W1 O w3 vv', W1.heap[bp]? = some (Obj.cells #[.int .i64 3, vr, .slice (some ⟨g, 0, none⟩) n c, vv'] 179 (0, 0)) → W1.heap[g]? = some (Obj.cells cur 92 (0, 0)) → W1.ownsRow b45 92 2 (.slice (some ⟨g, 0, none⟩) n c) n (ys ++ [rel, .slice aa m ca]) → W1.ownsRow b87 166 2 (.slice aa m ca) m zs →
        W1.ownsRow bS 9 1 vv' VS.length (VS.map Value.string) → Chg w W1 (fun j => j = bp ∨ some j = (Value.slice (some ⟨g, 0, none⟩) n c).ownBlock ∨ some j = (Value.slice aa m ca).ownBlock ∨ some j = vv.ownBlock) → (W1.alloc O).grownBy w3 (Value.slice aa m ca).ownBlock →
      w3.heap[bp]? = some (Obj.cells #[.int .i64 3, vr, .slice (some ⟨g, 0, none⟩) n c, vv'] 179 (0, 0)) ∧ w3.heap[g]? = some (Obj.cells cur 92 (0, 0)) ∧ w3.ownsRow b45 92 2 (.slice (some ⟨g, 0, none⟩) n c) n (ys ++ [rel, .slice aa m ca]) ∧ w3.ownsRow bS 9 1 vv' VS.length (VS.map Value.string) ∧ Chg w w3 (fun j => j = bp ∨ some j = (Value.slice (some ⟨g, 0, none⟩) n c).ownBlock ∨ some j = (Value.slice aa m ca).ownBlock ∨ some j = vv.ownBlock)) := by
    intro W1 O w3 vv' q1 q2 q3 q4 q5 q6 hgr
    have hc : Chg W1 w3 (fun j => some j = (Value.slice aa m ca).ownBlock) := ((Chg.refl W1 _).alloc _).grown hgr (fun k e _ => e.symm)
    have hk3 : ∀ (g' : Nat) (c' : Array Value) (T : TypeId), T ≠ 166 → W1.heap[g']? = some (Obj.cells c' T (0, 0)) → w3.heap[g']? = some (Obj.cells c' T (0, 0)) := by
      intro g' c' T t1 hc'
      exact (hc.block g' (Array.getElem?_eq_some_iff.1 hc').1 (fun e => owns_ne q4 hc' t1 g' e.symm rfl)).trans hc'
    exact ⟨hk3 _ _ _ (by decide) q1, hk3 _ _ _ (by decide) q2, owns_kept q3 (fun g' c' hg' hc' => hk3 _ _ _ (by decide) hc'), owns_kept q5 (fun g' c' hg' hc' => hk3 _ _ _ (by decide) hc'), q6.trans (hc.mono (fun j _ e => .inr (.inr (.inl e))))⟩
  have h1c : ∀ u ∈ [Value.string TN, .int .i64 TM], u.oneCell' = true := by simp [Value.oneCell']
  have hb1 : m + 1 ≤ maxLen := by unfold maxLen; omega
  have hb2 : (m + 1) * 24 ≤ 140737488355328 := by omega
  have hTK : Hid _ := htok
  clear hownA2 hownT2 hV2 hh2 hg2 hc2 htok hTN hTM hVS
  go_wp2
  go_region_law (first | (refine step_append_own rfl (.tmp 16) (.tmp 20) 90 rfl b87 166 i0 (.agg #[.string ⟨#[]⟩, .int .i64 0]) 2 24 Tryz.underlying90 hi hz0 hz1 hz2 rfl (by decide) (.slice aa m ca) m zs (by simp [Act.eval, Act.put]) (World.ownsRow.alloc z4 _) ⟨W1.heap.size, 0, none⟩ 1 1 [.string TN, .int .i64 TM] (by simp [Act.eval, Act.put]) rfl (cell_two_new W1 (.string TN) (.int .i64 TM) 166) h1c hb1 hb2 (by simp; omega) ?_; intro v' w3 hown3 hgrow3; obtain ⟨g', cap', hv'⟩ := ownsRow_succ hown3; subst hv'; obtain ⟨hhw, hgc, hoA, hoV, hch⟩ := hG.out W1 _ w3 vv' z1 z2 z3 z4 z5 z7 hgrow3; have d0 : w3.cell? ⟨bp, 0, none⟩ = some (.int .i64 3) := (by simp [World.cell?, hhw]); have d2 : w3.cell? ⟨g, (n - 1) * 2 + 1, none⟩ = some (.slice aa m ca) := (by simp [World.cell?, hgc, hy]); have f0 : w3.frozen? ⟨bp, 0, none⟩ = false := (by simp [World.frozen?, hhw]); have f2 : w3.frozen? ⟨g, (n - 1) * 2 + 1, none⟩ = false := (by simp [World.frozen?, hgc])) | (go_simp; (try go_wp2_with fail); refine (hTerm.out _ (Below.drew (Below.refl w2.heap.size w2))).mono ?_; rintro e W1 ⟨rfl, vv', z1, z2, z3, z4, z5, z6, z7⟩; have k2 : W1.cell? ⟨g, (n - 1) * 2 + 1, none⟩ = some (.slice aa m ca) := (by simp [World.cell?, z2, hy]); have ka2 : ∀ O, (W1.alloc O).cell? ⟨g, (n - 1) * 2 + 1, none⟩ = some (.slice aa m ca) := fun O => cell_later ((Below.refl W1.heap.size W1).alloc (Nat.le_refl _) O) k2; have kne : g ≠ W1.heap.size := (by have := (Array.getElem?_eq_some_iff.1 z2).1; omega); try go_wp2)) 
  all_goals
    go_wp2
    refine bodyPost_ret (results_none rfl _ _ _) rfl ?_
    exact ⟨rfl, .slice (some ⟨g', 0, none⟩) (m + 1) cap', vv', fin_term hn1 hhw hgc hoA hown3 hoV hch⟩

end Go.Proofs.YtjajnhemgphefaaGreatDoor

namespace Go.Proofs.YtjajnhemgphefaaGreatDoor
open Go.RowKit Go.Shelf
set_option linter.unusedVariables false
set_option linter.unusedSimpArgs false

theorem cell_three_new (w : World) (a b d : Value) (t : TypeId) : ∀ j u, [a, b, d][j]? = some u → (w.alloc (.cells #[a, b, d] t)).cell? ((⟨w.heap.size, 0, none⟩ : Addr).add j) = some u := by
  intro j u hj
  match j, hj with
  | 0, hj => simp at hj; subst hj; simp [Addr.add]
  | 1, hj => simp at hj; subst hj; simp [Addr.add]
  | 2, hj => simp at hj; subst hj; simp [Addr.add]
  | j + 3, hj => simp at hj

/-- The atoms behind the first, as Go slices them off. -/
def bodyV (g n c : Nat) : Value := .slice (if c = 1 then some ⟨g, 0, none⟩ else some ⟨g, 2, none⟩) (n - 1) (c - 1)

theorem fin_rule {w w1 : World} {bp n base : Nat} {st : Int} {x y z v' : Value} {xs : List Value} {ex : Nat → Prop} (hh : w1.heap[bp]? = some (Obj.cells #[.int .i64 st, x, y, z] 179 (0, 0)))
    (ho : w1.ownsRow base 136 3 v' n xs) (hc : Chg w w1 (fun j => j = bp ∨ ex j)) :
    ((((w1.setCell ⟨bp, 1, none⟩ v').setCell ⟨bp, 2, none⟩ (.slice none 0 0)).setCell ⟨bp, 3, none⟩ (.slice none 0 0)).setCell ⟨bp, 0, none⟩ (.int .i64 0)).heap[bp]? = some (Obj.cells #[.int .i64 0, v', .slice none 0 0, .slice none 0 0] 179 (0, 0)) ∧
    ((((w1.setCell ⟨bp, 1, none⟩ v').setCell ⟨bp, 2, none⟩ (.slice none 0 0)).setCell ⟨bp, 3, none⟩ (.slice none 0 0)).setCell ⟨bp, 0, none⟩ (.int .i64 0)).ownsRow base 136 3 v' n xs ∧
    Chg w ((((w1.setCell ⟨bp, 1, none⟩ v').setCell ⟨bp, 2, none⟩ (.slice none 0 0)).setCell ⟨bp, 3, none⟩ (.slice none 0 0)).setCell ⟨bp, 0, none⟩ (.int .i64 0)) (fun j => j = bp ∨ ex j) := by
  refine ⟨heap_set (heap_set (heap_set (heap_set hh 1 v') 2 _) 3 _) 0 _, ?_, (((hc.setCell ⟨bp, 1, none⟩ _ (fun _ => .inl rfl)).setCell ⟨bp, 2, none⟩ _ (fun _ => .inl rfl)).setCell ⟨bp, 3, none⟩ _ (fun _ => .inl rfl)).setCell ⟨bp, 0, none⟩ _ (fun _ => .inl rfl)⟩
  exact owns_set (owns_set (owns_set (owns_set ho _ _ (owns_ne ho hh (by decide))) _ _ (owns_ne ho hh (by decide))) _ _ (owns_ne ho hh (by decide))) _ _ (owns_ne ho hh (by decide))

set_option maxRecDepth 100000 in
set_option maxHeartbeats 4000000 in
theorem endRule_one (bp : Nat) (st : Int) (xa : Option Addr) (xn xc : Nat) (ar : Option Addr) (nr cr g base : Nat) (xs : List Value) (rel args : Value) (hrel : ∃ s, rel = .string s) (hargs : ∃ a m q, args = .slice a m q) (hr : nr ≤ 1000) (w : World) (hbase : base ≤ w.heap.size)
    (hh : w.heap[bp]? = some (Obj.cells #[.int .i64 st, .slice ar nr cr, .slice (some ⟨g, 0, none⟩) 1 1, .slice xa xn xc] 179 (0, 0)))
    (hg0 : w.cell? ⟨g, 0, none⟩ = some rel) (hg1 : w.cell? ⟨g, 1, none⟩ = some args) (hown : w.ownsRow base 136 3 (.slice ar nr cr) nr xs) :
    Calls Tryz.prog 236 #[.pointer (some ⟨bp, 0, none⟩)] w fun e w' => e = .returned (.tuple #[]) ∧
      ∃ v', w'.heap[bp]? = some (Obj.cells #[.int .i64 0, v', .slice none 0 0, .slice none 0 0] 179 (0, 0)) ∧ w'.ownsRow base 136 3 v' (nr + 1) (xs ++ [rel, args, bodyV g 1 1]) ∧
        Chg w w' (fun j => j = bp ∨ some j = (Value.slice ar nr cr).ownBlock) := by
  obtain ⟨rs, rfl⟩ := hrel
  obtain ⟨aa, am, aq, rfl⟩ := hargs
  have hbp : bp < w.heap.size := (Array.getElem?_eq_some_iff.1 hh).1
  have c0 : w.cell? ⟨bp, 0, none⟩ = some (.int .i64 st) := by simp [World.cell?, hh]
  have c1 : w.cell? ⟨bp, 1, none⟩ = some (.slice ar nr cr) := by simp [World.cell?, hh]
  have c2 : w.cell? ⟨bp, 2, none⟩ = some (.slice (some ⟨g, 0, none⟩) 1 1) := by simp [World.cell?, hh]
  have c3 : w.cell? ⟨bp, 3, none⟩ = some (.slice xa xn xc) := by simp [World.cell?, hh]
  have f1 : w.frozen? ⟨bp, 1, none⟩ = false := by simp [World.frozen?, hh]
  obtain ⟨i0, hi, hz0, hz1, hz2⟩ := info_parts Tryz.info48
  have hA : Hid ((w.alloc (.cells #[.string rs, .slice aa am aq, .slice (some ⟨g, 0, none⟩) 0 0] 136)).ownsRow base 136 3 (.slice ar nr cr) nr xs) := hown.alloc _
  have hN : Hid (∀ j u, [Value.string rs, .slice aa am aq, .slice (some ⟨g, 0, none⟩) 0 0][j]? = some u → (w.alloc (.cells #[.string rs, .slice aa am aq, .slice (some ⟨g, 0, none⟩) 0 0] 136)).cell? ((⟨w.heap.size, 0, none⟩ : Addr).add j) = some u) := cell_three_new w _ _ _ _
  have hG : Hid (∀ w1, (w.alloc (.cells #[.string rs, .slice aa am aq, .slice (some ⟨g, 0, none⟩) 0 0] 136)).drew.grownBy w1 (Value.slice ar nr cr).ownBlock →
      w1.heap[bp]? = some (Obj.cells #[.int .i64 st, .slice ar nr cr, .slice (some ⟨g, 0, none⟩) 1 1, .slice xa xn xc] 179 (0, 0)) ∧ Chg w w1 (fun j => j = bp ∨ some j = (Value.slice ar nr cr).ownBlock)) := by
    intro w1 hgr
    have hc : Chg w w1 (fun j => some j = (Value.slice ar nr cr).ownBlock) := (((Chg.refl w _).alloc _).drew).grown hgr (fun k e _ => e.symm)
    exact ⟨(hc.block bp hbp (fun e => owns_ne hown hh (by decide) bp e.symm rfl)).trans hh, hc.mono (fun _ _ e => .inr e)⟩
  have h1c : ∀ u ∈ [Value.string rs, .slice aa am aq, .slice (some ⟨g, 0, none⟩) 0 0], u.oneCell' = true := by simp [Value.oneCell']
  have hb1 : nr + 1 ≤ maxLen := by unfold maxLen; omega
  have hb2 : (nr + 1) * 64 ≤ 140737488355328 := by omega
  have HB3 : Hid (base ≤ (w.alloc (.cells #[.string rs, .slice aa am aq, .slice (some ⟨g, 0, none⟩) 0 0] 136)).drew.heap.size) := by
    show base ≤ (w.alloc (.cells #[.string rs, .slice aa am aq, .slice (some ⟨g, 0, none⟩) 0 0] 136)).heap.size
    simp; omega
  clear hh hown
  go_enter Tryz.func236, Tryz.ntmps236
  go_wp2
  go_region_law (refine step_append_own rfl (.tmp 6) (.tmp 19) 75 rfl base 136 i0 (.agg #[.string ⟨#[]⟩, .slice none 0 0, .slice none 0 0]) 3 64 Tryz.underlying75 hi hz0 hz1 hz2 rfl (by decide) (.slice ar nr cr) nr xs (by simp [Act.eval, Act.put]) hA.out ⟨w.heap.size, 0, none⟩ 1 1 [.string rs, .slice aa am aq, .slice (some ⟨g, 0, none⟩) 0 0] (by simp [Act.eval, Act.put]) rfl hN.out h1c hb1 hb2 HB3.out ?_; intro v' w1 hown1 hgrow1; obtain ⟨g', cap', hv'⟩ := ownsRow_succ hown1; subst hv'; obtain ⟨hhw, hch⟩ := hG.out w1 hgrow1; have d0 : w1.cell? ⟨bp, 0, none⟩ = some (.int .i64 st) := (by simp [World.cell?, hhw]); have d1 : w1.cell? ⟨bp, 1, none⟩ = some (.slice ar nr cr) := (by simp [World.cell?, hhw]); have d2 : w1.cell? ⟨bp, 2, none⟩ = some (.slice (some ⟨g, 0, none⟩) 1 1) := (by simp [World.cell?, hhw]); have d3 : w1.cell? ⟨bp, 3, none⟩ = some (.slice xa xn xc) := (by simp [World.cell?, hhw]); have e3 : w1.frozen? ⟨bp, 3, none⟩ = false := (by simp [World.frozen?, hhw]); have e0 : w1.frozen? ⟨bp, 0, none⟩ = false := (by simp [World.frozen?, hhw]); have e1 : w1.frozen? ⟨bp, 1, none⟩ = false := (by simp [World.frozen?, hhw]); have e2 : w1.frozen? ⟨bp, 2, none⟩ = false := (by simp [World.frozen?, hhw]))
  all_goals
    clear hA hN hG HB3 h1c hgrow1 hb1 hb2 hg0 hg1
    go_wp2
    go_end0
    refine ⟨rfl, .slice (some ⟨g', 0, none⟩) (nr + 1) cap', ?_⟩
    have hbv : bodyV g 1 1 = .slice (some ⟨g, 0, none⟩) 0 0 := rfl
    rw [hbv]
    exact fin_rule hhw hown1 hch

end Go.Proofs.YtjajnhemgphefaaGreatDoor

namespace Go.Proofs.YtjajnhemgphefaaGreatDoor
open Go.RowKit Go.Shelf
set_option linter.unusedVariables false
set_option linter.unusedSimpArgs false

/-- The parser at block bp stands for the state s; all of its memory lies at or beyond base, its variables' at or beyond bS. -/
def PAt (base bS : Nat) (W : World) (bp : Nat) (s : PSt) : Prop :=
  ∃ (vr va vv : Value) (b45 b87 : Nat), base ≤ b45 ∧ base ≤ b87 ∧ b45 ≤ W.heap.size ∧ b87 ≤ W.heap.size ∧ base ≤ bp ∧ base ≤ bS ∧ bS ≤ W.heap.size ∧ W.heap[bp]? = some (Obj.cells #[.int .i64 s.st, vr, va, vv] 179 (0, 0)) ∧
    W.ownsRow bS 9 1 vv s.vars.length (s.vars.map Value.string) ∧ RulesAt W base b45 b87 vr s.rules ∧ CurA W b45 b87 va s.atoms

def NotP (o : Obj) : Prop := ∀ c t fz, o = Obj.cells c t fz → t ≠ 179 ∧ t ≠ 136 ∧ t ≠ 92 ∧ t ≠ 166 ∧ t ≠ 9

/-- What the parser's methods leave alone. -/
structure PFr (base bS : Nat) (W W' : World) : Prop where
  low : Below base W W'
  same : ∀ (k : Nat) (o : Obj), W.heap[k]? = some o → NotP o → W'.heap[k]? = some o
  str : ∀ (k : Nat) (c : Array Value) (fz : Nat × Nat), k < bS → W.heap[k]? = some (Obj.cells c 9 fz) → W'.heap[k]? = some (Obj.cells c 9 fz)

theorem PFr.refl (base bS : Nat) (W : World) : PFr base bS W W := ⟨Below.refl _ _, fun _ _ h _ => h, fun _ _ _ _ h => h⟩
theorem PFr.trans {base bS : Nat} {A B C : World} (h : PFr base bS A B) (k : PFr base bS B C) : PFr base bS A C := ⟨h.1.trans k.1, fun i o hi ho => k.2 i o (h.2 i o hi ho) ho, fun i c fz hi hc => k.3 i c fz hi (h.3 i c fz hi hc)⟩
theorem PFr.ofChg {base bS : Nat} {W W' : World} {ex : Nat → Prop} (h : Chg W W' ex) (hB : base ≤ W.heap.size) (hx : ∀ k, k < W.heap.size → ex k → base ≤ k ∧ ∃ c t fz, W.heap[k]? = some (Obj.cells c t fz) ∧ (t = 179 ∨ t = 136 ∨ t = 92 ∨ t = 166 ∨ (t = 9 ∧ bS ≤ k))) : PFr base bS W W' := by
  refine ⟨⟨h.os, h.tape, h.output, h.size, fun k hk => h.block k (Nat.lt_of_lt_of_le hk hB) (fun e => ?_)⟩, fun k o hk ho => ?_, fun k c fz hlt0 hk => ?_⟩
  · have := (hx k (Nat.lt_of_lt_of_le hk hB) e).1; omega
  · have hlt := (Array.getElem?_eq_some_iff.1 hk).1
    rw [h.block k hlt (fun e => ?_)]
    · exact hk
    · obtain ⟨_, c, t, fz, hc, ht⟩ := hx k hlt e
      rw [hk] at hc; cases hc
      have := ho c t fz rfl
      rcases ht with h | h | h | h | h <;> simp_all
  · have hlt := (Array.getElem?_eq_some_iff.1 hk).1
    rw [h.block k hlt (fun e => ?_)]
    · exact hk
    · obtain ⟨_, c', t, fz', hc, ht⟩ := hx k hlt e
      rw [hk] at hc; cases hc
      rcases ht with h | h | h | h | ⟨_, h⟩
      · exact absurd h (by decide)
      · exact absurd h (by decide)
      · exact absurd h (by decide)
      · exact absurd h (by decide)
      · omega
theorem PFr.ofBelow {base bS : Nat} {W W' : World} (h : Below W.heap.size W W') (hB : base ≤ W.heap.size) : PFr base bS W W' :=
  ⟨h.mono hB, fun k o hk _ => (h.block k (Array.getElem?_eq_some_iff.1 hk).1).trans hk, fun k c fz _ hk => (h.block k (Array.getElem?_eq_some_iff.1 hk).1).trans hk⟩

theorem Chg.keptT {W W' : World} {ex : Nat → Prop} {t : TypeId} {b : Nat} (h : Chg W W' ex) (hx : ∀ (k : Nat) (c : Array Value), k < b → W.heap[k]? = some (Obj.cells c t (0, 0)) → ¬ ex k) : KeptT t b W W' :=
  fun k c hk hc => (h.block k (Array.getElem?_eq_some_iff.1 hc).1 (hx k c hk hc)).trans hc

theorem RulesAt.kept {W W' : World} {base b45 b87 : Nat} {v : Value} {l : List Rl} (h : RulesAt W base b45 b87 v l) (h48 : ∀ g c, v.ownBlock = some g → W.heap[g]? = some (Obj.cells c 136 (0, 0)) → W'.heap[g]? = some (Obj.cells c 136 (0, 0)))
    (h45 : KeptT 92 b45 W W') (h87 : KeptT 166 b87 W W') : RulesAt W' base b45 b87 v l := by
  obtain ⟨qs, h1, h2, h3⟩ := h
  exact ⟨qs, h1, owns_kept h2 h48, fun q hq => ⟨(h3 q hq).1.kept h87, (h3 q hq).2.kept h45 h87⟩⟩
theorem RulesAt.mono {W : World} {base b45 b87 c45 c87 : Nat} {v : Value} {l : List Rl} (h : RulesAt W base b45 b87 v l) (h45 : b45 ≤ c45) (h87 : b87 ≤ c87) : RulesAt W base c45 c87 v l := by
  obtain ⟨qs, h1, h2, h3⟩ := h
  exact ⟨qs, h1, h2, fun q hq => ⟨(h3 q hq).1.mono h87, (h3 q hq).2.mono h45 h87⟩⟩

/-- An owned row's block, if it has one. -/
theorem owns_block {W : World} {b e size n : Nat} {v : Value} {xs : List Value} (h : W.ownsRow b e size v n xs) {g : Nat} (hg : v.ownBlock = some g) : b ≤ g ∧ ∃ c, W.heap[g]? = some (Obj.cells c e (0, 0)) := by
  obtain ⟨_, ⟨hv, hn⟩ | ⟨g', cap, cur, hv, hb, hw, _⟩⟩ := h
  · rw [hv] at hg; simp [Value.ownBlock] at hg
  · rw [hv] at hg; simp [Value.ownBlock] at hg; subst hg; exact ⟨hb, cur, hw⟩

theorem owns_form {W : World} {b e size n : Nat} {v : Value} {xs : List Value} (h : W.ownsRow b e size v n xs) : ∃ a c, v = .slice a n c := by
  obtain ⟨_, ⟨hv, hn⟩ | ⟨g, cap, cur, hv, _⟩⟩ := h
  · exact ⟨none, 0, by rw [hv, hn]⟩
  · exact ⟨_, _, hv⟩

/-- Only the parser's own first cell is turned. -/
theorem PAt.state {base bS : Nat} {W : World} {bp : Nat} {s : PSt} (h : PAt base bS W bp s) (x : Int) : PAt base bS (W.setCell ⟨bp, 0, none⟩ (.int .i64 x)) bp { s with st := x } ∧ PFr base bS W (W.setCell ⟨bp, 0, none⟩ (.int .i64 x)) := by
  obtain ⟨vr, va, vv, b45, b87, h1, h2, h3, h4, h5, h6, h7, hh, hV, hR, hA⟩ := h
  have hk : ∀ (k : Nat) (c : Array Value) (t : TypeId), t ≠ 179 → W.heap[k]? = some (Obj.cells c t (0, 0)) → (W.setCell ⟨bp, 0, none⟩ (.int .i64 x)).heap[k]? = some (Obj.cells c t (0, 0)) := by
    intro k c t ht hc
    rw [Below.heap_setCell _ _ _ _ (fun e => ?_)]
    · exact hc
    · simp at e; subst e; rw [hh] at hc; cases hc; exact ht rfl
  refine ⟨⟨vr, va, vv, b45, b87, h1, h2, by simpa using h3, by simpa using h4, h5, h6, by simpa using h7, heap_set hh 0 _, owns_kept hV (fun g c _ hc => hk g c _ (by decide) hc), hR.kept (fun g c _ hc => hk g c _ (by decide) hc) (fun k c _ hc => hk k c _ (by decide) hc) (fun k c _ hc => hk k c _ (by decide) hc), ?_⟩, ?_⟩
  · obtain ⟨ps, e1, e2, e3, e4⟩ := hA
    exact ⟨ps, e1, owns_kept e2 (fun g c _ hc => hk g c _ (by decide) hc), fun p hp => (e3 p hp).kept (fun k c _ hc => hk k c _ (by decide) hc), fun p hp => owns_kept (e4 p hp) (fun g c _ hc => hk g c _ (by decide) hc)⟩
  · refine PFr.ofChg ((Chg.refl W (fun j => j = bp)).setCell ⟨bp, 0, none⟩ _ (fun _ => rfl)) (by omega) (fun k hk e => ?_)
    subst e
    exact ⟨h5, _, _, _, hh, .inl rfl⟩

end Go.Proofs.YtjajnhemgphefaaGreatDoor

namespace Go.Proofs.YtjajnhemgphefaaGreatDoor
open Go.RowKit Go.Shelf
set_option linter.unusedVariables false
set_option linter.unusedSimpArgs false

theorem addWord_S (base bS bp : Nat) (s : PSt) (k : Int) (t : ByteArray) (ht : t.size ≤ 1200) (p r : Int) (W : World) (hP : PAt base bS W bp s) (hk12 : k = 1 ∨ k = 2) (hnv : s.vars.length ≤ 100) (hna : s.atoms.length ≤ 100) (h3 : s.st = 3 → s.atoms ≠ []) (hm : ∀ a ∈ s.atoms, a.args.length ≤ 100) :
    Calls Tryz.prog 233 #[.pointer (some ⟨bp, 0, none⟩), tokV k t p r] W fun e W' => e = .returned (.tuple #[]) ∧ PAt base bS W' bp (addWordS s k t) ∧ PFr base bS W W' := by
  obtain ⟨vr, va, vv, b45, b87, h1, h2, h4, h5, h6, hS1, hS2, hh, hV, hR, ps, e1, e2, e3, e4⟩ := hP
  have hlen : ps.length = s.atoms.length := by rw [← e1]; simp
  by_cases hst : s.st = 3
  · -- a term more of the last atom
    have hne := h3 hst
    have hps : ps ≠ [] := by intro e; rw [e] at hlen; simp at hlen; exact hne (List.eq_nil_of_length_eq_zero hlen.symm)
    obtain ⟨ps0, ⟨la, lv⟩, rfl⟩ : ∃ ps0 l, ps = ps0 ++ [l] := ⟨ps.dropLast, ps.getLast hps, (List.dropLast_concat_getLast hps).symm⟩
    have hl := e4 (la, lv) (by simp)
    simp only [List.dropLast_concat] at e3
    simp only at hl
    obtain ⟨aa, ca, rfl⟩ := owns_form hl
    have hla : la ∈ s.atoms := by rw [← e1]; simp
    rw [List.flatMap_append] at e2
    have e2' : W.ownsRow b45 92 2 va (ps0 ++ [(la, Value.slice aa la.args.length ca)]).length (ps0.flatMap atomC ++ [.string la.rel, .slice aa la.args.length ca]) := by simpa [atomC] using e2
    have hgl : growLast s.atoms (termT s.vars k t) = ps0.map (·.1) ++ [{ la with args := la.args ++ [termT s.vars k t] }] := by
      unfold growLast; rw [← e1]; simp
    rw [hst] at hh
    refine (addWord_term bp vr va vv _ b45 b87 bS _ _ aa _ ca _ s.vars k t p r hk12 (by simp) (by rw [hlen]; omega) (by have := hm la hla; omega) hnv (by omega) W h5 hS2 hh e2' hl hV).mono ?_
    rintro e W' ⟨rfl, v', vv', hh', hA', hT', hV', hc⟩
    refine ⟨rfl, ?_, ?_⟩
    · unfold addWordS; rw [if_pos hst, hgl]
      have k45 : KeptT 92 b45 W W' := hc.keptT (fun j c hj hcj hx => by
        rcases hx with rfl | hx | hx | hx
        · rw [hh] at hcj; cases hcj
        · have := (owns_block e2 hx.symm).1; omega
        · obtain ⟨_, c', hc'⟩ := owns_block hl hx.symm; rw [hcj] at hc'; cases hc'
        · obtain ⟨_, c', hc'⟩ := owns_block hV hx.symm; rw [hcj] at hc'; cases hc')
      have k87 : KeptT 166 b87 W W' := hc.keptT (fun j c hj hcj hx => by
        rcases hx with rfl | hx | hx | hx
        · rw [hh] at hcj; cases hcj
        · obtain ⟨_, c', hc'⟩ := owns_block e2 hx.symm; rw [hcj] at hc'; cases hc'
        · have := (owns_block hl hx.symm).1; omega
        · obtain ⟨_, c', hc'⟩ := owns_block hV hx.symm; rw [hcj] at hc'; cases hc')
      refine ⟨vr, va, vv', b45, b87, h1, h2, Nat.le_trans h4 hc.size, Nat.le_trans h5 hc.size, h6, hS1, Nat.le_trans hS2 hc.size, hh', hV', hR.kept (fun g c hg hcg => ?_) k45 k87, ps0 ++ [({ la with args := la.args ++ [termT s.vars k t] }, v')], by simp, ?_, ?_, ?_⟩
      · rw [hc.block g (Array.getElem?_eq_some_iff.1 hcg).1 (fun hx => ?_)]
        · exact hcg
        · rcases hx with rfl | hx | hx | hx
          · rw [hh] at hcg; cases hcg
          · obtain ⟨_, c', hc'⟩ := owns_block e2 hx.symm; rw [hcg] at hc'; cases hc'
          · obtain ⟨_, c', hc'⟩ := owns_block hl hx.symm; rw [hcg] at hc'; cases hc'
          · obtain ⟨_, c', hc'⟩ := owns_block hV hx.symm; rw [hcg] at hc'; cases hc'
      · simpa [atomC] using hA'
      · simp only [List.dropLast_concat]
        exact fun q hq => (e3 q hq).kept k87
      · intro q hq
        simp at hq
        subst hq
        simpa [termsC, tmC] using hT'
    · refine PFr.ofChg hc (by omega) (fun j hj hx => ?_)
      rcases hx with rfl | hx | hx | hx
      · exact ⟨h6, _, _, _, hh, .inl rfl⟩
      · obtain ⟨hb, c, hc⟩ := owns_block e2 hx.symm; exact ⟨by omega, c, _, _, hc, .inr (.inr (.inl rfl))⟩
      · obtain ⟨hb, c, hc⟩ := owns_block hl hx.symm; exact ⟨by omega, c, _, _, hc, .inr (.inr (.inr (.inl rfl)))⟩
      · obtain ⟨hb, c, hc⟩ := owns_block hV hx.symm; exact ⟨by omega, c, _, _, hc, .inr (.inr (.inr (.inr ⟨rfl, hb⟩)))⟩
  · -- an atom more
    refine (addWord_atom bp s.st vr va vv _ b45 _ k t p r hst (by rw [hlen]; omega) (by omega) W h4 hh e2).mono ?_
    rintro e W' ⟨rfl, v', hh', hA', hc⟩
    refine ⟨rfl, ?_, ?_⟩
    · unfold addWordS; rw [if_neg hst]
      have k45 : KeptT 92 b45 W W' := hc.keptT (fun j c hj hcj hx => by
        rcases hx with rfl | hx
        · rw [hh] at hcj; cases hcj
        · have := (owns_block e2 hx.symm).1; omega)
      have k87 : ∀ b, KeptT 166 b W W' := fun b => hc.keptT (fun j c hj hcj hx => by
        rcases hx with rfl | hx
        · rw [hh] at hcj; cases hcj
        · obtain ⟨_, c', hc'⟩ := owns_block e2 hx.symm; rw [hcj] at hc'; cases hc')
      refine ⟨vr, v', vv, b45, W.heap.size, h1, by omega, Nat.le_trans h4 hc.size, hc.size, h6, hS1, Nat.le_trans hS2 hc.size, hh', owns_kept hV (fun g c hg hcg => ?_), (hR.kept (fun g c hg hcg => ?_) k45 (k87 _)).mono (Nat.le_refl _) h5, ps ++ [(⟨t, []⟩, .slice none 0 0)], by simp [e1], ?_, ?_, ?_⟩
      · rw [hc.block g (Array.getElem?_eq_some_iff.1 hcg).1 (fun hx => ?_)]
        · exact hcg
        · rcases hx with rfl | hx
          · rw [hh] at hcg; cases hcg
          · obtain ⟨_, c', hc'⟩ := owns_block e2 hx.symm; rw [hcg] at hc'; cases hc'
      · rw [hc.block g (Array.getElem?_eq_some_iff.1 hcg).1 (fun hx => ?_)]
        · exact hcg
        · rcases hx with rfl | hx
          · rw [hh] at hcg; cases hcg
          · obtain ⟨_, c', hc'⟩ := owns_block e2 hx.symm; rw [hcg] at hc'; cases hc'
      · simpa [atomC] using hA'
      · simp only [List.dropLast_concat]
        intro q hq
        by_cases hps : ps = []
        · rw [hps] at hq; cases hq
        · rw [← List.dropLast_concat_getLast hps] at hq
          rcases List.mem_append.1 hq with hq | hq
          · exact ((e3 q hq).mono h5).kept (k87 _)
          · simp at hq
            have := e4 q (by rw [hq]; exact List.getLast?_eq_some_getLast hps)
            exact (SealT.ofOwns this).kept (k87 _)
      · intro q hq
        simp at hq
        subst hq
        exact World.ownsRow_nil W' _ _ _
    · refine PFr.ofChg hc (by omega) (fun j hj hx => ?_)
      rcases hx with rfl | hx
      · exact ⟨h6, _, _, _, hh, .inl rfl⟩
      · obtain ⟨hb, c, hc⟩ := owns_block e2 hx.symm; exact ⟨by omega, c, _, _, hc, .inr (.inr (.inl rfl))⟩

end Go.Proofs.YtjajnhemgphefaaGreatDoor

namespace Go.Proofs.YtjajnhemgphefaaGreatDoor
open Go.RowKit Go.Shelf
set_option linter.unusedVariables false
set_option linter.unusedSimpArgs false

set_option maxRecDepth 100000 in
set_option maxHeartbeats 4000000 in
theorem endRule_more (bp : Nat) (st : Int) (xa : Option Addr) (xn xc : Nat) (ar : Option Addr) (nr cr g n c base : Nat) (xs : List Value) (rel args : Value) (hrel : ∃ s, rel = .string s) (hargs : ∃ a m q, args = .slice a m q) (hn1 : 1 ≤ n) (hnc : n ≤ c) (hc1 : ¬ c = 1) (hn : n ≤ 1000) (hr : nr ≤ 1000) (w : World) (hbase : base ≤ w.heap.size)
    (hh : w.heap[bp]? = some (Obj.cells #[.int .i64 st, .slice ar nr cr, .slice (some ⟨g, 0, none⟩) n c, .slice xa xn xc] 179 (0, 0)))
    (hg0 : w.cell? ⟨g, 0, none⟩ = some rel) (hg1 : w.cell? ⟨g, 1, none⟩ = some args) (hown : w.ownsRow base 136 3 (.slice ar nr cr) nr xs) :
    Calls Tryz.prog 236 #[.pointer (some ⟨bp, 0, none⟩)] w fun e w' => e = .returned (.tuple #[]) ∧
      ∃ v', w'.heap[bp]? = some (Obj.cells #[.int .i64 0, v', .slice none 0 0, .slice none 0 0] 179 (0, 0)) ∧ w'.ownsRow base 136 3 v' (nr + 1) (xs ++ [rel, args, bodyV g n c]) ∧
        Chg w w' (fun j => j = bp ∨ some j = (Value.slice ar nr cr).ownBlock) := by
  obtain ⟨rs, rfl⟩ := hrel
  obtain ⟨aa, am, aq, rfl⟩ := hargs
  have hbp : bp < w.heap.size := (Array.getElem?_eq_some_iff.1 hh).1
  have c0 : w.cell? ⟨bp, 0, none⟩ = some (.int .i64 st) := by simp [World.cell?, hh]
  have c1 : w.cell? ⟨bp, 1, none⟩ = some (.slice ar nr cr) := by simp [World.cell?, hh]
  have c2 : w.cell? ⟨bp, 2, none⟩ = some (.slice (some ⟨g, 0, none⟩) n c) := by simp [World.cell?, hh]
  have c3 : w.cell? ⟨bp, 3, none⟩ = some (.slice xa xn xc) := by simp [World.cell?, hh]
  have f1 : w.frozen? ⟨bp, 1, none⟩ = false := by simp [World.frozen?, hh]
  obtain ⟨i0, hi, hz0, hz1, hz2⟩ := info_parts Tryz.info48
  have i4 : 0 < n := by omega
  have i5 : 1 ≤ n := by omega
  have i1 : (0 : Int) < (n : Int) := by omega
  have i2 : (1 : Int) ≤ (n : Int) := by omega
  have i3 : (n : Int) ≤ (c : Int) := by omega
  have hA : Hid ((w.alloc (.cells #[.string rs, .slice aa am aq, .slice (some ⟨g, 2, none⟩) (n - 1) (c - 1)] 136)).ownsRow base 136 3 (.slice ar nr cr) nr xs) := hown.alloc _
  have hN : Hid (∀ j u, [Value.string rs, .slice aa am aq, .slice (some ⟨g, 2, none⟩) (n - 1) (c - 1)][j]? = some u → (w.alloc (.cells #[.string rs, .slice aa am aq, .slice (some ⟨g, 2, none⟩) (n - 1) (c - 1)] 136)).cell? ((⟨w.heap.size, 0, none⟩ : Addr).add j) = some u) := cell_three_new w _ _ _ _
  have hG : Hid (∀ w1, (w.alloc (.cells #[.string rs, .slice aa am aq, .slice (some ⟨g, 2, none⟩) (n - 1) (c - 1)] 136)).drew.grownBy w1 (Value.slice ar nr cr).ownBlock →
      w1.heap[bp]? = some (Obj.cells #[.int .i64 st, .slice ar nr cr, .slice (some ⟨g, 0, none⟩) n c, .slice xa xn xc] 179 (0, 0)) ∧ Chg w w1 (fun j => j = bp ∨ some j = (Value.slice ar nr cr).ownBlock)) := by
    intro w1 hgr
    have hc : Chg w w1 (fun j => some j = (Value.slice ar nr cr).ownBlock) := (((Chg.refl w _).alloc _).drew).grown hgr (fun k e _ => e.symm)
    exact ⟨(hc.block bp hbp (fun e => owns_ne hown hh (by decide) bp e.symm rfl)).trans hh, hc.mono (fun _ _ e => .inr e)⟩
  have h1c : ∀ u ∈ [Value.string rs, .slice aa am aq, .slice (some ⟨g, 2, none⟩) (n - 1) (c - 1)], u.oneCell' = true := by simp [Value.oneCell']
  have hb1 : nr + 1 ≤ maxLen := by unfold maxLen; omega
  have hb2 : (nr + 1) * 64 ≤ 140737488355328 := by omega
  have HB3 : Hid (base ≤ (w.alloc (.cells #[.string rs, .slice aa am aq, .slice (some ⟨g, 2, none⟩) (n - 1) (c - 1)] 136)).drew.heap.size) := by
    show base ≤ (w.alloc (.cells #[.string rs, .slice aa am aq, .slice (some ⟨g, 2, none⟩) (n - 1) (c - 1)] 136)).heap.size
    simp; omega
  clear hh hown
  go_enter Tryz.func236, Tryz.ntmps236
  go_wp2
  go_region_law (refine step_append_own rfl (.tmp 6) (.tmp 19) 75 rfl base 136 i0 (.agg #[.string ⟨#[]⟩, .slice none 0 0, .slice none 0 0]) 3 64 Tryz.underlying75 hi hz0 hz1 hz2 rfl (by decide) (.slice ar nr cr) nr xs (by simp [Act.eval, Act.put]) hA.out ⟨w.heap.size, 0, none⟩ 1 1 [.string rs, .slice aa am aq, .slice (some ⟨g, 2, none⟩) (n - 1) (c - 1)] (by simp [Act.eval, Act.put]) rfl hN.out h1c hb1 hb2 HB3.out ?_; intro v' w1 hown1 hgrow1; obtain ⟨g', cap', hv'⟩ := ownsRow_succ hown1; subst hv'; obtain ⟨hhw, hch⟩ := hG.out w1 hgrow1; have d0 : w1.cell? ⟨bp, 0, none⟩ = some (.int .i64 st) := (by simp [World.cell?, hhw]); have d1 : w1.cell? ⟨bp, 1, none⟩ = some (.slice ar nr cr) := (by simp [World.cell?, hhw]); have d2 : w1.cell? ⟨bp, 2, none⟩ = some (.slice (some ⟨g, 0, none⟩) n c) := (by simp [World.cell?, hhw]); have d3 : w1.cell? ⟨bp, 3, none⟩ = some (.slice xa xn xc) := (by simp [World.cell?, hhw]); have e3 : w1.frozen? ⟨bp, 3, none⟩ = false := (by simp [World.frozen?, hhw]); have e0 : w1.frozen? ⟨bp, 0, none⟩ = false := (by simp [World.frozen?, hhw]); have e1 : w1.frozen? ⟨bp, 1, none⟩ = false := (by simp [World.frozen?, hhw]); have e2 : w1.frozen? ⟨bp, 2, none⟩ = false := (by simp [World.frozen?, hhw]))
  all_goals
    clear hA hN hG HB3 h1c hgrow1 hb1 hb2 hg0 hg1
    go_wp2
    go_end0
    refine ⟨rfl, .slice (some ⟨g', 0, none⟩) (nr + 1) cap', ?_⟩
    have hbv : bodyV g n c = .slice (some ⟨g, 2, none⟩) (n - 1) (c - 1) := by unfold bodyV; rw [if_neg hc1]
    rw [hbv]
    exact fin_rule hhw hown1 hch

end Go.Proofs.YtjajnhemgphefaaGreatDoor

namespace Go.Proofs.YtjajnhemgphefaaGreatDoor
open Go.RowKit Go.Shelf
set_option linter.unusedVariables false
set_option linter.unusedSimpArgs false

theorem SealT.form {W : World} {b : Nat} {v : Value} {l : List Tm} (h : SealT W b v l) : ∃ a c, v = .slice a l.length c := by
  rcases h with ⟨rfl, rfl⟩ | ⟨g, cap, cur, h1, _⟩
  · exact ⟨none, 0, rfl⟩
  · exact ⟨_, _, h1⟩

/-- Every atom of the rule that is being read has its terms sealed by now. -/
theorem cur_seal {W : World} {b87 : Nat} {ps : List (Am × Value)} (h87 : b87 ≤ W.heap.size) (e3 : ∀ p ∈ ps.dropLast, SealT W b87 p.2 p.1.args) (e4 : ∀ p, ps.getLast? = some p → W.ownsRow b87 166 2 p.2 p.1.args.length (termsC p.1.args)) : ∀ p ∈ ps, SealT W W.heap.size p.2 p.1.args := by
  intro q hq
  by_cases hps : ps = []
  · rw [hps] at hq; cases hq
  · rw [← List.dropLast_concat_getLast hps] at hq
    rcases List.mem_append.1 hq with hq | hq
    · exact (e3 q hq).mono h87
    · simp at hq
      exact SealT.ofOwns (e4 q (by rw [hq]; exact List.getLast?_eq_some_getLast hps))

theorem endRule_S (base bS bp : Nat) (s : PSt) (W : World) (hP : PAt base bS W bp s) (hna : s.atoms.length ≤ 100) (hne : s.atoms ≠ []) (hnr : s.rules.length ≤ 100) :
    Calls Tryz.prog 236 #[.pointer (some ⟨bp, 0, none⟩)] W fun e W' => e = .returned (.tuple #[]) ∧ PAt base bS W' bp (endRuleS s) ∧ PFr base bS W W' := by
  obtain ⟨vr, va, vv, b45, b87, h1, h2, h4, h5, h6, hS1, hS2, hh, hV, ⟨qs, r1, r2, r3⟩, ps, e1, e2, e3, e4⟩ := hP
  obtain ⟨xa, xc, rfl⟩ := owns_form hV
  have hlen : ps.length = s.atoms.length := by rw [← e1]; simp
  have hqlen : qs.length = s.rules.length := by rw [← r1]; simp
  have hall := cur_seal h5 e3 e4
  cases ps with
  | nil => simp at e1; exact absurd e1 hne
  | cons p0 pt =>
    obtain ⟨a0, v0⟩ := p0
    have hat : s.atoms = a0 :: pt.map (·.1) := by rw [← e1]; rfl
    have e2' := e2
    obtain ⟨hl, ⟨_, hz⟩ | ⟨g, c, cur, rfl, hb, hw, hnc, hcm, hcs, htk⟩⟩ := e2'
    · simp at hz
    have hgw : g < W.heap.size := (Array.getElem?_eq_some_iff.1 hw).1
    have hs0 := hall (a0, v0) (by simp)
    have htk0 : cur.toList.take ((pt.length + 1) * 2) = .string a0.rel :: v0 :: pt.flatMap atomC := by simpa [atomC] using htk
    have hc0 : W.cell? ⟨g, 0, none⟩ = some (.string a0.rel) := by
      have : (cur.toList.take ((pt.length + 1) * 2))[0]? = some (.string a0.rel) := by rw [htk0]; rfl
      rw [List.getElem?_take, if_pos (by omega)] at this
      simp only [World.cell?, hw]; simpa using this
    have hc1 : W.cell? ⟨g, 1, none⟩ = some v0 := by
      have : (cur.toList.take ((pt.length + 1) * 2))[1]? = some v0 := by rw [htk0]; rfl
      rw [List.getElem?_take, if_pos (by omega)] at this
      simp only [World.cell?, hw]; simpa using this
    have hv0 : ∃ a m q, v0 = .slice a m q := by obtain ⟨a, q, e⟩ := hs0.form; exact ⟨a, _, q, e⟩
    obtain ⟨ar, cr, rfl⟩ := owns_form r2
    have key : Calls Tryz.prog 236 #[.pointer (some ⟨bp, 0, none⟩)] W fun e w' => e = .returned (.tuple #[]) ∧
      ∃ v', w'.heap[bp]? = some (Obj.cells #[.int .i64 0, v', .slice none 0 0, .slice none 0 0] 179 (0, 0)) ∧ w'.ownsRow base 136 3 v' (qs.length + 1) (qs.flatMap ruleC ++ [.string a0.rel, v0, bodyV g (pt.length + 1) c]) ∧
        Chg W w' (fun j => j = bp ∨ some j = (Value.slice ar qs.length cr).ownBlock) := by
      simp only [List.length_cons] at hh hnc
      by_cases hc1' : c = 1
      · subst hc1'
        have hp0 : pt.length = 0 := by omega
        rw [hp0] at hh ⊢
        exact endRule_one bp s.st _ _ _ ar _ cr g base _ _ _ ⟨_, rfl⟩ hv0 (by omega) W (by omega) hh hc0 hc1 r2
      · exact endRule_more bp s.st _ _ _ ar _ cr g _ c base _ _ _ ⟨_, rfl⟩ hv0 (by omega) (by omega) hc1' (by simp at hlen; omega) (by omega) W (by omega) hh hc0 hc1 r2
    refine key.mono ?_
    rintro e W' ⟨rfl, v', hh', hR', hc⟩
    have k45 : ∀ b, KeptT 92 b W W' := fun b => hc.keptT (fun j cc hj hcj hx => by
      rcases hx with rfl | hx
      · rw [hh] at hcj; cases hcj
      · obtain ⟨_, c', hc'⟩ := owns_block r2 hx.symm; rw [hcj] at hc'; cases hc')
    have k87 : ∀ b, KeptT 166 b W W' := fun b => hc.keptT (fun j cc hj hcj hx => by
      rcases hx with rfl | hx
      · rw [hh] at hcj; cases hcj
      · obtain ⟨_, c', hc'⟩ := owns_block r2 hx.symm; rw [hcj] at hc'; cases hc')
    refine ⟨rfl, ?_, ?_⟩
    · have hes : endRuleS s = { st := 0, rules := s.rules ++ [⟨a0, pt.map (·.1)⟩], atoms := [], vars := [] } := by unfold endRuleS; rw [hat]
      rw [hes]
      refine ⟨v', .slice none 0 0, .slice none 0 0, W.heap.size, W.heap.size, by omega, by omega, hc.size, hc.size, h6, hS1, Nat.le_trans hS2 hc.size, hh', World.ownsRow_nil W' _ _ _, ⟨qs ++ [(⟨a0, pt.map (·.1)⟩, v0, bodyV g (pt.length + 1) c)], by simp [r1], ?_, ?_⟩, [], rfl, World.ownsRow_nil W' _ _ _, by simp, by simp⟩
      · simpa [ruleC] using hR'
      · intro q hq
        rcases List.mem_append.1 hq with hq | hq
        · exact ⟨((r3 q hq).1.mono h5).kept (k87 _), ((r3 q hq).2.mono h4 h5).kept (k45 _) (k87 _)⟩
        · simp at hq
          subst hq
          refine ⟨hs0.kept (k87 _), SealA.kept ⟨pt, if c = 1 then some ⟨g, 0, none⟩ else some ⟨g, 2, none⟩, c - 1, rfl, by simp [bodyV], ⟨fun p hp => hall p (by simp [hp]), by simp only [List.length_cons] at hnc; simp; omega⟩, fun hne' => ?_⟩ (k45 _) (k87 _)⟩
          have hpl : pt.length ≠ 0 := by intro e; exact hne' (by simp [List.eq_nil_of_length_eq_zero e])
          refine ⟨g, 2, cur, by rw [if_neg (by simp only [List.length_cons] at hnc; omega)], hgw, hw, ?_⟩
          have : (cur.toList.take ((pt.length + 1) * 2)).drop 2 = pt.flatMap atomC := by rw [htk0]; rfl
          rw [List.drop_take] at this
          rw [← this]; congr 1; simp; omega
    · refine PFr.ofChg hc (by omega) (fun j hj hx => ?_)
      rcases hx with rfl | hx
      · exact ⟨h6, _, _, _, hh, .inl rfl⟩
      · obtain ⟨hb, c, hc⟩ := owns_block r2 hx.symm; exact ⟨by omega, c, _, _, hc, .inr (.inl rfl)⟩

end Go.Proofs.YtjajnhemgphefaaGreatDoor
