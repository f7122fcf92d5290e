/-
  The parser's addWord where it adds a term to the last atom: the whole of it.
  The parser's endRule: the rule that was read is laid behind the others.
-/
import Derived.Test.YtjajnhemgphefaaGreatDoorJdTerm
namespace Go.Proofs.YtjajnhemgphefaaGreatDoor
open Go.RowKit Go.Shelf
set_option linter.unusedVariables false
set_option linter.unusedSimpArgs false

set_option maxRecDepth 100000 in
set_option maxHeartbeats 4000000 in
theorem addWord_term (bp : Nat) (vr va vv : Value) (n b45 b87 bS : Nat) (ys : List Value) (rel : Value) (aa : Option Addr) (m ca : Nat) (zs : List Value) (vs : List ByteArray) (k : Int) (t : ByteArray) (p r : Int) (hk12 : k = 1 ∨ k = 2) (hn1 : 1 ≤ n) (hn : n ≤ 1000) (hm : m ≤ 1000) (hnv : vs.length ≤ 100) (ht : t.size ≤ 1000000) (w : World) (hb87 : b87 ≤ w.heap.size) (hbS : bS ≤ w.heap.size)
    (hh : w.heap[bp]? = some (Obj.cells #[.int .i64 3, vr, va, vv] 179 (0, 0))) (hown : w.ownsRow b45 92 2 va n (ys ++ [rel, .slice aa m ca])) (hownT : w.ownsRow b87 166 2 (.slice aa m ca) m zs) (hV : w.ownsRow bS 9 1 vv vs.length (vs.map Value.string)) :
    Calls Tryz.prog 233 #[.pointer (some ⟨bp, 0, none⟩), tokV k t p r] w fun e w' => e = .returned (.tuple #[]) ∧
      ∃ v' vv', w'.heap[bp]? = some (Obj.cells #[.int .i64 4, vr, va, vv'] 179 (0, 0)) ∧ w'.ownsRow b45 92 2 va n (ys ++ [rel, v']) ∧ w'.ownsRow b87 166 2 v' (m + 1) (zs ++ [.string (termT vs k t).name, .int .i64 (termT vs k t).num]) ∧
        w'.ownsRow bS 9 1 vv' (termVs vs k t).length ((termVs vs k t).map Value.string) ∧
        Chg w w' (fun j => j = bp ∨ some j = va.ownBlock ∨ some j = (Value.slice aa m ca).ownBlock ∨ some j = vv.ownBlock) := by
  obtain ⟨TN, hTN⟩ : ∃ TN, (termT vs k t).name = TN := ⟨_, rfl⟩
  obtain ⟨TM, hTM⟩ : ∃ TM, (termT vs k t).num = TM := ⟨_, rfl⟩
  obtain ⟨VS, hVS⟩ : ∃ VS, termVs vs k t = VS := ⟨_, rfl⟩
  rw [hTN, hTM, hVS]
  have hbp : bp < w.heap.size := (Array.getElem?_eq_some_iff.1 hh).1
  have h0 : w.cell? ⟨bp, 0, none⟩ = some (.int .i64 3) := by simp [World.cell?, hh]
  obtain ⟨g, c, cur, rfl, hg, hbg, hlt, hy, htk, hyl⟩ := row_last hown hn1
  have hgw : g < w.heap.size := (Array.getElem?_eq_some_iff.1 hg).1
  have hgb : g ≠ bp := owns_ne hown hh (by decide) g rfl
  have hhT : (w.alloc (.cells (tokC k t p r) 191)).heap[bp]? = some (Obj.cells #[.int .i64 3, vr, .slice (some ⟨g, 0, none⟩) n c, vv] 179 (0, 0)) := (Below.heap_alloc _ _ _ hbp).trans hh
  have hlast := lastAtom_any bp 3 vr vv g n c hn1 hn _ hhT
  obtain ⟨i0, hi, hz0, hz1, hz2⟩ := info_parts Tryz.info87
  unfold tokV
  unfold tokC at hlast ⊢
  go_enter Tryz.func233, Tryz.ntmps233
  go_wp2_with fail
  refine hlast.mono ?_
  rintro e w2 ⟨rfl, q, hw2⟩
  have hc2 : Chg w w2 (fun _ => False) := by rw [hw2]; exact ⟨rfl, rfl, rfl, by show _ ≤ (w.alloc _).heap.size; simp, fun j hj _ => Below.heap_alloc _ _ j hj⟩
  have htok : w2.heap[w.heap.size]? = some (Obj.cells #[.int .i64 k, .string t, .int .i64 p, .int .i64 r] 191 (0, 0)) := by rw [hw2]; exact World.alloc_heap_new w _
  clear hw2 hlast hhT
  have hh2 : w2.heap[bp]? = some (Obj.cells #[.int .i64 3, vr, .slice (some ⟨g, 0, none⟩) n c, vv] 179 (0, 0)) := (hc2.block bp hbp (fun h => h)).trans hh
  have hg2 : w2.heap[g]? = some (Obj.cells cur 92 (0, 0)) := (hc2.block g hgw (fun h => h)).trans hg
  have hkp : ∀ (g' : Nat) (c' : Array Value) (T : TypeId), w.heap[g']? = some (Obj.cells c' T (0, 0)) → w2.heap[g']? = some (Obj.cells c' T (0, 0)) := fun g' c' T hc' => (hc2.block g' (Array.getElem?_eq_some_iff.1 hc').1 (fun h => h)).trans hc'
  have hownA2 : w2.ownsRow b45 92 2 (.slice (some ⟨g, 0, none⟩) n c) n (ys ++ [rel, .slice aa m ca]) := owns_kept hown (fun g' c' hg' hc' => hkp _ _ _ hc')
  have hownT2 : w2.ownsRow b87 166 2 (.slice aa m ca) m zs := owns_kept hownT (fun g' c' hg' hc' => hkp _ _ _ hc')
  have hV2 : w2.ownsRow bS 9 1 vv vs.length (vs.map Value.string) := owns_kept hV (fun g' c' hg' hc' => hkp _ _ _ hc')
  have hsz2 : w.heap.size ≤ w2.heap.size := hc2.size
  clear hh hg hown hownT h0 hV hkp
  have c0 : w2.cell? ⟨w.heap.size, 0, none⟩ = some (.int .i64 k) := by simp [World.cell?, htok]
  have c1 : w2.cell? ⟨w.heap.size, 1, none⟩ = some (.string t) := by simp [World.cell?, htok]
  have c3 : w2.cell? ⟨w.heap.size, 2, none⟩ = some (.int .i64 p) := by simp [World.cell?, htok]
  have c4 : w2.cell? ⟨w.heap.size, 3, none⟩ = some (.int .i64 r) := by simp [World.cell?, htok]
  have c2 : w2.cell? ⟨g, (n - 1) * 2 + 1, none⟩ = some (.slice aa m ca) := by simp [World.cell?, hg2, hy]
  have hTerm : Hid (∀ W, Below w2.heap.size w2 W → Calls Tryz.prog 261 #[.pointer (some ⟨bp, 0, none⟩), .agg #[.int .i64 k, .string t, .int .i64 p, .int .i64 r]] W fun e W1 => e = .returned (.agg #[.string TN, .int .i64 TM]) ∧
      ∃ vv', W1.heap[bp]? = some (Obj.cells #[.int .i64 3, vr, .slice (some ⟨g, 0, none⟩) n c, vv'] 179 (0, 0)) ∧ W1.heap[g]? = some (Obj.cells cur 92 (0, 0)) ∧ W1.ownsRow b45 92 2 (.slice (some ⟨g, 0, none⟩) n c) n (ys ++ [rel, .slice aa m ca]) ∧ W1.ownsRow b87 166 2 (.slice aa m ca) m zs ∧
        W1.ownsRow bS 9 1 vv' VS.length (VS.map Value.string) ∧ b87 ≤ W1.heap.size ∧ Chg w W1 (fun j => j = bp ∨ some j = (Value.slice (some ⟨g, 0, none⟩) n c).ownBlock ∨ some j = (Value.slice aa m ca).ownBlock ∨ some j = vv.ownBlock)) := by
    intro W hb
    have hkp : ∀ (g' : Nat) (c' : Array Value) (T : TypeId), w2.heap[g']? = some (Obj.cells c' T (0, 0)) → W.heap[g']? = some (Obj.cells c' T (0, 0)) := fun g' c' T hc' => (hb.block g' (Array.getElem?_eq_some_iff.1 hc').1).trans hc'
    have hVW := owns_kept hV2 (fun g' c' hg' hc' => hkp _ _ _ hc')
    have hbW := hb.size
    refine (term_any bp 3 vr _ vv vs bS k t p r hk12 ht hnv W (by omega) (hkp _ _ _ hh2) hVW).mono ?_
    rintro e W1 ⟨rfl, vv', q1, q2, q3⟩
    have hk3 : ∀ (g' : Nat) (c' : Array Value) (T : TypeId), T ≠ 179 → T ≠ 9 → w2.heap[g']? = some (Obj.cells c' T (0, 0)) → W1.heap[g']? = some (Obj.cells c' T (0, 0)) := by
      intro g' c' T t1 t2 hc'
      have hW := hkp _ _ _ hc'
      rw [q3.block g' (Array.getElem?_eq_some_iff.1 hW).1 (fun e => ?_)]
      · exact hW
      · rcases e with rfl | e
        · rw [hkp _ _ _ hh2] at hW; cases hW; exact t1 rfl
        · obtain ⟨_, _, d, fz, hd⟩ := own_str hVW _ e.symm; rw [hW] at hd; cases hd; exact t2 rfl
    rw [hTN, hTM]
    rw [hVS] at q2
    refine ⟨rfl, vv', q1, hk3 _ _ _ (by decide) (by decide) hg2, owns_kept hownA2 (fun g' c' hg' hc' => hk3 _ _ _ (by decide) (by decide) hc'), owns_kept hownT2 (fun g' c' hg' hc' => hk3 _ _ _ (by decide) (by decide) hc'), q2, by have := q3.size; omega, ?_⟩
    refine (hc2.mono (fun _ _ e => e.elim)).trans ((Chg.ofBelow _ hb).trans (q3.mono (fun j _ e => ?_)))
    rcases e with e | e
    · exact .inl e
    · exact .inr (.inr (.inr e))
  have hG : Hid (∀ W1 O w3 vv', W1.heap[bp]? = some (Obj.cells #[.int .i64 3, vr, .slice (some ⟨g, 0, none⟩) n c, vv'] 179 (0, 0)) → W1.heap[g]? = some (Obj.cells cur 92 (0, 0)) → W1.ownsRow b45 92 2 (.slice (some ⟨g, 0, none⟩) n c) n (ys ++ [rel, .slice aa m ca]) → W1.ownsRow b87 166 2 (.slice aa m ca) m zs →
        W1.ownsRow bS 9 1 vv' VS.length (VS.map Value.string) → Chg w W1 (fun j => j = bp ∨ some j = (Value.slice (some ⟨g, 0, none⟩) n c).ownBlock ∨ some j = (Value.slice aa m ca).ownBlock ∨ some j = vv.ownBlock) → (W1.alloc O).grownBy w3 (Value.slice aa m ca).ownBlock →
      w3.heap[bp]? = some (Obj.cells #[.int .i64 3, vr, .slice (some ⟨g, 0, none⟩) n c, vv'] 179 (0, 0)) ∧ w3.heap[g]? = some (Obj.cells cur 92 (0, 0)) ∧ w3.ownsRow b45 92 2 (.slice (some ⟨g, 0, none⟩) n c) n (ys ++ [rel, .slice aa m ca]) ∧ w3.ownsRow bS 9 1 vv' VS.length (VS.map Value.string) ∧ Chg w w3 (fun j => j = bp ∨ some j = (Value.slice (some ⟨g, 0, none⟩) n c).ownBlock ∨ some j = (Value.slice aa m ca).ownBlock ∨ some j = vv.ownBlock)) := by
    intro W1 O w3 vv' q1 q2 q3 q4 q5 q6 hgr
    have hc : Chg W1 w3 (fun j => some j = (Value.slice aa m ca).ownBlock) := ((Chg.refl W1 _).alloc _).grown hgr (fun k e _ => e.symm)
    have hk3 : ∀ (g' : Nat) (c' : Array Value) (T : TypeId), T ≠ 166 → W1.heap[g']? = some (Obj.cells c' T (0, 0)) → w3.heap[g']? = some (Obj.cells c' T (0, 0)) := by
      intro g' c' T t1 hc'
      exact (hc.block g' (Array.getElem?_eq_some_iff.1 hc').1 (fun e => owns_ne q4 hc' t1 g' e.symm rfl)).trans hc'
    exact ⟨hk3 _ _ _ (by decide) q1, hk3 _ _ _ (by decide) q2, owns_kept q3 (fun g' c' hg' hc' => hk3 _ _ _ (by decide) hc'), owns_kept q5 (fun g' c' hg' hc' => hk3 _ _ _ (by decide) hc'), q6.trans (hc.mono (fun j _ e => .inr (.inr (.inl e))))⟩
  have h1c : ∀ u ∈ [Value.string TN, .int .i64 TM], u.oneCell' = true := by simp [Value.oneCell']
  have hb1 : m + 1 ≤ maxLen := by unfold maxLen; omega
  have hb2 : (m + 1) * 24 ≤ 140737488355328 := by omega
  have hTK : Hid _ := htok
  clear hownA2 hownT2 hV2 hh2 hg2 hc2 htok hTN hTM hVS
  go_wp2
  go_region_law (first | (refine step_append_own rfl (.tmp 16) (.tmp 20) 90 rfl b87 166 i0 (.agg #[.string ⟨#[]⟩, .int .i64 0]) 2 24 Tryz.underlying90 hi hz0 hz1 hz2 rfl (by decide) (.slice aa m ca) m zs (by simp [Act.eval, Act.put]) (World.ownsRow.alloc z4 _) ⟨W1.heap.size, 0, none⟩ 1 1 [.string TN, .int .i64 TM] (by simp [Act.eval, Act.put]) rfl (cell_two_new W1 (.string TN) (.int .i64 TM) 166) h1c hb1 hb2 (by simp; omega) ?_; intro v' w3 hown3 hgrow3; obtain ⟨g', cap', hv'⟩ := ownsRow_succ hown3; subst hv'; obtain ⟨hhw, hgc, hoA, hoV, hch⟩ := hG.out W1 _ w3 vv' z1 z2 z3 z4 z5 z7 hgrow3; have d0 : w3.cell? ⟨bp, 0, none⟩ = some (.int .i64 3) := (by simp [World.cell?, hhw]); have d2 : w3.cell? ⟨g, (n - 1) * 2 + 1, none⟩ = some (.slice aa m ca) := (by simp [World.cell?, hgc, hy]); have f0 : w3.frozen? ⟨bp, 0, none⟩ = false := (by simp [World.frozen?, hhw]); have f2 : w3.frozen? ⟨g, (n - 1) * 2 + 1, none⟩ = false := (by simp [World.frozen?, hgc])) | (go_simp; (try go_wp2_with fail); refine (hTerm.out _ (Below.drew (Below.refl w2.heap.size w2))).mono ?_; rintro e W1 ⟨rfl, vv', z1, z2, z3, z4, z5, z6, z7⟩; have k2 : W1.cell? ⟨g, (n - 1) * 2 + 1, none⟩ = some (.slice aa m ca) := (by simp [World.cell?, z2, hy]); have ka2 : ∀ O, (W1.alloc O).cell? ⟨g, (n - 1) * 2 + 1, none⟩ = some (.slice aa m ca) := fun O => cell_later ((Below.refl W1.heap.size W1).alloc (Nat.le_refl _) O) k2; have kne : g ≠ W1.heap.size := (by have := (Array.getElem?_eq_some_iff.1 z2).1; omega); try go_wp2)) 
  all_goals
    go_wp2
    refine bodyPost_ret (results_none rfl _ _ _) rfl ?_
    exact ⟨rfl, .slice (some ⟨g', 0, none⟩) (m + 1) cap', vv', fin_term hn1 hhw hgc hoA hown3 hoV hch⟩

end Go.Proofs.YtjajnhemgphefaaGreatDoor

namespace Go.Proofs.YtjajnhemgphefaaGreatDoor
open Go.RowKit Go.Shelf
set_option linter.unusedVariables false
set_option linter.unusedSimpArgs false

theorem cell_three_new (w : World) (a b d : Value) (t : TypeId) : ∀ j u, [a, b, d][j]? = some u → (w.alloc (.cells #[a, b, d] t)).cell? ((⟨w.heap.size, 0, none⟩ : Addr).add j) = some u := by
  intro j u hj
  match j, hj with
  | 0, hj => simp at hj; subst hj; simp [Addr.add]
  | 1, hj => simp at hj; subst hj; simp [Addr.add]
  | 2, hj => simp at hj; subst hj; simp [Addr.add]
  | j + 3, hj => simp at hj

/-- The atoms behind the first, as Go slices them off. -/
def bodyV (g n c : Nat) : Value := .slice (if c = 1 then some ⟨g, 0, none⟩ else some ⟨g, 2, none⟩) (n - 1) (c - 1)

theorem fin_rule {w w1 : World} {bp n base : Nat} {st : Int} {x y z v' : Value} {xs : List Value} {ex : Nat → Prop} (hh : w1.heap[bp]? = some (Obj.cells #[.int .i64 st, x, y, z] 179 (0, 0)))
    (ho : w1.ownsRow base 136 3 v' n xs) (hc : Chg w w1 (fun j => j = bp ∨ ex j)) :
    ((((w1.setCell ⟨bp, 1, none⟩ v').setCell ⟨bp, 2, none⟩ (.slice none 0 0)).setCell ⟨bp, 3, none⟩ (.slice none 0 0)).setCell ⟨bp, 0, none⟩ (.int .i64 0)).heap[bp]? = some (Obj.cells #[.int .i64 0, v', .slice none 0 0, .slice none 0 0] 179 (0, 0)) ∧
    ((((w1.setCell ⟨bp, 1, none⟩ v').setCell ⟨bp, 2, none⟩ (.slice none 0 0)).setCell ⟨bp, 3, none⟩ (.slice none 0 0)).setCell ⟨bp, 0, none⟩ (.int .i64 0)).ownsRow base 136 3 v' n xs ∧
    Chg w ((((w1.setCell ⟨bp, 1, none⟩ v').setCell ⟨bp, 2, none⟩ (.slice none 0 0)).setCell ⟨bp, 3, none⟩ (.slice none 0 0)).setCell ⟨bp, 0, none⟩ (.int .i64 0)) (fun j => j = bp ∨ ex j) := by
  refine ⟨heap_set (heap_set (heap_set (heap_set hh 1 v') 2 _) 3 _) 0 _, ?_, (((hc.setCell ⟨bp, 1, none⟩ _ (fun _ => .inl rfl)).setCell ⟨bp, 2, none⟩ _ (fun _ => .inl rfl)).setCell ⟨bp, 3, none⟩ _ (fun _ => .inl rfl)).setCell ⟨bp, 0, none⟩ _ (fun _ => .inl rfl)⟩
  exact owns_set (owns_set (owns_set (owns_set ho _ _ (owns_ne ho hh (by decide))) _ _ (owns_ne ho hh (by decide))) _ _ (owns_ne ho hh (by decide))) _ _ (owns_ne ho hh (by decide))

set_option maxRecDepth 100000 in
set_option maxHeartbeats 4000000 in
theorem endRule_one (bp : Nat) (st : Int) (xa : Option Addr) (xn xc : Nat) (ar : Option Addr) (nr cr g base : Nat) (xs : List Value) (rel args : Value) (hrel : ∃ s, rel = .string s) (hargs : ∃ a m q, args = .slice a m q) (hr : nr ≤ 1000) (w : World) (hbase : base ≤ w.heap.size)
    (hh : w.heap[bp]? = some (Obj.cells #[.int .i64 st, .slice ar nr cr, .slice (some ⟨g, 0, none⟩) 1 1, .slice xa xn xc] 179 (0, 0)))
    (hg0 : w.cell? ⟨g, 0, none⟩ = some rel) (hg1 : w.cell? ⟨g, 1, none⟩ = some args) (hown : w.ownsRow base 136 3 (.slice ar nr cr) nr xs) :
    Calls Tryz.prog 236 #[.pointer (some ⟨bp, 0, none⟩)] w fun e w' => e = .returned (.tuple #[]) ∧
      ∃ v', w'.heap[bp]? = some (Obj.cells #[.int .i64 0, v', .slice none 0 0, .slice none 0 0] 179 (0, 0)) ∧ w'.ownsRow base 136 3 v' (nr + 1) (xs ++ [rel, args, bodyV g 1 1]) ∧
        Chg w w' (fun j => j = bp ∨ some j = (Value.slice ar nr cr).ownBlock) := by
  obtain ⟨rs, rfl⟩ := hrel
  obtain ⟨aa, am, aq, rfl⟩ := hargs
  have hbp : bp < w.heap.size := (Array.getElem?_eq_some_iff.1 hh).1
  have c0 : w.cell? ⟨bp, 0, none⟩ = some (.int .i64 st) := by simp [World.cell?, hh]
  have c1 : w.cell? ⟨bp, 1, none⟩ = some (.slice ar nr cr) := by simp [World.cell?, hh]
  have c2 : w.cell? ⟨bp, 2, none⟩ = some (.slice (some ⟨g, 0, none⟩) 1 1) := by simp [World.cell?, hh]
  have c3 : w.cell? ⟨bp, 3, none⟩ = some (.slice xa xn xc) := by simp [World.cell?, hh]
  have f1 : w.frozen? ⟨bp, 1, none⟩ = false := by simp [World.frozen?, hh]
  obtain ⟨i0, hi, hz0, hz1, hz2⟩ := info_parts Tryz.info48
  have hA : Hid ((w.alloc (.cells #[.string rs, .slice aa am aq, .slice (some ⟨g, 0, none⟩) 0 0] 136)).ownsRow base 136 3 (.slice ar nr cr) nr xs) := hown.alloc _
  have hN : Hid (∀ j u, [Value.string rs, .slice aa am aq, .slice (some ⟨g, 0, none⟩) 0 0][j]? = some u → (w.alloc (.cells #[.string rs, .slice aa am aq, .slice (some ⟨g, 0, none⟩) 0 0] 136)).cell? ((⟨w.heap.size, 0, none⟩ : Addr).add j) = some u) := cell_three_new w _ _ _ _
  have hG : Hid (∀ w1, (w.alloc (.cells #[.string rs, .slice aa am aq, .slice (some ⟨g, 0, none⟩) 0 0] 136)).drew.grownBy w1 (Value.slice ar nr cr).ownBlock →
      w1.heap[bp]? = some (Obj.cells #[.int .i64 st, .slice ar nr cr, .slice (some ⟨g, 0, none⟩) 1 1, .slice xa xn xc] 179 (0, 0)) ∧ Chg w w1 (fun j => j = bp ∨ some j = (Value.slice ar nr cr).ownBlock)) := by
    intro w1 hgr
    have hc : Chg w w1 (fun j => some j = (Value.slice ar nr cr).ownBlock) := (((Chg.refl w _).alloc _).drew).grown hgr (fun k e _ => e.symm)
    exact ⟨(hc.block bp hbp (fun e => owns_ne hown hh (by decide) bp e.symm rfl)).trans hh, hc.mono (fun _ _ e => .inr e)⟩
  have h1c : ∀ u ∈ [Value.string rs, .slice aa am aq, .slice (some ⟨g, 0, none⟩) 0 0], u.oneCell' = true := by simp [Value.oneCell']
  have hb1 : nr + 1 ≤ maxLen := by unfold maxLen; omega
  have hb2 : (nr + 1) * 64 ≤ 140737488355328 := by omega
  have HB3 : Hid (base ≤ (w.alloc (.cells #[.string rs, .slice aa am aq, .slice (some ⟨g, 0, none⟩) 0 0] 136)).drew.heap.size) := by
    show base ≤ (w.alloc (.cells #[.string rs, .slice aa am aq, .slice (some ⟨g, 0, none⟩) 0 0] 136)).heap.size
    simp; omega
  clear hh hown
  go_enter Tryz.func236, Tryz.ntmps236
  go_wp2
  go_region_law (refine step_append_own rfl (.tmp 6) (.tmp 19) 75 rfl base 136 i0 (.agg #[.string ⟨#[]⟩, .slice none 0 0, .slice none 0 0]) 3 64 Tryz.underlying75 hi hz0 hz1 hz2 rfl (by decide) (.slice ar nr cr) nr xs (by simp [Act.eval, Act.put]) hA.out ⟨w.heap.size, 0, none⟩ 1 1 [.string rs, .slice aa am aq, .slice (some ⟨g, 0, none⟩) 0 0] (by simp [Act.eval, Act.put]) rfl hN.out h1c hb1 hb2 HB3.out ?_; intro v' w1 hown1 hgrow1; obtain ⟨g', cap', hv'⟩ := ownsRow_succ hown1; subst hv'; obtain ⟨hhw, hch⟩ := hG.out w1 hgrow1; have d0 : w1.cell? ⟨bp, 0, none⟩ = some (.int .i64 st) := (by simp [World.cell?, hhw]); have d1 : w1.cell? ⟨bp, 1, none⟩ = some (.slice ar nr cr) := (by simp [World.cell?, hhw]); have d2 : w1.cell? ⟨bp, 2, none⟩ = some (.slice (some ⟨g, 0, none⟩) 1 1) := (by simp [World.cell?, hhw]); have d3 : w1.cell? ⟨bp, 3, none⟩ = some (.slice xa xn xc) := (by simp [World.cell?, hhw]); have e3 : w1.frozen? ⟨bp, 3, none⟩ = false := (by simp [World.frozen?, hhw]); have e0 : w1.frozen? ⟨bp, 0, none⟩ = false := (by simp [World.frozen?, hhw]); have e1 : w1.frozen? ⟨bp, 1, none⟩ = false := (by simp [World.frozen?, hhw]); have e2 : w1.frozen? ⟨bp, 2, none⟩ = false := (by simp [World.frozen?, hhw]))
  all_goals
    clear hA hN hG HB3 h1c hgrow1 hb1 hb2 hg0 hg1
    go_wp2
    go_end0
    refine ⟨rfl, .slice (some ⟨g', 0, none⟩) (nr + 1) cap', ?_⟩
    have hbv : bodyV g 1 1 = .slice (some ⟨g, 0, none⟩) 0 0 := rfl
    rw [hbv]
    exact fin_rule hhw hown1 hch

end Go.Proofs.YtjajnhemgphefaaGreatDoor
