/-
  The parser's addWord where it adds a term to the last atom.
-/
import Derived.Test.YtpfknibkdiebaaaDoorChg
namespace Go.Proofs.YtpfknibkdiebaaaDoor
open Go.RowKit Go.Shelf
set_option linter.unusedVariables false
set_option linter.unusedSimpArgs false

theorem fin_term {w w3 : World} {bp g n b45 b87 k c : Nat} {vr v' : Value} {cur : Array Value} {ys zs : List Value} {rel y : Value} {ex : Nat → Prop} (hn : 1 ≤ n)
    (hh : w3.heap[bp]? = some (Obj.cells #[.int .i64 3, vr, .slice (some ⟨g, 0, none⟩) n c] 54 (0, 0))) (hg : w3.heap[g]? = some (Obj.cells cur 45 (0, 0)))
    (hoA : w3.ownsRow b45 45 2 (.slice (some ⟨g, 0, none⟩) n c) n (ys ++ [rel, y])) (hoT : w3.ownsRow b87 87 2 v' k zs)
    (hc : Chg w w3 (fun j => j = bp ∨ some j = (Value.slice (some ⟨g, 0, none⟩) n c).ownBlock ∨ ex j)) :
    ((w3.setCell ⟨g, (n - 1) * 2 + 1, none⟩ v').setCell ⟨bp, 0, none⟩ (.int .i64 4)).heap[bp]? = some (Obj.cells #[.int .i64 4, vr, .slice (some ⟨g, 0, none⟩) n c] 54 (0, 0)) ∧
    ((w3.setCell ⟨g, (n - 1) * 2 + 1, none⟩ v').setCell ⟨bp, 0, none⟩ (.int .i64 4)).ownsRow b45 45 2 (.slice (some ⟨g, 0, none⟩) n c) n (ys ++ [rel, v']) ∧
    ((w3.setCell ⟨g, (n - 1) * 2 + 1, none⟩ v').setCell ⟨bp, 0, none⟩ (.int .i64 4)).ownsRow b87 87 2 v' k zs ∧
    Chg w ((w3.setCell ⟨g, (n - 1) * 2 + 1, none⟩ v').setCell ⟨bp, 0, none⟩ (.int .i64 4)) (fun j => j = bp ∨ some j = (Value.slice (some ⟨g, 0, none⟩) n c).ownBlock ∨ ex j) := by
  have hne : g ≠ bp := owns_ne hoA hh (by decide) g rfl
  refine ⟨heap_set ((Below.heap_setCell _ _ _ bp (fun e => hne e.symm)).trans hh) 0 _, ?_, ?_, (hc.setCell ⟨g, (n - 1) * 2 + 1, none⟩ v' (fun _ => .inr (.inl rfl))).setCell ⟨bp, 0, none⟩ _ (fun _ => .inl rfl)⟩
  · exact owns_set (row_set_last hoA hn rfl) _ _ (fun g' hg' => by simp [Value.ownBlock] at hg'; subst hg'; exact hne)
  · exact owns_set (owns_set hoT _ _ (owns_ne hoT hg (by decide))) _ _ (owns_ne hoT hh (by decide))

set_option maxHeartbeats 2000000 in
theorem addWord_term (bp : Nat) (vr va : Value) (n b45 b87 : Nat) (ys : List Value) (rel : Value) (aa : Option Addr) (m ca : Nat) (zs : List Value) (k : Int) (t : ByteArray) (p r : Int) (hn1 : 1 ≤ n) (hn : n ≤ 1000) (hm : m ≤ 1000) (w : World) (hb87 : b87 ≤ w.heap.size)
    (hh : w.heap[bp]? = some (Obj.cells #[.int .i64 3, vr, va] 54 (0, 0))) (hown : w.ownsRow b45 45 2 va n (ys ++ [rel, .slice aa m ca])) (hownT : w.ownsRow b87 87 2 (.slice aa m ca) m zs) :
    Calls Tryd.prog 50 #[.pointer (some ⟨bp, 0, none⟩), tokV k t p r] w fun e w' => e = .returned (.tuple #[]) ∧
      ∃ v', w'.heap[bp]? = some (Obj.cells #[.int .i64 4, vr, va] 54 (0, 0)) ∧ w'.ownsRow b45 45 2 va n (ys ++ [rel, v']) ∧ w'.ownsRow b87 87 2 v' (m + 1) (zs ++ [.string t, .bool (k == 2)]) ∧
        Chg w w' (fun j => j = bp ∨ some j = va.ownBlock ∨ some j = (Value.slice aa m ca).ownBlock) := by
  have hbp : bp < w.heap.size := (Array.getElem?_eq_some_iff.1 hh).1
  have h0 : w.cell? ⟨bp, 0, none⟩ = some (.int .i64 3) := by simp [World.cell?, hh]
  obtain ⟨g, c, cur, rfl, hg, hbg, hlt, hy, htk, hyl⟩ := row_last hown hn1
  have hgw : g < w.heap.size := (Array.getElem?_eq_some_iff.1 hg).1
  have hgb : g ≠ bp := owns_ne hown hh (by decide) g rfl
  have hhT : (w.alloc (.cells (tokC k t p r) 60)).heap[bp]? = some (Obj.cells #[.int .i64 3, vr, .slice (some ⟨g, 0, none⟩) n c] 54 (0, 0)) := (Below.heap_alloc _ _ _ hbp).trans hh
  have hlast := lastAtom_any bp 3 vr g n c hn1 hn _ hhT
  obtain ⟨i0, hi, hz0, hz1, hz2⟩ := info_parts Tryd.info87
  unfold tokV
  unfold tokC at hlast ⊢
  go_enter Tryd.func50, Tryd.ntmps50
  go_wp2_with fail
  refine hlast.mono ?_
  rintro e w2 ⟨rfl, q, hw2⟩
  have hc2 : Chg w w2 (fun _ => False) := by rw [hw2]; exact ⟨rfl, rfl, rfl, by show _ ≤ (w.alloc _).heap.size; simp, fun j hj _ => Below.heap_alloc _ _ j hj⟩
  have htok : w2.heap[w.heap.size]? = some (Obj.cells #[.int .i64 k, .string t, .int .i64 p, .int .i64 r] 60 (0, 0)) := by rw [hw2]; exact World.alloc_heap_new w _
  clear hw2 hlast hhT
  have hh2 : w2.heap[bp]? = some (Obj.cells #[.int .i64 3, vr, .slice (some ⟨g, 0, none⟩) n c] 54 (0, 0)) := (hc2.block bp hbp (fun h => h)).trans hh
  have hg2 : w2.heap[g]? = some (Obj.cells cur 45 (0, 0)) := (hc2.block g hgw (fun h => h)).trans hg
  have hownA2 : w2.ownsRow b45 45 2 (.slice (some ⟨g, 0, none⟩) n c) n (ys ++ [rel, .slice aa m ca]) := owns_kept hown (fun g' c' hg' hc' => (hc2.block g' (Array.getElem?_eq_some_iff.1 hc').1 (fun h => h)).trans hc')
  have hownT2 : w2.ownsRow b87 87 2 (.slice aa m ca) m zs := owns_kept hownT (fun g' c' hg' hc' => (hc2.block g' (Array.getElem?_eq_some_iff.1 hc').1 (fun h => h)).trans hc')
  have hsz2 : w.heap.size ≤ w2.heap.size := hc2.size
  clear hh hg hown hownT h0
  have c0 : w2.cell? ⟨w.heap.size, 0, none⟩ = some (.int .i64 k) := by simp [World.cell?, htok]
  have c1 : w2.cell? ⟨w.heap.size, 1, none⟩ = some (.string t) := by simp [World.cell?, htok]
  have c2 : w2.cell? ⟨g, (n - 1) * 2 + 1, none⟩ = some (.slice aa m ca) := by simp [World.cell?, hg2, hy]
  have htne : w.heap.size < w2.heap.size := (Array.getElem?_eq_some_iff.1 htok).1
  have hgw2 : g < w2.heap.size := (Array.getElem?_eq_some_iff.1 hg2).1
  have hbp2 : bp < w2.heap.size := (Array.getElem?_eq_some_iff.1 hh2).1
  have hA : Hid ((w2.alloc (.cells #[.string t, .bool (k == 2)] 87)).ownsRow b87 87 2 (.slice aa m ca) m zs) := hownT2.alloc _
  have hN : Hid (∀ j u, [Value.string t, .bool (k == 2)][j]? = some u → (w2.alloc (.cells #[.string t, .bool (k == 2)] 87)).cell? ((⟨w2.heap.size, 0, none⟩ : Addr).add j) = some u) := cell_two_new w2 (.string t) (.bool (k == 2)) 87
  have hG : Hid (∀ w3, (w2.alloc (.cells #[.string t, .bool (k == 2)] 87)).drew.grownBy w3 (Value.slice aa m ca).ownBlock →
      w3.heap[bp]? = some (Obj.cells #[.int .i64 3, vr, .slice (some ⟨g, 0, none⟩) n c] 54 (0, 0)) ∧ w3.ownsRow b45 45 2 (.slice (some ⟨g, 0, none⟩) n c) n (ys ++ [rel, .slice aa m ca]) ∧ w3.heap[g]? = some (Obj.cells cur 45 (0, 0)) ∧ Chg w w3 (fun j => j = bp ∨ some j = (Value.slice (some ⟨g, 0, none⟩) n c).ownBlock ∨ some j = (Value.slice aa m ca).ownBlock)) := by
    intro w3 hgr
    have hc : Chg w2 w3 (fun j => some j = (Value.slice aa m ca).ownBlock) := (((Chg.refl w2 _).alloc _).drew).grown hgr (fun k e _ => e.symm)
    refine ⟨(hc.block bp hbp2 (fun e => owns_ne hownT2 hh2 (by decide) bp e.symm rfl)).trans hh2, owns_kept hownA2 (fun g' c' hg' hc' => ?_), (hc.block g hgw2 (fun e => owns_ne hownT2 hg2 (by decide) g e.symm rfl)).trans hg2, (hc2.mono (fun _ _ e => e.elim)).trans (hc.mono (fun _ _ e => .inr (.inr e)))⟩
    exact (hc.block g' (Array.getElem?_eq_some_iff.1 hc').1 (fun e => owns_ne hownT2 hc' (by decide) g' e.symm rfl)).trans hc'
  have h1c : ∀ u ∈ [Value.string t, .bool (k == 2)], u.oneCell' = true := by simp [Value.oneCell']
  have hb1 : m + 1 ≤ maxLen := by unfold maxLen; omega
  have hb2 : (m + 1) * 24 ≤ 140737488355328 := by omega
  have HB3 : Hid (b87 ≤ (w2.alloc (.cells #[.string t, .bool (k == 2)] 87)).drew.heap.size) := by
    show b87 ≤ (w2.alloc (.cells #[.string t, .bool (k == 2)] 87)).heap.size
    simp; omega
  clear htok hc2 hh2 hg2 hownA2 hownT2
  have i1 : g ≠ w2.heap.size := by omega
  have i2 : w.heap.size ≠ w2.heap.size := by omega
  go_wp2
  go_region_law (refine step_append_own rfl (.tmp 16) (.tmp 23) 43 rfl b87 87 i0 (.agg #[.string ⟨#[]⟩, .bool false]) 2 24 Tryd.underlying43 hi hz0 hz1 hz2 rfl (by decide) (.slice aa m ca) m zs (by simp [Act.eval, Act.put]) hA.out ⟨w2.heap.size, 0, none⟩ 1 1 [.string t, .bool (k == 2)] (by simp [Act.eval, Act.put]) rfl hN.out h1c hb1 hb2 HB3.out ?_; intro v' w3 hown3 hgrow3; obtain ⟨g', cap', hv'⟩ := ownsRow_succ hown3; subst hv'; obtain ⟨hhw, hoA, hgc, hch⟩ := hG.out w3 hgrow3; have d0 : w3.cell? ⟨bp, 0, none⟩ = some (.int .i64 3) := (by simp [World.cell?, hhw]); have d2 : w3.cell? ⟨g, (n - 1) * 2 + 1, none⟩ = some (.slice aa m ca) := (by simp [World.cell?, hgc, hy]); have f0 : w3.frozen? ⟨bp, 0, none⟩ = false := (by simp [World.frozen?, hhw]); have f2 : w3.frozen? ⟨g, (n - 1) * 2 + 1, none⟩ = false := (by simp [World.frozen?, hgc]))
  all_goals
    go_wp2
    refine bodyPost_ret (results_none rfl _ _ _) rfl ?_
    exact ⟨rfl, .slice (some ⟨g', 0, none⟩) (m + 1) cap', fin_term hn1 hhw hgc hoA hown3 hch⟩

end Go.Proofs.YtpfknibkdiebaaaDoor
