/-
  The parser's endRule: the rule that was read is laid behind the others.
-/
import Derived.Test.YtjajnhemgphefaaDoorJChg
namespace Go.Proofs.YtjajnhemgphefaaDoor
open Go.RowKit Go.Shelf
set_option linter.unusedVariables false
set_option linter.unusedSimpArgs false

theorem cell_three_new (w : World) (a b d : Value) (t : TypeId) : ∀ j u, [a, b, d][j]? = some u → (w.alloc (.cells #[a, b, d] t)).cell? ((⟨w.heap.size, 0, none⟩ : Addr).add j) = some u := by
  intro j u hj
  match j, hj with
  | 0, hj => simp at hj; subst hj; simp [Addr.add]
  | 1, hj => simp at hj; subst hj; simp [Addr.add]
  | 2, hj => simp at hj; subst hj; simp [Addr.add]
  | j + 3, hj => simp at hj

/-- The atoms behind the first, as Go slices them off. -/
def bodyV (g n c : Nat) : Value := .slice (if c = 1 then some ⟨g, 0, none⟩ else some ⟨g, 2, none⟩) (n - 1) (c - 1)

theorem fin_rule {w w1 : World} {bp n base : Nat} {st : Int} {x y z v' : Value} {xs : List Value} {ex : Nat → Prop} (hh : w1.heap[bp]? = some (Obj.cells #[.int .i64 st, x, y, z] 53 (0, 0)))
    (ho : w1.ownsRow base 48 3 v' n xs) (hc : Chg w w1 (fun j => j = bp ∨ ex j)) :
    ((((w1.setCell ⟨bp, 1, none⟩ v').setCell ⟨bp, 2, none⟩ (.slice none 0 0)).setCell ⟨bp, 3, none⟩ (.slice none 0 0)).setCell ⟨bp, 0, none⟩ (.int .i64 0)).heap[bp]? = some (Obj.cells #[.int .i64 0, v', .slice none 0 0, .slice none 0 0] 53 (0, 0)) ∧
    ((((w1.setCell ⟨bp, 1, none⟩ v').setCell ⟨bp, 2, none⟩ (.slice none 0 0)).setCell ⟨bp, 3, none⟩ (.slice none 0 0)).setCell ⟨bp, 0, none⟩ (.int .i64 0)).ownsRow base 48 3 v' n xs ∧
    Chg w ((((w1.setCell ⟨bp, 1, none⟩ v').setCell ⟨bp, 2, none⟩ (.slice none 0 0)).setCell ⟨bp, 3, none⟩ (.slice none 0 0)).setCell ⟨bp, 0, none⟩ (.int .i64 0)) (fun j => j = bp ∨ ex j) := by
  refine ⟨heap_set (heap_set (heap_set (heap_set hh 1 v') 2 _) 3 _) 0 _, ?_, (((hc.setCell ⟨bp, 1, none⟩ _ (fun _ => .inl rfl)).setCell ⟨bp, 2, none⟩ _ (fun _ => .inl rfl)).setCell ⟨bp, 3, none⟩ _ (fun _ => .inl rfl)).setCell ⟨bp, 0, none⟩ _ (fun _ => .inl rfl)⟩
  exact owns_set (owns_set (owns_set (owns_set ho _ _ (owns_ne ho hh (by decide))) _ _ (owns_ne ho hh (by decide))) _ _ (owns_ne ho hh (by decide))) _ _ (owns_ne ho hh (by decide))

set_option maxRecDepth 100000 in
set_option maxHeartbeats 4000000 in
theorem endRule_one (bp : Nat) (st : Int) (xa : Option Addr) (xn xc : Nat) (ar : Option Addr) (nr cr g base : Nat) (xs : List Value) (rel args : Value) (hrel : ∃ s, rel = .string s) (hargs : ∃ a m q, args = .slice a m q) (hr : nr ≤ 1000) (w : World) (hbase : base ≤ w.heap.size)
    (hh : w.heap[bp]? = some (Obj.cells #[.int .i64 st, .slice ar nr cr, .slice (some ⟨g, 0, none⟩) 1 1, .slice xa xn xc] 53 (0, 0)))
    (hg0 : w.cell? ⟨g, 0, none⟩ = some rel) (hg1 : w.cell? ⟨g, 1, none⟩ = some args) (hown : w.ownsRow base 48 3 (.slice ar nr cr) nr xs) :
    Calls Tryd.prog 62 #[.pointer (some ⟨bp, 0, none⟩)] w fun e w' => e = .returned (.tuple #[]) ∧
      ∃ v', w'.heap[bp]? = some (Obj.cells #[.int .i64 0, v', .slice none 0 0, .slice none 0 0] 53 (0, 0)) ∧ w'.ownsRow base 48 3 v' (nr + 1) (xs ++ [rel, args, bodyV g 1 1]) ∧
        Chg w w' (fun j => j = bp ∨ some j = (Value.slice ar nr cr).ownBlock) := by
  obtain ⟨rs, rfl⟩ := hrel
  obtain ⟨aa, am, aq, rfl⟩ := hargs
  have hbp : bp < w.heap.size := (Array.getElem?_eq_some_iff.1 hh).1
  have c0 : w.cell? ⟨bp, 0, none⟩ = some (.int .i64 st) := by simp [World.cell?, hh]
  have c1 : w.cell? ⟨bp, 1, none⟩ = some (.slice ar nr cr) := by simp [World.cell?, hh]
  have c2 : w.cell? ⟨bp, 2, none⟩ = some (.slice (some ⟨g, 0, none⟩) 1 1) := by simp [World.cell?, hh]
  have c3 : w.cell? ⟨bp, 3, none⟩ = some (.slice xa xn xc) := by simp [World.cell?, hh]
  have f1 : w.frozen? ⟨bp, 1, none⟩ = false := by simp [World.frozen?, hh]
  obtain ⟨i0, hi, hz0, hz1, hz2⟩ := info_parts Tryd.info48
  have hA : Hid ((w.alloc (.cells #[.string rs, .slice aa am aq, .slice (some ⟨g, 0, none⟩) 0 0] 48)).ownsRow base 48 3 (.slice ar nr cr) nr xs) := hown.alloc _
  have hN : Hid (∀ j u, [Value.string rs, .slice aa am aq, .slice (some ⟨g, 0, none⟩) 0 0][j]? = some u → (w.alloc (.cells #[.string rs, .slice aa am aq, .slice (some ⟨g, 0, none⟩) 0 0] 48)).cell? ((⟨w.heap.size, 0, none⟩ : Addr).add j) = some u) := cell_three_new w _ _ _ _
  have hG : Hid (∀ w1, (w.alloc (.cells #[.string rs, .slice aa am aq, .slice (some ⟨g, 0, none⟩) 0 0] 48)).drew.grownBy w1 (Value.slice ar nr cr).ownBlock →
      w1.heap[bp]? = some (Obj.cells #[.int .i64 st, .slice ar nr cr, .slice (some ⟨g, 0, none⟩) 1 1, .slice xa xn xc] 53 (0, 0)) ∧ Chg w w1 (fun j => j = bp ∨ some j = (Value.slice ar nr cr).ownBlock)) := by
    intro w1 hgr
    have hc : Chg w w1 (fun j => some j = (Value.slice ar nr cr).ownBlock) := (((Chg.refl w _).alloc _).drew).grown hgr (fun k e _ => e.symm)
    exact ⟨(hc.block bp hbp (fun e => owns_ne hown hh (by decide) bp e.symm rfl)).trans hh, hc.mono (fun _ _ e => .inr e)⟩
  have h1c : ∀ u ∈ [Value.string rs, .slice aa am aq, .slice (some ⟨g, 0, none⟩) 0 0], u.oneCell' = true := by simp [Value.oneCell']
  have hb1 : nr + 1 ≤ maxLen := by unfold maxLen; omega
  have hb2 : (nr + 1) * 64 ≤ 140737488355328 := by omega
  have HB3 : Hid (base ≤ (w.alloc (.cells #[.string rs, .slice aa am aq, .slice (some ⟨g, 0, none⟩) 0 0] 48)).drew.heap.size) := by
    show base ≤ (w.alloc (.cells #[.string rs, .slice aa am aq, .slice (some ⟨g, 0, none⟩) 0 0] 48)).heap.size
    simp; omega
  clear hh hown
  go_enter Tryd.func62, Tryd.ntmps62
  go_wp2
  go_region_law (refine step_append_own rfl (.tmp 6) (.tmp 19) 33 rfl base 48 i0 (.agg #[.string ⟨#[]⟩, .slice none 0 0, .slice none 0 0]) 3 64 Tryd.underlying33 hi hz0 hz1 hz2 rfl (by decide) (.slice ar nr cr) nr xs (by simp [Act.eval, Act.put]) hA.out ⟨w.heap.size, 0, none⟩ 1 1 [.string rs, .slice aa am aq, .slice (some ⟨g, 0, none⟩) 0 0] (by simp [Act.eval, Act.put]) rfl hN.out h1c hb1 hb2 HB3.out ?_; intro v' w1 hown1 hgrow1; obtain ⟨g', cap', hv'⟩ := ownsRow_succ hown1; subst hv'; obtain ⟨hhw, hch⟩ := hG.out w1 hgrow1; have d0 : w1.cell? ⟨bp, 0, none⟩ = some (.int .i64 st) := (by simp [World.cell?, hhw]); have d1 : w1.cell? ⟨bp, 1, none⟩ = some (.slice ar nr cr) := (by simp [World.cell?, hhw]); have d2 : w1.cell? ⟨bp, 2, none⟩ = some (.slice (some ⟨g, 0, none⟩) 1 1) := (by simp [World.cell?, hhw]); have d3 : w1.cell? ⟨bp, 3, none⟩ = some (.slice xa xn xc) := (by simp [World.cell?, hhw]); have e3 : w1.frozen? ⟨bp, 3, none⟩ = false := (by simp [World.frozen?, hhw]); have e0 : w1.frozen? ⟨bp, 0, none⟩ = false := (by simp [World.frozen?, hhw]); have e1 : w1.frozen? ⟨bp, 1, none⟩ = false := (by simp [World.frozen?, hhw]); have e2 : w1.frozen? ⟨bp, 2, none⟩ = false := (by simp [World.frozen?, hhw]))
  all_goals
    clear hA hN hG HB3 h1c hgrow1 hb1 hb2 hg0 hg1
    go_wp2
    go_end0
    refine ⟨rfl, .slice (some ⟨g', 0, none⟩) (nr + 1) cap', ?_⟩
    have hbv : bodyV g 1 1 = .slice (some ⟨g, 0, none⟩) 0 0 := rfl
    rw [hbv]
    exact fin_rule hhw hown1 hch

end Go.Proofs.YtjajnhemgphefaaDoor
