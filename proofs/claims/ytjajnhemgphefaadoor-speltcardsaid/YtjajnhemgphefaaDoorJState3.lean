/-
  The parser's endRule, where the row of atoms has room for more than one.
  The parser's endRule, said of the state that the parser stands for.
-/
import Derived.Test.YtjajnhemgphefaaDoorJEndRule
import Derived.Test.YtjajnhemgphefaaDoorJState2
namespace Go.Proofs.YtjajnhemgphefaaDoor
open Go.RowKit Go.Shelf
set_option linter.unusedVariables false
set_option linter.unusedSimpArgs false

set_option maxRecDepth 100000 in
set_option maxHeartbeats 4000000 in
theorem endRule_more (bp : Nat) (st : Int) (xa : Option Addr) (xn xc : Nat) (ar : Option Addr) (nr cr g n c base : Nat) (xs : List Value) (rel args : Value) (hrel : ∃ s, rel = .string s) (hargs : ∃ a m q, args = .slice a m q) (hn1 : 1 ≤ n) (hnc : n ≤ c) (hc1 : ¬ c = 1) (hn : n ≤ 1000) (hr : nr ≤ 1000) (w : World) (hbase : base ≤ w.heap.size)
    (hh : w.heap[bp]? = some (Obj.cells #[.int .i64 st, .slice ar nr cr, .slice (some ⟨g, 0, none⟩) n c, .slice xa xn xc] 53 (0, 0)))
    (hg0 : w.cell? ⟨g, 0, none⟩ = some rel) (hg1 : w.cell? ⟨g, 1, none⟩ = some args) (hown : w.ownsRow base 48 3 (.slice ar nr cr) nr xs) :
    Calls Tryd.prog 62 #[.pointer (some ⟨bp, 0, none⟩)] w fun e w' => e = .returned (.tuple #[]) ∧
      ∃ v', w'.heap[bp]? = some (Obj.cells #[.int .i64 0, v', .slice none 0 0, .slice none 0 0] 53 (0, 0)) ∧ w'.ownsRow base 48 3 v' (nr + 1) (xs ++ [rel, args, bodyV g n c]) ∧
        Chg w w' (fun j => j = bp ∨ some j = (Value.slice ar nr cr).ownBlock) := by
  obtain ⟨rs, rfl⟩ := hrel
  obtain ⟨aa, am, aq, rfl⟩ := hargs
  have hbp : bp < w.heap.size := (Array.getElem?_eq_some_iff.1 hh).1
  have c0 : w.cell? ⟨bp, 0, none⟩ = some (.int .i64 st) := by simp [World.cell?, hh]
  have c1 : w.cell? ⟨bp, 1, none⟩ = some (.slice ar nr cr) := by simp [World.cell?, hh]
  have c2 : w.cell? ⟨bp, 2, none⟩ = some (.slice (some ⟨g, 0, none⟩) n c) := by simp [World.cell?, hh]
  have c3 : w.cell? ⟨bp, 3, none⟩ = some (.slice xa xn xc) := by simp [World.cell?, hh]
  have f1 : w.frozen? ⟨bp, 1, none⟩ = false := by simp [World.frozen?, hh]
  obtain ⟨i0, hi, hz0, hz1, hz2⟩ := info_parts Tryd.info48
  have i4 : 0 < n := by omega
  have i5 : 1 ≤ n := by omega
  have i1 : (0 : Int) < (n : Int) := by omega
  have i2 : (1 : Int) ≤ (n : Int) := by omega
  have i3 : (n : Int) ≤ (c : Int) := by omega
  have hA : Hid ((w.alloc (.cells #[.string rs, .slice aa am aq, .slice (some ⟨g, 2, none⟩) (n - 1) (c - 1)] 48)).ownsRow base 48 3 (.slice ar nr cr) nr xs) := hown.alloc _
  have hN : Hid (∀ j u, [Value.string rs, .slice aa am aq, .slice (some ⟨g, 2, none⟩) (n - 1) (c - 1)][j]? = some u → (w.alloc (.cells #[.string rs, .slice aa am aq, .slice (some ⟨g, 2, none⟩) (n - 1) (c - 1)] 48)).cell? ((⟨w.heap.size, 0, none⟩ : Addr).add j) = some u) := cell_three_new w _ _ _ _
  have hG : Hid (∀ w1, (w.alloc (.cells #[.string rs, .slice aa am aq, .slice (some ⟨g, 2, none⟩) (n - 1) (c - 1)] 48)).drew.grownBy w1 (Value.slice ar nr cr).ownBlock →
      w1.heap[bp]? = some (Obj.cells #[.int .i64 st, .slice ar nr cr, .slice (some ⟨g, 0, none⟩) n c, .slice xa xn xc] 53 (0, 0)) ∧ Chg w w1 (fun j => j = bp ∨ some j = (Value.slice ar nr cr).ownBlock)) := by
    intro w1 hgr
    have hc : Chg w w1 (fun j => some j = (Value.slice ar nr cr).ownBlock) := (((Chg.refl w _).alloc _).drew).grown hgr (fun k e _ => e.symm)
    exact ⟨(hc.block bp hbp (fun e => owns_ne hown hh (by decide) bp e.symm rfl)).trans hh, hc.mono (fun _ _ e => .inr e)⟩
  have h1c : ∀ u ∈ [Value.string rs, .slice aa am aq, .slice (some ⟨g, 2, none⟩) (n - 1) (c - 1)], u.oneCell' = true := by simp [Value.oneCell']
  have hb1 : nr + 1 ≤ maxLen := by unfold maxLen; omega
  have hb2 : (nr + 1) * 64 ≤ 140737488355328 := by omega
  have HB3 : Hid (base ≤ (w.alloc (.cells #[.string rs, .slice aa am aq, .slice (some ⟨g, 2, none⟩) (n - 1) (c - 1)] 48)).drew.heap.size) := by
    show base ≤ (w.alloc (.cells #[.string rs, .slice aa am aq, .slice (some ⟨g, 2, none⟩) (n - 1) (c - 1)] 48)).heap.size
    simp; omega
  clear hh hown
  go_enter Tryd.func62, Tryd.ntmps62
  go_wp2
  go_region_law (refine step_append_own rfl (.tmp 6) (.tmp 19) 33 rfl base 48 i0 (.agg #[.string ⟨#[]⟩, .slice none 0 0, .slice none 0 0]) 3 64 Tryd.underlying33 hi hz0 hz1 hz2 rfl (by decide) (.slice ar nr cr) nr xs (by simp [Act.eval, Act.put]) hA.out ⟨w.heap.size, 0, none⟩ 1 1 [.string rs, .slice aa am aq, .slice (some ⟨g, 2, none⟩) (n - 1) (c - 1)] (by simp [Act.eval, Act.put]) rfl hN.out h1c hb1 hb2 HB3.out ?_; intro v' w1 hown1 hgrow1; obtain ⟨g', cap', hv'⟩ := ownsRow_succ hown1; subst hv'; obtain ⟨hhw, hch⟩ := hG.out w1 hgrow1; have d0 : w1.cell? ⟨bp, 0, none⟩ = some (.int .i64 st) := (by simp [World.cell?, hhw]); have d1 : w1.cell? ⟨bp, 1, none⟩ = some (.slice ar nr cr) := (by simp [World.cell?, hhw]); have d2 : w1.cell? ⟨bp, 2, none⟩ = some (.slice (some ⟨g, 0, none⟩) n c) := (by simp [World.cell?, hhw]); have d3 : w1.cell? ⟨bp, 3, none⟩ = some (.slice xa xn xc) := (by simp [World.cell?, hhw]); have e3 : w1.frozen? ⟨bp, 3, none⟩ = false := (by simp [World.frozen?, hhw]); have e0 : w1.frozen? ⟨bp, 0, none⟩ = false := (by simp [World.frozen?, hhw]); have e1 : w1.frozen? ⟨bp, 1, none⟩ = false := (by simp [World.frozen?, hhw]); have e2 : w1.frozen? ⟨bp, 2, none⟩ = false := (by simp [World.frozen?, hhw]))
  all_goals
    clear hA hN hG HB3 h1c hgrow1 hb1 hb2 hg0 hg1
    go_wp2
    go_end0
    refine ⟨rfl, .slice (some ⟨g', 0, none⟩) (nr + 1) cap', ?_⟩
    have hbv : bodyV g n c = .slice (some ⟨g, 2, none⟩) (n - 1) (c - 1) := by unfold bodyV; rw [if_neg hc1]
    rw [hbv]
    exact fin_rule hhw hown1 hch

end Go.Proofs.YtjajnhemgphefaaDoor

namespace Go.Proofs.YtjajnhemgphefaaDoor
open Go.RowKit Go.Shelf
set_option linter.unusedVariables false
set_option linter.unusedSimpArgs false

theorem SealT.form {W : World} {b : Nat} {v : Value} {l : List Tm} (h : SealT W b v l) : ∃ a c, v = .slice a l.length c := by
  rcases h with ⟨rfl, rfl⟩ | ⟨g, cap, cur, h1, _⟩
  · exact ⟨none, 0, rfl⟩
  · exact ⟨_, _, h1⟩

/-- Every atom of the rule that is being read has its terms sealed by now. -/
theorem cur_seal {W : World} {b87 : Nat} {ps : List (Am × Value)} (h87 : b87 ≤ W.heap.size) (e3 : ∀ p ∈ ps.dropLast, SealT W b87 p.2 p.1.args) (e4 : ∀ p, ps.getLast? = some p → W.ownsRow b87 80 2 p.2 p.1.args.length (termsC p.1.args)) : ∀ p ∈ ps, SealT W W.heap.size p.2 p.1.args := by
  intro q hq
  by_cases hps : ps = []
  · rw [hps] at hq; cases hq
  · rw [← List.dropLast_concat_getLast hps] at hq
    rcases List.mem_append.1 hq with hq | hq
    · exact (e3 q hq).mono h87
    · simp at hq
      exact SealT.ofOwns (e4 q (by rw [hq]; exact List.getLast?_eq_some_getLast hps))

theorem endRule_S (base bS bp : Nat) (s : PSt) (W : World) (hP : PAt base bS W bp s) (hna : s.atoms.length ≤ 100) (hne : s.atoms ≠ []) (hnr : s.rules.length ≤ 100) :
    Calls Tryd.prog 62 #[.pointer (some ⟨bp, 0, none⟩)] W fun e W' => e = .returned (.tuple #[]) ∧ PAt base bS W' bp (endRuleS s) ∧ PFr base bS W W' := by
  obtain ⟨vr, va, vv, b45, b87, h1, h2, h4, h5, h6, hS1, hS2, hh, hV, ⟨qs, r1, r2, r3⟩, ps, e1, e2, e3, e4⟩ := hP
  obtain ⟨xa, xc, rfl⟩ := owns_form hV
  have hlen : ps.length = s.atoms.length := by rw [← e1]; simp
  have hqlen : qs.length = s.rules.length := by rw [← r1]; simp
  have hall := cur_seal h5 e3 e4
  cases ps with
  | nil => simp at e1; exact absurd e1 hne
  | cons p0 pt =>
    obtain ⟨a0, v0⟩ := p0
    have hat : s.atoms = a0 :: pt.map (·.1) := by rw [← e1]; rfl
    have e2' := e2
    obtain ⟨hl, ⟨_, hz⟩ | ⟨g, c, cur, rfl, hb, hw, hnc, hcm, hcs, htk⟩⟩ := e2'
    · simp at hz
    have hgw : g < W.heap.size := (Array.getElem?_eq_some_iff.1 hw).1
    have hs0 := hall (a0, v0) (by simp)
    have htk0 : cur.toList.take ((pt.length + 1) * 2) = .string a0.rel :: v0 :: pt.flatMap atomC := by simpa [atomC] using htk
    have hc0 : W.cell? ⟨g, 0, none⟩ = some (.string a0.rel) := by
      have : (cur.toList.take ((pt.length + 1) * 2))[0]? = some (.string a0.rel) := by rw [htk0]; rfl
      rw [List.getElem?_take, if_pos (by omega)] at this
      simp only [World.cell?, hw]; simpa using this
    have hc1 : W.cell? ⟨g, 1, none⟩ = some v0 := by
      have : (cur.toList.take ((pt.length + 1) * 2))[1]? = some v0 := by rw [htk0]; rfl
      rw [List.getElem?_take, if_pos (by omega)] at this
      simp only [World.cell?, hw]; simpa using this
    have hv0 : ∃ a m q, v0 = .slice a m q := by obtain ⟨a, q, e⟩ := hs0.form; exact ⟨a, _, q, e⟩
    obtain ⟨ar, cr, rfl⟩ := owns_form r2
    have key : Calls Tryd.prog 62 #[.pointer (some ⟨bp, 0, none⟩)] W fun e w' => e = .returned (.tuple #[]) ∧
      ∃ v', w'.heap[bp]? = some (Obj.cells #[.int .i64 0, v', .slice none 0 0, .slice none 0 0] 53 (0, 0)) ∧ w'.ownsRow base 48 3 v' (qs.length + 1) (qs.flatMap ruleC ++ [.string a0.rel, v0, bodyV g (pt.length + 1) c]) ∧
        Chg W w' (fun j => j = bp ∨ some j = (Value.slice ar qs.length cr).ownBlock) := by
      simp only [List.length_cons] at hh hnc
      by_cases hc1' : c = 1
      · subst hc1'
        have hp0 : pt.length = 0 := by omega
        rw [hp0] at hh ⊢
        exact endRule_one bp s.st _ _ _ ar _ cr g base _ _ _ ⟨_, rfl⟩ hv0 (by omega) W (by omega) hh hc0 hc1 r2
      · exact endRule_more bp s.st _ _ _ ar _ cr g _ c base _ _ _ ⟨_, rfl⟩ hv0 (by omega) (by omega) hc1' (by simp at hlen; omega) (by omega) W (by omega) hh hc0 hc1 r2
    refine key.mono ?_
    rintro e W' ⟨rfl, v', hh', hR', hc⟩
    have k45 : ∀ b, KeptT 45 b W W' := fun b => hc.keptT (fun j cc hj hcj hx => by
      rcases hx with rfl | hx
      · rw [hh] at hcj; cases hcj
      · obtain ⟨_, c', hc'⟩ := owns_block r2 hx.symm; rw [hcj] at hc'; cases hc')
    have k87 : ∀ b, KeptT 80 b W W' := fun b => hc.keptT (fun j cc hj hcj hx => by
      rcases hx with rfl | hx
      · rw [hh] at hcj; cases hcj
      · obtain ⟨_, c', hc'⟩ := owns_block r2 hx.symm; rw [hcj] at hc'; cases hc')
    refine ⟨rfl, ?_, ?_⟩
    · have hes : endRuleS s = { st := 0, rules := s.rules ++ [⟨a0, pt.map (·.1)⟩], atoms := [], vars := [] } := by unfold endRuleS; rw [hat]
      rw [hes]
      refine ⟨v', .slice none 0 0, .slice none 0 0, W.heap.size, W.heap.size, by omega, by omega, hc.size, hc.size, h6, hS1, Nat.le_trans hS2 hc.size, hh', World.ownsRow_nil W' _ _ _, ⟨qs ++ [(⟨a0, pt.map (·.1)⟩, v0, bodyV g (pt.length + 1) c)], by simp [r1], ?_, ?_⟩, [], rfl, World.ownsRow_nil W' _ _ _, by simp, by simp⟩
      · simpa [ruleC] using hR'
      · intro q hq
        rcases List.mem_append.1 hq with hq | hq
        · exact ⟨((r3 q hq).1.mono h5).kept (k87 _), ((r3 q hq).2.mono h4 h5).kept (k45 _) (k87 _)⟩
        · simp at hq
          subst hq
          refine ⟨hs0.kept (k87 _), SealA.kept ⟨pt, if c = 1 then some ⟨g, 0, none⟩ else some ⟨g, 2, none⟩, c - 1, rfl, by simp [bodyV], fun p hp => hall p (by simp [hp]), fun hne' => ?_⟩ (k45 _) (k87 _)⟩
          have hpl : pt.length ≠ 0 := by intro e; exact hne' (by simp [List.eq_nil_of_length_eq_zero e])
          refine ⟨g, 2, cur, by rw [if_neg (by simp only [List.length_cons] at hnc; omega)], hgw, hw, ?_⟩
          have : (cur.toList.take ((pt.length + 1) * 2)).drop 2 = pt.flatMap atomC := by rw [htk0]; rfl
          rw [List.drop_take] at this
          rw [← this]; congr 1; simp; omega
    · refine PFr.ofChg hc (by omega) (fun j hj hx => ?_)
      rcases hx with rfl | hx
      · exact ⟨h6, _, _, _, hh, .inl rfl⟩
      · obtain ⟨hb, c, hc⟩ := owns_block r2 hx.symm; exact ⟨by omega, c, _, _, hc, .inr (.inl rfl)⟩

end Go.Proofs.YtjajnhemgphefaaDoor
