/-
  The parser's endRule, said of the state that the parser stands for.
-/
import Derived.Test.YtpfknibkdiebaaaDoorState2
import Derived.Test.YtpfknibkdiebaaaDoorEndRule2
namespace Go.Proofs.YtpfknibkdiebaaaDoor
open Go.RowKit Go.Shelf
set_option linter.unusedVariables false
set_option linter.unusedSimpArgs false

def endRuleS (s : PSt) : PSt :=
  match s.atoms with
  | a :: l => { st := 0, rules := s.rules ++ [⟨a, l⟩], atoms := [] }
  | [] => s

theorem SealT.form {W : World} {b : Nat} {v : Value} {l : List ATerm} (h : SealT W b v l) : ∃ a c, v = .slice a l.length c := by
  rcases h with ⟨rfl, rfl⟩ | ⟨g, cap, cur, h1, _⟩
  · exact ⟨none, 0, rfl⟩
  · exact ⟨_, _, h1⟩

/-- Every atom of the rule that is being read has its terms sealed by now. -/
theorem cur_seal {W : World} {b87 : Nat} {ps : List (AAtom × Value)} (h87 : b87 ≤ W.heap.size) (e3 : ∀ p ∈ ps.dropLast, SealT W b87 p.2 p.1.args) (e4 : ∀ p, ps.getLast? = some p → W.ownsRow b87 87 2 p.2 p.1.args.length (termsC p.1.args)) : ∀ p ∈ ps, SealT W W.heap.size p.2 p.1.args := by
  intro q hq
  by_cases hps : ps = []
  · rw [hps] at hq; cases hq
  · rw [← List.dropLast_concat_getLast hps] at hq
    rcases List.mem_append.1 hq with hq | hq
    · exact (e3 q hq).mono h87
    · simp at hq
      exact SealT.ofOwns (e4 q (by rw [hq]; exact List.getLast?_eq_some_getLast hps))

theorem endRule_S (base bp : Nat) (s : PSt) (W : World) (hP : PAt base W bp s) (hna : s.atoms.length ≤ 100) (hne : s.atoms ≠ []) (hnr : s.rules.length ≤ 100) :
    Calls Tryd.prog 53 #[.pointer (some ⟨bp, 0, none⟩)] W fun e W' => e = .returned (.tuple #[]) ∧ PAt base W' bp (endRuleS s) ∧ PFr base W W' := by
  obtain ⟨vr, va, b45, b87, h1, h2, h4, h5, h6, hh, ⟨qs, r1, r2, r3⟩, ps, e1, e2, e3, e4⟩ := hP
  have hlen : ps.length = s.atoms.length := by rw [← e1]; simp
  have hqlen : qs.length = s.rules.length := by rw [← r1]; simp
  have hall := cur_seal h5 e3 e4
  cases ps with
  | nil => simp at e1; exact absurd e1 hne
  | cons p0 pt =>
    obtain ⟨a0, v0⟩ := p0
    have hat : s.atoms = a0 :: pt.map (·.1) := by rw [← e1]; rfl
    have e2' := e2
    obtain ⟨hl, ⟨_, hz⟩ | ⟨g, c, cur, rfl, hb, hw, hnc, hcm, hcs, htk⟩⟩ := e2'
    · simp at hz
    have hgw : g < W.heap.size := (Array.getElem?_eq_some_iff.1 hw).1
    have hs0 := hall (a0, v0) (by simp)
    have htk0 : cur.toList.take ((pt.length + 1) * 2) = .string a0.rel :: v0 :: pt.flatMap atomC := by simpa [atomC] using htk
    have hc0 : W.cell? ⟨g, 0, none⟩ = some (.string a0.rel) := by
      have : (cur.toList.take ((pt.length + 1) * 2))[0]? = some (.string a0.rel) := by rw [htk0]; rfl
      rw [List.getElem?_take, if_pos (by omega)] at this
      simp only [World.cell?, hw]; simpa using this
    have hc1 : W.cell? ⟨g, 1, none⟩ = some v0 := by
      have : (cur.toList.take ((pt.length + 1) * 2))[1]? = some v0 := by rw [htk0]; rfl
      rw [List.getElem?_take, if_pos (by omega)] at this
      simp only [World.cell?, hw]; simpa using this
    have hv0 : ∃ a m q, v0 = .slice a m q := by obtain ⟨a, q, e⟩ := hs0.form; exact ⟨a, _, q, e⟩
    obtain ⟨ar, cr, rfl⟩ := owns_form r2
    have key : Calls Tryd.prog 53 #[.pointer (some ⟨bp, 0, none⟩)] W fun e w' => e = .returned (.tuple #[]) ∧
      ∃ v', w'.heap[bp]? = some (Obj.cells #[.int .i64 0, v', .slice none 0 0] 54 (0, 0)) ∧ w'.ownsRow base 48 3 v' (qs.length + 1) (qs.flatMap ruleC ++ [.string a0.rel, v0, bodyV g (pt.length + 1) c]) ∧
        Chg W w' (fun j => j = bp ∨ some j = (Value.slice ar qs.length cr).ownBlock) := by
      simp only [List.length_cons] at hh hnc
      by_cases hc1' : c = 1
      · subst hc1'
        have hp0 : pt.length = 0 := by omega
        rw [hp0] at hh ⊢
        exact endRule_one bp s.st ar _ cr g base _ _ _ ⟨_, rfl⟩ hv0 (by omega) W (by omega) hh hc0 hc1 r2
      · exact endRule_more bp s.st ar _ cr g _ c base _ _ _ ⟨_, rfl⟩ hv0 (by omega) (by omega) hc1' (by simp at hlen; omega) (by omega) W (by omega) hh hc0 hc1 r2
    refine key.mono ?_
    rintro e W' ⟨rfl, v', hh', hR', hc⟩
    have k45 : ∀ b, KeptT 45 b W W' := fun b => hc.keptT (fun j cc hj hcj hx => by
      rcases hx with rfl | hx
      · rw [hh] at hcj; cases hcj
      · obtain ⟨_, c', hc'⟩ := owns_block r2 hx.symm; rw [hcj] at hc'; cases hc')
    have k87 : ∀ b, KeptT 87 b W W' := fun b => hc.keptT (fun j cc hj hcj hx => by
      rcases hx with rfl | hx
      · rw [hh] at hcj; cases hcj
      · obtain ⟨_, c', hc'⟩ := owns_block r2 hx.symm; rw [hcj] at hc'; cases hc')
    refine ⟨rfl, ?_, ?_⟩
    · have hes : endRuleS s = { st := 0, rules := s.rules ++ [⟨a0, pt.map (·.1)⟩], atoms := [] } := by unfold endRuleS; rw [hat]
      rw [hes]
      refine ⟨v', .slice none 0 0, W.heap.size, W.heap.size, by omega, by omega, hc.size, hc.size, h6, hh', ⟨qs ++ [(⟨a0, pt.map (·.1)⟩, v0, bodyV g (pt.length + 1) c)], by simp [r1], ?_, ?_⟩, [], rfl, World.ownsRow_nil W' _ _ _, by simp, by simp⟩
      · simpa [ruleC] using hR'
      · intro q hq
        rcases List.mem_append.1 hq with hq | hq
        · exact ⟨((r3 q hq).1.mono h5).kept (k87 _), ((r3 q hq).2.mono h4 h5).kept (k45 _) (k87 _)⟩
        · simp at hq
          subst hq
          refine ⟨hs0.kept (k87 _), SealA.kept ⟨pt, if c = 1 then some ⟨g, 0, none⟩ else some ⟨g, 2, none⟩, c - 1, rfl, by simp [bodyV], fun p hp => hall p (by simp [hp]), fun hne' => ?_⟩ (k45 _) (k87 _)⟩
          have hpl : pt.length ≠ 0 := by intro e; exact hne' (by simp [List.eq_nil_of_length_eq_zero e])
          refine ⟨g, 2, cur, by rw [if_neg (by simp only [List.length_cons] at hnc; omega)], hgw, hw, ?_⟩
          have : (cur.toList.take ((pt.length + 1) * 2)).drop 2 = pt.flatMap atomC := by rw [htk0]; rfl
          rw [List.drop_take] at this
          rw [← this]; congr 1; simp; omega
    · refine PFr.ofChg hc (by omega) (fun j hj hx => ?_)
      rcases hx with rfl | hx
      · exact ⟨h6, _, _, _, hh, .inl rfl⟩
      · obtain ⟨hb, c, hc⟩ := owns_block r2 hx.symm; exact ⟨by omega, c, _, _, hc, .inr (.inl rfl)⟩

end Go.Proofs.YtpfknibkdiebaaaDoor
