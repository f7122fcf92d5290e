/-
  The parser's addWord, said of the state that the parser stands for.
-/
import Derived.Test.YtjajnhemgphefaaDoorJState
namespace Go.Proofs.YtjajnhemgphefaaDoor
open Go.RowKit Go.Shelf
set_option linter.unusedVariables false
set_option linter.unusedSimpArgs false

theorem addWord_S (base bS bp : Nat) (s : PSt) (k : Int) (t : ByteArray) (ht : t.size ≤ 1200) (p r : Int) (W : World) (hP : PAt base bS W bp s) (hk12 : k = 1 ∨ k = 2) (hnv : s.vars.length ≤ 100) (hna : s.atoms.length ≤ 100) (h3 : s.st = 3 → s.atoms ≠ []) (hm : ∀ a ∈ s.atoms, a.args.length ≤ 100) :
    Calls Tryd.prog 59 #[.pointer (some ⟨bp, 0, none⟩), tokV k t p r] W fun e W' => e = .returned (.tuple #[]) ∧ PAt base bS W' bp (addWordS s k t) ∧ PFr base bS W W' := by
  obtain ⟨vr, va, vv, b45, b87, h1, h2, h4, h5, h6, hS1, hS2, hh, hV, hR, ps, e1, e2, e3, e4⟩ := hP
  have hlen : ps.length = s.atoms.length := by rw [← e1]; simp
  by_cases hst : s.st = 3
  · -- a term more of the last atom
    have hne := h3 hst
    have hps : ps ≠ [] := by intro e; rw [e] at hlen; simp at hlen; exact hne (List.eq_nil_of_length_eq_zero hlen.symm)
    obtain ⟨ps0, ⟨la, lv⟩, rfl⟩ : ∃ ps0 l, ps = ps0 ++ [l] := ⟨ps.dropLast, ps.getLast hps, (List.dropLast_concat_getLast hps).symm⟩
    have hl := e4 (la, lv) (by simp)
    simp only [List.dropLast_concat] at e3
    simp only at hl
    obtain ⟨aa, ca, rfl⟩ := owns_form hl
    have hla : la ∈ s.atoms := by rw [← e1]; simp
    rw [List.flatMap_append] at e2
    have e2' : W.ownsRow b45 45 2 va (ps0 ++ [(la, Value.slice aa la.args.length ca)]).length (ps0.flatMap atomC ++ [.string la.rel, .slice aa la.args.length ca]) := by simpa [atomC] using e2
    have hgl : growLast s.atoms (termT s.vars k t) = ps0.map (·.1) ++ [{ la with args := la.args ++ [termT s.vars k t] }] := by
      unfold growLast; rw [← e1]; simp
    rw [hst] at hh
    refine (addWord_term bp vr va vv _ b45 b87 bS _ _ aa _ ca _ s.vars k t p r hk12 (by simp) (by rw [hlen]; omega) (by have := hm la hla; omega) hnv (by omega) W h5 hS2 hh e2' hl hV).mono ?_
    rintro e W' ⟨rfl, v', vv', hh', hA', hT', hV', hc⟩
    refine ⟨rfl, ?_, ?_⟩
    · unfold addWordS; rw [if_pos hst, hgl]
      have k45 : KeptT 45 b45 W W' := hc.keptT (fun j c hj hcj hx => by
        rcases hx with rfl | hx | hx | hx
        · rw [hh] at hcj; cases hcj
        · have := (owns_block e2 hx.symm).1; omega
        · obtain ⟨_, c', hc'⟩ := owns_block hl hx.symm; rw [hcj] at hc'; cases hc'
        · obtain ⟨_, c', hc'⟩ := owns_block hV hx.symm; rw [hcj] at hc'; cases hc')
      have k87 : KeptT 80 b87 W W' := hc.keptT (fun j c hj hcj hx => by
        rcases hx with rfl | hx | hx | hx
        · rw [hh] at hcj; cases hcj
        · obtain ⟨_, c', hc'⟩ := owns_block e2 hx.symm; rw [hcj] at hc'; cases hc'
        · have := (owns_block hl hx.symm).1; omega
        · obtain ⟨_, c', hc'⟩ := owns_block hV hx.symm; rw [hcj] at hc'; cases hc')
      refine ⟨vr, va, vv', b45, b87, h1, h2, Nat.le_trans h4 hc.size, Nat.le_trans h5 hc.size, h6, hS1, Nat.le_trans hS2 hc.size, hh', hV', hR.kept (fun g c hg hcg => ?_) k45 k87, ps0 ++ [({ la with args := la.args ++ [termT s.vars k t] }, v')], by simp, ?_, ?_, ?_⟩
      · rw [hc.block g (Array.getElem?_eq_some_iff.1 hcg).1 (fun hx => ?_)]
        · exact hcg
        · rcases hx with rfl | hx | hx | hx
          · rw [hh] at hcg; cases hcg
          · obtain ⟨_, c', hc'⟩ := owns_block e2 hx.symm; rw [hcg] at hc'; cases hc'
          · obtain ⟨_, c', hc'⟩ := owns_block hl hx.symm; rw [hcg] at hc'; cases hc'
          · obtain ⟨_, c', hc'⟩ := owns_block hV hx.symm; rw [hcg] at hc'; cases hc'
      · simpa [atomC] using hA'
      · simp only [List.dropLast_concat]
        exact fun q hq => (e3 q hq).kept k87
      · intro q hq
        simp at hq
        subst hq
        simpa [termsC, tmC] using hT'
    · refine PFr.ofChg hc (by omega) (fun j hj hx => ?_)
      rcases hx with rfl | hx | hx | hx
      · exact ⟨h6, _, _, _, hh, .inl rfl⟩
      · obtain ⟨hb, c, hc⟩ := owns_block e2 hx.symm; exact ⟨by omega, c, _, _, hc, .inr (.inr (.inl rfl))⟩
      · obtain ⟨hb, c, hc⟩ := owns_block hl hx.symm; exact ⟨by omega, c, _, _, hc, .inr (.inr (.inr (.inl rfl)))⟩
      · obtain ⟨hb, c, hc⟩ := owns_block hV hx.symm; exact ⟨by omega, c, _, _, hc, .inr (.inr (.inr (.inr ⟨rfl, hb⟩)))⟩
  · -- an atom more
    refine (addWord_atom bp s.st vr va vv _ b45 _ k t p r hst (by rw [hlen]; omega) (by omega) W h4 hh e2).mono ?_
    rintro e W' ⟨rfl, v', hh', hA', hc⟩
    refine ⟨rfl, ?_, ?_⟩
    · unfold addWordS; rw [if_neg hst]
      have k45 : KeptT 45 b45 W W' := hc.keptT (fun j c hj hcj hx => by
        rcases hx with rfl | hx
        · rw [hh] at hcj; cases hcj
        · have := (owns_block e2 hx.symm).1; omega)
      have k87 : ∀ b, KeptT 80 b W W' := fun b => hc.keptT (fun j c hj hcj hx => by
        rcases hx with rfl | hx
        · rw [hh] at hcj; cases hcj
        · obtain ⟨_, c', hc'⟩ := owns_block e2 hx.symm; rw [hcj] at hc'; cases hc')
      refine ⟨vr, v', vv, b45, W.heap.size, h1, by omega, Nat.le_trans h4 hc.size, hc.size, h6, hS1, Nat.le_trans hS2 hc.size, hh', owns_kept hV (fun g c hg hcg => ?_), (hR.kept (fun g c hg hcg => ?_) k45 (k87 _)).mono (Nat.le_refl _) h5, ps ++ [(⟨t, []⟩, .slice none 0 0)], by simp [e1], ?_, ?_, ?_⟩
      · rw [hc.block g (Array.getElem?_eq_some_iff.1 hcg).1 (fun hx => ?_)]
        · exact hcg
        · rcases hx with rfl | hx
          · rw [hh] at hcg; cases hcg
          · obtain ⟨_, c', hc'⟩ := owns_block e2 hx.symm; rw [hcg] at hc'; cases hc'
      · rw [hc.block g (Array.getElem?_eq_some_iff.1 hcg).1 (fun hx => ?_)]
        · exact hcg
        · rcases hx with rfl | hx
          · rw [hh] at hcg; cases hcg
          · obtain ⟨_, c', hc'⟩ := owns_block e2 hx.symm; rw [hcg] at hc'; cases hc'
      · simpa [atomC] using hA'
      · simp only [List.dropLast_concat]
        intro q hq
        by_cases hps : ps = []
        · rw [hps] at hq; cases hq
        · rw [← List.dropLast_concat_getLast hps] at hq
          rcases List.mem_append.1 hq with hq | hq
          · exact ((e3 q hq).mono h5).kept (k87 _)
          · simp at hq
            have := e4 q (by rw [hq]; exact List.getLast?_eq_some_getLast hps)
            exact (SealT.ofOwns this).kept (k87 _)
      · intro q hq
        simp at hq
        subst hq
        exact World.ownsRow_nil W' _ _ _
    · refine PFr.ofChg hc (by omega) (fun j hj hx => ?_)
      rcases hx with rfl | hx
      · exact ⟨h6, _, _, _, hh, .inl rfl⟩
      · obtain ⟨hb, c, hc⟩ := owns_block e2 hx.symm; exact ⟨by omega, c, _, _, hc, .inr (.inr (.inl rfl))⟩

end Go.Proofs.YtjajnhemgphefaaDoor
