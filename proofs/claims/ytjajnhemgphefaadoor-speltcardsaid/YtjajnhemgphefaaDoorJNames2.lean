/-
  The search for the first rule that is loose.
  rules.findManyNames: the first rule up to which there are too many names, or -1.
-/
import Derived.Test.YtjajnhemgphefaaDoorJLoose3
namespace Go.Proofs.YtjajnhemgphefaaDoor
open Go.RowKit Go.Shelf
set_option linter.unusedVariables false
set_option linter.unusedSimpArgs false

theorem firstFrom_skip (p : Rl → Bool) : ∀ (rs : List Rl) (i k : Nat), k ≤ rs.length → (∀ j, (hj : j < rs.length) → j < k → p rs[j] = false) → firstFrom p i rs = firstFrom p (i + k) (rs.drop k)
  | rs, i, 0, _, _ => by simp
  | [], i, k + 1, h, _ => by simp at h
  | r :: rs, i, k + 1, h, hn => by
    have h0 := hn 0 (by simp) (by omega)
    simp only [List.getElem_cons_zero] at h0
    rw [firstFrom, if_neg (by simp [h0]), List.drop_succ_cons, firstFrom_skip p rs (i + 1) k (by simpa using h) (fun j hj hk => by
      have := hn (j + 1) (by simp; omega) (by omega)
      simpa using this)]
    congr 1; omega

theorem firstFrom_here (p : Rl → Bool) (rs : List Rl) (k : Nat) (hk : k < rs.length) (hn : ∀ j, (hj : j < rs.length) → j < k → p rs[j] = false) (h : p rs[k] = true) : firstFrom p 0 rs = k := by
  rw [firstFrom_skip p rs 0 k (by omega) hn, List.drop_eq_getElem_cons hk, firstFrom, if_pos h]
  simp

theorem firstFrom_none (p : Rl → Bool) (rs : List Rl) (hn : ∀ j, (hj : j < rs.length) → p rs[j] = false) : firstFrom p 0 rs = -1 := by
  rw [firstFrom_skip p rs 0 rs.length (by omega) (fun j hj _ => hn j hj), List.drop_length]; rfl

set_option maxHeartbeats 1000000 in
theorem idxRules_any (v : Value) (rs : List Rl) (base b45 b87 : Nat) (w : World) (hR : RulesAt w base b45 b87 v rs) (hrow : ∀ g, v.ownBlock = some g → g < w.heap.size) (h8 : rs.length ≤ 8) (hok : ∀ r ∈ rs, RuleOk r) :
    Calls Tryd.prog 18 #[v, .func (.func 19) #[] #[]] w fun e w' => e = .returned (.int .i64 (firstLoose rs)) ∧ Below w.heap.size w w' := by
  obtain ⟨a, c, hform⟩ := hR.form
  have hcell : ∀ k (hk : k < rs.length), ∃ g v0 vb, a = some ⟨g, 0, none⟩ ∧ w.cell? ⟨g, k * 3, none⟩ = some (.string (rs[k]).head.rel) ∧ w.cell? ⟨g, k * 3 + 1, none⟩ = some v0 ∧ w.cell? ⟨g, k * 3 + 2, none⟩ = some vb ∧ RuleV w b45 b87 rs[k] v0 vb ∧ g < w.heap.size := by
    intro k hk
    obtain ⟨g, c', v0, vb, h1, h2, h3, h4, h5⟩ := rules_cell hR hk
    have hg := hrow g (by rw [h1]; rfl)
    rw [hform] at h1; cases h1
    exact ⟨g, v0, vb, rfl, h2, h3, h4, h5, hg⟩
  subst hform
  have HC : Hid _ := hcell
  have HOK : Hid _ := hok
  clear hcell hR hok hrow
  go_enter Tryd.func18, Tryd.ntmps18
  go_wp2
  go_loopw [8] (fun i wr => ∃ k : Nat, k ≤ rs.length ∧ i = .int .i64 k ∧ Hid (∀ j, (hj : j < rs.length) → j < k → looseC rs[j] = false) ∧ Below w.heap.size w wr) (fun i _ => rs.length - (intOf i).toNat)
  case atStart => exact ⟨0, Nat.zero_le _, rfl, fun j _ hj => by omega, Below.refl _ _⟩
  case round =>
    obtain ⟨k, hk, rfl, hno, hb⟩ := hrel
    by_cases hlt : k < rs.length
    · obtain ⟨g, v0, vb, rfl, q0, q1, q2, hv, hg⟩ := HC.out k hlt
      have q0' := (hb.cell (p := ⟨g, k * 3, none⟩) hg).trans q0
      have q1' := (hb.cell (p := ⟨g, k * 3 + 1, none⟩) hg).trans q1
      have q2' := (hb.cell (p := ⟨g, k * 3 + 2, none⟩) hg).trans q2
      have hcall := isLoose_any rs[k] v0 vb b45 b87 wr (HOK.out _ (List.getElem_mem hlt)) (hv.rk (RuleKept.ofBelow hb))
      obtain ⟨sa, sc, hsf⟩ := hv.1.form
      obtain ⟨ta, tc, htf⟩ := hv.2.form
      rw [hsf] at hcall q1'
      rw [htf] at hcall q2'
      have i1 : (k : Int) < (rs.length : Int) := by omega
      generalize hbb : looseC rs[k] = bb at *
      have HBB : Hid (looseC rs[k] = bb) := hbb
      clear hbb q0 q1 q2 hv hsf htf
      generalize (rs[k]).head.rel = rel at *
      generalize (rs[k]).head.args.length = m1 at *
      generalize (rs[k]).body.length = m2 at *
      cases bb with
      | true =>
        go_wp2_with fail
        refine hcall.mono ?_
        rintro e w1 ⟨rfl, hb1⟩
        go_wp2
        go_ret
        exact ⟨ret_int (firstFrom_here looseC rs k hlt hno.out HBB.out).symm, hb.trans (hb1.mono hb.size)⟩
      | false =>
        go_wp2_with fail
        refine hcall.mono ?_
        rintro e w1 ⟨rfl, hb1⟩
        go_wp2
        go_roundw
        case rel =>
          refine ⟨k + 1, by omega, by go_num, ?_, hb.trans (hb1.mono hb.size)⟩
          intro j hj hjk
          by_cases e : j = k
          · subst e; exact HBB.out
          · exact hno.out j hj (by omega)
        case measure => simp [intOf]; omega
    · go_wp2
      go_ret
      exact ⟨ret_int (firstFrom_none looseC rs (fun j hj => hno.out j hj (by omega))).symm, hb⟩

end Go.Proofs.YtjajnhemgphefaaDoor

namespace Go.Proofs.YtjajnhemgphefaaDoor
open Go.RowKit Go.Shelf
set_option linter.unusedVariables false
set_option linter.unusedSimpArgs false

theorem strBelow {N : Nat} {w wr : World} (h : StrOnly N w wr) (hN : N ≤ w.heap.size) : Below N w wr := ⟨h.os, h.tape, h.output, h.size, fun k hk => h.block k (by omega) (.inl hk)⟩

set_option maxRecDepth 100000 in
set_option maxHeartbeats 1000000 in
theorem findManyNames_any (v : Value) (rs : List Rl) (base b45 b87 : Nat) (w : World) (hR : RulesAt w base b45 b87 v rs) (hrow : ∀ g, v.ownBlock = some g → g < w.heap.size) (h8 : rs.length ≤ 8) (hok : ∀ r ∈ rs, RuleOk r) :
    Calls Tryd.prog 20 #[v] w fun e w' => e = .returned (.int .i64 (manyFrom [] 0 rs)) ∧ Below w.heap.size w w' := by
  obtain ⟨a, c, hform⟩ := hR.form
  obtain ⟨N, hN⟩ : ∃ N, w.heap.size = N := ⟨_, rfl⟩
  have hcell : ∀ k (hk : k < rs.length), ∃ g v0 vb, a = some ⟨g, 0, none⟩ ∧ w.cell? ⟨g, k * 3, none⟩ = some (.string (rs[k]).head.rel) ∧ w.cell? ⟨g, k * 3 + 1, none⟩ = some v0 ∧ w.cell? ⟨g, k * 3 + 2, none⟩ = some vb ∧ RuleV w b45 b87 rs[k] v0 vb ∧ g < w.heap.size := by
    intro k hk
    obtain ⟨g, c', v0, vb, h1, h2, h3, h4, h5⟩ := rules_cell hR hk
    have hg := hrow g (by rw [h1]; rfl)
    rw [hform] at h1; cases h1
    exact ⟨g, v0, vb, rfl, h2, h3, h4, h5, hg⟩
  subst hform
  -- one round's two calls
  have hround : ∀ k (hk : k < rs.length) (v0 vb : Value) (wr : World) (us : List ByteArray) (vn : Value), RuleV w b45 b87 rs[k] v0 vb → StrOnly N w wr → wr.ownsRow N 9 1 vn us.length (us.map Value.string) → us.length ≤ 8 →
      ∀ fa fn fc ga gn gc, v0 = .slice fa fn fc → vb = .slice ga gn gc →
      Calls Tryd.prog 32 #[vn, .func (.func 49) #[] #[.pointer (some ⟨wr.heap.size + 1, 0, none⟩)]] ((wr.alloc (.cells #[.string (rs[k]).head.rel, .slice fa fn fc, .slice ga gn gc] 48)).alloc (.cells #[.string (rs[k]).head.rel, .slice fa fn fc, .slice ga gn gc] 48)) fun e w' => ∃ v', e = .returned v' ∧ w'.ownsRow N 9 1 v' (nmL us (ruleTerms rs[k])).length ((nmL us (ruleTerms rs[k])).map Value.string) ∧ StrOnly N w w' := by
    intro k hk v0 vb wr us vn hv hso hrow2 hul fa fn fc ga gn gc hf hg
    subst hf hg
    have hsz := hso.size
    have hbl : Below wr.heap.size wr ((wr.alloc (.cells #[.string (rs[k]).head.rel, .slice fa fn fc, .slice ga gn gc] 48)).alloc (.cells #[.string (rs[k]).head.rel, .slice fa fn fc, .slice ga gn gc] 48)) := ((Below.refl _ wr).alloc (Nat.le_refl _) _).alloc (by simp) _
    have hrk : RuleKept w wr := fun j cc t ht hc => (hso.block j (Array.getElem?_eq_some_iff.1 hc).1 (.inr (fun c' fz e => by rw [hc] at e; rcases ht with rfl | rfl | rfl <;> cases e))).trans hc
    refine (addNames_any rs[k] _ _ vn us N b45 b87 (wr.heap.size + 1) _ (hok _ (List.getElem_mem hk)) ((hv.rk hrk).rk (RuleKept.ofBelow hbl)) ?_ (own_below hrow2 hbl) (by simp; omega) (by omega)).mono ?_
    · have := World.alloc_heap_new (wr.alloc (.cells #[.string (rs[k]).head.rel, .slice fa fn fc, .slice ga gn gc] 48)) (.cells #[.string (rs[k]).head.rel, .slice fa fn fc, .slice ga gn gc] 48)
      rw [World.size_alloc] at this; exact this
    · rintro e w' ⟨v', h1, h2, h3⟩
      exact ⟨v', h1, h2, (hso.trans (StrOnly.ofBelow hbl)).trans h3⟩
  have HC : Hid _ := hcell
  have HR : Hid _ := hround
  clear hcell hround hR hok hrow
  go_enter Tryd.func20, Tryd.ntmps20
  go_wp2
  go_loopw [3, 8] (fun vn i wr => ∃ (k : Nat) (us : List ByteArray), k ≤ rs.length ∧ i = .int .i64 k ∧ us.length ≤ 8 ∧ wr.ownsRow N 9 1 vn us.length (us.map Value.string) ∧ Hid (manyFrom us k (rs.drop k) = manyFrom [] 0 rs) ∧ StrOnly N w wr) (fun _ i _ => rs.length - (intOf i).toNat)
  case atStart => exact ⟨0, [], Nat.zero_le _, rfl, by simp, World.ownsRow_nil _ _ _ _, rfl, StrOnly.refl _ _⟩
  case round =>
    obtain ⟨k, us, hk, rfl, hul, hrow, hspec, hso⟩ := hrel
    by_cases hlt : k < rs.length
    · obtain ⟨g, v0, vb, rfl, q0, q1, q2, hv, hg⟩ := HC.out k hlt
      have hbN : Below N w wr := strBelow hso (by omega)
      have q0' := (hbN.cell (p := ⟨g, k * 3, none⟩) (by rw [← hN]; exact hg)).trans q0
      have q1' := (hbN.cell (p := ⟨g, k * 3 + 1, none⟩) (by rw [← hN]; exact hg)).trans q1
      have q2' := (hbN.cell (p := ⟨g, k * 3 + 2, none⟩) (by rw [← hN]; exact hg)).trans q2
      obtain ⟨fa, fc, hsf⟩ := hv.1.form
      obtain ⟨ga, gc, htf⟩ := hv.2.form
      have hcall := HR.out k hlt v0 vb wr us _ hv hso hrow hul _ _ _ _ _ _ hsf htf
      rw [hsf] at q1'
      rw [htf] at q2'
      have hdrop : Hid (manyFrom us k (rs.drop k) = if 8 < (nmL us (ruleTerms rs[k])).length then (k : Int) else manyFrom (nmL us (ruleTerms rs[k])) (k + 1) (rs.drop (k + 1))) := by
        show _ = _
        rw [List.drop_eq_getElem_cons hlt, ruleTerms_tms]; rfl
      have HCL : Hid _ := hcall
      have i1 : (k : Int) < (rs.length : Int) := by omega
      obtain ⟨na, nc, rfl⟩ := owns_form hrow
      have HN : Hid (w.heap.size = N) := hN
      clear hcall q0 q1 q2 hv hsf htf hrow hbN hso hN
      generalize (rs[k]).head.rel = rel at *
      generalize (rs[k]).head.args.length = m1 at *
      generalize (rs[k]).body.length = m2 at *
      generalize nmL us (ruleTerms rs[k]) = us' at *
      by_cases hbig : 8 < us'.length
      · have hd : (8 : Int) < (us'.length : Int) := by omega
        have hres : Hid (manyFrom [] 0 rs = k) := by show _ = _; rw [← hspec.out, hdrop.out, if_pos hbig]
        go_wp2_with (first | (go_at_call 33; refine (rargs_any _ _ _ _ rfl _).mono ?_; rintro e w' ⟨rfl, rfl⟩) | (go_at_call 32; refine Calls.mono HCL.out ?_; rintro e w1 ⟨v1, rfl, hrow1, hso1⟩; obtain ⟨na1, nc1, rfl⟩ := owns_form hrow1))
        go_ret
        exact ⟨ret_int hres.out.symm, by rw [HN.out]; exact strBelow hso1 (Nat.le_of_eq HN.out.symm)⟩
      · have hd : ¬ (8 : Int) < (us'.length : Int) := by omega
        have hres : Hid (manyFrom us' (k + 1) (rs.drop (k + 1)) = manyFrom [] 0 rs) := by show _ = _; rw [← hspec.out, hdrop.out, if_neg hbig]
        go_wp2_with (first | (go_at_call 33; refine (rargs_any _ _ _ _ rfl _).mono ?_; rintro e w' ⟨rfl, rfl⟩) | (go_at_call 32; refine Calls.mono HCL.out ?_; rintro e w1 ⟨v1, rfl, hrow1, hso1⟩; obtain ⟨na1, nc1, rfl⟩ := owns_form hrow1))
        refine ⟨⟨k + 1, us', by omega, by go_num, by omega, hrow1, hres.out, hso1⟩, by simp [intOf]; omega⟩
    · have hres : Hid (manyFrom [] 0 rs = -1) := by show _ = _; rw [← hspec.out, List.drop_of_length_le (by omega)]; rfl
      go_wp2
      go_ret
      exact ⟨ret_int hres.out.symm, by rw [hN]; exact strBelow hso (by omega)⟩

end Go.Proofs.YtjajnhemgphefaaDoor
