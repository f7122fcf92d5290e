/-
  The parser's addWord where it adds a term to the last atom.
-/
import Derived.Test.YtjajnhemgphefaaDoorJChg
namespace Go.Proofs.YtjajnhemgphefaaDoor
open Go.RowKit Go.Shelf
set_option linter.unusedVariables false
set_option linter.unusedSimpArgs false

theorem isVariable_any (t : Tm) (w : World) :
    Calls Tryd.prog 28 #[.agg #[.string t.name, .int .i64 t.num]] w fun e w' => e = .returned (.bool t.name.toList.isEmpty) ∧ Below w.heap.size w w' := by
  go_enter Tryd.func28, Tryd.ntmps28
  go_wp2
  go_ret
  exact ⟨rfl, (Below.refl _ w).alloc (Nat.le_refl _) _⟩

theorem owns_form0 {W : World} {b e size n : Nat} {v : Value} {xs : List Value} (h : W.ownsRow b e size v n xs) : ∃ a c, v = .slice a n c := by
  obtain ⟨_, ⟨hv, hn⟩ | ⟨g, cap, cur, hv, _⟩⟩ := h
  · exact ⟨none, 0, by rw [hv, hn]⟩
  · exact ⟨_, _, hv⟩

/-- The library's index, as the document counts. -/
theorem idx_seen (vs : List ByteArray) (x : ByteArray) : (Lib.idxOfS vs x < 0 ∧ seenN vs x = vs.length) ∨ (Lib.idxOfS vs x = (seenN vs x : Int) ∧ seenN vs x < vs.length) := by
  have key : ∀ (vs : List ByteArray) (i : Nat), (Lib.idxFromS vs x i < 0 ∧ seenN vs x = vs.length) ∨ (Lib.idxFromS vs x i = ((i + seenN vs x : Nat) : Int) ∧ seenN vs x < vs.length) := by
    intro vs
    induction vs with
    | nil => intro i; left; simp [Lib.idxFromS, seenN]
    | cons y vs ih =>
      intro i
      by_cases hy : y = x
      · right
        subst hy
        have h1 : sameB y y = true := by unfold sameB; simp
        simp [Lib.idxFromS, seenN, List.findIdx_cons, h1]
      · have h1 : sameB x y = false := by
          cases h : sameB x y with
          | false => rfl
          | true => exact absurd ((sameB_iff x y).1 h).symm hy
        rcases ih (i + 1) with ⟨h2, h3⟩ | ⟨h2, h3⟩
        · left
          refine ⟨by simp only [Lib.idxFromS, if_neg hy]; exact h2, ?_⟩
          unfold seenN at h3 ⊢
          simp [List.findIdx_cons, h1, h3]
        · right
          refine ⟨?_, ?_⟩
          · simp only [Lib.idxFromS, if_neg hy]; rw [h2]
            unfold seenN
            simp [List.findIdx_cons, h1]; omega
          · unfold seenN at h3 ⊢
            rw [List.findIdx_cons, h1]; simp only [cond_false, List.length_cons]; omega
  rcases key vs 0 with h | ⟨h1, h2⟩
  · left; exact h
  · right; exact ⟨by unfold Lib.idxOfS; rw [h1]; simp, h2⟩

set_option maxHeartbeats 2000000 in
theorem term_name (bp : Nat) (t : ByteArray) (p r : Int) (ht : t.size ≤ 1000000) (w : World) :
    Calls Tryd.prog 67 #[.pointer (some ⟨bp, 0, none⟩), tokV 1 t p r] w fun e w' => e = .returned (.agg #[.string t, .int .i64 0]) ∧ Below w.heap.size w w' := by
  have hcl : Hid (∀ W, Calls Tryd.prog 68 #[.string t] W fun e w' => e = .returned (.string t) ∧ Below W.heap.size W w') := fun W => clone_any t W ht
  unfold tokV tokC
  obtain ⟨W0, hW0⟩ : ∃ W0, (w.alloc (.cells #[.int .i64 1, .string t, .int .i64 p, .int .i64 r] 71)).alloc (.cells #[.string ⟨#[]⟩, .int .i64 0] 80) = W0 := ⟨_, rfl⟩
  have hb0 : Below w.heap.size w W0 := by rw [← hW0]; exact ((Below.refl _ w).alloc (Nat.le_refl _) _).alloc (by simp) _
  have hbx : W0.heap[w.heap.size + 1]? = some (Obj.cells #[.string ⟨#[]⟩, .int .i64 0] 80 (0, 0)) := by
    rw [← hW0]
    have := World.alloc_heap_new (w.alloc (.cells #[.int .i64 1, .string t, .int .i64 p, .int .i64 r] 71)) (.cells #[.string ⟨#[]⟩, .int .i64 0] 80)
    rw [World.size_alloc] at this; exact this
  have hS : Hid (∀ W1, Below W0.heap.size W0 W1 → W1.heap[w.heap.size + 1]? = some (Obj.cells #[.string ⟨#[]⟩, .int .i64 0] 80 (0, 0)) ∧ Below w.heap.size w W1) := fun W1 h1 =>
    ⟨(h1.block _ (Array.getElem?_eq_some_iff.1 hbx).1).trans hbx, hb0.trans (h1.mono hb0.size)⟩
  have z0 : W0.cell? ⟨w.heap.size, 0, none⟩ = some (.int .i64 1) := by rw [← hW0]; simp
  have z1 : W0.cell? ⟨w.heap.size, 1, none⟩ = some (.string t) := by rw [← hW0]; simp
  go_enter Tryd.func67, Tryd.ntmps67
  go_wp2_with (go_at_call 68; refine (hcl.out _).mono ?_; rintro e W1 ⟨rfl, hbW⟩; obtain ⟨kx, kb⟩ := hS.out W1 hbW; have k0 : W1.cell? ⟨w.heap.size + 1, 0, none⟩ = some (.string ⟨#[]⟩) := (by simp [World.cell?, kx]); have k1 : W1.cell? ⟨w.heap.size + 1, 1, none⟩ = some (.int .i64 0) := (by simp [World.cell?, kx]); have f0 : W1.frozen? ⟨w.heap.size + 1, 0, none⟩ = false := (by simp [World.frozen?, kx]); have f1 : W1.frozen? ⟨w.heap.size + 1, 1, none⟩ = false := (by simp [World.frozen?, kx]))
  (try simp only [Exit.inBlock, Exit.then])
  refine bodyPost_ret (v := .agg #[.string t, .int .i64 0]) (by simp [results, Tryd.results67, go_sem, k0, k1]) rfl ?_
  exact ⟨rfl, (kb.setCell (p := ⟨w.heap.size + 1, 0, none⟩) (by simp) _).setCell (p := ⟨w.heap.size + 1, 1, none⟩) (by simp) _⟩

set_option maxRecDepth 100000 in
set_option maxHeartbeats 4000000 in
theorem term_var (bp : Nat) (st : Int) (vr va vv : Value) (vs : List ByteArray) (bS : Nat) (k : Int) (t : ByteArray) (p r : Int) (hk : k ≠ 1) (hl : vs.length ≤ 100) (w : World) (hbS : bS ≤ w.heap.size)
    (hh : w.heap[bp]? = some (Obj.cells #[.int .i64 st, vr, va, vv] 53 (0, 0))) (hV : w.ownsRow bS 9 1 vv vs.length (vs.map Value.string)) :
    Calls Tryd.prog 67 #[.pointer (some ⟨bp, 0, none⟩), tokV k t p r] w fun e w' => e = .returned (.agg #[.string ⟨#[]⟩, .int .i64 (seenN vs t)]) ∧
      ∃ vv', w'.heap[bp]? = some (Obj.cells #[.int .i64 st, vr, va, vv'] 53 (0, 0)) ∧ w'.ownsRow bS 9 1 vv' (seenL vs t).length ((seenL vs t).map Value.string) ∧ Chg w w' (fun j => j = bp ∨ some j = vv.ownBlock) := by
  have hbp : bp < w.heap.size := (Array.getElem?_eq_some_iff.1 hh).1
  have hk' : (k == 1) = false := by simp [hk]
  obtain ⟨a, c, rfl⟩ := owns_form0 hV
  have hbne : ∀ g, (Value.slice a vs.length c).ownBlock = some g → g ≠ bp := owns_ne hV hh (by decide)
  obtain ⟨i0, hi, hz0, hz1, hz2⟩ := info_parts Tryd.info9
  unfold tokV tokC
  obtain ⟨W0, hW0⟩ : ∃ W0, (w.alloc (.cells #[.int .i64 k, .string t, .int .i64 p, .int .i64 r] 71)).alloc (.cells #[.string ⟨#[]⟩, .int .i64 0] 80) = W0 := ⟨_, rfl⟩
  have hb0 : Below w.heap.size w W0 := by rw [← hW0]; exact ((Below.refl _ w).alloc (Nat.le_refl _) _).alloc (by simp) _
  have hs0 : W0.heap.size = w.heap.size + 2 := by rw [← hW0]; simp
  have hbx : W0.heap[w.heap.size + 1]? = some (Obj.cells #[.string ⟨#[]⟩, .int .i64 0] 80 (0, 0)) := by
    rw [← hW0]
    have := World.alloc_heap_new (w.alloc (.cells #[.int .i64 k, .string t, .int .i64 p, .int .i64 r] 71)) (.cells #[.string ⟨#[]⟩, .int .i64 0] 80)
    rw [World.size_alloc] at this; exact this
  have z0 : W0.cell? ⟨w.heap.size, 0, none⟩ = some (.int .i64 k) := by rw [← hW0]; simp
  have z1 : W0.cell? ⟨w.heap.size, 1, none⟩ = some (.string t) := by rw [← hW0]; simp
  have h30 : w.cell? ⟨bp, 3, none⟩ = some (.slice a vs.length c) := by simp [World.cell?, hh]
  have h3 : W0.cell? ⟨bp, 3, none⟩ = some (.slice a vs.length c) := (hb0.cell (p := ⟨bp, 3, none⟩) hbp).trans h30
  have r0 : W0.cell? ⟨w.heap.size + 1, 0, none⟩ = some (.string ⟨#[]⟩) := by simp [World.cell?, hbx]
  have r1 : W0.cell? ⟨w.heap.size + 1, 1, none⟩ = some (.int .i64 0) := by simp [World.cell?, hbx]
  have f0 : W0.frozen? ⟨w.heap.size + 1, 0, none⟩ = false := by simp [World.frozen?, hbx]
  have f1 : W0.frozen? ⟨w.heap.size + 1, 1, none⟩ = false := by simp [World.frozen?, hbx]
  have hVd : W0.drew.ownsRow bS 9 1 (.slice a vs.length c) vs.length (vs.map Value.string) := own_below hV (hb0.drew)
  have hidx : Hid (Calls Tryd.prog 63 #[.slice a vs.length c, .string t] W0.drew fun e w' => e = .returned (.int .i64 (Lib.idxOfS vs t)) ∧ w' = W0.drew) := index_own hVd (by omega) t
  have hbpd : W0.heap[bp]? = some (Obj.cells #[.int .i64 st, vr, va, .slice a vs.length c] 53 (0, 0)) := (hb0.block bp hbp).trans hh
  rcases idx_seen vs t with ⟨hneg, hsn⟩ | ⟨hpos, hsn⟩
  · have hseen : Hid (seenL vs t = vs ++ [t]) := by show _ = _; unfold seenL; rw [if_neg (by omega)]
    have hfin : Hid (seenN vs t = vs.length) := hsn
    generalize hix : Lib.idxOfS vs t = ix at *
    have hlt : (ix : Int) < 0 := hneg
    have hA : Hid ((W0.alloc (.cells #[.string t] 9)).drew.drew.ownsRow bS 9 1 (.slice a vs.length c) vs.length (vs.map Value.string)) := own_below hV ((hb0.alloc (by omega) _).drew).drew
    have hN : Hid (∀ j u, [Value.string t][j]? = some u → (W0.alloc (.cells #[.string t] 9)).drew.drew.cell? ((⟨W0.heap.size, 0, none⟩ : Addr).add j) = some u) := fun j u hj => cell_one_new W0 _ _ j u hj
    have hG : Hid (∀ w1, (W0.alloc (.cells #[.string t] 9)).drew.drew.grownBy w1 (Value.slice a vs.length c).ownBlock →
        w1.heap[bp]? = some (Obj.cells #[.int .i64 st, vr, va, .slice a vs.length c] 53 (0, 0)) ∧ w1.heap[w.heap.size + 1]? = some (Obj.cells #[.string ⟨#[]⟩, .int .i64 0] 80 (0, 0)) ∧ Chg w w1 (fun j => j = bp ∨ some j = (Value.slice a vs.length c).ownBlock)) := by
      intro w1 hg
      have hc0 : Chg W0 w1 (fun j => some j = (Value.slice a vs.length c).ownBlock) := ((((Chg.refl W0 _).alloc _).drew).drew).grown hg (fun k e _ => e.symm)
      have hc : Chg w w1 (fun j => some j = (Value.slice a vs.length c).ownBlock) := (Chg.ofBelow _ hb0).trans hc0
      refine ⟨(hc.block bp hbp (fun e => hbne bp e.symm rfl)).trans hh, (hc0.block _ (Array.getElem?_eq_some_iff.1 hbx).1 (fun e => ?_)).trans hbx, hc.mono (fun _ _ e => .inr e)⟩
      obtain ⟨_, hlt2, _⟩ := own_str hV _ e.symm
      omega
    have hb1 : vs.length + 1 ≤ maxLen := by unfold maxLen; omega
    have hb2 : (vs.length + 1) * 16 ≤ 140737488355328 := by omega
    have HB3 : Hid (bS ≤ (W0.alloc (.cells #[.string t] 9)).drew.drew.heap.size) := by
      show bS ≤ (W0.alloc (.cells #[.string t] 9)).heap.size
      simp; omega
    have h3a : ∀ O, (W0.alloc O).cell? ⟨bp, 3, none⟩ = some (.slice a vs.length c) := fun O => cell_later ((Below.refl W0.heap.size W0).alloc (Nat.le_refl _) O) h3
    have n1 : w.heap.size + 1 ≠ W0.heap.size := by omega
    have n2 : bp ≠ W0.heap.size := by omega
    have n3 : w.heap.size ≠ W0.heap.size := by omega
    have n4 : w.heap.size + 1 ≠ bp := by omega
    have n5 : bp ≠ w.heap.size + 1 := by omega
    clear hh hb0 hs0 hV hVd hbx h30 hneg hsn hix hbpd
    go_enter Tryd.func67, Tryd.ntmps67
    go_wp2
    go_region_with (go_at_call 63; refine Calls.mono hidx.out ?_; rintro e w' ⟨rfl, rfl⟩)
    all_goals
      go_wp2
      go_region_law (refine step_append_own rfl (.tmp 31) (.tmp 34) 30 rfl bS 9 i0 (.string ⟨#[]⟩) 1 16 Tryd.underlying30 hi hz0 hz1 hz2 rfl (by decide) (.slice a vs.length c) vs.length (vs.map Value.string) (by simp [Act.eval, Act.put]) hA.out ⟨W0.heap.size, 0, none⟩ 1 1 [.string t] (by simp [Act.eval, Act.put]) rfl hN.out (by simp [Value.oneCell']) hb1 hb2 HB3.out ?_; intro v' w1 hown1 hgrow1; obtain ⟨g', cap', hv'⟩ := ownsRow_succ hown1; subst hv'; obtain ⟨hhw, hxw, hch⟩ := hG.out w1 hgrow1; have d3 : w1.cell? ⟨bp, 3, none⟩ = some (.slice a vs.length c) := (by simp [World.cell?, hhw]); have e3 : w1.frozen? ⟨bp, 3, none⟩ = false := (by simp [World.frozen?, hhw]); have q0 : w1.cell? ⟨w.heap.size + 1, 0, none⟩ = some (.string ⟨#[]⟩) := (by simp [World.cell?, hxw]); have q1 : w1.cell? ⟨w.heap.size + 1, 1, none⟩ = some (.int .i64 0) := (by simp [World.cell?, hxw]); have q2 : w1.frozen? ⟨w.heap.size + 1, 0, none⟩ = false := (by simp [World.frozen?, hxw]); have q3 : w1.frozen? ⟨w.heap.size + 1, 1, none⟩ = false := (by simp [World.frozen?, hxw]))
      all_goals
        go_wp2
        (try simp only [Exit.inBlock, Exit.then])
        refine bodyPost_ret (v := .agg #[.string ⟨#[]⟩, .int .i64 vs.length]) (by simp [results, Tryd.results67, go_sem, q0, q1, n4, n5]) rfl ?_
        rw [hfin.out, hseen.out]
        refine ⟨rfl, .slice (some ⟨g', 0, none⟩) (vs.length + 1) cap', ?_, ?_, ?_⟩
        · exact (Below.heap_setCell _ _ _ _ n5).trans ((Below.heap_setCell _ _ _ _ n5).trans (heap_set hhw 3 _))
        · have := owns_set (owns_set (owns_set hown1 ⟨bp, 3, none⟩ (.slice (some ⟨g', 0, none⟩) (vs.length + 1) cap') (owns_ne hown1 hhw (by decide))) ⟨w.heap.size + 1, 0, none⟩ (.string ⟨#[]⟩) (owns_ne hown1 hxw (by decide))) ⟨w.heap.size + 1, 1, none⟩ (.int .i64 vs.length) (owns_ne hown1 hxw (by decide))
          simpa using this
        · exact ((hch.setCell ⟨bp, 3, none⟩ _ (fun _ => .inl rfl)).setCell ⟨w.heap.size + 1, 0, none⟩ _ (fun h => absurd h (by simp))).setCell ⟨w.heap.size + 1, 1, none⟩ _ (fun h => absurd h (by simp))
  · have hseen : Hid (seenL vs t = vs) := by show _ = _; unfold seenL; rw [if_pos hsn]
    rw [hpos] at hidx
    generalize seenN vs t = sn at *
    have n5 : bp ≠ w.heap.size + 1 := by omega
    have hbE : Below w.heap.size w ((W0.drew.setCell ⟨w.heap.size + 1, 0, none⟩ (.string ⟨#[]⟩)).setCell ⟨w.heap.size + 1, 1, none⟩ (.int .i64 sn)) := (hb0.drew.setCell (p := ⟨w.heap.size + 1, 0, none⟩) (by simp) _).setCell (p := ⟨w.heap.size + 1, 1, none⟩) (by simp) _
    have HOW : Hid (((W0.drew.setCell ⟨w.heap.size + 1, 0, none⟩ (.string ⟨#[]⟩)).setCell ⟨w.heap.size + 1, 1, none⟩ (.int .i64 sn)).ownsRow bS 9 1 (.slice a vs.length c) vs.length (vs.map Value.string)) := own_below hV hbE
    have HCH : Hid (Chg w ((W0.drew.setCell ⟨w.heap.size + 1, 0, none⟩ (.string ⟨#[]⟩)).setCell ⟨w.heap.size + 1, 1, none⟩ (.int .i64 sn)) (fun j => j = bp ∨ some j = (Value.slice a vs.length c).ownBlock)) := Chg.ofBelow _ hbE
    clear hbE
    clear hh hb0 hs0 hV hVd hbx h30 hpos
    go_enter Tryd.func67, Tryd.ntmps67
    go_wp2
    go_region_with (go_at_call 63; refine Calls.mono hidx.out ?_; rintro e w' ⟨rfl, rfl⟩)
    all_goals
      go_wp2
      (try simp only [Exit.inBlock, Exit.then])
      refine bodyPost_ret (v := .agg #[.string ⟨#[]⟩, .int .i64 sn]) (by simp [results, Tryd.results67, go_sem, r0, r1]) rfl ?_
      rw [hseen.out]
      refine ⟨rfl, .slice a vs.length c, ?_, ?_, ?_⟩
      · exact (Below.heap_setCell _ _ _ _ n5).trans ((Below.heap_setCell _ _ _ _ n5).trans hbpd)
      · exact HOW.out
      · exact HCH.out

theorem fin_term {w w3 : World} {bp g n b45 b87 bS k kv c : Nat} {vr v' vv : Value} {cur : Array Value} {ys zs us : List Value} {rel y : Value} {ex : Nat → Prop} (hn : 1 ≤ n)
    (hh : w3.heap[bp]? = some (Obj.cells #[.int .i64 3, vr, .slice (some ⟨g, 0, none⟩) n c, vv] 53 (0, 0))) (hg : w3.heap[g]? = some (Obj.cells cur 45 (0, 0)))
    (hoA : w3.ownsRow b45 45 2 (.slice (some ⟨g, 0, none⟩) n c) n (ys ++ [rel, y])) (hoT : w3.ownsRow b87 80 2 v' k zs) (hoV : w3.ownsRow bS 9 1 vv kv us)
    (hc : Chg w w3 (fun j => j = bp ∨ some j = (Value.slice (some ⟨g, 0, none⟩) n c).ownBlock ∨ ex j)) :
    ((w3.setCell ⟨g, (n - 1) * 2 + 1, none⟩ v').setCell ⟨bp, 0, none⟩ (.int .i64 4)).heap[bp]? = some (Obj.cells #[.int .i64 4, vr, .slice (some ⟨g, 0, none⟩) n c, vv] 53 (0, 0)) ∧
    ((w3.setCell ⟨g, (n - 1) * 2 + 1, none⟩ v').setCell ⟨bp, 0, none⟩ (.int .i64 4)).ownsRow b45 45 2 (.slice (some ⟨g, 0, none⟩) n c) n (ys ++ [rel, v']) ∧
    ((w3.setCell ⟨g, (n - 1) * 2 + 1, none⟩ v').setCell ⟨bp, 0, none⟩ (.int .i64 4)).ownsRow b87 80 2 v' k zs ∧
    ((w3.setCell ⟨g, (n - 1) * 2 + 1, none⟩ v').setCell ⟨bp, 0, none⟩ (.int .i64 4)).ownsRow bS 9 1 vv kv us ∧
    Chg w ((w3.setCell ⟨g, (n - 1) * 2 + 1, none⟩ v').setCell ⟨bp, 0, none⟩ (.int .i64 4)) (fun j => j = bp ∨ some j = (Value.slice (some ⟨g, 0, none⟩) n c).ownBlock ∨ ex j) := by
  have hne : g ≠ bp := owns_ne hoA hh (by decide) g rfl
  refine ⟨heap_set ((Below.heap_setCell _ _ _ bp (fun e => hne e.symm)).trans hh) 0 _, ?_, ?_, ?_, (hc.setCell ⟨g, (n - 1) * 2 + 1, none⟩ v' (fun _ => .inr (.inl rfl))).setCell ⟨bp, 0, none⟩ _ (fun _ => .inl rfl)⟩
  · exact owns_set (row_set_last hoA hn rfl) _ _ (fun g' hg' => by simp [Value.ownBlock] at hg'; subst hg'; exact hne)
  · exact owns_set (owns_set hoT _ _ (owns_ne hoT hg (by decide))) _ _ (owns_ne hoT hh (by decide))
  · exact owns_set (owns_set hoV _ _ (owns_ne hoV hg (by decide))) _ _ (owns_ne hoV hh (by decide))

/-- term, whatever the word. -/
theorem term_any (bp : Nat) (st : Int) (vr va vv : Value) (vs : List ByteArray) (bS : Nat) (k : Int) (t : ByteArray) (p r : Int) (hk : k = 1 ∨ k = 2) (ht : t.size ≤ 1000000) (hl : vs.length ≤ 100) (w : World) (hbS : bS ≤ w.heap.size)
    (hh : w.heap[bp]? = some (Obj.cells #[.int .i64 st, vr, va, vv] 53 (0, 0))) (hV : w.ownsRow bS 9 1 vv vs.length (vs.map Value.string)) :
    Calls Tryd.prog 67 #[.pointer (some ⟨bp, 0, none⟩), tokV k t p r] w fun e w' => e = .returned (.agg #[.string (termT vs k t).name, .int .i64 (termT vs k t).num]) ∧
      ∃ vv', w'.heap[bp]? = some (Obj.cells #[.int .i64 st, vr, va, vv'] 53 (0, 0)) ∧ w'.ownsRow bS 9 1 vv' (termVs vs k t).length ((termVs vs k t).map Value.string) ∧ Chg w w' (fun j => j = bp ∨ some j = vv.ownBlock) := by
  rcases hk with rfl | rfl
  · refine (term_name bp t p r ht w).mono ?_
    rintro e w' ⟨rfl, hb⟩
    exact ⟨rfl, vv, (hb.block bp (Array.getElem?_eq_some_iff.1 hh).1).trans hh, own_below hV hb, Chg.ofBelow _ hb⟩
  · exact term_var bp st vr va vv vs bS 2 t p r (by decide) hl w hbS hh hV

end Go.Proofs.YtjajnhemgphefaaDoor
