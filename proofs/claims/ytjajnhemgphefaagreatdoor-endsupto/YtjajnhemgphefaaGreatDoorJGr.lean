/-
  Package model: texts in order.
  slices.Grow and slices.Concat of atoms.
-/
import Derived.Test.YtjajnhemgphefaaGreatDoorJTxt
import Derived.Test.YtjajnhemgphefaaGreatDoorJApI
import Derived.Shelf.Slices.In.SortNone
import Derived.Test.YtjajnhemgphefaaGreatDoorJMoE
import Derived.Test.YtjajnhemgphefaaGreatDoorMore
namespace Go.Proofs.YtjajnhemgphefaaGreatDoor
open Go.RowKit Go.Shelf Go.Maps
set_option linter.unusedVariables false
set_option linter.unusedSimpArgs false
attribute [local go_sem] Oper.semAt_some

def sortT (l : List (List UInt8)) : List (List UInt8) := l.mergeSort fun x y => decide (x ≤ y)
def strV (l : List UInt8) : Value := .string ⟨l.toArray⟩

theorem sortS_any (v : Value) (l : List (List UInt8)) (b : Nat) (w : World) (hown : w.ownsRow b 9 1 v l.length (l.map strV)) (hl : l.length ≤ 2000000) :
    Calls Tryz.prog 92 #[v] w fun e w' => e = .returned (.tuple #[]) ∧ w'.ownsRow b 9 1 v l.length ((sortT l).map strV) ∧ Chg w w' (fun k => some k = v.ownBlock) := by
  have hown' := hown
  obtain ⟨hlen, ⟨hv, hn⟩ | ⟨g, cap, cur, hv, hb, hh, h1, h2, h3, h4⟩⟩ := hown
  · subst hv
    have : l = [] := List.eq_nil_of_length_eq_zero hn
    subst this
    refine (Any.slices_Sort_string_none Tryz.lays190 none 0 w).mono ?_
    rintro e w' ⟨rfl, rfl⟩
    have e0 : sortT [] = [] := by simp [sortT]
    rw [e0]
    exact ⟨rfl, hown', Chg.refl _ _⟩
  · subst hv
    have hlt := (Array.getElem?_eq_some_iff.1 hh).1
    have hH : Sort.Holds encStr w g 0 l.toArray := by
      intro j hj
      have hj' : j < l.length := by simpa using hj
      refine ⟨?_, by simp [World.frozen?, hh]⟩
      have e1 : cur.toList[j]? = (l.map strV)[j]? := by
        rw [← h4, List.getElem?_take, if_pos (by omega)]
      have e2 : cur[j]? = some (strV l[j]) := by
        rw [List.getElem?_map, List.getElem?_eq_getElem hj'] at e1
        simpa using e1
      simp only [World.cell?, hh]
      have e3 : l.toArray[j]! = l[j] := by simp [hj']
      rw [e3]
      have e4 : cur[0 + j]? = some (strV l[j]) := by rw [Nat.zero_add]; exact e2
      exact e4
    refine (Tryz.slices_Sort_string g 0 cap l w hH hlt (by omega)).mono ?_
    rintro e w' ⟨rfl, n, os, rfl⟩
    have hsl : (sortT l).length = l.length := (List.mergeSort_perm l _).length_eq
    have hF : ((sortT l).toArray.map encStr).size ≤ cur.size := by simp [hsl]; omega
    have hput : Sort.grow (Sort.putRow encStr (Sort.ahead w n) g 0 (sortT l).toArray) os = Sort.grow (Sort.putRow id (Sort.ahead w n) g 0 ((sortT l).toArray.map encStr)) os := by
      unfold Sort.putRow
      congr 2
      funext c
      unfold Sort.putCells
      refine Array.ext (by simp) (fun i h1 h2 => ?_)
      simp only [Array.getElem_mapIdx, Array.size_map]
      by_cases hi : 0 ≤ i ∧ i < 0 + (sortT l).toArray.size
      · rw [if_pos hi, if_pos hi]
        have : i < (sortT l).length := by simpa using hi
        simp [this]
      · rw [if_neg hi, if_neg hi]
    obtain ⟨s1, s2, s3, s4⟩ := sort_heap (n := n) ((sortT l).toArray.map encStr) os hh hF
    show _ ∧ (Sort.grow (Sort.putRow encStr (Sort.ahead w n) g 0 (sortT l).toArray) os).ownsRow _ _ _ _ _ _ ∧ Chg w (Sort.grow (Sort.putRow encStr (Sort.ahead w n) g 0 (sortT l).toArray) os) _
    rw [hput]
    refine ⟨rfl, ⟨by simp [hsl], .inr ⟨g, cap, _, rfl, hb, s1, h1, h2, s3.trans h3, ?_⟩⟩, ⟨rfl, rfl, rfl, ?_, fun k hk hx => s2 k hk (fun e => hx (by rw [e]; rfl))⟩⟩
    · have e1 : l.length * 1 = ((sortT l).toArray.map encStr).size := by simp [hsl]
      rw [e1, s4]
      simp [strV]
    · simp [Sort.grow, Sort.putRow, Sort.mapBlock, Sort.ahead]

set_option maxRecDepth 100000 in
set_option maxHeartbeats 4000000 in
theorem texts_any {gf : Nat} {lb : Array Value} {S Sp : List GdY → Prop} {N : Nat} (w : World) (hNl : N ≤ 1000000)
    (eg : ∀ args w, (callFunc gf args).run Tryz.prog w = .ok (.enter gf args) w) (hseq : ∀ m n, SeqM m n gf lb (fun g : GdY => #[g.1.v]) (MKept m) S Sp N w) :
    Calls Tryz.prog 50 #[.func (.func gf) #[] lb] w fun e w' => ∃ v gs, e = .returned v ∧ S gs ∧ w'.ownsRow w.heap.size 9 1 v gs.length ((sortT (gs.map (fun g => (textG g.1).data.toList))).map strV) ∧ Below w.heap.size w w' ∧ gs.length ≤ N := by
  obtain ⟨NB, hN⟩ : ∃ N, w.heap.size = N := ⟨_, rfl⟩
  obtain ⟨i0, hi, hz0, hz1, hz2⟩ := info_parts Tryz.info9
  refine (callsIn_wide (n := 8)).1 ?_
  refine callsIn_of_wp_marks Tryz.func50 rfl trivial ?_ rfl
  simp only [Tryz.ntmps50, List.size_toArray, List.length_cons, List.length_nil, Nat.reduceAdd, Nat.reduceSub, Array.replicate_succ, Array.replicate_zero, List.push_toArray, List.append_toArray, List.nil_append, List.cons_append]
  gi_wp2
  obtain ⟨W0, hW0⟩ : ∃ W0, w.alloc (.cells #[.slice none 0 0] 22) = W0 := ⟨_, rfl⟩
  have hb0 : Below w.heap.size w W0 := by rw [← hW0]; exact (Below.refl _ w).alloc (Nat.le_refl _) _
  have hs0 : W0.heap.size = NB + 1 := by rw [← hW0, ← hN]; simp
  have bV : Boxed W0 NB 22 (.slice none 0 0) := by
    have := Boxed.new w 22 (.slice none 0 0)
    rw [hN, hW0] at this; exact this
  (try simp only [hN])
  rw [hW0]
  clear hW0
  refine range_outM (n := 8) (gf := gf) (lb := lb) rfl eg ((hseq _ _).later hb0) MKept.tr (fun V rc o' ho => MKept.put V _ _ o' (by omega) ho rfl (fun _ _ h => by cases h)) (fun _ => rfl)
    (fun pre V => ∃ v, Boxed V NB 22 v ∧ V.ownsRow NB 9 1 v pre.length (pre.map (fun g => .string (textG g.1))) ∧ Below NB w V ∧ NB < V.heap.size ∧ pre.length ≤ N)
    (fun _ _ _ => False)
    ?hI (fun _ _ _ _ _ h _ _ => h) ⟨_, bV, ⟨rfl, .inl ⟨rfl, rfl⟩⟩, by rw [hN] at hb0; exact hb0, by omega, Nat.zero_le _⟩
    (fun x a' V => ∃ Bx, V.heap[Bx]? = some (Obj.cells x.1.c 111 (0, 0)) ∧ a' = { tmps := #[.func (.func gf) #[] lb, undef, .slice none 0 0, .pointer (some ⟨NB, 0, none⟩), .pointer (some ⟨Bx, 0, none⟩), .func (.func gf) #[] lb, .agg #[.string x.1.rel, .string x.1.x, .string x.1.y], undef, undef, undef, undef, undef, undef, undef, undef], defers := [] })
    ?hAx ?assign ?body ?done (fun _ _ _ _ _ _ h _ => h.elim)
  case hI =>
    rintro pre V V' row ⟨v, h1, h2, h3, h4, h5⟩ hg hr
    have hk := kept_of_grown hg (fun r e => (hr r e).2)
    exact ⟨v, hk _ _ _ _ h1, owns_kept h2 (fun g c _ hc => hk g c _ _ hc), h3.grown hg (by omega) (fun k e => by have := (hr k e).1; omega), by have := hg.size; omega, h5⟩
  case hAx =>
    rintro x a' _ V V' row ⟨Bx, h2, h5⟩ hg hr
    exact ⟨Bx, kept_of_grown hg (fun r e => (hr r e).2) _ _ _ _ h2, h5⟩
  case assign =>
    rintro l' pre t V K hl hlr ⟨v, h1, h2, h3, h4, h5⟩ hK
    have HK : Hid _ := hK
    clear hK
    unfold Gd.v Gd.c
    gi_wp2
    have hbl : Below V.heap.size V (V.alloc (.cells #[.string t.1.rel, .string t.1.x, .string t.1.y] 111)) := (Below.refl _ V).alloc (Nat.le_refl _) _
    exact HK.out _ _ (KeepsFrom.ofBelow hbl) (MKept.ofBelow hbl) ⟨v, h1.alloc _, h2.alloc _, h3.trans (hbl.mono (by omega)), by simp; omega, h5⟩ ⟨V.heap.size, World.alloc_heap_new V _, rfl⟩
  case done =>
    rintro D gs V hD hS ⟨v, h1, h2, h3, h4, h5⟩ hK
    have c1 := h1.cell
    obtain ⟨va, vc, rfl⟩ := owns_form h2
    have hgl : gs.length ≤ 2000000 := by omega
    have hst : Hid (Calls Tryz.prog 92 #[.slice va gs.length vc] V fun e w' => e = .returned (.tuple #[]) ∧ w'.ownsRow NB 9 1 (.slice va gs.length vc) gs.length ((sortT (gs.map (fun g => (textG g.1).data.toList))).map strV) ∧ Below NB w w' ∧ Boxed w' NB 22 (.slice va gs.length vc) ∧ w'.heap[D]? = some (.deferred (some [])) ∧ NB < w'.heap.size) := by
      have hmap : gs.map (fun g => Value.string (textG g.1)) = (gs.map (fun g => (textG g.1).data.toList)).map strV := by
        rw [List.map_map]
        refine List.map_congr_left (fun g _ => ?_)
        show Value.string (textG g.1) = strV (textG g.1).data.toList
        unfold strV
        rw [Array.toArray_toList]
      have hl2 : (gs.map (fun g => (textG g.1).data.toList)).length = gs.length := by simp
      have h2' := h2
      rw [hmap] at h2'
      have hso := sortS_any (.slice va gs.length vc) (gs.map (fun g => (textG g.1).data.toList)) NB V (by rw [hl2]; exact h2') (by omega)
      refine hso.mono ?_
      rintro e w' ⟨rfl, ho, hc⟩
      rw [hl2] at ho
      refine ⟨rfl, ho, h3.trans ⟨hc.os, hc.tape, hc.output, hc.size, fun k hk => hc.block k (by omega) (fun e => ?_)⟩, (hc.block _ h1.lt (fun e => owns_ne h2 h1 (by decide) _ e.symm rfl)).trans h1, (hc.block _ (Array.getElem?_eq_some_iff.1 hK).1 (fun e => ?_)).trans hK, by have := hc.size; omega⟩
      · have := (owns_block h2 e.symm).1; omega
      · obtain ⟨_, c, hcc⟩ := owns_block h2 e.symm
        rw [hcc] at hK; cases hK
    gi_wp2_with (refine ⟨trivial, ?_⟩; gi_at_call 92; refine (callsIn_wide.2 hst.out).mono ?_; rintro e W2 ⟨rfl, k1, k2, k3, k4, k5⟩; have kc := k3.cell)
    refine ⟨by simp, .inl ⟨_, _, rfl, run_takeDeferred k4, ?_⟩⟩
    have hk := kept_of_grown (grownBy_putObj' W2 D (.deferred none)) (fun r e => by cases e; exact ⟨_, k4, rfl⟩)
    refine ⟨_, results_tmp rfl _ _ _, .slice va gs.length vc, gs, rfl, hS, ?_, ?_, h5⟩
    · rw [hN]; exact owns_kept k1 (fun g c _ hc => hk g c _ _ hc)
    · rw [hN]; exact below_put k2 (by omega) (by omega)
  case body =>
    rintro l' pre t a' V hl' ⟨r, hr⟩ ⟨v, h1, h2, h3, h4, h5⟩ ⟨Bx, hbx, rfl⟩ hlt
    obtain ⟨va, vc, rfl⟩ := owns_form h2
    have hbx' := hbx
    unfold Gd.c at hbx'
    have c0 : V.cell? ⟨Bx, 0, none⟩ = some (.string t.1.rel) := by simp [World.cell?, hbx']
    have c1 : V.cell? ⟨Bx, 1, none⟩ = some (.string t.1.x) := by simp [World.cell?, hbx']
    have c2 : V.cell? ⟨Bx, 2, none⟩ = some (.string t.1.y) := by simp [World.cell?, hbx']
    have cb := h1.cell
    have hb1' : pre.length + 1 ≤ maxLen := by unfold maxLen; omega
    have hb2' : (pre.length + 1) * 16 ≤ 140737488355328 := by omega
    have htx : Hid (Calls Tryz.prog 91 #[.agg #[.string t.1.rel, .string t.1.x, .string t.1.y]] V.drew fun e w' => e = .returned (.string (textG t.1)) ∧ Below V.heap.size V w') := (text_any t.1 V.drew t.2.rel t.2.x t.2.y).mono (fun e w' h => ⟨h.1, ((Below.refl _ V).drew).trans h.2⟩)
    have HCB : Hid (∀ V1, Below V.heap.size V V1 → V1.cell? ⟨NB, 0, none⟩ = some (.slice va pre.length vc)) := fun V1 hb => cell_later hb cb
    have HOW : Hid (∀ V1, Below V.heap.size V V1 → (V1.alloc (.cells #[.string (textG t.1)] 9)).ownsRow NB 9 1 (.slice va pre.length vc) pre.length (pre.map (fun g => .string (textG g.1)))) := fun V1 hb => (own_below h2 hb).alloc _
    have HSZ : Hid (∀ V1, Below V.heap.size V V1 → NB ≤ (V1.alloc (.cells #[.string (textG t.1)] 9)).heap.size) := fun V1 hb => by
      have := hb.size
      show NB ≤ _
      simp; omega
    have hfin : Hid (∀ V1 v' w1, Below V.heap.size V V1 → w1.ownsRow NB 9 1 v' (pre.length + 1) (pre.map (fun g => .string (textG g.1)) ++ [.string (textG t.1)]) → (V1.alloc (.cells #[.string (textG t.1)] 9)).grownBy w1 (Value.slice va pre.length vc).ownBlock → ∃ g' cap', v' = .slice (some ⟨g', 0, none⟩) (pre.length + 1) cap' ∧ (∃ cv, w1.cell? ⟨NB, 0, none⟩ = some cv) ∧ w1.frozen? ⟨NB, 0, none⟩ = false ∧
        (KeepsFrom W0.heap.size V (w1.setCell ⟨NB, 0, none⟩ v') ∧ MKept (W0.heap.size + 2) V (w1.setCell ⟨NB, 0, none⟩ v') ∧ ∃ v, Boxed (w1.setCell ⟨NB, 0, none⟩ v') NB 22 v ∧ (w1.setCell ⟨NB, 0, none⟩ v').ownsRow NB 9 1 v (pre ++ [t]).length ((pre ++ [t]).map (fun g => .string (textG g.1))) ∧ Below NB w (w1.setCell ⟨NB, 0, none⟩ v') ∧ NB < (w1.setCell ⟨NB, 0, none⟩ v').heap.size ∧ (pre ++ [t]).length ≤ N)) := by
      intro V1 v' w1 hb1 ho hg
      obtain ⟨g', cap', hv'⟩ := ownsRow_succ ho
      subst hv'
      have k1 : Boxed V1 NB 22 (.slice va pre.length vc) := (hb1.block _ h1.lt).trans h1
      have k2 := own_below h2 hb1
      have hc : Chg V1 w1 (fun j => some j = (Value.slice va pre.length vc).ownBlock) := ((Chg.refl V1 _).alloc _).grown hg (fun k e _ => e.symm)
      have hbx1 : Boxed w1 NB 22 (.slice va pre.length vc) := (hc.block _ k1.lt (fun e => owns_ne k2 k1 (by decide) _ e.symm rfl)).trans k1
      have hch2 : Chg V1 (w1.setCell ⟨NB, 0, none⟩ (.slice (some ⟨g', 0, none⟩) (pre.length + 1) cap')) (fun j => j = NB ∨ some j = (Value.slice va pre.length vc).ownBlock) := (hc.mono (fun _ _ e => .inr e)).setCell ⟨NB, 0, none⟩ _ (fun _ => .inl rfl)
      have hcl : ∀ m', KeepsFrom m' V1 (w1.setCell ⟨NB, 0, none⟩ (.slice (some ⟨g', 0, none⟩) (pre.length + 1) cap')) := fun m' => keeps_cells hch2 (fun j hj hx => by
        rcases hx with rfl | hx
        · exact ⟨_, _, k1⟩
        · obtain ⟨_, c, hc⟩ := owns_block k2 hx.symm; exact ⟨c, _, hc⟩)
      have hex : ∀ (k : Nat) (o : Obj), V1.heap[k]? = some o → (∀ c fz, o ≠ Obj.cells c 9 fz) → (∀ c fz, o ≠ Obj.cells c 22 fz) → (w1.setCell ⟨NB, 0, none⟩ (.slice (some ⟨g', 0, none⟩) (pre.length + 1) cap')).heap[k]? = some o := fun k o hko hn1 hn2 => by
        refine (hch2.block k (Array.getElem?_eq_some_iff.1 hko).1 (fun e => ?_)).trans hko
        rcases e with e | e
        · rw [e] at hko
          have hj := k1
          unfold Boxed at hj
          rw [hj] at hko; cases hko; exact hn2 _ _ rfl
        · obtain ⟨_, c, hc⟩ := owns_block k2 e.symm
          rw [hc] at hko; cases hko; exact hn1 _ _ rfl
      have hmk : ∀ m', MKept m' V1 (w1.setCell ⟨NB, 0, none⟩ (.slice (some ⟨g', 0, none⟩) (pre.length + 1) cap')) := fun m' => ⟨fun k c t ht hk => hex k _ hk (fun c' fz e => by cases e; exact ht.1 rfl) (fun c' fz e => by cases e; exact ht.2.1 rfl), fun k es c hk => hex k _ hk (fun _ _ e => by cases e) (fun _ _ e => by cases e), hcl m'⟩
      refine ⟨g', cap', rfl, ⟨_, hbx1.cell⟩, hbx1.frozen, KeepsFrom.tr (KeepsFrom.ofBelow hb1) (hcl _), (MKept.ofBelow hb1).tr (hmk _), _, boxed_set hbx1 _, ?_, ?_, ?_, by simp; omega⟩
      · have := owns_set ho ⟨NB, 0, none⟩ (.slice (some ⟨g', 0, none⟩) (pre.length + 1) cap') (owns_ne ho hbx1 (by decide))
        simpa using this
      · refine (h3.trans (hb1.mono (by omega))).trans ⟨hch2.os, hch2.tape, hch2.output, hch2.size, fun k hk => ?_⟩
        refine hch2.block k (by have := hb1.size; omega) (fun e => ?_)
        rcases e with rfl | e
        · omega
        · have := (owns_block k2 e.symm).1; omega
      · have := hch2.size; have := hb1.size; omega
    have hmix : Tryz.prog.follows .mixedOrders = true := by kernel_rfl
    clear hbx' h1 h2
    gi_wp2
    generalize textG t.1 = tx at *
    refine wpIn_region_any hmix ?_
    (try (change wpAnyIn _ _ _ _ _ _ _ _ _ (World.drew _)))
    refine wpAnyIn_ready (rs := [0, 1]) (by kernel_rfl) (by simp) (AllReadyIn.cons rfl (fun K hK => ?_) (AllReadyIn.cons rfl (fun K hK => ?_) AllReadyIn.nil))
    · go_simp
      refine hK _ _ ?_
      clear hK K
      refine wpAnyIn_ready (rs := [1]) (by kernel_rfl) (by simp) (AllReadyIn.cons rfl (fun K hK => ?_) AllReadyIn.nil)
      go_simp
      refine hK _ _ ?_
      clear hK K
      refine wpAnyIn_ready (rs := [2]) (by kernel_rfl) (by simp) (AllReadyIn.cons rfl (fun K hK => ?_) AllReadyIn.nil)
      go_simp
      refine ⟨trivial, ?_⟩
      refine (CallsIn.inRound l' (callsIn_wide.2 htx.out)).mono ?_
      rintro e V1 ⟨rfl, hbV1⟩
      have cbV1 := HCB.out V1 hbV1
      have cbV2 : ∀ O, (V1.alloc O).cell? ⟨NB, 0, none⟩ = some (.slice va pre.length vc) := fun O => HCB.out _ (hbV1.alloc hbV1.size O)
      refine hK _ _ ?_
      clear hK K
      refine wpAnyIn_ready (rs := [3]) (by kernel_rfl) (by simp) (AllReadyIn.cons rfl (fun K hK => ?_) AllReadyIn.nil)
      go_simp
      refine hK _ _ ?_
      clear hK K
      refine wpAnyIn_ready (rs := [4]) (by kernel_rfl) (by simp) (BigFrame.allReadyIn_want rfl rfl (fun K hK => ?_) AllReadyIn.nil)
      refine opIn_append_at _ (.tmp 7) (.tmp 10) 22 rfl NB 9 i0 (.string ⟨#[]⟩) 1 16 Tryz.underlying22 hi hz0 hz1 hz2 rfl (by decide) (.slice va pre.length vc) _ _ rfl (HOW.out V1 hbV1) ⟨V1.heap.size, 0, none⟩ 1 1 [.string tx] rfl rfl (cell_one_new _ _ _) (by simp [Value.oneCell']) hb1' hb2' (HSZ.out V1 hbV1) ?_
      intro v' w1 ho hgw hat
      obtain ⟨g', cap', rfl, ⟨cv, hcv⟩, hfz, hpost⟩ := hfin.out V1 v' w1 hbV1 ho hgw
      refine hK _ _ ?_
      clear hK K
      refine wpAnyIn_ready (rs := [5]) (by kernel_rfl) (by simp) (AllReadyIn.cons rfl (fun K hK => ?_) AllReadyIn.nil)
      go_simp
      refine hK _ _ ?_
      clear hK K
      refine wpAnyIn_done (by kernel_rfl) ?_ _
      exact hpost
    · go_simp
      refine hK _ _ ?_
      clear hK K
      refine wpAnyIn_ready (rs := [0, 2]) (by kernel_rfl) (by simp) (AllReadyIn.cons rfl (fun K hK => ?_) (AllReadyIn.cons rfl (fun K hK => ?_) AllReadyIn.nil))
      · go_simp
        refine hK _ _ ?_
        clear hK K
        refine wpAnyIn_ready (rs := [2]) (by kernel_rfl) (by simp) (AllReadyIn.cons rfl (fun K hK => ?_) AllReadyIn.nil)
        go_simp
        refine ⟨trivial, ?_⟩
        refine (CallsIn.inRound l' (callsIn_wide.2 htx.out)).mono ?_
        rintro e V1 ⟨rfl, hbV1⟩
        have cbV1 := HCB.out V1 hbV1
        have cbV2 : ∀ O, (V1.alloc O).cell? ⟨NB, 0, none⟩ = some (.slice va pre.length vc) := fun O => HCB.out _ (hbV1.alloc hbV1.size O)
        refine hK _ _ ?_
        clear hK K
        refine wpAnyIn_ready (rs := [3]) (by kernel_rfl) (by simp) (AllReadyIn.cons rfl (fun K hK => ?_) AllReadyIn.nil)
        go_simp
        refine hK _ _ ?_
        clear hK K
        refine wpAnyIn_ready (rs := [4]) (by kernel_rfl) (by simp) (BigFrame.allReadyIn_want rfl rfl (fun K hK => ?_) AllReadyIn.nil)
        refine opIn_append_at _ (.tmp 7) (.tmp 10) 22 rfl NB 9 i0 (.string ⟨#[]⟩) 1 16 Tryz.underlying22 hi hz0 hz1 hz2 rfl (by decide) (.slice va pre.length vc) _ _ rfl (HOW.out V1 hbV1) ⟨V1.heap.size, 0, none⟩ 1 1 [.string tx] rfl rfl (cell_one_new _ _ _) (by simp [Value.oneCell']) hb1' hb2' (HSZ.out V1 hbV1) ?_
        intro v' w1 ho hgw hat
        obtain ⟨g', cap', rfl, ⟨cv, hcv⟩, hfz, hpost⟩ := hfin.out V1 v' w1 hbV1 ho hgw
        refine hK _ _ ?_
        clear hK K
        refine wpAnyIn_ready (rs := [5]) (by kernel_rfl) (by simp) (AllReadyIn.cons rfl (fun K hK => ?_) AllReadyIn.nil)
        go_simp
        refine hK _ _ ?_
        clear hK K
        refine wpAnyIn_done (by kernel_rfl) ?_ _
        exact hpost
      · go_simp
        refine ⟨trivial, ?_⟩
        refine (CallsIn.inRound l' (callsIn_wide.2 htx.out)).mono ?_
        rintro e V1 ⟨rfl, hbV1⟩
        have cbV1 := HCB.out V1 hbV1
        have cbV2 : ∀ O, (V1.alloc O).cell? ⟨NB, 0, none⟩ = some (.slice va pre.length vc) := fun O => HCB.out _ (hbV1.alloc hbV1.size O)
        refine hK _ _ ?_
        clear hK K
        refine wpAnyIn_ready (rs := [0, 3]) (by kernel_rfl) (by simp) (AllReadyIn.cons rfl (fun K hK => ?_) (AllReadyIn.cons rfl (fun K hK => ?_) AllReadyIn.nil))
        · go_simp
          refine hK _ _ ?_
          clear hK K
          refine wpAnyIn_ready (rs := [3]) (by kernel_rfl) (by simp) (AllReadyIn.cons rfl (fun K hK => ?_) AllReadyIn.nil)
          go_simp
          refine hK _ _ ?_
          clear hK K
          refine wpAnyIn_ready (rs := [4]) (by kernel_rfl) (by simp) (BigFrame.allReadyIn_want rfl rfl (fun K hK => ?_) AllReadyIn.nil)
          refine opIn_append_at _ (.tmp 7) (.tmp 10) 22 rfl NB 9 i0 (.string ⟨#[]⟩) 1 16 Tryz.underlying22 hi hz0 hz1 hz2 rfl (by decide) (.slice va pre.length vc) _ _ rfl (HOW.out V1 hbV1) ⟨V1.heap.size, 0, none⟩ 1 1 [.string tx] rfl rfl (cell_one_new _ _ _) (by simp [Value.oneCell']) hb1' hb2' (HSZ.out V1 hbV1) ?_
          intro v' w1 ho hgw hat
          obtain ⟨g', cap', rfl, ⟨cv, hcv⟩, hfz, hpost⟩ := hfin.out V1 v' w1 hbV1 ho hgw
          refine hK _ _ ?_
          clear hK K
          refine wpAnyIn_ready (rs := [5]) (by kernel_rfl) (by simp) (AllReadyIn.cons rfl (fun K hK => ?_) AllReadyIn.nil)
          go_simp
          refine hK _ _ ?_
          clear hK K
          refine wpAnyIn_done (by kernel_rfl) ?_ _
          exact hpost
        · go_simp
          refine hK _ _ ?_
          clear hK K
          refine wpAnyIn_ready (rs := [0]) (by kernel_rfl) (by simp) (AllReadyIn.cons rfl (fun K hK => ?_) AllReadyIn.nil)
          go_simp
          refine hK _ _ ?_
          clear hK K
          refine wpAnyIn_ready (rs := [4]) (by kernel_rfl) (by simp) (BigFrame.allReadyIn_want rfl rfl (fun K hK => ?_) AllReadyIn.nil)
          refine opIn_append_at _ (.tmp 7) (.tmp 10) 22 rfl NB 9 i0 (.string ⟨#[]⟩) 1 16 Tryz.underlying22 hi hz0 hz1 hz2 rfl (by decide) (.slice va pre.length vc) _ _ rfl (HOW.out V1 hbV1) ⟨V1.heap.size, 0, none⟩ 1 1 [.string tx] rfl rfl (cell_one_new _ _ _) (by simp [Value.oneCell']) hb1' hb2' (HSZ.out V1 hbV1) ?_
          intro v' w1 ho hgw hat
          obtain ⟨g', cap', rfl, ⟨cv, hcv⟩, hfz, hpost⟩ := hfin.out V1 v' w1 hbV1 ho hgw
          refine hK _ _ ?_
          clear hK K
          refine wpAnyIn_ready (rs := [5]) (by kernel_rfl) (by simp) (AllReadyIn.cons rfl (fun K hK => ?_) AllReadyIn.nil)
          go_simp
          refine hK _ _ ?_
          clear hK K
          refine wpAnyIn_done (by kernel_rfl) ?_ _
          exact hpost

end Go.Proofs.YtjajnhemgphefaaGreatDoor

namespace Go.Proofs.YtjajnhemgphefaaGreatDoor
open Go.RowKit Go.Shelf
set_option linter.unusedVariables false
set_option linter.unusedSimpArgs false

theorem zero_size (z : Array Value) (n : Nat) : (Builtin.zeroCells z n).size = n * z.size := by
  unfold Builtin.zeroCells
  induction n with
  | zero => simp
  | succ n ih => simp [Array.replicate_succ, Nat.succ_mul]

/-- A slice that is read alone. -/
structure Sl where
  v : Value
  n : Nat
  xs : List Value
def slSum (l : List Sl) : Nat := (l.map (·.n)).sum
theorem slSum_take {l : List Sl} {k : Nat} (h : k < l.length) : slSum (l.take (k + 1)) = slSum (l.take k) + (l[k]).n := by
  unfold slSum; rw [List.take_succ_eq_append_getElem h, List.map_append, List.sum_append]; rfl
theorem slSum_le (l : List Sl) (k : Nat) : slSum (l.take k) ≤ slSum l := by
  unfold slSum
  conv => rhs; rw [← List.take_append_drop k l]
  rw [List.map_append, List.sum_append]
  omega
def SrcAt (W : World) (size : Nat) (s : Sl) : Prop :=
  (s.v = .slice none 0 0 ∧ s.n = 0 ∧ s.xs = []) ∨
  ∃ a c, s.v = .slice (some a) s.n c ∧ s.xs.length = s.n * size ∧ (∀ j u, s.xs[j]? = some u → W.cell? (a.add j) = some u) ∧ (s.n ≠ 0 → a.block < W.heap.size) ∧ ∀ u ∈ s.xs, u.oneCell' = true
theorem SrcAt.form {W : World} {size : Nat} {s : Sl} (h : SrcAt W size s) : ∃ a c, s.v = .slice a s.n c := by
  rcases h with ⟨h1, h2, _⟩ | ⟨a, c, h1, _⟩
  · exact ⟨none, 0, by rw [h1, h2]⟩
  · exact ⟨some a, c, h1⟩
theorem SrcAt.later {W W' : World} {size : Nat} {s : Sl} (h : SrcAt W size s) (hb : Below W.heap.size W W') : SrcAt W' size s := by
  rcases h with h | ⟨a, c, h1, h2, h3, h4, h5⟩
  · exact .inl h
  · refine .inr ⟨a, c, h1, h2, fun j u hj => cell_later hb (h3 j u hj), fun hn => ?_, h5⟩
    have := h4 hn; have := hb.size; omega

theorem ownsRow_lower {W : World} {b b' e size n : Nat} {v : Value} {xs : List Value} (h : W.ownsRow b e size v n xs) (hb : b' ≤ b) : W.ownsRow b' e size v n xs := by
  obtain ⟨h0, h1 | ⟨g, cap, cur, hv, hg, h2⟩⟩ := h
  · exact ⟨h0, .inl h1⟩
  · exact ⟨h0, .inr ⟨g, cap, cur, hv, Nat.le_trans hb hg, h2⟩⟩
theorem own_ge {W : World} {b e size n : Nat} {v : Value} {xs : List Value} (h : W.ownsRow b e size v n xs) {g : Nat} (hg : v.ownBlock = some g) : b ≤ g := by
  obtain ⟨h0, ⟨h1, _⟩ | ⟨g', cap, cur, hv, hb, h2⟩⟩ := h
  · rw [h1] at hg; cases hg
  · rw [hv] at hg; cases hg; exact hb
theorem grown_refl (W : World) (r : Option Nat) : W.grownBy W r := ⟨rfl, rfl, rfl, Nat.le_refl _, fun _ _ _ => rfl⟩

theorem wpList_append_none {P : Program} (w : World) {ops : Array Oper} {rest : List Oper} {o : Oper} {a : Act} {Q : Exit → Act → World → Prop} (hgd : o.guard = none) (s x : Operand) (t : TypeId)
    (ho : o.op = .call { callee := .builtin .append, args := #[s, x], argTypes := #[t, t] }) (base : Nat) (e : TypeId) (i : TypeInfo) (size : Nat) (ht : P.underlying t = some (.slice e)) (hi : P.info? e = some i)
    (v : Value) (n : Nat) (xs : List Value) (hs : a.eval s = v) (hown : w.ownsRow base e size v n xs) (hx : a.eval x = .slice none 0 0) (h : wpList P ops Q rest (a.put o.dst v) w) : wpList P ops Q (o :: rest) a w := by
  refine wpList_plain hgd fun K hK => ?_
  have hr := run_append_owned_none (P := P) w base t o.type e i size ht hi v n xs hown
  unfold Oper.wp execOp
  simp only [ho, resolve, invoke, builtin, Sem.run_bind, Sem.run_pure, Result.andThen_ok, List.map_toArray, List.map_cons, List.map_nil, hs, hx, hr]
  exact hK _ _ h
theorem Tryz.infoRec : (Tryz.prog.info? 71).map (fun i => (i.zero, i.size, i.bytes)) = some (some (.agg #[.int .i64 0, .int .i64 0, .string ⟨#[]⟩, .int .i64 0]), 4, 40) := by kernel_rfl

theorem growA_any (n : Nat) (hn : n ≤ 1000) (w : World) :
    Calls Tryz.prog 259 #[.slice none 0 0, .int .i64 n] w fun e w' => ∃ v, e = .returned v ∧ w'.ownsRow w.heap.size 92 2 v 0 [] ∧ Below w.heap.size w w' := by
  by_cases h0 : n = 0
  · subst h0
    refine (Any8.slices_Grow_room Tryz.growAtom none 0 0 0 w (Nat.le_refl _) (by decide) (by decide) (Nat.le_refl _)).mono ?_
    rintro e w' ⟨rfl, rfl⟩
    exact ⟨_, rfl, World.ownsRow_nil _ _ _ _, Below.refl _ _⟩
  · obtain ⟨i0, hi, hz0, hz1, hz2⟩ := info_parts Tryz.info45
    refine (Any8.slices_Grow_grow Tryz.growAtom i0 _ hi hz0 (by rw [hz1]; decide) none 0 0 n [] w (Nat.le_refl _) (by omega) (by rw [hz2]; omega) (by omega) (by simp) (fun _ => rfl) (fun a h => by cases h)).mono ?_
    rintro e w' ⟨rfl, rfl⟩
    have hg := grownCap_ge w (0 + n) 0 92
    have hm := grownCap_le_maxLen w (0 + n) 0 92 (by unfold maxLen; omega)
    refine ⟨_, rfl, ⟨rfl, .inr ⟨w.heap.size, _, _, rfl, Nat.le_refl _, World.alloc_heap_new w.drew _, Nat.zero_le _, hm, ?_, by simp⟩⟩, (Below.refl w.heap.size w).drew.alloc (Nat.le_refl _) _⟩
    rw [Array.size_append, Array.size_append, zero_size, zero_size]
    show 0 + _ * 2 + _ * 2 = _ * 2
    have : ∀ g : Nat, 0 + n ≤ g → 0 + (0 + n - 0) * 2 + (g - (0 + n)) * 2 = g * 2 := fun g h => by omega
    exact this _ hg

set_option maxRecDepth 100000 in
set_option maxHeartbeats 2000000 in
theorem concatA_any (B : Nat) (ss : List Sl) (w : World) (hB : w.heap[B]? = some (Obj.cells (ss.map (·.v)).toArray 134 (0, 0))) (hss : ∀ s ∈ ss, SrcAt w 2 s) (hn : slSum ss ≤ 500) (hl : ss.length ≤ 10) :
    Calls Tryz.prog 230 #[.slice (some ⟨B, 0, none⟩) ss.length ss.length] w fun e w' => ∃ v, e = .returned v ∧ w'.ownsRow w.heap.size 92 2 v (slSum ss) (ss.flatMap (·.xs)) ∧ Below w.heap.size w w' := by
  have hBl : B < w.heap.size := (Array.getElem?_eq_some_iff.1 hB).1
  have hgr : Hid (∀ W, Calls Tryz.prog 259 #[.slice none 0 0, .int .i64 (slSum ss)] W fun e w' => ∃ v, e = .returned v ∧ w'.ownsRow W.heap.size 92 2 v 0 [] ∧ Below W.heap.size W w') := fun W => growA_any _ (by omega) W
  have hcell : Hid (∀ W, Below w.heap.size w W → ∀ k (hk : k < ss.length), W.cell? ⟨B, k, none⟩ = some (ss[k]).v ∧ SrcAt W 2 ss[k]) := by
    intro W hb k hk
    refine ⟨cell_later hb ?_, (hss _ (List.getElem_mem hk)).later hb⟩
    simp [World.cell?, hB, hk]
  clear hss hB
  obtain ⟨i0, hi, hz0, hz1, hz2⟩ := info_parts Tryz.info45
  go_enter Tryz.func230, Tryz.ntmps230
  go_wp2
  go_loopw [3, 11] (fun x y wr => ∃ k : Nat, k ≤ ss.length ∧ x = .int .i64 (slSum (ss.take k)) ∧ y = .int .i64 k ∧ Below w.heap.size w wr) (fun x y _ => ss.length - (intOf y).toNat)
  case atStart => exact ⟨0, Nat.zero_le _, rfl, rfl, Below.refl _ _⟩
  case round =>
    obtain ⟨k, hk, rfl, rfl, hb⟩ := hrel
    by_cases hlt : k < ss.length
    · obtain ⟨hc, hs⟩ := hcell.out wr hb k hlt
      obtain ⟨a, c, hv⟩ := hs.form
      have hsum : slSum (ss.take (k + 1)) = slSum (ss.take k) + (ss[k]).n := slSum_take hlt
      have hle := slSum_le ss (k + 1)
      rw [hv] at hc
      have i1 : (k : Int) < (ss.length : Int) := by omega
      generalize (ss[k]).n = m at *
      generalize hq : slSum (ss.take k) = q at *
      have i2 : ¬ ((q : Int) + m < 0) := by omega
      clear hs hv hq
      go_wp2
      go_roundw
      case rel => exact ⟨k + 1, by omega, by rw [hsum]; go_num, by go_num, hb⟩
      case measure => simp [intOf]; omega
    · have hkl : k = ss.length := by omega
      subst hkl
      rw [List.take_length] at *
      generalize hq : slSum ss = q at *
      have hqs : Hid (slSum ss = q) := hq
      have hq5 : q ≤ 500 := hn
      clear hq
      go_wp2_with (go_at_call 259; refine (hgr.out _).mono ?_; rintro e W1 ⟨v, rfl, hown, hb1⟩; obtain ⟨va, vc, hvf⟩ := own_form hown; subst hvf)
      have hbW : Below w.heap.size w W1 := hb.trans (hb1.mono hb.size)
      have hown0 : W1.ownsRow w.heap.size 92 2 (.slice va 0 vc) 0 [] := ownsRow_lower hown hb.size
      clear hown hgr hb1 hb
      go_loopw [6, 27] (fun x y wr => ∃ k : Nat, k ≤ ss.length ∧ (∃ vx, vx = x ∧ wr.ownsRow w.heap.size 92 2 vx (slSum (ss.take k)) ((ss.take k).flatMap (·.xs))) ∧ y = .int .i64 k ∧ Below w.heap.size w wr) (fun x y _ => ss.length - (intOf y).toNat)
      case atStart => exact ⟨0, Nat.zero_le _, ⟨_, rfl, hown0⟩, rfl, hbW⟩
      case round =>
        clear hown0 hbW
        obtain ⟨k, hk, ⟨vx, rfl, hown⟩, rfl, hb⟩ := hrel
        by_cases hlt : k < ss.length
        · obtain ⟨hc, hs⟩ := hcell.out _ hb k hlt
          have hsum : slSum (ss.take (k + 1)) = slSum (ss.take k) + (ss[k]).n := slSum_take hlt
          have hle := slSum_le ss (k + 1)
          have hxs : (ss.take (k + 1)).flatMap (·.xs) = (ss.take k).flatMap (·.xs) ++ (ss[k]).xs := by rw [List.take_succ_eq_append_getElem hlt, List.flatMap_append]; simp
          have i1 : (k : Int) < (ss.length : Int) := by omega
          have hsz := hb.size
          have hnext : Hid (∀ v' w1, w1.ownsRow w.heap.size 92 2 v' (slSum (ss.take k) + (ss[k]).n) ((ss.take k).flatMap (·.xs) ++ (ss[k]).xs) → wr.grownBy w1 vx.ownBlock → w1.ownsRow w.heap.size 92 2 v' (slSum (ss.take (k + 1))) ((ss.take (k + 1)).flatMap (·.xs)) ∧ Below w.heap.size w w1) := by
            intro v' w1 h1 h2
            rw [hsum, hxs]
            exact ⟨h1, hb.grown h2 hsz (fun g hg => own_ge hown hg)⟩
          rw [hqs.out] at hle
          rcases hs with ⟨s1, s2, s3⟩ | ⟨a, c, s1, s2, s3, s4, s5⟩
          · rw [s1] at hc
            have hl := hnext.out vx wr (by rw [s2, s3]; simpa using hown) (grown_refl _ _)
            have HL : Hid _ := hl
            have HO : Hid (wr.ownsRow w.heap.size 92 2 vx (slSum (ss.take k)) ((ss.take k).flatMap (·.xs))) := hown
            obtain ⟨xa, xc, hxf⟩ := own_form hown
            clear hnext hxs hsum hl
            subst hxf
            go_wp2_with (at_builtin; refine wpList_append_none _ rfl (.tmp 31) (.tmp 32) 134 rfl w.heap.size 92 i0 2 Tryz.underlying134 hi _ _ _ rfl HO.out rfl ?_)
            go_roundw
            case rel => exact ⟨k + 1, by omega, ⟨_, rfl, HL.out.1⟩, by go_num, HL.out.2⟩
            case measure => simp [intOf]; omega
          · rw [s1] at hc
            have hb1 : slSum (ss.take k) + (ss[k]).n ≤ maxLen := by unfold maxLen; omega
            have hb2 : (slSum (ss.take k) + (ss[k]).n) * 40 ≤ 140737488355328 := by omega
            have HO : Hid (wr.ownsRow w.heap.size 92 2 vx (slSum (ss.take k)) ((ss.take k).flatMap (·.xs))) := hown
            obtain ⟨xa, xc, hxf⟩ := own_form hown
            have S3 : Hid _ := s3
            generalize (ss[k]).n = m at *
            generalize (ss[k]).xs = news at *
            clear hxs hsum hle s3 hown
            subst hxf
            go_wp2_with (at_builtin; refine wpList_append_own _ rfl (.tmp 31) (.tmp 32) 134 rfl w.heap.size 92 i0 _ 2 40 Tryz.underlying134 hi hz0 hz1 hz2 rfl (by decide) _ _ _ rfl HO.out a m c news rfl s2 S3.out s5 hb1 hb2 hsz ?_; intro v' w1 hown1 hgrow1 _; obtain ⟨xa', xc', hxf'⟩ := own_form hown1; subst hxf')
            obtain ⟨t1, t2⟩ := hnext.out _ w1 hown1 hgrow1
            go_roundw
            case rel => exact ⟨k + 1, by omega, ⟨_, rfl, t1⟩, by go_num, t2⟩
            case measure => simp [intOf]; omega
        · have hkl : k = ss.length := by omega
          subst hkl
          rw [List.take_length] at hown
          rw [hqs.out] at hown
          obtain ⟨xa, xc, hxf⟩ := own_form hown
          subst hxf
          go_wp2
          go_ret
          refine ⟨_, rfl, ?_, hb⟩
          rw [hqs.out]
          exact hown

theorem growR_any (n : Nat) (hn : n ≤ 1000) (w : World) :
    Calls Tryz.prog 194 #[.slice none 0 0, .int .i64 n] w fun e w' => ∃ v, e = .returned v ∧ w'.ownsRow w.heap.size 71 4 v 0 [] ∧ Below w.heap.size w w' := by
  by_cases h0 : n = 0
  · subst h0
    refine (Any8.slices_Grow_room Tryz.growRecord none 0 0 0 w (Nat.le_refl _) (by decide) (by decide) (Nat.le_refl _)).mono ?_
    rintro e w' ⟨rfl, rfl⟩
    exact ⟨_, rfl, World.ownsRow_nil _ _ _ _, Below.refl _ _⟩
  · obtain ⟨i0, hi, hz0, hz1, hz2⟩ := info_parts Tryz.infoRec
    refine (Any8.slices_Grow_grow Tryz.growRecord i0 _ hi hz0 (by rw [hz1]; decide) none 0 0 n [] w (Nat.le_refl _) (by omega) (by rw [hz2]; omega) (by omega) (by simp) (fun _ => rfl) (fun a h => by cases h)).mono ?_
    rintro e w' ⟨rfl, rfl⟩
    have hg := grownCap_ge w (0 + n) 0 71
    have hm := grownCap_le_maxLen w (0 + n) 0 71 (by unfold maxLen; omega)
    refine ⟨_, rfl, ⟨rfl, .inr ⟨w.heap.size, _, _, rfl, Nat.le_refl _, World.alloc_heap_new w.drew _, Nat.zero_le _, hm, ?_, by simp⟩⟩, (Below.refl w.heap.size w).drew.alloc (Nat.le_refl _) _⟩
    rw [Array.size_append, Array.size_append, zero_size, zero_size]
    show 0 + _ * 4 + _ * 4 = _ * 4
    have : ∀ g : Nat, 0 + n ≤ g → 0 + (0 + n - 0) * 4 + (g - (0 + n)) * 4 = g * 4 := fun g h => by omega
    exact this _ hg

set_option maxRecDepth 100000 in
set_option maxHeartbeats 2000000 in
theorem concatR_any (B : Nat) (ss : List Sl) (w : World) (hB : w.heap[B]? = some (Obj.cells (ss.map (·.v)).toArray 196 (0, 0))) (hss : ∀ s ∈ ss, SrcAt w 4 s) (hn : slSum ss ≤ 500) (hl : ss.length ≤ 10) :
    Calls Tryz.prog 148 #[.slice (some ⟨B, 0, none⟩) ss.length ss.length] w fun e w' => ∃ v, e = .returned v ∧ w'.ownsRow w.heap.size 71 4 v (slSum ss) (ss.flatMap (·.xs)) ∧ Below w.heap.size w w' := by
  have hBl : B < w.heap.size := (Array.getElem?_eq_some_iff.1 hB).1
  have hgr : Hid (∀ W, Calls Tryz.prog 194 #[.slice none 0 0, .int .i64 (slSum ss)] W fun e w' => ∃ v, e = .returned v ∧ w'.ownsRow W.heap.size 71 4 v 0 [] ∧ Below W.heap.size W w') := fun W => growR_any _ (by omega) W
  have hcell : Hid (∀ W, Below w.heap.size w W → ∀ k (hk : k < ss.length), W.cell? ⟨B, k, none⟩ = some (ss[k]).v ∧ SrcAt W 4 ss[k]) := by
    intro W hb k hk
    refine ⟨cell_later hb ?_, (hss _ (List.getElem_mem hk)).later hb⟩
    simp [World.cell?, hB, hk]
  clear hss hB
  obtain ⟨i0, hi, hz0, hz1, hz2⟩ := info_parts Tryz.infoRec
  go_enter Tryz.func148, Tryz.ntmps148
  go_wp2
  go_loopw [3, 11] (fun x y wr => ∃ k : Nat, k ≤ ss.length ∧ x = .int .i64 (slSum (ss.take k)) ∧ y = .int .i64 k ∧ Below w.heap.size w wr) (fun x y _ => ss.length - (intOf y).toNat)
  case atStart => exact ⟨0, Nat.zero_le _, rfl, rfl, Below.refl _ _⟩
  case round =>
    obtain ⟨k, hk, rfl, rfl, hb⟩ := hrel
    by_cases hlt : k < ss.length
    · obtain ⟨hc, hs⟩ := hcell.out wr hb k hlt
      obtain ⟨a, c, hv⟩ := hs.form
      have hsum : slSum (ss.take (k + 1)) = slSum (ss.take k) + (ss[k]).n := slSum_take hlt
      have hle := slSum_le ss (k + 1)
      rw [hv] at hc
      have i1 : (k : Int) < (ss.length : Int) := by omega
      generalize (ss[k]).n = m at *
      generalize hq : slSum (ss.take k) = q at *
      have i2 : ¬ ((q : Int) + m < 0) := by omega
      clear hs hv hq
      go_wp2
      go_roundw
      case rel => exact ⟨k + 1, by omega, by rw [hsum]; go_num, by go_num, hb⟩
      case measure => simp [intOf]; omega
    · have hkl : k = ss.length := by omega
      subst hkl
      rw [List.take_length] at *
      generalize hq : slSum ss = q at *
      have hqs : Hid (slSum ss = q) := hq
      have hq5 : q ≤ 500 := hn
      clear hq
      go_wp2_with (go_at_call 194; refine (hgr.out _).mono ?_; rintro e W1 ⟨v, rfl, hown, hb1⟩; obtain ⟨va, vc, hvf⟩ := own_form hown; subst hvf)
      have hbW : Below w.heap.size w W1 := hb.trans (hb1.mono hb.size)
      have hown0 : W1.ownsRow w.heap.size 71 4 (.slice va 0 vc) 0 [] := ownsRow_lower hown hb.size
      clear hown hgr hb1 hb
      go_loopw [6, 27] (fun x y wr => ∃ k : Nat, k ≤ ss.length ∧ (∃ vx, vx = x ∧ wr.ownsRow w.heap.size 71 4 vx (slSum (ss.take k)) ((ss.take k).flatMap (·.xs))) ∧ y = .int .i64 k ∧ Below w.heap.size w wr) (fun x y _ => ss.length - (intOf y).toNat)
      case atStart => exact ⟨0, Nat.zero_le _, ⟨_, rfl, hown0⟩, rfl, hbW⟩
      case round =>
        clear hown0 hbW
        obtain ⟨k, hk, ⟨vx, rfl, hown⟩, rfl, hb⟩ := hrel
        by_cases hlt : k < ss.length
        · obtain ⟨hc, hs⟩ := hcell.out _ hb k hlt
          have hsum : slSum (ss.take (k + 1)) = slSum (ss.take k) + (ss[k]).n := slSum_take hlt
          have hle := slSum_le ss (k + 1)
          have hxs : (ss.take (k + 1)).flatMap (·.xs) = (ss.take k).flatMap (·.xs) ++ (ss[k]).xs := by rw [List.take_succ_eq_append_getElem hlt, List.flatMap_append]; simp
          have i1 : (k : Int) < (ss.length : Int) := by omega
          have hsz := hb.size
          have hnext : Hid (∀ v' w1, w1.ownsRow w.heap.size 71 4 v' (slSum (ss.take k) + (ss[k]).n) ((ss.take k).flatMap (·.xs) ++ (ss[k]).xs) → wr.grownBy w1 vx.ownBlock → w1.ownsRow w.heap.size 71 4 v' (slSum (ss.take (k + 1))) ((ss.take (k + 1)).flatMap (·.xs)) ∧ Below w.heap.size w w1) := by
            intro v' w1 h1 h2
            rw [hsum, hxs]
            exact ⟨h1, hb.grown h2 hsz (fun g hg => own_ge hown hg)⟩
          rw [hqs.out] at hle
          rcases hs with ⟨s1, s2, s3⟩ | ⟨a, c, s1, s2, s3, s4, s5⟩
          · rw [s1] at hc
            have hl := hnext.out vx wr (by rw [s2, s3]; simpa using hown) (grown_refl _ _)
            have HL : Hid _ := hl
            have HO : Hid (wr.ownsRow w.heap.size 71 4 vx (slSum (ss.take k)) ((ss.take k).flatMap (·.xs))) := hown
            obtain ⟨xa, xc, hxf⟩ := own_form hown
            clear hnext hxs hsum hl
            subst hxf
            go_wp2_with (at_builtin; refine wpList_append_none _ rfl (.tmp 31) (.tmp 32) 196 rfl w.heap.size 71 i0 4 Tryz.underlying196 hi _ _ _ rfl HO.out rfl ?_)
            go_roundw
            case rel => exact ⟨k + 1, by omega, ⟨_, rfl, HL.out.1⟩, by go_num, HL.out.2⟩
            case measure => simp [intOf]; omega
          · rw [s1] at hc
            have hb1 : slSum (ss.take k) + (ss[k]).n ≤ maxLen := by unfold maxLen; omega
            have hb2 : (slSum (ss.take k) + (ss[k]).n) * 40 ≤ 140737488355328 := by omega
            have HO : Hid (wr.ownsRow w.heap.size 71 4 vx (slSum (ss.take k)) ((ss.take k).flatMap (·.xs))) := hown
            obtain ⟨xa, xc, hxf⟩ := own_form hown
            have S3 : Hid _ := s3
            generalize (ss[k]).n = m at *
            generalize (ss[k]).xs = news at *
            clear hxs hsum hle s3 hown
            subst hxf
            go_wp2_with (at_builtin; refine wpList_append_own _ rfl (.tmp 31) (.tmp 32) 196 rfl w.heap.size 71 i0 _ 4 40 Tryz.underlying196 hi hz0 hz1 hz2 rfl (by decide) _ _ _ rfl HO.out a m c news rfl s2 S3.out s5 hb1 hb2 hsz ?_; intro v' w1 hown1 hgrow1 _; obtain ⟨xa', xc', hxf'⟩ := own_form hown1; subst hxf')
            obtain ⟨t1, t2⟩ := hnext.out _ w1 hown1 hgrow1
            go_roundw
            case rel => exact ⟨k + 1, by omega, ⟨_, rfl, t1⟩, by go_num, t2⟩
            case measure => simp [intOf]; omega
        · have hkl : k = ss.length := by omega
          subst hkl
          rw [List.take_length] at hown
          rw [hqs.out] at hown
          obtain ⟨xa, xc, hxf⟩ := own_form hown
          subst hxf
          go_wp2
          go_ret
          refine ⟨_, rfl, ?_, hb⟩
          rw [hqs.out]
          exact hown

end Go.Proofs.YtjajnhemgphefaaGreatDoor
