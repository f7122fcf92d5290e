/-
  Package model: texts in order.
-/
import Derived.Test.YtjajnhemgphefaaGreatDoorJdTxt
import Derived.Test.YtjajnhemgphefaaGreatDoorJdApI
import Derived.Shelf.Slices.In.SortNone
namespace Go.Proofs.YtjajnhemgphefaaGreatDoor
open Go.RowKit Go.Shelf Go.Maps
set_option linter.unusedVariables false
set_option linter.unusedSimpArgs false
attribute [local go_sem] Oper.semAt_some

def sortT (l : List (List UInt8)) : List (List UInt8) := l.mergeSort fun x y => decide (x ≤ y)
def strV (l : List UInt8) : Value := .string ⟨l.toArray⟩

theorem sortS_any (v : Value) (l : List (List UInt8)) (b : Nat) (w : World) (hown : w.ownsRow b 9 1 v l.length (l.map strV)) (hl : l.length ≤ 2000000) :
    Calls Tryz.prog 92 #[v] w fun e w' => e = .returned (.tuple #[]) ∧ w'.ownsRow b 9 1 v l.length ((sortT l).map strV) ∧ Chg w w' (fun k => some k = v.ownBlock) := by
  have hown' := hown
  obtain ⟨hlen, ⟨hv, hn⟩ | ⟨g, cap, cur, hv, hb, hh, h1, h2, h3, h4⟩⟩ := hown
  · subst hv
    have : l = [] := List.eq_nil_of_length_eq_zero hn
    subst this
    refine (Any.slices_Sort_string_none Tryz.lays190 none 0 w).mono ?_
    rintro e w' ⟨rfl, rfl⟩
    have e0 : sortT [] = [] := by simp [sortT]
    rw [e0]
    exact ⟨rfl, hown', Chg.refl _ _⟩
  · subst hv
    have hlt := (Array.getElem?_eq_some_iff.1 hh).1
    have hH : Sort.Holds encStr w g 0 l.toArray := by
      intro j hj
      have hj' : j < l.length := by simpa using hj
      refine ⟨?_, by simp [World.frozen?, hh]⟩
      have e1 : cur.toList[j]? = (l.map strV)[j]? := by
        rw [← h4, List.getElem?_take, if_pos (by omega)]
      have e2 : cur[j]? = some (strV l[j]) := by
        rw [List.getElem?_map, List.getElem?_eq_getElem hj'] at e1
        simpa using e1
      simp only [World.cell?, hh]
      have e3 : l.toArray[j]! = l[j] := by simp [hj']
      rw [e3]
      have e4 : cur[0 + j]? = some (strV l[j]) := by rw [Nat.zero_add]; exact e2
      exact e4
    refine (Tryz.slices_Sort_string g 0 cap l w hH hlt (by omega)).mono ?_
    rintro e w' ⟨rfl, n, os, rfl⟩
    have hsl : (sortT l).length = l.length := (List.mergeSort_perm l _).length_eq
    have hF : ((sortT l).toArray.map encStr).size ≤ cur.size := by simp [hsl]; omega
    have hput : Sort.grow (Sort.putRow encStr (Sort.ahead w n) g 0 (sortT l).toArray) os = Sort.grow (Sort.putRow id (Sort.ahead w n) g 0 ((sortT l).toArray.map encStr)) os := by
      unfold Sort.putRow
      congr 2
      funext c
      unfold Sort.putCells
      refine Array.ext (by simp) (fun i h1 h2 => ?_)
      simp only [Array.getElem_mapIdx, Array.size_map]
      by_cases hi : 0 ≤ i ∧ i < 0 + (sortT l).toArray.size
      · rw [if_pos hi, if_pos hi]
        have : i < (sortT l).length := by simpa using hi
        simp [this]
      · rw [if_neg hi, if_neg hi]
    obtain ⟨s1, s2, s3, s4⟩ := sort_heap (n := n) ((sortT l).toArray.map encStr) os hh hF
    show _ ∧ (Sort.grow (Sort.putRow encStr (Sort.ahead w n) g 0 (sortT l).toArray) os).ownsRow _ _ _ _ _ _ ∧ Chg w (Sort.grow (Sort.putRow encStr (Sort.ahead w n) g 0 (sortT l).toArray) os) _
    rw [hput]
    refine ⟨rfl, ⟨by simp [hsl], .inr ⟨g, cap, _, rfl, hb, s1, h1, h2, s3.trans h3, ?_⟩⟩, ⟨rfl, rfl, rfl, ?_, fun k hk hx => s2 k hk (fun e => hx (by rw [e]; rfl))⟩⟩
    · have e1 : l.length * 1 = ((sortT l).toArray.map encStr).size := by simp [hsl]
      rw [e1, s4]
      simp [strV]
    · simp [Sort.grow, Sort.putRow, Sort.mapBlock, Sort.ahead]

set_option maxRecDepth 100000 in
set_option maxHeartbeats 4000000 in
theorem texts_any {gf : Nat} {lb : Array Value} {S Sp : List GdY → Prop} {N : Nat} (w : World) (hNl : N ≤ 1000000)
    (eg : ∀ args w, (callFunc gf args).run Tryz.prog w = .ok (.enter gf args) w) (hseq : ∀ m n, SeqM m n gf lb (fun g : GdY => #[g.1.v]) (MKept m) S Sp N w) :
    Calls Tryz.prog 50 #[.func (.func gf) #[] lb] w fun e w' => ∃ v gs, e = .returned v ∧ S gs ∧ w'.ownsRow w.heap.size 9 1 v gs.length ((sortT (gs.map (fun g => (textG g.1).data.toList))).map strV) ∧ Below w.heap.size w w' ∧ gs.length ≤ N := by
  obtain ⟨NB, hN⟩ : ∃ N, w.heap.size = N := ⟨_, rfl⟩
  obtain ⟨i0, hi, hz0, hz1, hz2⟩ := info_parts Tryz.info9
  refine (callsIn_wide (n := 8)).1 ?_
  refine callsIn_of_wp_marks Tryz.func50 rfl trivial ?_ rfl
  simp only [Tryz.ntmps50, List.size_toArray, List.length_cons, List.length_nil, Nat.reduceAdd, Nat.reduceSub, Array.replicate_succ, Array.replicate_zero, List.push_toArray, List.append_toArray, List.nil_append, List.cons_append]
  gi_wp2
  obtain ⟨W0, hW0⟩ : ∃ W0, w.alloc (.cells #[.slice none 0 0] 22) = W0 := ⟨_, rfl⟩
  have hb0 : Below w.heap.size w W0 := by rw [← hW0]; exact (Below.refl _ w).alloc (Nat.le_refl _) _
  have hs0 : W0.heap.size = NB + 1 := by rw [← hW0, ← hN]; simp
  have bV : Boxed W0 NB 22 (.slice none 0 0) := by
    have := Boxed.new w 22 (.slice none 0 0)
    rw [hN, hW0] at this; exact this
  (try simp only [hN])
  rw [hW0]
  clear hW0
  refine range_outM (n := 8) (gf := gf) (lb := lb) rfl eg ((hseq _ _).later hb0) MKept.tr (fun V rc o' ho => MKept.put V _ _ o' (by omega) ho rfl (fun _ _ h => by cases h)) (fun _ => rfl)
    (fun pre V => ∃ v, Boxed V NB 22 v ∧ V.ownsRow NB 9 1 v pre.length (pre.map (fun g => .string (textG g.1))) ∧ Below NB w V ∧ NB < V.heap.size ∧ pre.length ≤ N)
    (fun _ _ _ => False)
    ?hI (fun _ _ _ _ _ h _ _ => h) ⟨_, bV, ⟨rfl, .inl ⟨rfl, rfl⟩⟩, by rw [hN] at hb0; exact hb0, by omega, Nat.zero_le _⟩
    (fun x a' V => ∃ Bx, V.heap[Bx]? = some (Obj.cells x.1.c 111 (0, 0)) ∧ a' = { tmps := #[.func (.func gf) #[] lb, undef, .slice none 0 0, .pointer (some ⟨NB, 0, none⟩), .pointer (some ⟨Bx, 0, none⟩), .func (.func gf) #[] lb, .agg #[.string x.1.rel, .string x.1.x, .string x.1.y], undef, undef, undef, undef, undef, undef, undef, undef], defers := [] })
    ?hAx ?assign ?body ?done (fun _ _ _ _ _ _ h _ => h.elim)
  case hI =>
    rintro pre V V' row ⟨v, h1, h2, h3, h4, h5⟩ hg hr
    have hk := kept_of_grown hg (fun r e => (hr r e).2)
    exact ⟨v, hk _ _ _ _ h1, owns_kept h2 (fun g c _ hc => hk g c _ _ hc), h3.grown hg (by omega) (fun k e => by have := (hr k e).1; omega), by have := hg.size; omega, h5⟩
  case hAx =>
    rintro x a' _ V V' row ⟨Bx, h2, h5⟩ hg hr
    exact ⟨Bx, kept_of_grown hg (fun r e => (hr r e).2) _ _ _ _ h2, h5⟩
  case assign =>
    rintro l' pre t V K hl hlr ⟨v, h1, h2, h3, h4, h5⟩ hK
    have HK : Hid _ := hK
    clear hK
    unfold Gd.v Gd.c
    gi_wp2
    have hbl : Below V.heap.size V (V.alloc (.cells #[.string t.1.rel, .string t.1.x, .string t.1.y] 111)) := (Below.refl _ V).alloc (Nat.le_refl _) _
    exact HK.out _ _ (KeepsFrom.ofBelow hbl) (MKept.ofBelow hbl) ⟨v, h1.alloc _, h2.alloc _, h3.trans (hbl.mono (by omega)), by simp; omega, h5⟩ ⟨V.heap.size, World.alloc_heap_new V _, rfl⟩
  case done =>
    rintro D gs V hD hS ⟨v, h1, h2, h3, h4, h5⟩ hK
    have c1 := h1.cell
    obtain ⟨va, vc, rfl⟩ := owns_form h2
    have hgl : gs.length ≤ 2000000 := by omega
    have hst : Hid (Calls Tryz.prog 92 #[.slice va gs.length vc] V fun e w' => e = .returned (.tuple #[]) ∧ w'.ownsRow NB 9 1 (.slice va gs.length vc) gs.length ((sortT (gs.map (fun g => (textG g.1).data.toList))).map strV) ∧ Below NB w w' ∧ Boxed w' NB 22 (.slice va gs.length vc) ∧ w'.heap[D]? = some (.deferred (some [])) ∧ NB < w'.heap.size) := by
      have hmap : gs.map (fun g => Value.string (textG g.1)) = (gs.map (fun g => (textG g.1).data.toList)).map strV := by
        rw [List.map_map]
        refine List.map_congr_left (fun g _ => ?_)
        show Value.string (textG g.1) = strV (textG g.1).data.toList
        unfold strV
        rw [Array.toArray_toList]
      have hl2 : (gs.map (fun g => (textG g.1).data.toList)).length = gs.length := by simp
      have h2' := h2
      rw [hmap] at h2'
      have hso := sortS_any (.slice va gs.length vc) (gs.map (fun g => (textG g.1).data.toList)) NB V (by rw [hl2]; exact h2') (by omega)
      refine hso.mono ?_
      rintro e w' ⟨rfl, ho, hc⟩
      rw [hl2] at ho
      refine ⟨rfl, ho, h3.trans ⟨hc.os, hc.tape, hc.output, hc.size, fun k hk => hc.block k (by omega) (fun e => ?_)⟩, (hc.block _ h1.lt (fun e => owns_ne h2 h1 (by decide) _ e.symm rfl)).trans h1, (hc.block _ (Array.getElem?_eq_some_iff.1 hK).1 (fun e => ?_)).trans hK, by have := hc.size; omega⟩
      · have := (owns_block h2 e.symm).1; omega
      · obtain ⟨_, c, hcc⟩ := owns_block h2 e.symm
        rw [hcc] at hK; cases hK
    gi_wp2_with (refine ⟨trivial, ?_⟩; gi_at_call 92; refine (callsIn_wide.2 hst.out).mono ?_; rintro e W2 ⟨rfl, k1, k2, k3, k4, k5⟩; have kc := k3.cell)
    refine ⟨by simp, .inl ⟨_, _, rfl, run_takeDeferred k4, ?_⟩⟩
    have hk := kept_of_grown (grownBy_putObj' W2 D (.deferred none)) (fun r e => by cases e; exact ⟨_, k4, rfl⟩)
    refine ⟨_, results_tmp rfl _ _ _, .slice va gs.length vc, gs, rfl, hS, ?_, ?_, h5⟩
    · rw [hN]; exact owns_kept k1 (fun g c _ hc => hk g c _ _ hc)
    · rw [hN]; exact below_put k2 (by omega) (by omega)
  case body =>
    rintro l' pre t a' V hl' ⟨r, hr⟩ ⟨v, h1, h2, h3, h4, h5⟩ ⟨Bx, hbx, rfl⟩ hlt
    obtain ⟨va, vc, rfl⟩ := owns_form h2
    have hbx' := hbx
    unfold Gd.c at hbx'
    have c0 : V.cell? ⟨Bx, 0, none⟩ = some (.string t.1.rel) := by simp [World.cell?, hbx']
    have c1 : V.cell? ⟨Bx, 1, none⟩ = some (.string t.1.x) := by simp [World.cell?, hbx']
    have c2 : V.cell? ⟨Bx, 2, none⟩ = some (.string t.1.y) := by simp [World.cell?, hbx']
    have cb := h1.cell
    have hb1' : pre.length + 1 ≤ maxLen := by unfold maxLen; omega
    have hb2' : (pre.length + 1) * 16 ≤ 140737488355328 := by omega
    have htx : Hid (Calls Tryz.prog 91 #[.agg #[.string t.1.rel, .string t.1.x, .string t.1.y]] V.drew fun e w' => e = .returned (.string (textG t.1)) ∧ Below V.heap.size V w') := (text_any t.1 V.drew t.2.rel t.2.x t.2.y).mono (fun e w' h => ⟨h.1, ((Below.refl _ V).drew).trans h.2⟩)
    have HCB : Hid (∀ V1, Below V.heap.size V V1 → V1.cell? ⟨NB, 0, none⟩ = some (.slice va pre.length vc)) := fun V1 hb => cell_later hb cb
    have HOW : Hid (∀ V1, Below V.heap.size V V1 → (V1.alloc (.cells #[.string (textG t.1)] 9)).ownsRow NB 9 1 (.slice va pre.length vc) pre.length (pre.map (fun g => .string (textG g.1)))) := fun V1 hb => (own_below h2 hb).alloc _
    have HSZ : Hid (∀ V1, Below V.heap.size V V1 → NB ≤ (V1.alloc (.cells #[.string (textG t.1)] 9)).heap.size) := fun V1 hb => by
      have := hb.size
      show NB ≤ _
      simp; omega
    have hfin : Hid (∀ V1 v' w1, Below V.heap.size V V1 → w1.ownsRow NB 9 1 v' (pre.length + 1) (pre.map (fun g => .string (textG g.1)) ++ [.string (textG t.1)]) → (V1.alloc (.cells #[.string (textG t.1)] 9)).grownBy w1 (Value.slice va pre.length vc).ownBlock → ∃ g' cap', v' = .slice (some ⟨g', 0, none⟩) (pre.length + 1) cap' ∧ (∃ cv, w1.cell? ⟨NB, 0, none⟩ = some cv) ∧ w1.frozen? ⟨NB, 0, none⟩ = false ∧
        (KeepsFrom W0.heap.size V (w1.setCell ⟨NB, 0, none⟩ v') ∧ MKept (W0.heap.size + 2) V (w1.setCell ⟨NB, 0, none⟩ v') ∧ ∃ v, Boxed (w1.setCell ⟨NB, 0, none⟩ v') NB 22 v ∧ (w1.setCell ⟨NB, 0, none⟩ v').ownsRow NB 9 1 v (pre ++ [t]).length ((pre ++ [t]).map (fun g => .string (textG g.1))) ∧ Below NB w (w1.setCell ⟨NB, 0, none⟩ v') ∧ NB < (w1.setCell ⟨NB, 0, none⟩ v').heap.size ∧ (pre ++ [t]).length ≤ N)) := by
      intro V1 v' w1 hb1 ho hg
      obtain ⟨g', cap', hv'⟩ := ownsRow_succ ho
      subst hv'
      have k1 : Boxed V1 NB 22 (.slice va pre.length vc) := (hb1.block _ h1.lt).trans h1
      have k2 := own_below h2 hb1
      have hc : Chg V1 w1 (fun j => some j = (Value.slice va pre.length vc).ownBlock) := ((Chg.refl V1 _).alloc _).grown hg (fun k e _ => e.symm)
      have hbx1 : Boxed w1 NB 22 (.slice va pre.length vc) := (hc.block _ k1.lt (fun e => owns_ne k2 k1 (by decide) _ e.symm rfl)).trans k1
      have hch2 : Chg V1 (w1.setCell ⟨NB, 0, none⟩ (.slice (some ⟨g', 0, none⟩) (pre.length + 1) cap')) (fun j => j = NB ∨ some j = (Value.slice va pre.length vc).ownBlock) := (hc.mono (fun _ _ e => .inr e)).setCell ⟨NB, 0, none⟩ _ (fun _ => .inl rfl)
      have hcl : ∀ m', KeepsFrom m' V1 (w1.setCell ⟨NB, 0, none⟩ (.slice (some ⟨g', 0, none⟩) (pre.length + 1) cap')) := fun m' => keeps_cells hch2 (fun j hj hx => by
        rcases hx with rfl | hx
        · exact ⟨_, _, k1⟩
        · obtain ⟨_, c, hc⟩ := owns_block k2 hx.symm; exact ⟨c, _, hc⟩)
      have hex : ∀ (k : Nat) (o : Obj), V1.heap[k]? = some o → (∀ c fz, o ≠ Obj.cells c 9 fz) → (∀ c fz, o ≠ Obj.cells c 22 fz) → (w1.setCell ⟨NB, 0, none⟩ (.slice (some ⟨g', 0, none⟩) (pre.length + 1) cap')).heap[k]? = some o := fun k o hko hn1 hn2 => by
        refine (hch2.block k (Array.getElem?_eq_some_iff.1 hko).1 (fun e => ?_)).trans hko
        rcases e with e | e
        · rw [e] at hko
          have hj := k1
          unfold Boxed at hj
          rw [hj] at hko; cases hko; exact hn2 _ _ rfl
        · obtain ⟨_, c, hc⟩ := owns_block k2 e.symm
          rw [hc] at hko; cases hko; exact hn1 _ _ rfl
      have hmk : ∀ m', MKept m' V1 (w1.setCell ⟨NB, 0, none⟩ (.slice (some ⟨g', 0, none⟩) (pre.length + 1) cap')) := fun m' => ⟨fun k c t ht hk => hex k _ hk (fun c' fz e => by cases e; exact ht.1 rfl) (fun c' fz e => by cases e; exact ht.2.1 rfl), fun k es c hk => hex k _ hk (fun _ _ e => by cases e) (fun _ _ e => by cases e), hcl m'⟩
      refine ⟨g', cap', rfl, ⟨_, hbx1.cell⟩, hbx1.frozen, KeepsFrom.tr (KeepsFrom.ofBelow hb1) (hcl _), (MKept.ofBelow hb1).tr (hmk _), _, boxed_set hbx1 _, ?_, ?_, ?_, by simp; omega⟩
      · have := owns_set ho ⟨NB, 0, none⟩ (.slice (some ⟨g', 0, none⟩) (pre.length + 1) cap') (owns_ne ho hbx1 (by decide))
        simpa using this
      · refine (h3.trans (hb1.mono (by omega))).trans ⟨hch2.os, hch2.tape, hch2.output, hch2.size, fun k hk => ?_⟩
        refine hch2.block k (by have := hb1.size; omega) (fun e => ?_)
        rcases e with rfl | e
        · omega
        · have := (owns_block k2 e.symm).1; omega
      · have := hch2.size; have := hb1.size; omega
    have hmix : Tryz.prog.follows .mixedOrders = true := by kernel_rfl
    clear hbx' h1 h2
    gi_wp2
    generalize textG t.1 = tx at *
    refine wpIn_region_any hmix ?_
    (try (change wpAnyIn _ _ _ _ _ _ _ _ _ (World.drew _)))
    refine wpAnyIn_ready (rs := [0, 1]) (by kernel_rfl) (by simp) (AllReadyIn.cons rfl (fun K hK => ?_) (AllReadyIn.cons rfl (fun K hK => ?_) AllReadyIn.nil))
    · go_simp
      refine hK _ _ ?_
      clear hK K
      refine wpAnyIn_ready (rs := [1]) (by kernel_rfl) (by simp) (AllReadyIn.cons rfl (fun K hK => ?_) AllReadyIn.nil)
      go_simp
      refine hK _ _ ?_
      clear hK K
      refine wpAnyIn_ready (rs := [2]) (by kernel_rfl) (by simp) (AllReadyIn.cons rfl (fun K hK => ?_) AllReadyIn.nil)
      go_simp
      refine ⟨trivial, ?_⟩
      refine (CallsIn.inRound l' (callsIn_wide.2 htx.out)).mono ?_
      rintro e V1 ⟨rfl, hbV1⟩
      have cbV1 := HCB.out V1 hbV1
      have cbV2 : ∀ O, (V1.alloc O).cell? ⟨NB, 0, none⟩ = some (.slice va pre.length vc) := fun O => HCB.out _ (hbV1.alloc hbV1.size O)
      refine hK _ _ ?_
      clear hK K
      refine wpAnyIn_ready (rs := [3]) (by kernel_rfl) (by simp) (AllReadyIn.cons rfl (fun K hK => ?_) AllReadyIn.nil)
      go_simp
      refine hK _ _ ?_
      clear hK K
      refine wpAnyIn_ready (rs := [4]) (by kernel_rfl) (by simp) (BigFrame.allReadyIn_want rfl rfl (fun K hK => ?_) AllReadyIn.nil)
      refine opIn_append_at _ (.tmp 7) (.tmp 10) 22 rfl NB 9 i0 (.string ⟨#[]⟩) 1 16 Tryz.underlying22 hi hz0 hz1 hz2 rfl (by decide) (.slice va pre.length vc) _ _ rfl (HOW.out V1 hbV1) ⟨V1.heap.size, 0, none⟩ 1 1 [.string tx] rfl rfl (cell_one_new _ _ _) (by simp [Value.oneCell']) hb1' hb2' (HSZ.out V1 hbV1) ?_
      intro v' w1 ho hgw hat
      obtain ⟨g', cap', rfl, ⟨cv, hcv⟩, hfz, hpost⟩ := hfin.out V1 v' w1 hbV1 ho hgw
      refine hK _ _ ?_
      clear hK K
      refine wpAnyIn_ready (rs := [5]) (by kernel_rfl) (by simp) (AllReadyIn.cons rfl (fun K hK => ?_) AllReadyIn.nil)
      go_simp
      refine hK _ _ ?_
      clear hK K
      refine wpAnyIn_done (by kernel_rfl) ?_ _
      exact hpost
    · go_simp
      refine hK _ _ ?_
      clear hK K
      refine wpAnyIn_ready (rs := [0, 2]) (by kernel_rfl) (by simp) (AllReadyIn.cons rfl (fun K hK => ?_) (AllReadyIn.cons rfl (fun K hK => ?_) AllReadyIn.nil))
      · go_simp
        refine hK _ _ ?_
        clear hK K
        refine wpAnyIn_ready (rs := [2]) (by kernel_rfl) (by simp) (AllReadyIn.cons rfl (fun K hK => ?_) AllReadyIn.nil)
        go_simp
        refine ⟨trivial, ?_⟩
        refine (CallsIn.inRound l' (callsIn_wide.2 htx.out)).mono ?_
        rintro e V1 ⟨rfl, hbV1⟩
        have cbV1 := HCB.out V1 hbV1
        have cbV2 : ∀ O, (V1.alloc O).cell? ⟨NB, 0, none⟩ = some (.slice va pre.length vc) := fun O => HCB.out _ (hbV1.alloc hbV1.size O)
        refine hK _ _ ?_
        clear hK K
        refine wpAnyIn_ready (rs := [3]) (by kernel_rfl) (by simp) (AllReadyIn.cons rfl (fun K hK => ?_) AllReadyIn.nil)
        go_simp
        refine hK _ _ ?_
        clear hK K
        refine wpAnyIn_ready (rs := [4]) (by kernel_rfl) (by simp) (BigFrame.allReadyIn_want rfl rfl (fun K hK => ?_) AllReadyIn.nil)
        refine opIn_append_at _ (.tmp 7) (.tmp 10) 22 rfl NB 9 i0 (.string ⟨#[]⟩) 1 16 Tryz.underlying22 hi hz0 hz1 hz2 rfl (by decide) (.slice va pre.length vc) _ _ rfl (HOW.out V1 hbV1) ⟨V1.heap.size, 0, none⟩ 1 1 [.string tx] rfl rfl (cell_one_new _ _ _) (by simp [Value.oneCell']) hb1' hb2' (HSZ.out V1 hbV1) ?_
        intro v' w1 ho hgw hat
        obtain ⟨g', cap', rfl, ⟨cv, hcv⟩, hfz, hpost⟩ := hfin.out V1 v' w1 hbV1 ho hgw
        refine hK _ _ ?_
        clear hK K
        refine wpAnyIn_ready (rs := [5]) (by kernel_rfl) (by simp) (AllReadyIn.cons rfl (fun K hK => ?_) AllReadyIn.nil)
        go_simp
        refine hK _ _ ?_
        clear hK K
        refine wpAnyIn_done (by kernel_rfl) ?_ _
        exact hpost
      · go_simp
        refine ⟨trivial, ?_⟩
        refine (CallsIn.inRound l' (callsIn_wide.2 htx.out)).mono ?_
        rintro e V1 ⟨rfl, hbV1⟩
        have cbV1 := HCB.out V1 hbV1
        have cbV2 : ∀ O, (V1.alloc O).cell? ⟨NB, 0, none⟩ = some (.slice va pre.length vc) := fun O => HCB.out _ (hbV1.alloc hbV1.size O)
        refine hK _ _ ?_
        clear hK K
        refine wpAnyIn_ready (rs := [0, 3]) (by kernel_rfl) (by simp) (AllReadyIn.cons rfl (fun K hK => ?_) (AllReadyIn.cons rfl (fun K hK => ?_) AllReadyIn.nil))
        · go_simp
          refine hK _ _ ?_
          clear hK K
          refine wpAnyIn_ready (rs := [3]) (by kernel_rfl) (by simp) (AllReadyIn.cons rfl (fun K hK => ?_) AllReadyIn.nil)
          go_simp
          refine hK _ _ ?_
          clear hK K
          refine wpAnyIn_ready (rs := [4]) (by kernel_rfl) (by simp) (BigFrame.allReadyIn_want rfl rfl (fun K hK => ?_) AllReadyIn.nil)
          refine opIn_append_at _ (.tmp 7) (.tmp 10) 22 rfl NB 9 i0 (.string ⟨#[]⟩) 1 16 Tryz.underlying22 hi hz0 hz1 hz2 rfl (by decide) (.slice va pre.length vc) _ _ rfl (HOW.out V1 hbV1) ⟨V1.heap.size, 0, none⟩ 1 1 [.string tx] rfl rfl (cell_one_new _ _ _) (by simp [Value.oneCell']) hb1' hb2' (HSZ.out V1 hbV1) ?_
          intro v' w1 ho hgw hat
          obtain ⟨g', cap', rfl, ⟨cv, hcv⟩, hfz, hpost⟩ := hfin.out V1 v' w1 hbV1 ho hgw
          refine hK _ _ ?_
          clear hK K
          refine wpAnyIn_ready (rs := [5]) (by kernel_rfl) (by simp) (AllReadyIn.cons rfl (fun K hK => ?_) AllReadyIn.nil)
          go_simp
          refine hK _ _ ?_
          clear hK K
          refine wpAnyIn_done (by kernel_rfl) ?_ _
          exact hpost
        · go_simp
          refine hK _ _ ?_
          clear hK K
          refine wpAnyIn_ready (rs := [0]) (by kernel_rfl) (by simp) (AllReadyIn.cons rfl (fun K hK => ?_) AllReadyIn.nil)
          go_simp
          refine hK _ _ ?_
          clear hK K
          refine wpAnyIn_ready (rs := [4]) (by kernel_rfl) (by simp) (BigFrame.allReadyIn_want rfl rfl (fun K hK => ?_) AllReadyIn.nil)
          refine opIn_append_at _ (.tmp 7) (.tmp 10) 22 rfl NB 9 i0 (.string ⟨#[]⟩) 1 16 Tryz.underlying22 hi hz0 hz1 hz2 rfl (by decide) (.slice va pre.length vc) _ _ rfl (HOW.out V1 hbV1) ⟨V1.heap.size, 0, none⟩ 1 1 [.string tx] rfl rfl (cell_one_new _ _ _) (by simp [Value.oneCell']) hb1' hb2' (HSZ.out V1 hbV1) ?_
          intro v' w1 ho hgw hat
          obtain ⟨g', cap', rfl, ⟨cv, hcv⟩, hfz, hpost⟩ := hfin.out V1 v' w1 hbV1 ho hgw
          refine hK _ _ ?_
          clear hK K
          refine wpAnyIn_ready (rs := [5]) (by kernel_rfl) (by simp) (AllReadyIn.cons rfl (fun K hK => ?_) AllReadyIn.nil)
          go_simp
          refine hK _ _ ?_
          clear hK K
          refine wpAnyIn_done (by kernel_rfl) ?_ _
          exact hpost

end Go.Proofs.YtjajnhemgphefaaGreatDoor
