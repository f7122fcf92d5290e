/-
  rules.AddNames over the arguments of a rule: the names that are not in the list yet, behind it.
-/
import Derived.Test.YtjajnhemgphefaaDoorJArgs
import Derived.Test.YtjajnhemgphefaaDoorJTerm
import Derived.Test.YtjajnhemgphefaaDoorJChk
import Derived.Maps.AppendAt
namespace Go.Proofs.YtjajnhemgphefaaDoor
open Go.RowKit Go.Shelf
set_option linter.unusedVariables false
set_option linter.unusedSimpArgs false
attribute [local go_sem] Oper.semAt_some

theorem StrOnly.ofBelow {B : Nat} {a b : World} (h : Below a.heap.size a b) : StrOnly B a b := ⟨h.os, h.tape, h.output, h.size, fun k hk _ => h.block k hk⟩

theorem nmStep_le (vs : List ByteArray) (t : Tm) : (nmStep vs t).length ≤ vs.length + 1 := by
  unfold nmStep; split
  · omega
  · exact seenL_le _ _
theorem nmL_snoc (vs : List ByteArray) (l : List Tm) (t : Tm) : nmL vs (l ++ [t]) = nmStep (nmL vs l) t := by simp [nmL]
theorem nmL_le (l : List Tm) : ∀ (vs : List ByteArray), (nmL vs l).length ≤ vs.length + l.length := by
  induction l with
  | nil => intro vs; simp [nmL]
  | cons t l ih =>
    intro vs
    have h1 := ih (nmStep vs t)
    have h2 := nmStep_le vs t
    simp only [nmL, List.foldl_cons, List.length_cons] at h1 ⊢
    omega
theorem contains_seen (vs : List ByteArray) (x : ByteArray) : Lib.containsS vs x = decide (seenN vs x < vs.length) := by
  have h1 := Lib.containsS_iff vs x
  have h2 := Lib.idxOfS_nonneg_iff vs x
  rcases idx_seen vs x with ⟨h3, h4⟩ | ⟨h3, h4⟩
  · have : ¬ x ∈ vs := fun h => by have := h2.2 h; omega
    have hc : Lib.containsS vs x = false := by
      cases hh : Lib.containsS vs x with
      | false => rfl
      | true => exact absurd (h1.1 hh) this
    rw [hc, h4]; simp
  · have : x ∈ vs := h2.1 (by omega)
    rw [h1.2 this]; simp [h4]

theorem keeps_ofChg {m : Nat} {V W' : World} {ex : Nat → Prop} (h : Chg V W' ex) (hx : ∀ k, k < V.heap.size → ex k → ∃ (c : Array Value) (t : TypeId), V.heap[k]? = some (Obj.cells c t (0, 0)) ∧ t ≠ 48 ∧ t ≠ 45 ∧ t ≠ 80 ∧ t ≠ 85) : KeepsFrom m V W' ∧ ∀ m', ArgKept m' V W' := by
  have hk : ∀ m'', KeepsFrom m'' V W' := fun m'' => ⟨h.size, fun k o _ hk ho => by
    rw [h.block k (Array.getElem?_eq_some_iff.1 hk).1 (fun e => ?_)]
    · exact hk
    · obtain ⟨c, t, hc, _⟩ := hx k (Array.getElem?_eq_some_iff.1 hk).1 e
      rw [hk] at hc; cases hc; simp [Obj.isCells] at ho⟩
  refine ⟨hk m, fun m' => ⟨fun k c t ht hc => ?_, fun k c hc => ?_, hk m'⟩⟩
  · rw [h.block k (Array.getElem?_eq_some_iff.1 hc).1 (fun e => ?_)]
    · exact hc
    · obtain ⟨c', t', hc', a1, a2, a3, a4⟩ := hx k (Array.getElem?_eq_some_iff.1 hc).1 e
      rw [hc] at hc'; cases hc'
      rcases ht with h | h | h
      · exact a1 h
      · exact a2 h
      · exact a3 h
  · rw [h.block k (Array.getElem?_eq_some_iff.1 hc).1 (fun e => ?_)]
    · exact hc
    · obtain ⟨c', t', hc', a1, a2, a3, a4⟩ := hx k (Array.getElem?_eq_some_iff.1 hc).1 e
      rw [hc] at hc'; cases hc'; exact a4 rfl

def RuleV (W : World) (b45 b87 : Nat) (r : Rl) (v0 vb : Value) : Prop := SealT W b87 v0 r.head.args ∧ SealA W b45 b87 vb r.body
def ruleTerms (r : Rl) : List Tm := r.head.args ++ r.body.flatMap (·.args)

theorem RuleV.rk {W W' : World} {b45 b87 : Nat} {r : Rl} {v0 vb : Value} (h : RuleV W b45 b87 r v0 vb) (hk : RuleKept W W') : RuleV W' b45 b87 r v0 vb := ⟨h.1.rk hk, h.2.rk hk⟩

theorem atx_list {W : World} {b87 : Nat} : ∀ (ps : List (Am × Value)), (∀ p ∈ ps, SealT W b87 p.2 p.1.args) → (∀ p ∈ ps, AmOk p.1) → ∃ L : List (AtX W b87), L.map (·.1) = ps
  | [], _, _ => ⟨[], rfl⟩
  | p :: ps, h, h2 => by
    obtain ⟨L, hL⟩ := atx_list ps (fun q hq => h q (by simp [hq])) (fun q hq => h2 q (by simp [hq]))
    exact ⟨⟨p, h p (by simp), h2 p (by simp)⟩ :: L, congrArg (fun l => p :: l) hL⟩

theorem rule_atx {W : World} {b45 b87 : Nat} {r : Rl} {v0 vb : Value} (hv : RuleV W b45 b87 r v0 vb) (hok : RuleOk r) :
    ∃ (x0 : AtX W b87) (L : List (AtX W b87)) (a : Option Addr) (cap : Nat), x0.1 = (r.head, v0) ∧ L.map (·.1.1) = r.body ∧ vb = .slice a L.length cap ∧ L.length ≤ 3 ∧
      (L ≠ [] → ∃ (g off : Nat) (cur : Array Value), a = some ⟨g, off, none⟩ ∧ W.heap[g]? = some (Obj.cells cur 45 (0, 0)) ∧ (cur.toList.drop off).take (L.length * 2) = L.flatMap fun x => [.string x.1.1.rel, x.1.2]) := by
  obtain ⟨h1, ps, a, cap, e1, e2, e3, e4⟩ := hv
  obtain ⟨L, hL⟩ := atx_list ps e3 (fun p hp => hok.ams _ (by rw [← e1]; exact List.mem_map_of_mem hp))
  have hLb : L.map (·.1.1) = r.body := by rw [← e1, ← hL, List.map_map]; rfl
  have hlen : L.length = r.body.length := by rw [← hLb]; simp
  refine ⟨⟨(r.head, v0), h1, hok.head⟩, L, a, cap, rfl, hLb, by rw [hlen]; exact e2, by have := hok.body; omega, fun hne => ?_⟩
  obtain ⟨g, off, cur, k1, k2, k3, k4⟩ := e4 (by intro e; rw [e] at hlen; exact hne (List.eq_nil_of_length_eq_zero hlen))
  refine ⟨g, off, cur, k1, k3, ?_⟩
  rw [hlen, k4, ← hL, List.flatMap_map]
  rfl

theorem termsOf_rule {W : World} {b87 : Nat} {r : Rl} {v0 : Value} {x0 : AtX W b87} {L : List (AtX W b87)} (h0 : x0.1 = (r.head, v0)) (hL : L.map (·.1.1) = r.body) : termsOf (x0 :: L) = ruleTerms r := by
  unfold termsOf ruleTerms
  rw [← hL, List.flatMap_map, List.flatMap_cons, h0]


theorem ruleTerms_tms (r : Rl) : ruleTerms r = tmsOf (ruleAms r) := by unfold ruleTerms tmsOf ruleAms; simp

set_option maxRecDepth 100000 in
set_option maxHeartbeats 1000000 in
theorem addNames_any (r : Rl) (v0 vb v : Value) (vs : List ByteArray) (base b45 b87 B : Nat) (w : World) (hok : RuleOk r) (hv : RuleV w b45 b87 r v0 vb) (hB : w.heap[B]? = some (Obj.cells #[.string r.head.rel, v0, vb] 48 (0, 0)))
    (hown : w.ownsRow base 9 1 v vs.length (vs.map Value.string)) (hbw : base ≤ w.heap.size) (hvl : vs.length ≤ 900) :
    Calls Tryd.prog 32 #[v, .func (.func 49) #[] #[.pointer (some ⟨B, 0, none⟩)]] w fun e w' => ∃ v', e = .returned v' ∧ w'.ownsRow base 9 1 v' (nmL vs (ruleTerms r)).length ((nmL vs (ruleTerms r)).map Value.string) ∧ StrOnly base w w' := by
  obtain ⟨x0, L, a, cap, hx0, hL, rfl, hL3, hrow⟩ := rule_atx hv hok
  have hterm := termsOf_rule hx0 hL
  rw [← hterm]
  have hr0 : r.head.rel = x0.1.1.rel := by rw [hx0]
  have hv0 : v0 = x0.1.2 := by rw [hx0]
  rw [hr0, hv0] at hB
  clear hterm hr0 hv0 hx0 hL hv hok
  obtain ⟨va0, vc0, hvf⟩ := owns_form hown
  obtain ⟨N, hN⟩ : ∃ N, w.heap.size = N := ⟨_, rfl⟩
  obtain ⟨i0, hi, hz0, hz1, hz2⟩ := info_parts Tryd.info9
  have hBlt : B < w.heap.size := (Array.getElem?_eq_some_iff.1 hB).1
  rw [hvf] at hown ⊢
  refine (callsIn_wide (n := 8)).1 ?_
  refine callsIn_of_wp_marks Tryd.func32 rfl trivial ?_ rfl
  simp only [Tryd.ntmps32, List.size_toArray, List.length_cons, List.length_nil, Nat.reduceAdd, Nat.reduceSub, Array.replicate_succ, Array.replicate_zero, List.push_toArray, List.append_toArray, List.nil_append, List.cons_append]
  gi_wp2
  obtain ⟨W0, hW0⟩ : ∃ W0, w.alloc (.cells #[.slice va0 vs.length vc0] 30) = W0 := ⟨_, rfl⟩
  have hb0 : Below w.heap.size w W0 := by rw [← hW0]; exact (Below.refl _ w).alloc (Nat.le_refl _) _
  have hs0 : W0.heap.size = N + 1 := by rw [← hW0, ← hN]; simp
  have bV : Boxed W0 N 30 (.slice va0 vs.length vc0) := by
    have := Boxed.new w 30 (.slice va0 vs.length vc0)
    rw [hN, hW0] at this; exact this
  have bR : W0.heap[B]? = some (Obj.cells #[.string x0.1.1.rel, x0.1.2, .slice a L.length cap] 48 (0, 0)) := (hb0.block B hBlt).trans hB
  have hrow0 : L ≠ [] → ∃ (g off : Nat) (cur : Array Value), a = some ⟨g, off, none⟩ ∧ W0.heap[g]? = some (Obj.cells cur 45 (0, 0)) ∧ (cur.toList.drop off).take (L.length * 2) = L.flatMap fun x => [.string x.1.1.rel, x.1.2] := fun hne => by
    obtain ⟨g, off, cur, h1, h2, h3⟩ := hrow hne; exact ⟨g, off, cur, h1, RuleKept.ofBelow hb0 _ _ _ (.inr (.inl rfl)) h2, h3⟩
  have hown0 := own_below hown hb0
  have hso0 : StrOnly base w W0 := by rw [← hW0]; exact (StrOnly.refl base w).alloc _
  (try simp only [hN])
  rw [hW0]
  clear hW0 hrow hB
  refine range_law (n := 8) (gf := 49) (lb := #[.pointer (some ⟨B, 0, none⟩)]) rfl (enters_of Tryd.func49 (by kernel_rfl) rfl)
    (args_seq 7 (by decide) B w b87 x0 L (by omega) a cap W0 (RuleKept.ofBelow hb0) bR hrow0) ArgKept.tr (fun V o o' ho hc => ArgKept.put V _ o o' (by omega) ho hc) (fun _ => rfl)
    (fun pre V => ∃ v, Boxed V N 30 v ∧ V.ownsRow base 9 1 v (nmL vs pre).length ((nmL vs pre).map Value.string) ∧ StrOnly base w V)
    (fun _ _ _ => False)
    ?hI (fun _ _ _ _ _ h _ _ => h) ⟨_, bV, hown0, hso0⟩
    (fun t a' V => ∃ Bx, V.heap[Bx]? = some (Obj.cells #[.string t.name, .int .i64 t.num] 80 (0, 0)) ∧ a' = { tmps := #[.slice va0 vs.length vc0, .func (.func 49) #[] #[.pointer (some ⟨B, 0, none⟩)], .pointer (some ⟨N, 0, none⟩), undef, .slice none 0 0, .pointer (some ⟨Bx, 0, none⟩), .func (.func 49) #[] #[.pointer (some ⟨B, 0, none⟩)], .agg #[.string t.name, .int .i64 t.num], undef, undef, undef, undef, undef, undef, undef, undef, undef, undef, undef, undef, undef, undef, undef, undef], defers := [] })
    ?hAx ?assign ?body ?done (fun _ _ _ _ _ _ h _ => h.elim)
  case hI =>
    rintro pre V V' row ⟨v, h1, h2, h3⟩ hg hr
    have hk := kept_of_grown hg (fun r e => (hr r e).2)
    exact ⟨v, hk _ _ _ _ h1, owns_kept h2 (fun g c _ hc => hk g c _ _ hc), h3.grown hg (fun k e => .inl (by have := (hr k e).1; omega))⟩
  case hAx =>
    rintro x a' _ V V' row ⟨Bx, h2, h3⟩ hg hr
    exact ⟨Bx, kept_of_grown hg (fun r e => (hr r e).2) _ _ _ _ h2, h3⟩
  case assign =>
    rintro l' pre t V K hl hlr ⟨v, h1, h2, h3⟩ hK
    have HK : Hid _ := hK
    clear hK
    gi_wp2
    have hbl : Below V.heap.size V (V.alloc (.cells #[.string t.name, .int .i64 t.num] 80)) := (Below.refl _ V).alloc (Nat.le_refl _) _
    exact HK.out _ _ (KeepsFrom.ofBelow hbl) (ArgKept.ofBelow hbl) ⟨v, h1.alloc _, h2.alloc _, h3.alloc _⟩ ⟨V.heap.size, World.alloc_heap_new V _, rfl⟩
  case done =>
    rintro D xs V hD rfl ⟨v, h1, h2, h3⟩ hK
    have c1 := h1.cell
    gi_wp2
    refine ⟨by simp, .inl ⟨_, _, rfl, run_takeDeferred hK, ?_⟩⟩
    have hk := kept_of_grown (grownBy_putObj' V D (.deferred none)) (fun r e => by cases e; exact ⟨_, hK, rfl⟩)
    refine ⟨_, results_tmp rfl _ _ _, v, rfl, owns_kept h2 (fun g c _ hc => hk g c _ _ hc), ?_⟩
    exact h3.grown (grownBy_putObj' V D (.deferred none)) (fun k e => .inl (by cases e; omega))
  case body =>
    rintro l' pre t a' V hl' ⟨r, hr⟩ ⟨v, h1, h2, h3⟩ ⟨Bx, hbx, rfl⟩ hlt
    have hvl2 := nmL_le pre vs
    have hl10 : (nmL vs pre).length ≤ 950 := by omega
    have hN1 : N ≤ V.heap.size := by have := h3.size; omega
    have hBxlt : Bx < V.heap.size := (Array.getElem?_eq_some_iff.1 hbx).1
    have c0 : V.cell? ⟨Bx, 0, none⟩ = some (.string t.name) := by simp [World.cell?, hbx]
    have c1 : V.cell? ⟨Bx, 1, none⟩ = some (.int .i64 t.num) := by simp [World.cell?, hbx]
    have hsn := nmL_snoc vs pre t
    have hiv := isVariable_any t V
    obtain ⟨va, vc, rfl⟩ := owns_form h2
    have hcs := contains_seen (nmL vs pre) t.name
    generalize hvs : nmL vs pre = us at *
    have HS : Hid (nmL vs (pre ++ [t]) = nmStep us t) := hsn
    clear hsn hvs
    cases htv : t.name.toList.isEmpty with
    | true =>
      rw [htv] at hiv
      have hfin : Hid (nmL vs (pre ++ [t]) = us) := by show _ = _; rw [HS.out]; unfold nmStep; rw [if_pos htv]
      clear htv
      gi_wp2_with (refine ⟨trivial, ?_⟩; gi_at_call 28; refine (CallsIn.inRound l' (callsIn_wide.2 hiv)).mono ?_; rintro e V1 ⟨rfl, hb1⟩)
      refine ⟨trivial, ?_⟩
      gi_wp2
      refine ⟨KeepsFrom.ofBelow hb1, ArgKept.ofBelow hb1, .slice va us.length vc, ?_, ?_, ?_⟩
      · exact (hb1.block _ h1.lt).trans h1
      · rw [hfin.out]; exact own_below h2 hb1
      · exact h3.trans (StrOnly.ofBelow hb1)
    | false =>
      rw [htv] at hiv
      have HIV : Hid _ := hiv
      have hst : Hid (nmStep us t = seenL us t.name) := by show _ = _; unfold nmStep; rw [if_neg (by simp [htv])]
      clear htv hiv
      have hafter : Hid (∀ V1, Below V.heap.size V V1 → Boxed V1 N 30 (.slice va us.length vc) ∧ V1.ownsRow base 9 1 (.slice va us.length vc) us.length (us.map Value.string) ∧ V1.cell? ⟨Bx, 0, none⟩ = some (.string t.name) ∧ StrOnly base w V1) := fun V1 hb1 =>
        ⟨(hb1.block _ h1.lt).trans h1, own_below h2 hb1, (hb1.cell (p := ⟨Bx, 0, none⟩) hBxlt).trans c0, h3.trans (StrOnly.ofBelow hb1)⟩
      cases hct : Lib.containsS us t.name with
      | true =>
        have hfin : Hid (nmL vs (pre ++ [t]) = us) := by
          show _ = _; rw [HS.out, hst.out]; unfold seenL; rw [if_pos (by rw [hct] at hcs; simpa using hcs.symm)]
        have HCT : Hid _ := hct
        clear hct hcs h1 h2 h3
        gi_wp2_with (first | (refine ⟨trivial, ?_⟩; gi_at_call 28; refine (CallsIn.inRound l' (callsIn_wide.2 HIV.out)).mono ?_; rintro e V1 ⟨rfl, hb1⟩; obtain ⟨k1, k2, k3, k4⟩ := hafter.out V1 hb1; have kc := k1.cell) | (refine ⟨trivial, ?_⟩; gi_at_call 48; refine (CallsIn.inRound l' (callsIn_wide.2 (contains_own k2 (by omega) t.name))).mono ?_; rintro e w' ⟨rfl, hw'⟩; obtain rfl : V1 = w' := hw'.symm; rw [HCT.out]))
        exact ⟨KeepsFrom.ofBelow hb1, ArgKept.ofBelow hb1, _, k1, by rw [hfin.out]; exact k2, k4⟩
      | false =>
        have hfin : Hid (nmL vs (pre ++ [t]) = us ++ [t.name]) := by
          show _ = _; rw [HS.out, hst.out]; unfold seenL; rw [if_neg (by rw [hct] at hcs; simpa using hcs.symm)]
        have HCT : Hid _ := hct
        clear hct hcs h1 h2 h3
        have hb1' : us.length + 1 ≤ maxLen := by unfold maxLen; omega
        have hb2' : (us.length + 1) * 16 ≤ 140737488355328 := by omega
        have hVN : Hid (∀ V1 w1, Below V.heap.size V V1 → (V1.alloc (.cells #[.string t.name] 9)).grownBy w1 (Value.slice va us.length vc).ownBlock → Boxed w1 N 30 (.slice va us.length vc) ∧ Chg V1 w1 (fun j => some j = (Value.slice va us.length vc).ownBlock)) := by
          intro V1 w1 hb1 hg
          obtain ⟨k1, k2, k3, k4⟩ := hafter.out V1 hb1
          have hc : Chg V1 w1 (fun j => some j = (Value.slice va us.length vc).ownBlock) := ((Chg.refl V1 _).alloc _).grown hg (fun k e _ => e.symm)
          exact ⟨(hc.block _ k1.lt (fun e => owns_ne k2 k1 (by decide) _ e.symm rfl)).trans k1, hc⟩
        have hbb : Hid (∀ V1, Below V.heap.size V V1 → base ≤ (V1.alloc (.cells #[.string t.name] 9)).heap.size) := fun V1 hb1 => by
          have := hb1.size
          show base ≤ _
          simp; omega
        gi_wp2_with (first | (refine ⟨trivial, ?_⟩; gi_at_call 28; refine (CallsIn.inRound l' (callsIn_wide.2 HIV.out)).mono ?_; rintro e V1 ⟨rfl, hb1⟩; obtain ⟨k1, k2, k3, k4⟩ := hafter.out V1 hb1; have kc := k1.cell) | (refine ⟨trivial, ?_⟩; gi_at_call 48; refine (CallsIn.inRound l' (callsIn_wide.2 (contains_own k2 (by omega) t.name))).mono ?_; rintro e w' ⟨rfl, hw'⟩; obtain rfl : V1 = w' := hw'.symm; rw [HCT.out]) | (gi_at_builtin; refine wpListIn_append_own _ rfl _ _ 30 rfl base 9 i0 (.string ⟨#[]⟩) 1 16 Tryd.underlying30 hi hz0 hz1 hz2 rfl (by decide) _ _ _ rfl (World.ownsRow.alloc k2 _) ⟨V1.heap.size, 0, none⟩ 1 1 [.string t.name] rfl rfl (cell_one_new _ _ _) (by simp [Value.oneCell']) hb1' hb2' (hbb.out V1 hb1) ?_; intro v' w1 hown1 hgrow1 _; obtain ⟨g', cap', hv'⟩ := ownsRow_succ hown1; subst hv'; obtain ⟨hbx1, hch1⟩ := hVN.out V1 w1 hb1 hgrow1; have cc := hbx1.cell; have ff := hbx1.frozen))
        have hch2 : Chg V1 (w1.setCell ⟨N, 0, none⟩ (.slice (some ⟨g', 0, none⟩) (us.length + 1) cap')) (fun j => j = N ∨ some j = (Value.slice va us.length vc).ownBlock) := (hch1.mono (fun _ _ e => .inr e)).setCell ⟨N, 0, none⟩ _ (fun _ => .inl rfl)
        obtain ⟨hkf, hak⟩ := keeps_ofChg (m := W0.heap.size) hch2 (fun j hj hx => by
          rcases hx with rfl | hx
          · exact ⟨_, _, k1, by decide, by decide, by decide, by decide⟩
          · obtain ⟨_, c, hc⟩ := owns_block k2 hx.symm; exact ⟨c, _, hc, by decide, by decide, by decide, by decide⟩)
        refine ⟨KeepsFrom.trans (KeepsFrom.ofBelow hb1) hkf, (ArgKept.ofBelow hb1).tr (hak _), _, boxed_set hbx1 _, ?_, ?_⟩
        · rw [hfin.out]
          have := owns_set hown1 ⟨N, 0, none⟩ (.slice (some ⟨g', 0, none⟩) (us.length + 1) cap') (owns_ne hown1 hbx1 (by decide))
          simpa using this
        · exact (k4.alloc _ |>.grown hgrow1 (fun j e => by
            obtain ⟨hbj, d, hd⟩ := owns_block k2 e
            exact .inr ⟨hbj, d, _, (Below.heap_alloc _ _ _ (Array.getElem?_eq_some_iff.1 hd).1).trans hd⟩)).setCell (Nat.le_of_eq hN) _

end Go.Proofs.YtjajnhemgphefaaDoor
