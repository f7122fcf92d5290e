/-
  rules.variablesOf: the variables of a rule, in the order in which they first stand in it.
-/
import Derived.Test.YtpfknibkdiebaaaDoorArgs
import Derived.Maps.AppendAt
namespace Go.Proofs.YtpfknibkdiebaaaDoor
open Go.RowKit Go.Shelf
set_option linter.unusedVariables false
set_option linter.unusedSimpArgs false
attribute [local go_sem] Oper.semAt_some

def addVar (vs : List ByteArray) (t : ATerm) : List ByteArray := if t.isVar = true ∧ Lib.containsS vs t.text = false then vs ++ [t.text] else vs
def varsL (l : List ATerm) : List ByteArray := l.foldl addVar []

theorem varsL_snoc (l : List ATerm) (t : ATerm) : varsL (l ++ [t]) = addVar (varsL l) t := by simp [varsL]
theorem varsL_len (l : List ATerm) : (varsL l).length ≤ l.length := by
  have : ∀ (l : List ATerm) (vs : List ByteArray), (l.foldl addVar vs).length ≤ vs.length + l.length := by
    intro l
    induction l with
    | nil => simp
    | cons t l ih =>
      intro vs
      have h1 := ih (addVar vs t)
      have h2 : (addVar vs t).length ≤ vs.length + 1 := by unfold addVar; split <;> simp
      simp only [List.foldl_cons, List.length_cons]
      omega
  have h := this l []
  simp only [List.length_nil, Nat.zero_add] at h
  exact h

theorem contains_own {W : World} {b : Nat} {v : Value} {vs : List ByteArray} (h : W.ownsRow b 9 1 v vs.length (vs.map Value.string)) (hl : vs.length ≤ 1000) (x : ByteArray) :
    Calls Tryd.prog 39 #[v, .string x] W fun e w' => e = .returned (.bool (Lib.containsS vs x)) ∧ w' = W := by
  obtain ⟨_, ⟨hv, hn⟩ | ⟨g, cap, cur, hv, hb, hw, h1, h2, h3, h4⟩⟩ := h
  · have : vs = [] := List.eq_nil_of_length_eq_zero hn
    subst this
    rw [hv]
    exact Tryd.slices_Contains_string_empty none 0 x W
  · rw [hv]
    have := Tryd.slices_Contains_string g 0 vs.length cap vs x W (Nat.le_refl _) (by omega) (fun j hj => by
      simp only [World.cell?, hw, Nat.zero_add]
      have h5 : (cur.toList.take (vs.length * 1))[j]? = some (.string (vs.getD j ByteArray.empty)) := by
        rw [h4]; simp [List.getElem?_eq_getElem hj]
      rw [List.getElem?_take, if_pos (by omega)] at h5
      simpa using h5)
    simpa using this

theorem Tryd.info9 : (Tryd.prog.info? 9).map (fun i => (i.zero, i.size, i.bytes)) = some (some (.string ⟨#[]⟩), 1, 16) := by kernel_rfl

theorem keeps_ofChg {m : Nat} {V W' : World} {ex : Nat → Prop} (h : Chg V W' ex) (hx : ∀ k, k < V.heap.size → ex k → ∃ (c : Array Value) (t : TypeId), V.heap[k]? = some (Obj.cells c t (0, 0)) ∧ t ≠ 48 ∧ t ≠ 45 ∧ t ≠ 87 ∧ t ≠ 91) : KeepsFrom m V W' ∧ ∀ m', ArgKept m' V W' := by
  have hk : ∀ m'', KeepsFrom m'' V W' := fun m'' => ⟨h.size, fun k o _ hk ho => by
    rw [h.block k (Array.getElem?_eq_some_iff.1 hk).1 (fun e => ?_)]
    · exact hk
    · obtain ⟨c, t, hc, _⟩ := hx k (Array.getElem?_eq_some_iff.1 hk).1 e
      rw [hk] at hc; cases hc; simp [Obj.isCells] at ho⟩
  refine ⟨hk m, fun m' => ⟨fun k c t ht hc => ?_, fun k c hc => ?_, hk m'⟩⟩
  · rw [h.block k (Array.getElem?_eq_some_iff.1 hc).1 (fun e => ?_)]
    · exact hc
    · obtain ⟨c', t', hc', a1, a2, a3, a4⟩ := hx k (Array.getElem?_eq_some_iff.1 hc).1 e
      rw [hc] at hc'; cases hc'
      rcases ht with h | h | h
      · exact a1 h
      · exact a2 h
      · exact a3 h
  · rw [h.block k (Array.getElem?_eq_some_iff.1 hc).1 (fun e => ?_)]
    · exact hc
    · obtain ⟨c', t', hc', a1, a2, a3, a4⟩ := hx k (Array.getElem?_eq_some_iff.1 hc).1 e
      rw [hc] at hc'; cases hc'; exact a4 rfl

def RuleV (W : World) (b45 b87 : Nat) (r : ARule) (v0 vb : Value) : Prop := SealT W b87 v0 r.head.args ∧ SealA W b45 b87 vb r.body
def ruleTerms (r : ARule) : List ATerm := r.head.args ++ r.body.flatMap (·.args)

theorem RuleV.rk {W W' : World} {b45 b87 : Nat} {r : ARule} {v0 vb : Value} (h : RuleV W b45 b87 r v0 vb) (hk : RuleKept W W') : RuleV W' b45 b87 r v0 vb := ⟨h.1.rk hk, h.2.rk hk⟩

theorem atx_list {W : World} {b87 : Nat} : ∀ (ps : List (AAtom × Value)), (∀ p ∈ ps, SealT W b87 p.2 p.1.args) → (∀ p ∈ ps, p.1.args.length ≤ 2) → ∃ L : List (AtX W b87), L.map (·.1) = ps
  | [], _, _ => ⟨[], rfl⟩
  | p :: ps, h, h2 => by
    obtain ⟨L, hL⟩ := atx_list ps (fun q hq => h q (by simp [hq])) (fun q hq => h2 q (by simp [hq]))
    exact ⟨⟨p, h p (by simp), h2 p (by simp)⟩ :: L, congrArg (fun l => p :: l) hL⟩

theorem rule_atx {W : World} {b45 b87 : Nat} {r : ARule} {v0 vb : Value} (hv : RuleV W b45 b87 r v0 vb) (hok : RuleOk r) :
    ∃ (x0 : AtX W b87) (L : List (AtX W b87)) (a : Option Addr) (cap : Nat), x0.1 = (r.head, v0) ∧ L.map (·.1.1) = r.body ∧ vb = .slice a L.length cap ∧ L.length ≤ 3 ∧
      (L ≠ [] → ∃ (g off : Nat) (cur : Array Value), a = some ⟨g, off, none⟩ ∧ W.heap[g]? = some (Obj.cells cur 45 (0, 0)) ∧ (cur.toList.drop off).take (L.length * 2) = L.flatMap fun x => [.string x.1.1.rel, x.1.2]) := by
  obtain ⟨h1, ps, a, cap, e1, e2, e3, e4⟩ := hv
  obtain ⟨L, hL⟩ := atx_list ps e3 (fun p hp => hok.args _ (by rw [← e1]; exact List.mem_map_of_mem hp))
  have hLb : L.map (·.1.1) = r.body := by rw [← e1, ← hL, List.map_map]; rfl
  have hlen : L.length = r.body.length := by rw [← hLb]; simp
  refine ⟨⟨(r.head, v0), h1, hok.head⟩, L, a, cap, rfl, hLb, by rw [hlen]; exact e2, by have := hok.body; omega, fun hne => ?_⟩
  obtain ⟨g, off, cur, k1, k2, k3, k4⟩ := e4 (by intro e; rw [e] at hlen; exact hne (List.eq_nil_of_length_eq_zero hlen))
  refine ⟨g, off, cur, k1, k3, ?_⟩
  rw [hlen, k4, ← hL, List.flatMap_map]
  rfl

theorem termsOf_rule {W : World} {b87 : Nat} {r : ARule} {v0 : Value} {x0 : AtX W b87} {L : List (AtX W b87)} (h0 : x0.1 = (r.head, v0)) (hL : L.map (·.1.1) = r.body) : termsOf (x0 :: L) = ruleTerms r := by
  unfold termsOf ruleTerms
  rw [← hL, List.flatMap_map, List.flatMap_cons, h0]

set_option maxRecDepth 100000 in
set_option maxHeartbeats 1000000 in
theorem variablesOf_any (r : ARule) (v0 vb : Value) (b45 b87 : Nat) (w : World) (hok : RuleOk r) (hv : RuleV w b45 b87 r v0 vb) :
    Calls Tryd.prog 22 #[.agg #[.string r.head.rel, v0, vb]] w fun e w' => ∃ v, e = .returned v ∧ w'.ownsRow w.heap.size 9 1 v (varsL (ruleTerms r)).length ((varsL (ruleTerms r)).map Value.string) ∧ Below w.heap.size w w' := by
  obtain ⟨x0, L, a, cap, hx0, hL, rfl, hL3, hrow⟩ := rule_atx hv hok
  have hterm := termsOf_rule hx0 hL
  rw [← hterm]
  have hr0 : r.head.rel = x0.1.1.rel := by rw [hx0]
  have hv0 : v0 = x0.1.2 := by rw [hx0]
  obtain ⟨fa, fc, hf⟩ := x0.2.1.form
  rw [hr0, hv0, hf]
  clear hterm hr0 hv0 hx0 hL hv hok
  obtain ⟨N, hN⟩ : ∃ N, w.heap.size = N := ⟨_, rfl⟩
  obtain ⟨i0, hi, hz0, hz1, hz2⟩ := info_parts Tryd.info9
  refine (callsIn_wide (n := 8)).1 ?_
  refine callsIn_of_wp_marks Tryd.func22 rfl trivial ?_ rfl
  simp only [Tryd.ntmps22, List.size_toArray, List.length_cons, List.length_nil, Nat.reduceAdd, Nat.reduceSub, Array.replicate_succ, Array.replicate_zero, List.push_toArray, List.append_toArray, List.nil_append, List.cons_append]
  gi_wp2_with (refine ⟨trivial, ?_⟩; gi_at_call 38; refine (callsIn_wide.2 (rargs_any _ _ _ _ rfl _)).mono ?_; rintro e w' ⟨rfl, rfl⟩)
  obtain ⟨W0, hW0⟩ : ∃ W0, ((w.alloc (.cells #[.string x0.1.1.rel, .slice fa x0.1.1.args.length fc, .slice a L.length cap] 48)).alloc (.cells #[.slice none 0 0] 30)).alloc (.cells #[.string x0.1.1.rel, .slice fa x0.1.1.args.length fc, .slice a L.length cap] 48) = W0 := ⟨_, rfl⟩
  have hb0 : Below w.heap.size w W0 := by rw [← hW0]; exact (((Below.refl _ w).alloc (Nat.le_refl _) _).alloc (by simp) _).alloc (by simp; omega) _
  have hs0 : W0.heap.size = N + 3 := by rw [← hW0, ← hN]; simp
  have bV : Boxed W0 (N + 1) 30 (.slice none 0 0) := by
    have := (Boxed.new (w.alloc (.cells #[.string x0.1.1.rel, .slice fa x0.1.1.args.length fc, .slice a L.length cap] 48)) 30 (.slice none 0 0)).alloc (.cells #[.string x0.1.1.rel, .slice fa x0.1.1.args.length fc, .slice a L.length cap] 48)
    rw [World.size_alloc, hN, hW0] at this; exact this
  have bR : W0.heap[N + 1 + 1]? = some (Obj.cells #[.string x0.1.1.rel, x0.1.2, .slice a L.length cap] 48 (0, 0)) := by
    rw [← hW0, hf]
    have := World.alloc_heap_new ((w.alloc (.cells #[.string x0.1.1.rel, .slice fa x0.1.1.args.length fc, .slice a L.length cap] 48)).alloc (.cells #[.slice none 0 0] 30)) (.cells #[.string x0.1.1.rel, .slice fa x0.1.1.args.length fc, .slice a L.length cap] 48)
    simp only [World.size_alloc] at this
    rw [hN] at this; exact this
  have hrow0 : L ≠ [] → ∃ (g off : Nat) (cur : Array Value), a = some ⟨g, off, none⟩ ∧ W0.heap[g]? = some (Obj.cells cur 45 (0, 0)) ∧ (cur.toList.drop off).take (L.length * 2) = L.flatMap fun x => [.string x.1.1.rel, x.1.2] := fun hne => by
    obtain ⟨g, off, cur, h1, h2, h3⟩ := hrow hne; exact ⟨g, off, cur, h1, RuleKept.ofBelow hb0 _ _ _ (.inr (.inl rfl)) h2, h3⟩
  rw [hW0]
  rw [hN] at hb0
  clear hW0 hrow
  refine range_law (n := 8) (gf := 58) (lb := #[.pointer (some ⟨N + 1 + 1, 0, none⟩)]) rfl (enters_of Tryd.func58 (by kernel_rfl) rfl)
    (args_seq 7 (by decide) (N + 1 + 1) w b87 x0 L (by omega) a cap W0 (RuleKept.ofBelow (by rw [hN]; exact hb0)) bR hrow0) ArgKept.tr (fun V o o' ho hc => ArgKept.put V _ o o' (by omega) ho hc) (fun _ => rfl)
    (fun pre V => ∃ v, Boxed V (N + 1) 30 v ∧ V.ownsRow N 9 1 v (varsL pre).length ((varsL pre).map Value.string) ∧ Below N w V)
    (fun _ _ _ => False)
    ?hI (fun _ _ _ _ _ h _ _ => h) ⟨_, bV, World.ownsRow_nil _ _ _ _, hb0⟩
    (fun t a' V => ∃ Bx, V.heap[Bx]? = some (Obj.cells #[.string t.text, .bool t.isVar] 87 (0, 0)) ∧ a' = { tmps := #[.agg #[.string x0.1.1.rel, .slice fa x0.1.1.args.length fc, .slice a L.length cap], .pointer (some ⟨N, 0, none⟩), .slice none 0 0, .pointer (some ⟨N + 1, 0, none⟩), .pointer (some ⟨Bx, 0, none⟩), .agg #[.string x0.1.1.rel, .slice fa x0.1.1.args.length fc, .slice a L.length cap], .func (.func 58) #[] #[.pointer (some ⟨N + 1 + 1, 0, none⟩)], .agg #[.string t.text, .bool t.isVar], undef, undef, undef, undef, undef, undef, undef, undef, undef, undef, undef, undef, undef, undef, undef], defers := [] })
    ?hAx ?assign ?body ?done (fun _ _ _ _ _ _ h _ => h.elim)
  case hI =>
    rintro pre V V' row ⟨v, h1, h2, h3⟩ hg hr
    have hk := kept_of_grown hg (fun r e => (hr r e).2)
    exact ⟨v, hk _ _ _ _ h1, owns_kept h2 (fun g c _ hc => hk g c _ _ hc), h3.grown hg (below_size_le h3 hN) (fun k e => by have := (hr k e).1; omega)⟩
  case hAx =>
    rintro x a' _ V V' row ⟨Bx, h2, h3⟩ hg hr
    exact ⟨Bx, kept_of_grown hg (fun r e => (hr r e).2) _ _ _ _ h2, h3⟩
  case assign =>
    rintro l' pre t V K hl hlr ⟨v, h1, h2, h3⟩ hK
    have HK : Hid _ := hK
    clear hK
    gi_wp2
    have hbl : Below V.heap.size V (V.alloc (.cells #[.string t.text, .bool t.isVar] 87)) := (Below.refl _ V).alloc (Nat.le_refl _) _
    exact HK.out _ _ (KeepsFrom.ofBelow hbl) (ArgKept.ofBelow hbl) ⟨v, h1.alloc _, h2.alloc _, h3.alloc (below_size_le h3 hN) _⟩ ⟨V.heap.size, World.alloc_heap_new V _, rfl⟩
  case done =>
    rintro D xs V hD rfl ⟨v, h1, h2, h3⟩ hK
    have c1 := h1.cell
    gi_wp2
    refine ⟨by simp, .inl ⟨_, _, rfl, run_takeDeferred hK, ?_⟩⟩
    have hk := kept_of_grown (grownBy_putObj' V D (.deferred none)) (fun r e => by cases e; exact ⟨_, hK, rfl⟩)
    refine ⟨_, results_tmp rfl _ _ _, v, rfl, by rw [hN]; exact owns_kept h2 (fun g c _ hc => hk g c _ _ hc), ?_⟩
    rw [← hN] at h3
    exact below_put h3 (by omega) (by have := h3.size; omega)
  case body =>
    rintro l' pre t a' V hl' ⟨r, hr⟩ ⟨v, h1, h2, h3⟩ ⟨Bx, hbx, rfl⟩ hlt
    have hvl := varsL_len pre
    have hl10 : (varsL pre).length ≤ 100 := by omega
    have c0 : V.cell? ⟨Bx, 0, none⟩ = some (.string t.text) := by simp [World.cell?, hbx]
    have c1 : V.cell? ⟨Bx, 1, none⟩ = some (.bool t.isVar) := by simp [World.cell?, hbx]
    have cV := h1.cell
    have fV := h1.frozen
    have hsn := varsL_snoc pre t
    have hcon := contains_own h2 (by omega) t.text
    obtain ⟨va, vc, rfl⟩ := owns_form h2
    generalize hvs : varsL pre = vs at *
    have HS : Hid (varsL (pre ++ [t]) = addVar vs t) := hsn
    clear hsn hvs
    cases htv : t.isVar with
    | false =>
      rw [htv] at c1
      have hfin : Hid (varsL (pre ++ [t]) = vs) := by show _ = _; rw [HS.out]; unfold addVar; rw [if_neg (by simp [htv])]
      clear htv
      gi_wp2
      refine ⟨trivial, ?_⟩
      gi_wp2
      exact ⟨KeepsFrom.refl _ V, ArgKept.ofBelow (Below.refl _ V), _, h1, by rw [hfin.out]; exact h2, h3⟩
    | true =>
      rw [htv] at c1
      cases hct : Lib.containsS vs t.text with
      | true =>
        rw [hct] at hcon
        have hfin : Hid (varsL (pre ++ [t]) = vs) := by show _ = _; rw [HS.out]; unfold addVar; rw [if_neg (by simp [hct])]
        clear htv hct
        gi_wp2_with (refine ⟨trivial, ?_⟩; gi_at_call 39; refine (CallsIn.inRound l' (callsIn_wide.2 hcon)).mono ?_; rintro e w' ⟨rfl, rfl⟩)
        exact ⟨KeepsFrom.refl _ _, ArgKept.ofBelow (Below.refl _ _), _, h1, by rw [hfin.out]; exact h2, h3⟩
      | false =>
        rw [hct] at hcon
        have hfin : Hid (varsL (pre ++ [t]) = vs ++ [t.text]) := by show _ = _; rw [HS.out]; unfold addVar; rw [if_pos ⟨htv, hct⟩]
        clear htv hct
        have hA : Hid ((V.alloc (.cells #[.string t.text] 9)).ownsRow N 9 1 (.slice va vs.length vc) vs.length (vs.map Value.string)) := h2.alloc _
        have hb1 : vs.length + 1 ≤ maxLen := by unfold maxLen; omega
        have hb2 : (vs.length + 1) * 16 ≤ 140737488355328 := by omega
        have hb3 : N ≤ (V.alloc (.cells #[.string t.text] 9)).heap.size := by have := below_size_le h3 hN; simp; omega
        have hVN : Hid (∀ w1, (V.alloc (.cells #[.string t.text] 9)).grownBy w1 (Value.slice va vs.length vc).ownBlock → Boxed w1 (N + 1) 30 (.slice va vs.length vc) ∧ Chg V w1 (fun j => some j = (Value.slice va vs.length vc).ownBlock)) := by
          intro w1 hg
          have hc : Chg V w1 (fun j => some j = (Value.slice va vs.length vc).ownBlock) := ((Chg.refl V _).alloc _).grown hg (fun k e _ => e.symm)
          exact ⟨(hc.block _ h1.lt (fun e => owns_ne h2 h1 (by decide) _ e.symm rfl)).trans h1, hc⟩
        gi_wp2_with (first | (refine ⟨trivial, ?_⟩; gi_at_call 39; refine (CallsIn.inRound l' (callsIn_wide.2 hcon)).mono ?_; rintro e w' ⟨rfl, hw'⟩; obtain rfl : V = w' := hw'.symm) | (gi_at_builtin; refine wpListIn_append_own _ rfl _ _ 30 rfl N 9 i0 (.string ⟨#[]⟩) 1 16 Tryd.underlying30 hi hz0 hz1 hz2 rfl (by decide) _ _ _ rfl hA.out ⟨V.heap.size, 0, none⟩ 1 1 [.string t.text] rfl rfl (cell_one_new _ _ _) (by simp [Value.oneCell']) hb1 hb2 hb3 ?_; intro v' w1 hown1 hgrow1 _; obtain ⟨g', cap', hv'⟩ := ownsRow_succ hown1; subst hv'; obtain ⟨hbx1, hch1⟩ := hVN.out w1 hgrow1; have cc := hbx1.cell; have ff := hbx1.frozen))
        have hch2 : Chg V (w1.setCell ⟨N + 1, 0, none⟩ (.slice (some ⟨g', 0, none⟩) (vs.length + 1) cap')) (fun j => j = N + 1 ∨ some j = (Value.slice va vs.length vc).ownBlock) := (hch1.mono (fun _ _ e => .inr e)).setCell ⟨N + 1, 0, none⟩ _ (fun _ => .inl rfl)
        obtain ⟨hkf, hak⟩ := keeps_ofChg (m := W0.heap.size) hch2 (fun j hj hx => by
          rcases hx with rfl | hx
          · exact ⟨_, _, h1, by decide, by decide, by decide, by decide⟩
          · obtain ⟨_, c, hc⟩ := owns_block h2 hx.symm; exact ⟨c, _, hc, by decide, by decide, by decide, by decide⟩)
        refine ⟨hkf, hak _, _, boxed_set hbx1 _, ?_, h3.trans (hch2.below (below_size_le h3 hN) (fun j hx => by
          rcases hx with rfl | hx
          · omega
          · exact (owns_block h2 hx.symm).1))⟩
        rw [hfin.out]
        have := owns_set hown1 ⟨N + 1, 0, none⟩ (.slice (some ⟨g', 0, none⟩) (vs.length + 1) cap') (owns_ne hown1 hbx1 (by decide))
        simpa using this

end Go.Proofs.YtpfknibkdiebaaaDoor
