/-
  rules.findManyNames: the walk.
-/
import Derived.Test.YtpfknibkdiebaaaDoorNames
import Derived.Test.YtpfknibkdiebaaaDoorIdxRules
namespace Go.Proofs.YtpfknibkdiebaaaDoor
open Go.RowKit Go.Shelf
set_option linter.unusedVariables false
set_option linter.unusedSimpArgs false
attribute [local go_sem] Oper.semAt_some

/-- What holds between two rounds: the map of names at block N, its box behind it, a mark for each round that is over. -/
structure NInv (w : World) (N m : Nat) (ds : List Nat) (ns : List (List UInt8)) (D : DataW Unit) (W : World) : Prop where
  map : W.ownsMap Tryd.prog 9 unitElem N m D
  set : SetIs D ns
  box : Boxed W (N + 1) 92 (.map (some N))
  nodup : ds.Nodup
  shut : ∀ d ∈ ds, W.heap[d]? = some (.deferred (some []))
  above : ∀ d ∈ ds, N + 1 < d
  rk : RuleKept w W
  below : Below N w W

theorem NInv.grown {w W W' : World} {N m : Nat} {ds : List Nat} {ns : List (List UInt8)} {D : DataW Unit} {row : Option Nat} (h : NInv w N m ds ns D W) (hN : w.heap.size = N) (hg : W.grownBy W' row) (hr : ∀ r, row = some r → N + 1 < r ∧ r ∉ ds ∧ ∃ o : Obj, W.heap[r]? = some o ∧ o.isCells = false) : NInv w N m ds ns D W' := by
  have hk := kept_of_grown hg (fun r e => (hr r e).2.2)
  refine ⟨h.map.kept hg (fun e => by have := (hr N e.symm).1; omega), h.set, hk _ _ _ _ h.box, h.nodup, fun d hd => ?_, h.above, h.rk.trans (fun k c t _ hc => hk k c t _ hc), h.below.grown hg (below_size_le h.below hN) (fun k e => by have := (hr k e).1; omega)⟩
  have hd' := h.shut d hd
  exact (hg.block d (Array.getElem?_eq_some_iff.1 hd').1 (fun e => (hr d e.symm).2.1 hd)).trans hd'

theorem NInv.lt {w W : World} {N m : Nat} {ds : List Nat} {ns : List (List UInt8)} {D : DataW Unit} (h : NInv w N m ds ns D W) : ∀ d ∈ ds, d < W.heap.size := fun d hd => (Array.getElem?_eq_some_iff.1 (h.shut d hd)).1

set_option maxRecDepth 100000 in
set_option maxHeartbeats 1000000 in
theorem findManyNames_any (v : Value) (rs : List ARule) (base b45 b87 : Nat) (w : World) (hR : RulesAt w base b45 b87 v rs) (hrow : ∀ g, v.ownBlock = some g → g < w.heap.size) (h8 : rs.length ≤ 8) (hok : ∀ r ∈ rs, RuleOk r) :
    Calls Tryd.prog 21 #[v] w fun e w' => e = .returned (.int .i64 (manyFrom [] 0 rs)) ∧ Below w.heap.size w w' := by
  obtain ⟨a, c, hform⟩ := hR.form
  have hcell : ∀ k (hk : k < rs.length), ∃ g v0 vb, a = some ⟨g, 0, none⟩ ∧ w.cell? ⟨g, k * 3, none⟩ = some (.string (rs[k]).head.rel) ∧ w.cell? ⟨g, k * 3 + 1, none⟩ = some v0 ∧ w.cell? ⟨g, k * 3 + 2, none⟩ = some vb ∧ RuleV w b45 b87 rs[k] v0 vb ∧ g < w.heap.size := by
    intro k hk
    obtain ⟨g, c', v0, vb, h1, h2, h3, h4, h5⟩ := rules_cell hR hk
    have hg := hrow g (by rw [h1]; rfl)
    rw [hform] at h1; cases h1
    exact ⟨g, v0, vb, rfl, h2, h3, h4, h5, hg⟩
  subst hform
  have HC : Hid _ := hcell
  have HOK : Hid _ := hok
  clear hcell hR hok hrow
  have hmm := @run_makeMap Tryd.prog
  obtain ⟨N, hN⟩ : ∃ N, w.heap.size = N := ⟨_, rfl⟩
  refine (callsIn_wide (n := 9)).1 ?_
  refine callsIn_of_wp_marks Tryd.func21 rfl trivial ?_ rfl
  simp only [Tryd.ntmps21, List.size_toArray, List.length_cons, List.length_nil, Nat.reduceAdd, Nat.reduceSub, Array.replicate_succ, Array.replicate_zero, List.push_toArray, List.append_toArray, List.nil_append, List.cons_append]
  gi_wp2
  have hI0 : NInv w N 0 [] [] (.map []) ((w.alloc (.map #[] 0)).alloc (.cells #[.map (some N)] 92)) := by
    have hb : Below w.heap.size w ((w.alloc (.map #[] 0)).alloc (.cells #[.map (some N)] 92)) := ((Below.refl _ w).alloc (Nat.le_refl _) _).alloc (by simp) _
    have hm := World.ownsMap_made w Tryd.prog 9 (unitElem (H := Unit))
    rw [hN] at hm hb
    refine ⟨hm.kept (World.grownBy_alloc _ _ none) (by simp), SetIs.empty, ?_, List.nodup_nil, by simp, by simp, RuleKept.ofBelow (by rw [hN]; exact hb), hb⟩
    have := Boxed.new (w.alloc (.map #[] 0)) 92 (.map (some N))
    rw [World.size_alloc, hN] at this; exact this
  refine wpIn_loop (fun A W => ∃ (k : Nat) (ds : List Nat) (ns : List (List UInt8)) (D : DataW Unit) (u4 u5 u11 u12 u13 u14 u15 u16 u25 u26 u27 u29 : Value), A = { tmps := #[.slice a rs.length c, undef, .int .i64 0, .pointer (some ⟨N + 1, 0, none⟩), u4, u5, undef, .map (some N), .slice a rs.length c, .int .i64 rs.length, .int .i64 k, u11, u12, u13, u14, u15, u16, undef, undef, undef, undef, undef, undef, undef, undef, u25, u26, u27, undef, u29], defers := marks ds } ∧ k ≤ rs.length ∧ NInv w N (k * 8) ds ns D W ∧ Hid (manyFrom ns k (rs.drop k) = manyFrom [] 0 rs)) (fun A _ => rs.length - (intOf (A.tmps.getD 10 undef)).toNat) ⟨0, [], [], .map [], _, _, _, _, _, _, _, _, _, _, _, _, rfl, Nat.zero_le _, hI0, rfl⟩ ?_
  rintro A W ⟨k, ds, ns, D, u4, u5, u11, u12, u13, u14, u15, u16, u25, u26, u27, u29, rfl, hk, hI, hspec⟩
  clear hI0 hmm
  by_cases hlt : k < rs.length
  · obtain ⟨g, v0, vb, rfl, q0, q1, q2, hv, hg⟩ := HC.out k hlt
    have hg' : g < N := by omega
    have q0' := (hI.below.cell (p := ⟨g, k * 3, none⟩) hg').trans q0
    have q1' := (hI.below.cell (p := ⟨g, k * 3 + 1, none⟩) hg').trans q1
    have q2' := (hI.below.cell (p := ⟨g, k * 3 + 2, none⟩) hg').trans q2
    have hvW := hv.rk hI.rk
    have hokr := HOK.out _ (List.getElem_mem hlt)
    have hdrop : Hid (manyFrom ns k (rs.drop k) = if 8 < (namesF ns (ruleTerms rs[k])).length then (k : Int) else manyFrom (namesF ns (ruleTerms rs[k])) (k + 1) (rs.drop (k + 1))) := by
      show _ = _
      rw [List.drop_eq_getElem_cons hlt]; rfl
    obtain ⟨x0, L, la, cap, hx0, hL, rfl, hL3, hrowL⟩ := rule_atx hvW hokr
    have hterm := termsOf_rule hx0 hL
    have hr0 : (rs[k]).head.rel = x0.1.1.rel := by rw [hx0]
    have hv0 : v0 = x0.1.2 := by rw [hx0]
    obtain ⟨fa, fc, hf⟩ := x0.2.1.form
    rw [hr0] at q0'
    rw [hv0, hf] at q1'
    rw [← hterm] at hdrop
    clear hterm hr0 hv0 hx0 hL hvW hokr hv q0 q1 q2
    have i1 : (k : Int) < (rs.length : Int) := by omega
    gi_wp2_with (refine ⟨trivial, ?_⟩; gi_at_call 38; refine (callsIn_wide.2 (rargs_any _ _ _ _ rfl _)).mono ?_; rintro e w' ⟨rfl, rfl⟩)
    obtain ⟨M, hM⟩ : ∃ M, W.heap.size = M := ⟨_, rfl⟩
    obtain ⟨W0, hW0⟩ : ∃ W0, (W.alloc (.cells #[.string x0.1.1.rel, .slice fa x0.1.1.args.length fc, .slice la L.length cap] 48)).alloc (.cells #[.string x0.1.1.rel, .slice fa x0.1.1.args.length fc, .slice la L.length cap] 48) = W0 := ⟨_, rfl⟩
    have hb0 : Below W.heap.size W W0 := by rw [← hW0]; exact ((Below.refl _ W).alloc (Nat.le_refl _) _).alloc (by simp) _
    have hs0 : W0.heap.size = M + 2 := by rw [← hW0, ← hM]; simp
    have bR : W0.heap[M + 1]? = some (Obj.cells #[.string x0.1.1.rel, x0.1.2, .slice la L.length cap] 48 (0, 0)) := by
      rw [← hW0, hf]
      have := World.alloc_heap_new (W.alloc (.cells #[.string x0.1.1.rel, .slice fa x0.1.1.args.length fc, .slice la L.length cap] 48)) (.cells #[.string x0.1.1.rel, .slice fa x0.1.1.args.length fc, .slice la L.length cap] 48)
      rw [World.size_alloc, hM] at this; exact this
    have hrow0 : L ≠ [] → ∃ (g off : Nat) (cur : Array Value), la = some ⟨g, off, none⟩ ∧ W0.heap[g]? = some (Obj.cells cur 45 (0, 0)) ∧ (cur.toList.drop off).take (L.length * 2) = L.flatMap fun x => [.string x.1.1.rel, x.1.2] := fun hne => by
      obtain ⟨g, off, cur, h1, h2, h3⟩ := hrowL hne; exact ⟨g, off, cur, h1, RuleKept.ofBelow hb0 _ _ _ (.inr (.inl rfl)) h2, h3⟩
    have hI0 := hI.grown hN (below_grownBy hb0) (fun r e => by cases e)
    have hltW := hI.lt
    have hMN : N + 1 < M := by have := hI.box.lt; omega
    simp only [hM]
    rw [hW0]
    clear hW0 hrowL
    refine range_law (n := 9) (gf := 58) (lb := #[.pointer (some ⟨M + 1, 0, none⟩)]) rfl (enters_of Tryd.func58 (by kernel_rfl) rfl)
      (args_seq 8 (by decide) (M + 1) W b87 x0 L (by omega) la cap W0 (RuleKept.ofBelow hb0) bR hrow0) ArgKept.tr (fun V o o' ho hc => ArgKept.put V _ o o' (by omega) ho hc) (fun _ => rfl)
      (fun pre V => ∃ D', NInv w N (k * 8 + pre.length) ds (namesF ns pre) D' V)
      (fun _ _ _ => False)
      ?hI (fun _ _ _ _ _ h _ _ => h) ⟨D, hI0⟩
      (fun t a' V => ∃ Bx, V.heap[Bx]? = some (Obj.cells #[.string t.text, .bool t.isVar] 87 (0, 0)) ∧ a' = { tmps := #[.slice (some ⟨g, 0, none⟩) rs.length c, undef, .int .i64 0, .pointer (some ⟨N + 1, 0, none⟩), .int .i64 k, .pointer (some ⟨M, 0, none⟩), .pointer (some ⟨Bx, 0, none⟩), .map (some N), .slice (some ⟨g, 0, none⟩) rs.length c, .int .i64 rs.length, .int .i64 k, .bool true, .int .i64 k, .pointer (some ⟨g, k * 3, none⟩), .agg #[.string x0.1.1.rel, .slice fa x0.1.1.args.length fc, .slice la L.length cap], .agg #[.string x0.1.1.rel, .slice fa x0.1.1.args.length fc, .slice la L.length cap], .func (.func 58) #[] #[.pointer (some ⟨M + 1, 0, none⟩)], .agg #[.string t.text, .bool t.isVar], undef, undef, undef, undef, undef, undef, undef, u25, u26, u27, undef, u29], defers := [] })
      ?hAx ?assign ?body ?done (fun _ _ _ _ _ _ h _ => h.elim)
    case hI =>
      rintro pre V V' row ⟨D', h1⟩ hg hr
      refine ⟨D', h1.grown hN hg (fun r e => ⟨by have := (hr r e).1; omega, fun hd => ?_, (hr r e).2⟩)⟩
      have := hltW r hd; have := (hr r e).1; omega
    case hAx =>
      rintro x a' _ V V' row ⟨Bx, h2, h3⟩ hg hr
      exact ⟨Bx, kept_of_grown hg (fun r e => (hr r e).2) _ _ _ _ h2, h3⟩
    case assign =>
      rintro l' pre t V K hl hlr ⟨D', h1⟩ hK
      have HK : Hid _ := hK
      clear hK
      gi_wp2
      have hbl : Below V.heap.size V (V.alloc (.cells #[.string t.text, .bool t.isVar] 87)) := (Below.refl _ V).alloc (Nat.le_refl _) _
      exact HK.out _ _ (KeepsFrom.ofBelow hbl) (ArgKept.ofBelow hbl) ⟨D', h1.grown hN (below_grownBy hbl) (fun r e => by cases e)⟩ ⟨V.heap.size, World.alloc_heap_new V _, rfl⟩
    case body =>
      rintro l' pre t a' V hl' ⟨r, hr⟩ ⟨D', h1⟩ ⟨Bx, hbx, rfl⟩ hlt'
      have c0 : V.cell? ⟨Bx, 0, none⟩ = some (.string t.text) := by simp [World.cell?, hbx]
      have c1 : V.cell? ⟨Bx, 1, none⟩ = some (.bool t.isVar) := by simp [World.cell?, hbx]
      have cV := h1.box.cell
      have hsn := namesF_snoc ns pre t
      have HS : Hid (namesF ns (pre ++ [t]) = addName (namesF ns pre) t) := hsn
      clear hsn
      cases htv : t.isVar with
      | true =>
        rw [htv] at c1
        have hfin : Hid (namesF ns (pre ++ [t]) = namesF ns pre) := by show _ = _; rw [HS.out, addName_var _ _ htv]
        clear htv
        gi_wp2
        refine ⟨KeepsFrom.refl _ V, ArgKept.ofBelow (Below.refl _ V), D', ?_⟩
        rw [hfin.out]
        exact { h1 with map := h1.map.mono (by simp) }
      | false =>
        rw [htv] at c1
        have hset := h1.set.put t htv
        have hkey := WideMaps.keyOf_string_mk (P := Tryd.prog) Tryd.underlying9 (s := t.text) (by have := t.ok; unfold maxLen; omega)
        have hm8 : k * 8 + pre.length < maxLen := by unfold maxLen; omega
        clear htv
        gi_wp2_with (gi_at_mapUpdate; refine wpListIn_mapUpdate_own _ rfl _ _ _ 92 rfl 9 96 (Maps.string_keyed Tryd.underlying9) Tryd.underlying92 _ N (k * 8 + pre.length) _ rfl h1.map hm8 _ _ _ rfl rfl hkey (.agg []) [] unitElem_mk ?_; intro w1 hown1 hgrow1)
        obtain ⟨es, clock, hbm, _⟩ := h1.map
        have hkc := kept_of_grown hgrow1 (fun r e => by cases e; exact ⟨_, hbm, rfl⟩)
        have hkf : ∀ m, N < m → KeepsFrom m V w1 := fun m hm => KeepsFrom.of_grownBy hgrow1 (fun j e => by cases e; exact hm)
        refine ⟨hkf _ (by omega), ⟨fun k c t _ hc => hkc k c t _ hc, fun k c hc => hkc k c _ _ hc, hkf _ (by omega)⟩, D'.put (.string t.text.data.toList) (.agg []), ?_⟩
        rw [HS.out]
        refine ⟨by simpa [Nat.add_assoc] using hown1, hset, hkc _ _ _ _ h1.box, h1.nodup, fun d hd => ?_, h1.above, h1.rk.trans (fun k c t _ hc => hkc k c t _ hc), h1.below.grown hgrow1 (below_size_le h1.below hN) (fun j e => by cases e; exact Nat.le_refl _)⟩
        have hd' := h1.shut d hd
        exact (hgrow1.block d (Array.getElem?_eq_some_iff.1 hd').1 (by have := h1.above d hd; simp; omega)).trans hd'
    case done =>
      rintro D0 xs V hD rfl ⟨D', h1⟩ hK
      have cV := h1.box.cell
      have hlen := fun ty => h1.map.len Tryd.underlying92 ty
      rw [h1.set.size] at hlen
      have hsz8 : (termsOf (x0 :: L)).length ≤ 8 := by have := termsOf_len (x0 :: L); unfold termsOf; simp at this ⊢; omega
      generalize hns : namesF ns (termsOf (x0 :: L)) = ns' at *
      have hD' : D0 ∉ ds := fun hd => by have := hltW D0 hd; omega
      have hdd : (D0 :: ds).Nodup := List.nodup_cons.2 ⟨hD', h1.nodup⟩
      have hsh : ∀ d ∈ D0 :: ds, V.heap[d]? = some (.deferred (some [])) := fun d hd => by
        rcases List.mem_cons.1 hd with rfl | hd
        · exact hK
        · exact h1.shut d hd
      have hab : ∀ d ∈ D0 :: ds, N + 1 < d := fun d hd => by
        rcases List.mem_cons.1 hd with rfl | hd
        · omega
        · exact h1.above d hd
      by_cases h9 : 8 < ns'.length
      · have hbig : (8 : Int) < (ns'.length : Int) := by omega
        have hres : Hid (manyFrom [] 0 rs = (k : Int)) := by show _ = _; rw [← hspec.out, hdrop.out, if_pos h9]
        gi_wp2
        show LeavesInM Fence.wide 9 Tryd.prog _ _ _ (marks (D0 :: ds)) .returning V
        refine leaves_all (D0 :: ds) V hdd hsh (fun W' hc hs => ?_)
        refine ⟨_, results_tmp rfl _ _ _, (by rw [hres.out]; rfl), ?_⟩
        rw [hN]
        exact h1.below.trans (hc.below (below_size_le h1.below hN) (fun d hd => by have := hab d hd; omega))
      · have hsmall : decide ((8 : Int) < (ns'.length : Int)) = false := by simp; omega
        gi_wp2
        refine ⟨⟨k + 1, D0 :: ds, ns', D', _, _, _, _, _, _, _, _, _, _, _, _, rfl, by omega, ?_, ?_⟩, ?_⟩
        · exact { h1 with map := h1.map.mono (by omega), nodup := hdd, shut := hsh, above := hab }
        · show _ = _; rw [← hspec.out, hdrop.out, if_neg h9]
        · simp [intOf]; omega
  · gi_wp2
    show LeavesInM Fence.wide 9 Tryd.prog _ _ _ (marks ds) .returning W
    refine leaves_all ds W hI.nodup hI.shut (fun W' hc hs => ?_)
    have hres : manyFrom [] 0 rs = -1 := by rw [← hspec.out, List.drop_of_length_le (by omega)]; rfl
    refine ⟨_, results_tmp rfl _ _ _, (by rw [hres]; rfl), ?_⟩
    rw [hN]
    exact hI.below.trans (hc.below (below_size_le hI.below hN) (fun d hd => by have := hI.above d hd; omega))

end Go.Proofs.YtpfknibkdiebaaaDoor
