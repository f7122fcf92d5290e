/-
  rules: IsDerived, Arity.
-/
import Derived.Test.YtjajnhemgphefaaGreatDoorJdNames2
import Derived.Test.YtjajnhemgphefaaGreatDoorJdArity
namespace Go.Proofs.YtjajnhemgphefaaGreatDoor
open Go.RowKit Go.Shelf
set_option linter.unusedVariables false
set_option linter.unusedSimpArgs false
attribute [local go_sem] Oper.semAt_some

/-- How many arguments a relation has in rules; 0: they have it not. -/
def arR (rs : List Rl) (x : ByteArray) : Nat := (arOf (rs.flatMap ruleAms) x.data.toList).getD 0

structure QInv (w : World) (N : Nat) (ds : List Nat) (x : ByteArray) (W : World) : Prop where
  rel : Boxed W N 9 (.string x)
  res : Boxed W (N + 1) 3 (.int .i64 0)
  nodup : ds.Nodup
  shut : ∀ d ∈ ds, W.heap[d]? = some (.deferred (some []))
  above : ∀ d ∈ ds, N + 1 < d
  rk : RuleKept w W
  below : Below N w W

theorem QInv.grown {w W W' : World} {N : Nat} {ds : List Nat} {x : ByteArray} {row : Option Nat} (h : QInv w N ds x W) (hN : w.heap.size = N) (hg : W.grownBy W' row) (hr : ∀ r, row = some r → N + 1 < r ∧ r ∉ ds ∧ ∃ o : Obj, W.heap[r]? = some o ∧ o.isCells = false) : QInv w N ds x W' := by
  have hk := kept_of_grown hg (fun r e => (hr r e).2.2)
  refine ⟨hk _ _ _ _ h.rel, hk _ _ _ _ h.res, h.nodup, fun d hd => ?_, h.above, h.rk.trans (fun k c t _ hc => hk k c t _ hc), h.below.grown hg (below_size_le h.below hN) (fun k e => by have := (hr k e).1; omega)⟩
  have hd' := h.shut d hd
  exact (hg.block d (Array.getElem?_eq_some_iff.1 hd').1 (fun e => (hr d e.symm).2.1 hd)).trans hd'
theorem QInv.lt {w W : World} {N : Nat} {ds : List Nat} {x : ByteArray} (h : QInv w N ds x W) : ∀ d ∈ ds, d < W.heap.size := fun d hd => (Array.getElem?_eq_some_iff.1 (h.shut d hd)).1

theorem arOf_append (l m : List Am) (x : List UInt8) : arOf (l ++ m) x = (arOf l x).or (arOf m x) := by
  unfold arOf
  rw [List.find?_append]
  cases List.find? (fun a => a.rel.data.toList == x) l <;> simp
theorem arOf_cons (a : Am) (l : List Am) (x : List UInt8) : arOf (a :: l) x = if a.rel.data.toList == x then some a.args.length else arOf l x := by
  unfold arOf
  rw [List.find?_cons]
  cases a.rel.data.toList == x <;> simp
theorem rel_eq (y x : ByteArray) : (y.toList == x.toList) = (y.data.toList == x.data.toList) := by rw [ba_list, ba_list]

set_option maxRecDepth 100000 in
set_option maxHeartbeats 1000000 in
theorem arity_any (v : Value) (rs : List Rl) (x : ByteArray) (base b45 b87 : Nat) (w : World) (hR : RulesAt w base b45 b87 v rs) (hrow : ∀ g, v.ownBlock = some g → g < w.heap.size) (h8 : rs.length ≤ 8) (hok : ∀ r ∈ rs, RuleOk r) :
    Calls Tryz.prog 53 #[v, .string x] w fun e w' => e = .returned (.int .i64 (arR rs x)) ∧ Below w.heap.size w w' := by
  obtain ⟨a, c, hform⟩ := hR.form
  have hcell : ∀ k (hk : k < rs.length), ∃ g v0 vb, a = some ⟨g, 0, none⟩ ∧ w.cell? ⟨g, k * 3, none⟩ = some (.string (rs[k]).head.rel) ∧ w.cell? ⟨g, k * 3 + 1, none⟩ = some v0 ∧ w.cell? ⟨g, k * 3 + 2, none⟩ = some vb ∧ RuleV w b45 b87 rs[k] v0 vb ∧ g < w.heap.size := by
    intro k hk
    obtain ⟨g, c', v0, vb, h1, h2, h3, h4, h5⟩ := rules_cell hR hk
    have hg := hrow g (by rw [h1]; rfl)
    rw [hform] at h1; cases h1
    exact ⟨g, v0, vb, rfl, h2, h3, h4, h5, hg⟩
  subst hform
  have HC : Hid _ := hcell
  have HOK : Hid _ := hok
  clear hcell hR hok hrow
  obtain ⟨N, hN⟩ : ∃ N, w.heap.size = N := ⟨_, rfl⟩
  refine (callsIn_wide (n := 9)).1 ?_
  refine callsIn_of_wp_marks Tryz.func53 rfl trivial ?_ rfl
  simp only [Tryz.ntmps53, List.size_toArray, List.length_cons, List.length_nil, Nat.reduceAdd, Nat.reduceSub, Array.replicate_succ, Array.replicate_zero, List.push_toArray, List.append_toArray, List.nil_append, List.cons_append]
  gi_wp2
  have hI0 : QInv w N [] x ((w.alloc (.cells #[.string x] 9)).alloc (.cells #[.int .i64 0] 3)) := by
    have hb : Below w.heap.size w ((w.alloc (.cells #[.string x] 9)).alloc (.cells #[.int .i64 0] 3)) := ((Below.refl _ w).alloc (Nat.le_refl _) _).alloc (by simp) _
    have hb0 := (Boxed.new w 9 (.string x)).alloc (.cells #[.int .i64 0] 3)
    rw [hN] at hb hb0
    refine ⟨hb0, ?_, List.nodup_nil, by simp, by simp, RuleKept.ofBelow (by rw [hN]; exact hb), hb⟩
    have := Boxed.new (w.alloc (.cells #[.string x] 9)) 3 (.int .i64 0)
    rw [World.size_alloc, hN] at this; exact this
  refine wpIn_loop (fun A W => ∃ (k : Nat) (ds : List Nat) (u6 u11 u12 u13 u14 u15 u24 : Value), A = { tmps := #[.slice a rs.length c, .string x, undef, .pointer (some ⟨N, 0, none⟩), .pointer (some ⟨N + 1, 0, none⟩), undef, u6, undef, .slice a rs.length c, .int .i64 rs.length, .int .i64 k, u11, u12, u13, u14, u15, undef, undef, undef, undef, undef, undef, undef, undef, u24], defers := marks ds } ∧ k ≤ rs.length ∧ QInv w N ds x W ∧ Hid (arR rs x = (arOf ((rs.drop k).flatMap ruleAms) x.data.toList).getD 0)) (fun A _ => rs.length - (intOf (A.tmps.getD 10 undef)).toNat) ⟨0, [], _, _, _, _, _, _, _, rfl, Nat.zero_le _, hI0, rfl⟩ ?_
  rintro A W ⟨k, ds, u6, u11, u12, u13, u14, u15, u24, rfl, hk, hI, hspec⟩
  clear hI0
  by_cases hlt : k < rs.length
  · obtain ⟨g, v0, vb, rfl, q0, q1, q2, hv, hg⟩ := HC.out k hlt
    have hg' : g < N := by omega
    have q0' := (hI.below.cell (p := ⟨g, k * 3, none⟩) hg').trans q0
    have q1' := (hI.below.cell (p := ⟨g, k * 3 + 1, none⟩) hg').trans q1
    have q2' := (hI.below.cell (p := ⟨g, k * 3 + 2, none⟩) hg').trans q2
    have hvW := hv.rk hI.rk
    have hokr := HOK.out _ (List.getElem_mem hlt)
    have hdrop : Hid (arOf ((rs.drop k).flatMap ruleAms) x.data.toList = (arOf (ruleAms rs[k]) x.data.toList).or (arOf ((rs.drop (k + 1)).flatMap ruleAms) x.data.toList)) := by
      show _ = _
      rw [List.drop_eq_getElem_cons hlt, List.flatMap_cons, arOf_append]
    obtain ⟨x0, L, la, cap, hx0, hL, rfl, hL3, hrowL⟩ := rule_atx hvW hokr
    have hats : ruleAms rs[k] = (x0 :: L).map (·.1.1) := by unfold ruleAms; rw [List.map_cons, hL, hx0]
    have hr0 : (rs[k]).head.rel = x0.1.1.rel := by rw [hx0]
    have hv0 : v0 = x0.1.2 := by rw [hx0]
    obtain ⟨fa, fc, hf⟩ := x0.2.1.form
    rw [hr0] at q0'
    rw [hv0, hf] at q1'
    rw [hats] at hdrop
    clear hats hr0 hv0 hx0 hL hvW hokr hv q0 q1 q2
    have i1 : (k : Int) < (rs.length : Int) := by omega
    gi_wp2_with (refine ⟨trivial, ?_⟩; gi_at_call 98; refine (callsIn_wide.2 (ratoms_any _ _ _ _ rfl rfl rfl rfl _)).mono ?_; rintro e w' ⟨rfl, rfl⟩)
    obtain ⟨M, hM⟩ : ∃ M, W.heap.size = M := ⟨_, rfl⟩
    obtain ⟨W0, hW0⟩ : ∃ W0, (W.alloc (.cells #[.string x0.1.1.rel, .slice fa x0.1.1.args.length fc, .slice la L.length cap] 136)).alloc (.cells #[.string x0.1.1.rel, .slice fa x0.1.1.args.length fc, .slice la L.length cap] 136) = W0 := ⟨_, rfl⟩
    have hb0 : Below W.heap.size W W0 := by rw [← hW0]; exact ((Below.refl _ W).alloc (Nat.le_refl _) _).alloc (by simp) _
    have hs0 : W0.heap.size = M + 2 := by rw [← hW0, ← hM]; simp
    have bR : W0.heap[M + 1]? = some (Obj.cells #[.string x0.1.1.rel, x0.1.2, .slice la L.length cap] 136 (0, 0)) := by
      rw [← hW0, hf]
      have := World.alloc_heap_new (W.alloc (.cells #[.string x0.1.1.rel, .slice fa x0.1.1.args.length fc, .slice la L.length cap] 136)) (.cells #[.string x0.1.1.rel, .slice fa x0.1.1.args.length fc, .slice la L.length cap] 136)
      rw [World.size_alloc, hM] at this; exact this
    have hrow0 : L ≠ [] → ∃ (g off : Nat) (cur : Array Value), la = some ⟨g, off, none⟩ ∧ W0.heap[g]? = some (Obj.cells cur 92 (0, 0)) ∧ (cur.toList.drop off).take (L.length * 2) = L.flatMap fun x => [.string x.1.1.rel, x.1.2] := fun hne => by
      obtain ⟨g, off, cur, h1, h2, h3⟩ := hrowL hne; exact ⟨g, off, cur, h1, RuleKept.ofBelow hb0 _ _ _ (.inr (.inl rfl)) h2, h3⟩
    have hI0 := hI.grown hN (below_grownBy hb0) (fun r e => by cases e)
    have hltW := hI.lt
    have hMN : N + 1 < M := by have := hI.res.lt; omega
    simp only [hM]
    rw [hW0]
    clear hW0 hrowL
    refine range_law (n := 9) (gf := 163) (lb := #[.pointer (some ⟨M + 1, 0, none⟩)]) rfl (enters_of Tryz.func163 (by kernel_rfl) rfl)
      (SeqN.ofStops (atoms_stops 8 (by decide) (M + 1) W b87 x0 L (by omega) la cap W0 bR hrow0)) RuleKept.trans (fun V o o' ho hc => RuleKept.put V _ o o' ho hc) (fun _ => rfl)
      (fun pre V => arOf (pre.map (·.1.1)) x.data.toList = none ∧ QInv w N ds x V)
      (fun c pre V => c = .ret ∧ ∃ n : Nat, arOf (pre.map (·.1.1)) x.data.toList = some n ∧ Boxed V (N + 1) 3 (.int .i64 n) ∧ (∀ d ∈ ds, V.heap[d]? = some (.deferred (some []))) ∧ Below N w V)
      ?hI ?hIx ⟨rfl, hI0⟩
      (fun y a' V => ∃ Bx, V.heap[Bx]? = some (Obj.cells #[.string y.1.1.rel, y.1.2] 92 (0, 0)) ∧ a' = { tmps := #[.slice (some ⟨g, 0, none⟩) rs.length c, .string x, undef, .pointer (some ⟨N, 0, none⟩), .pointer (some ⟨N + 1, 0, none⟩), undef, .pointer (some ⟨M, 0, none⟩), .pointer (some ⟨Bx, 0, none⟩), .slice (some ⟨g, 0, none⟩) rs.length c, .int .i64 rs.length, .int .i64 k, .bool true, .pointer (some ⟨g, k * 3, none⟩), .agg #[.string x0.1.1.rel, .slice fa x0.1.1.args.length fc, .slice la L.length cap], .agg #[.string x0.1.1.rel, .slice fa x0.1.1.args.length fc, .slice la L.length cap], .func (.func 163) #[] #[.pointer (some ⟨M + 1, 0, none⟩)], .agg #[.string y.1.1.rel, y.1.2], undef, undef, undef, undef, undef, undef, undef, u24], defers := [] })
      ?hAx ?assign ?body ?done ?stop
    case hI =>
      rintro pre V V' row ⟨h0, h1⟩ hg hr
      refine ⟨h0, h1.grown hN hg (fun r e => ⟨by have := (hr r e).1; omega, fun hd => ?_, (hr r e).2⟩)⟩
      have := hltW r hd; have := (hr r e).1; omega
    case hIx =>
      rintro c pre V V' row ⟨rfl, n, h0, h1, h2, h3⟩ hg hr
      refine ⟨rfl, n, h0, kept_of_grown hg (fun r e => (hr r e).2) _ _ _ _ h1, fun d hd => ?_, h3.grown hg (below_size_le h3 hN) (fun k e => by have := (hr k e).1; omega)⟩
      have hd' := h2 d hd
      exact (hg.block d (Array.getElem?_eq_some_iff.1 hd').1 (fun e => by have := hltW d hd; have := (hr d e.symm).1; omega)).trans hd'
    case hAx =>
      rintro y a' _ V V' row ⟨Bx, h2, h3⟩ hg hr
      exact ⟨Bx, kept_of_grown hg (fun r e => (hr r e).2) _ _ _ _ h2, h3⟩
    case assign =>
      rintro l' pre y V K hl hlr ⟨h0, h1⟩ hK
      have HK : Hid _ := hK
      clear hK
      obtain ⟨ga, gc, hgx⟩ := y.2.1.form
      simp only [hgx]
      gi_wp2
      have hbl : Below V.heap.size V (V.alloc (.cells #[.string y.1.1.rel, .slice ga y.1.1.args.length gc] 92)) := (Below.refl _ V).alloc (Nat.le_refl _) _
      exact HK.out _ _ (KeepsFrom.ofBelow hbl) (RuleKept.ofBelow hbl) ⟨h0, h1.grown hN (below_grownBy hbl) (fun r e => by cases e)⟩ ⟨V.heap.size, by rw [hgx]; exact World.alloc_heap_new V _, by rw [hgx]⟩
    case body =>
      rintro l' pre y a' V hl' ⟨r, hr⟩ ⟨hsc, h1⟩ ⟨Bx, hbx, rfl⟩ hlt'
      obtain ⟨ga, gc, hgx⟩ := y.2.1.form
      have c0 : V.cell? ⟨Bx, 0, none⟩ = some (.string y.1.1.rel) := by simp [World.cell?, hbx]
      have c1 : V.cell? ⟨Bx, 1, none⟩ = some (.slice ga y.1.1.args.length gc) := by simp [World.cell?, hbx, hgx]
      have cV := h1.rel.cell
      have cN := h1.res.cell
      have fN := h1.res.frozen
      have hnx : Hid (arOf ((pre ++ [y]).map (·.1.1)) x.data.toList = if (y.1.1.rel.toList == x.toList) then some y.1.1.args.length else none) := by
        show _ = _
        rw [List.map_append, arOf_append, hsc, Option.none_or, List.map_cons, List.map_nil, arOf_cons, rel_eq]
        rfl
      clear hgx hsc
      cases hbb : (y.1.1.rel.toList == x.toList) with
      | true =>
        rw [if_pos hbb] at hnx
        have hbe : y.1.1.rel.toList = x.toList := by simpa using hbb
        gi_wp2
        exact ⟨(KeepsOthers.setCell _ _ _).from _, rfl, _, hnx.out, boxed_set h1.res _, fun d hd => (Below.heap_setCell _ _ _ d (by have := h1.above d hd; simp; omega)).trans (h1.shut d hd), h1.below.setCell (p := ⟨N + 1, 0, none⟩) (Nat.le_succ _) _⟩
      | false =>
        rw [if_neg (by rw [hbb]; decide)] at hnx
        have hbe : ¬ y.1.1.rel.toList = x.toList := by simpa using hbb
        gi_wp2
        exact ⟨KeepsFrom.ofBelow (Below.refl _ _), RuleKept.refl _, hnx.out, h1⟩
    case done =>
      rintro D0 xs V hD rfl ⟨hsc, h1⟩ hK
      have hD' : D0 ∉ ds := fun hd => by have := hltW D0 hd; omega
      have hdd : (D0 :: ds).Nodup := List.nodup_cons.2 ⟨hD', h1.nodup⟩
      have hsh : ∀ d ∈ D0 :: ds, V.heap[d]? = some (.deferred (some [])) := fun d hd => by
        rcases List.mem_cons.1 hd with rfl | hd
        · exact hK
        · exact h1.shut d hd
      have hab : ∀ d ∈ D0 :: ds, N + 1 < d := fun d hd => by
        rcases List.mem_cons.1 hd with rfl | hd
        · omega
        · exact h1.above d hd
      have hnext : Hid (arR rs x = (arOf ((rs.drop (k + 1)).flatMap ruleAms) x.data.toList).getD 0) := by show _ = _; rw [hspec.out, hdrop.out, hsc, Option.none_or]
      clear hsc
      gi_wp2
      refine ⟨⟨k + 1, D0 :: ds, _, _, _, _, _, _, _, rfl, by omega, ?_, hnext⟩, ?_⟩
      · exact { h1 with nodup := hdd, shut := hsh, above := hab }
      · simp [intOf]; omega
    case stop =>
      rintro D0 c' pre V hD hp ⟨rfl, n, hsc, h2, h3, h4⟩ hK
      have hD' : D0 ∉ ds := fun hd => by have := hltW D0 hd; omega
      have hdd : (D0 :: ds).Nodup := List.nodup_cons.2 ⟨hD', hI.nodup⟩
      have hsh : ∀ d ∈ D0 :: ds, V.heap[d]? = some (.deferred (some [])) := fun d hd => by
        rcases List.mem_cons.1 hd with rfl | hd
        · exact hK
        · exact h3 d hd
      have hab : ∀ d ∈ D0 :: ds, N + 1 < d := fun d hd => by
        rcases List.mem_cons.1 hd with rfl | hd
        · omega
        · exact hI.above d hd
      have hres : Hid (arR rs x = n) := by
        show _ = _
        obtain ⟨tl, htl⟩ := hp
        rw [hspec.out, hdrop.out, ← htl, List.map_append, arOf_append, hsc]
        rfl
      clear hsc
      gi_wp2
      show LeavesInM Fence.wide 9 Tryz.prog _ _ _ (marks (D0 :: ds)) .returning V
      refine leaves_all (D0 :: ds) V hdd hsh (fun W' hc hs => ?_)
      have dN : W'.cell? ⟨N + 1, 0, none⟩ = some (.int .i64 n) := Boxed.cell (t := 3) ((hc.block (N + 1) h2.lt (fun hd => by have := hab (N + 1) hd; omega)).trans h2)
      refine ⟨.int .i64 n, by simp [results, Tryz.results53, go_sem, dN], by rw [hres.out], ?_⟩
      rw [hN]
      exact h4.trans (hc.below (below_size_le h4 hN) (fun d hd => by have := hab d hd; omega))
  · have cN := hI.res.cell
    have fN := hI.res.frozen
    gi_wp2
    show LeavesInM Fence.wide 9 Tryz.prog _ _ _ (marks ds) .returning (W.setCell ⟨N + 1, 0, none⟩ (.int .i64 0))
    have hsh : ∀ d ∈ ds, (W.setCell ⟨N + 1, 0, none⟩ (.int .i64 0)).heap[d]? = some (.deferred (some [])) := fun d hd => (Below.heap_setCell _ _ _ d (by have := hI.above d hd; simp; omega)).trans (hI.shut d hd)
    refine leaves_all ds _ hI.nodup hsh (fun W' hc hs => ?_)
    have hbx := boxed_set hI.res (.int .i64 0)
    have dN : W'.cell? ⟨N + 1, 0, none⟩ = some (.int .i64 0) := Boxed.cell (t := 3) ((hc.block (N + 1) hbx.lt (fun hd => by have := hI.above (N + 1) hd; omega)).trans hbx)
    have hres : arR rs x = 0 := by rw [hspec.out, List.drop_of_length_le (by omega)]; rfl
    have hbl := hI.below.setCell (p := ⟨N + 1, 0, none⟩) (Nat.le_succ _) (.int .i64 0)
    refine ⟨.int .i64 0, by simp [results, Tryz.results53, go_sem, dN], by rw [hres]; rfl, ?_⟩
    rw [hN]
    exact hbl.trans (hc.below (below_size_le hbl hN) (fun d hd => by have := hI.above d hd; omega))

end Go.Proofs.YtjajnhemgphefaaGreatDoor
