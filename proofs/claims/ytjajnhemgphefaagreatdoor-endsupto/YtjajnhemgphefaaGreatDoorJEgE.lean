/-
  rules: IsDerived, Arity.
  rules: IsDerived.
  rules.AddNames over any terms; slices.Values of terms.
-/
import Derived.Test.YtjajnhemgphefaaGreatDoorJArity
namespace Go.Proofs.YtjajnhemgphefaaGreatDoor
open Go.RowKit Go.Shelf
set_option linter.unusedVariables false
set_option linter.unusedSimpArgs false
attribute [local go_sem] Oper.semAt_some

/-- How many arguments a relation has in rules; 0: they have it not. -/
def arR (rs : List Rl) (x : ByteArray) : Nat := (arOf (rs.flatMap ruleAms) x.data.toList).getD 0

structure QInv (w : World) (N : Nat) (ds : List Nat) (x : ByteArray) (W : World) : Prop where
  rel : Boxed W N 9 (.string x)
  res : Boxed W (N + 1) 3 (.int .i64 0)
  nodup : ds.Nodup
  shut : ∀ d ∈ ds, W.heap[d]? = some (.deferred (some []))
  above : ∀ d ∈ ds, N + 1 < d
  rk : RuleKept w W
  below : Below N w W

theorem QInv.grown {w W W' : World} {N : Nat} {ds : List Nat} {x : ByteArray} {row : Option Nat} (h : QInv w N ds x W) (hN : w.heap.size = N) (hg : W.grownBy W' row) (hr : ∀ r, row = some r → N + 1 < r ∧ r ∉ ds ∧ ∃ o : Obj, W.heap[r]? = some o ∧ o.isCells = false) : QInv w N ds x W' := by
  have hk := kept_of_grown hg (fun r e => (hr r e).2.2)
  refine ⟨hk _ _ _ _ h.rel, hk _ _ _ _ h.res, h.nodup, fun d hd => ?_, h.above, h.rk.trans (fun k c t _ hc => hk k c t _ hc), h.below.grown hg (below_size_le h.below hN) (fun k e => by have := (hr k e).1; omega)⟩
  have hd' := h.shut d hd
  exact (hg.block d (Array.getElem?_eq_some_iff.1 hd').1 (fun e => (hr d e.symm).2.1 hd)).trans hd'
theorem QInv.lt {w W : World} {N : Nat} {ds : List Nat} {x : ByteArray} (h : QInv w N ds x W) : ∀ d ∈ ds, d < W.heap.size := fun d hd => (Array.getElem?_eq_some_iff.1 (h.shut d hd)).1

theorem arOf_append (l m : List Am) (x : List UInt8) : arOf (l ++ m) x = (arOf l x).or (arOf m x) := by
  unfold arOf
  rw [List.find?_append]
  cases List.find? (fun a => a.rel.data.toList == x) l <;> simp
theorem arOf_cons (a : Am) (l : List Am) (x : List UInt8) : arOf (a :: l) x = if a.rel.data.toList == x then some a.args.length else arOf l x := by
  unfold arOf
  rw [List.find?_cons]
  cases a.rel.data.toList == x <;> simp
theorem rel_eq (y x : ByteArray) : (y.toList == x.toList) = (y.data.toList == x.data.toList) := by rw [ba_list, ba_list]

set_option maxRecDepth 100000 in
set_option maxHeartbeats 1000000 in
theorem arity_any (v : Value) (rs : List Rl) (x : ByteArray) (base b45 b87 : Nat) (w : World) (hR : RulesAt w base b45 b87 v rs) (hrow : ∀ g, v.ownBlock = some g → g < w.heap.size) (h8 : rs.length ≤ 8) (hok : ∀ r ∈ rs, RuleOk r) :
    Calls Tryz.prog 53 #[v, .string x] w fun e w' => e = .returned (.int .i64 (arR rs x)) ∧ Below w.heap.size w w' := by
  obtain ⟨a, c, hform⟩ := hR.form
  have hcell : ∀ k (hk : k < rs.length), ∃ g v0 vb, a = some ⟨g, 0, none⟩ ∧ w.cell? ⟨g, k * 3, none⟩ = some (.string (rs[k]).head.rel) ∧ w.cell? ⟨g, k * 3 + 1, none⟩ = some v0 ∧ w.cell? ⟨g, k * 3 + 2, none⟩ = some vb ∧ RuleV w b45 b87 rs[k] v0 vb ∧ g < w.heap.size := by
    intro k hk
    obtain ⟨g, c', v0, vb, h1, h2, h3, h4, h5⟩ := rules_cell hR hk
    have hg := hrow g (by rw [h1]; rfl)
    rw [hform] at h1; cases h1
    exact ⟨g, v0, vb, rfl, h2, h3, h4, h5, hg⟩
  subst hform
  have HC : Hid _ := hcell
  have HOK : Hid _ := hok
  clear hcell hR hok hrow
  obtain ⟨N, hN⟩ : ∃ N, w.heap.size = N := ⟨_, rfl⟩
  refine (callsIn_wide (n := 9)).1 ?_
  refine callsIn_of_wp_marks Tryz.func53 rfl trivial ?_ rfl
  simp only [Tryz.ntmps53, List.size_toArray, List.length_cons, List.length_nil, Nat.reduceAdd, Nat.reduceSub, Array.replicate_succ, Array.replicate_zero, List.push_toArray, List.append_toArray, List.nil_append, List.cons_append]
  gi_wp2
  have hI0 : QInv w N [] x ((w.alloc (.cells #[.string x] 9)).alloc (.cells #[.int .i64 0] 3)) := by
    have hb : Below w.heap.size w ((w.alloc (.cells #[.string x] 9)).alloc (.cells #[.int .i64 0] 3)) := ((Below.refl _ w).alloc (Nat.le_refl _) _).alloc (by simp) _
    have hb0 := (Boxed.new w 9 (.string x)).alloc (.cells #[.int .i64 0] 3)
    rw [hN] at hb hb0
    refine ⟨hb0, ?_, List.nodup_nil, by simp, by simp, RuleKept.ofBelow (by rw [hN]; exact hb), hb⟩
    have := Boxed.new (w.alloc (.cells #[.string x] 9)) 3 (.int .i64 0)
    rw [World.size_alloc, hN] at this; exact this
  refine wpIn_loop (fun A W => ∃ (k : Nat) (ds : List Nat) (u6 u11 u12 u13 u14 u15 u24 : Value), A = { tmps := #[.slice a rs.length c, .string x, undef, .pointer (some ⟨N, 0, none⟩), .pointer (some ⟨N + 1, 0, none⟩), undef, u6, undef, .slice a rs.length c, .int .i64 rs.length, .int .i64 k, u11, u12, u13, u14, u15, undef, undef, undef, undef, undef, undef, undef, undef, u24], defers := marks ds } ∧ k ≤ rs.length ∧ QInv w N ds x W ∧ Hid (arR rs x = (arOf ((rs.drop k).flatMap ruleAms) x.data.toList).getD 0)) (fun A _ => rs.length - (intOf (A.tmps.getD 10 undef)).toNat) ⟨0, [], _, _, _, _, _, _, _, rfl, Nat.zero_le _, hI0, rfl⟩ ?_
  rintro A W ⟨k, ds, u6, u11, u12, u13, u14, u15, u24, rfl, hk, hI, hspec⟩
  clear hI0
  by_cases hlt : k < rs.length
  · obtain ⟨g, v0, vb, rfl, q0, q1, q2, hv, hg⟩ := HC.out k hlt
    have hg' : g < N := by omega
    have q0' := (hI.below.cell (p := ⟨g, k * 3, none⟩) hg').trans q0
    have q1' := (hI.below.cell (p := ⟨g, k * 3 + 1, none⟩) hg').trans q1
    have q2' := (hI.below.cell (p := ⟨g, k * 3 + 2, none⟩) hg').trans q2
    have hvW := hv.rk hI.rk
    have hokr := HOK.out _ (List.getElem_mem hlt)
    have hdrop : Hid (arOf ((rs.drop k).flatMap ruleAms) x.data.toList = (arOf (ruleAms rs[k]) x.data.toList).or (arOf ((rs.drop (k + 1)).flatMap ruleAms) x.data.toList)) := by
      show _ = _
      rw [List.drop_eq_getElem_cons hlt, List.flatMap_cons, arOf_append]
    obtain ⟨x0, L, la, cap, hx0, hL, rfl, hL3, hrowL⟩ := rule_atx hvW hokr
    have hats : ruleAms rs[k] = (x0 :: L).map (·.1.1) := by unfold ruleAms; rw [List.map_cons, hL, hx0]
    have hr0 : (rs[k]).head.rel = x0.1.1.rel := by rw [hx0]
    have hv0 : v0 = x0.1.2 := by rw [hx0]
    obtain ⟨fa, fc, hf⟩ := x0.2.1.form
    rw [hr0] at q0'
    rw [hv0, hf] at q1'
    rw [hats] at hdrop
    clear hats hr0 hv0 hx0 hL hvW hokr hv q0 q1 q2
    have i1 : (k : Int) < (rs.length : Int) := by omega
    gi_wp2_with (refine ⟨trivial, ?_⟩; gi_at_call 98; refine (callsIn_wide.2 (ratoms_any _ _ _ _ rfl rfl rfl rfl _)).mono ?_; rintro e w' ⟨rfl, rfl⟩)
    obtain ⟨M, hM⟩ : ∃ M, W.heap.size = M := ⟨_, rfl⟩
    obtain ⟨W0, hW0⟩ : ∃ W0, (W.alloc (.cells #[.string x0.1.1.rel, .slice fa x0.1.1.args.length fc, .slice la L.length cap] 136)).alloc (.cells #[.string x0.1.1.rel, .slice fa x0.1.1.args.length fc, .slice la L.length cap] 136) = W0 := ⟨_, rfl⟩
    have hb0 : Below W.heap.size W W0 := by rw [← hW0]; exact ((Below.refl _ W).alloc (Nat.le_refl _) _).alloc (by simp) _
    have hs0 : W0.heap.size = M + 2 := by rw [← hW0, ← hM]; simp
    have bR : W0.heap[M + 1]? = some (Obj.cells #[.string x0.1.1.rel, x0.1.2, .slice la L.length cap] 136 (0, 0)) := by
      rw [← hW0, hf]
      have := World.alloc_heap_new (W.alloc (.cells #[.string x0.1.1.rel, .slice fa x0.1.1.args.length fc, .slice la L.length cap] 136)) (.cells #[.string x0.1.1.rel, .slice fa x0.1.1.args.length fc, .slice la L.length cap] 136)
      rw [World.size_alloc, hM] at this; exact this
    have hrow0 : L ≠ [] → ∃ (g off : Nat) (cur : Array Value), la = some ⟨g, off, none⟩ ∧ W0.heap[g]? = some (Obj.cells cur 92 (0, 0)) ∧ (cur.toList.drop off).take (L.length * 2) = L.flatMap fun x => [.string x.1.1.rel, x.1.2] := fun hne => by
      obtain ⟨g, off, cur, h1, h2, h3⟩ := hrowL hne; exact ⟨g, off, cur, h1, RuleKept.ofBelow hb0 _ _ _ (.inr (.inl rfl)) h2, h3⟩
    have hI0 := hI.grown hN (below_grownBy hb0) (fun r e => by cases e)
    have hltW := hI.lt
    have hMN : N + 1 < M := by have := hI.res.lt; omega
    simp only [hM]
    rw [hW0]
    clear hW0 hrowL
    refine range_law (n := 9) (gf := 163) (lb := #[.pointer (some ⟨M + 1, 0, none⟩)]) rfl (enters_of Tryz.func163 (by kernel_rfl) rfl)
      (SeqN.ofStops (atoms_stops 8 (by decide) (M + 1) W b87 x0 L (by omega) la cap W0 bR hrow0)) RuleKept.trans (fun V o o' ho hc => RuleKept.put V _ o o' ho hc) (fun _ => rfl)
      (fun pre V => arOf (pre.map (·.1.1)) x.data.toList = none ∧ QInv w N ds x V)
      (fun c pre V => c = .ret ∧ ∃ n : Nat, arOf (pre.map (·.1.1)) x.data.toList = some n ∧ Boxed V (N + 1) 3 (.int .i64 n) ∧ (∀ d ∈ ds, V.heap[d]? = some (.deferred (some []))) ∧ Below N w V)
      ?hI ?hIx ⟨rfl, hI0⟩
      (fun y a' V => ∃ Bx, V.heap[Bx]? = some (Obj.cells #[.string y.1.1.rel, y.1.2] 92 (0, 0)) ∧ a' = { tmps := #[.slice (some ⟨g, 0, none⟩) rs.length c, .string x, undef, .pointer (some ⟨N, 0, none⟩), .pointer (some ⟨N + 1, 0, none⟩), undef, .pointer (some ⟨M, 0, none⟩), .pointer (some ⟨Bx, 0, none⟩), .slice (some ⟨g, 0, none⟩) rs.length c, .int .i64 rs.length, .int .i64 k, .bool true, .pointer (some ⟨g, k * 3, none⟩), .agg #[.string x0.1.1.rel, .slice fa x0.1.1.args.length fc, .slice la L.length cap], .agg #[.string x0.1.1.rel, .slice fa x0.1.1.args.length fc, .slice la L.length cap], .func (.func 163) #[] #[.pointer (some ⟨M + 1, 0, none⟩)], .agg #[.string y.1.1.rel, y.1.2], undef, undef, undef, undef, undef, undef, undef, u24], defers := [] })
      ?hAx ?assign ?body ?done ?stop
    case hI =>
      rintro pre V V' row ⟨h0, h1⟩ hg hr
      refine ⟨h0, h1.grown hN hg (fun r e => ⟨by have := (hr r e).1; omega, fun hd => ?_, (hr r e).2⟩)⟩
      have := hltW r hd; have := (hr r e).1; omega
    case hIx =>
      rintro c pre V V' row ⟨rfl, n, h0, h1, h2, h3⟩ hg hr
      refine ⟨rfl, n, h0, kept_of_grown hg (fun r e => (hr r e).2) _ _ _ _ h1, fun d hd => ?_, h3.grown hg (below_size_le h3 hN) (fun k e => by have := (hr k e).1; omega)⟩
      have hd' := h2 d hd
      exact (hg.block d (Array.getElem?_eq_some_iff.1 hd').1 (fun e => by have := hltW d hd; have := (hr d e.symm).1; omega)).trans hd'
    case hAx =>
      rintro y a' _ V V' row ⟨Bx, h2, h3⟩ hg hr
      exact ⟨Bx, kept_of_grown hg (fun r e => (hr r e).2) _ _ _ _ h2, h3⟩
    case assign =>
      rintro l' pre y V K hl hlr ⟨h0, h1⟩ hK
      have HK : Hid _ := hK
      clear hK
      obtain ⟨ga, gc, hgx⟩ := y.2.1.form
      simp only [hgx]
      gi_wp2
      have hbl : Below V.heap.size V (V.alloc (.cells #[.string y.1.1.rel, .slice ga y.1.1.args.length gc] 92)) := (Below.refl _ V).alloc (Nat.le_refl _) _
      exact HK.out _ _ (KeepsFrom.ofBelow hbl) (RuleKept.ofBelow hbl) ⟨h0, h1.grown hN (below_grownBy hbl) (fun r e => by cases e)⟩ ⟨V.heap.size, by rw [hgx]; exact World.alloc_heap_new V _, by rw [hgx]⟩
    case body =>
      rintro l' pre y a' V hl' ⟨r, hr⟩ ⟨hsc, h1⟩ ⟨Bx, hbx, rfl⟩ hlt'
      obtain ⟨ga, gc, hgx⟩ := y.2.1.form
      have c0 : V.cell? ⟨Bx, 0, none⟩ = some (.string y.1.1.rel) := by simp [World.cell?, hbx]
      have c1 : V.cell? ⟨Bx, 1, none⟩ = some (.slice ga y.1.1.args.length gc) := by simp [World.cell?, hbx, hgx]
      have cV := h1.rel.cell
      have cN := h1.res.cell
      have fN := h1.res.frozen
      have hnx : Hid (arOf ((pre ++ [y]).map (·.1.1)) x.data.toList = if (y.1.1.rel.toList == x.toList) then some y.1.1.args.length else none) := by
        show _ = _
        rw [List.map_append, arOf_append, hsc, Option.none_or, List.map_cons, List.map_nil, arOf_cons, rel_eq]
        rfl
      clear hgx hsc
      cases hbb : (y.1.1.rel.toList == x.toList) with
      | true =>
        rw [if_pos hbb] at hnx
        have hbe : y.1.1.rel.toList = x.toList := by simpa using hbb
        gi_wp2
        exact ⟨(KeepsOthers.setCell _ _ _).from _, rfl, _, hnx.out, boxed_set h1.res _, fun d hd => (Below.heap_setCell _ _ _ d (by have := h1.above d hd; simp; omega)).trans (h1.shut d hd), h1.below.setCell (p := ⟨N + 1, 0, none⟩) (Nat.le_succ _) _⟩
      | false =>
        rw [if_neg (by rw [hbb]; decide)] at hnx
        have hbe : ¬ y.1.1.rel.toList = x.toList := by simpa using hbb
        gi_wp2
        exact ⟨KeepsFrom.ofBelow (Below.refl _ _), RuleKept.refl _, hnx.out, h1⟩
    case done =>
      rintro D0 xs V hD rfl ⟨hsc, h1⟩ hK
      have hD' : D0 ∉ ds := fun hd => by have := hltW D0 hd; omega
      have hdd : (D0 :: ds).Nodup := List.nodup_cons.2 ⟨hD', h1.nodup⟩
      have hsh : ∀ d ∈ D0 :: ds, V.heap[d]? = some (.deferred (some [])) := fun d hd => by
        rcases List.mem_cons.1 hd with rfl | hd
        · exact hK
        · exact h1.shut d hd
      have hab : ∀ d ∈ D0 :: ds, N + 1 < d := fun d hd => by
        rcases List.mem_cons.1 hd with rfl | hd
        · omega
        · exact h1.above d hd
      have hnext : Hid (arR rs x = (arOf ((rs.drop (k + 1)).flatMap ruleAms) x.data.toList).getD 0) := by show _ = _; rw [hspec.out, hdrop.out, hsc, Option.none_or]
      clear hsc
      gi_wp2
      refine ⟨⟨k + 1, D0 :: ds, _, _, _, _, _, _, _, rfl, by omega, ?_, hnext⟩, ?_⟩
      · exact { h1 with nodup := hdd, shut := hsh, above := hab }
      · simp [intOf]; omega
    case stop =>
      rintro D0 c' pre V hD hp ⟨rfl, n, hsc, h2, h3, h4⟩ hK
      have hD' : D0 ∉ ds := fun hd => by have := hltW D0 hd; omega
      have hdd : (D0 :: ds).Nodup := List.nodup_cons.2 ⟨hD', hI.nodup⟩
      have hsh : ∀ d ∈ D0 :: ds, V.heap[d]? = some (.deferred (some [])) := fun d hd => by
        rcases List.mem_cons.1 hd with rfl | hd
        · exact hK
        · exact h3 d hd
      have hab : ∀ d ∈ D0 :: ds, N + 1 < d := fun d hd => by
        rcases List.mem_cons.1 hd with rfl | hd
        · omega
        · exact hI.above d hd
      have hres : Hid (arR rs x = n) := by
        show _ = _
        obtain ⟨tl, htl⟩ := hp
        rw [hspec.out, hdrop.out, ← htl, List.map_append, arOf_append, hsc]
        rfl
      clear hsc
      gi_wp2
      show LeavesInM Fence.wide 9 Tryz.prog _ _ _ (marks (D0 :: ds)) .returning V
      refine leaves_all (D0 :: ds) V hdd hsh (fun W' hc hs => ?_)
      have dN : W'.cell? ⟨N + 1, 0, none⟩ = some (.int .i64 n) := Boxed.cell (t := 3) ((hc.block (N + 1) h2.lt (fun hd => by have := hab (N + 1) hd; omega)).trans h2)
      refine ⟨.int .i64 n, by simp [results, Tryz.results53, go_sem, dN], by rw [hres.out], ?_⟩
      rw [hN]
      exact h4.trans (hc.below (below_size_le h4 hN) (fun d hd => by have := hab d hd; omega))
  · have cN := hI.res.cell
    have fN := hI.res.frozen
    gi_wp2
    show LeavesInM Fence.wide 9 Tryz.prog _ _ _ (marks ds) .returning (W.setCell ⟨N + 1, 0, none⟩ (.int .i64 0))
    have hsh : ∀ d ∈ ds, (W.setCell ⟨N + 1, 0, none⟩ (.int .i64 0)).heap[d]? = some (.deferred (some [])) := fun d hd => (Below.heap_setCell _ _ _ d (by have := hI.above d hd; simp; omega)).trans (hI.shut d hd)
    refine leaves_all ds _ hI.nodup hsh (fun W' hc hs => ?_)
    have hbx := boxed_set hI.res (.int .i64 0)
    have dN : W'.cell? ⟨N + 1, 0, none⟩ = some (.int .i64 0) := Boxed.cell (t := 3) ((hc.block (N + 1) hbx.lt (fun hd => by have := hI.above (N + 1) hd; omega)).trans hbx)
    have hres : arR rs x = 0 := by rw [hspec.out, List.drop_of_length_le (by omega)]; rfl
    have hbl := hI.below.setCell (p := ⟨N + 1, 0, none⟩) (Nat.le_succ _) (.int .i64 0)
    refine ⟨.int .i64 0, by simp [results, Tryz.results53, go_sem, dN], by rw [hres]; rfl, ?_⟩
    rw [hN]
    exact hbl.trans (hc.below (below_size_le hbl hN) (fun d hd => by have := hI.above d hd; omega))

end Go.Proofs.YtjajnhemgphefaaGreatDoor

namespace Go.Proofs.YtjajnhemgphefaaGreatDoor
open Go.RowKit Go.Shelf
set_option linter.unusedVariables false
set_option linter.unusedSimpArgs false

/-- Is a relation the head of some rule? -/
def headB (x : ByteArray) (r : Rl) : Bool := r.head.rel.toList == x.toList
def derB (rs : List Rl) (x : ByteArray) : Bool := rs.any (headB x)

set_option maxHeartbeats 1000000 in
theorem derived1_any (r : Rl) (x : ByteArray) (v0 vb : Value) (B : Nat) (w : World) (hB : w.heap[B]? = some (Obj.cells #[.string x] 9 (0, 0))) (fa ga : Option Addr) (fn fc gn gc : Nat) (hf : v0 = .slice fa fn fc) (hg : vb = .slice ga gn gc) :
    Calls Tryz.prog 80 #[.agg #[.string r.head.rel, v0, vb], .pointer (some ⟨B, 0, none⟩)] w fun e w' => e = .returned (.bool (headB x r)) ∧ Below w.heap.size w w' := by
  subst hf hg
  have hlt := (Array.getElem?_eq_some_iff.1 hB).1
  have hne : B ≠ w.heap.size := by omega
  have c0 : w.cell? ⟨B, 0, none⟩ = some (.string x) := by simp [World.cell?, hB]
  go_enter Tryz.func80, Tryz.ntmps80
  go_wp2
  go_ret
  exact ⟨rfl, by first | exact Below.refl _ _ | exact (Below.refl _ w).alloc (Nat.le_refl _) _⟩

set_option maxHeartbeats 1000000 in
theorem idxDer_any (v : Value) (rs : List Rl) (x : ByteArray) (B base b45 b87 : Nat) (w : World) (hB : w.heap[B]? = some (Obj.cells #[.string x] 9 (0, 0))) (hR : RulesAt w base b45 b87 v rs) (hrow : ∀ g, v.ownBlock = some g → g < w.heap.size) (h8 : rs.length ≤ 8) :
    Calls Tryz.prog 101 #[v, .func (.func 80) #[] #[.pointer (some ⟨B, 0, none⟩)]] w fun e w' => ∃ i : Int, e = .returned (.int .i64 i) ∧ decide (0 ≤ i) = derB rs x ∧ Below w.heap.size w w' := by
  obtain ⟨a, c, hform⟩ := hR.form
  have hcell : ∀ k (hk : k < rs.length), ∃ g v0 vb, a = some ⟨g, 0, none⟩ ∧ w.cell? ⟨g, k * 3, none⟩ = some (.string (rs[k]).head.rel) ∧ w.cell? ⟨g, k * 3 + 1, none⟩ = some v0 ∧ w.cell? ⟨g, k * 3 + 2, none⟩ = some vb ∧ RuleV w b45 b87 rs[k] v0 vb ∧ g < w.heap.size := by
    intro k hk
    obtain ⟨g, c', v0, vb, h1, h2, h3, h4, h5⟩ := rules_cell hR hk
    have hg := hrow g (by rw [h1]; rfl)
    rw [hform] at h1; cases h1
    exact ⟨g, v0, vb, rfl, h2, h3, h4, h5, hg⟩
  subst hform
  have HC : Hid _ := hcell
  have HB : Hid _ := hB
  have hBl := (Array.getElem?_eq_some_iff.1 hB).1
  clear hcell hR hrow hB
  go_enter Tryz.func101, Tryz.ntmps101
  go_wp2
  go_loopw [8] (fun i wr => ∃ k : Nat, k ≤ rs.length ∧ i = .int .i64 k ∧ Hid (∀ j, (hj : j < rs.length) → j < k → headB x rs[j] = false) ∧ Below w.heap.size w wr) (fun i _ => rs.length - (intOf i).toNat)
  case atStart => exact ⟨0, Nat.zero_le _, rfl, fun j _ hj => by omega, Below.refl _ _⟩
  case round =>
    obtain ⟨k, hk, rfl, hno, hb⟩ := hrel
    by_cases hlt : k < rs.length
    · obtain ⟨g, v0, vb, rfl, q0, q1, q2, hv, hg⟩ := HC.out k hlt
      have q0' := (hb.cell (p := ⟨g, k * 3, none⟩) hg).trans q0
      have q1' := (hb.cell (p := ⟨g, k * 3 + 1, none⟩) hg).trans q1
      have q2' := (hb.cell (p := ⟨g, k * 3 + 2, none⟩) hg).trans q2
      obtain ⟨sa, sc, hsf⟩ := hv.1.form
      obtain ⟨ta, tc, htf⟩ := hv.2.form
      have hcall := derived1_any rs[k] x v0 vb B wr ((hb.block B hBl).trans HB.out) _ _ _ _ _ _ hsf htf
      rw [hsf] at hcall q1'
      rw [htf] at hcall q2'
      have i1 : (k : Int) < (rs.length : Int) := by omega
      generalize hbb : headB x rs[k] = bb at *
      have HBB : Hid (headB x rs[k] = bb) := hbb
      clear hbb q0 q1 q2 hv hsf htf
      generalize (rs[k]).head.rel = rel at *
      generalize (rs[k]).head.args.length = m1 at *
      generalize (rs[k]).body.length = m2 at *
      cases bb with
      | true =>
        go_wp2_with fail
        refine hcall.mono ?_
        rintro e w1 ⟨rfl, hb1⟩
        go_wp2
        go_ret
        refine ⟨k, rfl, ?_, hb.trans (hb1.mono hb.size)⟩
        have h1 : derB rs x = true := by
          unfold derB; rw [List.any_eq_true]; exact ⟨rs[k], List.getElem_mem hlt, HBB.out⟩
        rw [h1]; simp
      | false =>
        go_wp2_with fail
        refine hcall.mono ?_
        rintro e w1 ⟨rfl, hb1⟩
        go_wp2
        go_roundw
        case rel =>
          refine ⟨k + 1, by omega, by go_num, ?_, hb.trans (hb1.mono hb.size)⟩
          intro j hj hjk
          by_cases e : j = k
          · subst e; exact HBB.out
          · exact hno.out j hj (by omega)
        case measure => simp [intOf]; omega
    · go_wp2
      go_ret
      refine ⟨-1, rfl, ?_, hb⟩
      unfold derB; rw [any_upto _ _ (fun j hj => hno.out j hj (by omega))]; rfl

set_option maxHeartbeats 400000 in
theorem isDerived_any (v : Value) (rs : List Rl) (x : ByteArray) (base b45 b87 : Nat) (w : World) (hR : RulesAt w base b45 b87 v rs) (hrow : ∀ g, v.ownBlock = some g → g < w.heap.size) (h8 : rs.length ≤ 8) :
    Calls Tryz.prog 41 #[v, .string x] w fun e w' => e = .returned (.bool (derB rs x)) ∧ Below w.heap.size w w' := by
  have hb0 : ∀ O, Below w.heap.size w (w.alloc O) := fun O => (Below.refl _ w).alloc (Nat.le_refl _) _
  have hI : Hid (Calls Tryz.prog 101 #[v, .func (.func 80) #[] #[.pointer (some ⟨w.heap.size, 0, none⟩)]] (w.alloc (.cells #[.string x] 9)) fun e w' => ∃ i : Int, e = .returned (.int .i64 i) ∧ decide (0 ≤ i) = derB rs x ∧ Below (w.alloc (.cells #[.string x] 9)).heap.size (w.alloc (.cells #[.string x] 9)) w') :=
    idxDer_any v rs x w.heap.size base b45 b87 _ (World.alloc_heap_new w _) (RulesAt.rk hR (RuleKept.ofBelow (hb0 _))) (fun g hg => by have := hrow g hg; simp; omega) h8
  obtain ⟨xa, xc, rfl⟩ := hR.form
  have HC : Hid (Calls Tryz.prog 79 #[.slice xa rs.length xc, .func (.func 80) #[] #[.pointer (some ⟨w.heap.size, 0, none⟩)]] (w.alloc (.cells #[.string x] 9)) fun e w' => e = .returned (.bool (derB rs x)) ∧ Below (w.alloc (.cells #[.string x] 9)).heap.size (w.alloc (.cells #[.string x] 9)) w') := by
    clear hR hrow hb0
    show Calls _ _ _ _ _
    generalize (w.alloc (.cells #[.string x] 9)) = W at *
    go_enter Tryz.func79, Tryz.ntmps79
    go_wp2_with fail
    refine Calls.mono hI.out ?_
    rintro e w1 ⟨i, rfl, hr, hb1⟩
    have HR : Hid _ := hr
    clear hr
    go_wp2
    go_ret
    exact ⟨ret_bool (by rw [← HR.out]), hb1⟩
  clear hI hR hrow
  go_enter Tryz.func41, Tryz.ntmps41
  go_wp2_with (go_at_call 79; refine Calls.mono HC.out ?_; rintro e w1 ⟨rfl, hb1⟩)
  go_ret
  exact ⟨rfl, (hb0 _).trans (hb1.mono (by simp))⟩

end Go.Proofs.YtjajnhemgphefaaGreatDoor

namespace Go.Proofs.YtjajnhemgphefaaGreatDoor
open Go.RowKit Go.Shelf
set_option linter.unusedVariables false
set_option linter.unusedSimpArgs false
attribute [local go_sem] Oper.semAt_some

theorem valuesT_any (v : Value) (w : World) (ta : Option Addr) (tn tc : Nat) (hva : v = .slice ta tn tc) :
    Calls Tryz.prog 84 #[v] w fun e w' => e = .returned (.func (.func 144) #[] #[.pointer (some ⟨w.heap.size, 0, none⟩)]) ∧ w' = w.alloc (.cells #[v] 90) := by
  subst hva
  go_enter Tryz.func84, Tryz.ntmps84
  go_wp2
  go_ret
  exact ⟨rfl, rfl⟩

set_option maxRecDepth 100000 in
set_option maxHeartbeats 1000000 in
theorem valuesT_seq (Bs b : Nat) (v : Value) (xs : List Tm) (w : World) (hbox : w.heap[Bs]? = some (Obj.cells #[v] 90 (0, 0))) (hown : SealT w b v xs) (hl : xs.length ≤ 1000) :
    SeqN 7 144 #[.pointer (some ⟨Bs, 0, none⟩)] (fun t : Tm => #[.agg #[.string t.name, .int .i64 t.num]]) (ArgKept (w.heap.size + 2)) (fun ys => ys = xs) (fun _ => True) xs.length w := by
  obtain ⟨n, hn, hn7⟩ : ∃ n, 6 ≤ n ∧ n = 7 := ⟨7, by omega, rfl⟩
  rw [← hn7]
  clear hn7
  have n1 : 1 ≤ n := by omega
  intro l J Jx W hW hsz hJ hJx hY h0
  generalize w.heap.size + 2 = m at *
  have hbW := (hW.block Bs (Array.getElem?_eq_some_iff.1 hbox).1).trans hbox
  have howW := hown.rk (RuleKept.ofBelow hW)
  clear hbox hown hW
  obtain ⟨va, vc, rfl⟩ := howW.form
  have c0 : W.cell? ⟨Bs, 0, none⟩ = some (.slice va xs.length vc) := by simp [World.cell?, hbW]
  have HY : Hid _ := hY
  have HJ : Hid (OwnFrom W.heap.size J) := hJ
  have HJx : Hid (OwnFrom W.heap.size Jx) := hJx
  clear hY hJ hJx
  refine callsIn_of_wp_marks Tryz.func144 rfl trivial ?_ rfl
  simp only [Tryz.ntmps144, List.size_toArray, List.length_cons, List.length_nil, Nat.reduceAdd, Nat.reduceSub, Array.replicate_succ, Array.replicate_zero, List.push_toArray, List.append_toArray, List.nil_append, List.cons_append]
  gi_wp2
  refine wpIn_loop (fun A V => ∃ (k : Nat) (u4 u8 u9 u10 u11 u12 u13 u14 u15 : Value), A = { tmps := #[.func (.yield l) #[] #[], .pointer (some ⟨Bs, 0, none⟩), undef, undef, u4, .slice va xs.length vc, .int .i64 xs.length, .int .i64 k, u8, u9, u10, u11, u12, u13, u14, u15], defers := [] } ∧ k ≤ xs.length ∧ J (xs.take k) V ∧ ArgKept m W V) (fun A _ => xs.length - (intOf (A.tmps.getD 7 undef)).toNat) ⟨0, _, _, _, _, _, _, _, _, _, rfl, Nat.zero_le _, by simpa using h0, ArgKept.ofBelow (Below.refl _ _)⟩ ?_
  rintro A V ⟨k, u4, u8, u9, u10, u11, u12, u13, u14, u15, rfl, hk, hJk, hLk⟩
  by_cases hlt : k < xs.length
  · have hoV : SealT V b (.slice va xs.length vc) xs := howW.rk hLk.rule
    obtain ⟨g, c, e0, x0, x1, hgl⟩ := seal_cell hoV hlt
    cases e0
    have hal : ∀ O, Below V.heap.size V (V.alloc O) := fun O => (Below.refl _ V).alloc (Nat.le_refl _) O
    have hspec : Hid (xs.take (k + 1) = xs.take k ++ [xs[k]]) := by show _ = _; rw [List.take_succ_eq_append_getElem hlt]
    obtain ⟨fn, tmps, assign, body, hy, hR⟩ := HY.out (xs.take k) xs[k] (V.alloc (.cells #[.string (xs[k]).name, .int .i64 (xs[k]).num] 166)) (HJ.out _ _ _ none hJk (below_grownBy (hal _)) (fun r e => by cases e)) (by simp; omega)
    generalize hxk : xs[k] = xk at *
    have HLK : Hid _ := hLk
    have HB : Hid _ := hal
    clear hoV howW hal hLk hxk
    gi_wp2
    refine hR.mono ?_
    rintro e W1 (⟨rfl, hJ1, hk1⟩ | ⟨rfl, hJx1, _⟩)
    · clear hy hR
      gi_wp2
      refine ⟨⟨k + 1, _, _, _, _, _, _, _, _, _, rfl, by omega, by rw [hspec.out]; exact hJ1, (ArgKept.tr HLK.out (ArgKept.ofBelow (HB.out _))).tr hk1⟩, ?_⟩
      simp [intOf]; omega
    · clear hy hR
      gi_wp2
      exact ⟨_, results_none rfl _ _ _, ⟨_, rfl⟩, .inr ⟨_, trivial, hJx1⟩⟩
  · have hkl : k = xs.length := by omega
    subst hkl
    rw [List.take_length] at hJk
    gi_wp2
    exact ⟨_, results_none rfl _ _ _, ⟨_, rfl⟩, .inl ⟨xs, rfl, hJk⟩⟩

set_option maxRecDepth 100000 in
set_option maxHeartbeats 1000000 in
theorem addNames_seq (gf : Nat) (lb : Array Value) (ts : List Tm) (Sp : List Tm → Prop) (C : Nat) (v : Value) (vs : List ByteArray) (base : Nat) (w : World)
    (eg : ∀ args w, (callFunc gf args).run Tryz.prog w = .ok (.enter gf args) w)
    (hseq : ∀ O, SeqN 7 gf lb (fun t : Tm => #[.agg #[.string t.name, .int .i64 t.num]]) (ArgKept ((w.alloc O).heap.size + 2)) (fun ys => ys = ts) Sp C (w.alloc O)) (hC : C ≤ 40)
    (hown : w.ownsRow base 9 1 v vs.length (vs.map Value.string)) (hbw : base ≤ w.heap.size) (hvl : vs.length ≤ 900) :
    Calls Tryz.prog 76 #[v, .func (.func gf) #[] lb] w fun e w' => ∃ v', e = .returned v' ∧ w'.ownsRow base 9 1 v' (nmL vs ts).length ((nmL vs ts).map Value.string) ∧ StrOnly base w w' := by
  obtain ⟨va0, vc0, hvf⟩ := owns_form hown
  obtain ⟨N, hN⟩ : ∃ N, w.heap.size = N := ⟨_, rfl⟩
  obtain ⟨i0, hi, hz0, hz1, hz2⟩ := info_parts Tryz.info9
  rw [hvf] at hown ⊢
  refine (callsIn_wide (n := 8)).1 ?_
  refine callsIn_of_wp_marks Tryz.func76 rfl trivial ?_ rfl
  simp only [Tryz.ntmps76, List.size_toArray, List.length_cons, List.length_nil, Nat.reduceAdd, Nat.reduceSub, Array.replicate_succ, Array.replicate_zero, List.push_toArray, List.append_toArray, List.nil_append, List.cons_append]
  gi_wp2
  obtain ⟨W0, hW0⟩ : ∃ W0, w.alloc (.cells #[.slice va0 vs.length vc0] 22) = W0 := ⟨_, rfl⟩
  have hb0 : Below w.heap.size w W0 := by rw [← hW0]; exact (Below.refl _ w).alloc (Nat.le_refl _) _
  have hs0 : W0.heap.size = N + 1 := by rw [← hW0, ← hN]; simp
  have bV : Boxed W0 N 22 (.slice va0 vs.length vc0) := by
    have := Boxed.new w 22 (.slice va0 vs.length vc0)
    rw [hN, hW0] at this; exact this
  have hsq := hseq (.cells #[.slice va0 vs.length vc0] 22)
  rw [hW0] at hsq
  have hown0 := own_below hown hb0
  have hso0 : StrOnly base w W0 := by rw [← hW0]; exact (StrOnly.refl base w).alloc _
  (try simp only [hN])
  rw [hW0]
  clear hW0 hseq
  refine range_law (n := 8) (gf := gf) (lb := lb) rfl eg
    hsq ArgKept.tr (fun V o o' ho hc => ArgKept.put V _ o o' (by omega) ho hc) (fun _ => rfl)
    (fun pre V => ∃ v, Boxed V N 22 v ∧ V.ownsRow base 9 1 v (nmL vs pre).length ((nmL vs pre).map Value.string) ∧ StrOnly base w V)
    (fun _ _ _ => False)
    ?hI (fun _ _ _ _ _ h _ _ => h) ⟨_, bV, hown0, hso0⟩
    (fun t a' V => ∃ Bx, V.heap[Bx]? = some (Obj.cells #[.string t.name, .int .i64 t.num] 166 (0, 0)) ∧ a' = { tmps := #[.slice va0 vs.length vc0, .func (.func gf) #[] lb, .pointer (some ⟨N, 0, none⟩), undef, .slice none 0 0, .pointer (some ⟨Bx, 0, none⟩), .func (.func gf) #[] lb, .agg #[.string t.name, .int .i64 t.num], undef, undef, undef, undef, undef, undef, undef, undef, undef, undef, undef, undef, undef, undef, undef, undef], defers := [] })
    ?hAx ?assign ?body ?done (fun _ _ _ _ _ _ h _ => h.elim)
  case hI =>
    rintro pre V V' row ⟨v, h1, h2, h3⟩ hg hr
    have hk := kept_of_grown hg (fun r e => (hr r e).2)
    exact ⟨v, hk _ _ _ _ h1, owns_kept h2 (fun g c _ hc => hk g c _ _ hc), h3.grown hg (fun k e => .inl (by have := (hr k e).1; omega))⟩
  case hAx =>
    rintro x a' _ V V' row ⟨Bx, h2, h3⟩ hg hr
    exact ⟨Bx, kept_of_grown hg (fun r e => (hr r e).2) _ _ _ _ h2, h3⟩
  case assign =>
    rintro l' pre t V K hl hlr ⟨v, h1, h2, h3⟩ hK
    have HK : Hid _ := hK
    clear hK
    gi_wp2
    have hbl : Below V.heap.size V (V.alloc (.cells #[.string t.name, .int .i64 t.num] 166)) := (Below.refl _ V).alloc (Nat.le_refl _) _
    exact HK.out _ _ (KeepsFrom.ofBelow hbl) (ArgKept.ofBelow hbl) ⟨v, h1.alloc _, h2.alloc _, h3.alloc _⟩ ⟨V.heap.size, World.alloc_heap_new V _, rfl⟩
  case done =>
    rintro D xs V hD rfl ⟨v, h1, h2, h3⟩ hK
    have c1 := h1.cell
    gi_wp2
    refine ⟨by simp, .inl ⟨_, _, rfl, run_takeDeferred hK, ?_⟩⟩
    have hk := kept_of_grown (grownBy_putObj' V D (.deferred none)) (fun r e => by cases e; exact ⟨_, hK, rfl⟩)
    refine ⟨_, results_tmp rfl _ _ _, v, rfl, owns_kept h2 (fun g c _ hc => hk g c _ _ hc), ?_⟩
    exact h3.grown (grownBy_putObj' V D (.deferred none)) (fun k e => .inl (by cases e; omega))
  case body =>
    rintro l' pre t a' V hl' ⟨r, hr⟩ ⟨v, h1, h2, h3⟩ ⟨Bx, hbx, rfl⟩ hlt
    have hvl2 := nmL_le pre vs
    have hl10 : (nmL vs pre).length ≤ 950 := by omega
    have hN1 : N ≤ V.heap.size := by have := h3.size; omega
    have hBxlt : Bx < V.heap.size := (Array.getElem?_eq_some_iff.1 hbx).1
    have c0 : V.cell? ⟨Bx, 0, none⟩ = some (.string t.name) := by simp [World.cell?, hbx]
    have c1 : V.cell? ⟨Bx, 1, none⟩ = some (.int .i64 t.num) := by simp [World.cell?, hbx]
    have hsn := nmL_snoc vs pre t
    have hiv := isVariable_any t V
    obtain ⟨va, vc, rfl⟩ := owns_form h2
    have hcs := contains_seen (nmL vs pre) t.name
    generalize hvs : nmL vs pre = us at *
    have HS : Hid (nmL vs (pre ++ [t]) = nmStep us t) := hsn
    clear hsn hvs
    cases htv : t.name.toList.isEmpty with
    | true =>
      rw [htv] at hiv
      have hfin : Hid (nmL vs (pre ++ [t]) = us) := by show _ = _; rw [HS.out]; unfold nmStep; rw [if_pos htv]
      clear htv
      gi_wp2_with (refine ⟨trivial, ?_⟩; gi_at_call 139; refine (CallsIn.inRound l' (callsIn_wide.2 hiv)).mono ?_; rintro e V1 ⟨rfl, hb1⟩)
      refine ⟨trivial, ?_⟩
      gi_wp2
      refine ⟨KeepsFrom.ofBelow hb1, ArgKept.ofBelow hb1, .slice va us.length vc, ?_, ?_, ?_⟩
      · exact (hb1.block _ h1.lt).trans h1
      · rw [hfin.out]; exact own_below h2 hb1
      · exact h3.trans (StrOnly.ofBelow hb1)
    | false =>
      rw [htv] at hiv
      have HIV : Hid _ := hiv
      have hst : Hid (nmStep us t = seenL us t.name) := by show _ = _; unfold nmStep; rw [if_neg (by simp [htv])]
      clear htv hiv
      have hafter : Hid (∀ V1, Below V.heap.size V V1 → Boxed V1 N 22 (.slice va us.length vc) ∧ V1.ownsRow base 9 1 (.slice va us.length vc) us.length (us.map Value.string) ∧ V1.cell? ⟨Bx, 0, none⟩ = some (.string t.name) ∧ StrOnly base w V1) := fun V1 hb1 =>
        ⟨(hb1.block _ h1.lt).trans h1, own_below h2 hb1, (hb1.cell (p := ⟨Bx, 0, none⟩) hBxlt).trans c0, h3.trans (StrOnly.ofBelow hb1)⟩
      cases hct : Lib.containsS us t.name with
      | true =>
        have hfin : Hid (nmL vs (pre ++ [t]) = us) := by
          show _ = _; rw [HS.out, hst.out]; unfold seenL; rw [if_pos (by rw [hct] at hcs; simpa using hcs.symm)]
        have HCT : Hid _ := hct
        clear hct hcs h1 h2 h3
        gi_wp2_with (first | (refine ⟨trivial, ?_⟩; gi_at_call 139; refine (CallsIn.inRound l' (callsIn_wide.2 HIV.out)).mono ?_; rintro e V1 ⟨rfl, hb1⟩; obtain ⟨k1, k2, k3, k4⟩ := hafter.out V1 hb1; have kc := k1.cell) | (refine ⟨trivial, ?_⟩; gi_at_call 140; refine (CallsIn.inRound l' (callsIn_wide.2 (contains_own k2 (by omega) t.name))).mono ?_; rintro e w' ⟨rfl, hw'⟩; obtain rfl : V1 = w' := hw'.symm; rw [HCT.out]))
        exact ⟨KeepsFrom.ofBelow hb1, ArgKept.ofBelow hb1, _, k1, by rw [hfin.out]; exact k2, k4⟩
      | false =>
        have hfin : Hid (nmL vs (pre ++ [t]) = us ++ [t.name]) := by
          show _ = _; rw [HS.out, hst.out]; unfold seenL; rw [if_neg (by rw [hct] at hcs; simpa using hcs.symm)]
        have HCT : Hid _ := hct
        clear hct hcs h1 h2 h3
        have hb1' : us.length + 1 ≤ maxLen := by unfold maxLen; omega
        have hb2' : (us.length + 1) * 16 ≤ 140737488355328 := by omega
        have hVN : Hid (∀ V1 w1, Below V.heap.size V V1 → (V1.alloc (.cells #[.string t.name] 9)).grownBy w1 (Value.slice va us.length vc).ownBlock → Boxed w1 N 22 (.slice va us.length vc) ∧ Chg V1 w1 (fun j => some j = (Value.slice va us.length vc).ownBlock)) := by
          intro V1 w1 hb1 hg
          obtain ⟨k1, k2, k3, k4⟩ := hafter.out V1 hb1
          have hc : Chg V1 w1 (fun j => some j = (Value.slice va us.length vc).ownBlock) := ((Chg.refl V1 _).alloc _).grown hg (fun k e _ => e.symm)
          exact ⟨(hc.block _ k1.lt (fun e => owns_ne k2 k1 (by decide) _ e.symm rfl)).trans k1, hc⟩
        have hbb : Hid (∀ V1, Below V.heap.size V V1 → base ≤ (V1.alloc (.cells #[.string t.name] 9)).heap.size) := fun V1 hb1 => by
          have := hb1.size
          show base ≤ _
          simp; omega
        gi_wp2_with (first | (refine ⟨trivial, ?_⟩; gi_at_call 139; refine (CallsIn.inRound l' (callsIn_wide.2 HIV.out)).mono ?_; rintro e V1 ⟨rfl, hb1⟩; obtain ⟨k1, k2, k3, k4⟩ := hafter.out V1 hb1; have kc := k1.cell) | (refine ⟨trivial, ?_⟩; gi_at_call 140; refine (CallsIn.inRound l' (callsIn_wide.2 (contains_own k2 (by omega) t.name))).mono ?_; rintro e w' ⟨rfl, hw'⟩; obtain rfl : V1 = w' := hw'.symm; rw [HCT.out]) | (gi_at_builtin; refine wpListIn_append_own _ rfl _ _ 22 rfl base 9 i0 (.string ⟨#[]⟩) 1 16 Tryz.underlying22 hi hz0 hz1 hz2 rfl (by decide) _ _ _ rfl (World.ownsRow.alloc k2 _) ⟨V1.heap.size, 0, none⟩ 1 1 [.string t.name] rfl rfl (cell_one_new _ _ _) (by simp [Value.oneCell']) hb1' hb2' (hbb.out V1 hb1) ?_; intro v' w1 hown1 hgrow1 _; obtain ⟨g', cap', hv'⟩ := ownsRow_succ hown1; subst hv'; obtain ⟨hbx1, hch1⟩ := hVN.out V1 w1 hb1 hgrow1; have cc := hbx1.cell; have ff := hbx1.frozen))
        have hch2 : Chg V1 (w1.setCell ⟨N, 0, none⟩ (.slice (some ⟨g', 0, none⟩) (us.length + 1) cap')) (fun j => j = N ∨ some j = (Value.slice va us.length vc).ownBlock) := (hch1.mono (fun _ _ e => .inr e)).setCell ⟨N, 0, none⟩ _ (fun _ => .inl rfl)
        obtain ⟨hkf, hak⟩ := keeps_ofChg (m := W0.heap.size) hch2 (fun j hj hx => by
          rcases hx with rfl | hx
          · exact ⟨_, _, k1, by decide, by decide, by decide, by decide⟩
          · obtain ⟨_, c, hc⟩ := owns_block k2 hx.symm; exact ⟨c, _, hc, by decide, by decide, by decide, by decide⟩)
        refine ⟨KeepsFrom.trans (KeepsFrom.ofBelow hb1) hkf, (ArgKept.ofBelow hb1).tr (hak _), _, boxed_set hbx1 _, ?_, ?_⟩
        · rw [hfin.out]
          have := owns_set hown1 ⟨N, 0, none⟩ (.slice (some ⟨g', 0, none⟩) (us.length + 1) cap') (owns_ne hown1 hbx1 (by decide))
          simpa using this
        · exact (k4.alloc _ |>.grown hgrow1 (fun j e => by
            obtain ⟨hbj, d, hd⟩ := owns_block k2 e
            exact .inr ⟨hbj, d, _, (Below.heap_alloc _ _ _ (Array.getElem?_eq_some_iff.1 hd).1).trans hd⟩)).setCell (Nat.le_of_eq hN) _

end Go.Proofs.YtjajnhemgphefaaGreatDoor
