/-
  rules: IsDerived.
  rules.AddNames over any terms; slices.Values of terms.
  rules: ReadName.
-/
import Derived.Test.YtjajnhemgphefaaGreatDoorJdEgC
namespace Go.Proofs.YtjajnhemgphefaaGreatDoor
open Go.RowKit Go.Shelf
set_option linter.unusedVariables false
set_option linter.unusedSimpArgs false

/-- Is a relation the head of some rule? -/
def headB (x : ByteArray) (r : Rl) : Bool := r.head.rel.toList == x.toList
def derB (rs : List Rl) (x : ByteArray) : Bool := rs.any (headB x)

set_option maxHeartbeats 1000000 in
theorem derived1_any (r : Rl) (x : ByteArray) (v0 vb : Value) (B : Nat) (w : World) (hB : w.heap[B]? = some (Obj.cells #[.string x] 9 (0, 0))) (fa ga : Option Addr) (fn fc gn gc : Nat) (hf : v0 = .slice fa fn fc) (hg : vb = .slice ga gn gc) :
    Calls Tryz.prog 80 #[.agg #[.string r.head.rel, v0, vb], .pointer (some ⟨B, 0, none⟩)] w fun e w' => e = .returned (.bool (headB x r)) ∧ Below w.heap.size w w' := by
  subst hf hg
  have hlt := (Array.getElem?_eq_some_iff.1 hB).1
  have hne : B ≠ w.heap.size := by omega
  have c0 : w.cell? ⟨B, 0, none⟩ = some (.string x) := by simp [World.cell?, hB]
  go_enter Tryz.func80, Tryz.ntmps80
  go_wp2
  go_ret
  exact ⟨rfl, by first | exact Below.refl _ _ | exact (Below.refl _ w).alloc (Nat.le_refl _) _⟩

set_option maxHeartbeats 1000000 in
theorem idxDer_any (v : Value) (rs : List Rl) (x : ByteArray) (B base b45 b87 : Nat) (w : World) (hB : w.heap[B]? = some (Obj.cells #[.string x] 9 (0, 0))) (hR : RulesAt w base b45 b87 v rs) (hrow : ∀ g, v.ownBlock = some g → g < w.heap.size) (h8 : rs.length ≤ 8) :
    Calls Tryz.prog 101 #[v, .func (.func 80) #[] #[.pointer (some ⟨B, 0, none⟩)]] w fun e w' => ∃ i : Int, e = .returned (.int .i64 i) ∧ decide (0 ≤ i) = derB rs x ∧ Below w.heap.size w w' := by
  obtain ⟨a, c, hform⟩ := hR.form
  have hcell : ∀ k (hk : k < rs.length), ∃ g v0 vb, a = some ⟨g, 0, none⟩ ∧ w.cell? ⟨g, k * 3, none⟩ = some (.string (rs[k]).head.rel) ∧ w.cell? ⟨g, k * 3 + 1, none⟩ = some v0 ∧ w.cell? ⟨g, k * 3 + 2, none⟩ = some vb ∧ RuleV w b45 b87 rs[k] v0 vb ∧ g < w.heap.size := by
    intro k hk
    obtain ⟨g, c', v0, vb, h1, h2, h3, h4, h5⟩ := rules_cell hR hk
    have hg := hrow g (by rw [h1]; rfl)
    rw [hform] at h1; cases h1
    exact ⟨g, v0, vb, rfl, h2, h3, h4, h5, hg⟩
  subst hform
  have HC : Hid _ := hcell
  have HB : Hid _ := hB
  have hBl := (Array.getElem?_eq_some_iff.1 hB).1
  clear hcell hR hrow hB
  go_enter Tryz.func101, Tryz.ntmps101
  go_wp2
  go_loopw [8] (fun i wr => ∃ k : Nat, k ≤ rs.length ∧ i = .int .i64 k ∧ Hid (∀ j, (hj : j < rs.length) → j < k → headB x rs[j] = false) ∧ Below w.heap.size w wr) (fun i _ => rs.length - (intOf i).toNat)
  case atStart => exact ⟨0, Nat.zero_le _, rfl, fun j _ hj => by omega, Below.refl _ _⟩
  case round =>
    obtain ⟨k, hk, rfl, hno, hb⟩ := hrel
    by_cases hlt : k < rs.length
    · obtain ⟨g, v0, vb, rfl, q0, q1, q2, hv, hg⟩ := HC.out k hlt
      have q0' := (hb.cell (p := ⟨g, k * 3, none⟩) hg).trans q0
      have q1' := (hb.cell (p := ⟨g, k * 3 + 1, none⟩) hg).trans q1
      have q2' := (hb.cell (p := ⟨g, k * 3 + 2, none⟩) hg).trans q2
      obtain ⟨sa, sc, hsf⟩ := hv.1.form
      obtain ⟨ta, tc, htf⟩ := hv.2.form
      have hcall := derived1_any rs[k] x v0 vb B wr ((hb.block B hBl).trans HB.out) _ _ _ _ _ _ hsf htf
      rw [hsf] at hcall q1'
      rw [htf] at hcall q2'
      have i1 : (k : Int) < (rs.length : Int) := by omega
      generalize hbb : headB x rs[k] = bb at *
      have HBB : Hid (headB x rs[k] = bb) := hbb
      clear hbb q0 q1 q2 hv hsf htf
      generalize (rs[k]).head.rel = rel at *
      generalize (rs[k]).head.args.length = m1 at *
      generalize (rs[k]).body.length = m2 at *
      cases bb with
      | true =>
        go_wp2_with fail
        refine hcall.mono ?_
        rintro e w1 ⟨rfl, hb1⟩
        go_wp2
        go_ret
        refine ⟨k, rfl, ?_, hb.trans (hb1.mono hb.size)⟩
        have h1 : derB rs x = true := by
          unfold derB; rw [List.any_eq_true]; exact ⟨rs[k], List.getElem_mem hlt, HBB.out⟩
        rw [h1]; simp
      | false =>
        go_wp2_with fail
        refine hcall.mono ?_
        rintro e w1 ⟨rfl, hb1⟩
        go_wp2
        go_roundw
        case rel =>
          refine ⟨k + 1, by omega, by go_num, ?_, hb.trans (hb1.mono hb.size)⟩
          intro j hj hjk
          by_cases e : j = k
          · subst e; exact HBB.out
          · exact hno.out j hj (by omega)
        case measure => simp [intOf]; omega
    · go_wp2
      go_ret
      refine ⟨-1, rfl, ?_, hb⟩
      unfold derB; rw [any_upto _ _ (fun j hj => hno.out j hj (by omega))]; rfl

set_option maxHeartbeats 400000 in
theorem isDerived_any (v : Value) (rs : List Rl) (x : ByteArray) (base b45 b87 : Nat) (w : World) (hR : RulesAt w base b45 b87 v rs) (hrow : ∀ g, v.ownBlock = some g → g < w.heap.size) (h8 : rs.length ≤ 8) :
    Calls Tryz.prog 41 #[v, .string x] w fun e w' => e = .returned (.bool (derB rs x)) ∧ Below w.heap.size w w' := by
  have hb0 : ∀ O, Below w.heap.size w (w.alloc O) := fun O => (Below.refl _ w).alloc (Nat.le_refl _) _
  have hI : Hid (Calls Tryz.prog 101 #[v, .func (.func 80) #[] #[.pointer (some ⟨w.heap.size, 0, none⟩)]] (w.alloc (.cells #[.string x] 9)) fun e w' => ∃ i : Int, e = .returned (.int .i64 i) ∧ decide (0 ≤ i) = derB rs x ∧ Below (w.alloc (.cells #[.string x] 9)).heap.size (w.alloc (.cells #[.string x] 9)) w') :=
    idxDer_any v rs x w.heap.size base b45 b87 _ (World.alloc_heap_new w _) (RulesAt.rk hR (RuleKept.ofBelow (hb0 _))) (fun g hg => by have := hrow g hg; simp; omega) h8
  obtain ⟨xa, xc, rfl⟩ := hR.form
  have HC : Hid (Calls Tryz.prog 79 #[.slice xa rs.length xc, .func (.func 80) #[] #[.pointer (some ⟨w.heap.size, 0, none⟩)]] (w.alloc (.cells #[.string x] 9)) fun e w' => e = .returned (.bool (derB rs x)) ∧ Below (w.alloc (.cells #[.string x] 9)).heap.size (w.alloc (.cells #[.string x] 9)) w') := by
    clear hR hrow hb0
    show Calls _ _ _ _ _
    generalize (w.alloc (.cells #[.string x] 9)) = W at *
    go_enter Tryz.func79, Tryz.ntmps79
    go_wp2_with fail
    refine Calls.mono hI.out ?_
    rintro e w1 ⟨i, rfl, hr, hb1⟩
    have HR : Hid _ := hr
    clear hr
    go_wp2
    go_ret
    exact ⟨ret_bool (by rw [← HR.out]), hb1⟩
  clear hI hR hrow
  go_enter Tryz.func41, Tryz.ntmps41
  go_wp2_with (go_at_call 79; refine Calls.mono HC.out ?_; rintro e w1 ⟨rfl, hb1⟩)
  go_ret
  exact ⟨rfl, (hb0 _).trans (hb1.mono (by simp))⟩

end Go.Proofs.YtjajnhemgphefaaGreatDoor

namespace Go.Proofs.YtjajnhemgphefaaGreatDoor
open Go.RowKit Go.Shelf
set_option linter.unusedVariables false
set_option linter.unusedSimpArgs false
attribute [local go_sem] Oper.semAt_some

theorem valuesT_any (v : Value) (w : World) (ta : Option Addr) (tn tc : Nat) (hva : v = .slice ta tn tc) :
    Calls Tryz.prog 84 #[v] w fun e w' => e = .returned (.func (.func 144) #[] #[.pointer (some ⟨w.heap.size, 0, none⟩)]) ∧ w' = w.alloc (.cells #[v] 90) := by
  subst hva
  go_enter Tryz.func84, Tryz.ntmps84
  go_wp2
  go_ret
  exact ⟨rfl, rfl⟩

set_option maxRecDepth 100000 in
set_option maxHeartbeats 1000000 in
theorem valuesT_seq (Bs b : Nat) (v : Value) (xs : List Tm) (w : World) (hbox : w.heap[Bs]? = some (Obj.cells #[v] 90 (0, 0))) (hown : SealT w b v xs) (hl : xs.length ≤ 1000) :
    SeqN 7 144 #[.pointer (some ⟨Bs, 0, none⟩)] (fun t : Tm => #[.agg #[.string t.name, .int .i64 t.num]]) (ArgKept (w.heap.size + 2)) (fun ys => ys = xs) (fun _ => True) xs.length w := by
  obtain ⟨n, hn, hn7⟩ : ∃ n, 6 ≤ n ∧ n = 7 := ⟨7, by omega, rfl⟩
  rw [← hn7]
  clear hn7
  have n1 : 1 ≤ n := by omega
  intro l J Jx W hW hsz hJ hJx hY h0
  generalize w.heap.size + 2 = m at *
  have hbW := (hW.block Bs (Array.getElem?_eq_some_iff.1 hbox).1).trans hbox
  have howW := hown.rk (RuleKept.ofBelow hW)
  clear hbox hown hW
  obtain ⟨va, vc, rfl⟩ := howW.form
  have c0 : W.cell? ⟨Bs, 0, none⟩ = some (.slice va xs.length vc) := by simp [World.cell?, hbW]
  have HY : Hid _ := hY
  have HJ : Hid (OwnFrom W.heap.size J) := hJ
  have HJx : Hid (OwnFrom W.heap.size Jx) := hJx
  clear hY hJ hJx
  refine callsIn_of_wp_marks Tryz.func144 rfl trivial ?_ rfl
  simp only [Tryz.ntmps144, List.size_toArray, List.length_cons, List.length_nil, Nat.reduceAdd, Nat.reduceSub, Array.replicate_succ, Array.replicate_zero, List.push_toArray, List.append_toArray, List.nil_append, List.cons_append]
  gi_wp2
  refine wpIn_loop (fun A V => ∃ (k : Nat) (u4 u8 u9 u10 u11 u12 u13 u14 u15 : Value), A = { tmps := #[.func (.yield l) #[] #[], .pointer (some ⟨Bs, 0, none⟩), undef, undef, u4, .slice va xs.length vc, .int .i64 xs.length, .int .i64 k, u8, u9, u10, u11, u12, u13, u14, u15], defers := [] } ∧ k ≤ xs.length ∧ J (xs.take k) V ∧ ArgKept m W V) (fun A _ => xs.length - (intOf (A.tmps.getD 7 undef)).toNat) ⟨0, _, _, _, _, _, _, _, _, _, rfl, Nat.zero_le _, by simpa using h0, ArgKept.ofBelow (Below.refl _ _)⟩ ?_
  rintro A V ⟨k, u4, u8, u9, u10, u11, u12, u13, u14, u15, rfl, hk, hJk, hLk⟩
  by_cases hlt : k < xs.length
  · have hoV : SealT V b (.slice va xs.length vc) xs := howW.rk hLk.rule
    obtain ⟨g, c, e0, x0, x1, hgl⟩ := seal_cell hoV hlt
    cases e0
    have hal : ∀ O, Below V.heap.size V (V.alloc O) := fun O => (Below.refl _ V).alloc (Nat.le_refl _) O
    have hspec : Hid (xs.take (k + 1) = xs.take k ++ [xs[k]]) := by show _ = _; rw [List.take_succ_eq_append_getElem hlt]
    obtain ⟨fn, tmps, assign, body, hy, hR⟩ := HY.out (xs.take k) xs[k] (V.alloc (.cells #[.string (xs[k]).name, .int .i64 (xs[k]).num] 166)) (HJ.out _ _ _ none hJk (below_grownBy (hal _)) (fun r e => by cases e)) (by simp; omega)
    generalize hxk : xs[k] = xk at *
    have HLK : Hid _ := hLk
    have HB : Hid _ := hal
    clear hoV howW hal hLk hxk
    gi_wp2
    refine hR.mono ?_
    rintro e W1 (⟨rfl, hJ1, hk1⟩ | ⟨rfl, hJx1, _⟩)
    · clear hy hR
      gi_wp2
      refine ⟨⟨k + 1, _, _, _, _, _, _, _, _, _, rfl, by omega, by rw [hspec.out]; exact hJ1, (ArgKept.tr HLK.out (ArgKept.ofBelow (HB.out _))).tr hk1⟩, ?_⟩
      simp [intOf]; omega
    · clear hy hR
      gi_wp2
      exact ⟨_, results_none rfl _ _ _, ⟨_, rfl⟩, .inr ⟨_, trivial, hJx1⟩⟩
  · have hkl : k = xs.length := by omega
    subst hkl
    rw [List.take_length] at hJk
    gi_wp2
    exact ⟨_, results_none rfl _ _ _, ⟨_, rfl⟩, .inl ⟨xs, rfl, hJk⟩⟩

set_option maxRecDepth 100000 in
set_option maxHeartbeats 1000000 in
theorem addNames_seq (gf : Nat) (lb : Array Value) (ts : List Tm) (Sp : List Tm → Prop) (C : Nat) (v : Value) (vs : List ByteArray) (base : Nat) (w : World)
    (eg : ∀ args w, (callFunc gf args).run Tryz.prog w = .ok (.enter gf args) w)
    (hseq : ∀ O, SeqN 7 gf lb (fun t : Tm => #[.agg #[.string t.name, .int .i64 t.num]]) (ArgKept ((w.alloc O).heap.size + 2)) (fun ys => ys = ts) Sp C (w.alloc O)) (hC : C ≤ 40)
    (hown : w.ownsRow base 9 1 v vs.length (vs.map Value.string)) (hbw : base ≤ w.heap.size) (hvl : vs.length ≤ 900) :
    Calls Tryz.prog 76 #[v, .func (.func gf) #[] lb] w fun e w' => ∃ v', e = .returned v' ∧ w'.ownsRow base 9 1 v' (nmL vs ts).length ((nmL vs ts).map Value.string) ∧ StrOnly base w w' := by
  obtain ⟨va0, vc0, hvf⟩ := owns_form hown
  obtain ⟨N, hN⟩ : ∃ N, w.heap.size = N := ⟨_, rfl⟩
  obtain ⟨i0, hi, hz0, hz1, hz2⟩ := info_parts Tryz.info9
  rw [hvf] at hown ⊢
  refine (callsIn_wide (n := 8)).1 ?_
  refine callsIn_of_wp_marks Tryz.func76 rfl trivial ?_ rfl
  simp only [Tryz.ntmps76, List.size_toArray, List.length_cons, List.length_nil, Nat.reduceAdd, Nat.reduceSub, Array.replicate_succ, Array.replicate_zero, List.push_toArray, List.append_toArray, List.nil_append, List.cons_append]
  gi_wp2
  obtain ⟨W0, hW0⟩ : ∃ W0, w.alloc (.cells #[.slice va0 vs.length vc0] 22) = W0 := ⟨_, rfl⟩
  have hb0 : Below w.heap.size w W0 := by rw [← hW0]; exact (Below.refl _ w).alloc (Nat.le_refl _) _
  have hs0 : W0.heap.size = N + 1 := by rw [← hW0, ← hN]; simp
  have bV : Boxed W0 N 22 (.slice va0 vs.length vc0) := by
    have := Boxed.new w 22 (.slice va0 vs.length vc0)
    rw [hN, hW0] at this; exact this
  have hsq := hseq (.cells #[.slice va0 vs.length vc0] 22)
  rw [hW0] at hsq
  have hown0 := own_below hown hb0
  have hso0 : StrOnly base w W0 := by rw [← hW0]; exact (StrOnly.refl base w).alloc _
  (try simp only [hN])
  rw [hW0]
  clear hW0 hseq
  refine range_law (n := 8) (gf := gf) (lb := lb) rfl eg
    hsq ArgKept.tr (fun V o o' ho hc => ArgKept.put V _ o o' (by omega) ho hc) (fun _ => rfl)
    (fun pre V => ∃ v, Boxed V N 22 v ∧ V.ownsRow base 9 1 v (nmL vs pre).length ((nmL vs pre).map Value.string) ∧ StrOnly base w V)
    (fun _ _ _ => False)
    ?hI (fun _ _ _ _ _ h _ _ => h) ⟨_, bV, hown0, hso0⟩
    (fun t a' V => ∃ Bx, V.heap[Bx]? = some (Obj.cells #[.string t.name, .int .i64 t.num] 166 (0, 0)) ∧ a' = { tmps := #[.slice va0 vs.length vc0, .func (.func gf) #[] lb, .pointer (some ⟨N, 0, none⟩), undef, .slice none 0 0, .pointer (some ⟨Bx, 0, none⟩), .func (.func gf) #[] lb, .agg #[.string t.name, .int .i64 t.num], undef, undef, undef, undef, undef, undef, undef, undef, undef, undef, undef, undef, undef, undef, undef, undef], defers := [] })
    ?hAx ?assign ?body ?done (fun _ _ _ _ _ _ h _ => h.elim)
  case hI =>
    rintro pre V V' row ⟨v, h1, h2, h3⟩ hg hr
    have hk := kept_of_grown hg (fun r e => (hr r e).2)
    exact ⟨v, hk _ _ _ _ h1, owns_kept h2 (fun g c _ hc => hk g c _ _ hc), h3.grown hg (fun k e => .inl (by have := (hr k e).1; omega))⟩
  case hAx =>
    rintro x a' _ V V' row ⟨Bx, h2, h3⟩ hg hr
    exact ⟨Bx, kept_of_grown hg (fun r e => (hr r e).2) _ _ _ _ h2, h3⟩
  case assign =>
    rintro l' pre t V K hl hlr ⟨v, h1, h2, h3⟩ hK
    have HK : Hid _ := hK
    clear hK
    gi_wp2
    have hbl : Below V.heap.size V (V.alloc (.cells #[.string t.name, .int .i64 t.num] 166)) := (Below.refl _ V).alloc (Nat.le_refl _) _
    exact HK.out _ _ (KeepsFrom.ofBelow hbl) (ArgKept.ofBelow hbl) ⟨v, h1.alloc _, h2.alloc _, h3.alloc _⟩ ⟨V.heap.size, World.alloc_heap_new V _, rfl⟩
  case done =>
    rintro D xs V hD rfl ⟨v, h1, h2, h3⟩ hK
    have c1 := h1.cell
    gi_wp2
    refine ⟨by simp, .inl ⟨_, _, rfl, run_takeDeferred hK, ?_⟩⟩
    have hk := kept_of_grown (grownBy_putObj' V D (.deferred none)) (fun r e => by cases e; exact ⟨_, hK, rfl⟩)
    refine ⟨_, results_tmp rfl _ _ _, v, rfl, owns_kept h2 (fun g c _ hc => hk g c _ _ hc), ?_⟩
    exact h3.grown (grownBy_putObj' V D (.deferred none)) (fun k e => .inl (by cases e; omega))
  case body =>
    rintro l' pre t a' V hl' ⟨r, hr⟩ ⟨v, h1, h2, h3⟩ ⟨Bx, hbx, rfl⟩ hlt
    have hvl2 := nmL_le pre vs
    have hl10 : (nmL vs pre).length ≤ 950 := by omega
    have hN1 : N ≤ V.heap.size := by have := h3.size; omega
    have hBxlt : Bx < V.heap.size := (Array.getElem?_eq_some_iff.1 hbx).1
    have c0 : V.cell? ⟨Bx, 0, none⟩ = some (.string t.name) := by simp [World.cell?, hbx]
    have c1 : V.cell? ⟨Bx, 1, none⟩ = some (.int .i64 t.num) := by simp [World.cell?, hbx]
    have hsn := nmL_snoc vs pre t
    have hiv := isVariable_any t V
    obtain ⟨va, vc, rfl⟩ := owns_form h2
    have hcs := contains_seen (nmL vs pre) t.name
    generalize hvs : nmL vs pre = us at *
    have HS : Hid (nmL vs (pre ++ [t]) = nmStep us t) := hsn
    clear hsn hvs
    cases htv : t.name.toList.isEmpty with
    | true =>
      rw [htv] at hiv
      have hfin : Hid (nmL vs (pre ++ [t]) = us) := by show _ = _; rw [HS.out]; unfold nmStep; rw [if_pos htv]
      clear htv
      gi_wp2_with (refine ⟨trivial, ?_⟩; gi_at_call 139; refine (CallsIn.inRound l' (callsIn_wide.2 hiv)).mono ?_; rintro e V1 ⟨rfl, hb1⟩)
      refine ⟨trivial, ?_⟩
      gi_wp2
      refine ⟨KeepsFrom.ofBelow hb1, ArgKept.ofBelow hb1, .slice va us.length vc, ?_, ?_, ?_⟩
      · exact (hb1.block _ h1.lt).trans h1
      · rw [hfin.out]; exact own_below h2 hb1
      · exact h3.trans (StrOnly.ofBelow hb1)
    | false =>
      rw [htv] at hiv
      have HIV : Hid _ := hiv
      have hst : Hid (nmStep us t = seenL us t.name) := by show _ = _; unfold nmStep; rw [if_neg (by simp [htv])]
      clear htv hiv
      have hafter : Hid (∀ V1, Below V.heap.size V V1 → Boxed V1 N 22 (.slice va us.length vc) ∧ V1.ownsRow base 9 1 (.slice va us.length vc) us.length (us.map Value.string) ∧ V1.cell? ⟨Bx, 0, none⟩ = some (.string t.name) ∧ StrOnly base w V1) := fun V1 hb1 =>
        ⟨(hb1.block _ h1.lt).trans h1, own_below h2 hb1, (hb1.cell (p := ⟨Bx, 0, none⟩) hBxlt).trans c0, h3.trans (StrOnly.ofBelow hb1)⟩
      cases hct : Lib.containsS us t.name with
      | true =>
        have hfin : Hid (nmL vs (pre ++ [t]) = us) := by
          show _ = _; rw [HS.out, hst.out]; unfold seenL; rw [if_pos (by rw [hct] at hcs; simpa using hcs.symm)]
        have HCT : Hid _ := hct
        clear hct hcs h1 h2 h3
        gi_wp2_with (first | (refine ⟨trivial, ?_⟩; gi_at_call 139; refine (CallsIn.inRound l' (callsIn_wide.2 HIV.out)).mono ?_; rintro e V1 ⟨rfl, hb1⟩; obtain ⟨k1, k2, k3, k4⟩ := hafter.out V1 hb1; have kc := k1.cell) | (refine ⟨trivial, ?_⟩; gi_at_call 140; refine (CallsIn.inRound l' (callsIn_wide.2 (contains_own k2 (by omega) t.name))).mono ?_; rintro e w' ⟨rfl, hw'⟩; obtain rfl : V1 = w' := hw'.symm; rw [HCT.out]))
        exact ⟨KeepsFrom.ofBelow hb1, ArgKept.ofBelow hb1, _, k1, by rw [hfin.out]; exact k2, k4⟩
      | false =>
        have hfin : Hid (nmL vs (pre ++ [t]) = us ++ [t.name]) := by
          show _ = _; rw [HS.out, hst.out]; unfold seenL; rw [if_neg (by rw [hct] at hcs; simpa using hcs.symm)]
        have HCT : Hid _ := hct
        clear hct hcs h1 h2 h3
        have hb1' : us.length + 1 ≤ maxLen := by unfold maxLen; omega
        have hb2' : (us.length + 1) * 16 ≤ 140737488355328 := by omega
        have hVN : Hid (∀ V1 w1, Below V.heap.size V V1 → (V1.alloc (.cells #[.string t.name] 9)).grownBy w1 (Value.slice va us.length vc).ownBlock → Boxed w1 N 22 (.slice va us.length vc) ∧ Chg V1 w1 (fun j => some j = (Value.slice va us.length vc).ownBlock)) := by
          intro V1 w1 hb1 hg
          obtain ⟨k1, k2, k3, k4⟩ := hafter.out V1 hb1
          have hc : Chg V1 w1 (fun j => some j = (Value.slice va us.length vc).ownBlock) := ((Chg.refl V1 _).alloc _).grown hg (fun k e _ => e.symm)
          exact ⟨(hc.block _ k1.lt (fun e => owns_ne k2 k1 (by decide) _ e.symm rfl)).trans k1, hc⟩
        have hbb : Hid (∀ V1, Below V.heap.size V V1 → base ≤ (V1.alloc (.cells #[.string t.name] 9)).heap.size) := fun V1 hb1 => by
          have := hb1.size
          show base ≤ _
          simp; omega
        gi_wp2_with (first | (refine ⟨trivial, ?_⟩; gi_at_call 139; refine (CallsIn.inRound l' (callsIn_wide.2 HIV.out)).mono ?_; rintro e V1 ⟨rfl, hb1⟩; obtain ⟨k1, k2, k3, k4⟩ := hafter.out V1 hb1; have kc := k1.cell) | (refine ⟨trivial, ?_⟩; gi_at_call 140; refine (CallsIn.inRound l' (callsIn_wide.2 (contains_own k2 (by omega) t.name))).mono ?_; rintro e w' ⟨rfl, hw'⟩; obtain rfl : V1 = w' := hw'.symm; rw [HCT.out]) | (gi_at_builtin; refine wpListIn_append_own _ rfl _ _ 22 rfl base 9 i0 (.string ⟨#[]⟩) 1 16 Tryz.underlying22 hi hz0 hz1 hz2 rfl (by decide) _ _ _ rfl (World.ownsRow.alloc k2 _) ⟨V1.heap.size, 0, none⟩ 1 1 [.string t.name] rfl rfl (cell_one_new _ _ _) (by simp [Value.oneCell']) hb1' hb2' (hbb.out V1 hb1) ?_; intro v' w1 hown1 hgrow1 _; obtain ⟨g', cap', hv'⟩ := ownsRow_succ hown1; subst hv'; obtain ⟨hbx1, hch1⟩ := hVN.out V1 w1 hb1 hgrow1; have cc := hbx1.cell; have ff := hbx1.frozen))
        have hch2 : Chg V1 (w1.setCell ⟨N, 0, none⟩ (.slice (some ⟨g', 0, none⟩) (us.length + 1) cap')) (fun j => j = N ∨ some j = (Value.slice va us.length vc).ownBlock) := (hch1.mono (fun _ _ e => .inr e)).setCell ⟨N, 0, none⟩ _ (fun _ => .inl rfl)
        obtain ⟨hkf, hak⟩ := keeps_ofChg (m := W0.heap.size) hch2 (fun j hj hx => by
          rcases hx with rfl | hx
          · exact ⟨_, _, k1, by decide, by decide, by decide, by decide⟩
          · obtain ⟨_, c, hc⟩ := owns_block k2 hx.symm; exact ⟨c, _, hc, by decide, by decide, by decide, by decide⟩)
        refine ⟨KeepsFrom.trans (KeepsFrom.ofBelow hb1) hkf, (ArgKept.ofBelow hb1).tr (hak _), _, boxed_set hbx1 _, ?_, ?_⟩
        · rw [hfin.out]
          have := owns_set hown1 ⟨N, 0, none⟩ (.slice (some ⟨g', 0, none⟩) (us.length + 1) cap') (owns_ne hown1 hbx1 (by decide))
          simpa using this
        · exact (k4.alloc _ |>.grown hgrow1 (fun j e => by
            obtain ⟨hbj, d, hd⟩ := owns_block k2 e
            exact .inr ⟨hbj, d, _, (Below.heap_alloc _ _ _ (Array.getElem?_eq_some_iff.1 hd).1).trans hd⟩)).setCell (Nat.le_of_eq hN) _

end Go.Proofs.YtjajnhemgphefaaGreatDoor

namespace Go.Proofs.YtjajnhemgphefaaGreatDoor
open Go.RowKit Go.Shelf
set_option linter.unusedVariables false
set_option linter.unusedSimpArgs false
attribute [local go_sem] Oper.semAt_some

/-- A token that is a name and all of the text. -/
def nameT (s : ByteArray) (t : Tok) : Bool := decide (t.kind = 1) && (t.text.toList == s.toList)
/-- Is a text one name, and nothing else? -/
def nameB (s : ByteArray) : Bool := !decide (8 < Lib.runeCount s) && (toks s.size s 0).any (nameT s)
def nameV (s : ByteArray) (b : Bool) : Value := .tuple #[.string (if b then s else ⟨#[]⟩), .bool b]

set_option maxRecDepth 100000 in
set_option maxHeartbeats 1000000 in
theorem readName_any (s : ByteArray) (w : World) (hs : s.size ≤ 4611686018427387904) (hT : Lib.Utf8Tabs 0 1 w) :
    Calls Tryz.prog 52 #[.string s] w fun e w' => e = .returned (nameV s (nameB s)) ∧ Below w.heap.size w w' := by
  obtain ⟨N, hN⟩ : ∃ N, w.heap.size = N := ⟨_, rfl⟩
  have hs' : s.size < 9223372036854775807 := by omega
  by_cases hlong : 8 < Lib.runeCount s
  · have hl : (8 : Int) < (Lib.runeCount s : Int) := by omega
    have hnb : nameB s = false := by unfold nameB; simp [hlong]
    rw [hnb]
    subst hN
    refine (callsIn_wide (n := 6)).1 ?_
    refine callsIn_of_wp_marks Tryz.func52 rfl trivial ?_ rfl
    simp only [Tryz.ntmps52, List.size_toArray, List.length_cons, List.length_nil, Nat.reduceAdd, Nat.reduceSub, Array.replicate_succ, Array.replicate_zero, List.push_toArray, List.append_toArray, List.nil_append, List.cons_append]
    gi_wp2_with (refine ⟨trivial, ?_⟩; gi_at_call 95; refine (callsIn_wide.2 (runeCount_any _ _ (by omega))).mono ?_; rintro e w' ⟨rfl, pos, rfl⟩)
    refine ⟨nameV s false, by simp [results, Tryz.results52, go_sem, nameV], rfl, ?_⟩
    exact (((((Below.refl _ _).alloc (Nat.le_refl _) _).alloc (by simp) _).alloc (by simp; omega) _).alloc (by simp; omega) _)
  · have hl : decide ((8 : Int) < (Lib.runeCount s : Int)) = false := by simp; omega
    refine (callsIn_wide (n := 6)).1 ?_
    refine callsIn_of_wp_marks Tryz.func52 rfl trivial ?_ rfl
    simp only [Tryz.ntmps52, List.size_toArray, List.length_cons, List.length_nil, Nat.reduceAdd, Nat.reduceSub, Array.replicate_succ, Array.replicate_zero, List.push_toArray, List.append_toArray, List.nil_append, List.cons_append]
    gi_wp2_with (first | (refine ⟨trivial, ?_⟩; gi_at_call 95; refine (callsIn_wide.2 (runeCount_any _ _ (by omega))).mono ?_; rintro e w' ⟨rfl, pos, rfl⟩) | (refine ⟨trivial, ?_⟩; gi_at_call 96; refine (callsIn_wide.2 (all_any _ _)).mono ?_; rintro e w' ⟨rfl, rfl⟩))
    have hm1 : Lib.runeCount s ≤ s.size := Lib.runeCount_le s
    have hs12 : s.size ≤ 1200 := by have := size_le_runes s; omega
    have hnb : Hid (nameB s = (toks s.size s 0).any (nameT s)) := by show _ = _; unfold nameB; simp [hlong]
    generalize hrc : Lib.runeCount s = rc at *
    clear hrc
    obtain ⟨W0, hW0⟩ : ∃ W0, (((((w.alloc (.cells #[.string s] 9)).alloc (.cells #[.string ⟨#[]⟩] 9)).alloc (.cells #[.bool false] 4)).alloc (.stringIter s pos)).alloc (.cells #[.string s] 9)) = W0 := ⟨_, rfl⟩
    have hsz : W0.heap.size = N + 5 := by rw [← hW0, ← hN]; simp
    have hBw : Below w.heap.size w W0 := by
      rw [← hW0]
      exact (((((Below.refl _ _).alloc (Nat.le_refl _) _).alloc (by simp) _).alloc (by simp; omega) _).alloc (by simp; omega) _).alloc (by simp; omega) _
    have hBN : Below N w W0 := by rw [← hN]; exact hBw
    have b0 : Boxed W0 N 9 (.string s) := by
      rw [← hW0, ← hN]; exact ((((Boxed.new w _ _).alloc _).alloc _).alloc _).alloc _
    have b1 : Boxed W0 (N + 1) 9 (.string ⟨#[]⟩) := by
      have := (((Boxed.new (w.alloc (.cells #[.string s] 9)) 9 (.string ⟨#[]⟩)).alloc (.cells #[.bool false] 4)).alloc (.stringIter s pos)).alloc (.cells #[.string s] 9)
      rw [World.size_alloc, hN, hW0] at this; exact this
    have b2 : Boxed W0 (N + 1 + 1) 4 (.bool false) := by
      have := ((Boxed.new ((w.alloc (.cells #[.string s] 9)).alloc (.cells #[.string ⟨#[]⟩] 9)) 4 (.bool false)).alloc (.stringIter s pos)).alloc (.cells #[.string s] 9)
      rw [World.size_alloc, World.size_alloc, hN, hW0] at this; exact this
    have b5 : Boxed W0 (N + 4) 9 (.string s) := by
      have := Boxed.new ((((w.alloc (.cells #[.string s] 9)).alloc (.cells #[.string ⟨#[]⟩] 9)).alloc (.cells #[.bool false] 4)).alloc (.stringIter s pos)) 9 (.string s)
      simp only [World.size_alloc] at this
      rw [hN, hW0] at this; exact this
    have hcl : Hid (∀ W, Calls Tryz.prog 97 #[.string s] W fun e w' => e = .returned (.string s) ∧ Below W.heap.size W w') := fun W => clone_any s W (by omega)
    (try simp only [hN])
    rw [hW0]
    clear hW0
    refine wpIn_rangeFunc_ownH rfl (by decide) (gf := 158) (lb := #[.pointer (some ⟨N + 4, 0, none⟩)]) rfl trivial (enters_of Tryz.func158 (by kernel_rfl) rfl)
      (all_stops 5 (by decide) (N + 4) s hs12 w hT W0 hBw (by omega) b5.cell) RoundKept.tr (RoundKept.put (by omega)) (Below.refl _ _) (fun _ => rfl)
      (fun pre W => pre.any (nameT s) = false ∧ Boxed W N 9 (.string s) ∧ Boxed W (N + 1) 9 (.string ⟨#[]⟩) ∧ Boxed W (N + 1 + 1) 4 (.bool false) ∧ Below N w W)
      (fun c pre W => c = .ret ∧ pre.any (nameT s) = true ∧ Boxed W (N + 1) 9 (.string s) ∧ Boxed W (N + 1 + 1) 4 (.bool true) ∧ Below N w W)
      ?hI ?hIx ?h0
      (fun x a' W => ∃ Bx, W.heap[Bx]? = some (Obj.cells (tokC x.kind x.text x.place x.runes) 191 (0, 0)) ∧ a' = { tmps := #[.string s, .pointer (some ⟨N, 0, none⟩), .pointer (some ⟨N + 1, 0, none⟩), .pointer (some ⟨N + 1 + 1, 0, none⟩), .pointer (some ⟨Bx, 0, none⟩), .string s, .int .i64 rc, .bool false, .string s, .func (.func 158) #[] #[.pointer (some ⟨N + 1 + 1 + 1 + 1, 0, none⟩)], x.v, undef, undef, undef, undef, undef, undef, undef, undef, undef, undef, undef], defers := [] })
      ?hAx ?assign ?body ?done ?stop
    case hI =>
      rintro pre W W' row ⟨h1, h2, h3, h4, h5⟩ hg hr
      have hk := kept_of_grown hg (fun r e => (hr r e).2)
      exact ⟨h1, hk _ _ _ _ h2, hk _ _ _ _ h3, hk _ _ _ _ h4, h5.grown hg (below_size_le h5 hN) (fun k e => by have := (hr k e).1; omega)⟩
    case hIx =>
      rintro c pre W W' row ⟨rfl, h1, h3, h4, h5⟩ hg hr
      have hk := kept_of_grown hg (fun r e => (hr r e).2)
      exact ⟨rfl, h1, hk _ _ _ _ h3, hk _ _ _ _ h4, h5.grown hg (below_size_le h5 hN) (fun k e => by have := (hr k e).1; omega)⟩
    case h0 => exact ⟨rfl, b0, b1, b2, hBN⟩
    case hAx =>
      rintro x a' _ W W' row ⟨Bx, h2, h3⟩ hg hr
      exact ⟨Bx, kept_of_grown hg (fun r e => (hr r e).2) _ _ _ _ h2, h3⟩
    case assign =>
      rintro l pre x W K ⟨h1, h2, h3, h4, h5⟩ hK
      have HK : Hid _ := hK
      clear hK
      have h8 := below_size_le h5 hN
      unfold Tok.v tokV tokC
      gi_wp2
      have hbl : Below W.heap.size W (W.alloc (.cells #[.int .i64 x.kind, .string x.text, .int .i64 x.place, .int .i64 x.runes] 191)) := (Below.refl _ W).alloc (Nat.le_refl _) _
      refine HK.out _ _ ((KeepsOthers.alloc _ _).from _) ⟨hbl.mono (by omega), fun k c fz hk => (Below.heap_alloc _ _ _ (Array.getElem?_eq_some_iff.1 hk).1).trans hk⟩ ⟨h1, h2.alloc _, h3.alloc _, h4.alloc _, h5.alloc (by omega) _⟩ ⟨W.heap.size, World.alloc_heap_new W _, rfl⟩
    case body =>
      rintro l pre x a' W hl' ⟨r, hr⟩ ⟨h1, h2, h3, h4, h5⟩ ⟨Bx, hbx, rfl⟩ hlt
      have h8 := below_size_le h5 hN
      have kp := h2.cell
      have k0 : W.cell? ⟨Bx, 0, none⟩ = some (.int .i64 x.kind) := by simp [World.cell?, hbx, tokC]
      have k1 : W.cell? ⟨Bx, 1, none⟩ = some (.string x.text) := by simp [World.cell?, hbx, tokC]
      have hnx : Hid (∀ b, nameT s x = b → (pre ++ [x]).any (nameT s) = b) := fun b hb => by rw [List.any_append, h1, List.any_cons, hb]; simp
      have hkf : Hid (∀ W1, Below W.heap.size W W1 → KeepsFrom W0.heap.size W W1 ∧ RoundKept w.heap.size W W1) := fun W1 hb => ⟨KeepsFrom.ofBelow hb, ⟨hb.mono (by omega), fun k c fz hk => (hb.block k (Array.getElem?_eq_some_iff.1 hk).1).trans hk⟩⟩
      have H1 : Hid _ := h1
      clear h1
      by_cases hk1 : x.kind = 1
      · cases hbb : (x.text.toList == s.toList) with
        | true =>
          have hT1 : Hid (nameT s x = true) := by show _ = _; unfold nameT; simp [hk1, hbb]
          have hbe : x.text.toList = s.toList := by simpa using hbb
          have hst : Hid (∀ W1, Below W.heap.size W W1 → Boxed W1 (N + 1) 9 (.string ⟨#[]⟩) ∧ Boxed W1 (N + 1 + 1) 4 (.bool false) ∧ Below N w W1) := fun W1 hb => ⟨(hb.block _ h3.lt).trans h3, (hb.block _ h4.lt).trans h4, h5.trans (hb.mono (by omega))⟩
          clear h3 h4 h5
          gi_wp2_with (refine ⟨trivial, ?_⟩; gi_at_call 97; refine (CallsIn.inRound l (callsIn_wide.2 (hcl.out _))).mono ?_; rintro e W1 ⟨rfl, hb1⟩; obtain ⟨g5, g6, g7⟩ := hst.out W1 hb1; have c5 := g5.cell; have c6 := g6.cell; have f5 := g5.frozen; have f6 := g6.frozen)
          obtain ⟨t1, t2, tc, tk⟩ := two_set g5 g6 (.string s) (.bool true)
          obtain ⟨hKF, hRK⟩ := hkf.out W1 hb1
          refine ⟨⟨Nat.le_trans hKF.size tk.size, fun k o hk ho hc => tk.same k o (hKF.same k o hk ho hc) hc⟩, rfl, hnx.out _ hT1.out, t1, t2, g7.trans (tc.below (below_size_le g7 hN) (fun k e => by omega))⟩
        | false =>
          have hT1 : Hid (nameT s x = false) := by show _ = _; unfold nameT; simp [hk1, hbb]
          have hbe : ¬ x.text.toList = s.toList := by simpa using hbb
          gi_wp2
          obtain ⟨hKF, hRK⟩ := hkf.out W (Below.refl _ _)
          exact ⟨hKF, hRK, hnx.out _ hT1.out, h2, h3, h4, h5⟩
      · have hT1 : Hid (nameT s x = false) := by show _ = _; unfold nameT; simp [hk1]
        have hk1' : (x.kind == 1) = false := by simp [hk1]
        gi_wp2
        obtain ⟨hKF, hRK⟩ := hkf.out W (Below.refl _ _)
        exact ⟨hKF, hRK, hnx.out _ hT1.out, h2, h3, h4, h5⟩
    case done =>
      rintro D xs W hD rfl ⟨h1, h2, h5, h6, h7⟩ hK
      have h8 := below_size_le h7 hN
      have c5 := h5.cell
      have c6 := h6.cell
      have f5 := h5.frozen
      have f6 := h6.frozen
      have H1 : Hid (nameB s = false) := by show _ = _; rw [hnb.out]; exact h1
      clear h1
      gi_wp2
      obtain ⟨t1, t2, tc, tk⟩ := two_set h5 h6 (.string ⟨#[]⟩) (.bool false)
      refine ⟨by simp, .inl ⟨_, _, rfl, run_takeDeferred (tk.same D _ hK rfl), ?_⟩⟩
      obtain ⟨d1, d2, dk⟩ := fin_cells t1 t2 (tk.same D _ hK rfl)
      refine ⟨.tuple #[.string ⟨#[]⟩, .bool false], by simp [results, Tryz.results52, go_sem, d1, d2], ?_⟩
      have hBf := below_put (D := D) (o := .deferred none) (h7.trans (tc.below h8 (fun k e => by omega))) (by omega) (Nat.le_trans h8 tc.size)
      rw [H1.out, hN]
      exact ⟨rfl, hBf⟩
    case stop =>
      rintro D c pre W hD hpre ⟨rfl, h1, h5, h6, h7⟩ hK
      have h8 := below_size_le h7 hN
      have hres : Hid (nameB s = true) := by
        show _ = _
        obtain ⟨tl, htl⟩ := hpre
        rw [hnb.out, ← htl, List.any_append, h1]; rfl
      clear h1
      gi_wp2
      refine ⟨by simp, .inl ⟨_, _, rfl, run_takeDeferred hK, ?_⟩⟩
      obtain ⟨d1, d2, dk⟩ := fin_cells h5 h6 hK
      refine ⟨.tuple #[.string s, .bool true], by simp [results, Tryz.results52, go_sem, d1, d2], ?_⟩
      rw [hres.out, hN]
      exact ⟨rfl, below_put h7 (by omega) h8⟩

end Go.Proofs.YtjajnhemgphefaaGreatDoor
