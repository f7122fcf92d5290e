/-
  Rule.Args: the iterator over the terms of all atoms of a rule, as they are written.
-/
import Derived.Test.YtjajnhemgphefaaDoorJRangeN
namespace Go.Proofs.YtjajnhemgphefaaDoor
open Go.RowKit Go.Shelf
set_option linter.unusedVariables false
set_option linter.unusedSimpArgs false
attribute [local go_sem] Oper.semAt_some

/-- What a loop over terms leaves alone: rows of rules, atoms, terms, the boxes of functions over terms, and whatever is no cells and lies at or beyond m. -/
structure ArgKept (m : Nat) (W W' : World) : Prop where
  rule : RuleKept W W'
  func : ∀ (k : Nat) (c : Array Value), W.heap[k]? = some (Obj.cells c 85 (0, 0)) → W'.heap[k]? = some (Obj.cells c 85 (0, 0))
  from' : KeepsFrom m W W'

theorem ArgKept.tr {m : Nat} {A B C : World} (h : ArgKept m A B) (k : ArgKept m B C) : ArgKept m A C := ⟨h.rule.trans k.rule, fun i c hi => k.func i c (h.func i c hi), KeepsFrom.tr h.from' k.from'⟩
theorem ArgKept.ofBelow {m : Nat} {W W' : World} (h : Below W.heap.size W W') : ArgKept m W W' := ⟨RuleKept.ofBelow h, fun k c hk => (h.block k (Array.getElem?_eq_some_iff.1 hk).1).trans hk, KeepsFrom.ofBelow h⟩
theorem ArgKept.put {m : Nat} (W : World) (l : Nat) (o o' : Obj) (hl : l < m) (h : W.heap[l]? = some o) (ho : o.isCells = false) : ArgKept m W (W.putObj l o') :=
  ⟨RuleKept.put W l o o' h ho, fun k c hk => kept_of_grown (grownBy_putObj' W l o') (fun r e => by cases e; exact ⟨_, h, ho⟩) k c _ _ hk,
    (grownBy_putObj' W l o').size, fun k x hk hx _ => ((grownBy_putObj' W l o').block k (Array.getElem?_eq_some_iff.1 hx).1 (by simp; omega)).trans hx⟩

theorem roundIn_any {n m l l' : Nat} {f : FuncId} {tmps : Array Value} {assign body : Code} {w : World} {R : Ending → World → Prop} (h : RoundIn Fence.wide n Tryd.prog l f tmps assign body w R) : RoundIn (Fence.wide.inRound l') m Tryd.prog l f tmps assign body w R :=
  ⟨h.1, fun c cs _ => h.2 c cs (room_wide _)⟩

theorem rargs_any (c : Array Value) (x y z : Value) (hc : c = #[x, y, z]) (w : World) :
    Calls Tryd.prog 33 #[.agg c] w fun e w' => e = .returned (.func (.func 49) #[] #[.pointer (some ⟨w.heap.size, 0, none⟩)]) ∧ w' = w.alloc (.cells #[x, y, z] 48) := by
  subst hc
  go_enter Tryd.func33, Tryd.ntmps33
  go_wp2
  go_ret
  exact ⟨rfl, rfl⟩

theorem termsOf_len {w0 : World} {b : Nat} (L : List (AtX w0 b)) : (L.flatMap (·.1.1.args)).length ≤ L.length * 2 := by
  induction L with
  | nil => simp
  | cons x L ih => have := x.2.2.args; simp at ih ⊢; omega

def termsOf {w0 : World} {b : Nat} (L : List (AtX w0 b)) : List Tm := L.flatMap (·.1.1.args)

set_option maxHeartbeats 1000000 in
theorem args_seq (n : Nat) (hn : 4 ≤ n) (B : Nat) (w0 : World) (b87 : Nat) (x0 : AtX w0 b87) (L : List (AtX w0 b87)) (hL : L.length ≤ 1000) (a : Option Addr) (cap : Nat) (w : World) (hk0 : RuleKept w0 w)
    (hB : w.heap[B]? = some (Obj.cells #[.string x0.1.1.rel, x0.1.2, .slice a L.length cap] 48 (0, 0)))
    (hrow : L ≠ [] → ∃ (g off : Nat) (cur : Array Value), a = some ⟨g, off, none⟩ ∧ w.heap[g]? = some (Obj.cells cur 45 (0, 0)) ∧ (cur.toList.drop off).take (L.length * 2) = L.flatMap fun x => [.string x.1.1.rel, x.1.2]) :
    SeqN n 49 #[.pointer (some ⟨B, 0, none⟩)] (fun t : Tm => #[.agg #[.string t.name, .int .i64 t.num]]) (ArgKept (w.heap.size + 2)) (fun ys => ys = termsOf (x0 :: L)) (fun pre => pre <+: termsOf (x0 :: L)) ((L.length + 1) * 2) w := by
  intro l J Jx W hW hsz hJ hJx hY h0
  generalize w.heap.size + 2 = m at hsz hY
  have hB' := RuleKept.ofBelow hW _ _ _ (.inl rfl) hB
  have hrow' : L ≠ [] → ∃ (g off : Nat) (cur : Array Value), a = some ⟨g, off, none⟩ ∧ W.heap[g]? = some (Obj.cells cur 45 (0, 0)) ∧ (cur.toList.drop off).take (L.length * 2) = L.flatMap fun x => [.string x.1.1.rel, x.1.2] := fun hne => by
    obtain ⟨g, off, cur, h1, h2, h3⟩ := hrow hne; exact ⟨g, off, cur, h1, RuleKept.ofBelow hW _ _ _ (.inr (.inl rfl)) h2, h3⟩
  have hk0' : RuleKept w0 W := hk0.trans (RuleKept.ofBelow hW)
  clear hB hrow hk0 hW w
  obtain ⟨fa, fc, hf⟩ := x0.2.1.form
  refine callsIn_of_wp_marks Tryd.func49 rfl trivial ?_ rfl
  simp only [Tryd.ntmps49, List.size_toArray, List.length_cons, List.length_nil, Nat.reduceAdd, Nat.reduceSub, Array.replicate_succ, Array.replicate_zero, List.push_toArray, List.append_toArray, List.nil_append, List.cons_append]
  have hBlt : B < W.heap.size := (Array.getElem?_eq_some_iff.1 hB').1
  have c0 : W.cell? ⟨B, 0, none⟩ = some (.string x0.1.1.rel) := by simp [World.cell?, hB']
  have c1 : W.cell? ⟨B, 1, none⟩ = some (.slice fa x0.1.1.args.length fc) := by simp [World.cell?, hB', hf]
  have c2 : W.cell? ⟨B, 2, none⟩ = some (.slice a L.length cap) := by simp [World.cell?, hB']
  have n1 : 1 ≤ n := by omega
  have n2 : 1 ≤ n - 1 := by omega
  have n3 : 1 ≤ n - 1 - 1 := by omega
  have HY : Hid _ := hY
  have HJ : Hid (OwnFrom W.heap.size J) := hJ
  have HJx : Hid (OwnFrom W.heap.size Jx) := hJx
  clear hY hJ hJx
  gi_wp2_with (refine ⟨trivial, ?_⟩; gi_at_call 25; refine (callsIn_wide.2 (ratoms_any _ _ _ _ rfl rfl rfl rfl _)).mono ?_; rintro e w' ⟨rfl, rfl⟩)
  obtain ⟨NB, hNB⟩ : ∃ NB, W.heap.size = NB := ⟨_, rfl⟩
  obtain ⟨W0, hW0⟩ : ∃ W0, (W.alloc (.cells #[.func (.yield l) #[] #[]] 85)).alloc (.cells #[.string x0.1.1.rel, .slice fa x0.1.1.args.length fc, .slice a L.length cap] 48) = W0 := ⟨_, rfl⟩
  have hb0 : Below W.heap.size W W0 := by rw [← hW0]; exact ((Below.refl _ W).alloc (Nat.le_refl _) _).alloc (by simp) _
  have hs0 : W0.heap.size = NB + 2 := by rw [← hW0, ← hNB]; simp
  have bY : W0.heap[NB]? = some (Obj.cells #[.func (.yield l) #[] #[]] 85 (0, 0)) := by
    rw [← hW0, ← hNB]; exact (Below.heap_alloc _ _ _ (by simp)).trans (World.alloc_heap_new W _)
  have bR : W0.heap[NB + 1]? = some (Obj.cells #[.string x0.1.1.rel, x0.1.2, .slice a L.length cap] 48 (0, 0)) := by
    rw [← hW0, ← hNB, hf]
    have := World.alloc_heap_new (W.alloc (.cells #[.func (.yield l) #[] #[]] 85)) (.cells #[.string x0.1.1.rel, .slice fa x0.1.1.args.length fc, .slice a L.length cap] 48)
    rw [World.size_alloc] at this; exact this
  have hrow0 : L ≠ [] → ∃ (g off : Nat) (cur : Array Value), a = some ⟨g, off, none⟩ ∧ W0.heap[g]? = some (Obj.cells cur 45 (0, 0)) ∧ (cur.toList.drop off).take (L.length * 2) = L.flatMap fun x => [.string x.1.1.rel, x.1.2] := fun hne => by
    obtain ⟨g, off, cur, h1, h2, h3⟩ := hrow' hne; exact ⟨g, off, cur, h1, RuleKept.ofBelow hb0 _ _ _ (.inr (.inl rfl)) h2, h3⟩
  have hkW0 : RuleKept w0 W0 := hk0'.trans (RuleKept.ofBelow hb0)
  have hJ0 : J [] W0 := HJ.out _ _ _ none h0 (below_grownBy hb0) (fun r e => by cases e)
  simp only [hNB]
  rw [hW0]
  clear hW0
  refine range_law (n := n) (gf := 44) (lb := #[.pointer (some ⟨NB + 1, 0, none⟩)]) rfl (enters_of Tryd.func44 (by kernel_rfl) rfl)
    (SeqN.ofStops (atoms_stops (n - 1) n2 (NB + 1) w0 b87 x0 L hL a cap W0 bR hrow0)) RuleKept.trans (fun V o o' ho hc => RuleKept.put V _ o o' ho hc) (fun _ => rfl)
    (fun pre V => J (termsOf pre) V ∧ V.heap[NB]? = some (Obj.cells #[.func (.yield l) #[] #[]] 85 (0, 0)) ∧ RuleKept w0 V)
    (fun c pre V => c = .ret ∧ ∃ (pre' : List (AtX w0 b87)) (x : AtX w0 b87) (k : Nat), pre = pre' ++ [x] ∧ Jx (termsOf pre' ++ x.1.1.args.take k) V)
    ?hI ?hIx ⟨hJ0, bY, hkW0⟩
    (fun x a' V => ∃ Bx, V.heap[Bx]? = some (Obj.cells #[.string x.1.1.rel, x.1.2] 45 (0, 0)) ∧ a' = { tmps := #[.func (.yield l) #[] #[], .pointer (some ⟨B, 0, none⟩), .pointer (some ⟨NB, 0, none⟩), .pointer (some ⟨Bx, 0, none⟩), undef, undef, .agg #[.string x0.1.1.rel, .slice fa x0.1.1.args.length fc, .slice a L.length cap], .func (.func 44) #[] #[.pointer (some ⟨NB + 1, 0, none⟩)], .agg #[.string x.1.1.rel, x.1.2], undef, undef, undef, undef, undef, undef, undef, undef, undef, undef, undef, undef], defers := [] })
    ?hAx ?assign ?body ?done ?stop
  case hI =>
    rintro pre V V' row ⟨h1, h2, h3⟩ hg hr
    have hk := kept_of_grown hg (fun r e => (hr r e).2)
    exact ⟨HJ.out _ _ _ row h1 hg (fun r e => ⟨by have := (hr r e).1; omega, (hr r e).2⟩), hk _ _ _ _ h2, h3.trans (fun k c t _ hc => hk k c t _ hc)⟩
  case hIx =>
    rintro c pre V V' row ⟨rfl, pre', x, k, h1, h2⟩ hg hr
    exact ⟨rfl, pre', x, k, h1, HJx.out _ _ _ row h2 hg (fun r e => ⟨by have := (hr r e).1; omega, (hr r e).2⟩)⟩
  case hAx =>
    rintro x a' _ V V' row ⟨Bx, h2, h3⟩ hg hr
    exact ⟨Bx, kept_of_grown hg (fun r e => (hr r e).2) _ _ _ _ h2, h3⟩
  case assign =>
    rintro l' pre x V K hl hlr ⟨h1, h2, h3⟩ hK
    have HK : Hid _ := hK
    clear hK
    obtain ⟨ga, gc, hgx⟩ := x.2.1.form
    simp only [hgx]
    gi_wp2
    have hbl : Below V.heap.size V (V.alloc (.cells #[.string x.1.1.rel, .slice ga x.1.1.args.length gc] 45)) := (Below.refl _ V).alloc (Nat.le_refl _) _
    exact HK.out _ _ (KeepsFrom.ofBelow hbl) (RuleKept.ofBelow hbl) ⟨HJ.out _ _ _ none h1 (below_grownBy hbl) (fun r e => by cases e), (hbl.block NB (Array.getElem?_eq_some_iff.1 h2).1).trans h2, h3.trans (RuleKept.ofBelow hbl)⟩ ⟨V.heap.size, by rw [hgx]; exact World.alloc_heap_new V _, by rw [hgx]⟩
  case body =>
    rintro l' pre x a' V hl' ⟨r, hr⟩ ⟨hJp, hbY, hkV⟩ ⟨Bx, hbx, rfl⟩ hlt
    obtain ⟨ga, gc, hgx⟩ := x.2.1.form
    have hm2 := x.2.2.args
    have hxS := x.2.1
    have hpl := termsOf_len pre
    generalize hargs : x.1.1.args = args at *
    have c0' : V.cell? ⟨Bx, 0, none⟩ = some (.string x.1.1.rel) := by simp [World.cell?, hbx]
    have c1' : V.cell? ⟨Bx, 1, none⟩ = some (.slice ga args.length gc) := by simp [World.cell?, hbx, hgx]
    have HX : Hid (x.1.1.args = args) := hargs
    have HN : Hid (pre.length < (x0 :: L).length) := hlt
    clear hargs hlt
    gi_wp2
    gi_loopw [12] (fun i V' => ∃ k : Nat, k ≤ args.length ∧ i = .int .i64 k ∧ J (termsOf pre ++ args.take k) V' ∧ V'.heap[NB]? = some (Obj.cells #[.func (.yield l) #[] #[]] 85 (0, 0)) ∧ RuleKept w0 V' ∧ RuleKept V V' ∧ KeepsFrom W0.heap.size V V')
      (fun i _ => args.length - (intOf i).toNat)
    case atStart => exact ⟨0, Nat.zero_le _, rfl, by simpa using hJp, hbY, hkV, RuleKept.refl V, KeepsFrom.refl _ V⟩
    case round =>
      obtain ⟨k, hk, rfl, hJk, hbYk, hkk, hVk, hFk⟩ := hrel
      by_cases hlt : k < args.length
      · have hSk := hxS.rk hkk
        obtain ⟨e0, _⟩ | ⟨g, cp, cur, hv, hgb, hcur, htk⟩ := hSk
        · rw [e0] at hlt; simp at hlt
        rw [hgx] at hv
        cases hv
        obtain ⟨p0, p1⟩ := flat_two (fun t : Tm => Value.string t.name) (fun t => Value.int .i64 t.num) args k hlt
        have htk' : cur.toList.take (args.length * 2) = args.flatMap fun t => [Value.string t.name, Value.int .i64 t.num] := htk
        rw [← htk', List.getElem?_take, if_pos (by omega)] at p0
        rw [← htk', List.getElem?_take, if_pos (by omega)] at p1
        have hxk : termsOf pre ++ args.take (k + 1) = (termsOf pre ++ args.take k) ++ [args[k]] := by rw [List.take_succ_eq_append_getElem hlt, List.append_assoc]
        have HXK : Hid (termsOf pre ++ args.take (k + 1) = (termsOf pre ++ args.take k) ++ [args[k]]) := hxk
        clear hxk
        have hlen : (termsOf pre ++ args.take k).length < (L.length + 1) * 2 := by
          have := HN.out
          have h2 : (termsOf pre).length ≤ pre.length * 2 := hpl
          simp at this ⊢; omega
        generalize args[k] = tk at *
        have q0 : wr.cell? ⟨g, k * 2, none⟩ = some (.string tk.name) := by simp only [World.cell?, hcur]; simpa using p0
        have q1 : wr.cell? ⟨g, k * 2 + 1, none⟩ = some (.int .i64 tk.num) := by simp only [World.cell?, hcur]; simpa using p1
        have cY : wr.cell? ⟨NB, 0, none⟩ = some (.func (.yield l) #[] #[]) := by simp [World.cell?, hbYk]
        have hbl : Below wr.heap.size wr (wr.alloc (.cells #[.string tk.name, .int .i64 tk.num] 80)) := (Below.refl _ wr).alloc (Nat.le_refl _) _
        have hNBlt : NB < wr.heap.size := (Array.getElem?_eq_some_iff.1 hbYk).1
        obtain ⟨fn2, tmps2, assign2, body2, hy2, hR2⟩ := HY.out (termsOf pre ++ args.take k) tk (wr.alloc (.cells #[.string tk.name, .int .i64 tk.num] 80)) (HJ.out _ _ _ none hJk (below_grownBy hbl) (fun r e => by cases e)) hlen
        clear p0 p1 htk htk' hcur hgx hxS
        gi_wp2
        refine (roundIn_any hR2).mono ?_
        rintro e V3 (⟨rfl, hJ3, hk3⟩ | ⟨rfl, hJx3, hkx3⟩)
        · clear hy2 hR2
          have hb3 := hk3.func NB _ ((hbl.block NB hNBlt).trans hbYk)
          gi_wp2
          go_roundw
          case rel => exact ⟨k + 1, by omega, by go_num, by rw [HXK.out]; exact hJ3, hb3, (hkk.trans (RuleKept.ofBelow hbl)).trans hk3.rule, (hVk.trans (RuleKept.ofBelow hbl)).trans hk3.rule, KeepsFrom.tr (KeepsFrom.tr hFk (KeepsFrom.ofBelow hbl)) (KeepsFrom.up hk3.from' (by omega))⟩
          case measure => simp [intOf]; omega
        · gi_wp2
          refine ⟨KeepsFrom.tr (KeepsFrom.tr hFk (KeepsFrom.ofBelow hbl)) (KeepsFrom.up hkx3 (by omega)), rfl, pre, x, k + 1, rfl, ?_⟩
          rw [HX.out, HXK.out]; exact hJx3
      · gi_wp2
        refine ⟨hFk, hVk, ?_, hbYk, hkk⟩
        have : termsOf (pre ++ [x]) = termsOf pre ++ args := by unfold termsOf; simp [HX.out]
        rw [this]
        rw [List.take_of_length_le (by omega)] at hJk
        exact hJk
  case done =>
    rintro D xs V hD rfl ⟨h1, h2, h3⟩ hK
    gi_wp2
    refine ⟨by simp, .inl ⟨_, _, rfl, run_takeDeferred hK, ?_⟩⟩
    exact ⟨_, results_none rfl _ _ _, ⟨_, rfl⟩, .inl ⟨_, rfl, HJ.out _ _ _ (some D) h1 (grownBy_putObj' _ _ _) (fun r e => by cases e; exact ⟨by omega, _, hK, rfl⟩)⟩⟩
  case stop =>
    rintro D c pre V hD hp ⟨rfl, pre', x, k, rfl, h2⟩ hK
    have h1 : termsOf pre' ++ x.1.1.args.take k <+: termsOf (x0 :: L) := by
      obtain ⟨tl, htl⟩ := hp
      refine List.IsPrefix.trans ?_ (⟨termsOf tl, by unfold termsOf; rw [← htl]; simp⟩ : termsOf (pre' ++ [x]) <+: termsOf (x0 :: L))
      unfold termsOf
      simp only [List.flatMap_append, List.flatMap_cons, List.flatMap_nil, List.append_nil]
      exact List.prefix_append_right_inj _ |>.2 (List.take_prefix _ _)
    gi_wp2
    refine ⟨by simp, .inl ⟨_, _, rfl, run_takeDeferred hK, ?_⟩⟩
    exact ⟨_, results_none rfl _ _ _, ⟨_, rfl⟩, .inr ⟨_, h1, HJx.out _ _ _ (some D) h2 (grownBy_putObj' _ _ _) (fun r e => by cases e; exact ⟨by omega, _, hK, rfl⟩)⟩⟩

end Go.Proofs.YtjajnhemgphefaaDoor
