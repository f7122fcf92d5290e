/-
  Rule.Args: the iterator over the terms of all atoms of a rule, as they are written.
  The checks, in plain data.
  rules.AddNames over the arguments of a rule: the names that are not in the list yet, behind it.
-/
import Derived.Test.YtjajnhemgphefaaGreatDoorJRangeN
import Derived.Test.YtjajnhemgphefaaGreatDoorJIdx
import Derived.Test.YtjajnhemgphefaaGreatDoorJTerm
import Derived.Maps.AppendAt
namespace Go.Proofs.YtjajnhemgphefaaGreatDoor
open Go.RowKit Go.Shelf
set_option linter.unusedVariables false
set_option linter.unusedSimpArgs false
attribute [local go_sem] Oper.semAt_some

/-- What a loop over terms leaves alone: rows of rules, atoms, terms, the boxes of functions over terms, and whatever is no cells and lies at or beyond m. -/
structure ArgKept (m : Nat) (W W' : World) : Prop where
  rule : RuleKept W W'
  func : ∀ (k : Nat) (c : Array Value), W.heap[k]? = some (Obj.cells c 259 (0, 0)) → W'.heap[k]? = some (Obj.cells c 259 (0, 0))
  from' : KeepsFrom m W W'

theorem ArgKept.tr {m : Nat} {A B C : World} (h : ArgKept m A B) (k : ArgKept m B C) : ArgKept m A C := ⟨h.rule.trans k.rule, fun i c hi => k.func i c (h.func i c hi), KeepsFrom.tr h.from' k.from'⟩
theorem ArgKept.ofBelow {m : Nat} {W W' : World} (h : Below W.heap.size W W') : ArgKept m W W' := ⟨RuleKept.ofBelow h, fun k c hk => (h.block k (Array.getElem?_eq_some_iff.1 hk).1).trans hk, KeepsFrom.ofBelow h⟩
theorem ArgKept.put {m : Nat} (W : World) (l : Nat) (o o' : Obj) (hl : l < m) (h : W.heap[l]? = some o) (ho : o.isCells = false) : ArgKept m W (W.putObj l o') :=
  ⟨RuleKept.put W l o o' h ho, fun k c hk => kept_of_grown (grownBy_putObj' W l o') (fun r e => by cases e; exact ⟨_, h, ho⟩) k c _ _ hk,
    (grownBy_putObj' W l o').size, fun k x hk hx _ => ((grownBy_putObj' W l o').block k (Array.getElem?_eq_some_iff.1 hx).1 (by simp; omega)).trans hx⟩

theorem roundIn_any {n m l l' : Nat} {f : FuncId} {tmps : Array Value} {assign body : Code} {w : World} {R : Ending → World → Prop} (h : RoundIn Fence.wide n Tryz.prog l f tmps assign body w R) : RoundIn (Fence.wide.inRound l') m Tryz.prog l f tmps assign body w R :=
  ⟨h.1, fun c cs _ => h.2 c cs (room_wide _)⟩

theorem rargs_any (c : Array Value) (x y z : Value) (hc : c = #[x, y, z]) (w : World) :
    Calls Tryz.prog 77 #[.agg c] w fun e w' => e = .returned (.func (.func 141) #[] #[.pointer (some ⟨w.heap.size, 0, none⟩)]) ∧ w' = w.alloc (.cells #[x, y, z] 136) := by
  subst hc
  go_enter Tryz.func77, Tryz.ntmps77
  go_wp2
  go_ret
  exact ⟨rfl, rfl⟩

theorem termsOf_len {w0 : World} {b : Nat} (L : List (AtX w0 b)) : (L.flatMap (·.1.1.args)).length ≤ L.length * 2 := by
  induction L with
  | nil => simp
  | cons x L ih => have := x.2.2.args; simp at ih ⊢; omega

def termsOf {w0 : World} {b : Nat} (L : List (AtX w0 b)) : List Tm := L.flatMap (·.1.1.args)

set_option maxHeartbeats 1000000 in
theorem args_seq (n : Nat) (hn : 4 ≤ n) (B : Nat) (w0 : World) (b87 : Nat) (x0 : AtX w0 b87) (L : List (AtX w0 b87)) (hL : L.length ≤ 1000) (a : Option Addr) (cap : Nat) (w : World) (hk0 : RuleKept w0 w)
    (hB : w.heap[B]? = some (Obj.cells #[.string x0.1.1.rel, x0.1.2, .slice a L.length cap] 136 (0, 0)))
    (hrow : L ≠ [] → ∃ (g off : Nat) (cur : Array Value), a = some ⟨g, off, none⟩ ∧ w.heap[g]? = some (Obj.cells cur 92 (0, 0)) ∧ (cur.toList.drop off).take (L.length * 2) = L.flatMap fun x => [.string x.1.1.rel, x.1.2]) :
    SeqN n 141 #[.pointer (some ⟨B, 0, none⟩)] (fun t : Tm => #[.agg #[.string t.name, .int .i64 t.num]]) (ArgKept (w.heap.size + 2)) (fun ys => ys = termsOf (x0 :: L)) (fun pre => pre <+: termsOf (x0 :: L)) ((L.length + 1) * 2) w := by
  intro l J Jx W hW hsz hJ hJx hY h0
  generalize w.heap.size + 2 = m at hsz hY
  have hB' := RuleKept.ofBelow hW _ _ _ (.inl rfl) hB
  have hrow' : L ≠ [] → ∃ (g off : Nat) (cur : Array Value), a = some ⟨g, off, none⟩ ∧ W.heap[g]? = some (Obj.cells cur 92 (0, 0)) ∧ (cur.toList.drop off).take (L.length * 2) = L.flatMap fun x => [.string x.1.1.rel, x.1.2] := fun hne => by
    obtain ⟨g, off, cur, h1, h2, h3⟩ := hrow hne; exact ⟨g, off, cur, h1, RuleKept.ofBelow hW _ _ _ (.inr (.inl rfl)) h2, h3⟩
  have hk0' : RuleKept w0 W := hk0.trans (RuleKept.ofBelow hW)
  clear hB hrow hk0 hW w
  obtain ⟨fa, fc, hf⟩ := x0.2.1.form
  refine callsIn_of_wp_marks Tryz.func141 rfl trivial ?_ rfl
  simp only [Tryz.ntmps141, List.size_toArray, List.length_cons, List.length_nil, Nat.reduceAdd, Nat.reduceSub, Array.replicate_succ, Array.replicate_zero, List.push_toArray, List.append_toArray, List.nil_append, List.cons_append]
  have hBlt : B < W.heap.size := (Array.getElem?_eq_some_iff.1 hB').1
  have c0 : W.cell? ⟨B, 0, none⟩ = some (.string x0.1.1.rel) := by simp [World.cell?, hB']
  have c1 : W.cell? ⟨B, 1, none⟩ = some (.slice fa x0.1.1.args.length fc) := by simp [World.cell?, hB', hf]
  have c2 : W.cell? ⟨B, 2, none⟩ = some (.slice a L.length cap) := by simp [World.cell?, hB']
  have n1 : 1 ≤ n := by omega
  have n2 : 1 ≤ n - 1 := by omega
  have n3 : 1 ≤ n - 1 - 1 := by omega
  have HY : Hid _ := hY
  have HJ : Hid (OwnFrom W.heap.size J) := hJ
  have HJx : Hid (OwnFrom W.heap.size Jx) := hJx
  clear hY hJ hJx
  gi_wp2_with (refine ⟨trivial, ?_⟩; gi_at_call 98; refine (callsIn_wide.2 (ratoms_any _ _ _ _ rfl rfl rfl rfl _)).mono ?_; rintro e w' ⟨rfl, rfl⟩)
  obtain ⟨NB, hNB⟩ : ∃ NB, W.heap.size = NB := ⟨_, rfl⟩
  obtain ⟨W0, hW0⟩ : ∃ W0, (W.alloc (.cells #[.func (.yield l) #[] #[]] 259)).alloc (.cells #[.string x0.1.1.rel, .slice fa x0.1.1.args.length fc, .slice a L.length cap] 136) = W0 := ⟨_, rfl⟩
  have hb0 : Below W.heap.size W W0 := by rw [← hW0]; exact ((Below.refl _ W).alloc (Nat.le_refl _) _).alloc (by simp) _
  have hs0 : W0.heap.size = NB + 2 := by rw [← hW0, ← hNB]; simp
  have bY : W0.heap[NB]? = some (Obj.cells #[.func (.yield l) #[] #[]] 259 (0, 0)) := by
    rw [← hW0, ← hNB]; exact (Below.heap_alloc _ _ _ (by simp)).trans (World.alloc_heap_new W _)
  have bR : W0.heap[NB + 1]? = some (Obj.cells #[.string x0.1.1.rel, x0.1.2, .slice a L.length cap] 136 (0, 0)) := by
    rw [← hW0, ← hNB, hf]
    have := World.alloc_heap_new (W.alloc (.cells #[.func (.yield l) #[] #[]] 259)) (.cells #[.string x0.1.1.rel, .slice fa x0.1.1.args.length fc, .slice a L.length cap] 136)
    rw [World.size_alloc] at this; exact this
  have hrow0 : L ≠ [] → ∃ (g off : Nat) (cur : Array Value), a = some ⟨g, off, none⟩ ∧ W0.heap[g]? = some (Obj.cells cur 92 (0, 0)) ∧ (cur.toList.drop off).take (L.length * 2) = L.flatMap fun x => [.string x.1.1.rel, x.1.2] := fun hne => by
    obtain ⟨g, off, cur, h1, h2, h3⟩ := hrow' hne; exact ⟨g, off, cur, h1, RuleKept.ofBelow hb0 _ _ _ (.inr (.inl rfl)) h2, h3⟩
  have hkW0 : RuleKept w0 W0 := hk0'.trans (RuleKept.ofBelow hb0)
  have hJ0 : J [] W0 := HJ.out _ _ _ none h0 (below_grownBy hb0) (fun r e => by cases e)
  simp only [hNB]
  rw [hW0]
  clear hW0
  refine range_law (n := n) (gf := 163) (lb := #[.pointer (some ⟨NB + 1, 0, none⟩)]) rfl (enters_of Tryz.func163 (by kernel_rfl) rfl)
    (SeqN.ofStops (atoms_stops (n - 1) n2 (NB + 1) w0 b87 x0 L hL a cap W0 bR hrow0)) RuleKept.trans (fun V o o' ho hc => RuleKept.put V _ o o' ho hc) (fun _ => rfl)
    (fun pre V => J (termsOf pre) V ∧ V.heap[NB]? = some (Obj.cells #[.func (.yield l) #[] #[]] 259 (0, 0)) ∧ RuleKept w0 V)
    (fun c pre V => c = .ret ∧ ∃ (pre' : List (AtX w0 b87)) (x : AtX w0 b87) (k : Nat), pre = pre' ++ [x] ∧ Jx (termsOf pre' ++ x.1.1.args.take k) V)
    ?hI ?hIx ⟨hJ0, bY, hkW0⟩
    (fun x a' V => ∃ Bx, V.heap[Bx]? = some (Obj.cells #[.string x.1.1.rel, x.1.2] 92 (0, 0)) ∧ a' = { tmps := #[.func (.yield l) #[] #[], .pointer (some ⟨B, 0, none⟩), .pointer (some ⟨NB, 0, none⟩), .pointer (some ⟨Bx, 0, none⟩), undef, undef, .agg #[.string x0.1.1.rel, .slice fa x0.1.1.args.length fc, .slice a L.length cap], .func (.func 163) #[] #[.pointer (some ⟨NB + 1, 0, none⟩)], .agg #[.string x.1.1.rel, x.1.2], undef, undef, undef, undef, undef, undef, undef, undef, undef, undef, undef, undef], defers := [] })
    ?hAx ?assign ?body ?done ?stop
  case hI =>
    rintro pre V V' row ⟨h1, h2, h3⟩ hg hr
    have hk := kept_of_grown hg (fun r e => (hr r e).2)
    exact ⟨HJ.out _ _ _ row h1 hg (fun r e => ⟨by have := (hr r e).1; omega, (hr r e).2⟩), hk _ _ _ _ h2, h3.trans (fun k c t _ hc => hk k c t _ hc)⟩
  case hIx =>
    rintro c pre V V' row ⟨rfl, pre', x, k, h1, h2⟩ hg hr
    exact ⟨rfl, pre', x, k, h1, HJx.out _ _ _ row h2 hg (fun r e => ⟨by have := (hr r e).1; omega, (hr r e).2⟩)⟩
  case hAx =>
    rintro x a' _ V V' row ⟨Bx, h2, h3⟩ hg hr
    exact ⟨Bx, kept_of_grown hg (fun r e => (hr r e).2) _ _ _ _ h2, h3⟩
  case assign =>
    rintro l' pre x V K hl hlr ⟨h1, h2, h3⟩ hK
    have HK : Hid _ := hK
    clear hK
    obtain ⟨ga, gc, hgx⟩ := x.2.1.form
    simp only [hgx]
    gi_wp2
    have hbl : Below V.heap.size V (V.alloc (.cells #[.string x.1.1.rel, .slice ga x.1.1.args.length gc] 92)) := (Below.refl _ V).alloc (Nat.le_refl _) _
    exact HK.out _ _ (KeepsFrom.ofBelow hbl) (RuleKept.ofBelow hbl) ⟨HJ.out _ _ _ none h1 (below_grownBy hbl) (fun r e => by cases e), (hbl.block NB (Array.getElem?_eq_some_iff.1 h2).1).trans h2, h3.trans (RuleKept.ofBelow hbl)⟩ ⟨V.heap.size, by rw [hgx]; exact World.alloc_heap_new V _, by rw [hgx]⟩
  case body =>
    rintro l' pre x a' V hl' ⟨r, hr⟩ ⟨hJp, hbY, hkV⟩ ⟨Bx, hbx, rfl⟩ hlt
    obtain ⟨ga, gc, hgx⟩ := x.2.1.form
    have hm2 := x.2.2.args
    have hxS := x.2.1
    have hpl := termsOf_len pre
    generalize hargs : x.1.1.args = args at *
    have c0' : V.cell? ⟨Bx, 0, none⟩ = some (.string x.1.1.rel) := by simp [World.cell?, hbx]
    have c1' : V.cell? ⟨Bx, 1, none⟩ = some (.slice ga args.length gc) := by simp [World.cell?, hbx, hgx]
    have HX : Hid (x.1.1.args = args) := hargs
    have HN : Hid (pre.length < (x0 :: L).length) := hlt
    clear hargs hlt
    gi_wp2
    gi_loopw [12] (fun i V' => ∃ k : Nat, k ≤ args.length ∧ i = .int .i64 k ∧ J (termsOf pre ++ args.take k) V' ∧ V'.heap[NB]? = some (Obj.cells #[.func (.yield l) #[] #[]] 259 (0, 0)) ∧ RuleKept w0 V' ∧ RuleKept V V' ∧ KeepsFrom W0.heap.size V V')
      (fun i _ => args.length - (intOf i).toNat)
    case atStart => exact ⟨0, Nat.zero_le _, rfl, by simpa using hJp, hbY, hkV, RuleKept.refl V, KeepsFrom.refl _ V⟩
    case round =>
      obtain ⟨k, hk, rfl, hJk, hbYk, hkk, hVk, hFk⟩ := hrel
      by_cases hlt : k < args.length
      · have hSk := hxS.rk hkk
        obtain ⟨e0, _⟩ | ⟨g, cp, cur, hv, hgb, hcur, htk⟩ := hSk
        · rw [e0] at hlt; simp at hlt
        rw [hgx] at hv
        cases hv
        obtain ⟨p0, p1⟩ := flat_two (fun t : Tm => Value.string t.name) (fun t => Value.int .i64 t.num) args k hlt
        have htk' : cur.toList.take (args.length * 2) = args.flatMap fun t => [Value.string t.name, Value.int .i64 t.num] := htk
        rw [← htk', List.getElem?_take, if_pos (by omega)] at p0
        rw [← htk', List.getElem?_take, if_pos (by omega)] at p1
        have hxk : termsOf pre ++ args.take (k + 1) = (termsOf pre ++ args.take k) ++ [args[k]] := by rw [List.take_succ_eq_append_getElem hlt, List.append_assoc]
        have HXK : Hid (termsOf pre ++ args.take (k + 1) = (termsOf pre ++ args.take k) ++ [args[k]]) := hxk
        clear hxk
        have hlen : (termsOf pre ++ args.take k).length < (L.length + 1) * 2 := by
          have := HN.out
          have h2 : (termsOf pre).length ≤ pre.length * 2 := hpl
          simp at this ⊢; omega
        generalize args[k] = tk at *
        have q0 : wr.cell? ⟨g, k * 2, none⟩ = some (.string tk.name) := by simp only [World.cell?, hcur]; simpa using p0
        have q1 : wr.cell? ⟨g, k * 2 + 1, none⟩ = some (.int .i64 tk.num) := by simp only [World.cell?, hcur]; simpa using p1
        have cY : wr.cell? ⟨NB, 0, none⟩ = some (.func (.yield l) #[] #[]) := by simp [World.cell?, hbYk]
        have hbl : Below wr.heap.size wr (wr.alloc (.cells #[.string tk.name, .int .i64 tk.num] 166)) := (Below.refl _ wr).alloc (Nat.le_refl _) _
        have hNBlt : NB < wr.heap.size := (Array.getElem?_eq_some_iff.1 hbYk).1
        obtain ⟨fn2, tmps2, assign2, body2, hy2, hR2⟩ := HY.out (termsOf pre ++ args.take k) tk (wr.alloc (.cells #[.string tk.name, .int .i64 tk.num] 166)) (HJ.out _ _ _ none hJk (below_grownBy hbl) (fun r e => by cases e)) hlen
        clear p0 p1 htk htk' hcur hgx hxS
        gi_wp2
        refine (roundIn_any hR2).mono ?_
        rintro e V3 (⟨rfl, hJ3, hk3⟩ | ⟨rfl, hJx3, hkx3⟩)
        · clear hy2 hR2
          have hb3 := hk3.func NB _ ((hbl.block NB hNBlt).trans hbYk)
          gi_wp2
          go_roundw
          case rel => exact ⟨k + 1, by omega, by go_num, by rw [HXK.out]; exact hJ3, hb3, (hkk.trans (RuleKept.ofBelow hbl)).trans hk3.rule, (hVk.trans (RuleKept.ofBelow hbl)).trans hk3.rule, KeepsFrom.tr (KeepsFrom.tr hFk (KeepsFrom.ofBelow hbl)) (KeepsFrom.up hk3.from' (by omega))⟩
          case measure => simp [intOf]; omega
        · gi_wp2
          refine ⟨KeepsFrom.tr (KeepsFrom.tr hFk (KeepsFrom.ofBelow hbl)) (KeepsFrom.up hkx3 (by omega)), rfl, pre, x, k + 1, rfl, ?_⟩
          rw [HX.out, HXK.out]; exact hJx3
      · gi_wp2
        refine ⟨hFk, hVk, ?_, hbYk, hkk⟩
        have : termsOf (pre ++ [x]) = termsOf pre ++ args := by unfold termsOf; simp [HX.out]
        rw [this]
        rw [List.take_of_length_le (by omega)] at hJk
        exact hJk
  case done =>
    rintro D xs V hD rfl ⟨h1, h2, h3⟩ hK
    gi_wp2
    refine ⟨by simp, .inl ⟨_, _, rfl, run_takeDeferred hK, ?_⟩⟩
    exact ⟨_, results_none rfl _ _ _, ⟨_, rfl⟩, .inl ⟨_, rfl, HJ.out _ _ _ (some D) h1 (grownBy_putObj' _ _ _) (fun r e => by cases e; exact ⟨by omega, _, hK, rfl⟩)⟩⟩
  case stop =>
    rintro D c pre V hD hp ⟨rfl, pre', x, k, rfl, h2⟩ hK
    have h1 : termsOf pre' ++ x.1.1.args.take k <+: termsOf (x0 :: L) := by
      obtain ⟨tl, htl⟩ := hp
      refine List.IsPrefix.trans ?_ (⟨termsOf tl, by unfold termsOf; rw [← htl]; simp⟩ : termsOf (pre' ++ [x]) <+: termsOf (x0 :: L))
      unfold termsOf
      simp only [List.flatMap_append, List.flatMap_cons, List.flatMap_nil, List.append_nil]
      exact List.prefix_append_right_inj _ |>.2 (List.take_prefix _ _)
    gi_wp2
    refine ⟨by simp, .inl ⟨_, _, rfl, run_takeDeferred hK, ?_⟩⟩
    exact ⟨_, results_none rfl _ _ _, ⟨_, rfl⟩, .inr ⟨_, h1, HJx.out _ _ _ (some D) h2 (grownBy_putObj' _ _ _) (fun r e => by cases e; exact ⟨by omega, _, hK, rfl⟩)⟩⟩

end Go.Proofs.YtjajnhemgphefaaGreatDoor

namespace Go.Proofs.YtjajnhemgphefaaGreatDoor
set_option linter.unusedVariables false
set_option linter.unusedSimpArgs false

/-- The number of arguments that a relation was first seen with. -/
def arOf (seen : List Am) (l : List UInt8) : Option Nat := (seen.find? (fun a => a.rel.data.toList == l)).map (·.args.length)
def fitsA (seen : List Am) (a : Am) : Bool := match arOf seen a.rel.data.toList with | some n => n == a.args.length | none => true
def scanA : List Am → List Am → Option (List Am)
  | seen, [] => some seen
  | seen, a :: l => if fitsA seen a = true then scanA (seen ++ [a]) l else none
def arityFrom : List Am → Nat → List Rl → Int
  | _, _, [] => -1
  | seen, i, r :: rs => match scanA seen (r.head :: r.body) with
    | none => i
    | some s => arityFrom s (i + 1) rs


/-- A term among terms. -/
def sameT (x : ByteArray) (xb : Nat) (t : Tm) : Bool := x.toList == t.name.toList && xb == t.num
def hasT (l : List Tm) (x : ByteArray) (xb : Nat) : Bool := l.any (sameT x xb)
def bodyHas (r : Rl) (x : ByteArray) (xb : Nat) : Bool := r.body.any (fun a => hasT a.args x xb)
def unboundB (r : Rl) (t : Tm) : Bool := t.name.toList.isEmpty && !bodyHas r t.name t.num
def looseC (r : Rl) : Bool := r.head.args.any (unboundB r)
def firstFrom (p : Rl → Bool) : Nat → List Rl → Int
  | _, [] => -1
  | i, r :: rs => if p r = true then i else firstFrom p (i + 1) rs
def firstLoose (rs : List Rl) : Int := firstFrom looseC 0 rs

def manyFrom : List ByteArray → Nat → List Rl → Int
  | _, _, [] => -1
  | ns, i, r :: rs => if 8 < (nmL ns (tmsOf (ruleAms r))).length then i else manyFrom (nmL ns (tmsOf (ruleAms r))) (i + 1) rs
def checkS (rs : List Rl) : Int × Int :=
  if 0 ≤ arityFrom [] 0 rs then (4, arityFrom [] 0 rs)
  else if 0 ≤ firstLoose rs then (5, firstLoose rs)
  else if 0 ≤ manyFrom [] 0 rs then (3, manyFrom [] 0 rs)
  else (0, 0)

end Go.Proofs.YtjajnhemgphefaaGreatDoor

namespace Go.Proofs.YtjajnhemgphefaaGreatDoor
open Go.RowKit Go.Shelf
set_option linter.unusedVariables false
set_option linter.unusedSimpArgs false
attribute [local go_sem] Oper.semAt_some

theorem StrOnly.ofBelow {B : Nat} {a b : World} (h : Below a.heap.size a b) : StrOnly B a b := ⟨h.os, h.tape, h.output, h.size, fun k hk _ => h.block k hk⟩

theorem nmStep_le (vs : List ByteArray) (t : Tm) : (nmStep vs t).length ≤ vs.length + 1 := by
  unfold nmStep; split
  · omega
  · exact seenL_le _ _
theorem nmL_snoc (vs : List ByteArray) (l : List Tm) (t : Tm) : nmL vs (l ++ [t]) = nmStep (nmL vs l) t := by simp [nmL]
theorem nmL_le (l : List Tm) : ∀ (vs : List ByteArray), (nmL vs l).length ≤ vs.length + l.length := by
  induction l with
  | nil => intro vs; simp [nmL]
  | cons t l ih =>
    intro vs
    have h1 := ih (nmStep vs t)
    have h2 := nmStep_le vs t
    simp only [nmL, List.foldl_cons, List.length_cons] at h1 ⊢
    omega
theorem contains_seen (vs : List ByteArray) (x : ByteArray) : Lib.containsS vs x = decide (seenN vs x < vs.length) := by
  have h1 := Lib.containsS_iff vs x
  have h2 := Lib.idxOfS_nonneg_iff vs x
  rcases idx_seen vs x with ⟨h3, h4⟩ | ⟨h3, h4⟩
  · have : ¬ x ∈ vs := fun h => by have := h2.2 h; omega
    have hc : Lib.containsS vs x = false := by
      cases hh : Lib.containsS vs x with
      | false => rfl
      | true => exact absurd (h1.1 hh) this
    rw [hc, h4]; simp
  · have : x ∈ vs := h2.1 (by omega)
    rw [h1.2 this]; simp [h4]

theorem keeps_ofChg {m : Nat} {V W' : World} {ex : Nat → Prop} (h : Chg V W' ex) (hx : ∀ k, k < V.heap.size → ex k → ∃ (c : Array Value) (t : TypeId), V.heap[k]? = some (Obj.cells c t (0, 0)) ∧ t ≠ 136 ∧ t ≠ 92 ∧ t ≠ 166 ∧ t ≠ 259) : KeepsFrom m V W' ∧ ∀ m', ArgKept m' V W' := by
  have hk : ∀ m'', KeepsFrom m'' V W' := fun m'' => ⟨h.size, fun k o _ hk ho => by
    rw [h.block k (Array.getElem?_eq_some_iff.1 hk).1 (fun e => ?_)]
    · exact hk
    · obtain ⟨c, t, hc, _⟩ := hx k (Array.getElem?_eq_some_iff.1 hk).1 e
      rw [hk] at hc; cases hc; simp [Obj.isCells] at ho⟩
  refine ⟨hk m, fun m' => ⟨fun k c t ht hc => ?_, fun k c hc => ?_, hk m'⟩⟩
  · rw [h.block k (Array.getElem?_eq_some_iff.1 hc).1 (fun e => ?_)]
    · exact hc
    · obtain ⟨c', t', hc', a1, a2, a3, a4⟩ := hx k (Array.getElem?_eq_some_iff.1 hc).1 e
      rw [hc] at hc'; cases hc'
      rcases ht with h | h | h
      · exact a1 h
      · exact a2 h
      · exact a3 h
  · rw [h.block k (Array.getElem?_eq_some_iff.1 hc).1 (fun e => ?_)]
    · exact hc
    · obtain ⟨c', t', hc', a1, a2, a3, a4⟩ := hx k (Array.getElem?_eq_some_iff.1 hc).1 e
      rw [hc] at hc'; cases hc'; exact a4 rfl

def RuleV (W : World) (b45 b87 : Nat) (r : Rl) (v0 vb : Value) : Prop := SealT W b87 v0 r.head.args ∧ SealA W b45 b87 vb r.body
def ruleTerms (r : Rl) : List Tm := r.head.args ++ r.body.flatMap (·.args)

theorem RuleV.rk {W W' : World} {b45 b87 : Nat} {r : Rl} {v0 vb : Value} (h : RuleV W b45 b87 r v0 vb) (hk : RuleKept W W') : RuleV W' b45 b87 r v0 vb := ⟨h.1.rk hk, h.2.rk hk⟩

theorem atx_list {W : World} {b87 : Nat} : ∀ (ps : List (Am × Value)), (∀ p ∈ ps, SealT W b87 p.2 p.1.args) → (∀ p ∈ ps, AmOk p.1) → ∃ L : List (AtX W b87), L.map (·.1) = ps
  | [], _, _ => ⟨[], rfl⟩
  | p :: ps, h, h2 => by
    obtain ⟨L, hL⟩ := atx_list ps (fun q hq => h q (by simp [hq])) (fun q hq => h2 q (by simp [hq]))
    exact ⟨⟨p, h p (by simp), h2 p (by simp)⟩ :: L, congrArg (fun l => p :: l) hL⟩

theorem rule_atx {W : World} {b45 b87 : Nat} {r : Rl} {v0 vb : Value} (hv : RuleV W b45 b87 r v0 vb) (hok : RuleOk r) :
    ∃ (x0 : AtX W b87) (L : List (AtX W b87)) (a : Option Addr) (cap : Nat), x0.1 = (r.head, v0) ∧ L.map (·.1.1) = r.body ∧ vb = .slice a L.length cap ∧ L.length ≤ 3 ∧
      (L ≠ [] → ∃ (g off : Nat) (cur : Array Value), a = some ⟨g, off, none⟩ ∧ W.heap[g]? = some (Obj.cells cur 92 (0, 0)) ∧ (cur.toList.drop off).take (L.length * 2) = L.flatMap fun x => [.string x.1.1.rel, x.1.2]) := by
  obtain ⟨h1, ps, a, cap, e1, e2, e3, e4⟩ := hv
  obtain ⟨L, hL⟩ := atx_list ps e3.1 (fun p hp => hok.ams _ (by rw [← e1]; exact List.mem_map_of_mem hp))
  have hLb : L.map (·.1.1) = r.body := by rw [← e1, ← hL, List.map_map]; rfl
  have hlen : L.length = r.body.length := by rw [← hLb]; simp
  refine ⟨⟨(r.head, v0), h1, hok.head⟩, L, a, cap, rfl, hLb, by rw [hlen]; exact e2, by have := hok.body; omega, fun hne => ?_⟩
  obtain ⟨g, off, cur, k1, k2, k3, k4⟩ := e4 (by intro e; rw [e] at hlen; exact hne (List.eq_nil_of_length_eq_zero hlen))
  refine ⟨g, off, cur, k1, k3, ?_⟩
  rw [hlen, k4, ← hL, List.flatMap_map]
  rfl

theorem termsOf_rule {W : World} {b87 : Nat} {r : Rl} {v0 : Value} {x0 : AtX W b87} {L : List (AtX W b87)} (h0 : x0.1 = (r.head, v0)) (hL : L.map (·.1.1) = r.body) : termsOf (x0 :: L) = ruleTerms r := by
  unfold termsOf ruleTerms
  rw [← hL, List.flatMap_map, List.flatMap_cons, h0]


theorem ruleTerms_tms (r : Rl) : ruleTerms r = tmsOf (ruleAms r) := by unfold ruleTerms tmsOf ruleAms; simp

set_option maxRecDepth 100000 in
set_option maxHeartbeats 1000000 in
theorem addNames_any (r : Rl) (v0 vb v : Value) (vs : List ByteArray) (base b45 b87 B : Nat) (w : World) (hok : RuleOk r) (hv : RuleV w b45 b87 r v0 vb) (hB : w.heap[B]? = some (Obj.cells #[.string r.head.rel, v0, vb] 136 (0, 0)))
    (hown : w.ownsRow base 9 1 v vs.length (vs.map Value.string)) (hbw : base ≤ w.heap.size) (hvl : vs.length ≤ 900) :
    Calls Tryz.prog 76 #[v, .func (.func 141) #[] #[.pointer (some ⟨B, 0, none⟩)]] w fun e w' => ∃ v', e = .returned v' ∧ w'.ownsRow base 9 1 v' (nmL vs (ruleTerms r)).length ((nmL vs (ruleTerms r)).map Value.string) ∧ StrOnly base w w' := by
  obtain ⟨x0, L, a, cap, hx0, hL, rfl, hL3, hrow⟩ := rule_atx hv hok
  have hterm := termsOf_rule hx0 hL
  rw [← hterm]
  have hr0 : r.head.rel = x0.1.1.rel := by rw [hx0]
  have hv0 : v0 = x0.1.2 := by rw [hx0]
  rw [hr0, hv0] at hB
  clear hterm hr0 hv0 hx0 hL hv hok
  obtain ⟨va0, vc0, hvf⟩ := owns_form hown
  obtain ⟨N, hN⟩ : ∃ N, w.heap.size = N := ⟨_, rfl⟩
  obtain ⟨i0, hi, hz0, hz1, hz2⟩ := info_parts Tryz.info9
  have hBlt : B < w.heap.size := (Array.getElem?_eq_some_iff.1 hB).1
  rw [hvf] at hown ⊢
  refine (callsIn_wide (n := 8)).1 ?_
  refine callsIn_of_wp_marks Tryz.func76 rfl trivial ?_ rfl
  simp only [Tryz.ntmps76, List.size_toArray, List.length_cons, List.length_nil, Nat.reduceAdd, Nat.reduceSub, Array.replicate_succ, Array.replicate_zero, List.push_toArray, List.append_toArray, List.nil_append, List.cons_append]
  gi_wp2
  obtain ⟨W0, hW0⟩ : ∃ W0, w.alloc (.cells #[.slice va0 vs.length vc0] 22) = W0 := ⟨_, rfl⟩
  have hb0 : Below w.heap.size w W0 := by rw [← hW0]; exact (Below.refl _ w).alloc (Nat.le_refl _) _
  have hs0 : W0.heap.size = N + 1 := by rw [← hW0, ← hN]; simp
  have bV : Boxed W0 N 22 (.slice va0 vs.length vc0) := by
    have := Boxed.new w 22 (.slice va0 vs.length vc0)
    rw [hN, hW0] at this; exact this
  have bR : W0.heap[B]? = some (Obj.cells #[.string x0.1.1.rel, x0.1.2, .slice a L.length cap] 136 (0, 0)) := (hb0.block B hBlt).trans hB
  have hrow0 : L ≠ [] → ∃ (g off : Nat) (cur : Array Value), a = some ⟨g, off, none⟩ ∧ W0.heap[g]? = some (Obj.cells cur 92 (0, 0)) ∧ (cur.toList.drop off).take (L.length * 2) = L.flatMap fun x => [.string x.1.1.rel, x.1.2] := fun hne => by
    obtain ⟨g, off, cur, h1, h2, h3⟩ := hrow hne; exact ⟨g, off, cur, h1, RuleKept.ofBelow hb0 _ _ _ (.inr (.inl rfl)) h2, h3⟩
  have hown0 := own_below hown hb0
  have hso0 : StrOnly base w W0 := by rw [← hW0]; exact (StrOnly.refl base w).alloc _
  (try simp only [hN])
  rw [hW0]
  clear hW0 hrow hB
  refine range_law (n := 8) (gf := 141) (lb := #[.pointer (some ⟨B, 0, none⟩)]) rfl (enters_of Tryz.func141 (by kernel_rfl) rfl)
    (args_seq 7 (by decide) B w b87 x0 L (by omega) a cap W0 (RuleKept.ofBelow hb0) bR hrow0) ArgKept.tr (fun V o o' ho hc => ArgKept.put V _ o o' (by omega) ho hc) (fun _ => rfl)
    (fun pre V => ∃ v, Boxed V N 22 v ∧ V.ownsRow base 9 1 v (nmL vs pre).length ((nmL vs pre).map Value.string) ∧ StrOnly base w V)
    (fun _ _ _ => False)
    ?hI (fun _ _ _ _ _ h _ _ => h) ⟨_, bV, hown0, hso0⟩
    (fun t a' V => ∃ Bx, V.heap[Bx]? = some (Obj.cells #[.string t.name, .int .i64 t.num] 166 (0, 0)) ∧ a' = { tmps := #[.slice va0 vs.length vc0, .func (.func 141) #[] #[.pointer (some ⟨B, 0, none⟩)], .pointer (some ⟨N, 0, none⟩), undef, .slice none 0 0, .pointer (some ⟨Bx, 0, none⟩), .func (.func 141) #[] #[.pointer (some ⟨B, 0, none⟩)], .agg #[.string t.name, .int .i64 t.num], undef, undef, undef, undef, undef, undef, undef, undef, undef, undef, undef, undef, undef, undef, undef, undef], defers := [] })
    ?hAx ?assign ?body ?done (fun _ _ _ _ _ _ h _ => h.elim)
  case hI =>
    rintro pre V V' row ⟨v, h1, h2, h3⟩ hg hr
    have hk := kept_of_grown hg (fun r e => (hr r e).2)
    exact ⟨v, hk _ _ _ _ h1, owns_kept h2 (fun g c _ hc => hk g c _ _ hc), h3.grown hg (fun k e => .inl (by have := (hr k e).1; omega))⟩
  case hAx =>
    rintro x a' _ V V' row ⟨Bx, h2, h3⟩ hg hr
    exact ⟨Bx, kept_of_grown hg (fun r e => (hr r e).2) _ _ _ _ h2, h3⟩
  case assign =>
    rintro l' pre t V K hl hlr ⟨v, h1, h2, h3⟩ hK
    have HK : Hid _ := hK
    clear hK
    gi_wp2
    have hbl : Below V.heap.size V (V.alloc (.cells #[.string t.name, .int .i64 t.num] 166)) := (Below.refl _ V).alloc (Nat.le_refl _) _
    exact HK.out _ _ (KeepsFrom.ofBelow hbl) (ArgKept.ofBelow hbl) ⟨v, h1.alloc _, h2.alloc _, h3.alloc _⟩ ⟨V.heap.size, World.alloc_heap_new V _, rfl⟩
  case done =>
    rintro D xs V hD rfl ⟨v, h1, h2, h3⟩ hK
    have c1 := h1.cell
    gi_wp2
    refine ⟨by simp, .inl ⟨_, _, rfl, run_takeDeferred hK, ?_⟩⟩
    have hk := kept_of_grown (grownBy_putObj' V D (.deferred none)) (fun r e => by cases e; exact ⟨_, hK, rfl⟩)
    refine ⟨_, results_tmp rfl _ _ _, v, rfl, owns_kept h2 (fun g c _ hc => hk g c _ _ hc), ?_⟩
    exact h3.grown (grownBy_putObj' V D (.deferred none)) (fun k e => .inl (by cases e; omega))
  case body =>
    rintro l' pre t a' V hl' ⟨r, hr⟩ ⟨v, h1, h2, h3⟩ ⟨Bx, hbx, rfl⟩ hlt
    have hvl2 := nmL_le pre vs
    have hl10 : (nmL vs pre).length ≤ 950 := by omega
    have hN1 : N ≤ V.heap.size := by have := h3.size; omega
    have hBxlt : Bx < V.heap.size := (Array.getElem?_eq_some_iff.1 hbx).1
    have c0 : V.cell? ⟨Bx, 0, none⟩ = some (.string t.name) := by simp [World.cell?, hbx]
    have c1 : V.cell? ⟨Bx, 1, none⟩ = some (.int .i64 t.num) := by simp [World.cell?, hbx]
    have hsn := nmL_snoc vs pre t
    have hiv := isVariable_any t V
    obtain ⟨va, vc, rfl⟩ := owns_form h2
    have hcs := contains_seen (nmL vs pre) t.name
    generalize hvs : nmL vs pre = us at *
    have HS : Hid (nmL vs (pre ++ [t]) = nmStep us t) := hsn
    clear hsn hvs
    cases htv : t.name.toList.isEmpty with
    | true =>
      rw [htv] at hiv
      have hfin : Hid (nmL vs (pre ++ [t]) = us) := by show _ = _; rw [HS.out]; unfold nmStep; rw [if_pos htv]
      clear htv
      gi_wp2_with (refine ⟨trivial, ?_⟩; gi_at_call 139; refine (CallsIn.inRound l' (callsIn_wide.2 hiv)).mono ?_; rintro e V1 ⟨rfl, hb1⟩)
      refine ⟨trivial, ?_⟩
      gi_wp2
      refine ⟨KeepsFrom.ofBelow hb1, ArgKept.ofBelow hb1, .slice va us.length vc, ?_, ?_, ?_⟩
      · exact (hb1.block _ h1.lt).trans h1
      · rw [hfin.out]; exact own_below h2 hb1
      · exact h3.trans (StrOnly.ofBelow hb1)
    | false =>
      rw [htv] at hiv
      have HIV : Hid _ := hiv
      have hst : Hid (nmStep us t = seenL us t.name) := by show _ = _; unfold nmStep; rw [if_neg (by simp [htv])]
      clear htv hiv
      have hafter : Hid (∀ V1, Below V.heap.size V V1 → Boxed V1 N 22 (.slice va us.length vc) ∧ V1.ownsRow base 9 1 (.slice va us.length vc) us.length (us.map Value.string) ∧ V1.cell? ⟨Bx, 0, none⟩ = some (.string t.name) ∧ StrOnly base w V1) := fun V1 hb1 =>
        ⟨(hb1.block _ h1.lt).trans h1, own_below h2 hb1, (hb1.cell (p := ⟨Bx, 0, none⟩) hBxlt).trans c0, h3.trans (StrOnly.ofBelow hb1)⟩
      cases hct : Lib.containsS us t.name with
      | true =>
        have hfin : Hid (nmL vs (pre ++ [t]) = us) := by
          show _ = _; rw [HS.out, hst.out]; unfold seenL; rw [if_pos (by rw [hct] at hcs; simpa using hcs.symm)]
        have HCT : Hid _ := hct
        clear hct hcs h1 h2 h3
        gi_wp2_with (first | (refine ⟨trivial, ?_⟩; gi_at_call 139; refine (CallsIn.inRound l' (callsIn_wide.2 HIV.out)).mono ?_; rintro e V1 ⟨rfl, hb1⟩; obtain ⟨k1, k2, k3, k4⟩ := hafter.out V1 hb1; have kc := k1.cell) | (refine ⟨trivial, ?_⟩; gi_at_call 140; refine (CallsIn.inRound l' (callsIn_wide.2 (contains_own k2 (by omega) t.name))).mono ?_; rintro e w' ⟨rfl, hw'⟩; obtain rfl : V1 = w' := hw'.symm; rw [HCT.out]))
        exact ⟨KeepsFrom.ofBelow hb1, ArgKept.ofBelow hb1, _, k1, by rw [hfin.out]; exact k2, k4⟩
      | false =>
        have hfin : Hid (nmL vs (pre ++ [t]) = us ++ [t.name]) := by
          show _ = _; rw [HS.out, hst.out]; unfold seenL; rw [if_neg (by rw [hct] at hcs; simpa using hcs.symm)]
        have HCT : Hid _ := hct
        clear hct hcs h1 h2 h3
        have hb1' : us.length + 1 ≤ maxLen := by unfold maxLen; omega
        have hb2' : (us.length + 1) * 16 ≤ 140737488355328 := by omega
        have hVN : Hid (∀ V1 w1, Below V.heap.size V V1 → (V1.alloc (.cells #[.string t.name] 9)).grownBy w1 (Value.slice va us.length vc).ownBlock → Boxed w1 N 22 (.slice va us.length vc) ∧ Chg V1 w1 (fun j => some j = (Value.slice va us.length vc).ownBlock)) := by
          intro V1 w1 hb1 hg
          obtain ⟨k1, k2, k3, k4⟩ := hafter.out V1 hb1
          have hc : Chg V1 w1 (fun j => some j = (Value.slice va us.length vc).ownBlock) := ((Chg.refl V1 _).alloc _).grown hg (fun k e _ => e.symm)
          exact ⟨(hc.block _ k1.lt (fun e => owns_ne k2 k1 (by decide) _ e.symm rfl)).trans k1, hc⟩
        have hbb : Hid (∀ V1, Below V.heap.size V V1 → base ≤ (V1.alloc (.cells #[.string t.name] 9)).heap.size) := fun V1 hb1 => by
          have := hb1.size
          show base ≤ _
          simp; omega
        gi_wp2_with (first | (refine ⟨trivial, ?_⟩; gi_at_call 139; refine (CallsIn.inRound l' (callsIn_wide.2 HIV.out)).mono ?_; rintro e V1 ⟨rfl, hb1⟩; obtain ⟨k1, k2, k3, k4⟩ := hafter.out V1 hb1; have kc := k1.cell) | (refine ⟨trivial, ?_⟩; gi_at_call 140; refine (CallsIn.inRound l' (callsIn_wide.2 (contains_own k2 (by omega) t.name))).mono ?_; rintro e w' ⟨rfl, hw'⟩; obtain rfl : V1 = w' := hw'.symm; rw [HCT.out]) | (gi_at_builtin; refine wpListIn_append_own _ rfl _ _ 22 rfl base 9 i0 (.string ⟨#[]⟩) 1 16 Tryz.underlying22 hi hz0 hz1 hz2 rfl (by decide) _ _ _ rfl (World.ownsRow.alloc k2 _) ⟨V1.heap.size, 0, none⟩ 1 1 [.string t.name] rfl rfl (cell_one_new _ _ _) (by simp [Value.oneCell']) hb1' hb2' (hbb.out V1 hb1) ?_; intro v' w1 hown1 hgrow1 _; obtain ⟨g', cap', hv'⟩ := ownsRow_succ hown1; subst hv'; obtain ⟨hbx1, hch1⟩ := hVN.out V1 w1 hb1 hgrow1; have cc := hbx1.cell; have ff := hbx1.frozen))
        have hch2 : Chg V1 (w1.setCell ⟨N, 0, none⟩ (.slice (some ⟨g', 0, none⟩) (us.length + 1) cap')) (fun j => j = N ∨ some j = (Value.slice va us.length vc).ownBlock) := (hch1.mono (fun _ _ e => .inr e)).setCell ⟨N, 0, none⟩ _ (fun _ => .inl rfl)
        obtain ⟨hkf, hak⟩ := keeps_ofChg (m := W0.heap.size) hch2 (fun j hj hx => by
          rcases hx with rfl | hx
          · exact ⟨_, _, k1, by decide, by decide, by decide, by decide⟩
          · obtain ⟨_, c, hc⟩ := owns_block k2 hx.symm; exact ⟨c, _, hc, by decide, by decide, by decide, by decide⟩)
        refine ⟨KeepsFrom.trans (KeepsFrom.ofBelow hb1) hkf, (ArgKept.ofBelow hb1).tr (hak _), _, boxed_set hbx1 _, ?_, ?_⟩
        · rw [hfin.out]
          have := owns_set hown1 ⟨N, 0, none⟩ (.slice (some ⟨g', 0, none⟩) (us.length + 1) cap') (owns_ne hown1 hbx1 (by decide))
          simpa using this
        · exact (k4.alloc _ |>.grown hgrow1 (fun j e => by
            obtain ⟨hbj, d, hd⟩ := owns_block k2 e
            exact .inr ⟨hbj, d, _, (Below.heap_alloc _ _ _ (Array.getElem?_eq_some_iff.1 hd).1).trans hd⟩)).setCell (Nat.le_of_eq hN) _

end Go.Proofs.YtjajnhemgphefaaGreatDoor
