/-
  Package slices at what lasts: Values, AppendSeq, Collect, SortedFunc.
  Package slices at what lasts: SortFunc, SortedFunc.
  Package model: the text of a ground atom; texts in order.
-/
import Derived.Test.YtjajnhemgphefaaGreatDoorJRangeM
import Derived.Test.YtjajnhemgphefaaGreatDoorJAddN
import Derived.Test.YtjajnhemgphefaaGreatDoorMore
import Derived.Shelf.SlSortCmp.NoneTotal
namespace Go.Proofs.YtjajnhemgphefaaGreatDoor
open Go.RowKit Go.Shelf Go.Maps
set_option linter.unusedVariables false
set_option linter.unusedSimpArgs false
attribute [local go_sem] Oper.semAt_some

/-- What lasts: a ground atom and its end, as cells. -/
def lastC (x : Gd × Int) : List Value := [.string x.1.rel, .string x.1.x, .string x.1.y, .int .i64 x.2]
theorem lastC_len (x : Gd × Int) : (lastC x).length = 4 := rfl
theorem Tryz.infoLast : (Tryz.prog.info? 172).map (fun i => (i.zero, i.size, i.bytes)) = some (some (.agg #[.string ⟨#[]⟩, .string ⟨#[]⟩, .string ⟨#[]⟩, .int .i64 0]), 4, 56) := by kernel_rfl

theorem valuesL_any (v : Value) (w : World) (ta : Option Addr) (tn tc : Nat) (hva : v = .slice ta tn tc) :
    Calls Tryz.prog 131 #[v] w fun e w' => e = .returned (.func (.func 186) #[] #[.pointer (some ⟨w.heap.size, 0, none⟩)]) ∧ w' = w.alloc (.cells #[v] 169) := by
  subst hva
  go_enter Tryz.func131, Tryz.ntmps131
  go_wp2
  go_ret
  exact ⟨rfl, rfl⟩

/-- What lay below B is as it was, but for what lasts from base on; and from m on what holds no cells. -/
structure LKept (B base m : Nat) (W W' : World) : Prop where
  block : ∀ (k : Nat) (o : Obj), k < B → W.heap[k]? = some o → (k < base ∨ ∀ c fz, o ≠ Obj.cells c 172 fz) → W'.heap[k]? = some o
  from' : KeepsFrom m W W'
theorem LKept.tr {B base m : Nat} {X Y Z : World} (h : LKept B base m X Y) (k : LKept B base m Y Z) : LKept B base m X Z := ⟨fun i o hi ho hx => k.block i o hi (h.block i o hi ho hx) hx, KeepsFrom.tr h.from' k.from'⟩
theorem LKept.ofBelow {B base m : Nat} {W W' : World} (h : Below W.heap.size W W') : LKept B base m W W' := ⟨fun k o _ hk _ => (h.block k (Array.getElem?_eq_some_iff.1 hk).1).trans hk, KeepsFrom.ofBelow h⟩
theorem LKept.put {B base m : Nat} (W : World) (l : Nat) (o' : Obj) (hl : l < m) (hB : B ≤ l) : LKept B base m W (W.putObj l o') :=
  ⟨fun k o hk ho _ => ((grownBy_putObj' W l o').block k (Array.getElem?_eq_some_iff.1 ho).1 (by simp; omega)).trans ho, KeepsFrom.put W l o' hl⟩
theorem keeps_cells {m : Nat} {V W' : World} {ex : Nat → Prop} (h : Chg V W' ex) (hx : ∀ k, k < V.heap.size → ex k → ∃ (c : Array Value) (t : TypeId), V.heap[k]? = some (Obj.cells c t (0, 0))) : KeepsFrom m V W' :=
  ⟨h.size, fun k o _ hk hc => by
    have hlt := (Array.getElem?_eq_some_iff.1 hk).1
    refine (h.block k hlt (fun e => ?_)).trans hk
    obtain ⟨c, t, h1⟩ := hx k hlt e
    rw [h1] at hk; cases hk; cases hc⟩

theorem SeqM.later {α : Type} {m n gf : Nat} {lb : Array Value} {encs : α → Array Value} {Kp : World → World → Prop} {S Sp : List α → Prop} {N : Nat} {w w1 : World} (h : SeqM m n gf lb encs Kp S Sp N w) (hb : Below w.heap.size w w1) : SeqM m n gf lb encs Kp S Sp N w1 :=
  fun l J Jx W hW => h l J Jx W (hb.trans (hW.mono hb.size))

/-- What lay below B is as it was, but for what lasts from base on. -/
def LBlock (B base : Nat) (W W' : World) : Prop := ∀ (k : Nat) (o : Obj), k < B → W.heap[k]? = some o → (k < base ∨ ∀ c fz, o ≠ Obj.cells c 172 fz) → W'.heap[k]? = some o
theorem LBlock.tr {B base : Nat} {X Y Z : World} (h : LBlock B base X Y) (k : LBlock B base Y Z) : LBlock B base X Z := fun i o hi ho hx => k i o hi (h i o hi ho hx) hx
theorem LBlock.grown {B base : Nat} {X Y Z : World} {row : Option Nat} (h : LBlock B base X Y) (hg : Y.grownBy Z row) (hr : ∀ r, row = some r → B ≤ r) : LBlock B base X Z := fun i o hi ho hx => by
  have h1 := h i o hi ho hx
  exact (hg.block i (Array.getElem?_eq_some_iff.1 h1).1 (fun e => by have := hr i e.symm; omega)).trans h1
theorem LBlock.ofBelow {B base : Nat} {W W' : World} (h : Below W.heap.size W W') : LBlock B base W W' := fun k o _ hk _ => (h.block k (Array.getElem?_eq_some_iff.1 hk).1).trans hk

theorem cell_four_new (w : World) (x y z u : Value) (t : TypeId) : ∀ j q, [x, y, z, u][j]? = some q → (w.alloc (.cells #[x, y, z, u] t)).cell? ((⟨w.heap.size, 0, none⟩ : Addr).add j) = some q := by
  intro j q hj
  match j, hj with
  | 0, hj => simp at hj; subst hj; simp [Addr.add]
  | 1, hj => simp at hj; subst hj; simp [Addr.add]
  | 2, hj => simp at hj; subst hj; simp [Addr.add]
  | 3, hj => simp at hj; subst hj; simp [Addr.add]
  | j + 4, hj => simp at hj

set_option maxRecDepth 100000 in
set_option maxHeartbeats 1000000 in
theorem appendSeqL_any {gf : Nat} {lb : Array Value} {S Sp : List (Gd × Int) → Prop} {N : Nat} (v : Value) (xs : List (Gd × Int)) (base : Nat) (w : World) (hown : w.ownsRow base 172 4 v xs.length (xs.flatMap lastC)) (hbw : base ≤ w.heap.size) (hl : xs.length + N ≤ 2000000000000)
    (eg : ∀ args w, (callFunc gf args).run Tryz.prog w = .ok (.enter gf args) w) (hseq : ∀ m n, SeqM m n gf lb (fun x : Gd × Int => #[.agg (lastC x).toArray]) (LKept w.heap.size base m) S Sp N w) :
    Calls Tryz.prog 134 #[v, .func (.func gf) #[] lb] w fun e w' => ∃ v' ys, e = .returned v' ∧ S ys ∧ w'.ownsRow base 172 4 v' (xs ++ ys).length ((xs ++ ys).flatMap lastC) ∧ Below base w w' ∧ LBlock w.heap.size base w w' := by
  obtain ⟨va0, vc0, hvf⟩ := owns_form hown
  obtain ⟨NB, hN⟩ : ∃ N, w.heap.size = N := ⟨_, rfl⟩
  obtain ⟨i0, hi, hz0, hz1, hz2⟩ := info_parts Tryz.infoLast
  rw [hvf] at hown ⊢
  refine (callsIn_wide (n := 8)).1 ?_
  refine callsIn_of_wp_marks Tryz.func134 rfl trivial ?_ rfl
  simp only [Tryz.ntmps134, List.size_toArray, List.length_cons, List.length_nil, Nat.reduceAdd, Nat.reduceSub, Array.replicate_succ, Array.replicate_zero, List.push_toArray, List.append_toArray, List.nil_append, List.cons_append]
  gi_wp2
  obtain ⟨W0, hW0⟩ : ∃ W0, w.alloc (.cells #[.slice va0 xs.length vc0] 169) = W0 := ⟨_, rfl⟩
  have hb0 : Below w.heap.size w W0 := by rw [← hW0]; exact (Below.refl _ w).alloc (Nat.le_refl _) _
  have hs0 : W0.heap.size = NB + 1 := by rw [← hW0, ← hN]; simp
  have bV : Boxed W0 NB 169 (.slice va0 xs.length vc0) := by
    have := Boxed.new w 169 (.slice va0 xs.length vc0)
    rw [hN, hW0] at this; exact this
  have hown0 := own_below hown hb0
  (try simp only [hN])
  rw [hW0]
  refine range_outM (n := 8) (gf := gf) (lb := lb) rfl eg ((hseq _ _).later hb0) LKept.tr (fun V rc o' ho => LKept.put V _ o' (by omega) (by omega)) (fun _ => rfl)
    (fun pre V => ∃ v, Boxed V NB 169 v ∧ V.ownsRow base 172 4 v (xs ++ pre).length ((xs ++ pre).flatMap lastC) ∧ Below base w V ∧ NB < V.heap.size ∧ LBlock w.heap.size base w V)
    (fun _ _ _ => False)
    ?hI (fun _ _ _ _ _ h _ _ => h) ⟨_, bV, by rw [List.append_nil]; exact hown0, (hb0.mono hbw), by omega, LBlock.ofBelow hb0⟩
    (fun x a' V => ∃ Bx, V.heap[Bx]? = some (Obj.cells #[.string x.1.rel, .string x.1.x, .string x.1.y, .int .i64 x.2] 172 (0, 0)) ∧ a' = { tmps := #[.slice va0 xs.length vc0, .func (.func gf) #[] lb, .pointer (some ⟨NB, 0, none⟩), undef, .slice none 0 0, .pointer (some ⟨Bx, 0, none⟩), .func (.func gf) #[] lb, .agg #[.string x.1.rel, .string x.1.x, .string x.1.y, .int .i64 x.2], undef, undef, undef, undef, undef], defers := [] })
    ?hAx ?assign ?body ?done (fun _ _ _ _ _ _ h _ => h.elim)
  case hI =>
    rintro pre V V' row ⟨v, h1, h2, h3, h4, h5⟩ hg hr
    have hk := kept_of_grown hg (fun r e => (hr r e).2)
    exact ⟨v, hk _ _ _ _ h1, owns_kept h2 (fun g c _ hc => hk g c _ _ hc), h3.grown hg (by omega) (fun k e => by have := (hr k e).1; omega), by have := hg.size; omega, h5.grown hg (fun r e => by have := (hr r e).1; omega)⟩
  case hAx =>
    rintro x a' _ V V' row ⟨Bx, h2, h5⟩ hg hr
    exact ⟨Bx, kept_of_grown hg (fun r e => (hr r e).2) _ _ _ _ h2, h5⟩
  case assign =>
    rintro l' pre t V K hl hlr ⟨v, h1, h2, h3, h4, h5⟩ hK
    have HK : Hid _ := hK
    clear hK
    unfold lastC
    gi_wp2
    have hbl : Below V.heap.size V (V.alloc (.cells #[.string t.1.rel, .string t.1.x, .string t.1.y, .int .i64 t.2] 172)) := (Below.refl _ V).alloc (Nat.le_refl _) _
    exact HK.out _ _ (KeepsFrom.ofBelow hbl) (LKept.ofBelow hbl) ⟨v, h1.alloc _, h2.alloc _, h3.trans (hbl.mono (by omega)), by simp; omega, h5.tr (LBlock.ofBelow hbl)⟩ ⟨V.heap.size, World.alloc_heap_new V _, rfl⟩
  case body =>
    rintro l' pre t a' V hl' ⟨r, hr⟩ ⟨v, h1, h2, h3, h4, h5⟩ ⟨Bx, hbx, rfl⟩ hlt
    have H5 : Hid _ := h5
    clear h5
    have c0 : V.cell? ⟨Bx, 0, none⟩ = some (.string t.1.rel) := by simp [World.cell?, hbx]
    have c1 : V.cell? ⟨Bx, 1, none⟩ = some (.string t.1.x) := by simp [World.cell?, hbx]
    have c2 : V.cell? ⟨Bx, 2, none⟩ = some (.string t.1.y) := by simp [World.cell?, hbx]
    have c3 : V.cell? ⟨Bx, 3, none⟩ = some (.int .i64 t.2) := by simp [World.cell?, hbx]
    have cb := h1.cell
    obtain ⟨va, vc, rfl⟩ := owns_form h2
    have hln : (xs ++ pre).length = xs.length + pre.length := by simp
    have hb1' : (xs ++ pre).length + 1 ≤ maxLen := by unfold maxLen; omega
    have hb2' : ((xs ++ pre).length + 1) * 56 ≤ 140737488355328 := by omega
    have hspec : Hid ((xs ++ (pre ++ [t])).flatMap lastC = (xs ++ pre).flatMap lastC ++ [.string t.1.rel, .string t.1.x, .string t.1.y, .int .i64 t.2]) := by
      show _ = _
      rw [← List.append_assoc, List.flatMap_append]; rfl
    have hspl : Hid ((xs ++ (pre ++ [t])).length = (xs ++ pre).length + 1) := by show _ = _; simp; omega
    generalize hus : (xs ++ pre).length = un at *
    generalize hub : (xs ++ pre).flatMap lastC = uc at *
    clear hus hub hln
    have hVN : Hid (∀ w1, (V.alloc (.cells #[.string t.1.rel, .string t.1.x, .string t.1.y, .int .i64 t.2] 172)).grownBy w1 (Value.slice va un vc).ownBlock → Boxed w1 NB 169 (.slice va un vc) ∧ Chg V w1 (fun j => some j = (Value.slice va un vc).ownBlock)) := by
      intro w1 hg
      have hc : Chg V w1 (fun j => some j = (Value.slice va un vc).ownBlock) := ((Chg.refl V _).alloc _).grown hg (fun k e _ => e.symm)
      exact ⟨(hc.block _ h1.lt (fun e => owns_ne h2 h1 (by decide) _ e.symm rfl)).trans h1, hc⟩
    gi_wp2_with (gi_at_builtin; refine wpListIn_append_own _ rfl _ _ 169 rfl base 172 i0 (.agg #[.string ⟨#[]⟩, .string ⟨#[]⟩, .string ⟨#[]⟩, .int .i64 0]) 4 56 Tryz.underlying169 hi hz0 hz1 hz2 rfl (by decide) _ _ _ rfl (World.ownsRow.alloc h2 _) ⟨V.heap.size, 0, none⟩ 1 1 [.string t.1.rel, .string t.1.x, .string t.1.y, .int .i64 t.2] rfl rfl (cell_four_new _ _ _ _ _ _) (by simp [Value.oneCell']) hb1' hb2' (by simp; omega) ?_; intro v' w1 hown1 hgrow1 _; obtain ⟨g', cap', hv'⟩ := ownsRow_succ hown1; subst hv'; obtain ⟨hbx1, hch1⟩ := hVN.out w1 hgrow1; have cc := hbx1.cell; have ff := hbx1.frozen)
    have hch2 : Chg V (w1.setCell ⟨NB, 0, none⟩ (.slice (some ⟨g', 0, none⟩) (un + 1) cap')) (fun j => j = NB ∨ some j = (Value.slice va un vc).ownBlock) := (hch1.mono (fun _ _ e => .inr e)).setCell ⟨NB, 0, none⟩ _ (fun _ => .inl rfl)
    have hcl : ∀ m', KeepsFrom m' V (w1.setCell ⟨NB, 0, none⟩ (.slice (some ⟨g', 0, none⟩) (un + 1) cap')) := fun m' => keeps_cells hch2 (fun j hj hx => by
      rcases hx with rfl | hx
      · exact ⟨_, _, h1⟩
      · obtain ⟨_, c, hc⟩ := owns_block h2 hx.symm; exact ⟨c, _, hc⟩)
    have hLB : LBlock w.heap.size base V (w1.setCell ⟨NB, 0, none⟩ (.slice (some ⟨g', 0, none⟩) (un + 1) cap')) := fun k o hk ho hx => by
      refine (hch2.block k (Array.getElem?_eq_some_iff.1 ho).1 (fun e => ?_)).trans ho
      rcases e with rfl | e
      · omega
      · obtain ⟨hbk, c, hc⟩ := owns_block h2 e.symm
        rcases hx with hx | hx
        · omega
        · rw [hc] at ho; cases ho; exact hx _ _ rfl
    refine ⟨hcl _, ⟨hLB, hcl _⟩, _, boxed_set hbx1 _, ?_, ?_, ?_, LBlock.tr H5.out hLB⟩
    · rw [hspec.out, hspl.out]
      have := owns_set hown1 ⟨NB, 0, none⟩ (.slice (some ⟨g', 0, none⟩) (un + 1) cap') (owns_ne hown1 hbx1 (by decide))
      simpa using this
    · refine h3.trans ⟨hch2.os, hch2.tape, hch2.output, hch2.size, fun k hk => ?_⟩
      refine hch2.block k (by omega) (fun e => ?_)
      rcases e with rfl | e
      · omega
      · have := (owns_block h2 e.symm).1; omega
    · have := hch2.size; omega
  case done =>
    rintro D ys V hD hS ⟨v, h1, h2, h3, h4, h5⟩ hK
    have c1 := h1.cell
    gi_wp2
    refine ⟨by simp, .inl ⟨_, _, rfl, run_takeDeferred hK, ?_⟩⟩
    have hk := kept_of_grown (grownBy_putObj' V D (.deferred none)) (fun r e => by cases e; exact ⟨_, hK, rfl⟩)
    refine ⟨_, results_tmp rfl _ _ _, v, ys, rfl, hS, owns_kept h2 (fun g c _ hc => hk g c _ _ hc), ?_⟩
    exact ⟨below_put h3 (by omega) (by omega), h5.grown (grownBy_putObj' V D (.deferred none)) (fun r e => by cases e; omega)⟩

theorem last_cell {W : World} {b : Nat} {v : Value} {xs : List (Gd × Int)} (h : W.ownsRow b 172 4 v xs.length (xs.flatMap lastC)) {k : Nat} (hk : k < xs.length) :
    ∃ (g c : Nat), v = .slice (some ⟨g, 0, none⟩) xs.length c ∧ W.cell? ⟨g, k * 4, none⟩ = some (.string (xs[k]).1.rel) ∧ W.cell? ⟨g, k * 4 + 1, none⟩ = some (.string (xs[k]).1.x) ∧ W.cell? ⟨g, k * 4 + 2, none⟩ = some (.string (xs[k]).1.y) ∧ W.cell? ⟨g, k * 4 + 3, none⟩ = some (.int .i64 (xs[k]).2) := by
  obtain ⟨_, ⟨_, hz⟩ | ⟨g, c, cur, hv, _, hw, _, _, _, htk⟩⟩ := h
  · omega
  have hflat : ∀ (l : List (Gd × Int)) (i : Nat) (hi : i < l.length), (l.flatMap lastC)[i * 4]? = some (.string (l[i]).1.rel) ∧ (l.flatMap lastC)[i * 4 + 1]? = some (.string (l[i]).1.x) ∧ (l.flatMap lastC)[i * 4 + 2]? = some (.string (l[i]).1.y) ∧ (l.flatMap lastC)[i * 4 + 3]? = some (.int .i64 (l[i]).2) := by
    intro l
    induction l with
    | nil => intro i hi; simp at hi
    | cons x l ih =>
      intro i hi
      cases i with
      | zero => simp [lastC]
      | succ i =>
        simp only [List.length_cons] at hi
        have := ih i (by omega)
        simp only [List.flatMap_cons, lastC, List.cons_append, List.nil_append]
        rw [show (i + 1) * 4 = i * 4 + 4 by omega]
        exact this
  obtain ⟨p0, p1, p2, p3⟩ := hflat xs k hk
  rw [← htk, List.getElem?_take, if_pos (by omega)] at p0 p1 p2 p3
  refine ⟨g, c, hv, ?_, ?_, ?_, ?_⟩
  · simp only [World.cell?, hw]; simpa using p0
  · simp only [World.cell?, hw]; simpa using p1
  · simp only [World.cell?, hw]; simpa using p2
  · simp only [World.cell?, hw]; simpa using p3

set_option maxRecDepth 100000 in
set_option maxHeartbeats 1000000 in
theorem valuesL_seq (B base Bs b : Nat) (v : Value) (xs : List (Gd × Int)) (w : World) (hbox : w.heap[Bs]? = some (Obj.cells #[v] 169 (0, 0))) (hBs : Bs < B) (hown : w.ownsRow b 172 4 v xs.length (xs.flatMap lastC)) (hrow : ∀ g, v.ownBlock = some g → g < base ∧ g < B) (hl : xs.length ≤ 1000000) (m n0 : Nat) :
    SeqM m n0 186 #[.pointer (some ⟨Bs, 0, none⟩)] (fun x : Gd × Int => #[.agg (lastC x).toArray]) (LKept B base m) (fun ys => ys = xs) (fun _ => True) xs.length w := by
  obtain ⟨n, hn⟩ : ∃ n, 12 ≤ n := ⟨12, Nat.le_refl _⟩
  refine SeqM.any (n := n) ?_ n0
  have n1 : 1 ≤ n := by omega
  intro l J Jx W hW hsz hJ hJx hY h0
  have hbW := (hW.block Bs (Array.getElem?_eq_some_iff.1 hbox).1).trans hbox
  have howW := own_below hown hW
  clear hbox hown hW
  obtain ⟨va, vc, rfl⟩ := owns_form howW
  have c0 : W.cell? ⟨Bs, 0, none⟩ = some (.slice va xs.length vc) := by simp [World.cell?, hbW]
  have HY : Hid _ := hY
  have HJ : Hid (OwnFrom W.heap.size J) := hJ
  have HJx : Hid (OwnFrom W.heap.size Jx) := hJx
  clear hY hJ hJx
  refine callsIn_of_wp_marks Tryz.func186 rfl trivial ?_ rfl
  simp only [Tryz.ntmps186, List.size_toArray, List.length_cons, List.length_nil, Nat.reduceAdd, Nat.reduceSub, Array.replicate_succ, Array.replicate_zero, List.push_toArray, List.append_toArray, List.nil_append, List.cons_append]
  gi_wp2
  refine wpIn_loop (fun A V => ∃ (k : Nat) (u4 u8 u9 u10 u11 u12 u13 u14 u15 : Value), A = { tmps := #[.func (.yield l) #[] #[], .pointer (some ⟨Bs, 0, none⟩), undef, undef, u4, .slice va xs.length vc, .int .i64 xs.length, .int .i64 k, u8, u9, u10, u11, u12, u13, u14, u15], defers := [] } ∧ k ≤ xs.length ∧ J (xs.take k) V ∧ LKept B base m W V) (fun A _ => xs.length - (intOf (A.tmps.getD 7 undef)).toNat) ⟨0, _, _, _, _, _, _, _, _, _, rfl, Nat.zero_le _, by simpa using h0, LKept.ofBelow (Below.refl _ _)⟩ ?_
  rintro A V ⟨k, u4, u8, u9, u10, u11, u12, u13, u14, u15, rfl, hk, hJk, hLk⟩
  by_cases hlt : k < xs.length
  · have hoV : V.ownsRow b 172 4 (.slice va xs.length vc) xs.length (xs.flatMap lastC) := owns_kept howW (fun g c hg hc => hLk.block g _ (hrow g hg).2 hc (.inl (hrow g hg).1))
    obtain ⟨g, c, e0, x0, x1, x2, x3⟩ := last_cell hoV hlt
    cases e0
    have hal : ∀ O, Below V.heap.size V (V.alloc O) := fun O => (Below.refl _ V).alloc (Nat.le_refl _) O
    have hspec : Hid (xs.take (k + 1) = xs.take k ++ [xs[k]]) := by show _ = _; rw [List.take_succ_eq_append_getElem hlt]
    obtain ⟨fn, tmps, assign, body, hy, hR⟩ := HY.out (xs.take k) xs[k] (V.alloc (.cells #[.string (xs[k]).1.rel, .string (xs[k]).1.x, .string (xs[k]).1.y, .int .i64 (xs[k]).2] 172)) (HJ.out _ _ _ none hJk (below_grownBy (hal _)) (fun r e => by cases e)) (by simp; omega)
    unfold lastC at hy
    generalize hxk : xs[k] = xk at *
    have HLK : Hid _ := hLk
    have HB : Hid _ := hal
    clear hoV howW hal hLk hxk
    gi_wp2
    refine hR.mono ?_
    rintro e W1 (⟨rfl, hJ1, hk1⟩ | ⟨rfl, hJx1, _⟩)
    · clear hy hR
      gi_wp2
      refine ⟨⟨k + 1, _, _, _, _, _, _, _, _, _, rfl, by omega, by rw [hspec.out]; exact hJ1, (LKept.tr HLK.out (LKept.ofBelow (HB.out _))).tr hk1⟩, ?_⟩
      simp [intOf]; omega
    · clear hy hR
      gi_wp2
      exact ⟨_, results_none rfl _ _ _, ⟨_, rfl⟩, .inr ⟨_, trivial, hJx1⟩⟩
  · have hkl : k = xs.length := by omega
    subst hkl
    rw [List.take_length] at hJk
    gi_wp2
    exact ⟨_, results_none rfl _ _ _, ⟨_, rfl⟩, .inl ⟨xs, rfl, hJk⟩⟩

def cmpL (x y : Gd × Int) : Int := Lib.compareInt x.2 y.2
set_option maxHeartbeats 1000000 in
theorem least1_any (x y : Gd × Int) (w : World) : Calls Tryz.prog 132 #[.agg (lastC x).toArray, .agg (lastC y).toArray] w fun e w' => e = .returned (.int .i64 (cmpL x y)) ∧ ∃ q os, w' = Sort.grow (w.drewN q) os := by
  unfold lastC cmpL
  have hc := fun W => Tryz.cmp_Compare_int x.2 y.2 W
  go_enter Tryz.func132, Tryz.ntmps132
  go_wp2_with (go_at_call 133; refine (hc _).mono ?_; rintro e W1 ⟨rfl, rfl⟩)
  go_ret
  refine ⟨rfl, 0, #[Obj.cells #[.string x.1.rel, .string x.1.x, .string x.1.y, .int .i64 x.2] 172] ++ #[Obj.cells #[.string y.1.rel, .string y.1.x, .string y.1.y, .int .i64 y.2] 172], ?_⟩
  rw [Sort.alloc_eq_grow, Sort.alloc_eq_grow]
  show Sort.grow (Sort.grow w _) _ = Sort.grow w _
  rw [Sort.grow_grow]

end Go.Proofs.YtjajnhemgphefaaGreatDoor

namespace Go.Proofs.YtjajnhemgphefaaGreatDoor
open Go.RowKit Go.Shelf Go.Maps
set_option linter.unusedVariables false
set_option linter.unusedSimpArgs false

theorem flat_last (x0 : Gd × Int) : ∀ (xs : List (Gd × Int)) (t : Nat), t < xs.length * 4 → (xs.flatMap lastC)[t]? = (lastC (xs[t / 4]?.getD x0))[t % 4]?
  | [], t, h => by simp at h
  | x :: xs, t, h => by
    by_cases h4 : t < 4
    · have hc : t = 0 ∨ t = 1 ∨ t = 2 ∨ t = 3 := by omega
      rcases hc with rfl | rfl | rfl | rfl <;> simp [lastC]
    · obtain ⟨s, rfl⟩ : ∃ s, t = s + 4 := ⟨t - 4, by omega⟩
      simp only [List.length_cons] at h
      have ih := flat_last x0 xs s (by omega)
      have e1 : (s + 4) / 4 = s / 4 + 1 := by omega
      have e2 : (s + 4) % 4 = s % 4 := by omega
      rw [List.flatMap_cons, List.getElem?_append_right (by simp [lastC]), e1, e2]
      simp only [lastC_len, Nat.add_sub_cancel, List.getElem?_cons_succ]
      exact ih

abbrev lastI : Inhabited (Gd × Int) := ⟨(⟨⟨#[]⟩, ⟨#[]⟩, ⟨#[]⟩⟩, 0)⟩
theorem flatK_last (xs : List (Gd × Int)) : (@Sort.flatK _ lastI lastC 4 xs.toArray).toList = xs.flatMap lastC := by
  letI := lastI
  refine List.ext_getElem? (fun t => ?_)
  by_cases h : t < xs.length * 4
  · rw [flat_last lastI.default xs t h]
    have h4 : t / 4 < xs.length := by omega
    simp only [Sort.flatK, Array.toList_map, List.getElem?_map, Array.getElem?_toList]
    rw [Array.getElem?_range, if_pos (by simpa using h)]
    have hm : t % 4 < 4 := by omega
    have hx : xs[t / 4]?.getD lastI.default = xs[t / 4] := by rw [List.getElem?_eq_getElem h4]; rfl
    have hy : xs.toArray[t / 4]! = xs[t / 4] := by simp [h4]
    rw [hx]
    simp only [Option.map_some, hy]
    have hl : t % 4 < (lastC xs[t / 4]).length := by rw [lastC_len]; exact hm
    rw [List.getElem?_eq_getElem hl]
    simp [hl]
  · have h1 : (xs.flatMap lastC).length = xs.length * 4 := by
      induction xs with
      | nil => rfl
      | cons x xs ih => simp only [List.length_cons] at h; rw [List.flatMap_cons, List.length_append, ih (by omega), lastC_len, List.length_cons]; omega
    rw [List.getElem?_eq_none (by simp; omega), List.getElem?_eq_none (by omega)]

theorem sort_heap {w : World} {blk n : Nat} {cur : Array Value} {T : TypeId} (F : Array Value) (os : Array Obj) (hb : w.heap[blk]? = some (Obj.cells cur T (0, 0))) (hF : F.size ≤ cur.size) :
    (Sort.grow (Sort.putRow id (Sort.ahead w n) blk 0 F) os).heap[blk]? = some (Obj.cells (Sort.putCells id 0 F cur) T (0, 0)) ∧ (∀ k, k < w.heap.size → k ≠ blk → (Sort.grow (Sort.putRow id (Sort.ahead w n) blk 0 F) os).heap[k]? = w.heap[k]?) ∧ (Sort.putCells id 0 F cur).size = cur.size ∧ (Sort.putCells id 0 F cur).toList.take F.size = F.toList := by
  have hlt := (Array.getElem?_eq_some_iff.1 hb).1
  refine ⟨?_, fun k hk hne => ?_, by simp [Sort.putCells], ?_⟩
  · simp only [Sort.grow, Sort.putRow, Sort.mapBlock, Sort.ahead]
    rw [Array.getElem?_append_left (by simpa using hlt), Array.getElem?_modify, if_pos rfl, hb]
    rfl
  · simp only [Sort.grow, Sort.putRow, Sort.mapBlock, Sort.ahead]
    rw [Array.getElem?_append_left (by simpa using hk), Array.getElem?_modify, if_neg (fun e => hne e.symm)]
  · refine List.ext_getElem? (fun t => ?_)
    by_cases h : t < F.size
    · rw [List.getElem?_take, if_pos h]
      have hc : t < cur.size := by omega
      simp [Sort.putCells, h, hc]
    · rw [List.getElem?_take, if_neg h, List.getElem?_eq_none (by simpa using h)]

theorem cmpL_lt (x y : Gd × Int) : @Go.Proofs.ltOf (Gd × Int) cmpL x y = decide (x.2 < y.2) := by
  unfold Go.Proofs.ltOf cmpL Lib.compareInt
  by_cases h : x.2 < y.2
  · simp [h]
  · by_cases h2 : x.2 > y.2
    · simp [h, h2]
    · simp [h, h2]

theorem sortL_any (v : Value) (xs : List (Gd × Int)) (b : Nat) (w : World) (hown : w.ownsRow b 172 4 v xs.length (xs.flatMap lastC)) (hl : xs.length ≤ 1000000) :
    Calls Tryz.prog 185 #[v, .func (.func 132) #[] #[]] w fun e w' => e = .returned (.tuple #[]) ∧ ∃ ys : List (Gd × Int), ys.Perm xs ∧ ys.Pairwise (fun a b => a.2 ≤ b.2) ∧ w'.ownsRow b 172 4 v ys.length (ys.flatMap lastC) ∧ Chg w w' (fun k => some k = v.ownBlock) := by
  letI := lastI
  have hown' := hown
  obtain ⟨hlen, ⟨hv, hn⟩ | ⟨g, cap, cur, hv, hb, hh, h1, h2, h3, h4⟩⟩ := hown
  · subst hv
    have : xs = [] := List.eq_nil_of_length_eq_zero hn
    subst this
    refine (AnyF.slices_SortFunc_none Tryz.sortLasting none 0 _ w).mono ?_
    rintro e w' ⟨rfl, rfl⟩
    exact ⟨rfl, [], .refl _, .nil, hown', Chg.refl _ _⟩
  · subst hv
    have hlt := (Array.getElem?_eq_some_iff.1 hh).1
    have hfl : (Sort.flatK lastC 4 xs.toArray).toList = xs.flatMap lastC := flatK_last xs
    have hH : Sort.HoldsK lastC 4 w g 0 xs.toArray := by
      intro j hj
      have hj' : j < xs.length * 4 := by simpa using hj
      refine ⟨?_, by simp [World.frozen?, hh]⟩
      have e1 : (Sort.flatK lastC 4 xs.toArray).toList[j]? = cur.toList[j]? := by
        rw [hfl, ← h4, List.getElem?_take, if_pos hj']
      have e2 : (Sort.flatK lastC 4 xs.toArray)[j]? = cur[j]? := by simpa using e1
      have e3 : (Sort.flatK lastC 4 xs.toArray)[j]? = some (Sort.flatK lastC 4 xs.toArray)[j]! := by
        rw [Array.getElem?_eq_getElem hj]; exact congrArg some (getElem!_pos (Sort.flatK lastC 4 xs.toArray) j hj).symm
      simp only [World.cell?, hh]
      rw [e3] at e2
      simpa using e2.symm
    refine (AnyQ.slices_SortFunc Tryz.sortLasting 4 (fun W => Tryz.isAgg172 W) (fun W => Tryz.sizeOf172 W) lastC lastC_len (fun x u hu => by
        simp only [lastC, List.mem_cons, List.not_mem_nil, or_false] at hu
        rcases hu with rfl | rfl | rfl | rfl <;> rfl) cmpL ⟨fun x => ?_, fun x y z => ?_, fun x y z => ?_⟩ 132 #[] g 0 cap xs.toArray w (enters_of Tryz.func132 (by kernel_rfl) rfl) (fun m os dk hs x y => ?_) hH hlt (by simp; omega)).mono ?_
    · rw [cmpL_lt]; simp
    · rw [cmpL_lt, cmpL_lt, cmpL_lt]; simp; omega
    · rw [cmpL_lt, cmpL_lt, cmpL_lt]; simp; omega
    · exact (least1_any x y _)
    · rintro e w' ⟨rfl, d', n, os, hp, hs, rfl⟩
      obtain ⟨p1, p2, p3⟩ := hp
      have hd : d'.size = xs.length := by simpa using p1
      have hperm : d'.toList.Perm xs := by
        have q1 : d'.extract 0 xs.toArray.size = d' := by rw [Array.extract_eq_self_of_le (by simp [hd])]
        have q2 : xs.toArray.extract 0 xs.toArray.size = xs.toArray := by rw [Array.extract_eq_self_of_le (Nat.le_refl _)]
        rw [q1, q2] at p3
        simpa using p3
      refine ⟨rfl, d'.toList, hperm, ?_, ?_, ?_⟩
      · rw [List.pairwise_iff_getElem]
        intro i j hi hj hij
        have := hs i j (Nat.zero_le _) hij (by simp at hj ⊢; omega)
        rw [cmpL_lt] at this
        simp at hi hj
        simp [hi, hj] at this
        simpa using this
      · have hF : (Sort.flatK lastC 4 d').size ≤ cur.size := by simp [hd, h3]; exact Nat.mul_le_mul_right _ h1
        obtain ⟨s1, s2, s3, s4⟩ := sort_heap (n := n) (Sort.flatK lastC 4 d') os hh hF
        have hfd : (Sort.flatK lastC 4 d').toList = d'.toList.flatMap lastC := by
          have := flatK_last d'.toList
          simpa using this
        refine ⟨?_, .inr ⟨g, cap, _, by simp [hd], hb, s1, by simp [hd]; exact h1, h2, s3.trans h3, ?_⟩⟩
        · rw [← hfd]; simp
        · have : d'.toList.length * 4 = (Sort.flatK lastC 4 d').size := by simp
          rw [this, s4, hfd]
      · have hF : (Sort.flatK lastC 4 d').size ≤ cur.size := by simp [hd, h3]; exact Nat.mul_le_mul_right _ h1
        obtain ⟨s1, s2, s3, s4⟩ := sort_heap (n := n) (Sort.flatK lastC 4 d') os hh hF
        exact ⟨rfl, rfl, rfl, size_sortWorldK_c _ _ _ _ _ _ _ _, fun k hk hx => s2 k hk (fun e => hx (by rw [e]; rfl))⟩

set_option maxHeartbeats 1000000 in
theorem collectL_any (v : Value) (xs : List (Gd × Int)) (b Bs : Nat) (w : World) (hbox : w.heap[Bs]? = some (Obj.cells #[v] 169 (0, 0))) (hown : w.ownsRow b 172 4 v xs.length (xs.flatMap lastC)) (hl : xs.length ≤ 1000000) :
    Calls Tryz.prog 184 #[.func (.func 186) #[] #[.pointer (some ⟨Bs, 0, none⟩)]] w fun e w' => ∃ v', e = .returned v' ∧ w'.ownsRow w.heap.size 172 4 v' xs.length (xs.flatMap lastC) ∧ Below w.heap.size w w' := by
  have hap := appendSeqL_any (.slice none 0 0) [] w.heap.size w ⟨rfl, .inl ⟨rfl, rfl⟩⟩ (Nat.le_refl _) (by simp; omega) (enters_of Tryz.func186 (by kernel_rfl) rfl)
    (fun m n => valuesL_seq w.heap.size w.heap.size Bs b v xs w hbox (Array.getElem?_eq_some_iff.1 hbox).1 hown (fun g hg => by
      obtain ⟨_, c, hc⟩ := owns_block hown hg
      have := (Array.getElem?_eq_some_iff.1 hc).1
      exact ⟨this, this⟩) hl m n)
  have HAP : Hid (Calls Tryz.prog 134 #[.slice none 0 0, .func (.func 186) #[] #[.pointer (some ⟨Bs, 0, none⟩)]] w fun e w' => ∃ oa oc, e = .returned (.slice oa xs.length oc) ∧ w'.ownsRow w.heap.size 172 4 (.slice oa xs.length oc) xs.length (xs.flatMap lastC) ∧ Below w.heap.size w w') := by
    refine hap.mono ?_
    rintro e W1 ⟨v', ys, rfl, hys, ho, hb, _⟩
    have hys' : ys = xs := hys
    rw [hys', List.nil_append] at ho
    obtain ⟨oa, oc, hof⟩ := owns_form ho
    subst hof
    exact ⟨oa, oc, rfl, ho, hb⟩
  clear hap hown hbox
  go_enter Tryz.func184, Tryz.ntmps184
  go_wp2_with (go_at_call 134; refine (HAP.out).mono ?_; rintro e W1 ⟨oa, oc, rfl, ho, hb⟩)
  go_ret
  exact ⟨_, rfl, ho, hb⟩

set_option maxHeartbeats 1000000 in
theorem sortedL_any (v : Value) (xs : List (Gd × Int)) (b Bs : Nat) (w : World) (hbox : w.heap[Bs]? = some (Obj.cells #[v] 169 (0, 0))) (hown : w.ownsRow b 172 4 v xs.length (xs.flatMap lastC)) (hl : xs.length ≤ 1000000) :
    Calls Tryz.prog 130 #[.func (.func 186) #[] #[.pointer (some ⟨Bs, 0, none⟩)], .func (.func 132) #[] #[]] w fun e w' => ∃ (v' : Value) (ys : List (Gd × Int)), e = .returned v' ∧ ys.Perm xs ∧ ys.Pairwise (fun a b => a.2 ≤ b.2) ∧ w'.ownsRow w.heap.size 172 4 v' ys.length (ys.flatMap lastC) ∧ Below w.heap.size w w' := by
  have HC : Hid (Calls Tryz.prog 184 #[.func (.func 186) #[] #[.pointer (some ⟨Bs, 0, none⟩)]] w fun e w' => ∃ oa oc, e = .returned (.slice oa xs.length oc) ∧ w'.ownsRow w.heap.size 172 4 (.slice oa xs.length oc) xs.length (xs.flatMap lastC) ∧ Below w.heap.size w w') := by
    refine (collectL_any v xs b Bs w hbox hown hl).mono ?_
    rintro e W1 ⟨v', rfl, ho, hb⟩
    obtain ⟨oa, oc, hof⟩ := owns_form ho
    subst hof
    exact ⟨oa, oc, rfl, ho, hb⟩
  have HSF : Hid (∀ oa oc W, W.ownsRow w.heap.size 172 4 (.slice oa xs.length oc) xs.length (xs.flatMap lastC) → Calls Tryz.prog 185 #[.slice oa xs.length oc, .func (.func 132) #[] #[]] W fun e w' => e = .returned (.tuple #[]) ∧ ∃ ys : List (Gd × Int), ys.Perm xs ∧ ys.Pairwise (fun a b => a.2 ≤ b.2) ∧ w'.ownsRow w.heap.size 172 4 (.slice oa xs.length oc) ys.length (ys.flatMap lastC) ∧ Chg W w' (fun k => some k = (Value.slice oa xs.length oc).ownBlock)) := fun oa oc W ho => sortL_any _ xs _ W ho hl
  clear hown hbox
  go_enter Tryz.func130, Tryz.ntmps130
  go_wp2_with (first | (go_at_call 184; refine (HC.out).mono ?_; rintro e W1 ⟨oa, oc, rfl, ho, hb⟩) | (go_at_call 185; refine (HSF.out oa oc W1 ho).mono ?_; rintro e W2 ⟨rfl, ys, hp, hs, ho2, hch⟩))
  go_ret
  refine ⟨_, ys, rfl, hp, hs, ho2, hb.trans ⟨hch.os, hch.tape, hch.output, hch.size, fun k hk => hch.block k (by have := hb.size; omega) (fun e => ?_)⟩⟩
  have := (owns_block ho e.symm).1
  omega

end Go.Proofs.YtjajnhemgphefaaGreatDoor

namespace Go.Proofs.YtjajnhemgphefaaGreatDoor
open Go.RowKit Go.Shelf Go.Maps
set_option linter.unusedVariables false
set_option linter.unusedSimpArgs false
attribute [local go_sem] Oper.semAt_some

def argsG (g : Gd) : List ByteArray := if g.y.toList.isEmpty = true then [g.x] else [g.x, g.y]
def joinG (g : Gd) : ByteArray := ⟨(Lib.join ((argsG g).map (·.data.toList)) (⟨#[44]⟩ : ByteArray).data.toList).toArray⟩
/-- The text of a ground atom. -/
def textG (g : Gd) : ByteArray := g.rel ++ ⟨#[40]⟩ ++ joinG g ++ ⟨#[41]⟩

theorem join_len (g : Gd) (h2 : g.x.size ≤ 2000) (h3 : g.y.size ≤ 2000) : (Lib.join ((argsG g).map (·.data.toList)) (⟨#[44]⟩ : ByteArray).data.toList).length ≤ 4001 := by
  have e1 : g.x.data.toList.length = g.x.size := by simp
  have e2 : g.y.data.toList.length = g.y.size := by simp
  unfold argsG
  split
  · simp [Lib.join]; omega
  · simp [Lib.join]; omega

set_option maxHeartbeats 2000000 in
theorem text_any (g : Gd) (w : World) (h1 : g.rel.size ≤ 2000) (h2 : g.x.size ≤ 2000) (h3 : g.y.size ≤ 2000) :
    Calls Tryz.prog 91 #[g.v] w fun e w' => e = .returned (.string (textG g)) ∧ Below w.heap.size w w' := by
  have hjl := join_len g h2 h3
  have hjs : (joinG g).size ≤ 4001 := by
    show (joinG g).data.size ≤ _
    unfold joinG
    simpa using hjl
  obtain ⟨N, hN⟩ : ∃ N, w.heap.size = N := ⟨_, rfl⟩
  have hcell : ∀ W1, Below (N + 1) (w.alloc (.cells #[.string g.rel, .string g.x, .string g.y] 111)) W1 → W1.heap[N]? = some (Obj.cells #[.string g.rel, .string g.x, .string g.y] 111 (0, 0)) := by
    intro W1 hb
    have := World.alloc_heap_new w (.cells #[.string g.rel, .string g.x, .string g.y] 111)
    rw [hN] at this
    exact (hb.block N (by omega)).trans this
  have hjo : Hid (∀ W1, Below (N + 1) (w.alloc (.cells #[.string g.rel, .string g.x, .string g.y] 111)) W1 → ∀ ln, (argsG g).length = ln → Calls Tryz.prog 153 #[.slice (some ⟨N, 1, none⟩) ln 2, .string ⟨#[44]⟩] W1 fun e w' => e = .returned (.string (joinG g)) ∧ Below W1.heap.size W1 w' ∧ w'.cell? ⟨N, 0, none⟩ = some (.string g.rel) ∧ Below (N + 1) (w.alloc (.cells #[.string g.rel, .string g.x, .string g.y] 111)) w') := by
    rintro W1 hb ln rfl
    have hh := hcell W1 hb
    have hs := hb.size
    rw [World.size_alloc, hN] at hs
    have hal : (argsG g).length ≤ 2 := by unfold argsG; split <;> simp
    refine (Tryz.strings_Join N 1 2 (argsG g) ⟨#[44]⟩ W1 ?_ (by omega) (by omega) hal (by omega)).mono ?_
    · intro j x hj
      simp only [World.cell?, hh]
      unfold argsG at hj
      split at hj
      · match j, hj with
        | 0, hj => simp at hj; subst hj; simp
      · match j, hj with
        | 0, hj => simp at hj; subst hj; simp
        | 1, hj => simp at hj; subst hj; simp
    · rintro e w' ⟨rfl, hb'⟩
      refine ⟨rfl, hb', ?_, hb.trans (hb'.mono (by omega))⟩
      have := hcell w' (hb.trans (hb'.mono (by omega)))
      simp [World.cell?, this]
  have htx : Hid (textG g = g.rel ++ ⟨#[40]⟩ ++ joinG g ++ ⟨#[41]⟩) := rfl
  have hb0 : Hid (Below (N + 1) (w.alloc (.cells #[.string g.rel, .string g.x, .string g.y] 111)) (w.alloc (.cells #[.string g.rel, .string g.x, .string g.y] 111)).drew) := (Below.refl _ _).drew
  have HW : Hid (∀ W1, Below (N + 1) (w.alloc (.cells #[.string g.rel, .string g.x, .string g.y] 111)) W1 → Below w.heap.size w W1) := fun W1 hb => ((Below.refl _ w).alloc (Nat.le_refl _) _).trans (hb.mono (by omega))
  unfold Gd.v Gd.c
  generalize textG g = tx at *
  generalize joinG g = jg at *
  clear hcell hjl
  cases hy : g.y.toList.isEmpty with
  | true =>
    have hjo1 : Hid (∀ W1, Below (N + 1) (w.alloc (.cells #[.string g.rel, .string g.x, .string g.y] 111)) W1 → Calls Tryz.prog 153 #[.slice (some ⟨N, 1, none⟩) 1 2, .string ⟨#[44]⟩] W1 fun e w' => e = .returned (.string jg) ∧ Below W1.heap.size W1 w' ∧ w'.cell? ⟨N, 0, none⟩ = some (.string g.rel) ∧ Below (N + 1) (w.alloc (.cells #[.string g.rel, .string g.x, .string g.y] 111)) w') := fun W1 hb => hjo.out W1 hb 1 (by unfold argsG; rw [if_pos hy]; rfl)
    clear hjo
    go_enter Tryz.func91, Tryz.ntmps91
    go_wp2
    (try simp only [hN])
    go_region_with (go_at_call 153; refine (hjo1.out _ hb0.out).mono ?_; rintro e W1 ⟨rfl, hb1, hc1, hb2⟩)
    all_goals go_wp2
    all_goals go_ret
    all_goals rw [htx.out]
    all_goals exact ⟨rfl, HW.out W1 hb2⟩
  | false =>
    have hjo1 : Hid (∀ W1, Below (N + 1) (w.alloc (.cells #[.string g.rel, .string g.x, .string g.y] 111)) W1 → Calls Tryz.prog 153 #[.slice (some ⟨N, 1, none⟩) 2 2, .string ⟨#[44]⟩] W1 fun e w' => e = .returned (.string jg) ∧ Below W1.heap.size W1 w' ∧ w'.cell? ⟨N, 0, none⟩ = some (.string g.rel) ∧ Below (N + 1) (w.alloc (.cells #[.string g.rel, .string g.x, .string g.y] 111)) w') := fun W1 hb => hjo.out W1 hb 2 (by unfold argsG; rw [if_neg (by rw [hy]; simp)]; rfl)
    clear hjo
    go_enter Tryz.func91, Tryz.ntmps91
    go_wp2
    (try simp only [hN])
    go_region_with (go_at_call 153; refine (hjo1.out _ hb0.out).mono ?_; rintro e W1 ⟨rfl, hb1, hc1, hb2⟩)
    all_goals go_wp2
    all_goals go_ret
    all_goals rw [htx.out]
    all_goals exact ⟨rfl, HW.out W1 hb2⟩

end Go.Proofs.YtjajnhemgphefaaGreatDoor
