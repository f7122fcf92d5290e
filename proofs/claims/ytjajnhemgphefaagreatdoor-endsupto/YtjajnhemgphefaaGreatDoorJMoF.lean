/-
  Package model: the iterator over the names with which a model has an atom.
-/
import Derived.Test.YtjajnhemgphefaaGreatDoorJMoE
import Derived.Test.YtjajnhemgphefaaGreatDoorJRangeM
import Derived.Maps.OwnIn
import Derived.Sort.MapsRangeIn
namespace Go.Proofs.YtjajnhemgphefaaGreatDoor
open Go.RowKit Go.Shelf Go.Maps
set_option linter.unusedVariables false
set_option linter.unusedSimpArgs false
attribute [local go_sem] Oper.semAt_some

theorem extend_any (B : Nat) (a : Am) (va : Value) (put : Nms) (w : World) (ta : Option Addr) (tn tc : Nat) (hva : va = .slice ta tn tc) :
    Calls Tryz.prog 94 #[.map (some B), .agg #[.string a.rel, va], put.v] w fun e w' => e = .returned (.func (.func 156) #[] #[.pointer (some ⟨w.heap.size, 0, none⟩), .pointer (some ⟨w.heap.size + 1, 0, none⟩), .pointer (some ⟨w.heap.size + 2, 0, none⟩)]) ∧
      w' = ((w.alloc (.cells #[.map (some B)] 98)).alloc (.cells #[.string a.rel, va] 92)).alloc (.cells put.c 176) := by
  subst hva
  unfold Nms.v Nms.c
  go_enter Tryz.func94, Tryz.ntmps94
  go_wp2
  go_ret
  exact ⟨rfl, rfl⟩

/-- Types of cells that a loop over an iterator of this package may write. -/
def MFix (t : TypeId) : Prop := t ≠ 9 ∧ t ≠ 22 ∧ t ≠ 172 ∧ t ≠ 169

/-- What a loop over an iterator of this package leaves alone. -/
structure MKept (m : Nat) (W W' : World) : Prop where
  cells : ∀ (k : Nat) (c : Array Value) (t : TypeId), MFix t → W.heap[k]? = some (Obj.cells c t (0, 0)) → W'.heap[k]? = some (Obj.cells c t (0, 0))
  maps : ∀ (k : Nat) (es : Array MapEntry) (c : Nat), W.heap[k]? = some (Obj.map es c) → W'.heap[k]? = some (Obj.map es c)
  from' : KeepsFrom m W W'

theorem MKept.tr {m : Nat} {A B C : World} (h : MKept m A B) (k : MKept m B C) : MKept m A C := ⟨fun i c t ht hi => k.cells i c t ht (h.cells i c t ht hi), fun i es c hi => k.maps i es c (h.maps i es c hi), KeepsFrom.tr h.from' k.from'⟩
theorem MKept.ofBelow {m : Nat} {W W' : World} (h : Below W.heap.size W W') : MKept m W W' := ⟨fun k c t _ hk => (h.block k (Array.getElem?_eq_some_iff.1 hk).1).trans hk, fun k es c hk => (h.block k (Array.getElem?_eq_some_iff.1 hk).1).trans hk, KeepsFrom.ofBelow h⟩
theorem MKept.put {m : Nat} (W : World) (l : Nat) (o o' : Obj) (hl : l < m) (h : W.heap[l]? = some o) (ho : o.isCells = false) (hom : ∀ es c, o ≠ Obj.map es c) : MKept m W (W.putObj l o') :=
  ⟨fun k c t _ hk => kept_of_grown (grownBy_putObj' W l o') (fun r e => by cases e; exact ⟨_, h, ho⟩) k c _ _ hk,
   fun k es c hk => ((grownBy_putObj' W l o').block k (Array.getElem?_eq_some_iff.1 hk).1 (fun e => by cases e; rw [h] at hk; cases hk; exact hom _ _ rfl)).trans hk,
    (grownBy_putObj' W l o').size, fun k x hk hx _ => ((grownBy_putObj' W l o').block k (Array.getElem?_eq_some_iff.1 hx).1 (by simp; omega)).trans hx⟩
theorem MKept.up {m m' : Nat} {A B : World} (h : MKept m A B) (hm : m ≤ m') : MKept m' A B := ⟨h.cells, h.maps, KeepsFrom.up h.from' hm⟩

theorem SealT.mk {m : Nat} {W W' : World} {b : Nat} {v : Value} {l : List Tm} (h : SealT W b v l) (hk : MKept m W W') : SealT W' b v l := by
  refine h.kept (fun k c _ hc => hk.cells k c _ (by unfold MFix; decide) hc)
theorem MdAt.mk {m : Nat} {W W' : World} {B n : Nat} {M : Gd → Option Int} (h : MdAt W B n M) (hk : MKept m W W') : MdAt W' B n M := h.kept hk.maps

theorem ranges_same {W W' : World} {k : TypeId} {R : Value → Option (DataW Value × List MemPlace)} {b r n : Nat} {D : DataW Value} {left : Lit → Bool} {cnt : Nat} (h : W.ranges Tryz.prog k R b r n D left cnt) (hb : W'.heap[b]? = W.heap[b]?) (hr : W'.heap[r]? = W.heap[r]?) : W'.ranges Tryz.prog k R b r n D left cnt := by
  obtain ⟨es, clock, since, seen, c0, h1, h2, h3, h4, h5, h6⟩ := h
  exact ⟨es, clock, since, seen, c0, hb.trans h1, h2, h3, h4, hr.trans h5, h6⟩

set_option maxRecDepth 100000 in
theorem formed_thing {v : Value} (h : v.formed Tryz.prog 109 = true) : ∃ a b, v = .agg #[a, b] := by
  unfold Value.formed at h
  rewrite [Tryz.underlying109] at h
  cases v <;> simp at h
  rename_i xs
  rewrite [thing_cells] at h
  obtain ⟨l⟩ := xs
  match l, h with
  | [a, b], _ => exact ⟨a, b, rfl⟩
  | [], h => simp at h
  | [a], h => simp at h
  | a :: b :: c :: l, h => simp at h
set_option maxRecDepth 100000 in
theorem lits_str {d : Nat} {v : Value} {r : List Lit} (h : Tryz.prog.keyLits (d + 1) 9 [v] = some r) : ∃ s : ByteArray, v = .string s ∧ r = [.string s.data.toList] ∧ s.size ≤ maxLen := by
  unfold Program.keyLits at h
  rewrite [Tryz.underlying9] at h
  cases v <;> simp at h
  obtain ⟨h1, h2⟩ := h
  exact ⟨_, rfl, h2.symm, h1⟩
set_option maxRecDepth 100000 in
theorem keyOf_thing_inv {v : Value} {l : Lit} (h : keyOf Tryz.prog 109 v = some l) : ∃ x y, v = thingV x y ∧ l = kT x y ∧ x.size ≤ maxLen ∧ y.size ≤ maxLen := by
  obtain ⟨d, hd⟩ := types_size
  have h' := h
  unfold keyOf at h
  rewrite [Tryz.underlying109] at h
  simp only [thing_keyType, Bool.true_and, hd] at h
  split at h
  · rename_i hf
    obtain ⟨a, b, rfl⟩ := formed_thing hf
    have hk : ∃ x y : ByteArray, a = .string x ∧ b = .string y ∧ x.size ≤ maxLen ∧ y.size ≤ maxLen := by
      unfold Program.keyLits at h
      rewrite [Tryz.underlying109] at h
      simp only [thing_cells, str_cells, Value.cells] at h
      simp [List.range_succ] at h
      cases ha : Tryz.prog.keyLits (d + 1) 9 [a] with
      | none => rw [ha] at h; simp at h
      | some ra =>
        rw [ha] at h
        cases hb : Tryz.prog.keyLits (d + 1) 9 [b] with
        | none => rw [hb] at h; simp at h
        | some rb =>
          obtain ⟨x, rfl, _, hx⟩ := lits_str ha
          obtain ⟨y, rfl, _, hy⟩ := lits_str hb
          exact ⟨x, y, rfl, rfl, hx, hy⟩
    obtain ⟨x, y, rfl, rfl, hx, hy⟩ := hk
    have := keyOf_thing x y hx hy
    unfold thingV at this
    rewrite [this] at h'
    cases h'
    exact ⟨x, y, rfl, rfl, hx, hy⟩
  · cases h

/-- The boxes that extend's iterator has captured, and the atom's arguments. -/
structure ExSt (Bm Ba Bp B b87 : Nat) (a : Am) (va : Value) (put : Nms) (W : World) : Prop where
  bm : W.heap[Bm]? = some (Obj.cells #[.map (some B)] 98 (0, 0))
  ba : W.heap[Ba]? = some (Obj.cells #[.string a.rel, va] 92 (0, 0))
  bp : W.heap[Bp]? = some (Obj.cells put.c 176 (0, 0))
  sl : SealT W b87 va a.args
theorem ExSt.kept {Bm Ba Bp B b87 : Nat} {a : Am} {va : Value} {put : Nms} {W W' : World} (h : ExSt Bm Ba Bp B b87 a va put W) (hk : ∀ (k : Nat) (c : Array Value) (t : TypeId), MFix t → W.heap[k]? = some (Obj.cells c t (0, 0)) → W'.heap[k]? = some (Obj.cells c t (0, 0))) : ExSt Bm Ba Bp B b87 a va put W' :=
  ⟨hk _ _ _ (by unfold MFix; decide) h.bm, hk _ _ _ (by unfold MFix; decide) h.ba, hk _ _ _ (by unfold MFix; decide) h.bp, h.sl.kept (fun k c _ hc => hk k c _ (by unfold MFix; decide) hc)⟩
theorem ExSt.below {Bm Ba Bp B b87 : Nat} {a : Am} {va : Value} {put : Nms} {W W' : World} (h : ExSt Bm Ba Bp B b87 a va put W) (hb : Below W.heap.size W W') : ExSt Bm Ba Bp B b87 a va put W' :=
  h.kept (fun k c t _ hk => (hb.block k (Array.getElem?_eq_some_iff.1 hk).1).trans hk)
theorem ExSt.cells {Bm Ba Bp B b87 : Nat} {a : Am} {va : Value} {put : Nms} {W : World} (h : ExSt Bm Ba Bp B b87 a va put W) :
    W.cell? ⟨Ba, 0, none⟩ = some (.string a.rel) ∧ W.cell? ⟨Ba, 1, none⟩ = some va ∧ W.cell? ⟨Bp, 0, none⟩ = some (.string put.a0) ∧ W.cell? ⟨Bp, 1, none⟩ = some (.string put.a1) ∧ W.cell? ⟨Bp, 2, none⟩ = some (.string put.a2) ∧ W.cell? ⟨Bp, 3, none⟩ = some (.string put.a3) ∧ W.cell? ⟨Bp, 4, none⟩ = some (.string put.a4) ∧ W.cell? ⟨Bp, 5, none⟩ = some (.string put.a5) := by
  have h1 := h.ba
  have h2 := h.bp
  unfold Nms.c at h2
  simp [World.cell?, h1, h2]

/-- How far the range over a relation's things has come. -/
structure ExRg (b r nn : Nat) (Di : DataW Value) (put : Nms) (a : Am) (W : World) (ks : List (ByteArray × ByteArray)) (ys : List Nms) (cnt : Nat) : Prop where
  rg : ∃ left, W.ranges Tryz.prog 109 (plainElem Tryz.prog 3) b r nn Di left cnt ∧ ∀ x y : ByteArray, x.size ≤ maxLen → y.size ≤ maxLen → ((x, y) ∈ ks ↔ Maps.has Di (kT x y) = true ∧ left (kT x y) = false)
  nodup : ks.Nodup
  sizes : ∀ k ∈ ks, k.1.size ≤ maxLen ∧ k.2.size ≤ maxLen
  few : ks.length + cnt ≤ nn
  out : ys = ks.filterMap (fun k => matchA put a k.1 k.2)

theorem ys_len {put : Nms} {a : Am} {ks : List (ByteArray × ByteArray)} : (ks.filterMap (fun k => matchA put a k.1 k.2)).length ≤ ks.length := List.length_filterMap_le _ _

theorem matchF_sizes {c : Nat} : ∀ (l : List (Tm × ByteArray)) (n m : Nms), (∀ k, (n.get k).size ≤ c) → (∀ p ∈ l, p.1.num < 6 ∧ p.2.size ≤ c) → matchF n l = some m → ∀ k, (m.get k).size ≤ c
  | [], n, m, hn, _, h => by simp only [matchF, Option.some.injEq] at h; subst h; exact hn
  | p :: l, n, m, hn, hl, h => by
    simp only [matchF] at h
    cases hs : matchStep n p.1 p.2 with
    | none => rw [hs] at h; cases h
    | some n' =>
      rw [hs] at h
      refine matchF_sizes l n' m ?_ (fun q hq => hl q (List.mem_cons_of_mem _ hq)) h
      obtain ⟨h6, hz⟩ := hl p List.mem_cons_self
      unfold matchStep at hs
      split at hs
      · cases hs
        unfold putT
        split
        · intro k
          rw [Nms.get_set _ _ _ _ h6]
          split
          · exact hz
          · exact hn k
        · exact hn
      · cases hs

theorem kT_same {x y x' y' : ByteArray} (hx : x.size ≤ maxLen) (hy : y.size ≤ maxLen) (hx' : x'.size ≤ maxLen) (hy' : y'.size ≤ maxLen) : (kT x' y').sameKey (kT x y) = decide (x' = x ∧ y' = y) := by
  rw [Bool.eq_iff_iff, WideAt.sameKey_iff (thingKey.key (keyOf_thing x y hx hy)), decide_eq_true_iff]
  exact ⟨fun h => kT_inj hx' hy' hx hy h, by rintro ⟨rfl, rfl⟩; rfl⟩

theorem ExRg.step {b r nn : Nat} {Di : DataW Value} {put : Nms} {a : Am} {W W' : World} {ks : List (ByteArray × ByteArray)} {ys : List Nms} {cnt cnt' : Nat} {left : Lit → Bool} {x y : ByteArray} {d : DataW Value}
    (hleft : ∀ x y : ByteArray, x.size ≤ maxLen → y.size ≤ maxLen → ((x, y) ∈ ks ↔ Maps.has Di (kT x y) = true ∧ left (kT x y) = false)) (hnd : ks.Nodup) (hks : ∀ k ∈ ks, k.1.size ≤ maxLen ∧ k.2.size ≤ maxLen) (hfew : ks.length + cnt ≤ nn) (hout : ys = ks.filterMap (fun k => matchA put a k.1 k.2))
    (hx : x.size ≤ maxLen) (hy : y.size ≤ maxLen) (hlk : left (kT x y) = true) (hat : ∀ zd, Di.atKey (kT x y) zd = d) (hrg : W.ranges Tryz.prog 109 (plainElem Tryz.prog 3) b r nn Di (fun z => left z && !z.sameKey (kT x y)) cnt') (hlt : cnt' < cnt)
    (hb : W'.heap[b]? = W.heap[b]?) (hr : W'.heap[r]? = W.heap[r]?) : ExRg b r nn Di put a W' (ks ++ [(x, y)]) (ys ++ (matchA put a x y).toList) cnt' := by
  refine ⟨⟨_, ranges_same hrg hb hr, fun x' y' hx' hy' => ?_⟩, ?_, ?_, by simp; omega, ?_⟩
  · rw [kT_same hx hy hx' hy']
    by_cases h : x' = x ∧ y' = y
    · obtain ⟨rfl, rfl⟩ := h
      simp [Maps.has_true_of_atKey hat]
    · rw [decide_eq_false h]
      simp only [List.mem_append, List.mem_singleton, Prod.mk.injEq, h, or_false, Bool.not_false, Bool.and_true]
      exact hleft x' y' hx' hy'
  · rw [List.nodup_append]
    refine ⟨hnd, by simp, ?_⟩
    rintro k hk k' hk' rfl
    simp only [List.mem_singleton] at hk'
    subst hk'
    have := ((hleft x y hx hy).1 hk).2
    rw [hlk] at this; cases this
  · intro k hk
    rcases List.mem_append.1 hk with h | h
    · exact hks k h
    · simp only [List.mem_singleton] at h; subst h; exact ⟨hx, hy⟩
  · rw [List.filterMap_append, hout]
    cases h : matchA put a x y <;> simp [h]

/-- Names of no great size. -/
def NmB (c : Nat) := { p : Nms // ∀ k, (p.get k).size ≤ c }
abbrev NmX := NmB maxLen

set_option maxRecDepth 100000 in
set_option maxHeartbeats 4000000 in
theorem extend_seq4 (sz : Nat) (n : Nat) (hn : 4 ≤ n) (Bm Ba Bp B nn b87 : Nat) (M : Gd → Option Int) (a : Am) (va : Value) (put : Nms) (w : World)
    (hm : w.heap[Bm]? = some (Obj.cells #[.map (some B)] 98 (0, 0))) (ha : w.heap[Ba]? = some (Obj.cells #[.string a.rel, va] 92 (0, 0))) (hp : w.heap[Bp]? = some (Obj.cells put.c 176 (0, 0)))
    (hM : MdAt w B nn M) (hS : SealT w b87 va a.args) (hal : a.args.length ≤ 2) (hnum : ∀ t ∈ a.args, t.num < 6) (hrel : a.rel.size ≤ maxLen) (hput : ∀ k, (put.get k).size ≤ sz) (hMs : ∀ x y, x.size ≤ maxLen → y.size ≤ maxLen → (M ⟨a.rel, x, y⟩).isSome = true → x.size ≤ sz ∧ y.size ≤ sz) (m : Nat) :
    SeqM m n 156 #[.pointer (some ⟨Bm, 0, none⟩), .pointer (some ⟨Ba, 0, none⟩), .pointer (some ⟨Bp, 0, none⟩)] (fun p : NmB sz => #[p.1.v]) (MKept m)
      (fun ys => ∃ ks : List (ByteArray × ByteArray), ks.Nodup ∧ (∀ x y, (x, y) ∈ ks ↔ (x.size ≤ maxLen ∧ y.size ≤ maxLen ∧ (M ⟨a.rel, x, y⟩).isSome = true)) ∧ ks.length ≤ nn ∧ ys.map (·.1) = ks.filterMap (fun k => matchA put a k.1 k.2)) (fun _ => True) nn w := by
  intro l J Jx W hW hsz hJ hJx hY h0
  have hkW : MKept m w W := MKept.ofBelow hW
  have hm' := hkW.cells _ _ _ (by unfold MFix; decide) hm
  have ha' := hkW.cells _ _ _ (by unfold MFix; decide) ha
  have hp' := hkW.cells _ _ _ (by unfold MFix; decide) hp
  have hM' := hM.mk hkW
  have hS' := hS.mk hkW
  clear hm ha hp hM hS hkW hW
  obtain ⟨ta, tc, hva⟩ := hS'.form
  subst hva
  have c0 : W.cell? ⟨Bm, 0, none⟩ = some (.map (some B)) := by simp [World.cell?, hm']
  have c1 : W.cell? ⟨Ba, 0, none⟩ = some (.string a.rel) := by simp [World.cell?, ha']
  obtain ⟨D, blk, o1, o2, o3, o4⟩ := hM'
  obtain ⟨mv, l1, l2⟩ := lookOuter o1 a.rel hrel
  have n1 : 1 ≤ n := by omega
  have HY : Hid _ := hY
  have HJ : Hid (OwnFrom W.heap.size J) := hJ
  have HJx : Hid (OwnFrom W.heap.size Jx) := hJx
  clear hY hJ hJx
  cases hbk : blk a.rel with
  | none =>
    obtain ⟨q1, q2⟩ := (o2 a.rel hrel).1 hbk
    rw [Maps.atKey_of_not_has q1] at l2
    cases l2
    have hnone : Hid (∃ ks' : List (ByteArray × ByteArray), ks'.Nodup ∧ (∀ x y, (x, y) ∈ ks' ↔ (x.size ≤ maxLen ∧ y.size ≤ maxLen ∧ (M ⟨a.rel, x, y⟩).isSome = true)) ∧ ks'.length ≤ nn ∧ ([] : List (NmB sz)).map (·.1) = ks'.filterMap (fun k => matchA put a k.1 k.2)) :=
      ⟨[], List.nodup_nil, fun x y => by simp [q2 x y], by simp, rfl⟩
    have hJ1 : Hid (J [] (W.alloc (.mapIter none 0 #[] 0))) := HJ.out _ _ _ none h0 (below_grownBy ((Below.refl _ W).alloc (Nat.le_refl _) _)) (fun r e => by cases e)
    have hrn := run_range_nilMap (P := Tryz.prog) W 174 109 3 Tryz.underlying174
    have hnx := fun ty => run_next_nilMap (P := Tryz.prog) W ty 0 0 #[]
    clear o1 o2 o3 o4 h0 hS' hbk q1 q2 hnum hput hMs
    refine callsIn_of_wp Tryz.func156 rfl trivial ?_
    simp only [Tryz.ntmps156, List.size_toArray, List.length_cons, List.length_nil, Nat.reduceAdd, Nat.reduceSub, Array.replicate_succ, Array.replicate_zero, List.push_toArray, List.append_toArray, List.nil_append, List.cons_append]
    gi_wp2
    gi_loopw [5] (fun _ wr => wr = W.alloc (.mapIter none 0 #[] 0)) (fun _ _ => 0)
    case atStart => rfl
    case round =>
      subst hrel
      gi_wp2
      go_end0
      exact ⟨⟨_, rfl⟩, .inl ⟨[], hnone.out, hJ1.out⟩⟩
  | some b =>
    obtain ⟨q1, q2, q3, Di, q4, q5⟩ := (o2 a.rel hrel).2 b hbk
    rw [q2] at l2
    cases l2
    have HO : Hid (W.ownsMap Tryz.prog 109 (plainElem Tryz.prog 3) b nn Di) := q4
    have HQ : Hid _ := q5
    have HH : Hid _ := h0
    have HS : Hid _ := hS'
    have HNm : Hid _ := hnum
    have HPut : Hid _ := hput
    have HMs : Hid _ := hMs
    clear o1 o2 o3 o4 q4 q5 h0 hS' hnum hput hbk q1 q2 hMs
    refine callsIn_of_wp Tryz.func156 rfl trivial ?_
    simp only [Tryz.ntmps156, List.size_toArray, List.length_cons, List.length_nil, Nat.reduceAdd, Nat.reduceSub, Array.replicate_succ, Array.replicate_zero, List.push_toArray, List.append_toArray, List.nil_append, List.cons_append]
    gi_wp2_with (gi_at_range; refine wpListIn_range_own _ rfl _ 174 rfl 109 3 thingKey Tryz.underlying174 (plainElem Tryz.prog 3) b nn Di rfl HO.out ?_; intro w1 hrg1 hgr1 hsz1)
    have hE : ExSt Bm Ba Bp B b87 a (.slice ta a.args.length tc) put W := ⟨hm', ha', hp', HS.out⟩
    have hb1 : Below W.heap.size W w1 := ⟨hgr1.os, hgr1.tape, hgr1.output, hgr1.size, fun k hk => hgr1.block k hk (by simp)⟩
    have hE1 := hE.below hb1
    have hJ1 : J [] w1 := HJ.out _ _ _ none HH.out hgr1 (fun r e => by cases e)
    have hR1 : ExRg b W.heap.size nn Di put a w1 [] [] (Maps.size Di) := ⟨⟨_, hrg1, fun x y _ _ => by simp⟩, List.nodup_nil, by simp, by simpa using World.ownsMap.size_le HO.out, rfl⟩
    obtain ⟨r, hr⟩ : ∃ r, W.heap.size = r := ⟨_, rfl⟩
    rw [hr] at HJ HJx hsz hR1
    simp only [hr]
    clear hm' ha' hp' hE c0 c1 l1 hrg1 hgr1 hb1
    gi_loopw [5] (fun _ wr => ∃ (ks : List (ByteArray × ByteArray)) (pre : List (NmB sz)) (cnt : Nat), J pre wr ∧ ExRg b r nn Di put a wr ks (pre.map (·.1)) cnt ∧ ExSt Bm Ba Bp B b87 a (.slice ta a.args.length tc) put wr ∧ r + 1 ≤ wr.heap.size ∧ b < r) (fun _ wr => wr.rangeLeft b r)
    case atStart => exact ⟨[], [], _, hJ1, hR1, hE1, by omega, by have := World.ownsMap.lt HO.out; omega⟩
    case round =>
      obtain ⟨ks, pre, cnt, hJk, ⟨⟨left, hrg, hleft⟩, hnd, hks, hfew, hout⟩, hEk, hrs, hbr⟩ := hrel
      gi_wp2_with (gi_at_next; refine wpListIn_next_ranges _ rfl _ rfl 109 thingKey (plainElem Tryz.prog 3) (fun p : ByteArray × ByteArray => .agg #[.string p.1, .string p.2]) (fun c : Int => Value.int .i64 c) (fun key kl hkey => by obtain ⟨x, y, rfl, _⟩ := keyOf_thing_inv hkey; exact ⟨(x, y), rfl⟩) (fun v y hv => by obtain ⟨c, rfl, _⟩ := plainElem_int_inv Tryz.underlying3 hv; exact ⟨c, rfl⟩) b r nn Di left cnt rfl hrg ?_ ?_)
      · intro _ hl0
        have hfin : Hid (∃ ks' : List (ByteArray × ByteArray), ks'.Nodup ∧ (∀ x y, (x, y) ∈ ks' ↔ (x.size ≤ maxLen ∧ y.size ≤ maxLen ∧ (M ⟨a.rel, x, y⟩).isSome = true)) ∧ ks'.length ≤ nn ∧ pre.map (·.1) = ks'.filterMap (fun k => matchA put a k.1 k.2)) := by
          refine ⟨ks, hnd, fun x y => ⟨fun h => ?_, fun h => ?_⟩, by omega, hout⟩
          · obtain ⟨k1, k2⟩ := hks _ h
            refine ⟨k1, k2, ?_⟩
            rw [← (HQ.out x y k1 k2).1]
            exact ((hleft x y k1 k2).1 h).1
          · obtain ⟨k1, k2, k3⟩ := h
            exact (hleft x y k1 k2).2 ⟨by rw [(HQ.out x y k1 k2).1]; exact k3, hl0 _⟩
        gi_wp2
        go_end0
        exact ⟨⟨_, rfl⟩, .inl ⟨pre, hfin.out, hJk⟩⟩
      · intro x y c kl d ps w' cnt' hkey hlk hv hat hrg' hlt hgr hszw hen
        obtain ⟨x', y', hxy, rfl, hx, hy⟩ := keyOf_thing_inv hkey
        obtain ⟨rfl, rfl⟩ : x = x' ∧ y = y' := by simpa [thingV] using hxy
        have hrit : ∃ o : Obj, wr.heap[r]? = some o ∧ o.isCells = false := by
          obtain ⟨es, clock, since, seen, c0, _, _, _, _, h5, _⟩ := hrg
          exact ⟨_, h5, rfl⟩
        have hJ' : J pre w' := HJ.out _ _ _ (some r) hJk hgr (fun r' e => by cases e; exact ⟨Nat.le_refl _, hrit⟩)
        have hE' : ExSt Bm Ba Bp B b87 a (.slice ta a.args.length tc) put w' := hEk.kept (fun k c t _ hk => kept_of_grown hgr (fun r' e => by cases e; exact hrit) k c t _ hk)
        have hma : Hid (∀ O, Calls Tryz.prog 157 #[.agg #[.string put.a0, .string put.a1, .string put.a2, .string put.a3, .string put.a4, .string put.a5], .agg #[.string a.rel, .slice ta a.args.length tc], .agg #[.string x, .string y]] (w'.alloc O) fun e W1 => e = .returned (matchV (matchA put a x y)) ∧ Below (w'.alloc O).heap.size (w'.alloc O) W1) := fun O =>
          match_any put a _ b87 x y _ (hE'.below ((Below.refl _ w').alloc (Nat.le_refl _) O)).sl hal HNm.out
        have hcl : ∀ O, _ := fun O => (hE'.below ((Below.refl _ w').alloc (Nat.le_refl _) O)).cells
        have k1 := fun O => (hcl O).1
        have k2 := fun O => (hcl O).2.1
        have k3 := fun O => (hcl O).2.2.1
        have k4 := fun O => (hcl O).2.2.2.1
        have k5 := fun O => (hcl O).2.2.2.2.1
        have k6 := fun O => (hcl O).2.2.2.2.2.1
        have k7 := fun O => (hcl O).2.2.2.2.2.2.1
        have k8 := fun O => (hcl O).2.2.2.2.2.2.2
        have hstep : Hid (∀ O W1 O', Below (w'.alloc O).heap.size (w'.alloc O) W1 → ∀ W2, MKept m (W1.alloc O') W2 → ExRg b r nn Di put a W2 (ks ++ [(x, y)]) (pre.map (·.1) ++ (matchA put a x y).toList) cnt' ∧ ExSt Bm Ba Bp B b87 a (.slice ta a.args.length tc) put W2 ∧ r + 1 ≤ W2.heap.size) := by
          intro O W1 O' hb W2 hk
          have hbb : Below w'.heap.size w' (W1.alloc O') := (((Below.refl _ w').alloc (Nat.le_refl _) O).trans (hb.mono (by simp))).alloc (by have := hb.size; simp at this; omega) _
          have hrg2 := ranges_same hrg' (hbb.block b (by omega)) (hbb.block r (by omega))
          refine ⟨ExRg.step hleft hnd hks hfew hout hx hy hlk hat hrg2 hlt ?_ ?_, (hE'.below hbb).kept hk.cells, by have := hbb.size; have := hk.from'.size; omega⟩
          · obtain ⟨es, clock, since, seen, c0, h1, _⟩ := hrg2
            rw [h1]; exact hk.maps _ _ _ h1
          · obtain ⟨es, clock, since, seen, c0, _, _, _, _, h5, _⟩ := hrg2
            rw [h5]; exact hk.from'.same _ _ (by omega) h5 rfl
        have hpl : pre.length < nn := by
          have h1 := ys_len (put := put) (a := a) (ks := ks)
          have h2 : pre.length = (ks.filterMap (fun k => matchA put a k.1 k.2)).length := by rw [← hout]; simp
          omega
        have HJ1 : Hid (∀ O W1 O', Below (w'.alloc O).heap.size (w'.alloc O) W1 → J pre (W1.alloc O')) := by
          intro O W1 O' hb
          have hbb : Below w'.heap.size w' (W1.alloc O') := (((Below.refl _ w').alloc (Nat.le_refl _) O).trans (hb.mono (by simp))).alloc (by have := hb.size; simp at this; omega) _
          exact HJ.out _ _ _ none hJ' (below_grownBy hbb) (fun r' e => by cases e)
        have hhas : Maps.has Di (kT x y) = true := by
          cases hh : Maps.has Di (kT x y) with
          | true => rfl
          | false =>
            have e1 := hat (.lit (.int .i64 0))
            have e2 := hat (.lit (.int .i64 1))
            rw [Maps.atKey_of_not_has hh] at e1 e2
            rw [← e2] at e1
            cases e1
        have hxys := HMs.out x y hx hy (by rw [← (HQ.out x y hx hy).1]; exact hhas)
        have hmsz : Hid (∀ p, matchA put a x y = some p → ∀ k, (p.get k).size ≤ sz) := fun p hp =>
          matchF_sizes _ _ _ HPut.out (fun q hq => ⟨HNm.out _ (List.of_mem_zip hq).1, by
            have := (List.of_mem_zip hq).2
            simp at this
            rcases this with h | h <;> rw [h]
            · exact hxys.1
            · exact hxys.2⟩) hp
        clear hhas hxys
        have hmeas : Hid (wr.rangeLeft b r = cnt) := hrg.left_eq
        clear hcl hJk hrg hEk hE' hJ' hrg' hleft hnd hks hout hrit hkey hv hat hxy hgr hrs
        cases hm1 : matchA put a x y with
        | none =>
          rw [hm1] at hma hstep
          unfold matchV Nms.v nms0 Nms.c at hma
          gi_wp2_with (refine ⟨trivial, ?_⟩; gi_at_call 157; refine (callsIn_wide.2 (hma.out _)).mono ?_; rintro e W1 ⟨rfl, hb1⟩)
          refine ⟨fun f h => (by cases h), ?_⟩
          gi_wp2
          obtain ⟨s1, s2, s3⟩ := hstep.out _ W1 _ hb1 _ (MKept.ofBelow (Below.refl _ _))
          refine ⟨⟨_, pre, cnt', HJ1.out _ W1 _ hb1, by simpa using s1, s2, s3, hbr⟩, ?_⟩
          obtain ⟨left', hrg2, _⟩ := s1.rg
          rw [hrg2.left_eq, hmeas.out]
          exact hlt
        | some p =>
          rw [hm1] at hma hstep
          have hpok := hmsz.out p hm1
          have hsplit : Hid (∀ O W1 O', Below (w'.alloc O).heap.size (w'.alloc O) W1 → YieldAt Fence.wide (n - 1) Tryz.prog l #[p.v] (W1.alloc O') fun e W' => (e = .returned (.bool true) ∧ J (pre ++ [⟨p, hpok⟩]) W' ∧ MKept m (W1.alloc O') W') ∨ (e = .returned (.bool false) ∧ Jx (pre ++ [⟨p, hpok⟩]) W' ∧ KeepsFrom m (W1.alloc O') W')) := fun O W1 O' hb =>
            HY.out pre ⟨p, hpok⟩ _ (HJ1.out O W1 O' hb) hpl
          unfold matchV Nms.v Nms.c at hma
          unfold Nms.v Nms.c at hsplit
          gi_wp2_with (first | (refine ⟨trivial, ?_⟩; gi_at_call 157; refine (callsIn_wide.2 (hma.out _)).mono ?_; rintro e W1 ⟨rfl, hb1⟩; obtain ⟨fn2, tmps2, assign2, body2, hy2, hR2⟩ := hsplit.out _ W1 (.cells #[.string p.a0, .string p.a1, .string p.a2, .string p.a3, .string p.a4, .string p.a5] 176) hb1))
          refine hR2.mono ?_
          rintro e W3 (⟨rfl, hJ3, hk3⟩ | ⟨rfl, hJx3, _⟩)
          · clear hy2 hR2
            gi_wp2
            obtain ⟨s1, s2, s3⟩ := hstep.out _ W1 _ hb1 W3 hk3
            refine ⟨⟨_, pre ++ [⟨p, hpok⟩], cnt', hJ3, by rw [List.map_append]; exact s1, s2, s3, hbr⟩, ?_⟩
            obtain ⟨left', hrg2, _⟩ := s1.rg
            rw [hrg2.left_eq, hmeas.out]
            exact hlt
          · clear hy2 hR2
            gi_wp2
            refine bodyPost_ret (results_none rfl _ _ _) rfl ?_
            exact ⟨⟨_, rfl⟩, .inr ⟨_, trivial, hJx3⟩⟩


theorem extend_seqB (sz : Nat) (n : Nat) (Bm Ba Bp B nn b87 : Nat) (M : Gd → Option Int) (a : Am) (va : Value) (put : Nms) (w : World)
    (hm : w.heap[Bm]? = some (Obj.cells #[.map (some B)] 98 (0, 0))) (ha : w.heap[Ba]? = some (Obj.cells #[.string a.rel, va] 92 (0, 0))) (hp : w.heap[Bp]? = some (Obj.cells put.c 176 (0, 0)))
    (hM : MdAt w B nn M) (hS : SealT w b87 va a.args) (hal : a.args.length ≤ 2) (hnum : ∀ t ∈ a.args, t.num < 6) (hrel : a.rel.size ≤ maxLen) (hput : ∀ k, (put.get k).size ≤ sz) (hMs : ∀ x y, x.size ≤ maxLen → y.size ≤ maxLen → (M ⟨a.rel, x, y⟩).isSome = true → x.size ≤ sz ∧ y.size ≤ sz) (m : Nat) :
    SeqM m n 156 #[.pointer (some ⟨Bm, 0, none⟩), .pointer (some ⟨Ba, 0, none⟩), .pointer (some ⟨Bp, 0, none⟩)] (fun p : NmB sz => #[p.1.v]) (MKept m)
      (fun ys => ∃ ks : List (ByteArray × ByteArray), ks.Nodup ∧ (∀ x y, (x, y) ∈ ks ↔ (x.size ≤ maxLen ∧ y.size ≤ maxLen ∧ (M ⟨a.rel, x, y⟩).isSome = true)) ∧ ks.length ≤ nn ∧ ys.map (·.1) = ks.filterMap (fun k => matchA put a k.1 k.2)) (fun _ => True) nn w :=
  SeqM.any (extend_seq4 sz 4 (Nat.le_refl _) Bm Ba Bp B nn b87 M a va put w hm ha hp hM hS hal hnum hrel hput hMs m) n


theorem extend_seq (n : Nat) (Bm Ba Bp B nn b87 : Nat) (M : Gd → Option Int) (a : Am) (va : Value) (put : Nms) (w : World)
    (hm : w.heap[Bm]? = some (Obj.cells #[.map (some B)] 98 (0, 0))) (ha : w.heap[Ba]? = some (Obj.cells #[.string a.rel, va] 92 (0, 0))) (hp : w.heap[Bp]? = some (Obj.cells put.c 176 (0, 0)))
    (hM : MdAt w B nn M) (hS : SealT w b87 va a.args) (hal : a.args.length ≤ 2) (hnum : ∀ t ∈ a.args, t.num < 6) (hrel : a.rel.size ≤ maxLen) (hput : ∀ k, (put.get k).size ≤ maxLen) (m : Nat) :
    SeqM m n 156 #[.pointer (some ⟨Bm, 0, none⟩), .pointer (some ⟨Ba, 0, none⟩), .pointer (some ⟨Bp, 0, none⟩)] (fun p : NmX => #[p.1.v]) (MKept m)
      (fun ys => ∃ ks : List (ByteArray × ByteArray), ks.Nodup ∧ (∀ x y, (x, y) ∈ ks ↔ (x.size ≤ maxLen ∧ y.size ≤ maxLen ∧ (M ⟨a.rel, x, y⟩).isSome = true)) ∧ ks.length ≤ nn ∧ ys.map (·.1) = ks.filterMap (fun k => matchA put a k.1 k.2)) (fun _ => True) nn w :=
  extend_seqB maxLen n Bm Ba Bp B nn b87 M a va put w hm ha hp hM hS hal hnum hrel hput (fun x y hx hy _ => ⟨hx, hy⟩) m

end Go.Proofs.YtjajnhemgphefaaGreatDoor
