/-
  The writers: an atom.
  The writers: a rule.
-/
import Derived.Test.YtjajnhemgphefaaGreatDoorJWr2
namespace Go.Proofs.YtjajnhemgphefaaGreatDoor
open Go.RowKit Go.Shelf
set_option linter.unusedVariables false
set_option linter.unusedSimpArgs false

def argsTxt : Nat → List Tm → List UInt8
  | _, [] => []
  | i, t :: l => (if i = 0 then [] else [44]) ++ termTxt t ++ argsTxt (i + 1) l
def atomTxt (a : Am) : List UInt8 := a.rel.data.toList ++ 40 :: argsTxt 0 a.args ++ [41]

set_option maxRecDepth 100000 in
set_option maxHeartbeats 1000000 in
theorem writeAtom_any (B b : Nat) (bs : List UInt8) (b87 : Nat) (va : Value) (A : Am) (W : World) (hb : Bld B b bs W)
    (hS : SealT W b87 va A.args) (hal : A.args.length ≤ 2) (ht : ∀ t ∈ A.args, t.num ≤ 90) (hl : (bs ++ atomTxt A).length ≤ 1000000) (hB : B ≤ W.heap.size) :
    Calls Tryz.prog 104 #[.pointer (some ⟨b, 0, none⟩), .agg #[.string A.rel, va]] W fun e W' => e = .returned (.tuple #[]) ∧ Wrote B b (bs ++ atomTxt A) W W' := by
  obtain ⟨ta, tc, htf⟩ := hS.form
  subst htf
  have hbl : Below W.heap.size W (W.alloc (.cells #[.string A.rel, .slice ta A.args.length tc] 92)) := (Below.refl _ W).alloc (Nat.le_refl _) _
  obtain ⟨W0, hW0⟩ : ∃ W0, W.alloc (.cells #[.string A.rel, .slice ta A.args.length tc] 92) = W0 := ⟨_, rfl⟩
  have hbox : W0.heap[W.heap.size]? = some (Obj.cells #[.string A.rel, .slice ta A.args.length tc] 92 (0, 0)) := by rw [← hW0]; exact World.alloc_heap_new W _
  have c00 : W0.cell? ⟨W.heap.size, 0, none⟩ = some (.string A.rel) := by simp [World.cell?, hbox]
  have hB0 : B ≤ W0.heap.size := by rw [← hW0]; simp; omega
  rw [hW0] at hbl
  have hb0 := hb.below hbl
  have hS0 := hS.rk (RuleKept.ofBelow hbl)
  have hlr : (bs ++ A.rel.data.toList).length ≤ 1000000 := by unfold atomTxt at hl; simp at hl ⊢; omega
  have hw1 := writeStr_any B b bs A.rel W0 hb0 hlr hB0
  have hw2 : ∀ W1, Wrote B b (bs ++ A.rel.data.toList) W0 W1 → Calls Tryz.prog 169 #[.pointer (some ⟨b, 0, none⟩), .int .u8 40] W1 fun e W' => e = .returned .nilIface ∧ Wrote B b (bs ++ A.rel.data.toList ++ [40]) W0 W' := fun W1 k =>
    (writeByte_any B b _ 40 W1 k.bld (by unfold atomTxt at hl; simp at hl ⊢; omega) (Nat.le_trans hB0 k.below.size)).mono (fun e W' h => ⟨h.1, k.trans h.2⟩)
  -- one term of the loop
  have hterm : ∀ (k : Nat) (hk : k < A.args.length) (bk : List UInt8) (W1 : World), Wrote B b bk W0 W1 → (bk ++ termTxt A.args[k]).length ≤ 1000000 → Calls Tryz.prog 170 #[.pointer (some ⟨b, 0, none⟩), .agg #[.string (A.args[k]).name, .int .i64 (A.args[k]).num]] W1 fun e W' => e = .returned (.tuple #[]) ∧ Wrote B b (bk ++ termTxt A.args[k]) W0 W' := fun k hk bk W1 h hlk =>
    (writeTerm_any B b bk A.args[k] W1 h.bld (ht _ (List.getElem_mem hk)) hlk (Nat.le_trans hB0 h.below.size)).mono (fun e W' h' => ⟨h'.1, h.trans h'.2⟩)
  have hcell : ∀ (k : Nat) (hk : k < A.args.length) (bk : List UInt8) (W1 : World), Wrote B b bk W0 W1 → ∃ g, ta = some ⟨g, 0, none⟩ ∧ W1.cell? ⟨g, k * 2, none⟩ = some (.string (A.args[k]).name) ∧ W1.cell? ⟨g, k * 2 + 1, none⟩ = some (.int .i64 (A.args[k]).num) := fun k hk bk W1 h => by
    obtain ⟨g, c', h1, h2, h3, h4⟩ := seal_cell (hS0.rk (h.rk hb0)) hk
    cases h1
    exact ⟨g, rfl, h2, h3⟩
  have halloc : ∀ (bk : List UInt8) (W1 : World) (O : Obj), Wrote B b bk W0 W1 → Wrote B b bk W0 (W1.alloc O) := fun bk W1 O h => by
    have hx : Below W1.heap.size W1 (W1.alloc O) := (Below.refl _ W1).alloc (Nat.le_refl _) O
    exact ⟨h.bld.below hx, h.below.trans (hx.mono (Nat.le_trans hB0 h.below.size)), h.others.trans (others_below hx)⟩
  have hcomma : ∀ (bk : List UInt8) (W1 : World), Wrote B b bk W0 W1 → (bk ++ [44]).length ≤ 1000000 → Calls Tryz.prog 169 #[.pointer (some ⟨b, 0, none⟩), .int .u8 44] W1 fun e W' => e = .returned .nilIface ∧ Wrote B b (bk ++ [44]) W0 W' ∧ Wrote B b (bk ++ [44]) W1 W' := fun bk W1 k hlk =>
    (writeByte_any B b _ 44 W1 k.bld hlk (Nat.le_trans hB0 k.below.size)).mono (fun e W' h => ⟨h.1, k.trans h.2, h.2⟩)
  have hclose : ∀ (bk : List UInt8) (W1 : World), Wrote B b bk W0 W1 → (bk ++ [41]).length ≤ 1000000 → Calls Tryz.prog 169 #[.pointer (some ⟨b, 0, none⟩), .int .u8 41] W1 fun e W' => e = .returned .nilIface ∧ Wrote B b (bk ++ [41]) W W' := fun bk W1 k hlk =>
    (writeByte_any B b _ 41 W1 k.bld hlk (Nat.le_trans hB0 k.below.size)).mono (fun e W' h => ⟨h.1, Wrote.after hbl hB (k.trans h.2)⟩)
  have hbx2 : ∀ (bk : List UInt8) (W1 : World), Wrote B b bk W0 W1 → W1.heap[W.heap.size]? = some (Obj.cells #[.string A.rel, .slice ta A.args.length tc] 92 (0, 0)) := fun bk W1 k => k.cells hb0 hbox (by decide) (by decide)
  have hbx3 : ∀ (bk bk' : List UInt8) (W1 W2 : World) (x y : Value), Wrote B b bk W0 (W1.alloc (.cells #[x, y] 166)) → Wrote B b bk' (W1.alloc (.cells #[x, y] 166)) W2 → W2.heap[W1.heap.size]? = some (Obj.cells #[x, y] 166 (0, 0)) := fun bk bk' W1 W2 x y k k' => k'.cells k.bld (World.alloc_heap_new W1 _) (by decide) (by decide)
  have hfull : Hid (bs ++ atomTxt A = bs ++ A.rel.data.toList ++ [40] ++ argsTxt 0 A.args ++ [41]) := by show _ = _; unfold atomTxt; simp
  have HL : Hid ((bs ++ A.rel.data.toList ++ [40] ++ argsTxt 0 A.args ++ [41]).length ≤ 1000000) := by show _ ≤ _; rw [← hfull.out]; exact hl
  have H1 : Hid _ := hw1
  have H2 : Hid _ := hw2
  have H3 : Hid _ := hterm
  have H4 : Hid _ := hcell
  have H5 : Hid _ := halloc
  have H6 : Hid _ := hcomma
  have H7 : Hid _ := hclose
  have H8 : Hid _ := hbx2
  have H9 : Hid _ := hbx3
  clear hw1 hw2 hterm hcell halloc hcomma hclose hbx2 hbx3 hl hlr hbl hbox hB0 hb0 hS0 hb hS ht hB
  generalize hpre : bs ++ A.rel.data.toList ++ [40] = p0 at *
  have HP : Hid (bs ++ A.rel.data.toList ++ [40] = p0) := hpre
  clear hpre
  go_enter Tryz.func104, Tryz.ntmps104
  go_wp2_with fail
  refine Calls.mono H1.out ?_
  rintro e W1 ⟨rfl, k1⟩
  clear hW0 c00
  go_wp2_with fail
  refine Calls.mono (H2.out W1 k1) ?_
  rintro e W2 ⟨rfl, k2⟩
  have hbx := H8.out _ W2 k2
  have c1 : W2.cell? ⟨W.heap.size, 1, none⟩ = some (.slice ta A.args.length tc) := by simp [World.cell?, hbx]
  clear hbx
  go_wp2
  go_loopw [15] (fun i wr => ∃ (k : Nat) (bk : List UInt8), k ≤ A.args.length ∧ i = .int .i64 k ∧ Hid (bk ++ argsTxt k (A.args.drop k) = p0 ++ argsTxt 0 A.args) ∧ Wrote B b bk W0 wr) (fun i _ => A.args.length - (intOf i).toNat)
  case atStart => exact ⟨0, p0, Nat.zero_le _, rfl, rfl, k2⟩
  case round =>
    obtain ⟨k, bk, hk, rfl, htxt, kw⟩ := hrel
    by_cases hlt : k < A.args.length
    · obtain ⟨g, rfl, q0, q1⟩ := H4.out k hlt bk wr kw
      have hstep : Hid (argsTxt k (A.args.drop k) = (if k = 0 then [] else [44]) ++ termTxt A.args[k] ++ argsTxt (k + 1) (A.args.drop (k + 1))) := by
        show _ = _; rw [List.drop_eq_getElem_cons hlt]; rfl
      have i1 : (k : Int) < (A.args.length : Int) := by omega
      have kwa := H5.out bk wr (.cells #[.string (A.args[k]).name, .int .i64 (A.args[k]).num] 166) kw
      by_cases hk0 : k = 0
      · subst hk0
        have hlk : (bk ++ termTxt A.args[0]).length ≤ 1000000 := by
          have h := congrArg List.length htxt.out
          rw [hstep.out] at h
          have h2 := HL.out
          simp at h h2 ⊢; omega
        have hcall := H3.out 0 hlt bk _ kwa hlk
        have hnext : Hid ((bk ++ termTxt A.args[0]) ++ argsTxt (0 + 1) (A.args.drop (0 + 1)) = p0 ++ argsTxt 0 A.args) := by
          show _ = _; rw [← htxt.out, hstep.out]; simp
        generalize A.args[0] = tk at *
        clear hstep htxt hlk
        go_wp2_with fail
        refine hcall.mono ?_
        rintro e W3 ⟨rfl, k3⟩
        go_wp2
        go_roundw
        case rel => exact ⟨0 + 1, _, by omega, by go_num, hnext, k3⟩
        case measure => simp [intOf]; omega
      · have hpos : (0 : Int) < (k : Int) := by omega
        have hl44 : (bk ++ [44]).length ≤ 1000000 ∧ (bk ++ [44] ++ termTxt A.args[k]).length ≤ 1000000 := by
          have h := congrArg List.length htxt.out
          rw [hstep.out, if_neg hk0] at h
          have h2 := HL.out
          simp at h h2 ⊢; omega
        have hnext : Hid ((bk ++ [44] ++ termTxt A.args[k]) ++ argsTxt (k + 1) (A.args.drop (k + 1)) = p0 ++ argsTxt 0 A.args) := by
          show _ = _; rw [← htxt.out, hstep.out, if_neg hk0]; simp
        have HC : Hid _ := H6.out bk _ kwa hl44.1
        have HT : Hid _ := fun W3 (k3 : Wrote B b (bk ++ [44]) W0 W3) => H3.out k hlt (bk ++ [44]) W3 k3 hl44.2
        generalize A.args[k] = tk at *
        clear hstep htxt hl44 hk0
        go_wp2_with fail
        refine Calls.mono HC.out ?_
        rintro e W3 ⟨rfl, k3, k3'⟩
        have hbx := H9.out _ _ _ _ _ _ kwa k3'
        have d0 : W3.cell? ⟨wr.heap.size, 0, none⟩ = some (.string tk.name) := by simp [World.cell?, hbx]
        have d1 : W3.cell? ⟨wr.heap.size, 1, none⟩ = some (.int .i64 tk.num) := by simp [World.cell?, hbx]
        clear hbx
        go_wp2_with fail
        refine Calls.mono (HT.out W3 k3) ?_
        rintro e W4 ⟨rfl, k4⟩
        go_wp2
        go_roundw
        case rel => exact ⟨k + 1, _, by omega, by go_num, hnext, k4⟩
        case measure => simp [intOf]; omega
    · have hbk : bk = p0 ++ argsTxt 0 A.args := by
        have := htxt.out
        rw [List.drop_of_length_le (by omega)] at this
        simpa [argsTxt] using this
      subst hbk
      have hcl := H7.out _ wr kw HL.out
      go_wp2_with fail
      refine hcl.mono ?_
      rintro e W3 ⟨rfl, k3⟩
      go_wp2
      go_end0
      rw [hfull.out]
      exact ⟨rfl, k3⟩

end Go.Proofs.YtjajnhemgphefaaGreatDoor

namespace Go.Proofs.YtjajnhemgphefaaGreatDoor
open Go.RowKit Go.Shelf
set_option linter.unusedVariables false
set_option linter.unusedSimpArgs false

def bodyTxt : Nat → List Am → List UInt8
  | _, [] => []
  | i, a :: l => (if i = 0 then [32, 58, 45, 32] else [44, 32]) ++ atomTxt a ++ bodyTxt (i + 1) l
def ruleTxt (r : Rl) : List UInt8 := atomTxt r.head ++ bodyTxt 0 r.body ++ [46, 10]

set_option maxRecDepth 100000 in
set_option maxHeartbeats 1000000 in
theorem writeRule_any (B b : Nat) (bs : List UInt8) (r : Rl) (v0 vb : Value) (b45 b87 : Nat) (W : World) (hb : Bld B b bs W) (hv : RuleV W b45 b87 r v0 vb) (hok : RuleOk r) (hl : (bs ++ ruleTxt r).length ≤ 1000000) (hB : B ≤ W.heap.size) :
    Calls Tryz.prog 62 #[.pointer (some ⟨b, 0, none⟩), .agg #[.string r.head.rel, v0, vb]] W fun e W' => e = .returned (.tuple #[]) ∧ Wrote B b (bs ++ ruleTxt r) W W' := by
  obtain ⟨fa, fc, hf0⟩ := hv.1.form
  obtain ⟨ga, gc, hfb⟩ := hv.2.form
  obtain ⟨W0, hW0⟩ : ∃ W0, W.alloc (.cells #[.string r.head.rel, v0, vb] 136) = W0 := ⟨_, rfl⟩
  have hbl : Below W.heap.size W W0 := by rw [← hW0]; exact (Below.refl _ W).alloc (Nat.le_refl _) _
  have hbox : W0.heap[W.heap.size]? = some (Obj.cells #[.string r.head.rel, v0, vb] 136 (0, 0)) := by rw [← hW0]; exact World.alloc_heap_new W _
  have hB0 : B ≤ W0.heap.size := Nat.le_trans hB hbl.size
  -- what is known behind variablesOf, and behind each writer after it
  have hfull : Hid (bs ++ ruleTxt r = bs ++ atomTxt r.head ++ bodyTxt 0 r.body ++ [46, 10]) := by show _ = _; unfold ruleTxt; simp
  have HL : Hid ((bs ++ atomTxt r.head ++ bodyTxt 0 r.body ++ [46, 10]).length ≤ 1000000) := by show _ ≤ _; rw [← hfull.out]; exact hl
  have hatom : ∀ W1, Below W0.heap.size W0 W1 → ∀ (bk : List UInt8) (W2 : World) (A : Am) (va : Value), Wrote B b bk W1 W2 → SealT W b87 va A.args → AmOk A → (bk ++ atomTxt A).length ≤ 1000000 →
      Calls Tryz.prog 104 #[.pointer (some ⟨b, 0, none⟩), .agg #[.string A.rel, va]] W2 fun e W' => e = .returned (.tuple #[]) ∧ Wrote B b (bk ++ atomTxt A) W1 W' := by
    intro W1 hb1 bk W2 A va hw hS hok1 hlk
    have hb1' : Bld B b bs W1 := (hb.below hbl).below hb1
    have hS1 : SealT W1 b87 va A.args := (hS.rk (RuleKept.ofBelow hbl)).rk (RuleKept.ofBelow hb1)
    refine (writeAtom_any B b bk b87 va A W2 hw.bld (hS1.rk (hw.rk hb1')) hok1.args (fun t ht => by have := (hok1.tms t ht).num; omega) hlk (Nat.le_trans (Nat.le_trans hB0 hb1.size) hw.below.size)).mono ?_
    exact fun e W' h => ⟨h.1, hw.trans h.2⟩
  have hstr : ∀ W1, Below W0.heap.size W0 W1 → ∀ (bk : List UInt8) (W2 : World) (s : ByteArray), Wrote B b bk W1 W2 → (bk ++ s.data.toList).length ≤ 1000000 →
      Calls Tryz.prog 105 #[.pointer (some ⟨b, 0, none⟩), .string s] W2 fun e W' => e = .returned (.tuple #[.int .i64 s.size, .nilIface]) ∧ Wrote B b (bk ++ s.data.toList) W1 W' ∧ Wrote B b (bk ++ s.data.toList) W2 W' := by
    intro W1 hb1 bk W2 s hw hlk
    exact (writeStr_any B b bk s W2 hw.bld hlk (Nat.le_trans (Nat.le_trans hB0 hb1.size) hw.below.size)).mono (fun e W' h => ⟨h.1, hw.trans h.2, h.2⟩)
  have hstart : ∀ W1, Below W0.heap.size W0 W1 → Wrote B b bs W1 W1 := fun W1 hb1 => ⟨(hb.below hbl).below hb1, Below.refl _ _, Lib.OthersKept.refl _ _ _⟩
  have hend : ∀ W1, Below W0.heap.size W0 W1 → ∀ (bk : List UInt8) (W2 : World), Wrote B b bk W1 W2 → Wrote B b bk W W2 := fun W1 hb1 bk W2 h => Wrote.after hbl hB (Wrote.after hb1 hB0 h)
  have hboxA : ∀ W1, Below W0.heap.size W0 W1 → ∀ (bk : List UInt8) (W2 : World), Wrote B b bk W1 W2 → W2.heap[W.heap.size]? = some (Obj.cells #[.string r.head.rel, v0, vb] 136 (0, 0)) := fun W1 hb1 bk W2 h =>
    h.cells ((hb.below hbl).below hb1) ((hb1.block _ (Array.getElem?_eq_some_iff.1 hbox).1).trans hbox) (by decide) (by decide)
  have halloc : ∀ W1, Below W0.heap.size W0 W1 → ∀ (bk : List UInt8) (W2 : World) (O : Obj), Wrote B b bk W1 W2 → Wrote B b bk W1 (W2.alloc O) := fun W1 hb1 bk W2 O h => by
    have hx : Below W2.heap.size W2 (W2.alloc O) := (Below.refl _ W2).alloc (Nat.le_refl _) O
    exact ⟨h.bld.below hx, h.below.trans (hx.mono (Nat.le_trans (Nat.le_trans hB0 hb1.size) h.below.size)), h.others.trans (others_below hx)⟩
  have hbx3 : ∀ (bk bk' : List UInt8) (W1 W2 W3 : World) (x y : Value), Wrote B b bk W1 (W2.alloc (.cells #[x, y] 92)) → Wrote B b bk' (W2.alloc (.cells #[x, y] 92)) W3 → W3.heap[W2.heap.size]? = some (Obj.cells #[x, y] 92 (0, 0)) := fun bk bk' W1 W2 W3 x y k k' => k'.cells k.bld (World.alloc_heap_new W2 _) (by decide) (by decide)
  have hcell : ∀ W1, Below W0.heap.size W0 W1 → ∀ (bk : List UInt8) (W2 : World), Wrote B b bk W1 W2 → ∀ k (hk : k < r.body.length), ∃ g off va, ga = some ⟨g, off, none⟩ ∧ W2.cell? ⟨g, off + k * 2, none⟩ = some (.string (r.body[k]).rel) ∧ W2.cell? ⟨g, off + k * 2 + 1, none⟩ = some va ∧ SealT W b87 va (r.body[k]).args := by
    intro W1 hb1 bk W2 hw k hk
    have hb1' : Bld B b bs W1 := (hb.below hbl).below hb1
    have hrk : RuleKept W W2 := ((RuleKept.ofBelow hbl).trans (RuleKept.ofBelow hb1)).trans (hw.rk hb1')
    obtain ⟨g, off, c, va, h1, h2, h3, h4, h5⟩ := sealA_cell hv.2 hk
    obtain ⟨g', off', c', va', h1', h2', h3', h4', h5'⟩ := sealA_cell (hv.2.rk hrk) hk
    rw [hfb] at h1 h1'
    cases h1
    cases h1'
    refine ⟨g, off, va, rfl, h2', ?_, h4⟩
    -- the same cell, in the world behind
    obtain ⟨ps, a, cap, e1, e2, e3, e4⟩ := hv.2
    obtain ⟨g2, off2, cur, k1, k2, k3, k4⟩ := e4 (by intro e; rw [e] at hk; simp at hk)
    rw [hfb] at e2
    cases e2
    cases k1
    have k3' := hrk _ _ _ (.inr (.inl rfl)) k3
    simp only [World.cell?, k3] at h3
    simp only [World.cell?, k3']
    exact h3
  have hargs : ∀ k (hk : k < r.body.length), AmOk r.body[k] := fun k hk => hok.ams _ (List.getElem_mem hk)
  have hhead : AmOk r.head := hok.head
  have hS0 := hv.1
  have c00 : W0.cell? ⟨W.heap.size, 0, none⟩ = some (.string r.head.rel) := by simp [World.cell?, hbox]
  have c01 : W0.cell? ⟨W.heap.size, 1, none⟩ = some v0 := by simp [World.cell?, hbox]
  have c02 : W0.cell? ⟨W.heap.size, 2, none⟩ = some vb := by simp [World.cell?, hbox]
  have hbody3 : r.body.length ≤ 3 := hok.body
  clear hv hok hl hb hbl hbox hB0 hB
  subst hf0 hfb
  have H2 : Hid _ := hatom
  have H3 : Hid _ := hstr
  have H4 : Hid _ := hstart
  have H5 : Hid _ := hend
  have H6 : Hid _ := hboxA
  have H7 : Hid _ := halloc
  have H8 : Hid _ := hbx3
  have H9 : Hid _ := hcell
  have HA : Hid _ := hargs
  have HH : Hid _ := hhead
  have HS : Hid _ := hS0
  clear hatom hstr hstart hend hboxA halloc hbx3 hcell hargs hhead hS0
  go_enter Tryz.func62, Tryz.ntmps62
  have hb1 : Below W0.heap.size W0 W0 := Below.refl _ _
  have k1 := H4.out W0 hb1
  have hbx := H6.out W0 hb1 bs W0 k1
  have d0 : W0.cell? ⟨W.heap.size, 0, none⟩ = some (.string r.head.rel) := by simp [World.cell?, hbx]
  have d1 : W0.cell? ⟨W.heap.size, 1, none⟩ = some (.slice fa r.head.args.length fc) := by simp [World.cell?, hbx]
  clear hbx
  have hlh : (bs ++ atomTxt r.head).length ≤ 1000000 := by have := HL.out; simp at this ⊢; omega
  have ha := H2.out W0 hb1 bs W0 r.head _ k1 HS.out HH.out hlh
  have HAT : Hid _ := ha
  clear ha
  go_wp2_with fail
  refine Calls.mono HAT.out ?_
  rintro e W2 ⟨rfl, k2⟩
  have hbx := H6.out W0 hb1 _ W2 k2
  have d2 : W2.cell? ⟨W.heap.size, 2, none⟩ = some (.slice ga r.body.length gc) := by simp [World.cell?, hbx]
  clear hbx d0 d1 hlh
  generalize hp0 : bs ++ atomTxt r.head = p0 at *
  have HP0 : Hid (bs ++ atomTxt r.head = p0) := hp0
  clear hp0
  go_wp2
  go_loopw [13] (fun i wr => ∃ (k : Nat) (bk : List UInt8), k ≤ r.body.length ∧ i = .int .i64 k ∧ Hid (bk ++ bodyTxt k (r.body.drop k) = p0 ++ bodyTxt 0 r.body) ∧ Wrote B b bk W0 wr) (fun i _ => r.body.length - (intOf i).toNat)
  case atStart => exact ⟨0, p0, Nat.zero_le _, rfl, rfl, k2⟩
  case round =>
    obtain ⟨k, bk, hk, rfl, htxt, kw⟩ := hrel
    by_cases hlt : k < r.body.length
    · obtain ⟨g, off, va, rfl, q0, q1, hSk⟩ := H9.out W0 hb1 bk wr kw k hlt
      obtain ⟨sa, sc, hsf⟩ := hSk.form
      have hok2 := HA.out k hlt
      have hstep : Hid (bodyTxt k (r.body.drop k) = (if k = 0 then [32, 58, 45, 32] else [44, 32]) ++ atomTxt r.body[k] ++ bodyTxt (k + 1) (r.body.drop (k + 1))) := by
        show _ = _; rw [List.drop_eq_getElem_cons hlt]; rfl
      have i1 : (k : Int) < (r.body.length : Int) := by omega
      subst hsf
      have kwa := H7.out W0 hb1 bk wr (.cells #[.string (r.body[k]).rel, .slice sa (r.body[k]).args.length sc] 92) kw
      have hsep : ∀ (sep : List UInt8), (if k = 0 then [32, 58, 45, 32] else [44, 32]) = sep → (bk ++ sep).length ≤ 1000000 ∧ (bk ++ sep ++ atomTxt r.body[k]).length ≤ 1000000 ∧ (bk ++ sep ++ atomTxt r.body[k]) ++ bodyTxt (k + 1) (r.body.drop (k + 1)) = p0 ++ bodyTxt 0 r.body := by
        intro sep hs
        have h := congrArg List.length htxt.out
        have h2 := HL.out
        have h3 : (bk ++ sep ++ atomTxt r.body[k]) ++ bodyTxt (k + 1) (r.body.drop (k + 1)) = p0 ++ bodyTxt 0 r.body := by rw [← htxt.out, hstep.out, hs]; simp
        refine ⟨?_, ?_, h3⟩
        · have h4 := congrArg List.length h3; simp at h4 h2 ⊢; omega
        · have h4 := congrArg List.length h3; simp at h4 h2 ⊢; omega
      have HT : Hid (∀ (bk' : List UInt8) (W3 : World), Wrote B b bk' W0 W3 → (bk' ++ atomTxt r.body[k]).length ≤ 1000000 → Calls Tryz.prog 104 #[.pointer (some ⟨b, 0, none⟩), .agg #[.string (r.body[k]).rel, .slice sa (r.body[k]).args.length sc]] W3 fun e W' => e = .returned (.tuple #[]) ∧ Wrote B b (bk' ++ atomTxt r.body[k]) W0 W') := fun bk' W3 h h' => H2.out W0 hb1 bk' W3 r.body[k] _ h hSk hok2 h'
      by_cases hk0 : k = 0
      · obtain ⟨l1, l2, htx⟩ := hsep [32, 58, 45, 32] (by rw [if_pos hk0])
        have HC : Hid _ := H3.out W0 hb1 bk _ ⟨#[32, 58, 45, 32]⟩ kwa l1
        have HX : Hid _ := htx
        have HT2 : Hid _ := fun W3 h => HT.out (bk ++ [32, 58, 45, 32]) W3 h l2
        have e0 : ((k : Int) == 0) = true := by simp [hk0]
        clear hstep htxt hsep HT l1 l2 htx hk0 hSk hok2
        generalize r.body[k] = ak at *
        go_wp2_with fail
        refine Calls.mono HC.out ?_
        rintro e W3 ⟨rfl, k3, k3'⟩
        have hbx := H8.out _ _ _ _ _ _ _ kwa k3'
        have e1 : W3.cell? ⟨wr.heap.size, 0, none⟩ = some (.string ak.rel) := by simp [World.cell?, hbx]
        have e2 : W3.cell? ⟨wr.heap.size, 1, none⟩ = some (.slice sa ak.args.length sc) := by simp [World.cell?, hbx]
        clear hbx
        go_wp2_with fail
        refine Calls.mono (HT2.out W3 k3) ?_
        rintro e W4 ⟨rfl, k4⟩
        go_wp2
        go_roundw
        case rel => exact ⟨k + 1, _, by omega, by go_num, HX.out, k4⟩
        case measure => simp [intOf]; omega
      · obtain ⟨l1, l2, htx⟩ := hsep [44, 32] (by rw [if_neg hk0])
        have HC : Hid _ := H3.out W0 hb1 bk _ ⟨#[44, 32]⟩ kwa l1
        have HX : Hid _ := htx
        have HT2 : Hid _ := fun W3 h => HT.out (bk ++ [44, 32]) W3 h l2
        have e0 : ((k : Int) == 0) = false := by simp [hk0]
        clear hstep htxt hsep HT l1 l2 htx hk0 hSk hok2
        generalize r.body[k] = ak at *
        go_wp2_with fail
        refine Calls.mono HC.out ?_
        rintro e W3 ⟨rfl, k3, k3'⟩
        have hbx := H8.out _ _ _ _ _ _ _ kwa k3'
        have e1 : W3.cell? ⟨wr.heap.size, 0, none⟩ = some (.string ak.rel) := by simp [World.cell?, hbx]
        have e2 : W3.cell? ⟨wr.heap.size, 1, none⟩ = some (.slice sa ak.args.length sc) := by simp [World.cell?, hbx]
        clear hbx
        go_wp2_with fail
        refine Calls.mono (HT2.out W3 k3) ?_
        rintro e W4 ⟨rfl, k4⟩
        go_wp2
        go_roundw
        case rel => exact ⟨k + 1, _, by omega, by go_num, HX.out, k4⟩
        case measure => simp [intOf]; omega
    · have hbk : bk = p0 ++ bodyTxt 0 r.body := by
        have := htxt.out
        rw [List.drop_of_length_le (by omega)] at this
        simpa [bodyTxt] using this
      subst hbk
      have hcl := H3.out W0 hb1 _ wr ⟨#[46, 10]⟩ kw HL.out
      have HCL : Hid _ := hcl
      clear hcl
      go_wp2_with fail
      refine Calls.mono HCL.out ?_
      rintro e W3 ⟨rfl, k3, _⟩
      go_wp2
      go_end0
      rw [hfull.out]
      exact ⟨rfl, H5.out W0 hb1 _ W3 k3⟩

end Go.Proofs.YtjajnhemgphefaaGreatDoor
