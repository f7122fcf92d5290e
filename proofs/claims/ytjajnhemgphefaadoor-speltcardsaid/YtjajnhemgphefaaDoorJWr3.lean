/-
  The writers: an atom.
-/
import Derived.Test.YtjajnhemgphefaaDoorJWr2
namespace Go.Proofs.YtjajnhemgphefaaDoor
open Go.RowKit Go.Shelf
set_option linter.unusedVariables false
set_option linter.unusedSimpArgs false

def argsTxt : Nat → List Tm → List UInt8
  | _, [] => []
  | i, t :: l => (if i = 0 then [] else [44]) ++ termTxt t ++ argsTxt (i + 1) l
def atomTxt (a : Am) : List UInt8 := a.rel.data.toList ++ 40 :: argsTxt 0 a.args ++ [41]

set_option maxRecDepth 100000 in
set_option maxHeartbeats 1000000 in
theorem writeAtom_any (B b : Nat) (bs : List UInt8) (b87 : Nat) (va : Value) (A : Am) (W : World) (hb : Bld B b bs W)
    (hS : SealT W b87 va A.args) (hal : A.args.length ≤ 2) (ht : ∀ t ∈ A.args, t.num ≤ 90) (hl : (bs ++ atomTxt A).length ≤ 1000000) (hB : B ≤ W.heap.size) :
    Calls Tryd.prog 21 #[.pointer (some ⟨b, 0, none⟩), .agg #[.string A.rel, va]] W fun e W' => e = .returned (.tuple #[]) ∧ Wrote B b (bs ++ atomTxt A) W W' := by
  obtain ⟨ta, tc, htf⟩ := hS.form
  subst htf
  have hbl : Below W.heap.size W (W.alloc (.cells #[.string A.rel, .slice ta A.args.length tc] 45)) := (Below.refl _ W).alloc (Nat.le_refl _) _
  obtain ⟨W0, hW0⟩ : ∃ W0, W.alloc (.cells #[.string A.rel, .slice ta A.args.length tc] 45) = W0 := ⟨_, rfl⟩
  have hbox : W0.heap[W.heap.size]? = some (Obj.cells #[.string A.rel, .slice ta A.args.length tc] 45 (0, 0)) := by rw [← hW0]; exact World.alloc_heap_new W _
  have c00 : W0.cell? ⟨W.heap.size, 0, none⟩ = some (.string A.rel) := by simp [World.cell?, hbox]
  have hB0 : B ≤ W0.heap.size := by rw [← hW0]; simp; omega
  rw [hW0] at hbl
  have hb0 := hb.below hbl
  have hS0 := hS.rk (RuleKept.ofBelow hbl)
  have hlr : (bs ++ A.rel.data.toList).length ≤ 1000000 := by unfold atomTxt at hl; simp at hl ⊢; omega
  have hw1 := writeStr_any B b bs A.rel W0 hb0 hlr hB0
  have hw2 : ∀ W1, Wrote B b (bs ++ A.rel.data.toList) W0 W1 → Calls Tryd.prog 34 #[.pointer (some ⟨b, 0, none⟩), .int .u8 40] W1 fun e W' => e = .returned .nilIface ∧ Wrote B b (bs ++ A.rel.data.toList ++ [40]) W0 W' := fun W1 k =>
    (writeByte_any B b _ 40 W1 k.bld (by unfold atomTxt at hl; simp at hl ⊢; omega) (Nat.le_trans hB0 k.below.size)).mono (fun e W' h => ⟨h.1, k.trans h.2⟩)
  -- one term of the loop
  have hterm : ∀ (k : Nat) (hk : k < A.args.length) (bk : List UInt8) (W1 : World), Wrote B b bk W0 W1 → (bk ++ termTxt A.args[k]).length ≤ 1000000 → Calls Tryd.prog 35 #[.pointer (some ⟨b, 0, none⟩), .agg #[.string (A.args[k]).name, .int .i64 (A.args[k]).num]] W1 fun e W' => e = .returned (.tuple #[]) ∧ Wrote B b (bk ++ termTxt A.args[k]) W0 W' := fun k hk bk W1 h hlk =>
    (writeTerm_any B b bk A.args[k] W1 h.bld (ht _ (List.getElem_mem hk)) hlk (Nat.le_trans hB0 h.below.size)).mono (fun e W' h' => ⟨h'.1, h.trans h'.2⟩)
  have hcell : ∀ (k : Nat) (hk : k < A.args.length) (bk : List UInt8) (W1 : World), Wrote B b bk W0 W1 → ∃ g, ta = some ⟨g, 0, none⟩ ∧ W1.cell? ⟨g, k * 2, none⟩ = some (.string (A.args[k]).name) ∧ W1.cell? ⟨g, k * 2 + 1, none⟩ = some (.int .i64 (A.args[k]).num) := fun k hk bk W1 h => by
    obtain ⟨g, c', h1, h2, h3, h4⟩ := seal_cell (hS0.rk (h.rk hb0)) hk
    cases h1
    exact ⟨g, rfl, h2, h3⟩
  have halloc : ∀ (bk : List UInt8) (W1 : World) (O : Obj), Wrote B b bk W0 W1 → Wrote B b bk W0 (W1.alloc O) := fun bk W1 O h => by
    have hx : Below W1.heap.size W1 (W1.alloc O) := (Below.refl _ W1).alloc (Nat.le_refl _) O
    exact ⟨h.bld.below hx, h.below.trans (hx.mono (Nat.le_trans hB0 h.below.size)), h.others.trans (others_below hx)⟩
  have hcomma : ∀ (bk : List UInt8) (W1 : World), Wrote B b bk W0 W1 → (bk ++ [44]).length ≤ 1000000 → Calls Tryd.prog 34 #[.pointer (some ⟨b, 0, none⟩), .int .u8 44] W1 fun e W' => e = .returned .nilIface ∧ Wrote B b (bk ++ [44]) W0 W' ∧ Wrote B b (bk ++ [44]) W1 W' := fun bk W1 k hlk =>
    (writeByte_any B b _ 44 W1 k.bld hlk (Nat.le_trans hB0 k.below.size)).mono (fun e W' h => ⟨h.1, k.trans h.2, h.2⟩)
  have hclose : ∀ (bk : List UInt8) (W1 : World), Wrote B b bk W0 W1 → (bk ++ [41]).length ≤ 1000000 → Calls Tryd.prog 34 #[.pointer (some ⟨b, 0, none⟩), .int .u8 41] W1 fun e W' => e = .returned .nilIface ∧ Wrote B b (bk ++ [41]) W W' := fun bk W1 k hlk =>
    (writeByte_any B b _ 41 W1 k.bld hlk (Nat.le_trans hB0 k.below.size)).mono (fun e W' h => ⟨h.1, Wrote.after hbl hB (k.trans h.2)⟩)
  have hbx2 : ∀ (bk : List UInt8) (W1 : World), Wrote B b bk W0 W1 → W1.heap[W.heap.size]? = some (Obj.cells #[.string A.rel, .slice ta A.args.length tc] 45 (0, 0)) := fun bk W1 k => k.cells hb0 hbox (by decide) (by decide)
  have hbx3 : ∀ (bk bk' : List UInt8) (W1 W2 : World) (x y : Value), Wrote B b bk W0 (W1.alloc (.cells #[x, y] 80)) → Wrote B b bk' (W1.alloc (.cells #[x, y] 80)) W2 → W2.heap[W1.heap.size]? = some (Obj.cells #[x, y] 80 (0, 0)) := fun bk bk' W1 W2 x y k k' => k'.cells k.bld (World.alloc_heap_new W1 _) (by decide) (by decide)
  have hfull : Hid (bs ++ atomTxt A = bs ++ A.rel.data.toList ++ [40] ++ argsTxt 0 A.args ++ [41]) := by show _ = _; unfold atomTxt; simp
  have HL : Hid ((bs ++ A.rel.data.toList ++ [40] ++ argsTxt 0 A.args ++ [41]).length ≤ 1000000) := by show _ ≤ _; rw [← hfull.out]; exact hl
  have H1 : Hid _ := hw1
  have H2 : Hid _ := hw2
  have H3 : Hid _ := hterm
  have H4 : Hid _ := hcell
  have H5 : Hid _ := halloc
  have H6 : Hid _ := hcomma
  have H7 : Hid _ := hclose
  have H8 : Hid _ := hbx2
  have H9 : Hid _ := hbx3
  clear hw1 hw2 hterm hcell halloc hcomma hclose hbx2 hbx3 hl hlr hbl hbox hB0 hb0 hS0 hb hS ht hB
  generalize hpre : bs ++ A.rel.data.toList ++ [40] = p0 at *
  have HP : Hid (bs ++ A.rel.data.toList ++ [40] = p0) := hpre
  clear hpre
  go_enter Tryd.func21, Tryd.ntmps21
  go_wp2_with fail
  refine Calls.mono H1.out ?_
  rintro e W1 ⟨rfl, k1⟩
  clear hW0 c00
  go_wp2_with fail
  refine Calls.mono (H2.out W1 k1) ?_
  rintro e W2 ⟨rfl, k2⟩
  have hbx := H8.out _ W2 k2
  have c1 : W2.cell? ⟨W.heap.size, 1, none⟩ = some (.slice ta A.args.length tc) := by simp [World.cell?, hbx]
  clear hbx
  go_wp2
  go_loopw [15] (fun i wr => ∃ (k : Nat) (bk : List UInt8), k ≤ A.args.length ∧ i = .int .i64 k ∧ Hid (bk ++ argsTxt k (A.args.drop k) = p0 ++ argsTxt 0 A.args) ∧ Wrote B b bk W0 wr) (fun i _ => A.args.length - (intOf i).toNat)
  case atStart => exact ⟨0, p0, Nat.zero_le _, rfl, rfl, k2⟩
  case round =>
    obtain ⟨k, bk, hk, rfl, htxt, kw⟩ := hrel
    by_cases hlt : k < A.args.length
    · obtain ⟨g, rfl, q0, q1⟩ := H4.out k hlt bk wr kw
      have hstep : Hid (argsTxt k (A.args.drop k) = (if k = 0 then [] else [44]) ++ termTxt A.args[k] ++ argsTxt (k + 1) (A.args.drop (k + 1))) := by
        show _ = _; rw [List.drop_eq_getElem_cons hlt]; rfl
      have i1 : (k : Int) < (A.args.length : Int) := by omega
      have kwa := H5.out bk wr (.cells #[.string (A.args[k]).name, .int .i64 (A.args[k]).num] 80) kw
      by_cases hk0 : k = 0
      · subst hk0
        have hlk : (bk ++ termTxt A.args[0]).length ≤ 1000000 := by
          have h := congrArg List.length htxt.out
          rw [hstep.out] at h
          have h2 := HL.out
          simp at h h2 ⊢; omega
        have hcall := H3.out 0 hlt bk _ kwa hlk
        have hnext : Hid ((bk ++ termTxt A.args[0]) ++ argsTxt (0 + 1) (A.args.drop (0 + 1)) = p0 ++ argsTxt 0 A.args) := by
          show _ = _; rw [← htxt.out, hstep.out]; simp
        generalize A.args[0] = tk at *
        clear hstep htxt hlk
        go_wp2_with fail
        refine hcall.mono ?_
        rintro e W3 ⟨rfl, k3⟩
        go_wp2
        go_roundw
        case rel => exact ⟨0 + 1, _, by omega, by go_num, hnext, k3⟩
        case measure => simp [intOf]; omega
      · have hpos : (0 : Int) < (k : Int) := by omega
        have hl44 : (bk ++ [44]).length ≤ 1000000 ∧ (bk ++ [44] ++ termTxt A.args[k]).length ≤ 1000000 := by
          have h := congrArg List.length htxt.out
          rw [hstep.out, if_neg hk0] at h
          have h2 := HL.out
          simp at h h2 ⊢; omega
        have hnext : Hid ((bk ++ [44] ++ termTxt A.args[k]) ++ argsTxt (k + 1) (A.args.drop (k + 1)) = p0 ++ argsTxt 0 A.args) := by
          show _ = _; rw [← htxt.out, hstep.out, if_neg hk0]; simp
        have HC : Hid _ := H6.out bk _ kwa hl44.1
        have HT : Hid _ := fun W3 (k3 : Wrote B b (bk ++ [44]) W0 W3) => H3.out k hlt (bk ++ [44]) W3 k3 hl44.2
        generalize A.args[k] = tk at *
        clear hstep htxt hl44 hk0
        go_wp2_with fail
        refine Calls.mono HC.out ?_
        rintro e W3 ⟨rfl, k3, k3'⟩
        have hbx := H9.out _ _ _ _ _ _ kwa k3'
        have d0 : W3.cell? ⟨wr.heap.size, 0, none⟩ = some (.string tk.name) := by simp [World.cell?, hbx]
        have d1 : W3.cell? ⟨wr.heap.size, 1, none⟩ = some (.int .i64 tk.num) := by simp [World.cell?, hbx]
        clear hbx
        go_wp2_with fail
        refine Calls.mono (HT.out W3 k3) ?_
        rintro e W4 ⟨rfl, k4⟩
        go_wp2
        go_roundw
        case rel => exact ⟨k + 1, _, by omega, by go_num, hnext, k4⟩
        case measure => simp [intOf]; omega
    · have hbk : bk = p0 ++ argsTxt 0 A.args := by
        have := htxt.out
        rw [List.drop_of_length_le (by omega)] at this
        simpa [argsTxt] using this
      subst hbk
      have hcl := H7.out _ wr kw HL.out
      go_wp2_with fail
      refine hcl.mono ?_
      rintro e W3 ⟨rfl, k3⟩
      go_wp2
      go_end0
      rw [hfull.out]
      exact ⟨rfl, k3⟩

end Go.Proofs.YtjajnhemgphefaaDoor
