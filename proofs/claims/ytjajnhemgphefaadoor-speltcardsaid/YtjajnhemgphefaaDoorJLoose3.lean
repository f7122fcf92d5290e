/-
  rules.isLoose and the search for the first rule that is loose.
-/
import Derived.Test.YtjajnhemgphefaaDoorJLoose2
namespace Go.Proofs.YtjajnhemgphefaaDoor
open Go.RowKit Go.Shelf
set_option linter.unusedVariables false
set_option linter.unusedSimpArgs false

set_option maxHeartbeats 400000 in
theorem conAtoms_any (r : Rl) (vb : Value) (b45 b87 Bt : Nat) (x : ByteArray) (xb : Nat) (w : World) (hok : RuleOk r) (hS : SealA w b45 b87 vb r.body) (hbt : w.heap[Bt]? = some (Obj.cells #[.string x, .int .i64 xb] 80 (0, 0))) :
    Calls Tryd.prog 29 #[vb, .func (.func 30) #[] #[.pointer (some ⟨Bt, 0, none⟩)]] w fun e w' => e = .returned (.bool (bodyHas r x xb)) ∧ Below w.heap.size w w' := by
  have hI := idxAtoms_any vb r.body b45 b87 Bt x xb w hS (by have := hok.body; omega) (fun a ha => by have := (hok.ams a ha).args; omega) hbt
  obtain ⟨a, c, rfl⟩ := hS.form
  have HI : Hid _ := hI
  clear hI hS hbt
  go_enter Tryd.func29, Tryd.ntmps29
  go_wp2_with fail
  refine Calls.mono HI.out ?_
  rintro e w1 ⟨i, rfl, hr, hb⟩
  have HR : Hid (decide (0 ≤ i) = bodyHas r x xb) := hr
  clear hr
  go_wp2
  go_ret
  exact ⟨ret_bool (by rw [← HR.out]), hb⟩

set_option maxHeartbeats 400000 in
theorem loose1_any (r : Rl) (v0 vb : Value) (b45 b87 Br : Nat) (t : Tm) (w : World) (hok : RuleOk r) (hv : RuleV w b45 b87 r v0 vb) (hbr : w.heap[Br]? = some (Obj.cells #[.string r.head.rel, v0, vb] 48 (0, 0))) :
    Calls Tryd.prog 27 #[.agg #[.string t.name, .int .i64 t.num], .pointer (some ⟨Br, 0, none⟩)] w fun e w' => e = .returned (.bool (unboundB r t)) ∧ Below w.heap.size w w' := by
  have hlt := (Array.getElem?_eq_some_iff.1 hbr).1
  have c2 : w.cell? ⟨Br, 2, none⟩ = some vb := by simp [World.cell?, hbr]
  have hne : Br ≠ w.heap.size := by omega
  obtain ⟨a, c, hform⟩ := hv.2.form
  have hI : ∀ W1, Below (w.alloc (.cells #[.string t.name, .int .i64 t.num] 80)).heap.size (w.alloc (.cells #[.string t.name, .int .i64 t.num] 80)) W1 → Calls Tryd.prog 29 #[vb, .func (.func 30) #[] #[.pointer (some ⟨w.heap.size, 0, none⟩)]] W1 fun e w' => e = .returned (.bool (bodyHas r t.name t.num)) ∧ Below w.heap.size w w' := by
    intro W1 hb1
    have hb0 : Below w.heap.size w (w.alloc (.cells #[.string t.name, .int .i64 t.num] 80)) := (Below.refl _ w).alloc (Nat.le_refl _) _
    have hb : Below w.heap.size w W1 := hb0.trans (hb1.mono (by simp))
    refine (conAtoms_any r vb b45 b87 w.heap.size t.name t.num _ hok (hv.2.rk (RuleKept.ofBelow hb)) ((hb1.block w.heap.size (by simp)).trans (World.alloc_heap_new w _))).mono ?_
    rintro e w' ⟨h1, h3⟩
    exact ⟨h1, hb.trans (h3.mono hb.size)⟩
  have hC : Hid (∀ O W1, Below (w.alloc O).heap.size (w.alloc O) W1 → W1.cell? ⟨Br, 2, none⟩ = some vb ∧ Below w.heap.size w W1) := fun O W1 hb1 => by
    have hb0 : Below w.heap.size w (w.alloc O) := (Below.refl _ w).alloc (Nat.le_refl _) _
    have hb : Below w.heap.size w W1 := hb0.trans (hb1.mono (by simp))
    exact ⟨(hb.cell (p := ⟨Br, 2, none⟩) hlt).trans c2, hb⟩
  rw [hform] at c2 hI hC
  have HI : Hid _ := hI
  have hiv : Hid (∀ W, Calls Tryd.prog 28 #[.agg #[.string t.name, .int .i64 t.num]] W fun e w' => e = .returned (.bool t.name.toList.isEmpty) ∧ Below W.heap.size W w') := fun W => isVariable_any t W
  have hu : Hid (unboundB r t = (t.name.toList.isEmpty && !bodyHas r t.name t.num)) := rfl
  clear hI hbr hv hform
  generalize unboundB r t = ub at *
  generalize bodyHas r t.name t.num = bh at *
  generalize t.num = tn at *
  generalize htv : t.name.toList.isEmpty = tv at *
  clear htv
  generalize t.name = tx at *
  cases tv with
  | false =>
    go_enter Tryd.func27, Tryd.ntmps27
    go_wp2_with (go_at_call 28; refine (hiv.out _).mono ?_; rintro e W1 ⟨rfl, hb1⟩)
    go_ret
    exact ⟨ret_bool (by rw [hu.out]; rfl), (hC.out _ _ hb1).2⟩
  | true =>
    go_enter Tryd.func27, Tryd.ntmps27
    go_wp2_with (first | (go_at_call 28; refine (hiv.out _).mono ?_; rintro e W1 ⟨rfl, hb1⟩; have kc := (hC.out _ _ hb1).1) | (go_at_call 29; refine (HI.out W1 hb1).mono ?_; rintro e w2 ⟨rfl, hb⟩))
    go_ret
    exact ⟨ret_bool (by rw [hu.out]; rfl), hb⟩

set_option maxHeartbeats 1000000 in
theorem idxTerms_any (r : Rl) (v0 vb : Value) (b45 b87 Br : Nat) (w : World) (hok : RuleOk r) (hv : RuleV w b45 b87 r v0 vb) (hbr : w.heap[Br]? = some (Obj.cells #[.string r.head.rel, v0, vb] 48 (0, 0))) :
    Calls Tryd.prog 45 #[v0, .func (.func 27) #[] #[.pointer (some ⟨Br, 0, none⟩)]] w fun e w' => ∃ i : Int, e = .returned (.int .i64 i) ∧ decide (0 ≤ i) = looseC r ∧ Below w.heap.size w w' := by
  obtain ⟨a, c, hform⟩ := hv.1.form
  have hl : r.head.args.length ≤ 1000 := by have := hok.head.args; omega
  have hcell : ∀ k (hk : k < r.head.args.length), ∃ g, a = some ⟨g, 0, none⟩ ∧ w.cell? ⟨g, k * 2, none⟩ = some (.string (r.head.args[k]).name) ∧ w.cell? ⟨g, k * 2 + 1, none⟩ = some (.int .i64 (r.head.args[k]).num) ∧ g < w.heap.size := by
    intro k hk
    obtain ⟨g, c', h1, h2, h3, h4⟩ := seal_cell hv.1 hk
    rw [hform] at h1; cases h1
    exact ⟨g, rfl, h2, h3, h4⟩
  have hcalls : ∀ wr, Below w.heap.size w wr → ∀ t, Calls Tryd.prog 27 #[.agg #[.string t.name, .int .i64 t.num], .pointer (some ⟨Br, 0, none⟩)] wr fun e w' => e = .returned (.bool (unboundB r t)) ∧ Below wr.heap.size wr w' := fun wr hb t =>
    loose1_any r v0 vb b45 b87 Br t wr hok (hv.rk (RuleKept.ofBelow hb)) ((hb.block Br (Array.getElem?_eq_some_iff.1 hbr).1).trans hbr)
  subst hform
  have HC : Hid _ := hcell
  have HF : Hid _ := hcalls
  have HU : Hid (looseC r = r.head.args.any (unboundB r)) := rfl
  clear hcell hcalls hv hbr hok
  generalize r.head.args = l at *
  generalize looseC r = us at *
  go_enter Tryd.func45, Tryd.ntmps45
  go_wp2
  go_loopw [8] (fun i wr => ∃ k : Nat, k ≤ l.length ∧ i = .int .i64 k ∧ Hid (∀ j, (hj : j < l.length) → j < k → unboundB r l[j] = false) ∧ Below w.heap.size w wr) (fun i _ => l.length - (intOf i).toNat)
  case atStart => exact ⟨0, Nat.zero_le _, rfl, fun j _ hj => by omega, Below.refl _ _⟩
  case round =>
    obtain ⟨k, hk, rfl, hno, hb⟩ := hrel
    by_cases hlt : k < l.length
    · obtain ⟨g, rfl, q0, q1, hg⟩ := HC.out k hlt
      have q0' := (hb.cell (p := ⟨g, k * 2, none⟩) hg).trans q0
      have q1' := (hb.cell (p := ⟨g, k * 2 + 1, none⟩) hg).trans q1
      have hcall := HF.out wr hb l[k]
      have i1 : (k : Int) < (l.length : Int) := by omega
      generalize hbb : unboundB r l[k] = bb at *
      have HBB : Hid (unboundB r l[k] = bb) := hbb
      clear hbb q0 q1
      generalize (l[k]).name = tx at *
      generalize (l[k]).num = tv at *
      cases bb with
      | true =>
        go_wp2_with fail
        refine hcall.mono ?_
        rintro e w1 ⟨rfl, hb1⟩
        go_wp2
        go_ret
        refine ⟨k, rfl, ?_, hb.trans (hb1.mono hb.size)⟩
        have h1 : l.any (unboundB r) = true := by
          rw [List.any_eq_true]; exact ⟨l[k], List.getElem_mem hlt, HBB.out⟩
        rw [HU.out, h1]; simp
      | false =>
        go_wp2_with fail
        refine hcall.mono ?_
        rintro e w1 ⟨rfl, hb1⟩
        go_wp2
        go_roundw
        case rel =>
          refine ⟨k + 1, by omega, by go_num, ?_, hb.trans (hb1.mono hb.size)⟩
          intro j hj hjk
          by_cases e : j = k
          · subst e; exact HBB.out
          · exact hno.out j hj (by omega)
        case measure => simp [intOf]; omega
    · go_wp2
      go_ret
      refine ⟨-1, rfl, ?_, hb⟩
      rw [HU.out, any_upto _ _ (fun j hj => hno.out j hj (by omega))]; rfl

set_option maxHeartbeats 400000 in
theorem conTerms_any (r : Rl) (v0 vb : Value) (b45 b87 Br : Nat) (w : World) (hok : RuleOk r) (hv : RuleV w b45 b87 r v0 vb) (hbr : w.heap[Br]? = some (Obj.cells #[.string r.head.rel, v0, vb] 48 (0, 0))) :
    Calls Tryd.prog 26 #[v0, .func (.func 27) #[] #[.pointer (some ⟨Br, 0, none⟩)]] w fun e w' => e = .returned (.bool (looseC r)) ∧ Below w.heap.size w w' := by
  have hI := idxTerms_any r v0 vb b45 b87 Br w hok hv hbr
  obtain ⟨a, c, rfl⟩ := hv.1.form
  have HI : Hid _ := hI
  clear hI hv hbr
  go_enter Tryd.func26, Tryd.ntmps26
  go_wp2_with fail
  refine Calls.mono HI.out ?_
  rintro e w1 ⟨i, rfl, hr, hb⟩
  have HR : Hid (decide (0 ≤ i) = looseC r) := hr
  clear hr
  go_wp2
  go_ret
  exact ⟨ret_bool (by rw [← HR.out]), hb⟩

set_option maxHeartbeats 400000 in
theorem isLoose_any (r : Rl) (v0 vb : Value) (b45 b87 : Nat) (w : World) (hok : RuleOk r) (hv : RuleV w b45 b87 r v0 vb) :
    Calls Tryd.prog 19 #[.agg #[.string r.head.rel, v0, vb]] w fun e w' => e = .returned (.bool (looseC r)) ∧ Below w.heap.size w w' := by
  have hI : Calls Tryd.prog 26 #[v0, .func (.func 27) #[] #[.pointer (some ⟨w.heap.size, 0, none⟩)]] (w.alloc (.cells #[.string r.head.rel, v0, vb] 48)) fun e w' => e = .returned (.bool (looseC r)) ∧ Below w.heap.size w w' := by
    have hb : Below w.heap.size w (w.alloc (.cells #[.string r.head.rel, v0, vb] 48)) := (Below.refl _ w).alloc (Nat.le_refl _) _
    refine (conTerms_any r v0 vb b45 b87 w.heap.size _ hok (hv.rk (RuleKept.ofBelow hb)) (World.alloc_heap_new w _)).mono ?_
    rintro e w' ⟨h1, h3⟩
    exact ⟨h1, hb.trans (h3.mono (by simp))⟩
  obtain ⟨a, c, hf⟩ := hv.1.form
  obtain ⟨a', c', hf'⟩ := hv.2.form
  rw [hf, hf'] at hI ⊢
  have HI : Hid _ := hI
  clear hI hv hf hf'
  go_enter Tryd.func19, Tryd.ntmps19
  go_wp2_with fail
  refine Calls.mono HI.out ?_
  rintro e w1 ⟨rfl, hb⟩
  go_wp2
  go_ret
  exact ⟨rfl, hb⟩

end Go.Proofs.YtjajnhemgphefaaDoor
