/-
  rules.isLoose and the search for the first rule that is loose.
-/
import Derived.Test.YtpfknibkdiebaaaDoorLoose2
namespace Go.Proofs.YtpfknibkdiebaaaDoor
open Go.RowKit Go.Shelf
set_option linter.unusedVariables false
set_option linter.unusedSimpArgs false

def bodyHas (r : ARule) (x : ByteArray) (xb : Bool) : Bool := r.body.any (fun a => hasT a.args x xb)
def unboundB (r : ARule) (t : ATerm) : Bool := t.isVar && !bodyHas r t.text t.isVar
def looseB (r : ARule) : Bool := r.head.args.any (unboundB r)

set_option maxHeartbeats 400000 in
theorem conAtoms_any (r : ARule) (vb : Value) (b45 b87 Bt : Nat) (x : ByteArray) (xb : Bool) (w : World) (hok : RuleOk r) (hS : SealA w b45 b87 vb r.body) (hbt : w.heap[Bt]? = some (Obj.cells #[.string x, .bool xb] 87 (0, 0))) :
    Calls Tryd.prog 35 #[vb, .func (.func 36) #[] #[.pointer (some ⟨Bt, 0, none⟩)]] w fun e w' => e = .returned (.bool (bodyHas r x xb)) ∧ Below w.heap.size w w' := by
  have hI := idxAtoms_any vb r.body b45 b87 Bt x xb w hS (by have := hok.body; omega) (fun a ha => by have := hok.args a ha; omega) hbt
  obtain ⟨a, c, rfl⟩ := hS.form
  have HI : Hid _ := hI
  clear hI hS hbt
  go_enter Tryd.func35, Tryd.ntmps35
  go_wp2_with fail
  refine Calls.mono HI.out ?_
  rintro e w1 ⟨i, rfl, hr, hb⟩
  have HR : Hid (decide (0 ≤ i) = bodyHas r x xb) := hr
  clear hr
  go_wp2
  go_ret
  exact ⟨ret_bool (by rw [← HR.out]), hb⟩

set_option maxHeartbeats 400000 in
theorem loose1_any (r : ARule) (v0 vb : Value) (b45 b87 Br : Nat) (t : ATerm) (w : World) (hok : RuleOk r) (hv : RuleV w b45 b87 r v0 vb) (hbr : w.heap[Br]? = some (Obj.cells #[.string r.head.rel, v0, vb] 48 (0, 0))) :
    Calls Tryd.prog 34 #[.agg #[.string t.text, .bool t.isVar], .pointer (some ⟨Br, 0, none⟩)] w fun e w' => e = .returned (.bool (unboundB r t)) ∧ Below w.heap.size w w' := by
  have hlt := (Array.getElem?_eq_some_iff.1 hbr).1
  have c2 : w.cell? ⟨Br, 2, none⟩ = some vb := by simp [World.cell?, hbr]
  have hne : Br ≠ w.heap.size := by omega
  obtain ⟨a, c, hform⟩ := hv.2.form
  have hI : Calls Tryd.prog 35 #[vb, .func (.func 36) #[] #[.pointer (some ⟨w.heap.size, 0, none⟩)]] (w.alloc (.cells #[.string t.text, .bool t.isVar] 87)) fun e w' => e = .returned (.bool (bodyHas r t.text t.isVar)) ∧ Below w.heap.size w w' := by
    have hb : Below w.heap.size w (w.alloc (.cells #[.string t.text, .bool t.isVar] 87)) := (Below.refl _ w).alloc (Nat.le_refl _) _
    refine (conAtoms_any r vb b45 b87 w.heap.size t.text t.isVar _ hok (hv.2.rk (RuleKept.ofBelow hb)) (World.alloc_heap_new w _)).mono ?_
    rintro e w' ⟨h1, h3⟩
    exact ⟨h1, hb.trans (h3.mono (by simp))⟩
  rw [hform] at c2 hI
  have HI : Hid _ := hI
  have hu : Hid (unboundB r t = (t.isVar && !bodyHas r t.text t.isVar)) := rfl
  clear hI hbr hv hform
  generalize unboundB r t = ub at *
  generalize bodyHas r t.text t.isVar = bh at *
  generalize t.text = tx at *
  generalize t.isVar = tv at *
  cases tv with
  | false =>
    go_enter Tryd.func34, Tryd.ntmps34
    go_wp2
    go_ret
    exact ⟨ret_bool (by rw [hu.out]; rfl), (Below.refl _ w).alloc (Nat.le_refl _) _⟩
  | true =>
    go_enter Tryd.func34, Tryd.ntmps34
    go_wp2_with fail
    refine Calls.mono HI.out ?_
    rintro e w1 ⟨rfl, hb⟩
    go_wp2
    go_ret
    exact ⟨ret_bool (by rw [hu.out]; rfl), hb⟩

set_option maxHeartbeats 1000000 in
theorem idxTerms_any (r : ARule) (v0 vb : Value) (b45 b87 Br : Nat) (w : World) (hok : RuleOk r) (hv : RuleV w b45 b87 r v0 vb) (hbr : w.heap[Br]? = some (Obj.cells #[.string r.head.rel, v0, vb] 48 (0, 0))) :
    Calls Tryd.prog 55 #[v0, .func (.func 34) #[] #[.pointer (some ⟨Br, 0, none⟩)]] w fun e w' => ∃ i : Int, e = .returned (.int .i64 i) ∧ decide (0 ≤ i) = looseB r ∧ Below w.heap.size w w' := by
  obtain ⟨a, c, hform⟩ := hv.1.form
  have hl : r.head.args.length ≤ 1000 := by have := hok.head; omega
  have hcell : ∀ k (hk : k < r.head.args.length), ∃ g, a = some ⟨g, 0, none⟩ ∧ w.cell? ⟨g, k * 2, none⟩ = some (.string (r.head.args[k]).text) ∧ w.cell? ⟨g, k * 2 + 1, none⟩ = some (.bool (r.head.args[k]).isVar) ∧ g < w.heap.size := by
    intro k hk
    obtain ⟨g, c', h1, h2, h3, h4⟩ := seal_cell hv.1 hk
    rw [hform] at h1; cases h1
    exact ⟨g, rfl, h2, h3, h4⟩
  have hcalls : ∀ wr, Below w.heap.size w wr → ∀ t, Calls Tryd.prog 34 #[.agg #[.string t.text, .bool t.isVar], .pointer (some ⟨Br, 0, none⟩)] wr fun e w' => e = .returned (.bool (unboundB r t)) ∧ Below wr.heap.size wr w' := fun wr hb t =>
    loose1_any r v0 vb b45 b87 Br t wr hok (hv.rk (RuleKept.ofBelow hb)) ((hb.block Br (Array.getElem?_eq_some_iff.1 hbr).1).trans hbr)
  subst hform
  have HC : Hid _ := hcell
  have HF : Hid _ := hcalls
  have HU : Hid (looseB r = r.head.args.any (unboundB r)) := rfl
  clear hcell hcalls hv hbr hok
  generalize r.head.args = l at *
  generalize looseB r = us at *
  go_enter Tryd.func55, Tryd.ntmps55
  go_wp2
  go_loopw [8] (fun i wr => ∃ k : Nat, k ≤ l.length ∧ i = .int .i64 k ∧ Hid (∀ j, (hj : j < l.length) → j < k → unboundB r l[j] = false) ∧ Below w.heap.size w wr) (fun i _ => l.length - (intOf i).toNat)
  case atStart => exact ⟨0, Nat.zero_le _, rfl, fun j _ hj => by omega, Below.refl _ _⟩
  case round =>
    obtain ⟨k, hk, rfl, hno, hb⟩ := hrel
    by_cases hlt : k < l.length
    · obtain ⟨g, rfl, q0, q1, hg⟩ := HC.out k hlt
      have q0' := (hb.cell (p := ⟨g, k * 2, none⟩) hg).trans q0
      have q1' := (hb.cell (p := ⟨g, k * 2 + 1, none⟩) hg).trans q1
      have hcall := HF.out wr hb l[k]
      have i1 : (k : Int) < (l.length : Int) := by omega
      generalize hbb : unboundB r l[k] = bb at *
      have HBB : Hid (unboundB r l[k] = bb) := hbb
      clear hbb q0 q1
      generalize (l[k]).text = tx at *
      generalize (l[k]).isVar = tv at *
      cases bb with
      | true =>
        go_wp2_with fail
        refine hcall.mono ?_
        rintro e w1 ⟨rfl, hb1⟩
        go_wp2
        go_ret
        refine ⟨k, rfl, ?_, hb.trans (hb1.mono hb.size)⟩
        have h1 : l.any (unboundB r) = true := by
          rw [List.any_eq_true]; exact ⟨l[k], List.getElem_mem hlt, HBB.out⟩
        rw [HU.out, h1]; simp
      | false =>
        go_wp2_with fail
        refine hcall.mono ?_
        rintro e w1 ⟨rfl, hb1⟩
        go_wp2
        go_roundw
        case rel =>
          refine ⟨k + 1, by omega, by go_num, ?_, hb.trans (hb1.mono hb.size)⟩
          intro j hj hjk
          by_cases e : j = k
          · subst e; exact HBB.out
          · exact hno.out j hj (by omega)
        case measure => simp [intOf]; omega
    · go_wp2
      go_ret
      refine ⟨-1, rfl, ?_, hb⟩
      rw [HU.out, any_upto _ _ (fun j hj => hno.out j hj (by omega))]; rfl

set_option maxHeartbeats 400000 in
theorem conTerms_any (r : ARule) (v0 vb : Value) (b45 b87 Br : Nat) (w : World) (hok : RuleOk r) (hv : RuleV w b45 b87 r v0 vb) (hbr : w.heap[Br]? = some (Obj.cells #[.string r.head.rel, v0, vb] 48 (0, 0))) :
    Calls Tryd.prog 33 #[v0, .func (.func 34) #[] #[.pointer (some ⟨Br, 0, none⟩)]] w fun e w' => e = .returned (.bool (looseB r)) ∧ Below w.heap.size w w' := by
  have hI := idxTerms_any r v0 vb b45 b87 Br w hok hv hbr
  obtain ⟨a, c, rfl⟩ := hv.1.form
  have HI : Hid _ := hI
  clear hI hv hbr
  go_enter Tryd.func33, Tryd.ntmps33
  go_wp2_with fail
  refine Calls.mono HI.out ?_
  rintro e w1 ⟨i, rfl, hr, hb⟩
  have HR : Hid (decide (0 ≤ i) = looseB r) := hr
  clear hr
  go_wp2
  go_ret
  exact ⟨ret_bool (by rw [← HR.out]), hb⟩

set_option maxHeartbeats 400000 in
theorem isLoose_any (r : ARule) (v0 vb : Value) (b45 b87 : Nat) (w : World) (hok : RuleOk r) (hv : RuleV w b45 b87 r v0 vb) :
    Calls Tryd.prog 20 #[.agg #[.string r.head.rel, v0, vb]] w fun e w' => e = .returned (.bool (looseB r)) ∧ Below w.heap.size w w' := by
  have hI : Calls Tryd.prog 33 #[v0, .func (.func 34) #[] #[.pointer (some ⟨w.heap.size, 0, none⟩)]] (w.alloc (.cells #[.string r.head.rel, v0, vb] 48)) fun e w' => e = .returned (.bool (looseB r)) ∧ Below w.heap.size w w' := by
    have hb : Below w.heap.size w (w.alloc (.cells #[.string r.head.rel, v0, vb] 48)) := (Below.refl _ w).alloc (Nat.le_refl _) _
    refine (conTerms_any r v0 vb b45 b87 w.heap.size _ hok (hv.rk (RuleKept.ofBelow hb)) (World.alloc_heap_new w _)).mono ?_
    rintro e w' ⟨h1, h3⟩
    exact ⟨h1, hb.trans (h3.mono (by simp))⟩
  obtain ⟨a, c, hf⟩ := hv.1.form
  obtain ⟨a', c', hf'⟩ := hv.2.form
  rw [hf, hf'] at hI ⊢
  have HI : Hid _ := hI
  clear hI hv hf hf'
  go_enter Tryd.func20, Tryd.ntmps20
  go_wp2_with fail
  refine Calls.mono HI.out ?_
  rintro e w1 ⟨rfl, hb⟩
  go_wp2
  go_ret
  exact ⟨rfl, hb⟩

end Go.Proofs.YtpfknibkdiebaaaDoor
