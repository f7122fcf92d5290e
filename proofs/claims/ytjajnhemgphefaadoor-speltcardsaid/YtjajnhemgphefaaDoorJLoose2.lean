/-
  rules.isLoose, from the library's searches upward.
-/
import Derived.Test.YtjajnhemgphefaaDoorJLoose
namespace Go.Proofs.YtjajnhemgphefaaDoor
open Go.RowKit Go.Shelf
set_option linter.unusedVariables false
set_option linter.unusedSimpArgs false

set_option maxHeartbeats 400000 in
theorem containsT_any (v : Value) (l : List Tm) (b : Nat) (x : ByteArray) (xb : Nat) (w : World) (hS : SealT w b v l) (hl : l.length ≤ 1000) :
    Calls Tryd.prog 31 #[v, .agg #[.string x, .int .i64 xb]] w fun e w' => e = .returned (.bool (hasT l x xb)) ∧ Below w.heap.size w w' := by
  have hI : ∀ O, Calls Tryd.prog 47 #[v, .agg #[.string x, .int .i64 xb]] (w.alloc O) fun e w' => ∃ r : Int, e = .returned (.int .i64 r) ∧ decide (0 ≤ r) = hasT l x xb ∧ Below w.heap.size w w' := fun O => by
    have hb : Below w.heap.size w (w.alloc O) := (Below.refl _ w).alloc (Nat.le_refl _) O
    refine (indexT_any v l b x xb (w.alloc O) (hS.rk (RuleKept.ofBelow hb)) hl).mono ?_
    rintro e w' ⟨r, h1, h2, h3⟩
    exact ⟨r, h1, h2, hb.trans (h3.mono (by simp))⟩
  have HI : Hid _ := hI
  clear hI
  obtain ⟨a, c, rfl⟩ := hS.form
  clear hS
  go_enter Tryd.func31, Tryd.ntmps31
  go_wp2_with fail
  refine (HI.out _).mono ?_
  rintro e w1 ⟨r, rfl, hr, hb⟩
  have HR : Hid (decide (0 ≤ r) = hasT l x xb) := hr
  clear hr
  go_wp2
  go_ret
  exact ⟨ret_bool (by rw [← HR.out]), hb⟩

set_option maxHeartbeats 400000 in
theorem loose11_any (rel : ByteArray) (v : Value) (l : List Tm) (b Bt : Nat) (x : ByteArray) (xb : Nat) (w : World) (hS : SealT w b v l) (hl : l.length ≤ 1000) (hbt : w.heap[Bt]? = some (Obj.cells #[.string x, .int .i64 xb] 80 (0, 0))) :
    Calls Tryd.prog 30 #[.agg #[.string rel, v], .pointer (some ⟨Bt, 0, none⟩)] w fun e w' => e = .returned (.bool (hasT l x xb)) ∧ Below w.heap.size w w' := by
  have hlt := (Array.getElem?_eq_some_iff.1 hbt).1
  have c0 : w.cell? ⟨Bt, 0, none⟩ = some (.string x) := by simp [World.cell?, hbt]
  have c1 : w.cell? ⟨Bt, 1, none⟩ = some (.int .i64 xb) := by simp [World.cell?, hbt]
  have hne : Bt ≠ w.heap.size := by omega
  have hI : ∀ O, Calls Tryd.prog 31 #[v, .agg #[.string x, .int .i64 xb]] (w.alloc O) fun e w' => e = .returned (.bool (hasT l x xb)) ∧ Below w.heap.size w w' := fun O => by
    have hb : Below w.heap.size w (w.alloc O) := (Below.refl _ w).alloc (Nat.le_refl _) O
    refine (containsT_any v l b x xb (w.alloc O) (hS.rk (RuleKept.ofBelow hb)) hl).mono ?_
    rintro e w' ⟨h1, h3⟩
    exact ⟨h1, hb.trans (h3.mono (by simp))⟩
  have HI : Hid _ := hI
  clear hI hbt
  obtain ⟨a, c, rfl⟩ := hS.form
  clear hS
  go_enter Tryd.func30, Tryd.ntmps30
  go_wp2_with fail
  refine (HI.out _).mono ?_
  rintro e w1 ⟨rfl, hb⟩
  go_wp2
  go_ret
  exact ⟨rfl, hb⟩

theorem sealA_cell {W : World} {b45 b87 : Nat} {v : Value} {l : List Am} (h : SealA W b45 b87 v l) {k : Nat} (hk : k < l.length) :
    ∃ g off c va, v = .slice (some ⟨g, off, none⟩) l.length c ∧ W.cell? ⟨g, off + k * 2, none⟩ = some (.string (l[k]).rel) ∧ W.cell? ⟨g, off + k * 2 + 1, none⟩ = some va ∧ SealT W b87 va (l[k]).args ∧ g < W.heap.size := by
  obtain ⟨ps, a, cap, e1, e2, e3, e4⟩ := h
  have hpl : ps.length = l.length := by rw [← e1]; simp
  obtain ⟨g, off, cur, k1, k2, k3, k4⟩ := e4 (by intro e; rw [e] at hk; simp at hk)
  have hkp : k < ps.length := by omega
  obtain ⟨p0, p1⟩ := flat_two (fun p : Am × Value => Value.string p.1.rel) (fun p => p.2) ps k hkp
  have k4' : (cur.toList.drop off).take (l.length * 2) = ps.flatMap fun p => [Value.string p.1.rel, p.2] := k4
  rw [← k4', List.getElem?_take, if_pos (by omega), List.getElem?_drop] at p0 p1
  have hlk : l[k] = (ps[k]).1 := by simp [← e1]
  refine ⟨g, off, cap, (ps[k]).2, by rw [e2, k1], ?_, ?_, ?_, (Array.getElem?_eq_some_iff.1 k3).1⟩
  · simp only [World.cell?, k3]; rw [hlk]; simpa using p0
  · simp only [World.cell?, k3]; simpa [Nat.add_assoc] using p1
  · rw [hlk]; exact e3 _ (List.getElem_mem hkp)

theorem SealA.form {W : World} {b45 b87 : Nat} {v : Value} {l : List Am} (h : SealA W b45 b87 v l) : ∃ a c, v = .slice a l.length c := by
  obtain ⟨ps, a, cap, e1, e2, _⟩ := h; exact ⟨a, cap, e2⟩

set_option maxHeartbeats 1000000 in
theorem idxAtoms_any (v : Value) (l : List Am) (b45 b87 Bt : Nat) (x : ByteArray) (xb : Nat) (w : World) (hS : SealA w b45 b87 v l) (hl : l.length ≤ 1000) (ha : ∀ a ∈ l, a.args.length ≤ 1000) (hbt : w.heap[Bt]? = some (Obj.cells #[.string x, .int .i64 xb] 80 (0, 0))) :
    Calls Tryd.prog 46 #[v, .func (.func 30) #[] #[.pointer (some ⟨Bt, 0, none⟩)]] w fun e w' => ∃ r : Int, e = .returned (.int .i64 r) ∧ decide (0 ≤ r) = l.any (fun a => hasT a.args x xb) ∧ Below w.heap.size w w' := by
  obtain ⟨a, c, hform⟩ := hS.form
  have hcell : ∀ k (hk : k < l.length), ∃ g off va, a = some ⟨g, off, none⟩ ∧ w.cell? ⟨g, off + k * 2, none⟩ = some (.string (l[k]).rel) ∧ w.cell? ⟨g, off + k * 2 + 1, none⟩ = some va ∧ SealT w b87 va (l[k]).args ∧ g < w.heap.size := by
    intro k hk
    obtain ⟨g, off, c', va, h1, h2, h3, h4, h5⟩ := sealA_cell hS hk
    rw [hform] at h1; cases h1
    exact ⟨g, off, va, rfl, h2, h3, h4, h5⟩
  subst hform
  have HC : Hid _ := hcell
  have HBT : Hid _ := hbt
  have HA : Hid _ := ha
  clear hcell hS hbt ha
  go_enter Tryd.func46, Tryd.ntmps46
  go_wp2
  go_loopw [8] (fun i wr => ∃ k : Nat, k ≤ l.length ∧ i = .int .i64 k ∧ Hid (∀ j, (hj : j < l.length) → j < k → hasT (l[j]).args x xb = false) ∧ Below w.heap.size w wr) (fun i _ => l.length - (intOf i).toNat)
  case atStart => exact ⟨0, Nat.zero_le _, rfl, fun j _ hj => by omega, Below.refl _ _⟩
  case round =>
    obtain ⟨k, hk, rfl, hno, hb⟩ := hrel
    by_cases hlt : k < l.length
    · obtain ⟨g, off, va, rfl, q0, q1, hs, hg⟩ := HC.out k hlt
      have q0' := (hb.cell (p := ⟨g, off + k * 2, none⟩) hg).trans q0
      have q1' := (hb.cell (p := ⟨g, off + k * 2 + 1, none⟩) hg).trans q1
      have hcall := loose11_any (l[k]).rel va (l[k]).args b87 Bt x xb wr (hs.rk (RuleKept.ofBelow hb)) (HA.out _ (List.getElem_mem hlt)) ((hb.block Bt (Array.getElem?_eq_some_iff.1 HBT.out).1).trans HBT.out)
      obtain ⟨sa, sc, hsf⟩ := hs.form
      rw [hsf] at hcall q1'
      have i1 : (k : Int) < (l.length : Int) := by omega
      generalize hbb : hasT (l[k]).args x xb = bb at *
      have HBB : Hid (hasT (l[k]).args x xb = bb) := hbb
      clear hbb q0 q1 hs hsf
      generalize (l[k]).rel = rel at *
      generalize (l[k]).args.length = m at *
      cases bb with
      | true =>
        go_wp2_with fail
        refine hcall.mono ?_
        rintro e w1 ⟨rfl, hb1⟩
        go_wp2
        go_ret
        refine ⟨k, rfl, ?_, hb.trans (hb1.mono hb.size)⟩
        have h1 : l.any (fun a => hasT a.args x xb) = true := by
          rw [List.any_eq_true]; exact ⟨l[k], List.getElem_mem hlt, HBB.out⟩
        rw [h1]; simp
      | false =>
        go_wp2_with fail
        refine hcall.mono ?_
        rintro e w1 ⟨rfl, hb1⟩
        go_wp2
        go_roundw
        case rel =>
          refine ⟨k + 1, by omega, by go_num, ?_, hb.trans (hb1.mono hb.size)⟩
          intro j hj hjk
          by_cases e : j = k
          · subst e; exact HBB.out
          · exact hno.out j hj (by omega)
        case measure => simp [intOf]; omega
    · go_wp2
      go_ret
      refine ⟨-1, rfl, ?_, hb⟩
      rw [any_upto _ _ (fun j hj => hno.out j hj (by omega))]; rfl

end Go.Proofs.YtjajnhemgphefaaDoor
