/-
  rules.isLoose: has the head a variable that the body does not bind? With the library's searches that it calls.
-/
import Derived.Test.YtpfknibkdiebaaaDoorLeave
import Derived.Laws.StructEq
namespace Go.Proofs.YtpfknibkdiebaaaDoor
open Go.RowKit Go.Shelf
set_option linter.unusedVariables false
set_option linter.unusedSimpArgs false

theorem eqTerm (a c : ByteArray) (b d : Bool) (w : World) : (binOp .eql 87 (.agg #[.string a, .bool b]) (.agg #[.string c, .bool d])).run Tryd.prog w = .ok (.bool (a.toList == c.toList && b == d)) w := by
  have u3 := Tryd.underlying9
  have a3 := Tryd.isAgg9
  have z3 := Tryd.sizeOf9
  have u4 := Tryd.underlying4
  have a4 := Tryd.isAgg4
  have z4 := Tryd.sizeOf4
  have hS : Tryd.prog.underlying 87 = some (.struct (Tryd.prog.fieldsOf 87)) := by kernel_rfl
  have hp : Tryd.prog.stoodInHeld 87 = false := by kernel_rfl
  rw [run_eql_struct, show (10000 : Nat) = 9999 + 1 from rfl, run_equalIn_agg w 9999 87 _ _ hS hp]
  simp only [Program.fieldsOf, Tryd.underlying87]
  go_simp
  by_cases h1 : a.toList = c.toList <;> by_cases h2 : b = d <;> simp [h1, h2]

def sameT (x : ByteArray) (xb : Bool) (t : ATerm) : Bool := x.toList == t.text.toList && xb == t.isVar
def hasT (l : List ATerm) (x : ByteArray) (xb : Bool) : Bool := l.any (sameT x xb)

theorem seal_cell {W : World} {b : Nat} {v : Value} {l : List ATerm} (h : SealT W b v l) {k : Nat} (hk : k < l.length) :
    ∃ g c, v = .slice (some ⟨g, 0, none⟩) l.length c ∧ W.cell? ⟨g, k * 2, none⟩ = some (.string (l[k]).text) ∧ W.cell? ⟨g, k * 2 + 1, none⟩ = some (.bool (l[k]).isVar) ∧ g < W.heap.size := by
  obtain ⟨e0, _⟩ | ⟨g, cp, cur, hv, hgb, hcur, htk⟩ := h
  · rw [e0] at hk; simp at hk
  obtain ⟨p0, p1⟩ := flat_two (fun t : ATerm => Value.string t.text) (fun t => Value.bool t.isVar) l k hk
  have htk' : cur.toList.take (l.length * 2) = l.flatMap fun t => [Value.string t.text, Value.bool t.isVar] := htk
  rw [← htk', List.getElem?_take, if_pos (by omega)] at p0 p1
  exact ⟨g, cp, hv, by simp only [World.cell?, hcur]; simpa using p0, by simp only [World.cell?, hcur]; simpa using p1, (Array.getElem?_eq_some_iff.1 hcur).1⟩

theorem any_upto {α : Type} (p : α → Bool) (l : List α) (h : ∀ j, (hj : j < l.length) → p l[j] = false) : l.any p = false := by
  rw [List.any_eq_false]
  intro x hx
  obtain ⟨j, hj, rfl⟩ := List.getElem_of_mem hx
  simp [h j hj]

set_option maxHeartbeats 1000000 in
theorem indexT_any (v : Value) (l : List ATerm) (b : Nat) (x : ByteArray) (xb : Bool) (w : World) (hS : SealT w b v l) (hl : l.length ≤ 1000) :
    Calls Tryd.prog 57 #[v, .agg #[.string x, .bool xb]] w fun e w' => ∃ r : Int, e = .returned (.int .i64 r) ∧ decide (0 ≤ r) = hasT l x xb ∧ Below w.heap.size w w' := by
  obtain ⟨a, c, hform⟩ := hS.form
  have hcell : ∀ k (hk : k < l.length), ∃ g, a = some ⟨g, 0, none⟩ ∧ w.cell? ⟨g, k * 2, none⟩ = some (.string (l[k]).text) ∧ w.cell? ⟨g, k * 2 + 1, none⟩ = some (.bool (l[k]).isVar) ∧ g < w.heap.size := by
    intro k hk
    obtain ⟨g, c', h1, h2, h3, h4⟩ := seal_cell hS hk
    rw [hform] at h1; cases h1
    exact ⟨g, rfl, h2, h3, h4⟩
  subst hform
  have HC : Hid _ := hcell
  clear hcell hS
  go_enter Tryd.func57, Tryd.ntmps57
  go_wp2
  go_loopw [8] (fun i wr => ∃ k q : Nat, k ≤ l.length ∧ i = .int .i64 k ∧ Hid (∀ j, (hj : j < l.length) → j < k → sameT x xb l[j] = false) ∧ wr = (w.alloc (.cells #[.string x, .bool xb] 87)).drewN q) (fun i _ => l.length - (intOf i).toNat)
  case atStart => exact ⟨0, 0, Nat.zero_le _, rfl, fun j _ hj => by omega, rfl⟩
  case round =>
    obtain ⟨k, q, hk, rfl, hno, rfl⟩ := hrel
    by_cases hlt : k < l.length
    · obtain ⟨g, rfl, q0, q1, hg⟩ := HC.out k hlt
      have hne : g ≠ w.heap.size := by omega
      have he := fun W => eqTerm x (l[k]).text xb (l[k]).isVar W
      have i1 : (k : Int) < (l.length : Int) := by omega
      have i2 : (0 : Int) ≤ (k : Int) := by omega
      have hsame : Hid (sameT x xb l[k] = ((x.toList == (l[k]).text.toList) && (xb == (l[k]).isVar))) := rfl
      generalize htk : l[k] = tk at *
      have HTK : Hid (l[k] = tk) := htk
      clear htk
      generalize hb : ((x.toList == tk.text.toList) && (xb == tk.isVar)) = bb at *
      have HBB : Hid (((x.toList == tk.text.toList) && (xb == tk.isVar)) = bb) := hb
      clear hb
      cases bb with
      | true =>
        go_wp2
        go_quiet (fail)
        go_wp2
        go_ret
        refine ⟨k, rfl, ?_, ?_⟩
        · have h1 : hasT l x xb = true := by
            unfold hasT
            rw [List.any_eq_true]
            exact ⟨l[k], List.getElem_mem hlt, by rw [HTK.out, hsame.out]⟩
          rw [h1]; simp
        · exact ⟨rfl, rfl, rfl, by show _ ≤ (w.alloc _).heap.size; simp, fun j hj => Below.heap_alloc _ _ j hj⟩
      | false =>
        go_wp2
        go_quiet (fail)
        go_wp2
        go_roundw
        case rel =>
          refine ⟨k + 1, q + nq, by omega, by go_num, ?_, rfl⟩
          intro j hj hjk
          by_cases e : j = k
          · subst e; rw [HTK.out]; exact hsame.out
          · exact hno.out j hj (by omega)
        case measure => simp [intOf]; omega
    · go_wp2
      go_ret
      refine ⟨-1, rfl, ?_, ?_⟩
      · unfold hasT; rw [any_upto _ _ (fun j hj => hno.out j hj (by omega))]; rfl
      · exact ⟨rfl, rfl, rfl, by show _ ≤ (w.alloc _).heap.size; simp, fun j hj => Below.heap_alloc _ _ j hj⟩

end Go.Proofs.YtpfknibkdiebaaaDoor
