/-
  A function whose loop ranges over an iterator in every round leaves with a mark a round: all of them are taken up at its return. What a loop over rules reads.
  rules.isLoose: has the head a variable that the body does not bind? With the library's searches that it calls.
  rules.isLoose, from the library's searches upward.
  rules.isLoose and the search for the first rule that is loose.
  The search for the first rule that is loose.
-/
import Derived.Test.YtjajnhemgphefaaGreatDoorJAddN
import Derived.Laws.StructEq
namespace Go.Proofs.YtjajnhemgphefaaGreatDoor
open Go.RowKit Go.Shelf
set_option linter.unusedVariables false
set_option linter.unusedSimpArgs false

def marks (ds : List Nat) : List Deferred := ds.map fun D => { target := .collected D, args := #[] }

theorem leaves_all {n : Nat} {fn : Func} {tmps : Array Value} {R : Ending → World → Prop} : ∀ (ds : List Nat) (W : World), ds.Nodup → (∀ D ∈ ds, W.heap[D]? = some (.deferred (some []))) →
    (∀ W', Chg W W' (fun j => j ∈ ds) → W'.heap.size = W.heap.size → LeavesInM Fence.wide n Tryz.prog fn tmps R [] .returning W') → LeavesInM Fence.wide n Tryz.prog fn tmps R (marks ds) .returning W
  | [], W, _, _, h => h W (Chg.refl _ _) rfl
  | D :: ds, W, hn, hd, h => by
    have hD := hd D (by simp)
    refine ⟨by simp, .inl ⟨_, _, rfl, run_takeDeferred hD, ?_⟩⟩
    have hg := grownBy_putObj' W D (.deferred none)
    have hsz : (W.putObj D (.deferred none)).heap.size = W.heap.size := by simp [World.putObj]
    have hc : Chg W (W.putObj D (.deferred none)) (fun j => j ∈ D :: ds) := (Chg.refl W _).grown hg (fun k e _ => by cases e; simp)
    refine leaves_all ds _ (List.nodup_cons.1 hn).2 (fun D' h' => ?_) (fun W' hc' hs' => h W' (hc.trans (hc'.mono (fun _ _ e => by simp [e]))) (by omega))
    have hne : D' ≠ D := fun e => (List.nodup_cons.1 hn).1 (e ▸ h')
    have hD' := hd D' (by simp [h'])
    exact (hg.block D' (Array.getElem?_eq_some_iff.1 hD').1 (by simpa using hne)).trans hD'

/-- The k-th rule of a row of rules. -/
theorem rules_cell {W : World} {base b45 b87 : Nat} {v : Value} {rs : List Rl} (h : RulesAt W base b45 b87 v rs) {k : Nat} (hk : k < rs.length) :
    ∃ (g c : Nat) (v0 vb : Value), v = .slice (some ⟨g, 0, none⟩) rs.length c ∧ W.cell? ⟨g, k * 3, none⟩ = some (.string (rs[k]).head.rel) ∧ W.cell? ⟨g, k * 3 + 1, none⟩ = some v0 ∧ W.cell? ⟨g, k * 3 + 2, none⟩ = some vb ∧ RuleV W b45 b87 rs[k] v0 vb := by
  obtain ⟨qs, r1, r2, r3⟩ := h
  have hql : qs.length = rs.length := by rw [← r1]; simp
  obtain ⟨_, ⟨_, hz⟩ | ⟨g, c, cur, hv, _, hw, _, _, _, htk⟩⟩ := r2
  · omega
  have hkq : k < qs.length := by omega
  have hrk : rs[k] = (qs[k]).1 := by simp [← r1]
  have hflat : ∀ (l : List (Rl × Value × Value)) (i : Nat) (hi : i < l.length), (l.flatMap ruleC)[i * 3]? = some (.string (l[i]).1.head.rel) ∧ (l.flatMap ruleC)[i * 3 + 1]? = some (l[i]).2.1 ∧ (l.flatMap ruleC)[i * 3 + 2]? = some (l[i]).2.2 := by
    intro l
    induction l with
    | nil => intro i hi; simp at hi
    | cons x l ih =>
      intro i hi
      cases i with
      | zero => simp [ruleC]
      | succ i =>
        simp only [List.length_cons] at hi
        have := ih i (by omega)
        simp only [List.flatMap_cons, ruleC, List.cons_append, List.nil_append]
        rw [show (i + 1) * 3 = i * 3 + 3 by omega]
        exact this
  obtain ⟨p0, p1, p2⟩ := hflat qs k hkq
  rw [← htk, List.getElem?_take, if_pos (by omega)] at p0 p1 p2
  refine ⟨g, c, (qs[k]).2.1, (qs[k]).2.2, by rw [hv, hql], ?_, ?_, ?_, ?_⟩
  · simp only [World.cell?, hw]; rw [hrk]; simpa using p0
  · simp only [World.cell?, hw]; simpa using p1
  · simp only [World.cell?, hw]; simpa using p2
  · rw [hrk]; exact r3 _ (List.getElem_mem hkq)

theorem RulesAt.rk {W W' : World} {base b45 b87 : Nat} {v : Value} {l : List Rl} (h : RulesAt W base b45 b87 v l) (hk : RuleKept W W') : RulesAt W' base b45 b87 v l := h.keep (fun k c t ht hc => hk k c t ht hc)

theorem RulesAt.form {W : World} {base b45 b87 : Nat} {v : Value} {l : List Rl} (h : RulesAt W base b45 b87 v l) : ∃ a c, v = .slice a l.length c := by
  obtain ⟨qs, r1, r2, r3⟩ := h
  obtain ⟨a, c, e⟩ := owns_form r2
  exact ⟨a, c, by rw [e, ← r1]; simp⟩

end Go.Proofs.YtjajnhemgphefaaGreatDoor

namespace Go.Proofs.YtjajnhemgphefaaGreatDoor
open Go.RowKit Go.Shelf
set_option linter.unusedVariables false
set_option linter.unusedSimpArgs false

theorem eqTerm (a c : ByteArray) (b d : Nat) (w : World) : (binOp .eql 166 (.agg #[.string a, .int .i64 b]) (.agg #[.string c, .int .i64 d])).run Tryz.prog w = .ok (.bool (a.toList == c.toList && b == d)) w := by
  have u3 := Tryz.underlying9
  have a3 := Tryz.isAgg9
  have z3 := Tryz.sizeOf9
  have u4 := Tryz.underlying3
  have a4 := Tryz.isAgg3
  have z4 := Tryz.sizeOf3
  have hS : Tryz.prog.underlying 166 = some (.struct (Tryz.prog.fieldsOf 166)) := by kernel_rfl
  have hp : Tryz.prog.stoodInHeld 166 = false := by kernel_rfl
  rw [run_eql_struct, show (10000 : Nat) = 9999 + 1 from rfl, run_equalIn_agg w 9999 166 _ _ hS hp]
  simp only [Program.fieldsOf, Tryz.underlying166]
  go_simp
  by_cases h2 : b = d
  · subst h2
    by_cases h1 : a.toList = c.toList <;> simp [h1]
  · have h3 : ¬ ((b : Int) = (d : Int)) := by omega
    by_cases h1 : a.toList = c.toList <;> simp [h1, h2, h3]

theorem seal_cell {W : World} {b : Nat} {v : Value} {l : List Tm} (h : SealT W b v l) {k : Nat} (hk : k < l.length) :
    ∃ g c, v = .slice (some ⟨g, 0, none⟩) l.length c ∧ W.cell? ⟨g, k * 2, none⟩ = some (.string (l[k]).name) ∧ W.cell? ⟨g, k * 2 + 1, none⟩ = some (.int .i64 (l[k]).num) ∧ g < W.heap.size := by
  obtain ⟨e0, _⟩ | ⟨g, cp, cur, hv, hgb, hcur, htk⟩ := h
  · rw [e0] at hk; simp at hk
  obtain ⟨p0, p1⟩ := flat_two (fun t : Tm => Value.string t.name) (fun t => Value.int .i64 t.num) l k hk
  have htk' : cur.toList.take (l.length * 2) = l.flatMap fun t => [Value.string t.name, Value.int .i64 t.num] := htk
  rw [← htk', List.getElem?_take, if_pos (by omega)] at p0 p1
  exact ⟨g, cp, hv, by simp only [World.cell?, hcur]; simpa using p0, by simp only [World.cell?, hcur]; simpa using p1, (Array.getElem?_eq_some_iff.1 hcur).1⟩

theorem any_upto {α : Type} (p : α → Bool) (l : List α) (h : ∀ j, (hj : j < l.length) → p l[j] = false) : l.any p = false := by
  rw [List.any_eq_false]
  intro x hx
  obtain ⟨j, hj, rfl⟩ := List.getElem_of_mem hx
  simp [h j hj]

set_option maxHeartbeats 1000000 in
theorem indexT_any (v : Value) (l : List Tm) (b : Nat) (x : ByteArray) (xb : Nat) (w : World) (hS : SealT w b v l) (hl : l.length ≤ 1000) :
    Calls Tryz.prog 218 #[v, .agg #[.string x, .int .i64 xb]] w fun e w' => ∃ r : Int, e = .returned (.int .i64 r) ∧ decide (0 ≤ r) = hasT l x xb ∧ Below w.heap.size w w' := by
  obtain ⟨a, c, hform⟩ := hS.form
  have hcell : ∀ k (hk : k < l.length), ∃ g, a = some ⟨g, 0, none⟩ ∧ w.cell? ⟨g, k * 2, none⟩ = some (.string (l[k]).name) ∧ w.cell? ⟨g, k * 2 + 1, none⟩ = some (.int .i64 (l[k]).num) ∧ g < w.heap.size := by
    intro k hk
    obtain ⟨g, c', h1, h2, h3, h4⟩ := seal_cell hS hk
    rw [hform] at h1; cases h1
    exact ⟨g, rfl, h2, h3, h4⟩
  subst hform
  have HC : Hid _ := hcell
  clear hcell hS
  go_enter Tryz.func218, Tryz.ntmps218
  go_wp2
  go_loopw [8] (fun i wr => ∃ k q : Nat, k ≤ l.length ∧ i = .int .i64 k ∧ Hid (∀ j, (hj : j < l.length) → j < k → sameT x xb l[j] = false) ∧ wr = (w.alloc (.cells #[.string x, .int .i64 xb] 166)).drewN q) (fun i _ => l.length - (intOf i).toNat)
  case atStart => exact ⟨0, 0, Nat.zero_le _, rfl, fun j _ hj => by omega, rfl⟩
  case round =>
    obtain ⟨k, q, hk, rfl, hno, rfl⟩ := hrel
    by_cases hlt : k < l.length
    · obtain ⟨g, rfl, q0, q1, hg⟩ := HC.out k hlt
      have hne : g ≠ w.heap.size := by omega
      have he := fun W => eqTerm x (l[k]).name xb (l[k]).num W
      have i1 : (k : Int) < (l.length : Int) := by omega
      have i2 : (0 : Int) ≤ (k : Int) := by omega
      have hsame : Hid (sameT x xb l[k] = ((x.toList == (l[k]).name.toList) && (xb == (l[k]).num))) := rfl
      generalize htk : l[k] = tk at *
      have HTK : Hid (l[k] = tk) := htk
      clear htk
      generalize hb : ((x.toList == tk.name.toList) && (xb == tk.num)) = bb at *
      have HBB : Hid (((x.toList == tk.name.toList) && (xb == tk.num)) = bb) := hb
      clear hb
      cases bb with
      | true =>
        go_wp2
        go_quiet (fail)
        go_wp2
        go_ret
        refine ⟨k, rfl, ?_, ?_⟩
        · have h1 : hasT l x xb = true := by
            unfold hasT
            rw [List.any_eq_true]
            exact ⟨l[k], List.getElem_mem hlt, by rw [HTK.out, hsame.out]⟩
          rw [h1]; simp
        · exact ⟨rfl, rfl, rfl, by show _ ≤ (w.alloc _).heap.size; simp, fun j hj => Below.heap_alloc _ _ j hj⟩
      | false =>
        go_wp2
        go_quiet (fail)
        go_wp2
        go_roundw
        case rel =>
          refine ⟨k + 1, q + nq, by omega, by go_num, ?_, rfl⟩
          intro j hj hjk
          by_cases e : j = k
          · subst e; rw [HTK.out]; exact hsame.out
          · exact hno.out j hj (by omega)
        case measure => simp [intOf]; omega
    · go_wp2
      go_ret
      refine ⟨-1, rfl, ?_, ?_⟩
      · unfold hasT; rw [any_upto _ _ (fun j hj => hno.out j hj (by omega))]; rfl
      · exact ⟨rfl, rfl, rfl, by show _ ≤ (w.alloc _).heap.size; simp, fun j hj => Below.heap_alloc _ _ j hj⟩

end Go.Proofs.YtjajnhemgphefaaGreatDoor

namespace Go.Proofs.YtjajnhemgphefaaGreatDoor
open Go.RowKit Go.Shelf
set_option linter.unusedVariables false
set_option linter.unusedSimpArgs false

set_option maxHeartbeats 400000 in
theorem containsT_any (v : Value) (l : List Tm) (b : Nat) (x : ByteArray) (xb : Nat) (w : World) (hS : SealT w b v l) (hl : l.length ≤ 1000) :
    Calls Tryz.prog 168 #[v, .agg #[.string x, .int .i64 xb]] w fun e w' => e = .returned (.bool (hasT l x xb)) ∧ Below w.heap.size w w' := by
  have hI : ∀ O, Calls Tryz.prog 218 #[v, .agg #[.string x, .int .i64 xb]] (w.alloc O) fun e w' => ∃ r : Int, e = .returned (.int .i64 r) ∧ decide (0 ≤ r) = hasT l x xb ∧ Below w.heap.size w w' := fun O => by
    have hb : Below w.heap.size w (w.alloc O) := (Below.refl _ w).alloc (Nat.le_refl _) O
    refine (indexT_any v l b x xb (w.alloc O) (hS.rk (RuleKept.ofBelow hb)) hl).mono ?_
    rintro e w' ⟨r, h1, h2, h3⟩
    exact ⟨r, h1, h2, hb.trans (h3.mono (by simp))⟩
  have HI : Hid _ := hI
  clear hI
  obtain ⟨a, c, rfl⟩ := hS.form
  clear hS
  go_enter Tryz.func168, Tryz.ntmps168
  go_wp2_with fail
  refine (HI.out _).mono ?_
  rintro e w1 ⟨r, rfl, hr, hb⟩
  have HR : Hid (decide (0 ≤ r) = hasT l x xb) := hr
  clear hr
  go_wp2
  go_ret
  exact ⟨ret_bool (by rw [← HR.out]), hb⟩

set_option maxHeartbeats 400000 in
theorem loose11_any (rel : ByteArray) (v : Value) (l : List Tm) (b Bt : Nat) (x : ByteArray) (xb : Nat) (w : World) (hS : SealT w b v l) (hl : l.length ≤ 1000) (hbt : w.heap[Bt]? = some (Obj.cells #[.string x, .int .i64 xb] 166 (0, 0))) :
    Calls Tryz.prog 167 #[.agg #[.string rel, v], .pointer (some ⟨Bt, 0, none⟩)] w fun e w' => e = .returned (.bool (hasT l x xb)) ∧ Below w.heap.size w w' := by
  have hlt := (Array.getElem?_eq_some_iff.1 hbt).1
  have c0 : w.cell? ⟨Bt, 0, none⟩ = some (.string x) := by simp [World.cell?, hbt]
  have c1 : w.cell? ⟨Bt, 1, none⟩ = some (.int .i64 xb) := by simp [World.cell?, hbt]
  have hne : Bt ≠ w.heap.size := by omega
  have hI : ∀ O, Calls Tryz.prog 168 #[v, .agg #[.string x, .int .i64 xb]] (w.alloc O) fun e w' => e = .returned (.bool (hasT l x xb)) ∧ Below w.heap.size w w' := fun O => by
    have hb : Below w.heap.size w (w.alloc O) := (Below.refl _ w).alloc (Nat.le_refl _) O
    refine (containsT_any v l b x xb (w.alloc O) (hS.rk (RuleKept.ofBelow hb)) hl).mono ?_
    rintro e w' ⟨h1, h3⟩
    exact ⟨h1, hb.trans (h3.mono (by simp))⟩
  have HI : Hid _ := hI
  clear hI hbt
  obtain ⟨a, c, rfl⟩ := hS.form
  clear hS
  go_enter Tryz.func167, Tryz.ntmps167
  go_wp2_with fail
  refine (HI.out _).mono ?_
  rintro e w1 ⟨rfl, hb⟩
  go_wp2
  go_ret
  exact ⟨rfl, hb⟩

theorem sealA_cell {W : World} {b45 b87 : Nat} {v : Value} {l : List Am} (h : SealA W b45 b87 v l) {k : Nat} (hk : k < l.length) :
    ∃ g off c va, v = .slice (some ⟨g, off, none⟩) l.length c ∧ W.cell? ⟨g, off + k * 2, none⟩ = some (.string (l[k]).rel) ∧ W.cell? ⟨g, off + k * 2 + 1, none⟩ = some va ∧ SealT W b87 va (l[k]).args ∧ g < W.heap.size := by
  obtain ⟨ps, a, cap, e1, e2, e3, e4⟩ := h
  have hpl : ps.length = l.length := by rw [← e1]; simp
  obtain ⟨g, off, cur, k1, k2, k3, k4⟩ := e4 (by intro e; rw [e] at hk; simp at hk)
  have hkp : k < ps.length := by omega
  obtain ⟨p0, p1⟩ := flat_two (fun p : Am × Value => Value.string p.1.rel) (fun p => p.2) ps k hkp
  have k4' : (cur.toList.drop off).take (l.length * 2) = ps.flatMap fun p => [Value.string p.1.rel, p.2] := k4
  rw [← k4', List.getElem?_take, if_pos (by omega), List.getElem?_drop] at p0 p1
  have hlk : l[k] = (ps[k]).1 := by simp [← e1]
  refine ⟨g, off, cap, (ps[k]).2, by rw [e2, k1], ?_, ?_, ?_, (Array.getElem?_eq_some_iff.1 k3).1⟩
  · simp only [World.cell?, k3]; rw [hlk]; simpa using p0
  · simp only [World.cell?, k3]; simpa [Nat.add_assoc] using p1
  · rw [hlk]; exact e3.1 _ (List.getElem_mem hkp)

theorem SealA.form {W : World} {b45 b87 : Nat} {v : Value} {l : List Am} (h : SealA W b45 b87 v l) : ∃ a c, v = .slice a l.length c := by
  obtain ⟨ps, a, cap, e1, e2, _⟩ := h; exact ⟨a, cap, e2⟩

theorem SealA.form2 {W : World} {b45 b87 : Nat} {v : Value} {l : List Am} (h : SealA W b45 b87 v l) : ∃ a c, v = .slice a l.length c ∧ l.length ≤ c := by
  obtain ⟨ps, a, cap, e1, e2, e3, _⟩ := h; exact ⟨a, cap, e2, e3.2⟩

set_option maxHeartbeats 1000000 in
theorem idxAtoms_any (v : Value) (l : List Am) (b45 b87 Bt : Nat) (x : ByteArray) (xb : Nat) (w : World) (hS : SealA w b45 b87 v l) (hl : l.length ≤ 1000) (ha : ∀ a ∈ l, a.args.length ≤ 1000) (hbt : w.heap[Bt]? = some (Obj.cells #[.string x, .int .i64 xb] 166 (0, 0))) :
    Calls Tryz.prog 217 #[v, .func (.func 167) #[] #[.pointer (some ⟨Bt, 0, none⟩)]] w fun e w' => ∃ r : Int, e = .returned (.int .i64 r) ∧ decide (0 ≤ r) = l.any (fun a => hasT a.args x xb) ∧ Below w.heap.size w w' := by
  obtain ⟨a, c, hform⟩ := hS.form
  have hcell : ∀ k (hk : k < l.length), ∃ g off va, a = some ⟨g, off, none⟩ ∧ w.cell? ⟨g, off + k * 2, none⟩ = some (.string (l[k]).rel) ∧ w.cell? ⟨g, off + k * 2 + 1, none⟩ = some va ∧ SealT w b87 va (l[k]).args ∧ g < w.heap.size := by
    intro k hk
    obtain ⟨g, off, c', va, h1, h2, h3, h4, h5⟩ := sealA_cell hS hk
    rw [hform] at h1; cases h1
    exact ⟨g, off, va, rfl, h2, h3, h4, h5⟩
  subst hform
  have HC : Hid _ := hcell
  have HBT : Hid _ := hbt
  have HA : Hid _ := ha
  clear hcell hS hbt ha
  go_enter Tryz.func217, Tryz.ntmps217
  go_wp2
  go_loopw [8] (fun i wr => ∃ k : Nat, k ≤ l.length ∧ i = .int .i64 k ∧ Hid (∀ j, (hj : j < l.length) → j < k → hasT (l[j]).args x xb = false) ∧ Below w.heap.size w wr) (fun i _ => l.length - (intOf i).toNat)
  case atStart => exact ⟨0, Nat.zero_le _, rfl, fun j _ hj => by omega, Below.refl _ _⟩
  case round =>
    obtain ⟨k, hk, rfl, hno, hb⟩ := hrel
    by_cases hlt : k < l.length
    · obtain ⟨g, off, va, rfl, q0, q1, hs, hg⟩ := HC.out k hlt
      have q0' := (hb.cell (p := ⟨g, off + k * 2, none⟩) hg).trans q0
      have q1' := (hb.cell (p := ⟨g, off + k * 2 + 1, none⟩) hg).trans q1
      have hcall := loose11_any (l[k]).rel va (l[k]).args b87 Bt x xb wr (hs.rk (RuleKept.ofBelow hb)) (HA.out _ (List.getElem_mem hlt)) ((hb.block Bt (Array.getElem?_eq_some_iff.1 HBT.out).1).trans HBT.out)
      obtain ⟨sa, sc, hsf⟩ := hs.form
      rw [hsf] at hcall q1'
      have i1 : (k : Int) < (l.length : Int) := by omega
      generalize hbb : hasT (l[k]).args x xb = bb at *
      have HBB : Hid (hasT (l[k]).args x xb = bb) := hbb
      clear hbb q0 q1 hs hsf
      generalize (l[k]).rel = rel at *
      generalize (l[k]).args.length = m at *
      cases bb with
      | true =>
        go_wp2_with fail
        refine hcall.mono ?_
        rintro e w1 ⟨rfl, hb1⟩
        go_wp2
        go_ret
        refine ⟨k, rfl, ?_, hb.trans (hb1.mono hb.size)⟩
        have h1 : l.any (fun a => hasT a.args x xb) = true := by
          rw [List.any_eq_true]; exact ⟨l[k], List.getElem_mem hlt, HBB.out⟩
        rw [h1]; simp
      | false =>
        go_wp2_with fail
        refine hcall.mono ?_
        rintro e w1 ⟨rfl, hb1⟩
        go_wp2
        go_roundw
        case rel =>
          refine ⟨k + 1, by omega, by go_num, ?_, hb.trans (hb1.mono hb.size)⟩
          intro j hj hjk
          by_cases e : j = k
          · subst e; exact HBB.out
          · exact hno.out j hj (by omega)
        case measure => simp [intOf]; omega
    · go_wp2
      go_ret
      refine ⟨-1, rfl, ?_, hb⟩
      rw [any_upto _ _ (fun j hj => hno.out j hj (by omega))]; rfl

end Go.Proofs.YtjajnhemgphefaaGreatDoor

namespace Go.Proofs.YtjajnhemgphefaaGreatDoor
open Go.RowKit Go.Shelf
set_option linter.unusedVariables false
set_option linter.unusedSimpArgs false

set_option maxHeartbeats 400000 in
theorem conAtoms_any (r : Rl) (vb : Value) (b45 b87 Bt : Nat) (x : ByteArray) (xb : Nat) (w : World) (hok : RuleOk r) (hS : SealA w b45 b87 vb r.body) (hbt : w.heap[Bt]? = some (Obj.cells #[.string x, .int .i64 xb] 166 (0, 0))) :
    Calls Tryz.prog 166 #[vb, .func (.func 167) #[] #[.pointer (some ⟨Bt, 0, none⟩)]] w fun e w' => e = .returned (.bool (bodyHas r x xb)) ∧ Below w.heap.size w w' := by
  have hI := idxAtoms_any vb r.body b45 b87 Bt x xb w hS (by have := hok.body; omega) (fun a ha => by have := (hok.ams a ha).args; omega) hbt
  obtain ⟨a, c, rfl⟩ := hS.form
  have HI : Hid _ := hI
  clear hI hS hbt
  go_enter Tryz.func166, Tryz.ntmps166
  go_wp2_with fail
  refine Calls.mono HI.out ?_
  rintro e w1 ⟨i, rfl, hr, hb⟩
  have HR : Hid (decide (0 ≤ i) = bodyHas r x xb) := hr
  clear hr
  go_wp2
  go_ret
  exact ⟨ret_bool (by rw [← HR.out]), hb⟩

set_option maxHeartbeats 400000 in
theorem loose1_any (r : Rl) (v0 vb : Value) (b45 b87 Br : Nat) (t : Tm) (w : World) (hok : RuleOk r) (hv : RuleV w b45 b87 r v0 vb) (hbr : w.heap[Br]? = some (Obj.cells #[.string r.head.rel, v0, vb] 136 (0, 0))) :
    Calls Tryz.prog 165 #[.agg #[.string t.name, .int .i64 t.num], .pointer (some ⟨Br, 0, none⟩)] w fun e w' => e = .returned (.bool (unboundB r t)) ∧ Below w.heap.size w w' := by
  have hlt := (Array.getElem?_eq_some_iff.1 hbr).1
  have c2 : w.cell? ⟨Br, 2, none⟩ = some vb := by simp [World.cell?, hbr]
  have hne : Br ≠ w.heap.size := by omega
  obtain ⟨a, c, hform⟩ := hv.2.form
  have hI : ∀ W1, Below (w.alloc (.cells #[.string t.name, .int .i64 t.num] 166)).heap.size (w.alloc (.cells #[.string t.name, .int .i64 t.num] 166)) W1 → Calls Tryz.prog 166 #[vb, .func (.func 167) #[] #[.pointer (some ⟨w.heap.size, 0, none⟩)]] W1 fun e w' => e = .returned (.bool (bodyHas r t.name t.num)) ∧ Below w.heap.size w w' := by
    intro W1 hb1
    have hb0 : Below w.heap.size w (w.alloc (.cells #[.string t.name, .int .i64 t.num] 166)) := (Below.refl _ w).alloc (Nat.le_refl _) _
    have hb : Below w.heap.size w W1 := hb0.trans (hb1.mono (by simp))
    refine (conAtoms_any r vb b45 b87 w.heap.size t.name t.num _ hok (hv.2.rk (RuleKept.ofBelow hb)) ((hb1.block w.heap.size (by simp)).trans (World.alloc_heap_new w _))).mono ?_
    rintro e w' ⟨h1, h3⟩
    exact ⟨h1, hb.trans (h3.mono hb.size)⟩
  have hC : Hid (∀ O W1, Below (w.alloc O).heap.size (w.alloc O) W1 → W1.cell? ⟨Br, 2, none⟩ = some vb ∧ Below w.heap.size w W1) := fun O W1 hb1 => by
    have hb0 : Below w.heap.size w (w.alloc O) := (Below.refl _ w).alloc (Nat.le_refl _) _
    have hb : Below w.heap.size w W1 := hb0.trans (hb1.mono (by simp))
    exact ⟨(hb.cell (p := ⟨Br, 2, none⟩) hlt).trans c2, hb⟩
  rw [hform] at c2 hI hC
  have HI : Hid _ := hI
  have hiv : Hid (∀ W, Calls Tryz.prog 139 #[.agg #[.string t.name, .int .i64 t.num]] W fun e w' => e = .returned (.bool t.name.toList.isEmpty) ∧ Below W.heap.size W w') := fun W => isVariable_any t W
  have hu : Hid (unboundB r t = (t.name.toList.isEmpty && !bodyHas r t.name t.num)) := rfl
  clear hI hbr hv hform
  generalize unboundB r t = ub at *
  generalize bodyHas r t.name t.num = bh at *
  generalize t.num = tn at *
  generalize htv : t.name.toList.isEmpty = tv at *
  clear htv
  generalize t.name = tx at *
  cases tv with
  | false =>
    go_enter Tryz.func165, Tryz.ntmps165
    go_wp2_with (go_at_call 139; refine (hiv.out _).mono ?_; rintro e W1 ⟨rfl, hb1⟩)
    go_ret
    exact ⟨ret_bool (by rw [hu.out]; rfl), (hC.out _ _ hb1).2⟩
  | true =>
    go_enter Tryz.func165, Tryz.ntmps165
    go_wp2_with (first | (go_at_call 139; refine (hiv.out _).mono ?_; rintro e W1 ⟨rfl, hb1⟩; have kc := (hC.out _ _ hb1).1) | (go_at_call 166; refine (HI.out W1 hb1).mono ?_; rintro e w2 ⟨rfl, hb⟩))
    go_ret
    exact ⟨ret_bool (by rw [hu.out]; rfl), hb⟩

set_option maxHeartbeats 1000000 in
theorem idxTerms_any (r : Rl) (v0 vb : Value) (b45 b87 Br : Nat) (w : World) (hok : RuleOk r) (hv : RuleV w b45 b87 r v0 vb) (hbr : w.heap[Br]? = some (Obj.cells #[.string r.head.rel, v0, vb] 136 (0, 0))) :
    Calls Tryz.prog 192 #[v0, .func (.func 165) #[] #[.pointer (some ⟨Br, 0, none⟩)]] w fun e w' => ∃ i : Int, e = .returned (.int .i64 i) ∧ decide (0 ≤ i) = looseC r ∧ Below w.heap.size w w' := by
  obtain ⟨a, c, hform⟩ := hv.1.form
  have hl : r.head.args.length ≤ 1000 := by have := hok.head.args; omega
  have hcell : ∀ k (hk : k < r.head.args.length), ∃ g, a = some ⟨g, 0, none⟩ ∧ w.cell? ⟨g, k * 2, none⟩ = some (.string (r.head.args[k]).name) ∧ w.cell? ⟨g, k * 2 + 1, none⟩ = some (.int .i64 (r.head.args[k]).num) ∧ g < w.heap.size := by
    intro k hk
    obtain ⟨g, c', h1, h2, h3, h4⟩ := seal_cell hv.1 hk
    rw [hform] at h1; cases h1
    exact ⟨g, rfl, h2, h3, h4⟩
  have hcalls : ∀ wr, Below w.heap.size w wr → ∀ t, Calls Tryz.prog 165 #[.agg #[.string t.name, .int .i64 t.num], .pointer (some ⟨Br, 0, none⟩)] wr fun e w' => e = .returned (.bool (unboundB r t)) ∧ Below wr.heap.size wr w' := fun wr hb t =>
    loose1_any r v0 vb b45 b87 Br t wr hok (hv.rk (RuleKept.ofBelow hb)) ((hb.block Br (Array.getElem?_eq_some_iff.1 hbr).1).trans hbr)
  subst hform
  have HC : Hid _ := hcell
  have HF : Hid _ := hcalls
  have HU : Hid (looseC r = r.head.args.any (unboundB r)) := rfl
  clear hcell hcalls hv hbr hok
  generalize r.head.args = l at *
  generalize looseC r = us at *
  go_enter Tryz.func192, Tryz.ntmps192
  go_wp2
  go_loopw [8] (fun i wr => ∃ k : Nat, k ≤ l.length ∧ i = .int .i64 k ∧ Hid (∀ j, (hj : j < l.length) → j < k → unboundB r l[j] = false) ∧ Below w.heap.size w wr) (fun i _ => l.length - (intOf i).toNat)
  case atStart => exact ⟨0, Nat.zero_le _, rfl, fun j _ hj => by omega, Below.refl _ _⟩
  case round =>
    obtain ⟨k, hk, rfl, hno, hb⟩ := hrel
    by_cases hlt : k < l.length
    · obtain ⟨g, rfl, q0, q1, hg⟩ := HC.out k hlt
      have q0' := (hb.cell (p := ⟨g, k * 2, none⟩) hg).trans q0
      have q1' := (hb.cell (p := ⟨g, k * 2 + 1, none⟩) hg).trans q1
      have hcall := HF.out wr hb l[k]
      have i1 : (k : Int) < (l.length : Int) := by omega
      generalize hbb : unboundB r l[k] = bb at *
      have HBB : Hid (unboundB r l[k] = bb) := hbb
      clear hbb q0 q1
      generalize (l[k]).name = tx at *
      generalize (l[k]).num = tv at *
      cases bb with
      | true =>
        go_wp2_with fail
        refine hcall.mono ?_
        rintro e w1 ⟨rfl, hb1⟩
        go_wp2
        go_ret
        refine ⟨k, rfl, ?_, hb.trans (hb1.mono hb.size)⟩
        have h1 : l.any (unboundB r) = true := by
          rw [List.any_eq_true]; exact ⟨l[k], List.getElem_mem hlt, HBB.out⟩
        rw [HU.out, h1]; simp
      | false =>
        go_wp2_with fail
        refine hcall.mono ?_
        rintro e w1 ⟨rfl, hb1⟩
        go_wp2
        go_roundw
        case rel =>
          refine ⟨k + 1, by omega, by go_num, ?_, hb.trans (hb1.mono hb.size)⟩
          intro j hj hjk
          by_cases e : j = k
          · subst e; exact HBB.out
          · exact hno.out j hj (by omega)
        case measure => simp [intOf]; omega
    · go_wp2
      go_ret
      refine ⟨-1, rfl, ?_, hb⟩
      rw [HU.out, any_upto _ _ (fun j hj => hno.out j hj (by omega))]; rfl

set_option maxHeartbeats 400000 in
theorem conTerms_any (r : Rl) (v0 vb : Value) (b45 b87 Br : Nat) (w : World) (hok : RuleOk r) (hv : RuleV w b45 b87 r v0 vb) (hbr : w.heap[Br]? = some (Obj.cells #[.string r.head.rel, v0, vb] 136 (0, 0))) :
    Calls Tryz.prog 142 #[v0, .func (.func 165) #[] #[.pointer (some ⟨Br, 0, none⟩)]] w fun e w' => e = .returned (.bool (looseC r)) ∧ Below w.heap.size w w' := by
  have hI := idxTerms_any r v0 vb b45 b87 Br w hok hv hbr
  obtain ⟨a, c, rfl⟩ := hv.1.form
  have HI : Hid _ := hI
  clear hI hv hbr
  go_enter Tryz.func142, Tryz.ntmps142
  go_wp2_with fail
  refine Calls.mono HI.out ?_
  rintro e w1 ⟨i, rfl, hr, hb⟩
  have HR : Hid (decide (0 ≤ i) = looseC r) := hr
  clear hr
  go_wp2
  go_ret
  exact ⟨ret_bool (by rw [← HR.out]), hb⟩

set_option maxHeartbeats 400000 in
theorem isLoose_any (r : Rl) (v0 vb : Value) (b45 b87 : Nat) (w : World) (hok : RuleOk r) (hv : RuleV w b45 b87 r v0 vb) :
    Calls Tryz.prog 102 #[.agg #[.string r.head.rel, v0, vb]] w fun e w' => e = .returned (.bool (looseC r)) ∧ Below w.heap.size w w' := by
  have hI : Calls Tryz.prog 142 #[v0, .func (.func 165) #[] #[.pointer (some ⟨w.heap.size, 0, none⟩)]] (w.alloc (.cells #[.string r.head.rel, v0, vb] 136)) fun e w' => e = .returned (.bool (looseC r)) ∧ Below w.heap.size w w' := by
    have hb : Below w.heap.size w (w.alloc (.cells #[.string r.head.rel, v0, vb] 136)) := (Below.refl _ w).alloc (Nat.le_refl _) _
    refine (conTerms_any r v0 vb b45 b87 w.heap.size _ hok (hv.rk (RuleKept.ofBelow hb)) (World.alloc_heap_new w _)).mono ?_
    rintro e w' ⟨h1, h3⟩
    exact ⟨h1, hb.trans (h3.mono (by simp))⟩
  obtain ⟨a, c, hf⟩ := hv.1.form
  obtain ⟨a', c', hf'⟩ := hv.2.form
  rw [hf, hf'] at hI ⊢
  have HI : Hid _ := hI
  clear hI hv hf hf'
  go_enter Tryz.func102, Tryz.ntmps102
  go_wp2_with fail
  refine Calls.mono HI.out ?_
  rintro e w1 ⟨rfl, hb⟩
  go_wp2
  go_ret
  exact ⟨rfl, hb⟩

end Go.Proofs.YtjajnhemgphefaaGreatDoor

namespace Go.Proofs.YtjajnhemgphefaaGreatDoor
open Go.RowKit Go.Shelf
set_option linter.unusedVariables false
set_option linter.unusedSimpArgs false

theorem firstFrom_skip (p : Rl → Bool) : ∀ (rs : List Rl) (i k : Nat), k ≤ rs.length → (∀ j, (hj : j < rs.length) → j < k → p rs[j] = false) → firstFrom p i rs = firstFrom p (i + k) (rs.drop k)
  | rs, i, 0, _, _ => by simp
  | [], i, k + 1, h, _ => by simp at h
  | r :: rs, i, k + 1, h, hn => by
    have h0 := hn 0 (by simp) (by omega)
    simp only [List.getElem_cons_zero] at h0
    rw [firstFrom, if_neg (by simp [h0]), List.drop_succ_cons, firstFrom_skip p rs (i + 1) k (by simpa using h) (fun j hj hk => by
      have := hn (j + 1) (by simp; omega) (by omega)
      simpa using this)]
    congr 1; omega

theorem firstFrom_here (p : Rl → Bool) (rs : List Rl) (k : Nat) (hk : k < rs.length) (hn : ∀ j, (hj : j < rs.length) → j < k → p rs[j] = false) (h : p rs[k] = true) : firstFrom p 0 rs = k := by
  rw [firstFrom_skip p rs 0 k (by omega) hn, List.drop_eq_getElem_cons hk, firstFrom, if_pos h]
  simp

theorem firstFrom_none (p : Rl → Bool) (rs : List Rl) (hn : ∀ j, (hj : j < rs.length) → p rs[j] = false) : firstFrom p 0 rs = -1 := by
  rw [firstFrom_skip p rs 0 rs.length (by omega) (fun j hj _ => hn j hj), List.drop_length]; rfl

set_option maxHeartbeats 1000000 in
theorem idxRules_any (v : Value) (rs : List Rl) (base b45 b87 : Nat) (w : World) (hR : RulesAt w base b45 b87 v rs) (hrow : ∀ g, v.ownBlock = some g → g < w.heap.size) (h8 : rs.length ≤ 8) (hok : ∀ r ∈ rs, RuleOk r) :
    Calls Tryz.prog 101 #[v, .func (.func 102) #[] #[]] w fun e w' => e = .returned (.int .i64 (firstLoose rs)) ∧ Below w.heap.size w w' := by
  obtain ⟨a, c, hform⟩ := hR.form
  have hcell : ∀ k (hk : k < rs.length), ∃ g v0 vb, a = some ⟨g, 0, none⟩ ∧ w.cell? ⟨g, k * 3, none⟩ = some (.string (rs[k]).head.rel) ∧ w.cell? ⟨g, k * 3 + 1, none⟩ = some v0 ∧ w.cell? ⟨g, k * 3 + 2, none⟩ = some vb ∧ RuleV w b45 b87 rs[k] v0 vb ∧ g < w.heap.size := by
    intro k hk
    obtain ⟨g, c', v0, vb, h1, h2, h3, h4, h5⟩ := rules_cell hR hk
    have hg := hrow g (by rw [h1]; rfl)
    rw [hform] at h1; cases h1
    exact ⟨g, v0, vb, rfl, h2, h3, h4, h5, hg⟩
  subst hform
  have HC : Hid _ := hcell
  have HOK : Hid _ := hok
  clear hcell hR hok hrow
  go_enter Tryz.func101, Tryz.ntmps101
  go_wp2
  go_loopw [8] (fun i wr => ∃ k : Nat, k ≤ rs.length ∧ i = .int .i64 k ∧ Hid (∀ j, (hj : j < rs.length) → j < k → looseC rs[j] = false) ∧ Below w.heap.size w wr) (fun i _ => rs.length - (intOf i).toNat)
  case atStart => exact ⟨0, Nat.zero_le _, rfl, fun j _ hj => by omega, Below.refl _ _⟩
  case round =>
    obtain ⟨k, hk, rfl, hno, hb⟩ := hrel
    by_cases hlt : k < rs.length
    · obtain ⟨g, v0, vb, rfl, q0, q1, q2, hv, hg⟩ := HC.out k hlt
      have q0' := (hb.cell (p := ⟨g, k * 3, none⟩) hg).trans q0
      have q1' := (hb.cell (p := ⟨g, k * 3 + 1, none⟩) hg).trans q1
      have q2' := (hb.cell (p := ⟨g, k * 3 + 2, none⟩) hg).trans q2
      have hcall := isLoose_any rs[k] v0 vb b45 b87 wr (HOK.out _ (List.getElem_mem hlt)) (hv.rk (RuleKept.ofBelow hb))
      obtain ⟨sa, sc, hsf⟩ := hv.1.form
      obtain ⟨ta, tc, htf⟩ := hv.2.form
      rw [hsf] at hcall q1'
      rw [htf] at hcall q2'
      have i1 : (k : Int) < (rs.length : Int) := by omega
      generalize hbb : looseC rs[k] = bb at *
      have HBB : Hid (looseC rs[k] = bb) := hbb
      clear hbb q0 q1 q2 hv hsf htf
      generalize (rs[k]).head.rel = rel at *
      generalize (rs[k]).head.args.length = m1 at *
      generalize (rs[k]).body.length = m2 at *
      cases bb with
      | true =>
        go_wp2_with fail
        refine hcall.mono ?_
        rintro e w1 ⟨rfl, hb1⟩
        go_wp2
        go_ret
        exact ⟨ret_int (firstFrom_here looseC rs k hlt hno.out HBB.out).symm, hb.trans (hb1.mono hb.size)⟩
      | false =>
        go_wp2_with fail
        refine hcall.mono ?_
        rintro e w1 ⟨rfl, hb1⟩
        go_wp2
        go_roundw
        case rel =>
          refine ⟨k + 1, by omega, by go_num, ?_, hb.trans (hb1.mono hb.size)⟩
          intro j hj hjk
          by_cases e : j = k
          · subst e; exact HBB.out
          · exact hno.out j hj (by omega)
        case measure => simp [intOf]; omega
    · go_wp2
      go_ret
      exact ⟨ret_int (firstFrom_none looseC rs (fun j hj => hno.out j hj (by omega))).symm, hb⟩

end Go.Proofs.YtjajnhemgphefaaGreatDoor
