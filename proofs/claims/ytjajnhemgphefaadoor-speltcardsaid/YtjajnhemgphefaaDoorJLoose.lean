/-
  The writers: a term, with the builder's text said byte by byte.
  rules.isLoose: has the head a variable that the body does not bind? With the library's searches that it calls.
-/
import Derived.Test.YtjajnhemgphefaaDoorJBuild
import Derived.Laws.StructEq
namespace Go.Proofs.YtjajnhemgphefaaDoor
open Go.RowKit Go.Shelf
set_option linter.unusedVariables false
set_option linter.unusedSimpArgs false

def Bld (B b : Nat) (bs : List UInt8) (W : World) : Prop := Lib.IsBuilderF 42 5 B b (Lib.byteCells bs) W

/-- What a writer does: the builder's text is longer; all else that is no row of bytes is as it was. -/
structure Wrote (B b : Nat) (bs : List UInt8) (W W' : World) : Prop where
  bld : Bld B b bs W'
  below : Below B W W'
  others : Lib.OthersKept 5 (some b) W W'

theorem byteCells_append (l m : List UInt8) : Lib.byteCells (l ++ m) = Lib.byteCells l ++ Lib.byteCells m := by simp [Lib.byteCells]
theorem byteCells_length (l : List UInt8) : (Lib.byteCells l).length = l.length := by simp [Lib.byteCells]

theorem Bld.block {B b : Nat} {bs : List UInt8} {W : World} (h : Bld B b bs W) : B ≤ b ∧ ∃ c, W.heap[b]? = some (Obj.cells c 42 (0, 0)) := by
  rcases h with ⟨hB, v, hb, _⟩ | ⟨hB, v, hb, _⟩
  · exact ⟨hB, _, hb⟩
  · exact ⟨hB, _, hb⟩

theorem Bld.below {B b : Nat} {bs : List UInt8} {W W' : World} (h : Bld B b bs W) (hb : Below W.heap.size W W') : Bld B b bs W' := by
  have hlt : b < W.heap.size := by obtain ⟨_, c, hc⟩ := h.block; exact (Array.getElem?_eq_some_iff.1 hc).1
  rcases h with ⟨h1, v, h2, h3, h4⟩ | ⟨h1, v, h2, h3, h4⟩
  · exact .inl ⟨h1, v, (hb.block b hlt).trans h2, h3.kept (below_grownBy hb) (by cases hv : v.ownBlock <;> simp), h4⟩
  · exact .inr ⟨h1, v, (hb.block b hlt).trans h2, h3.kept (below_grownBy hb) (by cases hv : v.ownBlock <;> simp), h4⟩

theorem others_below {b : Option Nat} {W W' : World} (h : Below W.heap.size W W') : Lib.OthersKept 5 b W W' := fun k o hk _ _ => (h.block k (Array.getElem?_eq_some_iff.1 hk).1).trans hk

theorem Wrote.cells {B b : Nat} {bs bs0 : List UInt8} {W W' : World} (h : Wrote B b bs W W') (h0 : Bld B b bs0 W) {k : Nat} {c : Array Value} {t : TypeId} {fz : Nat × Nat} (hk : W.heap[k]? = some (Obj.cells c t fz)) (ht : t ≠ 5) (ht2 : t ≠ 42) : W'.heap[k]? = some (Obj.cells c t fz) := by
  refine h.others k _ hk (fun e => ?_) (fun c' fz' e => ?_)
  · cases e
    obtain ⟨_, c', hc'⟩ := h0.block
    rw [hk] at hc'; cases hc'; exact ht2 rfl
  · cases e; exact ht rfl

theorem Wrote.rk {B b : Nat} {bs bs0 : List UInt8} {W W' : World} (h : Wrote B b bs W W') (h0 : Bld B b bs0 W) : RuleKept W W' := fun k c t ht hc =>
  h.cells h0 hc (by rcases ht with rfl | rfl | rfl <;> decide) (by rcases ht with rfl | rfl | rfl <;> decide)

theorem Wrote.row {B b : Nat} {bs bs0 : List UInt8} {W W' : World} (h : Wrote B b bs W W') (h0 : Bld B b bs0 W) {base n : Nat} {v : Value} {xs : List Value} (hv : W.ownsRow base 9 1 v n xs) : W'.ownsRow base 9 1 v n xs :=
  owns_kept hv (fun g c _ hc => h.cells h0 hc (by decide) (by decide))

theorem Wrote.trans {B b : Nat} {bs bs' : List UInt8} {A C D : World} (h : Wrote B b bs A C) (k : Wrote B b bs' C D) : Wrote B b bs' A D := ⟨k.bld, h.below.trans k.below, h.others.trans k.others⟩
theorem Wrote.after {B b : Nat} {bs : List UInt8} {A C D : World} (h : Below A.heap.size A C) (hB : B ≤ A.heap.size) (k : Wrote B b bs C D) : Wrote B b bs A D := ⟨k.bld, (h.mono hB).trans k.below, (others_below h).trans k.others⟩

theorem writeStr_any (B b : Nat) (bs : List UInt8) (s : ByteArray) (W : World) (h : Bld B b bs W) (hl : (bs ++ s.data.toList).length ≤ 1000000) (hB : B ≤ W.heap.size) :
    Calls Tryd.prog 22 #[.pointer (some ⟨b, 0, none⟩), .string s] W fun e W' => e = .returned (.tuple #[.int .i64 s.size, .nilIface]) ∧ Wrote B b (bs ++ s.data.toList) W W' := by
  have hsz : s.size = s.data.toList.length := by cases s; simp [ByteArray.size]
  have hk : Calls Tryd.prog 22 #[.pointer (some ⟨b, 0, none⟩), .string s] W fun e w' => e = .returned (.tuple #[.int .i64 s.size, .nilIface]) ∧ (Lib.BuilderAtF 42 5 B b (.pointer (some ⟨b, 0, none⟩)) (Lib.byteCells bs ++ Lib.strCells s) w' ∧ Below B W w' ∧ Lib.OthersKept 5 (some b) W w') :=
    Any.Builder_WriteString_k blay166 bextra B b (Lib.byteCells bs) s W h (by rw [byteCells_length, hsz]; simp at hl; omega) hB
  refine hk.mono ?_
  rintro e W' ⟨rfl, h1, h2, h3⟩
  exact ⟨rfl, .inr (by rw [byteCells_append]; exact h1), h2, h3⟩

theorem writeByte_any (B b : Nat) (bs : List UInt8) (c : UInt8) (W : World) (h : Bld B b bs W) (hl : (bs ++ [c]).length ≤ 1000000) (hB : B ≤ W.heap.size) :
    Calls Tryd.prog 34 #[.pointer (some ⟨b, 0, none⟩), .int .u8 c.toNat] W fun e W' => e = .returned .nilIface ∧ Wrote B b (bs ++ [c]) W W' := by
  have hk : Calls Tryd.prog 34 #[.pointer (some ⟨b, 0, none⟩), .int .u8 c.toNat] W fun e w' => e = .returned .nilIface ∧ (Lib.BuilderAtF 42 5 B b (.pointer (some ⟨b, 0, none⟩)) (Lib.byteCells bs ++ [.int .u8 c.toNat]) w' ∧ Below B W w' ∧ Lib.OthersKept 5 (some b) W w') :=
    Any.Builder_WriteByte_k blay167 bextra B b (Lib.byteCells bs) c.toNat W h (by rw [byteCells_length]; simp at hl; omega) hB
  refine hk.mono ?_
  rintro e W' ⟨rfl, h1, h2, h3⟩
  exact ⟨rfl, .inr (by rw [byteCells_append]; exact h1), h2, h3⟩

def termTxt (t : Tm) : List UInt8 := if t.name.toList.isEmpty = true then 88 :: Lib.decDigits t.num else t.name.data.toList

end Go.Proofs.YtjajnhemgphefaaDoor

namespace Go.Proofs.YtjajnhemgphefaaDoor
open Go.RowKit Go.Shelf
set_option linter.unusedVariables false
set_option linter.unusedSimpArgs false

theorem eqTerm (a c : ByteArray) (b d : Nat) (w : World) : (binOp .eql 80 (.agg #[.string a, .int .i64 b]) (.agg #[.string c, .int .i64 d])).run Tryd.prog w = .ok (.bool (a.toList == c.toList && b == d)) w := by
  have u3 := Tryd.underlying9
  have a3 := Tryd.isAgg9
  have z3 := Tryd.sizeOf9
  have u4 := Tryd.underlying3
  have a4 := Tryd.isAgg3
  have z4 := Tryd.sizeOf3
  have hS : Tryd.prog.underlying 80 = some (.struct (Tryd.prog.fieldsOf 80)) := by kernel_rfl
  have hp : Tryd.prog.stoodInHeld 80 = false := by kernel_rfl
  rw [run_eql_struct, show (10000 : Nat) = 9999 + 1 from rfl, run_equalIn_agg w 9999 80 _ _ hS hp]
  simp only [Program.fieldsOf, Tryd.underlying80]
  go_simp
  by_cases h2 : b = d
  · subst h2
    by_cases h1 : a.toList = c.toList <;> simp [h1]
  · have h3 : ¬ ((b : Int) = (d : Int)) := by omega
    by_cases h1 : a.toList = c.toList <;> simp [h1, h2, h3]

theorem seal_cell {W : World} {b : Nat} {v : Value} {l : List Tm} (h : SealT W b v l) {k : Nat} (hk : k < l.length) :
    ∃ g c, v = .slice (some ⟨g, 0, none⟩) l.length c ∧ W.cell? ⟨g, k * 2, none⟩ = some (.string (l[k]).name) ∧ W.cell? ⟨g, k * 2 + 1, none⟩ = some (.int .i64 (l[k]).num) ∧ g < W.heap.size := by
  obtain ⟨e0, _⟩ | ⟨g, cp, cur, hv, hgb, hcur, htk⟩ := h
  · rw [e0] at hk; simp at hk
  obtain ⟨p0, p1⟩ := flat_two (fun t : Tm => Value.string t.name) (fun t => Value.int .i64 t.num) l k hk
  have htk' : cur.toList.take (l.length * 2) = l.flatMap fun t => [Value.string t.name, Value.int .i64 t.num] := htk
  rw [← htk', List.getElem?_take, if_pos (by omega)] at p0 p1
  exact ⟨g, cp, hv, by simp only [World.cell?, hcur]; simpa using p0, by simp only [World.cell?, hcur]; simpa using p1, (Array.getElem?_eq_some_iff.1 hcur).1⟩

theorem any_upto {α : Type} (p : α → Bool) (l : List α) (h : ∀ j, (hj : j < l.length) → p l[j] = false) : l.any p = false := by
  rw [List.any_eq_false]
  intro x hx
  obtain ⟨j, hj, rfl⟩ := List.getElem_of_mem hx
  simp [h j hj]

set_option maxHeartbeats 1000000 in
theorem indexT_any (v : Value) (l : List Tm) (b : Nat) (x : ByteArray) (xb : Nat) (w : World) (hS : SealT w b v l) (hl : l.length ≤ 1000) :
    Calls Tryd.prog 47 #[v, .agg #[.string x, .int .i64 xb]] w fun e w' => ∃ r : Int, e = .returned (.int .i64 r) ∧ decide (0 ≤ r) = hasT l x xb ∧ Below w.heap.size w w' := by
  obtain ⟨a, c, hform⟩ := hS.form
  have hcell : ∀ k (hk : k < l.length), ∃ g, a = some ⟨g, 0, none⟩ ∧ w.cell? ⟨g, k * 2, none⟩ = some (.string (l[k]).name) ∧ w.cell? ⟨g, k * 2 + 1, none⟩ = some (.int .i64 (l[k]).num) ∧ g < w.heap.size := by
    intro k hk
    obtain ⟨g, c', h1, h2, h3, h4⟩ := seal_cell hS hk
    rw [hform] at h1; cases h1
    exact ⟨g, rfl, h2, h3, h4⟩
  subst hform
  have HC : Hid _ := hcell
  clear hcell hS
  go_enter Tryd.func47, Tryd.ntmps47
  go_wp2
  go_loopw [8] (fun i wr => ∃ k q : Nat, k ≤ l.length ∧ i = .int .i64 k ∧ Hid (∀ j, (hj : j < l.length) → j < k → sameT x xb l[j] = false) ∧ wr = (w.alloc (.cells #[.string x, .int .i64 xb] 80)).drewN q) (fun i _ => l.length - (intOf i).toNat)
  case atStart => exact ⟨0, 0, Nat.zero_le _, rfl, fun j _ hj => by omega, rfl⟩
  case round =>
    obtain ⟨k, q, hk, rfl, hno, rfl⟩ := hrel
    by_cases hlt : k < l.length
    · obtain ⟨g, rfl, q0, q1, hg⟩ := HC.out k hlt
      have hne : g ≠ w.heap.size := by omega
      have he := fun W => eqTerm x (l[k]).name xb (l[k]).num W
      have i1 : (k : Int) < (l.length : Int) := by omega
      have i2 : (0 : Int) ≤ (k : Int) := by omega
      have hsame : Hid (sameT x xb l[k] = ((x.toList == (l[k]).name.toList) && (xb == (l[k]).num))) := rfl
      generalize htk : l[k] = tk at *
      have HTK : Hid (l[k] = tk) := htk
      clear htk
      generalize hb : ((x.toList == tk.name.toList) && (xb == tk.num)) = bb at *
      have HBB : Hid (((x.toList == tk.name.toList) && (xb == tk.num)) = bb) := hb
      clear hb
      cases bb with
      | true =>
        go_wp2
        go_quiet (fail)
        go_wp2
        go_ret
        refine ⟨k, rfl, ?_, ?_⟩
        · have h1 : hasT l x xb = true := by
            unfold hasT
            rw [List.any_eq_true]
            exact ⟨l[k], List.getElem_mem hlt, by rw [HTK.out, hsame.out]⟩
          rw [h1]; simp
        · exact ⟨rfl, rfl, rfl, by show _ ≤ (w.alloc _).heap.size; simp, fun j hj => Below.heap_alloc _ _ j hj⟩
      | false =>
        go_wp2
        go_quiet (fail)
        go_wp2
        go_roundw
        case rel =>
          refine ⟨k + 1, q + nq, by omega, by go_num, ?_, rfl⟩
          intro j hj hjk
          by_cases e : j = k
          · subst e; rw [HTK.out]; exact hsame.out
          · exact hno.out j hj (by omega)
        case measure => simp [intOf]; omega
    · go_wp2
      go_ret
      refine ⟨-1, rfl, ?_, ?_⟩
      · unfold hasT; rw [any_upto _ _ (fun j hj => hno.out j hj (by omega))]; rfl
      · exact ⟨rfl, rfl, rfl, by show _ ≤ (w.alloc _).heap.size; simp, fun j hj => Below.heap_alloc _ _ j hj⟩

end Go.Proofs.YtjajnhemgphefaaDoor
