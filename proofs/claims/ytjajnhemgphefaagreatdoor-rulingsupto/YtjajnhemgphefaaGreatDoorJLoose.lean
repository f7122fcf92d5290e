/-
  A function whose loop ranges over an iterator in every round leaves with a mark a round: all of them are taken up at its return. What a loop over rules reads.
  strings.Builder: the library's contracts on WriteString and WriteByte, laid at this program by hand (the table of numbers is written out).
  The writers: a term, with the builder's text said byte by byte.
  rules.isLoose: has the head a variable that the body does not bind? With the library's searches that it calls.
-/
import Derived.Test.YtjajnhemgphefaaGreatDoorJAddN
import Derived.Shelf.Strings.BuilderK
import Derived.Laws.StructEq
namespace Go.Proofs.YtjajnhemgphefaaGreatDoor
open Go.RowKit Go.Shelf
set_option linter.unusedVariables false
set_option linter.unusedSimpArgs false

def marks (ds : List Nat) : List Deferred := ds.map fun D => { target := .collected D, args := #[] }

theorem leaves_all {n : Nat} {fn : Func} {tmps : Array Value} {R : Ending → World → Prop} : ∀ (ds : List Nat) (W : World), ds.Nodup → (∀ D ∈ ds, W.heap[D]? = some (.deferred (some []))) →
    (∀ W', Chg W W' (fun j => j ∈ ds) → W'.heap.size = W.heap.size → LeavesInM Fence.wide n Tryz.prog fn tmps R [] .returning W') → LeavesInM Fence.wide n Tryz.prog fn tmps R (marks ds) .returning W
  | [], W, _, _, h => h W (Chg.refl _ _) rfl
  | D :: ds, W, hn, hd, h => by
    have hD := hd D (by simp)
    refine ⟨by simp, .inl ⟨_, _, rfl, run_takeDeferred hD, ?_⟩⟩
    have hg := grownBy_putObj' W D (.deferred none)
    have hsz : (W.putObj D (.deferred none)).heap.size = W.heap.size := by simp [World.putObj]
    have hc : Chg W (W.putObj D (.deferred none)) (fun j => j ∈ D :: ds) := (Chg.refl W _).grown hg (fun k e _ => by cases e; simp)
    refine leaves_all ds _ (List.nodup_cons.1 hn).2 (fun D' h' => ?_) (fun W' hc' hs' => h W' (hc.trans (hc'.mono (fun _ _ e => by simp [e]))) (by omega))
    have hne : D' ≠ D := fun e => (List.nodup_cons.1 hn).1 (e ▸ h')
    have hD' := hd D' (by simp [h'])
    exact (hg.block D' (Array.getElem?_eq_some_iff.1 hD').1 (by simpa using hne)).trans hD'

/-- The k-th rule of a row of rules. -/
theorem rules_cell {W : World} {base b45 b87 : Nat} {v : Value} {rs : List Rl} (h : RulesAt W base b45 b87 v rs) {k : Nat} (hk : k < rs.length) :
    ∃ (g c : Nat) (v0 vb : Value), v = .slice (some ⟨g, 0, none⟩) rs.length c ∧ W.cell? ⟨g, k * 3, none⟩ = some (.string (rs[k]).head.rel) ∧ W.cell? ⟨g, k * 3 + 1, none⟩ = some v0 ∧ W.cell? ⟨g, k * 3 + 2, none⟩ = some vb ∧ RuleV W b45 b87 rs[k] v0 vb := by
  obtain ⟨qs, r1, r2, r3⟩ := h
  have hql : qs.length = rs.length := by rw [← r1]; simp
  obtain ⟨_, ⟨_, hz⟩ | ⟨g, c, cur, hv, _, hw, _, _, _, htk⟩⟩ := r2
  · omega
  have hkq : k < qs.length := by omega
  have hrk : rs[k] = (qs[k]).1 := by simp [← r1]
  have hflat : ∀ (l : List (Rl × Value × Value)) (i : Nat) (hi : i < l.length), (l.flatMap ruleC)[i * 3]? = some (.string (l[i]).1.head.rel) ∧ (l.flatMap ruleC)[i * 3 + 1]? = some (l[i]).2.1 ∧ (l.flatMap ruleC)[i * 3 + 2]? = some (l[i]).2.2 := by
    intro l
    induction l with
    | nil => intro i hi; simp at hi
    | cons x l ih =>
      intro i hi
      cases i with
      | zero => simp [ruleC]
      | succ i =>
        simp only [List.length_cons] at hi
        have := ih i (by omega)
        simp only [List.flatMap_cons, ruleC, List.cons_append, List.nil_append]
        rw [show (i + 1) * 3 = i * 3 + 3 by omega]
        exact this
  obtain ⟨p0, p1, p2⟩ := hflat qs k hkq
  rw [← htk, List.getElem?_take, if_pos (by omega)] at p0 p1 p2
  refine ⟨g, c, (qs[k]).2.1, (qs[k]).2.2, by rw [hv, hql], ?_, ?_, ?_, ?_⟩
  · simp only [World.cell?, hw]; rw [hrk]; simpa using p0
  · simp only [World.cell?, hw]; simpa using p1
  · simp only [World.cell?, hw]; simpa using p2
  · rw [hrk]; exact r3 _ (List.getElem_mem hkq)

theorem RulesAt.rk {W W' : World} {base b45 b87 : Nat} {v : Value} {l : List Rl} (h : RulesAt W base b45 b87 v l) (hk : RuleKept W W') : RulesAt W' base b45 b87 v l := h.keep (fun k c t ht hc => hk k c t ht hc)

theorem RulesAt.form {W : World} {base b45 b87 : Nat} {v : Value} {l : List Rl} (h : RulesAt W base b45 b87 v l) : ∃ a c, v = .slice a l.length c := by
  obtain ⟨qs, r1, r2, r3⟩ := h
  obtain ⟨a, c, e⟩ := owns_form r2
  exact ⟨a, c, by rw [e, ← r1]; simp⟩

end Go.Proofs.YtjajnhemgphefaaGreatDoor

namespace Go.Proofs.YtjajnhemgphefaaGreatDoor
open Go.RowKit Go.Shelf
set_option linter.unusedVariables false
set_option linter.unusedSimpArgs false

def bren : Ren :=
  { f := fun
      | 166 => 105
      | 167 => 169
      | 240 => 171
      | 276 => 219
      | n => n
    t := fun
      | 0 => 0
      | 3 => 3
      | 4 => 4
      | 5 => 5
      | 9 => 9
      | 20 => 20
      | 37 => 131
      | 70 => 130
      | 72 => 133
      | 75 => 203
      | 80 => 138
      | 164 => 333
      | n => n
    g := fun n => n }

theorem blay166 : Lays.n166 Tryz.prog bren :=
  { mixed := by kernel_rfl
    f166 := by kernel_rfl
    f240 := by kernel_rfl
    f276 := by kernel_rfl
    t0 := by kernel_rfl
    a0 := fun _ => by kernel_rfl
    z0 := fun _ => by kernel_rfl
    v0 := fun _ => by kernel_rfl
    t3 := by kernel_rfl
    a3 := fun _ => by kernel_rfl
    z3 := fun _ => by kernel_rfl
    v3 := fun _ => by kernel_rfl
    t4 := by kernel_rfl
    a4 := fun _ => by kernel_rfl
    z4 := fun _ => by kernel_rfl
    v4 := fun _ => by kernel_rfl
    t9 := by kernel_rfl
    a9 := fun _ => by kernel_rfl
    z9 := fun _ => by kernel_rfl
    v9 := fun _ => by kernel_rfl
    t20 := by kernel_rfl
    a20 := fun _ => by kernel_rfl
    z20 := fun _ => by kernel_rfl
    v20 := fun _ => by kernel_rfl
    t37 := by kernel_rfl
    a37 := fun _ => by kernel_rfl
    z37 := fun _ => by kernel_rfl
    v37 := fun _ => by kernel_rfl
    t70 := by kernel_rfl
    a70 := fun _ => by kernel_rfl
    z70 := fun _ => by kernel_rfl
    v70 := fun _ => by kernel_rfl
    t72 := by kernel_rfl
    a72 := fun _ => by kernel_rfl
    z72 := fun _ => by kernel_rfl
    v72 := fun _ => by kernel_rfl
    t75 := by kernel_rfl
    a75 := fun _ => by kernel_rfl
    z75 := fun _ => by kernel_rfl
    v75 := fun _ => by kernel_rfl
    t164 := by kernel_rfl
    a164 := fun _ => by kernel_rfl
    z164 := fun _ => by kernel_rfl
    v164 := fun _ => by kernel_rfl }

theorem blay167 : Lays.n167 Tryz.prog bren :=
  { mixed := by kernel_rfl
    f167 := by kernel_rfl
    f240 := by kernel_rfl
    f276 := by kernel_rfl
    t0 := by kernel_rfl
    a0 := fun _ => by kernel_rfl
    z0 := fun _ => by kernel_rfl
    v0 := fun _ => by kernel_rfl
    t4 := by kernel_rfl
    a4 := fun _ => by kernel_rfl
    z4 := fun _ => by kernel_rfl
    v4 := fun _ => by kernel_rfl
    t5 := by kernel_rfl
    a5 := fun _ => by kernel_rfl
    z5 := fun _ => by kernel_rfl
    v5 := fun _ => by kernel_rfl
    t9 := by kernel_rfl
    a9 := fun _ => by kernel_rfl
    z9 := fun _ => by kernel_rfl
    v9 := fun _ => by kernel_rfl
    t20 := by kernel_rfl
    a20 := fun _ => by kernel_rfl
    z20 := fun _ => by kernel_rfl
    v20 := fun _ => by kernel_rfl
    t37 := by kernel_rfl
    a37 := fun _ => by kernel_rfl
    z37 := fun _ => by kernel_rfl
    v37 := fun _ => by kernel_rfl
    t70 := by kernel_rfl
    a70 := fun _ => by kernel_rfl
    z70 := fun _ => by kernel_rfl
    v70 := fun _ => by kernel_rfl
    t72 := by kernel_rfl
    a72 := fun _ => by kernel_rfl
    z72 := fun _ => by kernel_rfl
    v72 := fun _ => by kernel_rfl
    t75 := by kernel_rfl
    a75 := fun _ => by kernel_rfl
    z75 := fun _ => by kernel_rfl
    v75 := fun _ => by kernel_rfl
    t164 := by kernel_rfl
    a164 := fun _ => by kernel_rfl
    z164 := fun _ => by kernel_rfl
    v164 := fun _ => by kernel_rfl }

theorem bextra : Builder.Extra Tryz.prog bren := {
  sizeBuilder := by kernel_rfl
  liesBuilder := by kernel_rfl
  t5 := by kernel_rfl
  a5 := fun _ => by kernel_rfl
  z5 := fun _ => by kernel_rfl
  v5 := fun _ => by kernel_rfl
  infoByte := by kernel_rfl
  cellsByte := by kernel_rfl
  sizeByte := by kernel_rfl
  neB5 := by decide }

end Go.Proofs.YtjajnhemgphefaaGreatDoor

namespace Go.Proofs.YtjajnhemgphefaaGreatDoor
open Go.RowKit Go.Shelf
set_option linter.unusedVariables false
set_option linter.unusedSimpArgs false

def Bld (B b : Nat) (bs : List UInt8) (W : World) : Prop := Lib.IsBuilderF 133 5 B b (Lib.byteCells bs) W

/-- What a writer does: the builder's text is longer; all else that is no row of bytes is as it was. -/
structure Wrote (B b : Nat) (bs : List UInt8) (W W' : World) : Prop where
  bld : Bld B b bs W'
  below : Below B W W'
  others : Lib.OthersKept 5 (some b) W W'

theorem byteCells_append (l m : List UInt8) : Lib.byteCells (l ++ m) = Lib.byteCells l ++ Lib.byteCells m := by simp [Lib.byteCells]
theorem byteCells_length (l : List UInt8) : (Lib.byteCells l).length = l.length := by simp [Lib.byteCells]

theorem Bld.block {B b : Nat} {bs : List UInt8} {W : World} (h : Bld B b bs W) : B ≤ b ∧ ∃ c, W.heap[b]? = some (Obj.cells c 133 (0, 0)) := by
  rcases h with ⟨hB, v, hb, _⟩ | ⟨hB, v, hb, _⟩
  · exact ⟨hB, _, hb⟩
  · exact ⟨hB, _, hb⟩

theorem Bld.below {B b : Nat} {bs : List UInt8} {W W' : World} (h : Bld B b bs W) (hb : Below W.heap.size W W') : Bld B b bs W' := by
  have hlt : b < W.heap.size := by obtain ⟨_, c, hc⟩ := h.block; exact (Array.getElem?_eq_some_iff.1 hc).1
  rcases h with ⟨h1, v, h2, h3, h4⟩ | ⟨h1, v, h2, h3, h4⟩
  · exact .inl ⟨h1, v, (hb.block b hlt).trans h2, h3.kept (below_grownBy hb) (by cases hv : v.ownBlock <;> simp), h4⟩
  · exact .inr ⟨h1, v, (hb.block b hlt).trans h2, h3.kept (below_grownBy hb) (by cases hv : v.ownBlock <;> simp), h4⟩

theorem others_below {b : Option Nat} {W W' : World} (h : Below W.heap.size W W') : Lib.OthersKept 5 b W W' := fun k o hk _ _ => (h.block k (Array.getElem?_eq_some_iff.1 hk).1).trans hk

theorem Wrote.cells {B b : Nat} {bs bs0 : List UInt8} {W W' : World} (h : Wrote B b bs W W') (h0 : Bld B b bs0 W) {k : Nat} {c : Array Value} {t : TypeId} {fz : Nat × Nat} (hk : W.heap[k]? = some (Obj.cells c t fz)) (ht : t ≠ 5) (ht2 : t ≠ 133) : W'.heap[k]? = some (Obj.cells c t fz) := by
  refine h.others k _ hk (fun e => ?_) (fun c' fz' e => ?_)
  · cases e
    obtain ⟨_, c', hc'⟩ := h0.block
    rw [hk] at hc'; cases hc'; exact ht2 rfl
  · cases e; exact ht rfl

theorem Wrote.rk {B b : Nat} {bs bs0 : List UInt8} {W W' : World} (h : Wrote B b bs W W') (h0 : Bld B b bs0 W) : RuleKept W W' := fun k c t ht hc =>
  h.cells h0 hc (by rcases ht with rfl | rfl | rfl <;> decide) (by rcases ht with rfl | rfl | rfl <;> decide)

theorem Wrote.row {B b : Nat} {bs bs0 : List UInt8} {W W' : World} (h : Wrote B b bs W W') (h0 : Bld B b bs0 W) {base n : Nat} {v : Value} {xs : List Value} (hv : W.ownsRow base 9 1 v n xs) : W'.ownsRow base 9 1 v n xs :=
  owns_kept hv (fun g c _ hc => h.cells h0 hc (by decide) (by decide))

theorem Wrote.trans {B b : Nat} {bs bs' : List UInt8} {A C D : World} (h : Wrote B b bs A C) (k : Wrote B b bs' C D) : Wrote B b bs' A D := ⟨k.bld, h.below.trans k.below, h.others.trans k.others⟩
theorem Wrote.after {B b : Nat} {bs : List UInt8} {A C D : World} (h : Below A.heap.size A C) (hB : B ≤ A.heap.size) (k : Wrote B b bs C D) : Wrote B b bs A D := ⟨k.bld, (h.mono hB).trans k.below, (others_below h).trans k.others⟩

theorem writeStr_any (B b : Nat) (bs : List UInt8) (s : ByteArray) (W : World) (h : Bld B b bs W) (hl : (bs ++ s.data.toList).length ≤ 1000000) (hB : B ≤ W.heap.size) :
    Calls Tryz.prog 105 #[.pointer (some ⟨b, 0, none⟩), .string s] W fun e W' => e = .returned (.tuple #[.int .i64 s.size, .nilIface]) ∧ Wrote B b (bs ++ s.data.toList) W W' := by
  have hsz : s.size = s.data.toList.length := by cases s; simp [ByteArray.size]
  have hk : Calls Tryz.prog 105 #[.pointer (some ⟨b, 0, none⟩), .string s] W fun e w' => e = .returned (.tuple #[.int .i64 s.size, .nilIface]) ∧ (Lib.BuilderAtF 133 5 B b (.pointer (some ⟨b, 0, none⟩)) (Lib.byteCells bs ++ Lib.strCells s) w' ∧ Below B W w' ∧ Lib.OthersKept 5 (some b) W w') :=
    Any.Builder_WriteString_k blay166 bextra B b (Lib.byteCells bs) s W h (by rw [byteCells_length, hsz]; simp at hl; omega) hB
  refine hk.mono ?_
  rintro e W' ⟨rfl, h1, h2, h3⟩
  exact ⟨rfl, .inr (by rw [byteCells_append]; exact h1), h2, h3⟩

theorem writeByte_any (B b : Nat) (bs : List UInt8) (c : UInt8) (W : World) (h : Bld B b bs W) (hl : (bs ++ [c]).length ≤ 1000000) (hB : B ≤ W.heap.size) :
    Calls Tryz.prog 169 #[.pointer (some ⟨b, 0, none⟩), .int .u8 c.toNat] W fun e W' => e = .returned .nilIface ∧ Wrote B b (bs ++ [c]) W W' := by
  have hk : Calls Tryz.prog 169 #[.pointer (some ⟨b, 0, none⟩), .int .u8 c.toNat] W fun e w' => e = .returned .nilIface ∧ (Lib.BuilderAtF 133 5 B b (.pointer (some ⟨b, 0, none⟩)) (Lib.byteCells bs ++ [.int .u8 c.toNat]) w' ∧ Below B W w' ∧ Lib.OthersKept 5 (some b) W w') :=
    Any.Builder_WriteByte_k blay167 bextra B b (Lib.byteCells bs) c.toNat W h (by rw [byteCells_length]; simp at hl; omega) hB
  refine hk.mono ?_
  rintro e W' ⟨rfl, h1, h2, h3⟩
  exact ⟨rfl, .inr (by rw [byteCells_append]; exact h1), h2, h3⟩

def termTxt (t : Tm) : List UInt8 := if t.name.toList.isEmpty = true then 88 :: Lib.decDigits t.num else t.name.data.toList

end Go.Proofs.YtjajnhemgphefaaGreatDoor

namespace Go.Proofs.YtjajnhemgphefaaGreatDoor
open Go.RowKit Go.Shelf
set_option linter.unusedVariables false
set_option linter.unusedSimpArgs false

theorem eqTerm (a c : ByteArray) (b d : Nat) (w : World) : (binOp .eql 166 (.agg #[.string a, .int .i64 b]) (.agg #[.string c, .int .i64 d])).run Tryz.prog w = .ok (.bool (a.toList == c.toList && b == d)) w := by
  have u3 := Tryz.underlying9
  have a3 := Tryz.isAgg9
  have z3 := Tryz.sizeOf9
  have u4 := Tryz.underlying3
  have a4 := Tryz.isAgg3
  have z4 := Tryz.sizeOf3
  have hS : Tryz.prog.underlying 166 = some (.struct (Tryz.prog.fieldsOf 166)) := by kernel_rfl
  have hp : Tryz.prog.stoodInHeld 166 = false := by kernel_rfl
  rw [run_eql_struct, show (10000 : Nat) = 9999 + 1 from rfl, run_equalIn_agg w 9999 166 _ _ hS hp]
  simp only [Program.fieldsOf, Tryz.underlying166]
  go_simp
  by_cases h2 : b = d
  · subst h2
    by_cases h1 : a.toList = c.toList <;> simp [h1]
  · have h3 : ¬ ((b : Int) = (d : Int)) := by omega
    by_cases h1 : a.toList = c.toList <;> simp [h1, h2, h3]

theorem seal_cell {W : World} {b : Nat} {v : Value} {l : List Tm} (h : SealT W b v l) {k : Nat} (hk : k < l.length) :
    ∃ g c, v = .slice (some ⟨g, 0, none⟩) l.length c ∧ W.cell? ⟨g, k * 2, none⟩ = some (.string (l[k]).name) ∧ W.cell? ⟨g, k * 2 + 1, none⟩ = some (.int .i64 (l[k]).num) ∧ g < W.heap.size := by
  obtain ⟨e0, _⟩ | ⟨g, cp, cur, hv, hgb, hcur, htk⟩ := h
  · rw [e0] at hk; simp at hk
  obtain ⟨p0, p1⟩ := flat_two (fun t : Tm => Value.string t.name) (fun t => Value.int .i64 t.num) l k hk
  have htk' : cur.toList.take (l.length * 2) = l.flatMap fun t => [Value.string t.name, Value.int .i64 t.num] := htk
  rw [← htk', List.getElem?_take, if_pos (by omega)] at p0 p1
  exact ⟨g, cp, hv, by simp only [World.cell?, hcur]; simpa using p0, by simp only [World.cell?, hcur]; simpa using p1, (Array.getElem?_eq_some_iff.1 hcur).1⟩

theorem any_upto {α : Type} (p : α → Bool) (l : List α) (h : ∀ j, (hj : j < l.length) → p l[j] = false) : l.any p = false := by
  rw [List.any_eq_false]
  intro x hx
  obtain ⟨j, hj, rfl⟩ := List.getElem_of_mem hx
  simp [h j hj]

set_option maxHeartbeats 1000000 in
theorem indexT_any (v : Value) (l : List Tm) (b : Nat) (x : ByteArray) (xb : Nat) (w : World) (hS : SealT w b v l) (hl : l.length ≤ 1000) :
    Calls Tryz.prog 218 #[v, .agg #[.string x, .int .i64 xb]] w fun e w' => ∃ r : Int, e = .returned (.int .i64 r) ∧ decide (0 ≤ r) = hasT l x xb ∧ Below w.heap.size w w' := by
  obtain ⟨a, c, hform⟩ := hS.form
  have hcell : ∀ k (hk : k < l.length), ∃ g, a = some ⟨g, 0, none⟩ ∧ w.cell? ⟨g, k * 2, none⟩ = some (.string (l[k]).name) ∧ w.cell? ⟨g, k * 2 + 1, none⟩ = some (.int .i64 (l[k]).num) ∧ g < w.heap.size := by
    intro k hk
    obtain ⟨g, c', h1, h2, h3, h4⟩ := seal_cell hS hk
    rw [hform] at h1; cases h1
    exact ⟨g, rfl, h2, h3, h4⟩
  subst hform
  have HC : Hid _ := hcell
  clear hcell hS
  go_enter Tryz.func218, Tryz.ntmps218
  go_wp2
  go_loopw [8] (fun i wr => ∃ k q : Nat, k ≤ l.length ∧ i = .int .i64 k ∧ Hid (∀ j, (hj : j < l.length) → j < k → sameT x xb l[j] = false) ∧ wr = (w.alloc (.cells #[.string x, .int .i64 xb] 166)).drewN q) (fun i _ => l.length - (intOf i).toNat)
  case atStart => exact ⟨0, 0, Nat.zero_le _, rfl, fun j _ hj => by omega, rfl⟩
  case round =>
    obtain ⟨k, q, hk, rfl, hno, rfl⟩ := hrel
    by_cases hlt : k < l.length
    · obtain ⟨g, rfl, q0, q1, hg⟩ := HC.out k hlt
      have hne : g ≠ w.heap.size := by omega
      have he := fun W => eqTerm x (l[k]).name xb (l[k]).num W
      have i1 : (k : Int) < (l.length : Int) := by omega
      have i2 : (0 : Int) ≤ (k : Int) := by omega
      have hsame : Hid (sameT x xb l[k] = ((x.toList == (l[k]).name.toList) && (xb == (l[k]).num))) := rfl
      generalize htk : l[k] = tk at *
      have HTK : Hid (l[k] = tk) := htk
      clear htk
      generalize hb : ((x.toList == tk.name.toList) && (xb == tk.num)) = bb at *
      have HBB : Hid (((x.toList == tk.name.toList) && (xb == tk.num)) = bb) := hb
      clear hb
      cases bb with
      | true =>
        go_wp2
        go_quiet (fail)
        go_wp2
        go_ret
        refine ⟨k, rfl, ?_, ?_⟩
        · have h1 : hasT l x xb = true := by
            unfold hasT
            rw [List.any_eq_true]
            exact ⟨l[k], List.getElem_mem hlt, by rw [HTK.out, hsame.out]⟩
          rw [h1]; simp
        · exact ⟨rfl, rfl, rfl, by show _ ≤ (w.alloc _).heap.size; simp, fun j hj => Below.heap_alloc _ _ j hj⟩
      | false =>
        go_wp2
        go_quiet (fail)
        go_wp2
        go_roundw
        case rel =>
          refine ⟨k + 1, q + nq, by omega, by go_num, ?_, rfl⟩
          intro j hj hjk
          by_cases e : j = k
          · subst e; rw [HTK.out]; exact hsame.out
          · exact hno.out j hj (by omega)
        case measure => simp [intOf]; omega
    · go_wp2
      go_ret
      refine ⟨-1, rfl, ?_, ?_⟩
      · unfold hasT; rw [any_upto _ _ (fun j hj => hno.out j hj (by omega))]; rfl
      · exact ⟨rfl, rfl, rfl, by show _ ≤ (w.alloc _).heap.size; simp, fun j hj => Below.heap_alloc _ _ j hj⟩

end Go.Proofs.YtjajnhemgphefaaGreatDoor
