/-
  strings.Builder: the library's contracts on WriteString and WriteByte, laid at this program by hand (the table of numbers is written out).
  The writers: a term, with the builder's text said byte by byte.
  rules.check: the first error of rules that are well written, and the number of its rule.
  The writers: a term, an atom.
-/
import Derived.Test.YtjajnhemgphefaaGreatDoorJIdxRules
import Derived.Shelf.Strings.BuilderK
import Derived.Test.YtjajnhemgphefaaGreatDoorJArity
namespace Go.Proofs.YtjajnhemgphefaaGreatDoor
open Go.RowKit Go.Shelf
set_option linter.unusedVariables false
set_option linter.unusedSimpArgs false

def bren : Ren :=
  { f := fun
      | 166 => 105
      | 167 => 169
      | 240 => 171
      | 276 => 219
      | n => n
    t := fun
      | 0 => 0
      | 3 => 3
      | 4 => 4
      | 5 => 5
      | 9 => 9
      | 20 => 20
      | 37 => 131
      | 70 => 130
      | 72 => 133
      | 75 => 203
      | 80 => 138
      | 164 => 333
      | n => n
    g := fun n => n }

theorem blay166 : Lays.n166 Tryz.prog bren :=
  { mixed := by kernel_rfl
    f166 := by kernel_rfl
    f240 := by kernel_rfl
    f276 := by kernel_rfl
    t0 := by kernel_rfl
    a0 := fun _ => by kernel_rfl
    z0 := fun _ => by kernel_rfl
    v0 := fun _ => by kernel_rfl
    t3 := by kernel_rfl
    a3 := fun _ => by kernel_rfl
    z3 := fun _ => by kernel_rfl
    v3 := fun _ => by kernel_rfl
    t4 := by kernel_rfl
    a4 := fun _ => by kernel_rfl
    z4 := fun _ => by kernel_rfl
    v4 := fun _ => by kernel_rfl
    t9 := by kernel_rfl
    a9 := fun _ => by kernel_rfl
    z9 := fun _ => by kernel_rfl
    v9 := fun _ => by kernel_rfl
    t20 := by kernel_rfl
    a20 := fun _ => by kernel_rfl
    z20 := fun _ => by kernel_rfl
    v20 := fun _ => by kernel_rfl
    t37 := by kernel_rfl
    a37 := fun _ => by kernel_rfl
    z37 := fun _ => by kernel_rfl
    v37 := fun _ => by kernel_rfl
    t70 := by kernel_rfl
    a70 := fun _ => by kernel_rfl
    z70 := fun _ => by kernel_rfl
    v70 := fun _ => by kernel_rfl
    t72 := by kernel_rfl
    a72 := fun _ => by kernel_rfl
    z72 := fun _ => by kernel_rfl
    v72 := fun _ => by kernel_rfl
    t75 := by kernel_rfl
    a75 := fun _ => by kernel_rfl
    z75 := fun _ => by kernel_rfl
    v75 := fun _ => by kernel_rfl
    t164 := by kernel_rfl
    a164 := fun _ => by kernel_rfl
    z164 := fun _ => by kernel_rfl
    v164 := fun _ => by kernel_rfl }

theorem blay167 : Lays.n167 Tryz.prog bren :=
  { mixed := by kernel_rfl
    f167 := by kernel_rfl
    f240 := by kernel_rfl
    f276 := by kernel_rfl
    t0 := by kernel_rfl
    a0 := fun _ => by kernel_rfl
    z0 := fun _ => by kernel_rfl
    v0 := fun _ => by kernel_rfl
    t4 := by kernel_rfl
    a4 := fun _ => by kernel_rfl
    z4 := fun _ => by kernel_rfl
    v4 := fun _ => by kernel_rfl
    t5 := by kernel_rfl
    a5 := fun _ => by kernel_rfl
    z5 := fun _ => by kernel_rfl
    v5 := fun _ => by kernel_rfl
    t9 := by kernel_rfl
    a9 := fun _ => by kernel_rfl
    z9 := fun _ => by kernel_rfl
    v9 := fun _ => by kernel_rfl
    t20 := by kernel_rfl
    a20 := fun _ => by kernel_rfl
    z20 := fun _ => by kernel_rfl
    v20 := fun _ => by kernel_rfl
    t37 := by kernel_rfl
    a37 := fun _ => by kernel_rfl
    z37 := fun _ => by kernel_rfl
    v37 := fun _ => by kernel_rfl
    t70 := by kernel_rfl
    a70 := fun _ => by kernel_rfl
    z70 := fun _ => by kernel_rfl
    v70 := fun _ => by kernel_rfl
    t72 := by kernel_rfl
    a72 := fun _ => by kernel_rfl
    z72 := fun _ => by kernel_rfl
    v72 := fun _ => by kernel_rfl
    t75 := by kernel_rfl
    a75 := fun _ => by kernel_rfl
    z75 := fun _ => by kernel_rfl
    v75 := fun _ => by kernel_rfl
    t164 := by kernel_rfl
    a164 := fun _ => by kernel_rfl
    z164 := fun _ => by kernel_rfl
    v164 := fun _ => by kernel_rfl }

theorem bextra : Builder.Extra Tryz.prog bren := {
  sizeBuilder := by kernel_rfl
  liesBuilder := by kernel_rfl
  t5 := by kernel_rfl
  a5 := fun _ => by kernel_rfl
  z5 := fun _ => by kernel_rfl
  v5 := fun _ => by kernel_rfl
  infoByte := by kernel_rfl
  cellsByte := by kernel_rfl
  sizeByte := by kernel_rfl
  neB5 := by decide }

end Go.Proofs.YtjajnhemgphefaaGreatDoor

namespace Go.Proofs.YtjajnhemgphefaaGreatDoor
open Go.RowKit Go.Shelf
set_option linter.unusedVariables false
set_option linter.unusedSimpArgs false

def Bld (B b : Nat) (bs : List UInt8) (W : World) : Prop := Lib.IsBuilderF 133 5 B b (Lib.byteCells bs) W

/-- What a writer does: the builder's text is longer; all else that is no row of bytes is as it was. -/
structure Wrote (B b : Nat) (bs : List UInt8) (W W' : World) : Prop where
  bld : Bld B b bs W'
  below : Below B W W'
  others : Lib.OthersKept 5 (some b) W W'

theorem byteCells_append (l m : List UInt8) : Lib.byteCells (l ++ m) = Lib.byteCells l ++ Lib.byteCells m := by simp [Lib.byteCells]
theorem byteCells_length (l : List UInt8) : (Lib.byteCells l).length = l.length := by simp [Lib.byteCells]

theorem Bld.block {B b : Nat} {bs : List UInt8} {W : World} (h : Bld B b bs W) : B ≤ b ∧ ∃ c, W.heap[b]? = some (Obj.cells c 133 (0, 0)) := by
  rcases h with ⟨hB, v, hb, _⟩ | ⟨hB, v, hb, _⟩
  · exact ⟨hB, _, hb⟩
  · exact ⟨hB, _, hb⟩

theorem Bld.below {B b : Nat} {bs : List UInt8} {W W' : World} (h : Bld B b bs W) (hb : Below W.heap.size W W') : Bld B b bs W' := by
  have hlt : b < W.heap.size := by obtain ⟨_, c, hc⟩ := h.block; exact (Array.getElem?_eq_some_iff.1 hc).1
  rcases h with ⟨h1, v, h2, h3, h4⟩ | ⟨h1, v, h2, h3, h4⟩
  · exact .inl ⟨h1, v, (hb.block b hlt).trans h2, h3.kept (below_grownBy hb) (by cases hv : v.ownBlock <;> simp), h4⟩
  · exact .inr ⟨h1, v, (hb.block b hlt).trans h2, h3.kept (below_grownBy hb) (by cases hv : v.ownBlock <;> simp), h4⟩

theorem others_below {b : Option Nat} {W W' : World} (h : Below W.heap.size W W') : Lib.OthersKept 5 b W W' := fun k o hk _ _ => (h.block k (Array.getElem?_eq_some_iff.1 hk).1).trans hk

theorem Wrote.cells {B b : Nat} {bs bs0 : List UInt8} {W W' : World} (h : Wrote B b bs W W') (h0 : Bld B b bs0 W) {k : Nat} {c : Array Value} {t : TypeId} {fz : Nat × Nat} (hk : W.heap[k]? = some (Obj.cells c t fz)) (ht : t ≠ 5) (ht2 : t ≠ 133) : W'.heap[k]? = some (Obj.cells c t fz) := by
  refine h.others k _ hk (fun e => ?_) (fun c' fz' e => ?_)
  · cases e
    obtain ⟨_, c', hc'⟩ := h0.block
    rw [hk] at hc'; cases hc'; exact ht2 rfl
  · cases e; exact ht rfl

theorem Wrote.rk {B b : Nat} {bs bs0 : List UInt8} {W W' : World} (h : Wrote B b bs W W') (h0 : Bld B b bs0 W) : RuleKept W W' := fun k c t ht hc =>
  h.cells h0 hc (by rcases ht with rfl | rfl | rfl <;> decide) (by rcases ht with rfl | rfl | rfl <;> decide)

theorem Wrote.row {B b : Nat} {bs bs0 : List UInt8} {W W' : World} (h : Wrote B b bs W W') (h0 : Bld B b bs0 W) {base n : Nat} {v : Value} {xs : List Value} (hv : W.ownsRow base 9 1 v n xs) : W'.ownsRow base 9 1 v n xs :=
  owns_kept hv (fun g c _ hc => h.cells h0 hc (by decide) (by decide))

theorem Wrote.trans {B b : Nat} {bs bs' : List UInt8} {A C D : World} (h : Wrote B b bs A C) (k : Wrote B b bs' C D) : Wrote B b bs' A D := ⟨k.bld, h.below.trans k.below, h.others.trans k.others⟩
theorem Wrote.after {B b : Nat} {bs : List UInt8} {A C D : World} (h : Below A.heap.size A C) (hB : B ≤ A.heap.size) (k : Wrote B b bs C D) : Wrote B b bs A D := ⟨k.bld, (h.mono hB).trans k.below, (others_below h).trans k.others⟩

theorem writeStr_any (B b : Nat) (bs : List UInt8) (s : ByteArray) (W : World) (h : Bld B b bs W) (hl : (bs ++ s.data.toList).length ≤ 1000000) (hB : B ≤ W.heap.size) :
    Calls Tryz.prog 105 #[.pointer (some ⟨b, 0, none⟩), .string s] W fun e W' => e = .returned (.tuple #[.int .i64 s.size, .nilIface]) ∧ Wrote B b (bs ++ s.data.toList) W W' := by
  have hsz : s.size = s.data.toList.length := by cases s; simp [ByteArray.size]
  have hk : Calls Tryz.prog 105 #[.pointer (some ⟨b, 0, none⟩), .string s] W fun e w' => e = .returned (.tuple #[.int .i64 s.size, .nilIface]) ∧ (Lib.BuilderAtF 133 5 B b (.pointer (some ⟨b, 0, none⟩)) (Lib.byteCells bs ++ Lib.strCells s) w' ∧ Below B W w' ∧ Lib.OthersKept 5 (some b) W w') :=
    Any.Builder_WriteString_k blay166 bextra B b (Lib.byteCells bs) s W h (by rw [byteCells_length, hsz]; simp at hl; omega) hB
  refine hk.mono ?_
  rintro e W' ⟨rfl, h1, h2, h3⟩
  exact ⟨rfl, .inr (by rw [byteCells_append]; exact h1), h2, h3⟩

theorem writeByte_any (B b : Nat) (bs : List UInt8) (c : UInt8) (W : World) (h : Bld B b bs W) (hl : (bs ++ [c]).length ≤ 1000000) (hB : B ≤ W.heap.size) :
    Calls Tryz.prog 169 #[.pointer (some ⟨b, 0, none⟩), .int .u8 c.toNat] W fun e W' => e = .returned .nilIface ∧ Wrote B b (bs ++ [c]) W W' := by
  have hk : Calls Tryz.prog 169 #[.pointer (some ⟨b, 0, none⟩), .int .u8 c.toNat] W fun e w' => e = .returned .nilIface ∧ (Lib.BuilderAtF 133 5 B b (.pointer (some ⟨b, 0, none⟩)) (Lib.byteCells bs ++ [.int .u8 c.toNat]) w' ∧ Below B W w' ∧ Lib.OthersKept 5 (some b) W w') :=
    Any.Builder_WriteByte_k blay167 bextra B b (Lib.byteCells bs) c.toNat W h (by rw [byteCells_length]; simp at hl; omega) hB
  refine hk.mono ?_
  rintro e W' ⟨rfl, h1, h2, h3⟩
  exact ⟨rfl, .inr (by rw [byteCells_append]; exact h1), h2, h3⟩

def termTxt (t : Tm) : List UInt8 := if t.name.toList.isEmpty = true then 88 :: Lib.decDigits t.num else t.name.data.toList

end Go.Proofs.YtjajnhemgphefaaGreatDoor

namespace Go.Proofs.YtjajnhemgphefaaGreatDoor
open Go.RowKit Go.Shelf
set_option linter.unusedVariables false
set_option linter.unusedSimpArgs false

set_option maxHeartbeats 400000 in
theorem check_any (v : Value) (rs : List Rl) (base b45 b87 : Nat) (w : World) (hR : RulesAt w base b45 b87 v rs) (hrow : ∀ g, v.ownBlock = some g → g < w.heap.size) (h8 : rs.length ≤ 8) (hok : ∀ r ∈ rs, RuleOk r) :
    Calls Tryz.prog 61 #[v] w fun e w' => e = .returned (.tuple #[.int .i64 (checkS rs).1, .int .i64 (checkS rs).2]) ∧ Below w.heap.size w w' := by
  have h1 := findArity_any v rs base b45 b87 w hR hrow h8 hok
  have h2 : ∀ W, Below w.heap.size w W → Calls Tryz.prog 101 #[v, .func (.func 102) #[] #[]] W fun e w' => e = .returned (.int .i64 (firstLoose rs)) ∧ Below w.heap.size w w' := fun W hb =>
    (idxRules_any v rs base b45 b87 W (hR.rk (RuleKept.ofBelow hb)) (fun g hg => Nat.lt_of_lt_of_le (hrow g hg) hb.size) h8 hok).mono (fun e w' h => ⟨h.1, hb.trans (h.2.mono hb.size)⟩)
  have h3 : ∀ W, Below w.heap.size w W → Calls Tryz.prog 103 #[v] W fun e w' => e = .returned (.int .i64 (manyFrom [] 0 rs)) ∧ Below w.heap.size w w' := fun W hb =>
    (findManyNames_any v rs base b45 b87 W (hR.rk (RuleKept.ofBelow hb)) (fun g hg => Nat.lt_of_lt_of_le (hrow g hg) hb.size) h8 hok).mono (fun e w' h => ⟨h.1, hb.trans (h.2.mono hb.size)⟩)
  obtain ⟨a, c, rfl⟩ := hR.form
  have hcs : Hid (checkS rs = if 0 ≤ arityFrom [] 0 rs then (4, arityFrom [] 0 rs) else if 0 ≤ firstLoose rs then (5, firstLoose rs) else if 0 ≤ manyFrom [] 0 rs then (3, manyFrom [] 0 rs) else (0, 0)) := rfl
  have H1 : Hid _ := h1
  have H2 : Hid _ := h2
  have H3 : Hid _ := h3
  clear h1 h2 h3 hR hrow hok
  generalize arityFrom [] 0 rs = ar at *
  generalize firstLoose rs = fu at *
  generalize manyFrom [] 0 rs = mn at *
  generalize checkS rs = cs at *
  by_cases ha : 0 ≤ ar
  · have hfin : Hid (cs = (4, ar)) := by show _ = _; rw [hcs.out, if_pos ha]
    go_enter Tryz.func61, Tryz.ntmps61
    go_wp2_with fail
    refine Calls.mono H1.out ?_
    rintro e w1 ⟨rfl, hb1⟩
    go_wp2
    go_ret2
    rw [hfin.out]
    exact ⟨rfl, hb1⟩
  have ha' : ¬ (0 ≤ ar) := ha
  by_cases hu : 0 ≤ fu
  · have hfin : Hid (cs = (5, fu)) := by show _ = _; rw [hcs.out, if_neg ha, if_pos hu]
    go_enter Tryz.func61, Tryz.ntmps61
    go_wp2_with fail
    refine Calls.mono H1.out ?_
    rintro e w1 ⟨rfl, hb1⟩
    go_wp2_with fail
    refine Calls.mono (H2.out w1 hb1) ?_
    rintro e w2 ⟨rfl, hb2⟩
    go_wp2
    go_ret2
    rw [hfin.out]
    exact ⟨rfl, hb2⟩
  by_cases hm : 0 ≤ mn
  · have hfin : Hid (cs = (3, mn)) := by show _ = _; rw [hcs.out, if_neg ha, if_neg hu, if_pos hm]
    go_enter Tryz.func61, Tryz.ntmps61
    go_wp2_with fail
    refine Calls.mono H1.out ?_
    rintro e w1 ⟨rfl, hb1⟩
    go_wp2_with fail
    refine Calls.mono (H2.out w1 hb1) ?_
    rintro e w2 ⟨rfl, hb2⟩
    go_wp2_with fail
    refine Calls.mono (H3.out w2 hb2) ?_
    rintro e w3 ⟨rfl, hb3⟩
    go_wp2
    go_ret2
    rw [hfin.out]
    exact ⟨rfl, hb3⟩
  · have hfin : Hid (cs = (0, 0)) := by show _ = _; rw [hcs.out, if_neg ha, if_neg hu, if_neg hm]
    go_enter Tryz.func61, Tryz.ntmps61
    go_wp2_with fail
    refine Calls.mono H1.out ?_
    rintro e w1 ⟨rfl, hb1⟩
    go_wp2_with fail
    refine Calls.mono (H2.out w1 hb1) ?_
    rintro e w2 ⟨rfl, hb2⟩
    go_wp2_with fail
    refine Calls.mono (H3.out w2 hb2) ?_
    rintro e w3 ⟨rfl, hb3⟩
    go_wp2
    go_ret2
    rw [hfin.out]
    exact ⟨rfl, hb3⟩

end Go.Proofs.YtjajnhemgphefaaGreatDoor

namespace Go.Proofs.YtjajnhemgphefaaGreatDoor
open Go.RowKit Go.Shelf
set_option linter.unusedVariables false
set_option linter.unusedSimpArgs false

set_option maxHeartbeats 1000000 in
theorem writeTerm_any (B b : Nat) (bs : List UInt8) (t : Tm) (W : World) (hb : Bld B b bs W) (hn : t.num ≤ 90) (hl : (bs ++ termTxt t).length ≤ 1000000) (hB : B ≤ W.heap.size) :
    Calls Tryz.prog 170 #[.pointer (some ⟨b, 0, none⟩), .agg #[.string t.name, .int .i64 t.num]] W fun e W' => e = .returned (.tuple #[]) ∧ Wrote B b (bs ++ termTxt t) W W' := by
  have hbl : Below W.heap.size W (W.alloc (.cells #[.string t.name, .int .i64 t.num] 166)) := (Below.refl _ W).alloc (Nat.le_refl _) _
  have hB1 : B ≤ (W.alloc (.cells #[.string t.name, .int .i64 t.num] 166)).heap.size := by simp; omega
  have hiv := fun W1 => isVariable_any t W1
  have hbx0 : (W.alloc (.cells #[.string t.name, .int .i64 t.num] 166)).heap[W.heap.size]? = some (Obj.cells #[.string t.name, .int .i64 t.num] 166 (0, 0)) := World.alloc_heap_new W _
  cases htv : t.name.toList.isEmpty with
  | false =>
    have htx : termTxt t = t.name.data.toList := by unfold termTxt; rw [if_neg (by simp [htv])]
    rw [htx] at hl ⊢
    rw [htv] at hiv
    have hw : ∀ W1, Below (W.alloc (.cells #[.string t.name, .int .i64 t.num] 166)).heap.size (W.alloc (.cells #[.string t.name, .int .i64 t.num] 166)) W1 → Calls Tryz.prog 105 #[.pointer (some ⟨b, 0, none⟩), .string t.name] W1 fun e W' => (∃ n : Int, e = .returned (.tuple #[.int .i64 n, .nilIface])) ∧ Wrote B b (bs ++ t.name.data.toList) W W' := fun W1 h1 => by
      refine (writeStr_any B b bs t.name W1 ((hb.below hbl).below h1) hl (Nat.le_trans hB1 h1.size)).mono ?_
      rintro e W' ⟨rfl, k⟩
      exact ⟨⟨_, rfl⟩, Wrote.after hbl hB (Wrote.after h1 hB1 k)⟩
    have hc : ∀ W1, Below (W.alloc (.cells #[.string t.name, .int .i64 t.num] 166)).heap.size (W.alloc (.cells #[.string t.name, .int .i64 t.num] 166)) W1 → W1.cell? ⟨W.heap.size, 0, none⟩ = some (.string t.name) := fun W1 h1 => by
      have := (h1.block W.heap.size (by simp)).trans hbx0
      simp [World.cell?, this]
    have HW : Hid _ := hw
    have HC : Hid _ := hc
    have HI : Hid _ := hiv
    clear hw hc hiv hbl hB1 hb hl htx htv hbx0
    go_enter Tryz.func170, Tryz.ntmps170
    go_wp2_with fail
    refine Calls.mono (HI.out _) ?_
    rintro e W1 ⟨rfl, h1⟩
    have c0 := HC.out W1 h1
    go_wp2_with fail
    refine Calls.mono (HW.out W1 h1) ?_
    rintro e W' ⟨⟨n, rfl⟩, h2⟩
    go_wp2
    refine bodyPost_ret (results_none rfl _ _ _) rfl ?_
    exact ⟨rfl, h2⟩
  | true =>
    have htx : termTxt t = 88 :: Lib.decDigits t.num := by unfold termTxt; rw [if_pos htv]
    rw [htx] at hl ⊢
    rw [htv] at hiv
    have hw1 : ∀ W1, Below (W.alloc (.cells #[.string t.name, .int .i64 t.num] 166)).heap.size (W.alloc (.cells #[.string t.name, .int .i64 t.num] 166)) W1 → Calls Tryz.prog 169 #[.pointer (some ⟨b, 0, none⟩), .int .u8 88] W1 fun e W' => e = .returned .nilIface ∧ Wrote B b (bs ++ [88]) W W' ∧ W'.cell? ⟨W.heap.size, 1, none⟩ = some (.int .i64 t.num) := fun W1 h1 => by
      refine (writeByte_any B b bs 88 W1 ((hb.below hbl).below h1) (by simp at hl ⊢; omega) (Nat.le_trans hB1 h1.size)).mono ?_
      rintro e W' ⟨rfl, k⟩
      refine ⟨rfl, Wrote.after hbl hB (Wrote.after h1 hB1 k), ?_⟩
      have := k.cells ((hb.below hbl).below h1) ((h1.block W.heap.size (by simp)).trans hbx0) (by decide) (by decide)
      simp [World.cell?, this]
    have hit : ∀ W1, Calls Tryz.prog 129 #[.int .i64 t.num] W1 fun e w' => e = .returned (.string ⟨(Lib.decDigits t.num).toArray⟩) ∧ W1 = w' := fun W1 => (Tryz.strconv_Itoa_small _ (by omega) W1).mono (fun e w' h => ⟨h.1, h.2.symm⟩)
    have hw2 : ∀ W1, Wrote B b (bs ++ [88]) W W1 → Calls Tryz.prog 105 #[.pointer (some ⟨b, 0, none⟩), .string ⟨(Lib.decDigits t.num).toArray⟩] W1 fun e W' => (∃ n : Int, e = .returned (.tuple #[.int .i64 n, .nilIface])) ∧ Wrote B b (bs ++ 88 :: Lib.decDigits t.num) W W' := fun W1 k => by
      refine (writeStr_any B b (bs ++ [88]) ⟨(Lib.decDigits t.num).toArray⟩ W1 k.bld (by simp at hl ⊢; omega) (Nat.le_trans hB k.below.size)).mono ?_
      rintro e W' ⟨rfl, h1⟩
      refine ⟨⟨_, rfl⟩, k.trans ?_⟩
      simpa using h1
    have H1 : Hid _ := hw1
    have H3 : Hid _ := hit
    have H4 : Hid _ := hw2
    have HI : Hid _ := hiv
    clear hw1 hit hw2 hiv hbl hB1 hb hl htx htv hbx0
    go_enter Tryz.func170, Tryz.ntmps170
    go_wp2_with fail
    refine Calls.mono (HI.out _) ?_
    rintro e W1 ⟨rfl, h1⟩
    go_wp2_with fail
    refine Calls.mono (H1.out W1 h1) ?_
    rintro e W2 ⟨rfl, k1, c1⟩
    go_wp2_with fail
    refine Calls.mono (H3.out W2) ?_
    rintro e w' ⟨rfl, rfl⟩
    go_wp2_with fail
    refine Calls.mono (H4.out W2 k1) ?_
    rintro e W' ⟨⟨n, rfl⟩, h2⟩
    go_wp2
    go_end0
    exact ⟨rfl, h2⟩

end Go.Proofs.YtjajnhemgphefaaGreatDoor
