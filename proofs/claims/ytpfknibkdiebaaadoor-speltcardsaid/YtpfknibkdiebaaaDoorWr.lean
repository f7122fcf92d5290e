/-
  The writers: a term, with the builder's text said byte by byte.
-/
import Derived.Test.YtpfknibkdiebaaaDoorBuild
namespace Go.Proofs.YtpfknibkdiebaaaDoor
open Go.RowKit Go.Shelf
set_option linter.unusedVariables false
set_option linter.unusedSimpArgs false

def Bld (B b : Nat) (bs : List UInt8) (W : World) : Prop := Lib.IsBuilderF 42 5 B b (Lib.byteCells bs) W

/-- What a writer does: the builder's text is longer; all else that is no row of bytes is as it was. -/
structure Wrote (B b : Nat) (bs : List UInt8) (W W' : World) : Prop where
  bld : Bld B b bs W'
  below : Below B W W'
  others : Lib.OthersKept 5 (some b) W W'

theorem byteCells_append (l m : List UInt8) : Lib.byteCells (l ++ m) = Lib.byteCells l ++ Lib.byteCells m := by simp [Lib.byteCells]
theorem byteCells_length (l : List UInt8) : (Lib.byteCells l).length = l.length := by simp [Lib.byteCells]

theorem Bld.block {B b : Nat} {bs : List UInt8} {W : World} (h : Bld B b bs W) : B ≤ b ∧ ∃ c, W.heap[b]? = some (Obj.cells c 42 (0, 0)) := by
  rcases h with ⟨hB, v, hb, _⟩ | ⟨hB, v, hb, _⟩
  · exact ⟨hB, _, hb⟩
  · exact ⟨hB, _, hb⟩

theorem Bld.below {B b : Nat} {bs : List UInt8} {W W' : World} (h : Bld B b bs W) (hb : Below W.heap.size W W') : Bld B b bs W' := by
  have hlt : b < W.heap.size := by obtain ⟨_, c, hc⟩ := h.block; exact (Array.getElem?_eq_some_iff.1 hc).1
  rcases h with ⟨h1, v, h2, h3, h4⟩ | ⟨h1, v, h2, h3, h4⟩
  · exact .inl ⟨h1, v, (hb.block b hlt).trans h2, h3.kept (below_grownBy hb) (by cases hv : v.ownBlock <;> simp), h4⟩
  · exact .inr ⟨h1, v, (hb.block b hlt).trans h2, h3.kept (below_grownBy hb) (by cases hv : v.ownBlock <;> simp), h4⟩

theorem others_below {b : Option Nat} {W W' : World} (h : Below W.heap.size W W') : Lib.OthersKept 5 b W W' := fun k o hk _ _ => (h.block k (Array.getElem?_eq_some_iff.1 hk).1).trans hk

theorem Wrote.cells {B b : Nat} {bs bs0 : List UInt8} {W W' : World} (h : Wrote B b bs W W') (h0 : Bld B b bs0 W) {k : Nat} {c : Array Value} {t : TypeId} {fz : Nat × Nat} (hk : W.heap[k]? = some (Obj.cells c t fz)) (ht : t ≠ 5) (ht2 : t ≠ 42) : W'.heap[k]? = some (Obj.cells c t fz) := by
  refine h.others k _ hk (fun e => ?_) (fun c' fz' e => ?_)
  · cases e
    obtain ⟨_, c', hc'⟩ := h0.block
    rw [hk] at hc'; cases hc'; exact ht2 rfl
  · cases e; exact ht rfl

theorem Wrote.rk {B b : Nat} {bs bs0 : List UInt8} {W W' : World} (h : Wrote B b bs W W') (h0 : Bld B b bs0 W) : RuleKept W W' := fun k c t ht hc =>
  h.cells h0 hc (by rcases ht with rfl | rfl | rfl <;> decide) (by rcases ht with rfl | rfl | rfl <;> decide)

theorem Wrote.row {B b : Nat} {bs bs0 : List UInt8} {W W' : World} (h : Wrote B b bs W W') (h0 : Bld B b bs0 W) {base n : Nat} {v : Value} {xs : List Value} (hv : W.ownsRow base 9 1 v n xs) : W'.ownsRow base 9 1 v n xs :=
  owns_kept hv (fun g c _ hc => h.cells h0 hc (by decide) (by decide))

theorem Wrote.trans {B b : Nat} {bs bs' : List UInt8} {A C D : World} (h : Wrote B b bs A C) (k : Wrote B b bs' C D) : Wrote B b bs' A D := ⟨k.bld, h.below.trans k.below, h.others.trans k.others⟩
theorem Wrote.after {B b : Nat} {bs : List UInt8} {A C D : World} (h : Below A.heap.size A C) (hB : B ≤ A.heap.size) (k : Wrote B b bs C D) : Wrote B b bs A D := ⟨k.bld, (h.mono hB).trans k.below, (others_below h).trans k.others⟩

theorem writeStr_any (B b : Nat) (bs : List UInt8) (s : ByteArray) (W : World) (h : Bld B b bs W) (hl : (bs ++ s.data.toList).length ≤ 1000000) (hB : B ≤ W.heap.size) :
    Calls Tryd.prog 24 #[.pointer (some ⟨b, 0, none⟩), .string s] W fun e W' => e = .returned (.tuple #[.int .i64 s.size, .nilIface]) ∧ Wrote B b (bs ++ s.data.toList) W W' := by
  have hsz : s.size = s.data.toList.length := by cases s; simp [ByteArray.size]
  have hk : Calls Tryd.prog 24 #[.pointer (some ⟨b, 0, none⟩), .string s] W fun e w' => e = .returned (.tuple #[.int .i64 s.size, .nilIface]) ∧ (Lib.BuilderAtF 42 5 B b (.pointer (some ⟨b, 0, none⟩)) (Lib.byteCells bs ++ Lib.strCells s) w' ∧ Below B W w' ∧ Lib.OthersKept 5 (some b) W w') :=
    Any.Builder_WriteString_k blay166 bextra B b (Lib.byteCells bs) s W h (by rw [byteCells_length, hsz]; simp at hl; omega) hB
  refine hk.mono ?_
  rintro e W' ⟨rfl, h1, h2, h3⟩
  exact ⟨rfl, .inr (by rw [byteCells_append]; exact h1), h2, h3⟩

theorem writeByte_any (B b : Nat) (bs : List UInt8) (c : UInt8) (W : World) (h : Bld B b bs W) (hl : (bs ++ [c]).length ≤ 1000000) (hB : B ≤ W.heap.size) :
    Calls Tryd.prog 40 #[.pointer (some ⟨b, 0, none⟩), .int .u8 c.toNat] W fun e W' => e = .returned .nilIface ∧ Wrote B b (bs ++ [c]) W W' := by
  have hk : Calls Tryd.prog 40 #[.pointer (some ⟨b, 0, none⟩), .int .u8 c.toNat] W fun e w' => e = .returned .nilIface ∧ (Lib.BuilderAtF 42 5 B b (.pointer (some ⟨b, 0, none⟩)) (Lib.byteCells bs ++ [.int .u8 c.toNat]) w' ∧ Below B W w' ∧ Lib.OthersKept 5 (some b) W w') :=
    Any.Builder_WriteByte_k blay167 bextra B b (Lib.byteCells bs) c.toNat W h (by rw [byteCells_length]; simp at hl; omega) hB
  refine hk.mono ?_
  rintro e W' ⟨rfl, h1, h2, h3⟩
  exact ⟨rfl, .inr (by rw [byteCells_append]; exact h1), h2, h3⟩

theorem index_own {W : World} {b : Nat} {v : Value} {vs : List ByteArray} (h : W.ownsRow b 9 1 v vs.length (vs.map Value.string)) (hl : vs.length ≤ 1000) (x : ByteArray) :
    Calls Tryd.prog 59 #[v, .string x] W fun e w' => e = .returned (.int .i64 (Lib.idxOfS vs x)) ∧ w' = W := by
  obtain ⟨_, ⟨hv, hn⟩ | ⟨g, cap, cur, hv, hb, hw, h1, h2, h3, h4⟩⟩ := h
  · have : vs = [] := List.eq_nil_of_length_eq_zero hn
    subst this
    rw [hv]
    exact Tryd.slices_Index_string_empty none 0 x W
  · rw [hv]
    have := Tryd.slices_Index_string g 0 vs.length cap vs x W (Nat.le_refl _) (by omega) (fun j hj => by
      simp only [World.cell?, hw, Nat.zero_add]
      have h5 : (cur.toList.take (vs.length * 1))[j]? = some (.string (vs.getD j ByteArray.empty)) := by
        rw [h4]; simp [List.getElem?_eq_getElem hj]
      rw [List.getElem?_take, if_pos (by omega)] at h5
      simpa using h5)
    simpa using this

def idxN (vs : List ByteArray) (x : ByteArray) : Nat := (Lib.idxOfS vs x).toNat

theorem idx_mem (vs : List ByteArray) (x : ByteArray) (h : x ∈ vs) : Lib.idxOfS vs x = (idxN vs x : Int) ∧ idxN vs x < vs.length := by
  have h0 := (Lib.idxOfS_nonneg_iff vs x).2 h
  refine ⟨by unfold idxN; omega, ?_⟩
  have gen : ∀ (zs : List ByteArray) (i : Nat), x ∈ zs → Lib.idxFromS zs x i < i + zs.length := by
    intro zs
    induction zs with
    | nil => intro i hi; cases hi
    | cons z zs ih =>
      intro i hi
      by_cases hz : z = x
      · subst hz; simp [Lib.idxFromS]; omega
      · have : x ∈ zs := by
          rcases List.mem_cons.1 hi with e | e
          · exact absurd e.symm hz
          · exact e
        have := ih (i + 1) this
        simp [Lib.idxFromS, hz]
        push_cast at this; omega
  have := gen vs 0 h
  unfold idxN Lib.idxOfS at *
  omega

def termTxt (vs : List ByteArray) (t : ATerm) : List UInt8 := if t.isVar = true then 88 :: Lib.decDigits (idxN vs t.text) else t.text.data.toList

end Go.Proofs.YtpfknibkdiebaaaDoor
