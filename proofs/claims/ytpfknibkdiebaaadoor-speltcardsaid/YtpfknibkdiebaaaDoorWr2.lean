/-
  The writers: a term, an atom.
-/
import Derived.Test.YtpfknibkdiebaaaDoorWr
import Derived.Test.YtpfknibkdiebaaaDoorCheck
namespace Go.Proofs.YtpfknibkdiebaaaDoor
open Go.RowKit Go.Shelf
set_option linter.unusedVariables false
set_option linter.unusedSimpArgs false

set_option maxHeartbeats 1000000 in
theorem writeTerm_any (B b : Nat) (bs : List UInt8) (vs : List ByteArray) (base : Nat) (v : Value) (t : ATerm) (W : World) (hb : Bld B b bs W) (hv : W.ownsRow base 9 1 v vs.length (vs.map Value.string)) (hvl : vs.length ≤ 50) (ht : t.isVar = true → t.text ∈ vs) (hl : (bs ++ termTxt vs t).length ≤ 1000000) (hB : B ≤ W.heap.size) :
    Calls Tryd.prog 41 #[.pointer (some ⟨b, 0, none⟩), .agg #[.string t.text, .bool t.isVar], v] W fun e W' => e = .returned (.tuple #[]) ∧ Wrote B b (bs ++ termTxt vs t) W W' := by
  obtain ⟨a, c, hform⟩ := owns_form hv
  subst hform
  have hbl : Below W.heap.size W (W.alloc (.cells #[.string t.text, .bool t.isVar] 87)) := (Below.refl _ W).alloc (Nat.le_refl _) _
  have hB1 : B ≤ (W.alloc (.cells #[.string t.text, .bool t.isVar] 87)).heap.size := by simp; omega
  cases htv : t.isVar with
  | false =>
    have htx : termTxt vs t = t.text.data.toList := by unfold termTxt; rw [if_neg (by simp [htv])]
    rw [htx] at hl ⊢
    rw [htv] at hbl hB1
    have hw := writeStr_any B b bs t.text _ (hb.below hbl) hl hB1
    have HW : Hid _ := hw
    have HF : Hid _ := fun W' (k : Wrote B b (bs ++ t.text.data.toList) _ W') => Wrote.after hbl hB k
    clear hw hbl hB1 hb hv ht hl htx htv
    go_enter Tryd.func41, Tryd.ntmps41
    go_wp2_with fail
    refine Calls.mono HW.out ?_
    rintro e W' ⟨rfl, h1⟩
    go_wp2
    refine bodyPost_ret (results_none rfl _ _ _) rfl ?_
    exact ⟨rfl, HF.out W' h1⟩
  | true =>
    obtain ⟨hi, hlt⟩ := idx_mem vs t.text (ht htv)
    have htx : termTxt vs t = 88 :: Lib.decDigits (idxN vs t.text) := by unfold termTxt; rw [if_pos htv]
    rw [htx] at hl ⊢
    rw [htv] at hbl hB1
    have hb1 := hb.below hbl
    have hw1 := writeByte_any B b bs 88 _ hb1 (by simp at hl ⊢; omega) hB1
    have hv1 := hv.alloc (.cells #[.string t.text, .bool true] 87)
    have hix : ∀ W1, Wrote B b (bs ++ [88]) (W.alloc (.cells #[.string t.text, .bool true] 87)) W1 → Calls Tryd.prog 59 #[.slice a vs.length c, .string t.text] W1 fun e w' => e = .returned (.int .i64 (idxN vs t.text : Nat)) ∧ W1 = w' := fun W1 k => by
      have := index_own (k.row hb1 hv1) (by omega) t.text
      rw [hi] at this
      exact this.mono (fun e w' h => ⟨h.1, h.2.symm⟩)
    have hit : ∀ W1, Calls Tryd.prog 60 #[.int .i64 (idxN vs t.text : Nat)] W1 fun e w' => e = .returned (.string ⟨(Lib.decDigits (idxN vs t.text)).toArray⟩) ∧ W1 = w' := fun W1 => (Tryd.strconv_Itoa_small _ (by omega) W1).mono (fun e w' h => ⟨h.1, h.2.symm⟩)
    have hbx : ∀ W1, Wrote B b (bs ++ [88]) (W.alloc (.cells #[.string t.text, .bool true] 87)) W1 → W1.heap[W.heap.size]? = some (Obj.cells #[.string t.text, .bool true] 87 (0, 0)) := fun W1 k => k.cells hb1 (World.alloc_heap_new W _) (by decide) (by decide)
    have hw2 : ∀ W1, Wrote B b (bs ++ [88]) (W.alloc (.cells #[.string t.text, .bool true] 87)) W1 → Calls Tryd.prog 24 #[.pointer (some ⟨b, 0, none⟩), .string ⟨(Lib.decDigits (idxN vs t.text)).toArray⟩] W1 fun e W' => (∃ n : Int, e = .returned (.tuple #[.int .i64 n, .nilIface])) ∧ Wrote B b (bs ++ 88 :: Lib.decDigits (idxN vs t.text)) W W' := fun W1 k => by
      refine (writeStr_any B b (bs ++ [88]) ⟨(Lib.decDigits (idxN vs t.text)).toArray⟩ W1 k.bld (by simp at hl ⊢; omega) (Nat.le_trans hB1 k.below.size)).mono ?_
      rintro e W' ⟨rfl, h1⟩
      refine ⟨⟨_, rfl⟩, Wrote.after hbl hB (k.trans ?_)⟩
      simpa using h1
    have H1 : Hid _ := hw1
    have H2 : Hid _ := hix
    have H3 : Hid _ := hit
    have H4 : Hid _ := hw2
    have H5 : Hid _ := hbx
    clear hw1 hix hit hw2 hbx hv1 hb1 hbl hB1 hb hv ht hl htx htv hi
    generalize idxN vs t.text = ix at *
    go_enter Tryd.func41, Tryd.ntmps41
    go_wp2_with fail
    refine Calls.mono H1.out ?_
    rintro e W1 ⟨rfl, k1⟩
    have hbx := H5.out W1 k1
    have c0 : W1.cell? ⟨W.heap.size, 0, none⟩ = some (.string t.text) := by simp [World.cell?, hbx]
    clear hbx
    go_wp2_with fail
    refine Calls.mono (H2.out W1 k1) ?_
    rintro e w' ⟨rfl, rfl⟩
    go_wp2_with fail
    refine Calls.mono (H3.out W1) ?_
    rintro e w' ⟨rfl, rfl⟩
    go_wp2_with fail
    refine Calls.mono (H4.out W1 k1) ?_
    rintro e W' ⟨⟨n, rfl⟩, h1⟩
    go_wp2
    go_end0
    exact ⟨rfl, h1⟩

end Go.Proofs.YtpfknibkdiebaaaDoor
