/-
  The parser's methods: what each does to the parser's memory, said of the state that it stands for.
  slices.Index and slices.Contains over a row of strings, in the words of the document's own answer.
-/
import Derived.Test.YtjajnhemgphefaaDoorJRep
import Derived.Test.YtjajnhemgphefaaDoorJPDef
import Derived.BigQuiet
import Derived.BigRegion
namespace Go.Proofs.YtjajnhemgphefaaDoor
open Go.RowKit Go.Shelf
set_option linter.unusedVariables false
set_option linter.unusedSimpArgs false

set_option maxHeartbeats 1000000 in
theorem fits_any (bp : Nat) (st k : Int) (w : World) (hc : w.cell? ⟨bp, 0, none⟩ = some (.int .i64 st)) :
    Calls Tryd.prog 41 #[.pointer (some ⟨bp, 0, none⟩), .int .i64 k] w fun e w' => e = .returned (.bool (fitsB st k)) ∧ w' = w := by
  go_enter Tryd.func41, Tryd.ntmps41
  go_wp2
  all_goals
    go_ret
    exact ⟨ret_bool (by simp_all [fitsB]), rfl⟩

set_option maxHeartbeats 400000 in
theorem endAtom_any (bp : Nat) (st : Int) (vr vv : Value) (a : Option Addr) (n c : Nat) (w : World) (hh : w.heap[bp]? = some (Obj.cells #[.int .i64 st, vr, .slice a n c, vv] 53 (0, 0))) :
    Calls Tryd.prog 60 #[.pointer (some ⟨bp, 0, none⟩)] w fun e w' => e = .returned (.tuple #[]) ∧ w' = w.setCell ⟨bp, 0, none⟩ (.int .i64 (if n = 1 then 5 else 6)) := by
  have h0 : w.cell? ⟨bp, 0, none⟩ = some (.int .i64 st) := by simp [World.cell?, hh]
  have h2 : w.cell? ⟨bp, 2, none⟩ = some (.slice a n c) := by simp [World.cell?, hh]
  have hf : w.frozen? ⟨bp, 0, none⟩ = false := by simp [World.frozen?, hh]
  clear hh
  by_cases hn : n = 1
  · subst hn
    go_enter Tryd.func60, Tryd.ntmps60
    go_wp2
    go_end0
    exact ⟨rfl, rfl⟩
  · have e1 : ((n : Int) == 1) = false := by simp; omega
    go_enter Tryd.func60, Tryd.ntmps60
    go_wp2
    go_end0
    exact ⟨rfl, rfl⟩

set_option maxHeartbeats 400000 in
theorem addComma_any (bp : Nat) (st : Int) (vr va vv : Value) (w : World) (hh : w.heap[bp]? = some (Obj.cells #[.int .i64 st, vr, va, vv] 53 (0, 0))) :
    Calls Tryd.prog 61 #[.pointer (some ⟨bp, 0, none⟩)] w fun e w' => e = .returned (.tuple #[]) ∧ w' = w.setCell ⟨bp, 0, none⟩ (.int .i64 (if st = 4 then 3 else 1)) := by
  have h0 : w.cell? ⟨bp, 0, none⟩ = some (.int .i64 st) := by simp [World.cell?, hh]
  have hf : w.frozen? ⟨bp, 0, none⟩ = false := by simp [World.frozen?, hh]
  clear hh
  by_cases hn : st = 4
  · subst hn
    go_enter Tryd.func61, Tryd.ntmps61
    go_wp2
    go_end0
    exact ⟨rfl, rfl⟩
  · have e1 : (st == 4) = false := by simp [hn]
    go_enter Tryd.func61, Tryd.ntmps61
    go_wp2
    go_end0
    exact ⟨rfl, rfl⟩

set_option maxHeartbeats 400000 in
theorem lastAtom_any (bp : Nat) (st : Int) (vr vv : Value) (g n c : Nat) (hn : 1 ≤ n) (hb : n ≤ 1000) (w : World) (hh : w.heap[bp]? = some (Obj.cells #[.int .i64 st, vr, .slice (some ⟨g, 0, none⟩) n c, vv] 53 (0, 0))) :
    Calls Tryd.prog 58 #[.pointer (some ⟨bp, 0, none⟩)] w fun e w' => e = .returned (.pointer (some ⟨g, (n - 1) * 2, none⟩)) ∧ ∃ q, w' = w.drewN q := by
  have h2 : w.cell? ⟨bp, 2, none⟩ = some (.slice (some ⟨g, 0, none⟩) n c) := by simp [World.cell?, hh]
  clear hh
  have i1 : (0 : Int) ≤ (n : Int) - 1 := by omega
  have i2 : (n : Int) - 1 < (n : Int) := by omega
  go_enter Tryd.func58, Tryd.ntmps58
  go_wp2
  go_quiet (fail)
  go_wp2
  go_ret
  exact ⟨rfl, _, rfl⟩

set_option maxHeartbeats 1000000 in
theorem exceeds_any (bp : Nat) (st : Int) (ar : Option Addr) (nr cr : Nat) (aa : Option Addr) (na ca : Nat) (vv : Value) (at' : Option Addr) (m cm : Nat) (k : Int) (t : ByteArray) (p r : Int) (hb : na ≤ 1000) (w : World)
    (hh : w.heap[bp]? = some (Obj.cells #[.int .i64 st, .slice ar nr cr, .slice aa na ca, vv] 53 (0, 0)))
    (hlast : st = 3 → 1 ≤ na ∧ ∃ g, aa = some ⟨g, 0, none⟩ ∧ w.cell? ⟨g, (na - 1) * 2 + 1, none⟩ = some (.slice at' m cm) ∧ g < w.heap.size) :
    Calls Tryd.prog 42 #[.pointer (some ⟨bp, 0, none⟩), tokV k t p r] w fun e w' => e = .returned (.bool (exceedsB st r nr na m)) ∧ ∃ q, w' = (w.alloc (.cells (tokC k t p r) 71)).drewN q := by
  have hbp : bp < w.heap.size := (Array.getElem?_eq_some_iff.1 hh).1
  have h0 : w.cell? ⟨bp, 0, none⟩ = some (.int .i64 st) := by simp [World.cell?, hh]
  have h1 : w.cell? ⟨bp, 1, none⟩ = some (.slice ar nr cr) := by simp [World.cell?, hh]
  have h2 : w.cell? ⟨bp, 2, none⟩ = some (.slice aa na ca) := by simp [World.cell?, hh]
  unfold tokV tokC
  by_cases hr : 8 < r
  · clear hlast hh
    go_enter Tryd.func42, Tryd.ntmps42
    go_wp2
    go_ret
    exact ⟨ret_bool (by simp [exceedsB, hr]), 0, rfl⟩
  · by_cases h3 : st = 3
    · obtain ⟨h1n, g, rfl, hcg, hgw⟩ := hlast h3
      subst h3
      have hh' : (w.alloc (.cells #[.int .i64 k, .string t, .int .i64 p, .int .i64 r] 71)).heap[bp]? = some (Obj.cells #[.int .i64 3, .slice ar nr cr, .slice (some ⟨g, 0, none⟩) na ca, vv] 53 (0, 0)) := by rw [Below.heap_alloc _ _ _ hbp]; exact hh
      have hne : g ≠ w.heap.size := by omega
      have hcg' : (w.alloc (.cells #[.int .i64 k, .string t, .int .i64 p, .int .i64 r] 71)).cell? ⟨g, (na - 1) * 2 + 1, none⟩ = some (.slice at' m cm) := cell_later ((Below.refl w.heap.size w).alloc (Nat.le_refl _) _) hcg
      clear hh hcg
      go_enter Tryd.func42, Tryd.ntmps42
      go_wp2_with (go_at_call 58; refine (lastAtom_any _ _ _ _ _ _ _ h1n hb _ hh').mono ?_; rintro e w' ⟨rfl, q, rfl⟩)
      go_ret
      exact ⟨ret_bool (by rw [Bool.eq_iff_iff]; simp [exceedsB]; omega), _, rfl⟩
    · have h3' : (st == 3) = false := by simp [h3]
      clear hlast hh
      go_enter Tryd.func42, Tryd.ntmps42
      go_wp2
      all_goals
        go_ret
        exact ⟨ret_bool (by rw [Bool.eq_iff_iff]; simp_all [exceedsB] <;> omega), 0, rfl⟩

end Go.Proofs.YtjajnhemgphefaaDoor

namespace Go.Proofs.YtjajnhemgphefaaDoor
open Go.RowKit Go.Shelf
set_option linter.unusedVariables false
set_option linter.unusedSimpArgs false

theorem contains_own {W : World} {b : Nat} {v : Value} {vs : List ByteArray} (h : W.ownsRow b 9 1 v vs.length (vs.map Value.string)) (hl : vs.length ≤ 1000) (x : ByteArray) :
    Calls Tryd.prog 48 #[v, .string x] W fun e w' => e = .returned (.bool (Lib.containsS vs x)) ∧ w' = W := by
  obtain ⟨_, ⟨hv, hn⟩ | ⟨g, cap, cur, hv, hb, hw, h1, h2, h3, h4⟩⟩ := h
  · have : vs = [] := List.eq_nil_of_length_eq_zero hn
    subst this
    rw [hv]
    exact Tryd.slices_Contains_string_empty none 0 x W
  · rw [hv]
    have := Tryd.slices_Contains_string g 0 vs.length cap vs x W (Nat.le_refl _) (by omega) (fun j hj => by
      simp only [World.cell?, hw, Nat.zero_add]
      have h5 : (cur.toList.take (vs.length * 1))[j]? = some (.string (vs.getD j ByteArray.empty)) := by
        rw [h4]; simp [List.getElem?_eq_getElem hj]
      rw [List.getElem?_take, if_pos (by omega)] at h5
      simpa using h5)
    simpa using this

theorem index_own {W : World} {b : Nat} {v : Value} {vs : List ByteArray} (h : W.ownsRow b 9 1 v vs.length (vs.map Value.string)) (hl : vs.length ≤ 1000) (x : ByteArray) :
    Calls Tryd.prog 63 #[v, .string x] W fun e w' => e = .returned (.int .i64 (Lib.idxOfS vs x)) ∧ w' = W := by
  obtain ⟨_, ⟨hv, hn⟩ | ⟨g, cap, cur, hv, hb, hw, h1, h2, h3, h4⟩⟩ := h
  · have : vs = [] := List.eq_nil_of_length_eq_zero hn
    subst this
    rw [hv]
    exact Tryd.slices_Index_string_empty none 0 x W
  · rw [hv]
    have := Tryd.slices_Index_string g 0 vs.length cap vs x W (Nat.le_refl _) (by omega) (fun j hj => by
      simp only [World.cell?, hw, Nat.zero_add]
      have h5 : (cur.toList.take (vs.length * 1))[j]? = some (.string (vs.getD j ByteArray.empty)) := by
        rw [h4]; simp [List.getElem?_eq_getElem hj]
      rw [List.getElem?_take, if_pos (by omega)] at h5
      simpa using h5)
    simpa using this

theorem Tryd.info9 : (Tryd.prog.info? 9).map (fun i => (i.zero, i.size, i.bytes)) = some (some (.string ⟨#[]⟩), 1, 16) := by kernel_rfl

end Go.Proofs.YtjajnhemgphefaaDoor
