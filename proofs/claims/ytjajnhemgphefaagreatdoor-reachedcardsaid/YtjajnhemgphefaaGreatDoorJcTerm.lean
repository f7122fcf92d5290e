/-
  The statement Reached: reckon.
  The parser's addWord where it adds a term to the last atom.
-/
import Derived.Test.YtjajnhemgphefaaGreatDoorJcFw
import Derived.Deep.RegionHeld3
namespace Go.Proofs.YtjajnhemgphefaaGreatDoor
open Go.RowKit Go.Shelf
set_option linter.unusedVariables false
set_option linter.unusedSimpArgs false

def enC (A : Nat → Nat → Int) : Array Value := ((List.range 36).map (fun n => Value.int .i64 (A (n / 6) (n % 6)))).toArray
/-- Block B holds the ends A. -/
def EnAt (W : World) (B : Nat) (A : Nat → Nat → Int) : Prop := W.heap[B]? = some (Obj.cells (enC A) 89 (0, 0))

theorem en_cell {W : World} {B : Nat} {A : Nat → Nat → Int} (h : EnAt W B A) {i j : Nat} (hi : i < 6) (hj : j < 6) : W.cell? ⟨B, i * 6 + j, none⟩ = some (.int .i64 (A i j)) := by
  unfold EnAt at h
  have e1 : (i * 6 + j) / 6 = i := by omega
  have e2 : (i * 6 + j) % 6 = j := by omega
  have e3 : i * 6 + j < 36 := by omega
  simp [World.cell?, h, enC, e1, e2, e3]
theorem en_set {W : World} {B : Nat} {A : Nat → Nat → Int} (h : EnAt W B A) {i j : Nat} (hi : i < 6) (hj : j < 6) (v : Int) : EnAt (W.setCell ⟨B, i * 6 + j, none⟩ (.int .i64 v)) B (setA A i j v) := by
  have h1 := heap_set h (i * 6 + j) (.int .i64 v)
  unfold EnAt
  rw [h1]
  congr 2
  apply Array.ext
  · simp [enC]
  · intro n hn1 hn2
    have hn : n < 36 := by simpa [enC] using hn2
    have e2 : (enC (setA A i j v))[n]'hn2 = .int .i64 (setA A i j v (n / 6) (n % 6)) := by simp [enC]
    have e1 : (enC A)[n]'(by simp [enC]; exact hn) = .int .i64 (A (n / 6) (n % 6)) := by simp [enC]
    rw [e2, Array.getElem_setIfInBounds (by simp [enC]; exact hn), e1]
    unfold setA
    by_cases hc : i * 6 + j = n
    · rw [if_pos hc, if_pos (by omega)]
    · rw [if_neg hc, if_neg (by omega)]
theorem en_zero (w : World) (O : Obj) (h : O = Obj.cells (enC (fun _ _ => 0)) 89 (0, 0)) : EnAt (w.alloc O) w.heap.size (fun _ _ => 0) := by
  subst h
  exact World.alloc_heap_new w _
theorem cell_ne (W : World) (N k : Nat) (v : Value) (b j : Nat) (h : b ≠ N) : (W.setCell ⟨N, k, none⟩ v).cell? ⟨b, j, none⟩ = W.cell? ⟨b, j, none⟩ := by
  have := Below.heap_setCell W ⟨N, k, none⟩ v b h
  simp only [World.cell?, this]
theorem below_dn {B : Nat} {a w : World} (h : Below B a w) (n : Nat) : Below B a (w.drewN n) := h.trans ⟨rfl, rfl, rfl, Nat.le_refl _, fun _ _ => rfl⟩
/-- One edge is looked at. -/
def stepR (m : Int) (A : Nat → Nat → Int) (x : Nat × Nat × Int) : Nat → Nat → Int := if x.2.2 ≤ m ∧ m < x.2.2 + 20 ∧ A x.1 x.2.1 < x.2.2 + 20 then setA A x.1 x.2.1 (x.2.2 + 20) else A
def recA (m : Int) (l : List (Nat × Nat × Int)) : Nat → Nat → Int := l.foldl (stepR m) (fun _ _ => 0)
theorem recA_take (m : Int) (l : List (Nat × Nat × Int)) (k : Nat) (h : k < l.length) : recA m (l.take (k + 1)) = stepR m (recA m (l.take k)) l[k] := by
  unfold recA
  rw [List.take_succ_eq_append_getElem h, List.foldl_append]; rfl
/-- Within a round. -/
def rowsA (k : Nat) (A : Nat → Nat → Int) (i j : Nat) : Nat → Nat → Int := (((List.range i).flatMap fun i => (List.range 6).map fun j => (i, j)) ++ (List.range j).map (fun b => (i, b))).foldl (stepA k) A
theorem rowsA_succ (k : Nat) (A : Nat → Nat → Int) (i j : Nat) : rowsA k A i (j + 1) = stepA k (rowsA k A i j) (i, j) := by
  unfold rowsA
  rw [List.range_succ (n := j), List.map_append, ← List.append_assoc, List.foldl_append]; rfl
theorem rowsA_next (k : Nat) (A : Nat → Nat → Int) (i : Nat) : rowsA k A (i + 1) 0 = rowsA k A i 6 := by
  unfold rowsA
  rw [List.range_succ (n := i), List.flatMap_append]
  simp
theorem rowsA_end (k : Nat) (A : Nat → Nat → Int) : rowsA k A 6 0 = roundA k A := by
  unfold rowsA roundA pairs6
  simp
def toZ (x : Nat × Nat × Int) : Int × Int × Int := ((x.1 : Int), (x.2.1 : Int), x.2.2)
def EnI (w : World) (A : Nat → Nat → Int) (W : World) : Prop := EnAt W w.heap.size A ∧ Below w.heap.size w W ∧ w.heap.size < W.heap.size

set_option maxRecDepth 100000 in
set_option maxHeartbeats 4000000 in
theorem reckon_any (a : Option Addr) (c : Nat) (l : List (Nat × Nat × Int)) (m : Int) (w : World) (h : EdAt w a (l.map toZ)) (hl : l.length ≤ 1000000000) (hz : ∀ x ∈ l, x.1 < 6 ∧ x.2.1 < 6 ∧ 0 ≤ x.2.2 ∧ x.2.2 ≤ 1000000) :
    Calls Tryz.prog 18 #[.slice a l.length c, .int .i64 m] w fun e w' => e = .returned (.pointer (some ⟨w.heap.size, 0, none⟩)) ∧ EnI w (allA 6 (recA m l)) w' := by
  have HL : Hid _ := h
  have HZ : Hid _ := hz
  clear h hz
  have hS0 : Hid (∀ O, O = Obj.cells (enC (fun _ _ => 0)) 89 (0, 0) → EnI w (recA m (l.take 0)) (w.alloc O)) := fun O hO => ⟨en_zero w O hO, (Below.refl _ w).alloc (Nat.le_refl _) O, by simp⟩
  go_enter Tryz.func18, Tryz.ntmps18
  go_wp2_with fail
  go_loopw [6] (fun vi wr => ∃ k : Nat, vi = .int .i64 k ∧ k ≤ l.length ∧ Hid (EnI w (recA m (l.take k)) wr)) (fun vi _ => l.length - (intOf vi).toNat)
  case atStart => exact ⟨0, rfl, Nat.zero_le _, hS0.out _ rfl⟩
  case round =>
    obtain ⟨k, rfl, hk, hst⟩ := hrel
    by_cases hlt : k < l.length
    · have i1 : (k : Int) < (l.length : Int) := by omega
      obtain ⟨bb, off, e0, hbl, x0, x1, x2⟩ := HL.out k (by rw [List.length_map]; exact hlt)
      rw [List.getElem_map] at x0 x1 x2
      have hzk := HZ.out l[k] (List.getElem_mem _)
      have hrec := recA_take m l k hlt
      have HR : Hid _ := hrec
      have hbw := hst.out.2.1
      have y0 := (hbw.cell (p := ⟨bb, off + k * 3, none⟩) hbl).trans x0
      have y1 := (hbw.cell (p := ⟨bb, off + k * 3 + 1, none⟩) hbl).trans x1
      have y2 := (hbw.cell (p := ⟨bb, off + k * 3 + 2, none⟩) hbl).trans x2
      subst e0
      clear x0 x1 x2 hrec hS0 hbw
      generalize l[k] = z at *
      obtain ⟨f, t, u⟩ := z
      simp only [toZ] at y0 y1 y2 hzk
      obtain ⟨hf, ht, hu0, hu1⟩ := hzk
      generalize recA m (l.take k) = A at *
      have hN : w.heap.size ≠ wr.heap.size := by have := hst.out.2.2; omega
      obtain ⟨V, hV⟩ : ∃ V, wr.alloc (Obj.cells #[.int .i64 f, .int .i64 t, .int .i64 u] 46) = V := ⟨_, rfl⟩
      have hV0 : V.heap[wr.heap.size]? = some (Obj.cells #[.int .i64 f, .int .i64 t, .int .i64 u] 46 (0, 0)) := by rw [← hV]; exact World.alloc_heap_new wr _
      have hVE : Hid (EnI w A V) := by
        rw [← hV]
        exact ⟨(Below.heap_alloc _ _ _ hst.out.2.2).trans hst.out.1, hst.out.2.1.alloc (Nat.le_of_lt hst.out.2.2) _, by have := hst.out.2.2; simp; omega⟩
      have p0 : V.cell? ⟨wr.heap.size, 0, none⟩ = some (.int .i64 f) := by simp [World.cell?, hV0]
      have p1 : V.cell? ⟨wr.heap.size, 1, none⟩ = some (.int .i64 t) := by simp [World.cell?, hV0]
      have p2 : V.cell? ⟨wr.heap.size, 2, none⟩ = some (.int .i64 u) := by simp [World.cell?, hV0]
      have p3 : V.cell? ⟨w.heap.size, f * 6 + t, none⟩ = some (.int .i64 (A f t)) := en_cell hVE.out.1 hf ht
      have p4 : V.frozen? ⟨w.heap.size, f * 6 + t, none⟩ = false := by have := hVE.out.1; unfold EnAt at this; simp [World.frozen?, this]
      have f1 : (f : Int) < 6 := by omega
      have t1 : (t : Int) < 6 := by omega
      clear hst hV0
      by_cases h1 : u ≤ m
      · by_cases h2 : m < u + 20
        · by_cases h3 : A f t < u + 20
          · go_wp2_with fail
            go_quiet (fail)
            obtain ⟨V1, hV1⟩ : ∃ V1, V.drewN nq = V1 := ⟨_, rfl⟩
            have q0 : V1.cell? ⟨wr.heap.size, 0, none⟩ = some (.int .i64 f) := by rw [← hV1]; exact p0
            have q1 : V1.cell? ⟨wr.heap.size, 1, none⟩ = some (.int .i64 t) := by rw [← hV1]; exact p1
            have q3 : V1.cell? ⟨w.heap.size, f * 6 + t, none⟩ = some (.int .i64 (A f t)) := by rw [← hV1]; exact p3
            have q4 : V1.frozen? ⟨w.heap.size, f * 6 + t, none⟩ = false := by rw [← hV1]; exact p4
            have hE1 : Hid (EnI w (recA m (l.take (k + 1))) (V1.setCell ⟨w.heap.size, f * 6 + t, none⟩ (.int .i64 (u + 20))).drew) := by
              rw [HR.out, ← hV1]
              unfold stepR
              rw [if_pos ⟨h1, h2, h3⟩]
              exact ⟨en_set (W := V.drewN nq) hVE.out.1 hf ht _, ((below_dn hVE.out.2.1 nq).setCell (Nat.le_refl _) _).drew, by show _ < (World.setCell _ _ _).heap.size; simp; exact hVE.out.2.2⟩
            have q0' : (V1.setCell ⟨w.heap.size, f * 6 + t, none⟩ (.int .i64 (u + 20))).drew.cell? ⟨wr.heap.size, 0, none⟩ = some (.int .i64 f) := (cell_ne V1 _ _ _ _ _ hN.symm).trans q0
            have q1' : (V1.setCell ⟨w.heap.size, f * 6 + t, none⟩ (.int .i64 (u + 20))).drew.cell? ⟨wr.heap.size, 1, none⟩ = some (.int .i64 t) := (cell_ne V1 _ _ _ _ _ hN.symm).trans q1
            clear p0 p1 p2 p3 p4 hVE hV y0 y1 y2 HR
            go_wp2_with fail
            go_region_held3 (fun w' => w'.cell? ⟨wr.heap.size, 0, none⟩ = some (.int .i64 f) ∧ w'.cell? ⟨wr.heap.size, 1, none⟩ = some (.int .i64 t)) (first | exact ⟨q0, q1⟩ | exact ⟨q0', q1'⟩ | (rw [hV1]; exact ⟨q0, q1⟩) | assumption) (go_simp)
            go_wp2
            refine ⟨⟨k + 1, by go_num, by omega, hE1⟩, by simp [intOf]; omega⟩
          · go_wp2_with fail
            go_quiet (fail)
            have hE1 : Hid (EnI w (recA m (l.take (k + 1))) (V.drewN nq)) := by
              rw [HR.out]
              unfold stepR
              rw [if_neg (fun hh => by obtain ⟨a1, a2, a3⟩ := hh; simp only at a1 a2 a3; omega)]
              exact ⟨hVE.out.1, below_dn hVE.out.2.1 nq, hVE.out.2.2⟩
            clear p0 p1 p2 p3 p4 hVE hV y0 y1 y2 HR
            go_wp2
            refine ⟨⟨k + 1, by go_num, by omega, hE1⟩, by simp [intOf]; omega⟩
        · have h2' : decide (m < u + 20) = false := by simpa using h2
          go_wp2_with fail
          go_quiet (fail)
          have hE1 : Hid (EnI w (recA m (l.take (k + 1))) (V.drewN nq)) := by
            rw [HR.out]
            unfold stepR
            rw [if_neg (fun hh => by obtain ⟨a1, a2, a3⟩ := hh; simp only at a1 a2 a3; omega)]
            exact ⟨hVE.out.1, below_dn hVE.out.2.1 nq, hVE.out.2.2⟩
          clear p0 p1 p2 p3 p4 hVE hV y0 y1 y2 HR
          go_wp2
          refine ⟨⟨k + 1, by go_num, by omega, hE1⟩, by simp [intOf]; omega⟩
      · have h1' : decide (u ≤ m) = false := by simpa using h1
        go_wp2_with fail
        go_quiet (fail)
        have hE1 : Hid (EnI w (recA m (l.take (k + 1))) (V.drewN nq)) := by
          rw [HR.out]
          unfold stepR
          rw [if_neg (fun hh => by obtain ⟨a1, a2, a3⟩ := hh; simp only at a1 a2 a3; omega)]
          exact ⟨hVE.out.1, below_dn hVE.out.2.1 nq, hVE.out.2.2⟩
        clear p0 p1 p2 p3 p4 hVE hV y0 y1 y2 HR
        go_wp2
        refine ⟨⟨k + 1, by go_num, by omega, hE1⟩, by simp [intOf]; omega⟩
    · obtain rfl : k = l.length := by omega
      rw [List.take_length] at hst
      clear hS0 HL HZ
      obtain ⟨A0, hA0⟩ : ∃ A0, recA m l = A0 := ⟨_, rfl⟩
      have HA0 : Hid (recA m l = A0) := hA0
      rw [hA0] at hst
      clear hA0
      go_wp2_with fail
      go_loopw [9] (fun vi wr => ∃ k : Nat, vi = .int .i64 k ∧ k ≤ 6 ∧ Hid (EnI w (allA k A0) wr)) (fun vi _ => 6 - (intOf vi).toNat)
      case atStart => exact ⟨0, rfl, by omega, hst⟩
      case round =>
        clear hst
        obtain ⟨k, rfl, hk, hst⟩ := hrel
        by_cases hlt : k < 6
        · have i1 : (k : Int) < 6 := by omega
          go_wp2_with fail
          go_loopw [10] (fun vi wr => ∃ i : Nat, vi = .int .i64 i ∧ i ≤ 6 ∧ Hid (EnI w (rowsA k (allA k A0) i 0) wr)) (fun vi _ => 6 - (intOf vi).toNat)
          case atStart => exact ⟨0, rfl, by omega, hst⟩
          case round =>
            clear hst
            obtain ⟨i, rfl, hi, hst⟩ := hrel
            by_cases hli : i < 6
            · have i2 : (i : Int) < 6 := by omega
              go_wp2_with fail
              go_loopw [11] (fun vi wr => ∃ j : Nat, vi = .int .i64 j ∧ j ≤ 6 ∧ Hid (EnI w (rowsA k (allA k A0) i j) wr)) (fun vi _ => 6 - (intOf vi).toNat)
              case atStart => exact ⟨0, rfl, by omega, hst⟩
              case round =>
                clear hst
                obtain ⟨j, rfl, hj, hst⟩ := hrel
                by_cases hlj : j < 6
                · have i3 : (j : Int) < 6 := by omega
                  have hrow : Hid (rowsA k (allA k A0) i (j + 1) = stepA k (rowsA k (allA k A0) i j) (i, j)) := rowsA_succ _ _ _ _
                  generalize rowsA k (allA k A0) i j = A at *
                  have p1 : wr.cell? ⟨w.heap.size, i * 6 + k, none⟩ = some (.int .i64 (A i k)) := en_cell hst.out.1 hli hlt
                  have p2 : wr.cell? ⟨w.heap.size, k * 6 + j, none⟩ = some (.int .i64 (A k j)) := en_cell hst.out.1 hlt hlj
                  go_wp2_with fail
                  go_quiet (fail)
                  obtain ⟨V1, hV1⟩ : ∃ V1, wr.drewN nq = V1 := ⟨_, rfl⟩
                  have hE1 : Hid (EnI w A V1) := by rw [← hV1]; exact ⟨hst.out.1, below_dn hst.out.2.1 nq, hst.out.2.2⟩
                  have q3 : V1.cell? ⟨w.heap.size, i * 6 + j, none⟩ = some (.int .i64 (A i j)) := en_cell hE1.out.1 hli hlj
                  have q4 : V1.frozen? ⟨w.heap.size, i * 6 + j, none⟩ = false := by have := hE1.out.1; unfold EnAt at this; simp [World.frozen?, this]
                  clear p1 p2 hst
                  have hE2 : Hid (EnI w (stepA k A (i, j)) (V1.setCell ⟨w.heap.size, i * 6 + j, none⟩ (.int .i64 (max (A i j) (min (A i k) (A k j))))).drew) := ⟨en_set hE1.out.1 hli hlj _, (hE1.out.2.1.setCell (Nat.le_refl _) _).drew, by show _ < (World.setCell _ _ _).heap.size; simp; exact hE1.out.2.2⟩
                  go_wp2_with fail
                  go_region_with (fail)
                  go_wp2
                  refine ⟨⟨j + 1, by go_num, by omega, by rw [hrow.out]; exact hE2⟩, by simp [intOf]; omega⟩
                · obtain rfl : j = 6 := by omega
                  rw [← rowsA_next] at hst
                  go_wp2
                  refine ⟨⟨i + 1, by go_num, by omega, hst⟩, by simp [intOf]; omega⟩
            · obtain rfl : i = 6 := by omega
              rw [rowsA_end, ← allA_succ] at hst
              go_wp2
              refine ⟨⟨k + 1, by go_num, by omega, hst⟩, by simp [intOf]; omega⟩
        · obtain rfl : k = 6 := by omega
          go_wp2
          go_ret
          refine ⟨rfl, ?_⟩
          rw [HA0.out]
          exact hst.out

end Go.Proofs.YtjajnhemgphefaaGreatDoor

namespace Go.Proofs.YtjajnhemgphefaaGreatDoor
open Go.RowKit Go.Shelf
set_option linter.unusedVariables false
set_option linter.unusedSimpArgs false

theorem isVariable_any (t : Tm) (w : World) :
    Calls Tryz.prog 139 #[.agg #[.string t.name, .int .i64 t.num]] w fun e w' => e = .returned (.bool t.name.toList.isEmpty) ∧ Below w.heap.size w w' := by
  go_enter Tryz.func139, Tryz.ntmps139
  go_wp2
  go_ret
  exact ⟨rfl, (Below.refl _ w).alloc (Nat.le_refl _) _⟩

theorem owns_form0 {W : World} {b e size n : Nat} {v : Value} {xs : List Value} (h : W.ownsRow b e size v n xs) : ∃ a c, v = .slice a n c := by
  obtain ⟨_, ⟨hv, hn⟩ | ⟨g, cap, cur, hv, _⟩⟩ := h
  · exact ⟨none, 0, by rw [hv, hn]⟩
  · exact ⟨_, _, hv⟩

/-- The library's index, as the document counts. -/
theorem idx_seen (vs : List ByteArray) (x : ByteArray) : (Lib.idxOfS vs x < 0 ∧ seenN vs x = vs.length) ∨ (Lib.idxOfS vs x = (seenN vs x : Int) ∧ seenN vs x < vs.length) := by
  have key : ∀ (vs : List ByteArray) (i : Nat), (Lib.idxFromS vs x i < 0 ∧ seenN vs x = vs.length) ∨ (Lib.idxFromS vs x i = ((i + seenN vs x : Nat) : Int) ∧ seenN vs x < vs.length) := by
    intro vs
    induction vs with
    | nil => intro i; left; simp [Lib.idxFromS, seenN]
    | cons y vs ih =>
      intro i
      by_cases hy : y = x
      · right
        subst hy
        have h1 : sameB y y = true := by unfold sameB; simp
        simp [Lib.idxFromS, seenN, List.findIdx_cons, h1]
      · have h1 : sameB x y = false := by
          cases h : sameB x y with
          | false => rfl
          | true => exact absurd ((sameB_iff x y).1 h).symm hy
        rcases ih (i + 1) with ⟨h2, h3⟩ | ⟨h2, h3⟩
        · left
          refine ⟨by simp only [Lib.idxFromS, if_neg hy]; exact h2, ?_⟩
          unfold seenN at h3 ⊢
          simp [List.findIdx_cons, h1, h3]
        · right
          refine ⟨?_, ?_⟩
          · simp only [Lib.idxFromS, if_neg hy]; rw [h2]
            unfold seenN
            simp [List.findIdx_cons, h1]; omega
          · unfold seenN at h3 ⊢
            rw [List.findIdx_cons, h1]; simp only [cond_false, List.length_cons]; omega
  rcases key vs 0 with h | ⟨h1, h2⟩
  · left; exact h
  · right; exact ⟨by unfold Lib.idxOfS; rw [h1]; simp, h2⟩

set_option maxHeartbeats 2000000 in
theorem term_name (bp : Nat) (t : ByteArray) (p r : Int) (ht : t.size ≤ 1000000) (w : World) :
    Calls Tryz.prog 261 #[.pointer (some ⟨bp, 0, none⟩), tokV 1 t p r] w fun e w' => e = .returned (.agg #[.string t, .int .i64 0]) ∧ Below w.heap.size w w' := by
  have hcl : Hid (∀ W, Calls Tryz.prog 97 #[.string t] W fun e w' => e = .returned (.string t) ∧ Below W.heap.size W w') := fun W => clone_any t W ht
  unfold tokV tokC
  obtain ⟨W0, hW0⟩ : ∃ W0, (w.alloc (.cells #[.int .i64 1, .string t, .int .i64 p, .int .i64 r] 191)).alloc (.cells #[.string ⟨#[]⟩, .int .i64 0] 166) = W0 := ⟨_, rfl⟩
  have hb0 : Below w.heap.size w W0 := by rw [← hW0]; exact ((Below.refl _ w).alloc (Nat.le_refl _) _).alloc (by simp) _
  have hbx : W0.heap[w.heap.size + 1]? = some (Obj.cells #[.string ⟨#[]⟩, .int .i64 0] 166 (0, 0)) := by
    rw [← hW0]
    have := World.alloc_heap_new (w.alloc (.cells #[.int .i64 1, .string t, .int .i64 p, .int .i64 r] 191)) (.cells #[.string ⟨#[]⟩, .int .i64 0] 166)
    rw [World.size_alloc] at this; exact this
  have hS : Hid (∀ W1, Below W0.heap.size W0 W1 → W1.heap[w.heap.size + 1]? = some (Obj.cells #[.string ⟨#[]⟩, .int .i64 0] 166 (0, 0)) ∧ Below w.heap.size w W1) := fun W1 h1 =>
    ⟨(h1.block _ (Array.getElem?_eq_some_iff.1 hbx).1).trans hbx, hb0.trans (h1.mono hb0.size)⟩
  have z0 : W0.cell? ⟨w.heap.size, 0, none⟩ = some (.int .i64 1) := by rw [← hW0]; simp
  have z1 : W0.cell? ⟨w.heap.size, 1, none⟩ = some (.string t) := by rw [← hW0]; simp
  go_enter Tryz.func261, Tryz.ntmps261
  go_wp2_with (go_at_call 97; refine (hcl.out _).mono ?_; rintro e W1 ⟨rfl, hbW⟩; obtain ⟨kx, kb⟩ := hS.out W1 hbW; have k0 : W1.cell? ⟨w.heap.size + 1, 0, none⟩ = some (.string ⟨#[]⟩) := (by simp [World.cell?, kx]); have k1 : W1.cell? ⟨w.heap.size + 1, 1, none⟩ = some (.int .i64 0) := (by simp [World.cell?, kx]); have f0 : W1.frozen? ⟨w.heap.size + 1, 0, none⟩ = false := (by simp [World.frozen?, kx]); have f1 : W1.frozen? ⟨w.heap.size + 1, 1, none⟩ = false := (by simp [World.frozen?, kx]))
  (try simp only [Exit.inBlock, Exit.then])
  refine bodyPost_ret (v := .agg #[.string t, .int .i64 0]) (by simp [results, Tryz.results261, go_sem, k0, k1]) rfl ?_
  exact ⟨rfl, (kb.setCell (p := ⟨w.heap.size + 1, 0, none⟩) (by simp) _).setCell (p := ⟨w.heap.size + 1, 1, none⟩) (by simp) _⟩

set_option maxRecDepth 100000 in
set_option maxHeartbeats 4000000 in
theorem term_var (bp : Nat) (st : Int) (vr va vv : Value) (vs : List ByteArray) (bS : Nat) (k : Int) (t : ByteArray) (p r : Int) (hk : k ≠ 1) (hl : vs.length ≤ 100) (w : World) (hbS : bS ≤ w.heap.size)
    (hh : w.heap[bp]? = some (Obj.cells #[.int .i64 st, vr, va, vv] 179 (0, 0))) (hV : w.ownsRow bS 9 1 vv vs.length (vs.map Value.string)) :
    Calls Tryz.prog 261 #[.pointer (some ⟨bp, 0, none⟩), tokV k t p r] w fun e w' => e = .returned (.agg #[.string ⟨#[]⟩, .int .i64 (seenN vs t)]) ∧
      ∃ vv', w'.heap[bp]? = some (Obj.cells #[.int .i64 st, vr, va, vv'] 179 (0, 0)) ∧ w'.ownsRow bS 9 1 vv' (seenL vs t).length ((seenL vs t).map Value.string) ∧ Chg w w' (fun j => j = bp ∨ some j = vv.ownBlock) := by
  have hbp : bp < w.heap.size := (Array.getElem?_eq_some_iff.1 hh).1
  have hk' : (k == 1) = false := by simp [hk]
  obtain ⟨a, c, rfl⟩ := owns_form0 hV
  have hbne : ∀ g, (Value.slice a vs.length c).ownBlock = some g → g ≠ bp := owns_ne hV hh (by decide)
  obtain ⟨i0, hi, hz0, hz1, hz2⟩ := info_parts Tryz.info9
  unfold tokV tokC
  obtain ⟨W0, hW0⟩ : ∃ W0, (w.alloc (.cells #[.int .i64 k, .string t, .int .i64 p, .int .i64 r] 191)).alloc (.cells #[.string ⟨#[]⟩, .int .i64 0] 166) = W0 := ⟨_, rfl⟩
  have hb0 : Below w.heap.size w W0 := by rw [← hW0]; exact ((Below.refl _ w).alloc (Nat.le_refl _) _).alloc (by simp) _
  have hs0 : W0.heap.size = w.heap.size + 2 := by rw [← hW0]; simp
  have hbx : W0.heap[w.heap.size + 1]? = some (Obj.cells #[.string ⟨#[]⟩, .int .i64 0] 166 (0, 0)) := by
    rw [← hW0]
    have := World.alloc_heap_new (w.alloc (.cells #[.int .i64 k, .string t, .int .i64 p, .int .i64 r] 191)) (.cells #[.string ⟨#[]⟩, .int .i64 0] 166)
    rw [World.size_alloc] at this; exact this
  have z0 : W0.cell? ⟨w.heap.size, 0, none⟩ = some (.int .i64 k) := by rw [← hW0]; simp
  have z1 : W0.cell? ⟨w.heap.size, 1, none⟩ = some (.string t) := by rw [← hW0]; simp
  have h30 : w.cell? ⟨bp, 3, none⟩ = some (.slice a vs.length c) := by simp [World.cell?, hh]
  have h3 : W0.cell? ⟨bp, 3, none⟩ = some (.slice a vs.length c) := (hb0.cell (p := ⟨bp, 3, none⟩) hbp).trans h30
  have r0 : W0.cell? ⟨w.heap.size + 1, 0, none⟩ = some (.string ⟨#[]⟩) := by simp [World.cell?, hbx]
  have r1 : W0.cell? ⟨w.heap.size + 1, 1, none⟩ = some (.int .i64 0) := by simp [World.cell?, hbx]
  have f0 : W0.frozen? ⟨w.heap.size + 1, 0, none⟩ = false := by simp [World.frozen?, hbx]
  have f1 : W0.frozen? ⟨w.heap.size + 1, 1, none⟩ = false := by simp [World.frozen?, hbx]
  have hVd : W0.drew.ownsRow bS 9 1 (.slice a vs.length c) vs.length (vs.map Value.string) := own_below hV (hb0.drew)
  have hidx : Hid (Calls Tryz.prog 191 #[.slice a vs.length c, .string t] W0.drew fun e w' => e = .returned (.int .i64 (Lib.idxOfS vs t)) ∧ w' = W0.drew) := index_own hVd (by omega) t
  have hbpd : W0.heap[bp]? = some (Obj.cells #[.int .i64 st, vr, va, .slice a vs.length c] 179 (0, 0)) := (hb0.block bp hbp).trans hh
  rcases idx_seen vs t with ⟨hneg, hsn⟩ | ⟨hpos, hsn⟩
  · have hseen : Hid (seenL vs t = vs ++ [t]) := by show _ = _; unfold seenL; rw [if_neg (by omega)]
    have hfin : Hid (seenN vs t = vs.length) := hsn
    generalize hix : Lib.idxOfS vs t = ix at *
    have hlt : (ix : Int) < 0 := hneg
    have hA : Hid ((W0.alloc (.cells #[.string t] 9)).drew.drew.ownsRow bS 9 1 (.slice a vs.length c) vs.length (vs.map Value.string)) := own_below hV ((hb0.alloc (by omega) _).drew).drew
    have hN : Hid (∀ j u, [Value.string t][j]? = some u → (W0.alloc (.cells #[.string t] 9)).drew.drew.cell? ((⟨W0.heap.size, 0, none⟩ : Addr).add j) = some u) := fun j u hj => cell_one_new W0 _ _ j u hj
    have hG : Hid (∀ w1, (W0.alloc (.cells #[.string t] 9)).drew.drew.grownBy w1 (Value.slice a vs.length c).ownBlock →
        w1.heap[bp]? = some (Obj.cells #[.int .i64 st, vr, va, .slice a vs.length c] 179 (0, 0)) ∧ w1.heap[w.heap.size + 1]? = some (Obj.cells #[.string ⟨#[]⟩, .int .i64 0] 166 (0, 0)) ∧ Chg w w1 (fun j => j = bp ∨ some j = (Value.slice a vs.length c).ownBlock)) := by
      intro w1 hg
      have hc0 : Chg W0 w1 (fun j => some j = (Value.slice a vs.length c).ownBlock) := ((((Chg.refl W0 _).alloc _).drew).drew).grown hg (fun k e _ => e.symm)
      have hc : Chg w w1 (fun j => some j = (Value.slice a vs.length c).ownBlock) := (Chg.ofBelow _ hb0).trans hc0
      refine ⟨(hc.block bp hbp (fun e => hbne bp e.symm rfl)).trans hh, (hc0.block _ (Array.getElem?_eq_some_iff.1 hbx).1 (fun e => ?_)).trans hbx, hc.mono (fun _ _ e => .inr e)⟩
      obtain ⟨_, hlt2, _⟩ := own_str hV _ e.symm
      omega
    have hb1 : vs.length + 1 ≤ maxLen := by unfold maxLen; omega
    have hb2 : (vs.length + 1) * 16 ≤ 140737488355328 := by omega
    have HB3 : Hid (bS ≤ (W0.alloc (.cells #[.string t] 9)).drew.drew.heap.size) := by
      show bS ≤ (W0.alloc (.cells #[.string t] 9)).heap.size
      simp; omega
    have h3a : ∀ O, (W0.alloc O).cell? ⟨bp, 3, none⟩ = some (.slice a vs.length c) := fun O => cell_later ((Below.refl W0.heap.size W0).alloc (Nat.le_refl _) O) h3
    have n1 : w.heap.size + 1 ≠ W0.heap.size := by omega
    have n2 : bp ≠ W0.heap.size := by omega
    have n3 : w.heap.size ≠ W0.heap.size := by omega
    have n4 : w.heap.size + 1 ≠ bp := by omega
    have n5 : bp ≠ w.heap.size + 1 := by omega
    clear hh hb0 hs0 hV hVd hbx h30 hneg hsn hix hbpd
    go_enter Tryz.func261, Tryz.ntmps261
    go_wp2
    go_region_with (go_at_call 191; refine Calls.mono hidx.out ?_; rintro e w' ⟨rfl, rfl⟩)
    all_goals
      go_wp2
      go_region_law (refine step_append_own rfl (.tmp 31) (.tmp 34) 22 rfl bS 9 i0 (.string ⟨#[]⟩) 1 16 Tryz.underlying22 hi hz0 hz1 hz2 rfl (by decide) (.slice a vs.length c) vs.length (vs.map Value.string) (by simp [Act.eval, Act.put]) hA.out ⟨W0.heap.size, 0, none⟩ 1 1 [.string t] (by simp [Act.eval, Act.put]) rfl hN.out (by simp [Value.oneCell']) hb1 hb2 HB3.out ?_; intro v' w1 hown1 hgrow1; obtain ⟨g', cap', hv'⟩ := ownsRow_succ hown1; subst hv'; obtain ⟨hhw, hxw, hch⟩ := hG.out w1 hgrow1; have d3 : w1.cell? ⟨bp, 3, none⟩ = some (.slice a vs.length c) := (by simp [World.cell?, hhw]); have e3 : w1.frozen? ⟨bp, 3, none⟩ = false := (by simp [World.frozen?, hhw]); have q0 : w1.cell? ⟨w.heap.size + 1, 0, none⟩ = some (.string ⟨#[]⟩) := (by simp [World.cell?, hxw]); have q1 : w1.cell? ⟨w.heap.size + 1, 1, none⟩ = some (.int .i64 0) := (by simp [World.cell?, hxw]); have q2 : w1.frozen? ⟨w.heap.size + 1, 0, none⟩ = false := (by simp [World.frozen?, hxw]); have q3 : w1.frozen? ⟨w.heap.size + 1, 1, none⟩ = false := (by simp [World.frozen?, hxw]))
      all_goals
        go_wp2
        (try simp only [Exit.inBlock, Exit.then])
        refine bodyPost_ret (v := .agg #[.string ⟨#[]⟩, .int .i64 vs.length]) (by simp [results, Tryz.results261, go_sem, q0, q1, n4, n5]) rfl ?_
        rw [hfin.out, hseen.out]
        refine ⟨rfl, .slice (some ⟨g', 0, none⟩) (vs.length + 1) cap', ?_, ?_, ?_⟩
        · exact (Below.heap_setCell _ _ _ _ n5).trans ((Below.heap_setCell _ _ _ _ n5).trans (heap_set hhw 3 _))
        · have := owns_set (owns_set (owns_set hown1 ⟨bp, 3, none⟩ (.slice (some ⟨g', 0, none⟩) (vs.length + 1) cap') (owns_ne hown1 hhw (by decide))) ⟨w.heap.size + 1, 0, none⟩ (.string ⟨#[]⟩) (owns_ne hown1 hxw (by decide))) ⟨w.heap.size + 1, 1, none⟩ (.int .i64 vs.length) (owns_ne hown1 hxw (by decide))
          simpa using this
        · exact ((hch.setCell ⟨bp, 3, none⟩ _ (fun _ => .inl rfl)).setCell ⟨w.heap.size + 1, 0, none⟩ _ (fun h => absurd h (by simp))).setCell ⟨w.heap.size + 1, 1, none⟩ _ (fun h => absurd h (by simp))
  · have hseen : Hid (seenL vs t = vs) := by show _ = _; unfold seenL; rw [if_pos hsn]
    rw [hpos] at hidx
    generalize seenN vs t = sn at *
    have n5 : bp ≠ w.heap.size + 1 := by omega
    have hbE : Below w.heap.size w ((W0.drew.setCell ⟨w.heap.size + 1, 0, none⟩ (.string ⟨#[]⟩)).setCell ⟨w.heap.size + 1, 1, none⟩ (.int .i64 sn)) := (hb0.drew.setCell (p := ⟨w.heap.size + 1, 0, none⟩) (by simp) _).setCell (p := ⟨w.heap.size + 1, 1, none⟩) (by simp) _
    have HOW : Hid (((W0.drew.setCell ⟨w.heap.size + 1, 0, none⟩ (.string ⟨#[]⟩)).setCell ⟨w.heap.size + 1, 1, none⟩ (.int .i64 sn)).ownsRow bS 9 1 (.slice a vs.length c) vs.length (vs.map Value.string)) := own_below hV hbE
    have HCH : Hid (Chg w ((W0.drew.setCell ⟨w.heap.size + 1, 0, none⟩ (.string ⟨#[]⟩)).setCell ⟨w.heap.size + 1, 1, none⟩ (.int .i64 sn)) (fun j => j = bp ∨ some j = (Value.slice a vs.length c).ownBlock)) := Chg.ofBelow _ hbE
    clear hbE
    clear hh hb0 hs0 hV hVd hbx h30 hpos
    go_enter Tryz.func261, Tryz.ntmps261
    go_wp2
    go_region_with (go_at_call 191; refine Calls.mono hidx.out ?_; rintro e w' ⟨rfl, rfl⟩)
    all_goals
      go_wp2
      (try simp only [Exit.inBlock, Exit.then])
      refine bodyPost_ret (v := .agg #[.string ⟨#[]⟩, .int .i64 sn]) (by simp [results, Tryz.results261, go_sem, r0, r1]) rfl ?_
      rw [hseen.out]
      refine ⟨rfl, .slice a vs.length c, ?_, ?_, ?_⟩
      · exact (Below.heap_setCell _ _ _ _ n5).trans ((Below.heap_setCell _ _ _ _ n5).trans hbpd)
      · exact HOW.out
      · exact HCH.out

theorem fin_term {w w3 : World} {bp g n b45 b87 bS k kv c : Nat} {vr v' vv : Value} {cur : Array Value} {ys zs us : List Value} {rel y : Value} {ex : Nat → Prop} (hn : 1 ≤ n)
    (hh : w3.heap[bp]? = some (Obj.cells #[.int .i64 3, vr, .slice (some ⟨g, 0, none⟩) n c, vv] 179 (0, 0))) (hg : w3.heap[g]? = some (Obj.cells cur 92 (0, 0)))
    (hoA : w3.ownsRow b45 92 2 (.slice (some ⟨g, 0, none⟩) n c) n (ys ++ [rel, y])) (hoT : w3.ownsRow b87 166 2 v' k zs) (hoV : w3.ownsRow bS 9 1 vv kv us)
    (hc : Chg w w3 (fun j => j = bp ∨ some j = (Value.slice (some ⟨g, 0, none⟩) n c).ownBlock ∨ ex j)) :
    ((w3.setCell ⟨g, (n - 1) * 2 + 1, none⟩ v').setCell ⟨bp, 0, none⟩ (.int .i64 4)).heap[bp]? = some (Obj.cells #[.int .i64 4, vr, .slice (some ⟨g, 0, none⟩) n c, vv] 179 (0, 0)) ∧
    ((w3.setCell ⟨g, (n - 1) * 2 + 1, none⟩ v').setCell ⟨bp, 0, none⟩ (.int .i64 4)).ownsRow b45 92 2 (.slice (some ⟨g, 0, none⟩) n c) n (ys ++ [rel, v']) ∧
    ((w3.setCell ⟨g, (n - 1) * 2 + 1, none⟩ v').setCell ⟨bp, 0, none⟩ (.int .i64 4)).ownsRow b87 166 2 v' k zs ∧
    ((w3.setCell ⟨g, (n - 1) * 2 + 1, none⟩ v').setCell ⟨bp, 0, none⟩ (.int .i64 4)).ownsRow bS 9 1 vv kv us ∧
    Chg w ((w3.setCell ⟨g, (n - 1) * 2 + 1, none⟩ v').setCell ⟨bp, 0, none⟩ (.int .i64 4)) (fun j => j = bp ∨ some j = (Value.slice (some ⟨g, 0, none⟩) n c).ownBlock ∨ ex j) := by
  have hne : g ≠ bp := owns_ne hoA hh (by decide) g rfl
  refine ⟨heap_set ((Below.heap_setCell _ _ _ bp (fun e => hne e.symm)).trans hh) 0 _, ?_, ?_, ?_, (hc.setCell ⟨g, (n - 1) * 2 + 1, none⟩ v' (fun _ => .inr (.inl rfl))).setCell ⟨bp, 0, none⟩ _ (fun _ => .inl rfl)⟩
  · exact owns_set (row_set_last hoA hn rfl) _ _ (fun g' hg' => by simp [Value.ownBlock] at hg'; subst hg'; exact hne)
  · exact owns_set (owns_set hoT _ _ (owns_ne hoT hg (by decide))) _ _ (owns_ne hoT hh (by decide))
  · exact owns_set (owns_set hoV _ _ (owns_ne hoV hg (by decide))) _ _ (owns_ne hoV hh (by decide))

/-- term, whatever the word. -/
theorem term_any (bp : Nat) (st : Int) (vr va vv : Value) (vs : List ByteArray) (bS : Nat) (k : Int) (t : ByteArray) (p r : Int) (hk : k = 1 ∨ k = 2) (ht : t.size ≤ 1000000) (hl : vs.length ≤ 100) (w : World) (hbS : bS ≤ w.heap.size)
    (hh : w.heap[bp]? = some (Obj.cells #[.int .i64 st, vr, va, vv] 179 (0, 0))) (hV : w.ownsRow bS 9 1 vv vs.length (vs.map Value.string)) :
    Calls Tryz.prog 261 #[.pointer (some ⟨bp, 0, none⟩), tokV k t p r] w fun e w' => e = .returned (.agg #[.string (termT vs k t).name, .int .i64 (termT vs k t).num]) ∧
      ∃ vv', w'.heap[bp]? = some (Obj.cells #[.int .i64 st, vr, va, vv'] 179 (0, 0)) ∧ w'.ownsRow bS 9 1 vv' (termVs vs k t).length ((termVs vs k t).map Value.string) ∧ Chg w w' (fun j => j = bp ∨ some j = vv.ownBlock) := by
  rcases hk with rfl | rfl
  · refine (term_name bp t p r ht w).mono ?_
    rintro e w' ⟨rfl, hb⟩
    exact ⟨rfl, vv, (hb.block bp (Array.getElem?_eq_some_iff.1 hh).1).trans hh, own_below hV hb, Chg.ofBelow _ hb⟩
  · exact term_var bp st vr va vv vs bS 2 t p r (by decide) hl w hbS hh hV

end Go.Proofs.YtjajnhemgphefaaGreatDoor
