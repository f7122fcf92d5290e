/-
  slices.DeleteFunc of facts with their times.
  The least model in plain data, for the statements: a relation that is another; what is told of a form.
  The engine in memory.
  What follows by the code's rules and what follows by the document's own answer is one.
-/
import Derived.Test.YtjajnhemgphefaaGreatDoorJEgI
import Derived.Test.YtjajnhemgphefaaGreatDoorJLea
import Derived.Test.YtjajnhemgphefaaGreatDoorJMoJ
import Derived.Test.YtjajnhemgphefaaGreatDoorJGr
import Derived.Test.YtjajnhemgphefaaGreatDoorJApI
import Derived.Test.YtjajnhemgphefaaGreatDoorJIdx
namespace Go.Proofs.YtjajnhemgphefaaGreatDoor
open Go.RowKit Go.Shelf Go.Maps
set_option linter.unusedVariables false
set_option linter.unusedSimpArgs false

/-- The closure answers p, whatever was done to the row and laid meanwhile. -/
def DelF (Bx : Nat) (p : Gd × Int → Bool) (ok : Gd × Int → Prop) (g : Nat) (w : World) : Prop :=
  ∀ W, Chg w W (fun k => k = g) → ∀ d, ok d → Calls Tryz.prog 86 #[.agg #[.string d.1.rel, .string d.1.x, .string d.1.y, .int .i64 d.2], .pointer (some ⟨Bx, 0, none⟩)] W fun e w' => e = .returned (.bool (p d)) ∧ Below W.heap.size W w'

def IdxP (p : Gd × Int → Bool) (l : List (Gd × Int)) (i : Int) : Prop := (i = -1 ∧ ∀ d ∈ l, p d = false) ∨ ∃ k : Nat, i = k ∧ ∃ hk : k < l.length, p l[k] = true ∧ ∀ j, (hj : j < l.length) → j < k → p l[j] = false

set_option maxHeartbeats 1000000 in
theorem idxD_any (v : Value) (l : List (Gd × Int)) (b g c Bx : Nat) (p : Gd × Int → Bool) (ok : Gd × Int → Prop) (w : World) (hv : v = .slice (some ⟨g, 0, none⟩) l.length c) (hS : w.ownsRow b 161 4 v l.length (l.flatMap lastC)) (hl : l.length ≤ 1000) (hok : ∀ d ∈ l, ok d) (hF : DelF Bx p ok g w) :
    Calls Tryz.prog 145 #[v, .func (.func 86) #[] #[.pointer (some ⟨Bx, 0, none⟩)]] w fun e w' => ∃ i : Int, e = .returned (.int .i64 i) ∧ IdxP p l i ∧ Below w.heap.size w w' := by
  have hcell : ∀ k (hk : k < l.length), w.cell? ⟨g, k * 4, none⟩ = some (.string (l[k]).1.rel) ∧ w.cell? ⟨g, k * 4 + 1, none⟩ = some (.string (l[k]).1.x) ∧ w.cell? ⟨g, k * 4 + 2, none⟩ = some (.string (l[k]).1.y) ∧ w.cell? ⟨g, k * 4 + 3, none⟩ = some (.int .i64 (l[k]).2) ∧ g < w.heap.size := by
    intro k hk
    obtain ⟨g', c', h1, h2⟩ := date_cell hS hk
    rw [hv] at h1; cases h1
    exact h2
  subst hv
  have HC : Hid _ := hcell
  have HF : Hid (DelF Bx p ok g w) := hF
  have HOK : Hid _ := hok
  clear hcell hS hF hok
  go_enter Tryz.func145, Tryz.ntmps145
  go_wp2
  go_loopw [8] (fun i wr => ∃ k : Nat, k ≤ l.length ∧ i = .int .i64 k ∧ Hid (∀ j, (hj : j < l.length) → j < k → p l[j] = false) ∧ Below w.heap.size w wr) (fun i _ => l.length - (intOf i).toNat)
  case atStart => exact ⟨0, Nat.zero_le _, rfl, fun j _ hj => by omega, Below.refl _ _⟩
  case round =>
    obtain ⟨k, hk, rfl, hno, hb⟩ := hrel
    by_cases hlt : k < l.length
    · obtain ⟨q0, q1, q2, q3, hg⟩ := HC.out k hlt
      have q0' := (hb.cell (p := ⟨g, k * 4, none⟩) hg).trans q0
      have q1' := (hb.cell (p := ⟨g, k * 4 + 1, none⟩) hg).trans q1
      have q2' := (hb.cell (p := ⟨g, k * 4 + 2, none⟩) hg).trans q2
      have q3' := (hb.cell (p := ⟨g, k * 4 + 3, none⟩) hg).trans q3
      have hcall := HF.out wr ⟨hb.os, hb.tape, hb.output, hb.size, fun k hk _ => hb.block k hk⟩ l[k] (HOK.out _ (List.getElem_mem hlt))
      have i1 : (k : Int) < (l.length : Int) := by omega
      generalize hbb : p l[k] = bb at *
      have HBB : Hid (p l[k] = bb) := hbb
      clear hbb q0 q1 q2 q3
      generalize htk : l[k] = tk at *
      have HTK : Hid (l[k] = tk) := htk
      clear htk
      cases bb with
      | true =>
        go_wp2_with fail
        refine hcall.mono ?_
        rintro e w1 ⟨rfl, hb1⟩
        go_wp2
        go_ret
        exact ⟨k, rfl, .inr ⟨k, rfl, hlt, by rw [HTK.out]; exact HBB.out, hno.out⟩, hb.trans (hb1.mono hb.size)⟩
      | false =>
        go_wp2_with fail
        refine hcall.mono ?_
        rintro e w1 ⟨rfl, hb1⟩
        go_wp2
        go_roundw
        case rel =>
          refine ⟨k + 1, by omega, by go_num, ?_, hb.trans (hb1.mono hb.size)⟩
          intro j hj hjk
          by_cases e : j = k
          · subst e; rw [HTK.out]; exact HBB.out
          · exact hno.out j hj (by omega)
        case measure => simp [intOf]; omega
    · go_wp2
      go_ret
      refine ⟨-1, rfl, .inl ⟨rfl, fun d hd => ?_⟩, hb⟩
      obtain ⟨j, hj, rfl⟩ := List.getElem_of_mem hd
      exact hno.out j hj (by omega)

theorem flat4 : ∀ (L : List (Gd × Int)) (q r : Nat), r < 4 → (L.flatMap lastC)[q * 4 + r]? = (L[q]?).bind (fun d => (lastC d)[r]?)
  | [], q, r, _ => by simp
  | d :: L, 0, r, hr => by
    rw [List.flatMap_cons, List.getElem?_append_left (by rw [lastC_len]; omega)]
    simp
  | d :: L, q + 1, r, hr => by
    rw [List.flatMap_cons, List.getElem?_append_right (by rw [lastC_len]; omega), lastC_len, show (q + 1) * 4 + r - 4 = q * 4 + r by omega, flat4 L q r hr]
    simp

/-- A fact is stored into its place in the row. -/
def putD (W : World) (g o : Nat) (d : Gd × Int) : World := (((W.setCell ⟨g, o, none⟩ (.string d.1.rel)).setCell ⟨g, o + 1, none⟩ (.string d.1.x)).setCell ⟨g, o + 2, none⟩ (.string d.1.y)).setCell ⟨g, o + 3, none⟩ (.int .i64 d.2)
theorem putD_cells (W : World) (g o : Nat) (d : Gd × Int) : putD W g o d = W.setCells g o (lastC d) := rfl

theorem own_putD {W : World} {b g c : Nat} {L : List (Gd × Int)} (h : W.ownsRow b 161 4 (.slice (some ⟨g, 0, none⟩) L.length c) L.length (L.flatMap lastC)) {i : Nat} (hi : i < L.length) (d : Gd × Int) :
    (putD W g (i * 4) d).ownsRow b 161 4 (.slice (some ⟨g, 0, none⟩) L.length c) L.length ((L.set i d).flatMap lastC) ∧ Chg W (putD W g (i * 4) d) (fun k => k = g) := by
  obtain ⟨h0, ⟨hv, _⟩ | ⟨g', c', cur, hv, h1, h2, h3, h4, h5, h6⟩⟩ := h
  · cases hv
  cases hv
  have hle : L.length * 4 ≤ c * 4 := Nat.mul_le_mul_right 4 h3
  have hi4 : i * 4 + 4 ≤ L.length * 4 := by omega
  obtain ⟨cur', k1, k2, k3, k4⟩ := setCells_heap (b := g) (lastC d) (i * 4) W cur h2 (by rw [lastC_len, h5]; omega)
  rw [putD_cells]
  refine ⟨⟨by rw [lastC_flat]; simp, .inr ⟨g, c, cur', rfl, h1, k1, h3, h4, k2.trans h5, ?_⟩⟩, setCells_chg _ _ _ (Chg.refl _ _)⟩
  refine List.ext_getElem? (fun m => ?_)
  obtain ⟨q, r, hr, rfl⟩ : ∃ q r, r < 4 ∧ m = q * 4 + r := ⟨m / 4, m % 4, Nat.mod_lt _ (by decide), by omega⟩
  rw [flat4 _ _ _ hr, List.getElem?_take]
  by_cases hq : q < L.length
  · rw [if_pos (by omega)]
    have hL : cur[q * 4 + r]? = (L[q]?).bind (fun d => (lastC d)[r]?) := by
      rw [← flat4 L q r hr, ← h6, List.getElem?_take, if_pos (by omega)]; simp
    by_cases hqi : q = i
    · subst hqi
      have := k3 r (by rw [lastC_len]; exact hr)
      simp only [Array.getElem?_toList]
      rw [this, List.getElem?_set_self hq]; rfl
    · have := k4 (q * 4 + r) (by rw [lastC_len]; omega)
      simp only [Array.getElem?_toList]
      rw [this, hL, List.getElem?_set_ne (by omega)]
  · rw [if_neg (by omega), List.getElem?_eq_none (by simp; omega)]; rfl

theorem zero_mem {z : Array Value} {n : Nat} {v : Value} (h : v ∈ (Builtin.zeroCells z n).toList) : v ∈ z.toList := by
  unfold Builtin.zeroCells at h
  rw [Array.mem_toList_iff, Array.mem_map] at h
  obtain ⟨i, hi, rfl⟩ := h
  rw [Array.mem_range] at hi
  have hz : 0 < z.size := by
    rcases Nat.eq_zero_or_pos z.size with e | e
    · rw [e] at hi; simp at hi
    · exact e
  have := Nat.mod_lt i hz
  rw [getElem!_pos z _ this, Array.mem_toList_iff]
  exact Array.getElem_mem _

theorem clear_dated (w : World) (b o m c : Nat) (hm : 0 < m) (hc : ∀ j, j < m * 4 → (w.cell? ⟨b, o + j, none⟩).isSome = true) (hf : ∀ j, j < m * 4 → w.frozen? ⟨b, o + j, none⟩ = false) :
    ∃ zs : List Value, zs.length = m * 4 ∧ (Builtin.clear_ #[96] 0 #[.slice (some ⟨b, o, none⟩) m c]).run Tryz.prog w = .ok (.tuple #[]) (w.setCells b o zs) := by
  have hzl : (Builtin.zeroCells (Value.agg #[.string ⟨#[]⟩, .string ⟨#[]⟩, .string ⟨#[]⟩, .int .i64 0]).cells m).toList.length = m * 4 := by
    rw [Array.length_toList, zero_size]; rfl
  have hst := run_storeCells_cells (P := Tryz.prog) b o (Builtin.zeroCells (Value.agg #[.string ⟨#[]⟩, .string ⟨#[]⟩, .string ⟨#[]⟩, .int .i64 0]).cells m).toList 0 w (by rw [hzl]; simpa using hc) (by rw [hzl]; simpa using hf) (by
    intro v hv
    have := zero_mem hv
    have h4 : (Value.agg #[.string ⟨#[]⟩, .string ⟨#[]⟩, .string ⟨#[]⟩, .int .i64 0]).cells.toList = [.string ⟨#[]⟩, .string ⟨#[]⟩, .string ⟨#[]⟩, .int .i64 0] := rfl
    rw [h4] at this
    simp only [List.mem_cons, List.not_mem_nil, or_false] at this
    rcases this with rfl | rfl | rfl | rfl <;> rfl)
  simp only [Nat.add_zero] at hst
  refine ⟨_, hzl, ?_⟩
  obtain ⟨m, rfl⟩ : ∃ m', m = m' + 1 := ⟨m - 1, by omega⟩
  simp [Builtin.clear_, run_underlying Tryz.underlying96, Tryz.zeroValue161 w, hst]

theorem own_cut {W : World} {b g c n i : Nat} {L : List (Gd × Int)} {zs : List Value} (h : W.ownsRow b 161 4 (.slice (some ⟨g, 0, none⟩) n c) n (L.flatMap lastC)) (hL : L.length = n) (hi : i ≤ n) (hz : zs.length = (n - i) * 4) :
    (W.setCells g (i * 4) zs).ownsRow b 161 4 (.slice (some ⟨g, 0, none⟩) i c) i ((L.take i).flatMap lastC) ∧ Chg W (W.setCells g (i * 4) zs) (fun k => k = g) := by
  obtain ⟨h0, ⟨hv, _⟩ | ⟨g', c', cur, hv, h1, h2, h3, h4, h5, h6⟩⟩ := h
  · cases hv
  cases hv
  have hle : n * 4 ≤ c * 4 := Nat.mul_le_mul_right 4 h3
  have hle2 : i * 4 + (n - i) * 4 = n * 4 := by rw [← Nat.add_mul]; congr 1; omega
  obtain ⟨cur', k1, k2, k3, k4⟩ := setCells_heap (b := g) zs (i * 4) W cur h2 (by rw [hz, h5]; omega)
  refine ⟨⟨by rw [lastC_flat, List.length_take]; congr 1; omega, .inr ⟨g, c, cur', rfl, h1, k1, by omega, h4, k2.trans h5, ?_⟩⟩, setCells_chg _ _ _ (Chg.refl _ _)⟩
  refine List.ext_getElem? (fun m => ?_)
  obtain ⟨q, r, hr, rfl⟩ : ∃ q r, r < 4 ∧ m = q * 4 + r := ⟨m / 4, m % 4, Nat.mod_lt _ (by decide), by omega⟩
  rw [flat4 _ _ _ hr, List.getElem?_take]
  by_cases hq : q < i
  · rw [if_pos (by omega)]
    have hLq : cur[q * 4 + r]? = (L[q]?).bind (fun d => (lastC d)[r]?) := by
      rw [← flat4 L q r hr, ← h6, List.getElem?_take, if_pos (by omega)]; simp
    have := k4 (q * 4 + r) (.inl (by omega))
    simp only [Array.getElem?_toList]
    rw [this, hLq, List.getElem?_take, if_pos hq]
  · rw [if_neg (by omega), List.getElem?_eq_none (by simp; omega)]; rfl

theorem filter_step {p : Gd × Int → Bool} {l L : List (Gd × Int)} {i j : Nat} (hj : j < l.length) (h1 : L.take i = (l.take j).filter (fun d => !p d)) (h2 : L.drop j = l.drop j) (hLl : L.length = l.length) (hij : i ≤ j) :
    (p l[j] = true → L.take i = (l.take (j + 1)).filter (fun d => !p d) ∧ L.drop (j + 1) = l.drop (j + 1)) ∧
    (p l[j] = false → (L.set i l[j]).take (i + 1) = (l.take (j + 1)).filter (fun d => !p d) ∧ (L.set i l[j]).drop (j + 1) = l.drop (j + 1)) := by
  have hd : L.drop (j + 1) = l.drop (j + 1) := by
    have := congrArg (List.drop 1) h2
    rw [List.drop_drop, List.drop_drop] at this
    first | exact this | (rw [Nat.add_comm] at this; exact this)
  have ht : (l.take (j + 1)).filter (fun d => !p d) = (l.take j).filter (fun d => !p d) ++ (if p l[j] then [] else [l[j]]) := by
    rw [List.take_succ_eq_append_getElem hj, List.filter_append]
    congr 1
    cases hp : p l[j] <;> simp [hp]
  refine ⟨fun hp => ⟨by rw [ht, hp, h1]; simp, hd⟩, fun hp => ⟨?_, ?_⟩⟩
  · rw [ht, hp, ← h1]
    have hiL : i < (L.set i l[j]).length := by simp; omega
    rw [List.take_succ_eq_append_getElem hiL, List.getElem_set_self]
    simp only [Bool.false_eq_true, if_false]
    congr 1
    rw [List.take_set_of_le (Nat.le_refl i)]
  · rw [List.drop_set_of_lt (by omega)]
    exact hd

set_option maxRecDepth 100000 in
set_option maxHeartbeats 4000000 in
theorem deleteD_any (v : Value) (l : List (Gd × Int)) (b g c Bx : Nat) (p : Gd × Int → Bool) (ok : Gd × Int → Prop) (w : World) (hv : v = .slice (some ⟨g, 0, none⟩) l.length c) (hS : w.ownsRow b 161 4 v l.length (l.flatMap lastC)) (hl : l.length ≤ 1000) (hok : ∀ d ∈ l, ok d) (hF : DelF Bx p ok g w) :
    Calls Tryz.prog 85 #[v, .func (.func 86) #[] #[.pointer (some ⟨Bx, 0, none⟩)]] w fun e w' => e = .returned (.slice (some ⟨g, 0, none⟩) (l.filter (fun d => !p d)).length c) ∧ w'.ownsRow b 161 4 (.slice (some ⟨g, 0, none⟩) (l.filter (fun d => !p d)).length c) (l.filter (fun d => !p d)).length ((l.filter (fun d => !p d)).flatMap lastC) ∧ Chg w w' (fun k => k = g) := by
  have hI := idxD_any v l b g c Bx p ok w hv hS hl hok hF
  subst hv
  have HI : Hid _ := hI
  have HF : Hid (DelF Bx p ok g w) := hF
  have HOK : Hid _ := hok
  have HS : Hid _ := hS
  clear hI hF hok hS
  go_enter Tryz.func85, Tryz.ntmps85
  go_wp2_with fail
  refine Calls.mono HI.out ?_
  rintro e w1 ⟨i, rfl, ⟨rfl, hno⟩ | ⟨k, rfl, hk, hpk, hno⟩, hb1⟩
  · have hfil : Hid (l.filter (fun d => !p d) = l) := by
      show _ = _
      rw [List.filter_eq_self]
      intro d hd; rw [hno d hd]; rfl
    clear hno
    go_wp2
    go_ret
    rw [hfil.out]
    exact ⟨rfl, own_below HS.out hb1, ⟨hb1.os, hb1.tape, hb1.output, hb1.size, fun k hk _ => hb1.block k hk⟩⟩
  · have hk1 : ((k : Int) == -1) = false := by simp
    have hk2 : ¬ (k : Int) = -1 := by omega
    have hstart : Hid (l.take k = (l.take (k + 1)).filter (fun d => !p d)) := by
      show _ = _
      rw [List.take_succ_eq_append_getElem hk, List.filter_append]
      have h1 : (l.take k).filter (fun d => !p d) = l.take k := by
        rw [List.filter_eq_self]
        intro d hd
        obtain ⟨j, hj, rfl⟩ := List.getElem_of_mem hd
        rw [List.getElem_take, hno j (by simp at hj; omega) (by simp at hj; omega)]; rfl
      rw [h1]; simp [hpk]
    have HK : Hid _ := hk
    clear hno hpk
    go_wp2
    go_loopw [5, 6] (fun vi vj wr => ∃ (i j : Nat) (L : List (Gd × Int)), vi = .int .i64 i ∧ vj = .int .i64 j ∧ i < j ∧ j ≤ l.length ∧ Hid (L.length = l.length ∧ L.take i = (l.take j).filter (fun d => !p d) ∧ L.drop j = l.drop j) ∧ wr.ownsRow b 161 4 (.slice (some ⟨g, 0, none⟩) l.length c) l.length (L.flatMap lastC) ∧ Chg w wr (fun k => k = g)) (fun _ vj _ => l.length - (intOf vj).toNat)
    case atStart => exact ⟨k, k + 1, l, rfl, by go_num, by omega, by omega, ⟨rfl, hstart.out, rfl⟩, own_below HS.out hb1, ⟨hb1.os, hb1.tape, hb1.output, hb1.size, fun k hk _ => hb1.block k hk⟩⟩
    case round =>
      obtain ⟨i, j, L, rfl, rfl, hij, hj, hL, hown, hch⟩ := hrel
      clear hk1 hk2 hstart hk
      by_cases hlt : j < l.length
      · have hdj : L[j]'(by rw [hL.out.1]; exact hlt) = l[j] := by
          have h1 := congrArg (fun z => z[0]?) hL.out.2.2
          simp only [List.getElem?_drop, Nat.add_zero] at h1
          rw [List.getElem?_eq_getElem (by rw [hL.out.1]; exact hlt), List.getElem?_eq_getElem hlt] at h1
          exact Option.some.inj h1
        have hownL : wr.ownsRow b 161 4 (.slice (some ⟨g, 0, none⟩) L.length c) L.length (L.flatMap lastC) := by rw [hL.out.1]; exact hown
        obtain ⟨g', c', e0, q0, q1, q2, q3, hg⟩ := date_cell hownL (k := j) (by rw [hL.out.1]; exact hlt)
        cases e0
        rw [hdj] at q0 q1 q2 q3
        have i1 : (j : Int) < (l.length : Int) := by omega
        have hcall : Hid (∀ O, Calls Tryz.prog 86 #[.agg #[.string (l[j]).1.rel, .string (l[j]).1.x, .string (l[j]).1.y, .int .i64 (l[j]).2], .pointer (some ⟨Bx, 0, none⟩)] (wr.alloc O) fun e w' => e = .returned (.bool (p l[j])) ∧ Below (wr.alloc O).heap.size (wr.alloc O) w') := fun O => HF.out _ (hch.alloc O) l[j] (HOK.out _ (List.getElem_mem hlt))
        have hst := filter_step (p := p) hlt hL.out.2.1 hL.out.2.2 hL.out.1 (Nat.le_of_lt hij)
        have hbx : Hid (∀ W2, Below (wr.alloc (.cells #[.string (l[j]).1.rel, .string (l[j]).1.x, .string (l[j]).1.y, .int .i64 (l[j]).2] 161)).heap.size (wr.alloc (.cells #[.string (l[j]).1.rel, .string (l[j]).1.x, .string (l[j]).1.y, .int .i64 (l[j]).2] 161)) W2 → W2.heap[wr.heap.size]? = some (Obj.cells #[.string (l[j]).1.rel, .string (l[j]).1.x, .string (l[j]).1.y, .int .i64 (l[j]).2] 161 (0, 0)) ∧ W2.ownsRow b 161 4 (.slice (some ⟨g, 0, none⟩) L.length c) L.length (L.flatMap lastC) ∧ Chg w W2 (fun k => k = g)) := fun W2 hb => ⟨(hb.block _ (by simp)).trans (World.alloc_heap_new wr _), own_below (hownL.alloc _) hb, ⟨hb.os.trans hch.os, hb.tape.trans hch.tape, hb.output.trans hch.output, by have := hb.size; have := hch.size; simp at *; omega, fun k hk hx => (hb.block k (by have := hch.size; simp; omega)).trans ((Below.heap_alloc _ _ _ (by have := hch.size; omega)).trans (hch.block k hk hx))⟩⟩
        have HCH : Hid _ := hch
        have HOW : Hid _ := hown
        have HST : Hid _ := hst
        clear hdj hownL hown hch hst
        generalize hpb : p l[j] = bb at *
        have HPB : Hid (p l[j] = bb) := hpb
        clear hpb
        generalize hlj : l[j] = d at *
        have HLJ : Hid (l[j] = d) := hlj
        clear hlj
        cases bb with
        | true =>
          go_wp2_with fail
          refine (hcall.out _).mono ?_
          rintro e W2 ⟨rfl, hb2⟩
          go_wp2
          go_roundw
          case rel =>
            obtain ⟨x1, x2, x3⟩ := hbx.out W2 hb2
            obtain ⟨z1, z2⟩ := HST.out.1 (by trivial)
            exact ⟨i, j + 1, L, rfl, by go_num, by omega, by omega, ⟨hL.out.1, z1, z2⟩, by have := x2; rw [hL.out.1] at this; exact this, x3⟩
          case measure => simp [intOf]; omega
        | false =>
          go_wp2_with fail
          refine (hcall.out _).mono ?_
          rintro e W2 ⟨rfl, hb2⟩
          obtain ⟨x1, x2, x3⟩ := hbx.out W2 hb2
          have t0 : W2.cell? ⟨wr.heap.size, 0, none⟩ = some (.string d.1.rel) := by simp [World.cell?, x1]
          have t1 : W2.cell? ⟨wr.heap.size, 1, none⟩ = some (.string d.1.x) := by simp [World.cell?, x1]
          have t2 : W2.cell? ⟨wr.heap.size, 2, none⟩ = some (.string d.1.y) := by simp [World.cell?, x1]
          have t3 : W2.cell? ⟨wr.heap.size, 3, none⟩ = some (.int .i64 d.2) := by simp [World.cell?, x1]
          obtain ⟨g', c', e0, s0, s1, s2, s3, hg2⟩ := date_cell x2 (k := i) (by rw [hL.out.1]; omega)
          cases e0
          obtain ⟨_, cc, hcc⟩ := owns_block x2 (g := g) rfl
          have y0 : W2.frozen? ⟨g, i * 4, none⟩ = false := by simp [World.frozen?, hcc]
          have y1 : W2.frozen? ⟨g, i * 4 + 1, none⟩ = false := by simp [World.frozen?, hcc]
          have y2 : W2.frozen? ⟨g, i * 4 + 2, none⟩ = false := by simp [World.frozen?, hcc]
          have y3 : W2.frozen? ⟨g, i * 4 + 3, none⟩ = false := by simp [World.frozen?, hcc]
          have i3 : (i : Int) < (l.length : Int) := by omega
          have HX : Hid _ := And.intro x2 x3
          clear x1 x2 x3 hcc hb2
          go_wp2
          go_roundw
          case rel =>
            obtain ⟨z1, z2⟩ := HST.out.2 (by trivial)
            obtain ⟨o1, o2⟩ := own_putD HX.out.1 (i := i) (by rw [hL.out.1]; omega) d
            refine ⟨i + 1, j + 1, L.set i d, by go_num, by go_num, by omega, by omega, ⟨by simp [hL.out.1], z1, z2⟩, ?_, ?_⟩
            · have := o1; rw [hL.out.1] at this; exact this
            · exact ⟨o2.os.trans HX.out.2.os, o2.tape.trans HX.out.2.tape, o2.output.trans HX.out.2.output, Nat.le_trans HX.out.2.size o2.size, fun k hk hx => (o2.block k (Nat.lt_of_lt_of_le hk HX.out.2.size) hx).trans (HX.out.2.block k hk hx)⟩
          case measure => simp [intOf]; omega
      · have hjl : j = l.length := by omega
        subst hjl
        have hfin : Hid (L.take i = l.filter (fun d => !p d)) := by show _ = _; rw [hL.out.2.1, List.take_length]
        have hfl : Hid ((l.filter (fun d => !p d)).length = i) := by show _ = _; rw [← hfin.out, List.length_take, hL.out.1]; omega
        obtain ⟨_, cc, hcc⟩ := owns_block hown (g := g) rfl
        have hsz : cc.size = c * 4 ∧ l.length ≤ c := by
          obtain ⟨h0, ⟨hv, _⟩ | ⟨g', c', cur, hv, h1, h2, h3, h4, h5, h6⟩⟩ := hown
          · cases hv
          cases hv
          rw [hcc] at h2; cases h2
          exact ⟨h5, h3⟩
        have hcle : l.length * 4 ≤ c * 4 := Nat.mul_le_mul_right 4 hsz.2
        obtain ⟨zs, hz1, hz2⟩ := clear_dated wr g (i * 4) (l.length - i) (c - i) (by omega) (fun j hj => by
          have : i * 4 + j < cc.size := by rw [hsz.1]; omega
          simp [World.cell?, hcc, this]) (fun j hj => by simp [World.frozen?, hcc])
        have hcut := own_cut (zs := zs) hown hL.out.1 (Nat.le_of_lt hij) hz1
        have HCUT : Hid _ := hcut
        have HCH : Hid _ := hch
        have hic : ¬ (c : Int) = (i : Int) := by omega
        have hic' : ¬ c = i := by omega
        have i3 : (i : Int) ≤ (l.length : Int) := by omega
        have i4 : (l.length : Int) ≤ (c : Int) := by omega
        have i5 : (i : Int) ≤ (c : Int) := by omega
        clear hcut hown hcc hsz hch
        go_wp2
        go_ret
        rw [hfl.out, ← hfin.out]
        refine ⟨rfl, HCUT.out.1, ?_⟩
        exact ⟨HCUT.out.2.os.trans HCH.out.os, HCUT.out.2.tape.trans HCH.out.tape, HCUT.out.2.output.trans HCH.out.output, Nat.le_trans HCH.out.size HCUT.out.2.size, fun k hk hx => (HCUT.out.2.block k (Nat.lt_of_lt_of_le hk HCH.out.size) hx).trans (HCH.out.block k hk hx)⟩

end Go.Proofs.YtjajnhemgphefaaGreatDoor

namespace Go.Proofs.YtjajnhemgphefaaGreatDoor
open Go.RowKit Go.Shelf Go.Maps
set_option linter.unusedVariables false
set_option linter.unusedSimpArgs false

def v0T : Tm := ⟨eB, 0⟩
def v1T : Tm := ⟨eB, 1⟩
def v2T : Tm := ⟨eB, 2⟩
/-- Who can be reached. -/
def pathR (P E : ByteArray) : List Rl := [⟨⟨P, [v0T, v1T]⟩, [⟨E, [v0T, v1T]⟩]⟩, ⟨⟨P, [v0T, v1T]⟩, [⟨P, [v0T, v2T]⟩, ⟨E, [v2T, v1T]⟩]⟩]
end Go.Proofs.YtjajnhemgphefaaGreatDoor

namespace Go.Proofs.YtjajnhemgphefaaGreatDoor
open Go.RowKit Go.Shelf Go.Maps
set_option linter.unusedVariables false
set_option linter.unusedSimpArgs false

/-- An engine. -/
structure Eg where
  rs : List Rl
  win : Int
  lat : Int
  que : Int
  mark : Int
  names : List ByteArray
  kept : List (Gd × Int)
  M : Gd → Option Int
  fds : List Fs

/-- A block of a type that engines write. -/
def WTy (W : World) (k : Nat) : Prop := ∃ c t, W.heap[k]? = some (Obj.cells c t (0, 0)) ∧ (t = 101 ∨ t = 161 ∨ t = 120 ∨ t = 198 ∨ t = 71 ∨ t = 9)
/-- A block of a type that feeds write. -/
def FTy (W : World) (k : Nat) : Prop := ∃ c t, W.heap[k]? = some (Obj.cells c t (0, 0)) ∧ (t = 198 ∨ t = 71)
theorem FTy.w {W : World} {k : Nat} (h : FTy W k) : WTy W k := by
  obtain ⟨c, t, h1, h2 | h2⟩ := h
  · exact ⟨c, t, h1, by simp [h2]⟩
  · exact ⟨c, t, h1, by simp [h2]⟩
theorem WTy.lt {W : World} {k : Nat} (h : WTy W k) : k < W.heap.size := by
  obtain ⟨c, t, h1, _⟩ := h
  exact (Array.getElem?_eq_some_iff.1 h1).1
theorem FTy.lt {W : World} {k : Nat} (h : FTy W k) : k < W.heap.size := h.w.lt
theorem WTy.same {W W' : World} {k : Nat} (h : WTy W k) (hk : W'.heap[k]? = W.heap[k]?) : WTy W' k := by
  obtain ⟨c, t, h1, h2⟩ := h
  exact ⟨c, t, hk.trans h1, h2⟩
theorem FTy.same {W W' : World} {k : Nat} (h : FTy W k) (hk : W'.heap[k]? = W.heap[k]?) : FTy W' k := by
  obtain ⟨c, t, h1, h2⟩ := h
  exact ⟨c, t, hk.trans h1, h2⟩
theorem WTy.not {W : World} {k : Nat} {c : Array Value} {t : TypeId} (h : W.heap[k]? = some (Obj.cells c t (0, 0))) (ht : t ≠ 101 ∧ t ≠ 161 ∧ t ≠ 120 ∧ t ≠ 198 ∧ t ≠ 71 ∧ t ≠ 9) : ¬ WTy W k := by
  rintro ⟨c', t', h1, h2⟩
  rw [h] at h1
  cases h1
  rcases h2 with h2 | h2 | h2 | h2 | h2 | h2
  · exact ht.1 h2
  · exact ht.2.1 h2
  · exact ht.2.2.1 h2
  · exact ht.2.2.2.1 h2
  · exact ht.2.2.2.2.1 h2
  · exact ht.2.2.2.2.2 h2
theorem WTy.notMap {W : World} {k : Nat} {es : Array MapEntry} {c : Nat} (h : W.heap[k]? = some (Obj.map es c)) : ¬ WTy W k := by
  rintro ⟨c', t', h1, _⟩
  rw [h] at h1
  cases h1

def ptrV (b : Nat) : Value := .pointer (some ⟨b, 0, none⟩)

/-- Block be is an engine; S: the blocks that it may write. -/
structure EngV (W : World) (S : Nat → Prop) (be : Nat) (e : Eg) (vr vn vk vf : Value) (bm rb b45 b87 : Nat) (bfs : List Nat) (Sf : Nat → Nat → Prop) : Prop where
  blk : W.heap[be]? = some (Obj.cells #[vr, .int .i64 e.win, .int .i64 e.lat, .int .i64 e.que, .int .i64 e.mark, vn, vk, .map (some bm), vf] 101 (0, 0))
  rules : RulesAt W rb b45 b87 vr e.rs
  names : W.ownsRow 0 9 1 vn e.names.length (e.names.map Value.string)
  kept : W.ownsRow 0 161 4 vk e.kept.length (e.kept.flatMap lastC)
  md : MdAt W bm 5000 e.M
  len : bfs.length = e.fds.length
  frow : W.ownsRow 0 120 1 vf bfs.length (bfs.map ptrV)
  feed : ∀ i (h : i < bfs.length) (h' : i < e.fds.length), ∃ b, FdAt W (Sf i) bfs[i] b e.fds[i]
  sep : ∀ i j, i ≠ j → ∀ k, Sf i k → ¬ Sf j k
  sub : ∀ i, ∀ k, Sf i k → S k ∧ FTy W k
  own : S be ∧ (∀ g, vk.ownBlock = some g → S g) ∧ (∀ g, vf.ownBlock = some g → S g) ∧ ∀ g, vn.ownBlock = some g → S g
  typ : ∀ k, S k → WTy W k
def EngAt (W : World) (S : Nat → Prop) (be : Nat) (e : Eg) : Prop := ∃ vr vn vk vf bm rb b45 b87 bfs Sf, EngV W S be e vr vn vk vf bm rb b45 b87 bfs Sf

theorem FdAt.narrow {W : World} {S : Nat → Prop} {bf b87 : Nat} {f : Fs} (h : FdAt W S bf b87 f) : FdAt W (fun k => S k ∧ FTy W k) bf b87 f := by
  obtain ⟨va, vs, vq, h1, h2, h3, h4, h5, h6, h7⟩ := h
  refine ⟨va, vs, vq, h1, h2, h3, h4, fun g hg => ⟨⟨(h5 g hg).1, ?_⟩, (h5 g hg).2⟩, fun g hg => ⟨h6 g hg, ?_⟩, h7, ?_⟩
  · obtain ⟨_, c, hc⟩ := owns_block h3 hg
    exact ⟨c, _, hc, .inr rfl⟩
  · obtain ⟨_, c, hc⟩ := owns_block h4 hg
    exact ⟨c, _, hc, .inr rfl⟩
  · exact ⟨_, _, h1, .inl rfl⟩

/-- A block of a type that no rule is laid in. -/
def NTy (W : World) (k : Nat) : Prop := ∃ c t, W.heap[k]? = some (Obj.cells c t (0, 0)) ∧ t ≠ 136 ∧ t ≠ 92 ∧ t ≠ 166
theorem WTy.n {W : World} {k : Nat} (h : WTy W k) : NTy W k := by
  obtain ⟨c, t, h1, h2⟩ := h
  exact ⟨c, t, h1, by rcases h2 with rfl | rfl | rfl | rfl | rfl | rfl <;> decide⟩
theorem NTy.not {W : World} {k : Nat} {c : Array Value} {t : TypeId} (h : W.heap[k]? = some (Obj.cells c t (0, 0))) (ht : t = 136 ∨ t = 92 ∨ t = 166) : ¬ NTy W k := by
  rintro ⟨c', t', h1, h2, h3, h4⟩
  rw [h] at h1
  cases h1
  rcases ht with ht | ht | ht
  · exact h2 ht
  · exact h3 ht
  · exact h4 ht
theorem NTy.notMap {W : World} {k : Nat} {es : Array MapEntry} {c : Nat} (h : W.heap[k]? = some (Obj.map es c)) : ¬ NTy W k := by
  rintro ⟨c', t', h1, _⟩
  rw [h] at h1
  cases h1
/-- What is no engine's to write abides. -/
theorem EngV.keepN {W W' : World} {S : Nat → Prop} {be : Nat} {e : Eg} {vr vn vk vf : Value} {bm rb b45 b87 : Nat} {bfs : List Nat} {Sf : Nat → Nat → Prop} (h : EngV W S be e vr vn vk vf bm rb b45 b87 bfs Sf) {ex : Nat → Prop} (hc : Chg W W' ex) (hS : ∀ k, S k → ¬ ex k) (hT : ∀ k, k < W.heap.size → ex k → NTy W k) : EngV W' S be e vr vn vk vf bm rb b45 b87 bfs Sf := by
  have hk : ∀ k, k < W.heap.size → ¬ ex k → W'.heap[k]? = W.heap[k]? := hc.block
  have hkS : ∀ k, S k → W'.heap[k]? = W.heap[k]? := fun k hs => hk k (h.typ k hs).lt (hS k hs)
  have hkT : ∀ (k : Nat) (c : Array Value) (t : TypeId), W.heap[k]? = some (Obj.cells c t (0, 0)) → (t = 136 ∨ t = 92 ∨ t = 166) → W'.heap[k]? = some (Obj.cells c t (0, 0)) := fun k c t hc ht => (hk k (Array.getElem?_eq_some_iff.1 hc).1 (fun he => NTy.not hc ht (hT k (Array.getElem?_eq_some_iff.1 hc).1 he))).trans hc
  have hbe := (Array.getElem?_eq_some_iff.1 h.blk).1
  refine ⟨(hkS be h.own.1).trans h.blk, h.rules.keep (fun k c t ht hc => hkT k c t hc ht), own_keep h.names (fun g hg hlt => hkS g (h.own.2.2.2 g hg)), own_keep h.kept (fun g hg hlt => hkS g (h.own.2.1 g hg)), h.md.kept (fun k es c hm => (hk k (Array.getElem?_eq_some_iff.1 hm).1 (fun he => NTy.notMap hm (hT k (Array.getElem?_eq_some_iff.1 hm).1 he))).trans hm), h.len, own_keep h.frow (fun g hg hlt => hkS g (h.own.2.2.1 g hg)), fun i hi hi' => ?_, h.sep, fun i k hs => ⟨(h.sub i k hs).1, (h.sub i k hs).2.same (hkS k (h.sub i k hs).1)⟩, h.own, fun k hs => (h.typ k hs).same (hkS k hs)⟩
  obtain ⟨b, hf⟩ := h.feed i hi hi'
  exact ⟨b, hf.keep (ex := ex) hk (fun k hs => hS k (h.sub i k hs).1) (fun k c hc he => NTy.not hc (.inr (.inr rfl)) (hT k (Array.getElem?_eq_some_iff.1 hc).1 he))⟩
theorem EngV.keep {W W' : World} {S : Nat → Prop} {be : Nat} {e : Eg} {vr vn vk vf : Value} {bm rb b45 b87 : Nat} {bfs : List Nat} {Sf : Nat → Nat → Prop} (h : EngV W S be e vr vn vk vf bm rb b45 b87 bfs Sf) {ex : Nat → Prop} (hc : Chg W W' ex) (hS : ∀ k, S k → ¬ ex k) (hT : ∀ k, k < W.heap.size → ex k → WTy W k) : EngV W' S be e vr vn vk vf bm rb b45 b87 bfs Sf :=
  h.keepN hc hS (fun k h1 h2 => (hT k h1 h2).n)
theorem EngAt.keepN {W W' : World} {S : Nat → Prop} {be : Nat} {e : Eg} (h : EngAt W S be e) {ex : Nat → Prop} (hc : Chg W W' ex) (hS : ∀ k, S k → ¬ ex k) (hT : ∀ k, k < W.heap.size → ex k → NTy W k) : EngAt W' S be e := by
  obtain ⟨vr, vn, vk, vf, bm, rb, b45, b87, bfs, Sf, hv⟩ := h
  exact ⟨vr, vn, vk, vf, bm, rb, b45, b87, bfs, Sf, hv.keepN hc hS hT⟩
theorem EngAt.keep {W W' : World} {S : Nat → Prop} {be : Nat} {e : Eg} (h : EngAt W S be e) {ex : Nat → Prop} (hc : Chg W W' ex) (hS : ∀ k, S k → ¬ ex k) (hT : ∀ k, k < W.heap.size → ex k → WTy W k) : EngAt W' S be e :=
  h.keepN hc hS (fun k h1 h2 => (hT k h1 h2).n)
theorem EngV.below {W W' : World} {S : Nat → Prop} {be : Nat} {e : Eg} {vr vn vk vf : Value} {bm rb b45 b87 : Nat} {bfs : List Nat} {Sf : Nat → Nat → Prop} (h : EngV W S be e vr vn vk vf bm rb b45 b87 bfs Sf) (hb : Below W.heap.size W W') : EngV W' S be e vr vn vk vf bm rb b45 b87 bfs Sf :=
  h.keep (Chg.ofBelow (fun _ => False) hb) (fun _ _ => id) (fun _ _ => False.elim)
theorem EngAt.below {W W' : World} {S : Nat → Prop} {be : Nat} {e : Eg} (h : EngAt W S be e) (hb : Below W.heap.size W W') : EngAt W' S be e :=
  h.keep (Chg.ofBelow (fun _ => False) hb) (fun _ _ => id) (fun _ _ => False.elim)

/-- All relations that stand in rules. -/
def relsR (rs : List Rl) : List ByteArray := (rs.flatMap ruleAms).map (·.rel)
/-- What is asked of rules: true of all that are let in. -/
structure RsOk (rs : List Rl) : Prop where
  r8 : rs.length ≤ 8
  rok : ∀ r ∈ rs, RuleOk r
  arity : ∀ a ∈ rs.flatMap ruleAms, a.args.length = arR rs a.rel ∧ (a.args.length = 1 ∨ a.args.length = 2)
  nums : ∀ a ∈ rs.flatMap ruleAms, ∀ t ∈ a.args, t.num < 6
  safe : ∀ r ∈ rs, ∀ t ∈ r.head.args, t.name = eB → ∃ a ∈ r.body, ∃ u ∈ a.args, u.name = eB ∧ u.num = t.num
/-- What holds of an engine's data. -/
structure EgOk (e : Eg) : Prop where
  rs : RsOk e.rs
  win : 1 ≤ e.win ∧ e.win ≤ 1000
  lat : 0 ≤ e.lat ∧ e.lat ≤ 1000
  que : 1 ≤ e.que ∧ e.que ≤ 50
  mark : 0 ≤ e.mark ∧ e.mark ≤ 1000000
  n8 : e.names.length ≤ 8
  nsz : ∀ x ∈ e.names, x.size ≤ 1200
  nrs : ∀ r ∈ e.rs, ∀ t ∈ r.head.args, t.name ≠ eB → t.name ∈ e.names
  k24 : e.kept.length ≤ 24
  kept : ∀ d ∈ e.kept, d.1 ∈ uni (relsR e.rs) e.names ∧ arOk (arR e.rs) d.1 ∧ 0 ≤ d.2 ∧ d.2 ≤ 1000000
  md : ∀ g, (e.M g).isSome = true → arOk (arR e.rs) g ∧ g ∈ uni (relsR e.rs) e.names
  f3 : e.fds.length ≤ 3
  fds : ∀ f ∈ e.fds, FormOk f.form ∧ f.snap.length ≤ 1000 ∧ f.que.length ≤ 50

end Go.Proofs.YtjajnhemgphefaaGreatDoor

namespace Go.Proofs.YtjajnhemgphefaaGreatDoor
open Go.RowKit Go.Shelf
set_option linter.unusedVariables false
set_option linter.unusedSimpArgs false

/-- A ground atom of the code's, as the document's own answer has it. -/
def toGr (g : Gd) : Gr := ⟨g.rel, if emptyB g.y = true then [g.x] else [g.x, g.y]⟩
theorem toGr_inj {g h : Gd} (e : toGr g = toGr h) : g = h := by
  obtain ⟨r, x, y⟩ := g
  obtain ⟨r', x', y'⟩ := h
  unfold toGr at e
  simp only [Gr.mk.injEq] at e
  obtain ⟨rfl, e⟩ := e
  by_cases h1 : emptyB y = true <;> by_cases h2 : emptyB y' = true
  · rw [if_pos h1, if_pos h2] at e
    simp only [List.cons.injEq, and_true] at e
    rw [e, (emptyB_iff y).1 h1, (emptyB_iff y').1 h2]
  · rw [if_pos h1, if_neg h2] at e; simp at e
  · rw [if_neg h1, if_pos h2] at e; simp at e
  · rw [if_neg h1, if_neg h2] at e
    simp only [List.cons.injEq, and_true] at e
    rw [e.1, e.2]
/-- Atoms of one or two arguments, of six variables at most. -/
def AmTwo (a : Am) : Prop := (a.args.length = 1 ∨ a.args.length = 2) ∧ ∀ t ∈ a.args, t.num < 6
/-- Its names are none of them empty. -/
def AmFull (s : Nat → ByteArray) (a : Am) : Prop := ∀ t ∈ a.args, emptyB (inT s t) = false
theorem ofT_in {p : Nms} {s : Nat → ByteArray} {t : Tm} (h : emptyB t.name = true → p.get t.num = s t.num) : ofT p t = inT s t := by
  unfold ofT inT
  by_cases he : emptyB t.name = true
  · rw [if_pos he, if_pos (by exact he), h he]
  · rw [if_neg he, if_neg (by exact he)]
theorem toGr_ground {p : Nms} {s : Nat → ByteArray} {a : Am} (ha : a.args.length = 1 ∨ a.args.length = 2) (hp : ∀ t ∈ a.args, emptyB t.name = true → p.get t.num = s t.num) (hf : AmFull s a) : toGr (groundA p a) = instA s a := by
  obtain ⟨rel, args⟩ := a
  simp only at ha hp hf
  unfold toGr groundA instA
  simp only [Gr.mk.injEq, true_and]
  match args, ha, hp, hf with
  | [t], _, hp, hf =>
    show (if emptyB eBy = true then [ofT p t] else [ofT p t, eBy]) = [inT s t]
    rw [if_pos emptyB_e, ofT_in (hp t List.mem_cons_self)]
  | [t, u], _, hp, hf =>
    show (if emptyB (ofT p u) = true then [ofT p t] else [ofT p t, ofT p u]) = [inT s t, inT s u]
    have e1 := ofT_in (hp t List.mem_cons_self)
    have e2 := ofT_in (hp u (List.mem_cons_of_mem _ List.mem_cons_self))
    have h2 := hf u (List.mem_cons_of_mem _ List.mem_cons_self)
    rw [e1, e2, if_neg (by rw [h2]; decide)]
  | [], h, _, _ => simp at h
  | _ :: _ :: _ :: _, h, _, _ => simp at h
def nmsOf (s : Nat → ByteArray) : Nms := ⟨s 0, s 1, s 2, s 3, s 4, s 5⟩
theorem nmsOf_get (s : Nat → ByteArray) {n : Nat} (h : n < 6) : (nmsOf s).get n = s n := by
  match n, h with
  | 0, _ => rfl
  | 1, _ => rfl
  | 2, _ => rfl
  | 3, _ => rfl
  | 4, _ => rfl
  | 5, _ => rfl
theorem full_in {s : Nat → ByteArray} (hs : ∀ v, emptyB (s v) = false) (t : Tm) : emptyB (inT s t) = false := by
  unfold inT
  by_cases he : emptyB t.name = true
  · rw [if_pos he]; exact hs _
  · rw [if_neg he]; simpa using he
/-- Of as many names as its relation has arguments. -/
def ArE (ar : ByteArray → Nat) (g : Gd) : Prop := emptyB g.x = false ∧ ((ar g.rel = 1 ∧ emptyB g.y = true) ∨ (ar g.rel = 2 ∧ emptyB g.y = false))
theorem are_ground {ar : ByteArray → Nat} {p : Nms} {a : Am} (h2 : a.args.length = 1 ∨ a.args.length = 2) (hl : a.args.length = ar a.rel) : ArE ar (groundA p a) ↔ ∀ t ∈ a.args, emptyB (ofT p t) = false := by
  obtain ⟨rel, args⟩ := a
  simp only at h2 hl
  match args, h2, hl with
  | [t], _, hl =>
    show (emptyB (ofT p t) = false ∧ ((ar rel = 1 ∧ emptyB eBy = true) ∨ (ar rel = 2 ∧ emptyB eBy = false))) ↔ _
    rw [emptyB_e]
    have h1 : ar rel = 1 := hl.symm
    simp [h1]
  | [t, u], _, hl =>
    show (emptyB (ofT p t) = false ∧ ((ar rel = 1 ∧ emptyB (ofT p u) = true) ∨ (ar rel = 2 ∧ emptyB (ofT p u) = false))) ↔ _
    have h1 : ar rel = 2 := hl.symm
    simp [h1]
  | [], h, _ => simp at h
  | _ :: _ :: _ :: _, h, _ => simp at h
/-- The facts that hold at a time are the same. -/
structure FactsOne (ar : ByteArray → Nat) (R : List Rl) (F : List (Gd × Int)) (e : Int) (G : List Gr) : Prop where
  to : ∀ x ∈ F, e < x.2 → ArE ar x.1 ∧ (toGr x.1 ∈ G ∨ ∃ r ∈ R, r.body = [] ∧ x.1 = groundA nms0 r.head)
  back : ∀ g ∈ G, ∃ x ∈ F, e < x.2 ∧ toGr x.1 = g
  given : ∀ r ∈ R, r.body = [] → ∃ x ∈ F, e < x.2 ∧ x.1 = groundA nms0 r.head
structure RulesTwo (ar : ByteArray → Nat) (R : List Rl) : Prop where
  two : ∀ r ∈ R, ∀ a ∈ r.head :: r.body, AmTwo a ∧ a.args.length = ar a.rel
  safe : ∀ r ∈ R, ∀ v, VarIn r.head v → ∃ a ∈ r.body, VarIn a v
theorem head_const {r : Rl} (hs : ∀ v, VarIn r.head v → ∃ a ∈ r.body, VarIn a v) (hb : r.body = []) : ∀ t ∈ r.head.args, emptyB t.name = false := fun t ht => by
  cases he : emptyB t.name with
  | false => rfl
  | true =>
    obtain ⟨a, ha, _⟩ := hs t.num ⟨t, ht, he, rfl⟩
    rw [hb] at ha; cases ha
theorem const_gr {ar : ByteArray → Nat} {R : List Rl} (hR : RulesTwo ar R) {r : Rl} (hr : r ∈ R) (hb : r.body = []) (p : Nms) (s : Nat → ByteArray) (hs : ∀ v, emptyB (s v) = false) : toGr (groundA p r.head) = instA s r.head := by
  have hc := head_const (hR.safe r hr) hb
  exact toGr_ground (hR.two r hr _ List.mem_cons_self).1.1 (fun t ht he => by rw [hc t ht] at he; cases he) (fun t ht => full_in hs t)
theorem der_dv {ar : ByteArray → Nat} {R : List Rl} {F : List (Gd × Int)} {e : Int} {G : List Gr} (hR : RulesTwo ar R) (hF : FactsOne ar R F e G) {g : Gd} (hd : Der R F e g) : Dv R G (toGr g) ∧ ArE ar g := by
  have h97 : emptyB (⟨#[97]⟩ : ByteArray) = false := by decide +kernel
  refine hd (fun g => Dv R G (toGr g) ∧ ArE ar g) (fun x hx he => ?_) (fun r hr hb p hp => ?_)
  · obtain ⟨h1, h2⟩ := hF.to x hx he
    refine ⟨?_, h1⟩
    rcases h2 with h2 | ⟨r, hr, hb, e1⟩
    · exact fun S s1 _ => s1 _ h2
    · rw [e1, const_gr hR hr hb _ (fun _ => ⟨#[97]⟩) (fun _ => h97)]
      exact fun S _ s2 => s2 r hr _ (fun _ => h97) (fun a ha => by rw [hb] at ha; cases ha)
  · have hv : ∀ v, (∃ a ∈ r.body, VarIn a v) → emptyB (p.get v) = false := fun v ⟨a, ha, t, ht, he, hn⟩ => by
      obtain ⟨h2, h3⟩ := hR.two r hr a (List.mem_cons_of_mem _ ha)
      have := (are_ground h2.1 h3).1 (hp a ha).2 t ht
      unfold ofT at this
      rw [if_pos (by exact he), hn] at this
      exact this
    have hs : ∀ v, emptyB ((fun v => if emptyB (p.get v) = true then (⟨#[97]⟩ : ByteArray) else p.get v) v) = false := fun v => by
      show emptyB (if _ then _ else _) = false
      split
      · exact h97
      · rename_i h; simpa using h
    have he : ∀ v, emptyB (p.get v) = false → p.get v = (fun v => if emptyB (p.get v) = true then (⟨#[97]⟩ : ByteArray) else p.get v) v := fun v h => by
      show _ = if _ then _ else _
      rw [if_neg (by rw [h]; decide)]
    have hbody : ∀ a ∈ r.body, toGr (groundA p a) = instA (fun v => if emptyB (p.get v) = true then (⟨#[97]⟩ : ByteArray) else p.get v) a := fun a ha =>
      toGr_ground (hR.two r hr a (List.mem_cons_of_mem _ ha)).1.1 (fun t ht hte => he _ (hv _ ⟨a, ha, t, ht, hte, rfl⟩)) (fun t ht => full_in hs t)
    have hhead : ∀ t ∈ r.head.args, emptyB t.name = true → emptyB (p.get t.num) = false := fun t ht hte => hv _ (hR.safe r hr _ ⟨t, ht, hte, rfl⟩)
    obtain ⟨h2, h3⟩ := hR.two r hr r.head List.mem_cons_self
    refine ⟨?_, (are_ground h2.1 h3).2 (fun t ht => ?_)⟩
    · rw [toGr_ground h2.1 (fun t ht hte => he _ (hhead t ht hte)) (fun t ht => full_in hs t)]
      exact fun S s1 s2 => s2 r hr _ hs (fun a ha => by rw [← hbody a ha]; exact (hp a ha).1 S s1 s2)
    · unfold ofT
      by_cases hte : emptyB t.name = true
      · rw [if_pos (by exact hte)]; exact hhead t ht hte
      · rw [if_neg (by exact hte)]; simpa using hte
theorem dv_der {ar : ByteArray → Nat} {R : List Rl} {F : List (Gd × Int)} {e : Int} {G : List Gr} (hR : RulesTwo ar R) (hF : FactsOne ar R F e G) {h : Gr} (hd : Dv R G h) : ∃ g, toGr g = h ∧ Der R F e g := by
  refine hd (fun h => ∃ g, toGr g = h ∧ Der R F e g) (fun x hx => ?_) (fun r hr s hs hb => ?_)
  · obtain ⟨y, hy, he, e1⟩ := hF.back x hx
    exact ⟨y.1, e1, Der.fact hy he⟩
  · have hg : ∀ a ∈ r.head :: r.body, toGr (groundA (nmsOf s) a) = instA s a := fun a ha =>
      toGr_ground (hR.two r hr a ha).1.1 (fun t ht _ => nmsOf_get s ((hR.two r hr a ha).1.2 t ht)) (fun t ht => full_in hs t)
    by_cases h0 : r.body = []
    · obtain ⟨x, hx, he, e1⟩ := hF.given r hr h0
      refine ⟨x.1, ?_, Der.fact hx he⟩
      rw [e1]; exact const_gr hR hr h0 _ s hs
    · refine ⟨groundA (nmsOf s) r.head, hg _ List.mem_cons_self, Der.rule hr h0 (fun a ha => ?_)⟩
      obtain ⟨g, e1, hd'⟩ := hb a ha
      have : g = groundA (nmsOf s) a := toGr_inj (e1.trans (hg a (List.mem_cons_of_mem _ ha)).symm)
      rw [← this]; exact hd'
/-- An atom follows by the one just where it follows by the other. -/
theorem der_iff {ar : ByteArray → Nat} {R : List Rl} {F : List (Gd × Int)} {e : Int} {G : List Gr} (hR : RulesTwo ar R) (hF : FactsOne ar R F e G) (g : Gd) : Der R F e g ↔ Dv R G (toGr g) := by
  refine ⟨fun h => (der_dv hR hF h).1, fun h => ?_⟩
  obtain ⟨g', e1, h'⟩ := dv_der hR hF h
  rw [← toGr_inj e1]; exact h'

end Go.Proofs.YtjajnhemgphefaaGreatDoor
