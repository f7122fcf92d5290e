/-
  Package slices at what lasts: SortFunc, SortedFunc.
  Package model: the text of a ground atom; texts in order.
-/
import Derived.Test.YtjajnhemgphefaaGreatDoorJcSrt
import Derived.Shelf.SlSortCmp.NoneTotal
namespace Go.Proofs.YtjajnhemgphefaaGreatDoor
open Go.RowKit Go.Shelf Go.Maps
set_option linter.unusedVariables false
set_option linter.unusedSimpArgs false

theorem flat_last (x0 : Gd × Int) : ∀ (xs : List (Gd × Int)) (t : Nat), t < xs.length * 4 → (xs.flatMap lastC)[t]? = (lastC (xs[t / 4]?.getD x0))[t % 4]?
  | [], t, h => by simp at h
  | x :: xs, t, h => by
    by_cases h4 : t < 4
    · have hc : t = 0 ∨ t = 1 ∨ t = 2 ∨ t = 3 := by omega
      rcases hc with rfl | rfl | rfl | rfl <;> simp [lastC]
    · obtain ⟨s, rfl⟩ : ∃ s, t = s + 4 := ⟨t - 4, by omega⟩
      simp only [List.length_cons] at h
      have ih := flat_last x0 xs s (by omega)
      have e1 : (s + 4) / 4 = s / 4 + 1 := by omega
      have e2 : (s + 4) % 4 = s % 4 := by omega
      rw [List.flatMap_cons, List.getElem?_append_right (by simp [lastC]), e1, e2]
      simp only [lastC_len, Nat.add_sub_cancel, List.getElem?_cons_succ]
      exact ih

abbrev lastI : Inhabited (Gd × Int) := ⟨(⟨⟨#[]⟩, ⟨#[]⟩, ⟨#[]⟩⟩, 0)⟩
theorem flatK_last (xs : List (Gd × Int)) : (@Sort.flatK _ lastI lastC 4 xs.toArray).toList = xs.flatMap lastC := by
  letI := lastI
  refine List.ext_getElem? (fun t => ?_)
  by_cases h : t < xs.length * 4
  · rw [flat_last lastI.default xs t h]
    have h4 : t / 4 < xs.length := by omega
    simp only [Sort.flatK, Array.toList_map, List.getElem?_map, Array.getElem?_toList]
    rw [Array.getElem?_range, if_pos (by simpa using h)]
    have hm : t % 4 < 4 := by omega
    have hx : xs[t / 4]?.getD lastI.default = xs[t / 4] := by rw [List.getElem?_eq_getElem h4]; rfl
    have hy : xs.toArray[t / 4]! = xs[t / 4] := by simp [h4]
    rw [hx]
    simp only [Option.map_some, hy]
    have hl : t % 4 < (lastC xs[t / 4]).length := by rw [lastC_len]; exact hm
    rw [List.getElem?_eq_getElem hl]
    simp [hl]
  · have h1 : (xs.flatMap lastC).length = xs.length * 4 := by
      induction xs with
      | nil => rfl
      | cons x xs ih => simp only [List.length_cons] at h; rw [List.flatMap_cons, List.length_append, ih (by omega), lastC_len, List.length_cons]; omega
    rw [List.getElem?_eq_none (by simp; omega), List.getElem?_eq_none (by omega)]

theorem sort_heap {w : World} {blk n : Nat} {cur : Array Value} {T : TypeId} (F : Array Value) (os : Array Obj) (hb : w.heap[blk]? = some (Obj.cells cur T (0, 0))) (hF : F.size ≤ cur.size) :
    (Sort.grow (Sort.putRow id (Sort.ahead w n) blk 0 F) os).heap[blk]? = some (Obj.cells (Sort.putCells id 0 F cur) T (0, 0)) ∧ (∀ k, k < w.heap.size → k ≠ blk → (Sort.grow (Sort.putRow id (Sort.ahead w n) blk 0 F) os).heap[k]? = w.heap[k]?) ∧ (Sort.putCells id 0 F cur).size = cur.size ∧ (Sort.putCells id 0 F cur).toList.take F.size = F.toList := by
  have hlt := (Array.getElem?_eq_some_iff.1 hb).1
  refine ⟨?_, fun k hk hne => ?_, by simp [Sort.putCells], ?_⟩
  · simp only [Sort.grow, Sort.putRow, Sort.mapBlock, Sort.ahead]
    rw [Array.getElem?_append_left (by simpa using hlt), Array.getElem?_modify, if_pos rfl, hb]
    rfl
  · simp only [Sort.grow, Sort.putRow, Sort.mapBlock, Sort.ahead]
    rw [Array.getElem?_append_left (by simpa using hk), Array.getElem?_modify, if_neg (fun e => hne e.symm)]
  · refine List.ext_getElem? (fun t => ?_)
    by_cases h : t < F.size
    · rw [List.getElem?_take, if_pos h]
      have hc : t < cur.size := by omega
      simp [Sort.putCells, h, hc]
    · rw [List.getElem?_take, if_neg h, List.getElem?_eq_none (by simpa using h)]

theorem cmpL_lt (x y : Gd × Int) : @Go.Proofs.ltOf (Gd × Int) cmpL x y = decide (x.2 < y.2) := by
  unfold Go.Proofs.ltOf cmpL Lib.compareInt
  by_cases h : x.2 < y.2
  · simp [h]
  · by_cases h2 : x.2 > y.2
    · simp [h, h2]
    · simp [h, h2]

theorem sortL_any (v : Value) (xs : List (Gd × Int)) (b : Nat) (w : World) (hown : w.ownsRow b 172 4 v xs.length (xs.flatMap lastC)) (hl : xs.length ≤ 1000000) :
    Calls Tryz.prog 185 #[v, .func (.func 132) #[] #[]] w fun e w' => e = .returned (.tuple #[]) ∧ ∃ ys : List (Gd × Int), ys.Perm xs ∧ ys.Pairwise (fun a b => a.2 ≤ b.2) ∧ w'.ownsRow b 172 4 v ys.length (ys.flatMap lastC) ∧ Chg w w' (fun k => some k = v.ownBlock) := by
  letI := lastI
  have hown' := hown
  obtain ⟨hlen, ⟨hv, hn⟩ | ⟨g, cap, cur, hv, hb, hh, h1, h2, h3, h4⟩⟩ := hown
  · subst hv
    have : xs = [] := List.eq_nil_of_length_eq_zero hn
    subst this
    refine (AnyF.slices_SortFunc_none Tryz.sortLasting none 0 _ w).mono ?_
    rintro e w' ⟨rfl, rfl⟩
    exact ⟨rfl, [], .refl _, .nil, hown', Chg.refl _ _⟩
  · subst hv
    have hlt := (Array.getElem?_eq_some_iff.1 hh).1
    have hfl : (Sort.flatK lastC 4 xs.toArray).toList = xs.flatMap lastC := flatK_last xs
    have hH : Sort.HoldsK lastC 4 w g 0 xs.toArray := by
      intro j hj
      have hj' : j < xs.length * 4 := by simpa using hj
      refine ⟨?_, by simp [World.frozen?, hh]⟩
      have e1 : (Sort.flatK lastC 4 xs.toArray).toList[j]? = cur.toList[j]? := by
        rw [hfl, ← h4, List.getElem?_take, if_pos hj']
      have e2 : (Sort.flatK lastC 4 xs.toArray)[j]? = cur[j]? := by simpa using e1
      have e3 : (Sort.flatK lastC 4 xs.toArray)[j]? = some (Sort.flatK lastC 4 xs.toArray)[j]! := by
        rw [Array.getElem?_eq_getElem hj]; exact congrArg some (getElem!_pos (Sort.flatK lastC 4 xs.toArray) j hj).symm
      simp only [World.cell?, hh]
      rw [e3] at e2
      simpa using e2.symm
    refine (AnyQ.slices_SortFunc Tryz.sortLasting 4 (fun W => Tryz.isAgg172 W) (fun W => Tryz.sizeOf172 W) lastC lastC_len (fun x u hu => by
        simp only [lastC, List.mem_cons, List.not_mem_nil, or_false] at hu
        rcases hu with rfl | rfl | rfl | rfl <;> rfl) cmpL ⟨fun x => ?_, fun x y z => ?_, fun x y z => ?_⟩ 132 #[] g 0 cap xs.toArray w (enters_of Tryz.func132 (by kernel_rfl) rfl) (fun m os dk hs x y => ?_) hH hlt (by simp; omega)).mono ?_
    · rw [cmpL_lt]; simp
    · rw [cmpL_lt, cmpL_lt, cmpL_lt]; simp; omega
    · rw [cmpL_lt, cmpL_lt, cmpL_lt]; simp; omega
    · exact (least1_any x y _)
    · rintro e w' ⟨rfl, d', n, os, hp, hs, rfl⟩
      obtain ⟨p1, p2, p3⟩ := hp
      have hd : d'.size = xs.length := by simpa using p1
      have hperm : d'.toList.Perm xs := by
        have q1 : d'.extract 0 xs.toArray.size = d' := by rw [Array.extract_eq_self_of_le (by simp [hd])]
        have q2 : xs.toArray.extract 0 xs.toArray.size = xs.toArray := by rw [Array.extract_eq_self_of_le (Nat.le_refl _)]
        rw [q1, q2] at p3
        simpa using p3
      refine ⟨rfl, d'.toList, hperm, ?_, ?_, ?_⟩
      · rw [List.pairwise_iff_getElem]
        intro i j hi hj hij
        have := hs i j (Nat.zero_le _) hij (by simp at hj ⊢; omega)
        rw [cmpL_lt] at this
        simp at hi hj
        simp [hi, hj] at this
        simpa using this
      · have hF : (Sort.flatK lastC 4 d').size ≤ cur.size := by simp [hd, h3]; exact Nat.mul_le_mul_right _ h1
        obtain ⟨s1, s2, s3, s4⟩ := sort_heap (n := n) (Sort.flatK lastC 4 d') os hh hF
        have hfd : (Sort.flatK lastC 4 d').toList = d'.toList.flatMap lastC := by
          have := flatK_last d'.toList
          simpa using this
        refine ⟨?_, .inr ⟨g, cap, _, by simp [hd], hb, s1, by simp [hd]; exact h1, h2, s3.trans h3, ?_⟩⟩
        · rw [← hfd]; simp
        · have : d'.toList.length * 4 = (Sort.flatK lastC 4 d').size := by simp
          rw [this, s4, hfd]
      · have hF : (Sort.flatK lastC 4 d').size ≤ cur.size := by simp [hd, h3]; exact Nat.mul_le_mul_right _ h1
        obtain ⟨s1, s2, s3, s4⟩ := sort_heap (n := n) (Sort.flatK lastC 4 d') os hh hF
        exact ⟨rfl, rfl, rfl, size_sortWorldK_c _ _ _ _ _ _ _ _, fun k hk hx => s2 k hk (fun e => hx (by rw [e]; rfl))⟩

set_option maxHeartbeats 1000000 in
theorem collectL_any (v : Value) (xs : List (Gd × Int)) (b Bs : Nat) (w : World) (hbox : w.heap[Bs]? = some (Obj.cells #[v] 169 (0, 0))) (hown : w.ownsRow b 172 4 v xs.length (xs.flatMap lastC)) (hl : xs.length ≤ 1000000) :
    Calls Tryz.prog 184 #[.func (.func 186) #[] #[.pointer (some ⟨Bs, 0, none⟩)]] w fun e w' => ∃ v', e = .returned v' ∧ w'.ownsRow w.heap.size 172 4 v' xs.length (xs.flatMap lastC) ∧ Below w.heap.size w w' := by
  have hap := appendSeqL_any (.slice none 0 0) [] w.heap.size w ⟨rfl, .inl ⟨rfl, rfl⟩⟩ (Nat.le_refl _) (by simp; omega) (enters_of Tryz.func186 (by kernel_rfl) rfl)
    (fun m n => valuesL_seq w.heap.size w.heap.size Bs b v xs w hbox (Array.getElem?_eq_some_iff.1 hbox).1 hown (fun g hg => by
      obtain ⟨_, c, hc⟩ := owns_block hown hg
      have := (Array.getElem?_eq_some_iff.1 hc).1
      exact ⟨this, this⟩) hl m n)
  have HAP : Hid (Calls Tryz.prog 134 #[.slice none 0 0, .func (.func 186) #[] #[.pointer (some ⟨Bs, 0, none⟩)]] w fun e w' => ∃ oa oc, e = .returned (.slice oa xs.length oc) ∧ w'.ownsRow w.heap.size 172 4 (.slice oa xs.length oc) xs.length (xs.flatMap lastC) ∧ Below w.heap.size w w') := by
    refine hap.mono ?_
    rintro e W1 ⟨v', ys, rfl, hys, ho, hb, _⟩
    have hys' : ys = xs := hys
    rw [hys', List.nil_append] at ho
    obtain ⟨oa, oc, hof⟩ := owns_form ho
    subst hof
    exact ⟨oa, oc, rfl, ho, hb⟩
  clear hap hown hbox
  go_enter Tryz.func184, Tryz.ntmps184
  go_wp2_with (go_at_call 134; refine (HAP.out).mono ?_; rintro e W1 ⟨oa, oc, rfl, ho, hb⟩)
  go_ret
  exact ⟨_, rfl, ho, hb⟩

set_option maxHeartbeats 1000000 in
theorem sortedL_any (v : Value) (xs : List (Gd × Int)) (b Bs : Nat) (w : World) (hbox : w.heap[Bs]? = some (Obj.cells #[v] 169 (0, 0))) (hown : w.ownsRow b 172 4 v xs.length (xs.flatMap lastC)) (hl : xs.length ≤ 1000000) :
    Calls Tryz.prog 130 #[.func (.func 186) #[] #[.pointer (some ⟨Bs, 0, none⟩)], .func (.func 132) #[] #[]] w fun e w' => ∃ (v' : Value) (ys : List (Gd × Int)), e = .returned v' ∧ ys.Perm xs ∧ ys.Pairwise (fun a b => a.2 ≤ b.2) ∧ w'.ownsRow w.heap.size 172 4 v' ys.length (ys.flatMap lastC) ∧ Below w.heap.size w w' := by
  have HC : Hid (Calls Tryz.prog 184 #[.func (.func 186) #[] #[.pointer (some ⟨Bs, 0, none⟩)]] w fun e w' => ∃ oa oc, e = .returned (.slice oa xs.length oc) ∧ w'.ownsRow w.heap.size 172 4 (.slice oa xs.length oc) xs.length (xs.flatMap lastC) ∧ Below w.heap.size w w') := by
    refine (collectL_any v xs b Bs w hbox hown hl).mono ?_
    rintro e W1 ⟨v', rfl, ho, hb⟩
    obtain ⟨oa, oc, hof⟩ := owns_form ho
    subst hof
    exact ⟨oa, oc, rfl, ho, hb⟩
  have HSF : Hid (∀ oa oc W, W.ownsRow w.heap.size 172 4 (.slice oa xs.length oc) xs.length (xs.flatMap lastC) → Calls Tryz.prog 185 #[.slice oa xs.length oc, .func (.func 132) #[] #[]] W fun e w' => e = .returned (.tuple #[]) ∧ ∃ ys : List (Gd × Int), ys.Perm xs ∧ ys.Pairwise (fun a b => a.2 ≤ b.2) ∧ w'.ownsRow w.heap.size 172 4 (.slice oa xs.length oc) ys.length (ys.flatMap lastC) ∧ Chg W w' (fun k => some k = (Value.slice oa xs.length oc).ownBlock)) := fun oa oc W ho => sortL_any _ xs _ W ho hl
  clear hown hbox
  go_enter Tryz.func130, Tryz.ntmps130
  go_wp2_with (first | (go_at_call 184; refine (HC.out).mono ?_; rintro e W1 ⟨oa, oc, rfl, ho, hb⟩) | (go_at_call 185; refine (HSF.out oa oc W1 ho).mono ?_; rintro e W2 ⟨rfl, ys, hp, hs, ho2, hch⟩))
  go_ret
  refine ⟨_, ys, rfl, hp, hs, ho2, hb.trans ⟨hch.os, hch.tape, hch.output, hch.size, fun k hk => hch.block k (by have := hb.size; omega) (fun e => ?_)⟩⟩
  have := (owns_block ho e.symm).1
  omega

end Go.Proofs.YtjajnhemgphefaaGreatDoor

namespace Go.Proofs.YtjajnhemgphefaaGreatDoor
open Go.RowKit Go.Shelf Go.Maps
set_option linter.unusedVariables false
set_option linter.unusedSimpArgs false
attribute [local go_sem] Oper.semAt_some

def argsG (g : Gd) : List ByteArray := if g.y.toList.isEmpty = true then [g.x] else [g.x, g.y]
def joinG (g : Gd) : ByteArray := ⟨(Lib.join ((argsG g).map (·.data.toList)) (⟨#[44]⟩ : ByteArray).data.toList).toArray⟩
/-- The text of a ground atom. -/
def textG (g : Gd) : ByteArray := g.rel ++ ⟨#[40]⟩ ++ joinG g ++ ⟨#[41]⟩

theorem join_len (g : Gd) (h2 : g.x.size ≤ 2000) (h3 : g.y.size ≤ 2000) : (Lib.join ((argsG g).map (·.data.toList)) (⟨#[44]⟩ : ByteArray).data.toList).length ≤ 4001 := by
  have e1 : g.x.data.toList.length = g.x.size := by simp
  have e2 : g.y.data.toList.length = g.y.size := by simp
  unfold argsG
  split
  · simp [Lib.join]; omega
  · simp [Lib.join]; omega

set_option maxHeartbeats 2000000 in
theorem text_any (g : Gd) (w : World) (h1 : g.rel.size ≤ 2000) (h2 : g.x.size ≤ 2000) (h3 : g.y.size ≤ 2000) :
    Calls Tryz.prog 91 #[g.v] w fun e w' => e = .returned (.string (textG g)) ∧ Below w.heap.size w w' := by
  have hjl := join_len g h2 h3
  have hjs : (joinG g).size ≤ 4001 := by
    show (joinG g).data.size ≤ _
    unfold joinG
    simpa using hjl
  obtain ⟨N, hN⟩ : ∃ N, w.heap.size = N := ⟨_, rfl⟩
  have hcell : ∀ W1, Below (N + 1) (w.alloc (.cells #[.string g.rel, .string g.x, .string g.y] 111)) W1 → W1.heap[N]? = some (Obj.cells #[.string g.rel, .string g.x, .string g.y] 111 (0, 0)) := by
    intro W1 hb
    have := World.alloc_heap_new w (.cells #[.string g.rel, .string g.x, .string g.y] 111)
    rw [hN] at this
    exact (hb.block N (by omega)).trans this
  have hjo : Hid (∀ W1, Below (N + 1) (w.alloc (.cells #[.string g.rel, .string g.x, .string g.y] 111)) W1 → ∀ ln, (argsG g).length = ln → Calls Tryz.prog 153 #[.slice (some ⟨N, 1, none⟩) ln 2, .string ⟨#[44]⟩] W1 fun e w' => e = .returned (.string (joinG g)) ∧ Below W1.heap.size W1 w' ∧ w'.cell? ⟨N, 0, none⟩ = some (.string g.rel) ∧ Below (N + 1) (w.alloc (.cells #[.string g.rel, .string g.x, .string g.y] 111)) w') := by
    rintro W1 hb ln rfl
    have hh := hcell W1 hb
    have hs := hb.size
    rw [World.size_alloc, hN] at hs
    have hal : (argsG g).length ≤ 2 := by unfold argsG; split <;> simp
    refine (Tryz.strings_Join N 1 2 (argsG g) ⟨#[44]⟩ W1 ?_ (by omega) (by omega) hal (by omega)).mono ?_
    · intro j x hj
      simp only [World.cell?, hh]
      unfold argsG at hj
      split at hj
      · match j, hj with
        | 0, hj => simp at hj; subst hj; simp
      · match j, hj with
        | 0, hj => simp at hj; subst hj; simp
        | 1, hj => simp at hj; subst hj; simp
    · rintro e w' ⟨rfl, hb'⟩
      refine ⟨rfl, hb', ?_, hb.trans (hb'.mono (by omega))⟩
      have := hcell w' (hb.trans (hb'.mono (by omega)))
      simp [World.cell?, this]
  have htx : Hid (textG g = g.rel ++ ⟨#[40]⟩ ++ joinG g ++ ⟨#[41]⟩) := rfl
  have hb0 : Hid (Below (N + 1) (w.alloc (.cells #[.string g.rel, .string g.x, .string g.y] 111)) (w.alloc (.cells #[.string g.rel, .string g.x, .string g.y] 111)).drew) := (Below.refl _ _).drew
  have HW : Hid (∀ W1, Below (N + 1) (w.alloc (.cells #[.string g.rel, .string g.x, .string g.y] 111)) W1 → Below w.heap.size w W1) := fun W1 hb => ((Below.refl _ w).alloc (Nat.le_refl _) _).trans (hb.mono (by omega))
  unfold Gd.v Gd.c
  generalize textG g = tx at *
  generalize joinG g = jg at *
  clear hcell hjl
  cases hy : g.y.toList.isEmpty with
  | true =>
    have hjo1 : Hid (∀ W1, Below (N + 1) (w.alloc (.cells #[.string g.rel, .string g.x, .string g.y] 111)) W1 → Calls Tryz.prog 153 #[.slice (some ⟨N, 1, none⟩) 1 2, .string ⟨#[44]⟩] W1 fun e w' => e = .returned (.string jg) ∧ Below W1.heap.size W1 w' ∧ w'.cell? ⟨N, 0, none⟩ = some (.string g.rel) ∧ Below (N + 1) (w.alloc (.cells #[.string g.rel, .string g.x, .string g.y] 111)) w') := fun W1 hb => hjo.out W1 hb 1 (by unfold argsG; rw [if_pos hy]; rfl)
    clear hjo
    go_enter Tryz.func91, Tryz.ntmps91
    go_wp2
    (try simp only [hN])
    go_region_with (go_at_call 153; refine (hjo1.out _ hb0.out).mono ?_; rintro e W1 ⟨rfl, hb1, hc1, hb2⟩)
    all_goals go_wp2
    all_goals go_ret
    all_goals rw [htx.out]
    all_goals exact ⟨rfl, HW.out W1 hb2⟩
  | false =>
    have hjo1 : Hid (∀ W1, Below (N + 1) (w.alloc (.cells #[.string g.rel, .string g.x, .string g.y] 111)) W1 → Calls Tryz.prog 153 #[.slice (some ⟨N, 1, none⟩) 2 2, .string ⟨#[44]⟩] W1 fun e w' => e = .returned (.string jg) ∧ Below W1.heap.size W1 w' ∧ w'.cell? ⟨N, 0, none⟩ = some (.string g.rel) ∧ Below (N + 1) (w.alloc (.cells #[.string g.rel, .string g.x, .string g.y] 111)) w') := fun W1 hb => hjo.out W1 hb 2 (by unfold argsG; rw [if_neg (by rw [hy]; simp)]; rfl)
    clear hjo
    go_enter Tryz.func91, Tryz.ntmps91
    go_wp2
    (try simp only [hN])
    go_region_with (go_at_call 153; refine (hjo1.out _ hb0.out).mono ?_; rintro e W1 ⟨rfl, hb1, hc1, hb2⟩)
    all_goals go_wp2
    all_goals go_ret
    all_goals rw [htx.out]
    all_goals exact ⟨rfl, HW.out W1 hb2⟩

end Go.Proofs.YtjajnhemgphefaaGreatDoor
