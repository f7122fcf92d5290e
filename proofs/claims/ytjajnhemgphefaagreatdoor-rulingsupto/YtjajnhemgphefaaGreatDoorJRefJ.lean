/-
  The document's own answer: the number of a variable among those of a rule.
  The document's own answer: an atom, read off tokens.
  The document's own answer: an atom, read off tokens: the memory of its reading.
-/
import Derived.Test.YtjajnhemgphefaaGreatDoorJRefG
import Derived.Test.YtjajnhemgphefaaGreatDoorJDat
namespace Go.Proofs.YtjajnhemgphefaaGreatDoor
open Go.RowKit Go.Shelf
set_option linter.unusedVariables false
set_option linter.unusedSimpArgs false

theorem seenN_hit (vs : List ByteArray) (x : ByteArray) (i : Nat) (hi : i < vs.length) (h : sameB x vs[i] = true) (hn : ∀ (j : Nat) (hj : j < vs.length), j < i → sameB x vs[j] = false) : seenN vs x = i := by
  unfold seenN
  rw [List.findIdx_eq hi]
  exact ⟨h, fun j hj => hn j (by omega) hj⟩
theorem seenN_miss (vs : List ByteArray) (x : ByteArray) (hn : ∀ (j : Nat) (hj : j < vs.length), sameB x vs[j] = false) : seenN vs x = vs.length := by
  unfold seenN
  rw [List.findIdx_eq_length]
  intro y hy
  obtain ⟨j, hj, rfl⟩ := List.getElem_of_mem hy
  exact hn j hj

theorem strC_len (x : ByteArray) : [Value.string x].length = 1 := rfl
theorem strs_flat (vs : List ByteArray) : vs.map Value.string = vs.flatMap (fun x => [Value.string x]) := by
  induction vs with
  | nil => rfl
  | cons x l ih => simp [ih]
theorem Tryz.infoStr : (Tryz.prog.info? 9).map (fun i => (i.zero, i.size, i.bytes)) = some (some (.string ⟨#[]⟩), 1, 16) := by kernel_rfl

theorem one_new (w : World) (x : Value) (t : TypeId) : ∀ j u, [x][j]? = some u → (w.alloc (.cells #[x] t)).cell? ((⟨w.heap.size, 0, none⟩ : Addr).add j) = some u := by
  intro j u hj
  match j, hj with
  | 0, hj => simp at hj; subst hj; simp [Addr.add]
  | j + 1, hj => simp at hj

set_option maxRecDepth 100000 in
set_option maxHeartbeats 4000000 in
theorem seen_any (B : Nat) (v : Value) (vs : List ByteArray) (x : ByteArray) (w : World) (hB : B ≤ w.heap.size) (hl : vs.length ≤ 1000) (hown : w.ownsRow B 9 1 v vs.length (vs.map Value.string)) :
    Calls Tryz.prog 221 #[v, .string x] w fun e w' => ∃ v', e = .returned (.tuple #[v', .int .i64 (seenN vs x)]) ∧ w'.ownsRow B 9 1 v' (seenL vs x).length ((seenL vs x).map Value.string) ∧ w.grownBy w' v.ownBlock := by
  obtain ⟨i0, hi, hz0, hz1, hz2⟩ := info_parts Tryz.infoStr
  obtain ⟨a, c, hv⟩ := own_form hown
  have hcells : ∀ (j : Nat) (hj : j < vs.length), ∃ g, a = some ⟨g, 0, none⟩ ∧ w.cell? ⟨g, j, none⟩ = some (.string vs[j]) := by
    intro j hj
    have h2 := hown
    rw [strs_flat] at h2
    obtain ⟨g, cap, e1, e2, e3, e4, e5⟩ := own_get h2 strC_len (by omega)
    rw [hv] at e1
    cases e1
    have := e5 j 0 hj (.string vs[j]) (by decide) rfl
    rw [Nat.mul_one, Nat.add_zero] at this
    exact ⟨g, rfl, this⟩
  subst hv
  have HO : Hid (w.ownsRow B 9 1 (.slice a vs.length c) vs.length (vs.map Value.string)) := hown
  have HC : Hid _ := hcells
  clear hown hcells
  go_enter Tryz.func221, Tryz.ntmps221
  go_wp2
  go_loopw [6] (fun p wr => ∃ i : Nat, p = .int .i64 i ∧ i ≤ vs.length ∧ wr = w ∧ Hid (∀ (j : Nat) (hj : j < vs.length), j < i → sameB x vs[j] = false)) (fun p _ => vs.length - (intOf p).toNat)
  case atStart => exact ⟨0, rfl, Nat.zero_le _, rfl, fun j hj h => by omega⟩
  case round =>
    obtain ⟨i, rfl, hle, rfl, hno⟩ := hrel
    by_cases hlt : i < vs.length
    · obtain ⟨g, rfl, hcell⟩ := HC.out i hlt
      obtain ⟨y, hy⟩ : ∃ y, vs[i] = y := ⟨_, rfl⟩
      rw [hy] at hcell
      have HY : Hid (vs[i] = y) := hy
      clear hy
      by_cases hs : sameB x y = true
      · have hN := seenN_hit vs x i hlt (by rw [HY.out]; exact hs) hno.out
        have HN : Hid _ := hN
        clear hN
        unfold sameB at hs
        go_wp2
        go_ret2
        have hL : seenL vs x = vs := by unfold seenL; rw [if_pos (by rw [HN.out]; exact hlt)]
        rw [hL, HN.out]
        exact ⟨_, rfl, HO.out, World.grownBy.refl _ _⟩
      · have hs' : sameB x y = false := by simpa using hs
        have hno' : Hid (∀ (j : Nat) (hj : j < vs.length), j < i + 1 → sameB x vs[j] = false) := by
          intro j hj hji
          by_cases e : j = i
          · subst e; rw [HY.out]; exact hs'
          · exact hno.out j hj (by omega)
        unfold sameB at hs'
        clear hs
        go_wp2
        go_roundw
        case rel => exact ⟨i + 1, by go_num, by omega, by trivial, hno'⟩
        case measure => simp [intOf]; omega
    · have hN := seenN_miss vs x (fun j hj => hno.out j hj (by omega))
      have hL : seenL vs x = vs ++ [x] := by unfold seenL; rw [if_neg (by omega)]
      have HL : Hid (seenL vs x = vs ++ [x]) := hL
      have HN : Hid (seenN vs x = vs.length) := hN
      have hc3 : vs.length + 1 ≤ maxLen := by unfold maxLen; omega
      have hc4 : (vs.length + 1) * 16 ≤ 140737488355328 := by omega
      have hc5 : Hid (∀ O, B ≤ (wr.alloc O).heap.size) := fun O => by simp; omega
      have h1c : ∀ u ∈ [Value.string x], u.oneCell' = true := by simp [Value.oneCell']
      clear hN hL
      go_wp2_with (at_builtin; refine wpList_append_own _ rfl (.tmp 21) (.tmp 23) 22 rfl B 9 i0 (.string ⟨#[]⟩) 1 16 Tryz.underlying22 hi hz0 hz1 hz2 rfl (by decide) _ _ _ rfl (HO.out.alloc _) ⟨wr.heap.size, 0, none⟩ 1 1 [.string x] rfl rfl (one_new _ _ _) h1c hc3 hc4 (hc5.out _) ?_; intro v' w1 hown1 hgrow1 _; obtain ⟨g', c', hv'⟩ := ownsRow_succ hown1; subst hv')
      go_ret2
      rw [HL.out, HN.out]
      refine ⟨_, rfl, ?_, ?_⟩
      · simpa using hown1
      · exact ⟨hgrow1.os, hgrow1.tape, hgrow1.output, by have := hgrow1.size; simp at this; omega, fun k hk hn => (hgrow1.block k (by simp; omega) hn).trans (Below.heap_alloc _ _ _ hk)⟩

end Go.Proofs.YtjajnhemgphefaaGreatDoor

namespace Go.Proofs.YtjajnhemgphefaaGreatDoor
open Go.RowKit Go.Shelf
set_option linter.unusedVariables false
set_option linter.unusedSimpArgs false

def argT (vs : List ByteArray) (t : RT) : Tm := if t.kind = 2 then ⟨⟨#[]⟩, seenN vs t.text⟩ else ⟨t.text, 0⟩
def argVs (vs : List ByteArray) (t : RT) : List ByteArray := if t.kind = 2 then seenL vs t.text else vs
/-- The arguments from a token on; the variables behind them; how many tokens. -/
def argsR : List ByteArray → List RT → Option (List Tm × List ByteArray × Nat)
  | vs, a :: b :: us =>
    if b.kind = 41 then some ([argT vs a], argVs vs a, 2)
    else match argsR (argVs vs a) us with
      | some (l, v', n) => some (argT vs a :: l, v', n + 2)
      | none => none
  | _, _ => none

/-- A row of tokens, whose block is known for one. -/
def TokAt (W : World) (g : Nat) (ts : List RT) : Prop := TokRow W g ts ∧ ∃ c, W.heap[g]? = some (Obj.cells c 244 (0, 0))
theorem TokAt.kept {B : Nat} {a b : World} {g : Nat} {ts : List RT} (h : TokAt a g ts) (hs : StrOnly B a b) : TokAt b g ts := by
  obtain ⟨⟨h1, h2⟩, c, h3⟩ := h
  have hb : b.heap[g]? = a.heap[g]? := hs.block g h1 (.inr fun c' fz e => by rw [h3] at e; cases e)
  have hc : ∀ o, b.cell? ⟨g, o, none⟩ = a.cell? ⟨g, o, none⟩ := fun o => World.cell?_of_block (w := a) hb
  refine ⟨⟨Nat.lt_of_lt_of_le h1 hs.size, fun j hj => ?_⟩, c, hb.trans h3⟩
  rw [hc, hc, hc, hc]; exact h2 j hj

theorem Tryz.infoArg : (Tryz.prog.info? 215).map (fun i => (i.zero, i.size, i.bytes)) = some (some (.agg #[.string ⟨#[]⟩, .int .i64 0]), 2, 24) := by kernel_rfl

theorem argsR_two {vs : List ByteArray} {us : List RT} {r : List Tm × List ByteArray × Nat} (h : argsR vs us = some r) : ∃ a b us', us = a :: b :: us' := by
  match us, h with
  | [], h => simp [argsR] at h
  | [a], h => simp [argsR] at h
  | a :: b :: us', _ => exact ⟨a, b, us', rfl⟩

/-- How far the arguments are read. -/
structure ArSt (B N : Nat) (w wr : World) (ts : List RT) (at' : Nat) (rel : ByteArray) (k : Nat) (vs : List ByteArray) (v va : Value) (acc : List Tm) (L : List Tm) (vsF : List ByteArray) (M : Nat) : Prop where
  str : StrOnly B w wr
  res : wr.heap[N]? = some (Obj.cells #[.string ⟨#[]⟩, .slice none 0 0] 145 (0, 0))
  atm : wr.heap[N + 1]? = some (Obj.cells #[.string rel, va] 145 (0, 0))
  own : wr.ownsRow (N + 2) 215 2 va acc.length (acc.flatMap tmC)
  vars : wr.ownsRow B 9 1 v vs.length (vs.map Value.string)
  spec : ∃ l n, argsR vs (ts.drop (at' + 2 + k)) = some (l, vsF, n) ∧ acc ++ l = L ∧ k + n = M
  few : acc.length ≤ k ∧ vs.length ≤ 500 + k

end Go.Proofs.YtjajnhemgphefaaGreatDoor

namespace Go.Proofs.YtjajnhemgphefaaGreatDoor
open Go.RowKit Go.Shelf
set_option linter.unusedVariables false
set_option linter.unusedSimpArgs false

structure ArW (B N : Nat) (w X : World) (rel : ByteArray) (vs : List ByteArray) (v va : Value) (acc : List Tm) : Prop where
  str : StrOnly B w X
  res : X.heap[N]? = some (Obj.cells #[.string ⟨#[]⟩, .slice none 0 0] 145 (0, 0))
  atm : X.heap[N + 1]? = some (Obj.cells #[.string rel, va] 145 (0, 0))
  own : X.ownsRow (N + 2) 215 2 va acc.length (acc.flatMap tmC)
  vars : X.ownsRow B 9 1 v vs.length (vs.map Value.string)

variable {B N : Nat} {w X Y : World} {rel : ByteArray} {vs vs' : List ByteArray} {v v' va va' : Value} {acc : List Tm}

theorem ArW.alloc (h : ArW B N w X rel vs v va acc) (o : Obj) : ArW B N w (X.alloc o) rel vs v va acc :=
  ⟨h.str.alloc o, (Below.heap_alloc _ _ _ (Array.getElem?_eq_some_iff.1 h.res).1).trans h.res, (Below.heap_alloc _ _ _ (Array.getElem?_eq_some_iff.1 h.atm).1).trans h.atm, h.own.alloc o, h.vars.alloc o⟩

theorem ArW.grow (h : ArW B N w X rel vs v va acc) (hg : X.grownBy Y v.ownBlock) (hv : Y.ownsRow B 9 1 v' vs'.length (vs'.map Value.string)) : ArW B N w Y rel vs' v' va acc := by
  have hk : ∀ (k : Nat) (c : Array Value) (T : TypeId), T ≠ 9 → X.heap[k]? = some (Obj.cells c T (0, 0)) → Y.heap[k]? = X.heap[k]? := by
    intro k c T hT hc
    refine hg.block k (Array.getElem?_eq_some_iff.1 hc).1 (fun e => ?_)
    obtain ⟨_, _, d, fz, h3⟩ := own_str h.vars k e.symm
    rw [hc] at h3; cases h3; exact hT rfl
  refine ⟨h.str.grown hg (fun k e => .inr ?_), (hk _ _ _ (by decide) h.res).trans h.res, (hk _ _ _ (by decide) h.atm).trans h.atm, ?_, hv⟩
  · obtain ⟨h1, _, d, fz, h3⟩ := own_str h.vars k e; exact ⟨h1, d, fz, h3⟩
  · refine own_keep h.own (fun g hg' _ => ?_)
    obtain ⟨_, _, d, fz, h3⟩ := own_str h.own g hg'
    refine hg.block g (Array.getElem?_eq_some_iff.1 h3).1 (fun e => ?_)
    obtain ⟨_, _, d', fz', h4⟩ := own_str h.vars g e.symm
    rw [h3] at h4; cases h4

theorem ArW.setP (h : ArW B N w X rel vs v va acc) {P : Nat} {c : Array Value} (hN : w.heap.size = N) (hP : N + 2 ≤ P) (hPt : X.heap[P]? = some (Obj.cells c 215 (0, 0))) (hne : va.ownBlock ≠ some P) (o : Nat) (u : Value) : ArW B N w (X.setCell ⟨P, o, none⟩ u) rel vs v va acc := by
  refine ⟨h.str.setCell (by simp; omega) u, (Below.heap_setCell _ _ _ _ (by simp; omega)).trans h.res, (Below.heap_setCell _ _ _ _ (by simp; omega)).trans h.atm, ?_, ?_⟩
  · exact own_keep h.own (fun g hg _ => Below.heap_setCell _ _ _ _ (fun e => hne (by simp at e; rw [← e]; exact hg)))
  · refine own_keep h.vars (fun g hg _ => Below.heap_setCell _ _ _ _ (fun e => ?_))
    simp at e; subst e
    obtain ⟨_, _, d, fz, h3⟩ := own_str h.vars g hg
    rw [hPt] at h3; cases h3

theorem ArW.app (h : ArW B N w X rel vs v va acc) (hN : w.heap.size = N) (hg : X.grownBy Y va.ownBlock) (t : Tm) (ho : Y.ownsRow (N + 2) 215 2 va' (acc.length + 1) (acc.flatMap tmC ++ tmC t)) : ArW B N w (Y.setCell ⟨N + 1, 1, none⟩ va') rel vs v va' (acc ++ [t]) := by
  have hlo : ∀ k, va.ownBlock = some k → N + 2 ≤ k := fun k e => (own_str h.own k e).1
  have hres : Y.heap[N]? = X.heap[N]? := hg.block N (Array.getElem?_eq_some_iff.1 h.res).1 (fun e => by have := hlo N e.symm; omega)
  have hatm : Y.heap[N + 1]? = X.heap[N + 1]? := hg.block (N + 1) (Array.getElem?_eq_some_iff.1 h.atm).1 (fun e => by have := hlo (N + 1) e.symm; omega)
  have hvar : Y.ownsRow B 9 1 v vs.length (vs.map Value.string) := by
    refine own_keep h.vars (fun g hg' hlt => hg.block g hlt (fun e => ?_))
    obtain ⟨_, _, d, fz, h3⟩ := own_str h.vars g hg'
    obtain ⟨_, _, d', fz', h4⟩ := own_str h.own g e.symm
    rw [h3] at h4; cases h4
  refine ⟨(h.str.grown hg (fun k e => .inl (by have := hlo k e; omega))).setCell (by simp; omega) _, ?_, ?_, ?_, ?_⟩
  · exact (Below.heap_setCell _ _ _ _ (by simp)).trans (hres.trans h.res)
  · exact heap_set1 (hatm.trans h.atm) 1 va'
  · have h2 : Y.ownsRow (N + 2) 215 2 va' (acc ++ [t]).length ((acc ++ [t]).flatMap tmC) := by simpa using ho
    exact own_keep h2 (fun g hg' _ => Below.heap_setCell _ _ _ _ (fun e => by have := (own_str ho g hg').1; simp at e; omega))
  · refine own_keep hvar (fun g hg' _ => Below.heap_setCell _ _ _ _ (fun e => ?_))
    simp at e; subst e
    obtain ⟨_, _, d, fz, h3⟩ := own_str hvar _ hg'
    rw [hatm.trans h.atm] at h3; cases h3

theorem ArW.fin (h : ArW B N w X rel vs v va acc) (hN : w.heap.size = N) (a b : Value) : ((X.setCell ⟨N, 0, none⟩ a).setCell ⟨N, 1, none⟩ b).ownsRow N 215 2 va acc.length (acc.flatMap tmC) ∧
    ((X.setCell ⟨N, 0, none⟩ a).setCell ⟨N, 1, none⟩ b).ownsRow B 9 1 v vs.length (vs.map Value.string) ∧ StrOnly B w ((X.setCell ⟨N, 0, none⟩ a).setCell ⟨N, 1, none⟩ b) := by
  have hk : ∀ g, g ≠ N → ((X.setCell ⟨N, 0, none⟩ a).setCell ⟨N, 1, none⟩ b).heap[g]? = X.heap[g]? := fun g hg => (Below.heap_setCell _ _ _ _ hg).trans (Below.heap_setCell _ _ _ _ hg)
  refine ⟨own_down (own_keep h.own (fun g hg _ => hk g (by have := (own_str h.own g hg).1; omega))) (by omega), own_keep h.vars (fun g hg _ => hk g (fun e => ?_)), (h.str.setCell (by simp; omega) _).setCell (by simp; omega) _⟩
  subst e
  obtain ⟨_, _, d, fz, h3⟩ := own_str h.vars _ hg
  rw [h.res] at h3; cases h3

end Go.Proofs.YtjajnhemgphefaaGreatDoor
