/-
  tokens.first: the token that a text, not empty, begins with; nothing that lay before is turned. Condition: the two tables of package utf8 hold what their text lays.
  tokens.All: the iterator over a text hands out the text's tokens, in their order, to whatever loop keeps its word, and ends early only where the loop bids it.
-/
import Derived.Test.YtjajnhemgphefaaGreatDoorJcWord
import Derived.Test.YtjajnhemgphefaaGreatDoorShelf
import Derived.Deep.RegionWith
import Derived.Lib.Bytes2
import Derived.RangeFuncNested
import Derived.RangeFuncBound
import Derived.RangeFuncCalls
import Derived.RangeFuncLeaves
import Derived.Shelf.Abstract
import Derived.Shelf.RegionOpen
import Derived.OwnWalkIn
import Derived.TacticsInMore
import Derived.LoopNIn
import Derived.LoopIn
namespace Go.Proofs.YtjajnhemgphefaaGreatDoor
open Go.RowKit
set_option linter.unusedVariables false
set_option linter.unusedSimpArgs false

theorem bcell {W w1 : World} (hb : Below W.heap.size W w1) : (∀ b o, b < W.heap.size → w1.cell? ⟨b, o, none⟩ = W.cell? ⟨b, o, none⟩) ∧ (∀ b o, b < W.heap.size → w1.frozen? ⟨b, o, none⟩ = W.frozen? ⟨b, o, none⟩) :=
  ⟨fun b o h => hb.cell (p := ⟨b, o, none⟩) h, fun b o h => hb.frozen (p := ⟨b, o, none⟩) h⟩

/-- The first token of a text: its kind, its bytes, its runes. -/
def firstT (s : ByteArray) : Int × Nat × Nat :=
  if capB (Utf8.decode s 0).1 then (2, (scan s s.size 0 0).1, (scan s s.size 0 0).2)
  else if smallB (Utf8.decode s 0).1 then (1, (scan s s.size 0 0).1, (scan s s.size 0 0).2)
  else if Lib.hasPrefix s.data.toList [58, 45] then (7, 2, 2)
  else (signK (Utf8.decode s 0).1, (Utf8.decode s 0).2, 1)

def tokOf (s : ByteArray) (p : Int) : Value := tokV (firstT s).1 (s.extract 0 (firstT s).2.1) p (firstT s).2.2

theorem pre_extract (s : ByteArray) (h : Lib.hasPrefix s.data.toList [58, 45] = true) : s.extract 0 2 = ⟨#[58, 45]⟩ := by
  have h1 : [58, 45] <+: s.data.toList := by simpa [Lib.hasPrefix] using h
  obtain ⟨t, ht⟩ := h1
  have hs : s = ⟨([58, 45] ++ t).toArray⟩ := by
    cases s; simp at ht; simp [ht]
  rw [hs]
  apply ByteArray.ext
  simp

set_option maxHeartbeats 1000000 in
theorem first_any (s : ByteArray) (w : World) (hs : s.size ≤ maxLen) (h0 : 0 < s.size) (hT : Lib.Utf8Tabs 0 1 w) :
    Calls Tryz.prog 161 #[.string s] w fun e w' => e = .returned (tokOf s 0) ∧ Below w.heap.size w w' := by
  have hdg : Lib.decodeGo s = Utf8.decode s 0 := by
    unfold Lib.decodeGo; rw [if_neg (by omega)]
  have hT1 := Utf8Tabs_below hT ((Below.refl w.heap.size w).alloc (Nat.le_refl _) (.cells #[.int .i64 0, .string ⟨#[]⟩, .int .i64 0, .int .i64 0] 191))
  go_enter Tryz.func161, Tryz.ntmps161
  go_wp2_with fail
  refine (Tryz.utf8_DecodeRuneInString _ _ hT1).mono ?_
  rintro e w1 ⟨rfl, hb1⟩
  rw [hdg]
  generalize hd : Utf8.decode s 0 = d
  obtain ⟨r, wd⟩ := d
  have HD : Hid (Utf8.decode s 0 = (r, wd)) := hd
  clear hd hdg
  obtain ⟨hc1, hf1⟩ := bcell hb1
  have hz1 : w.heap.size < w1.heap.size := by have := hb1.size; simp at this; omega
  by_cases hcap : capB (r : Int) = true
  · go_wp2_with (go_at_call 211; refine (isCapital_any _ _).mono ?_; rintro e w' ⟨rfl, rfl⟩)
    refine (word_any _ _ _ hs).mono ?_
    rintro e w2 ⟨rfl, hb2⟩
    obtain ⟨hc2, hf2⟩ := bcell hb2
    have hz2 : w.heap.size < w2.heap.size := by have := hb2.size; omega
    have hB : Below w.heap.size w w2 := (((Below.refl w.heap.size w).alloc (Nat.le_refl _) _).trans (hb1.mono (by simp))).trans (hb2.mono (by omega))
    clear hb1 hb2 hT hT1
    have hfin : Hid (tokOf s 0 = tokV 2 (s.extract 0 (scan s s.size 0 0).1) 0 (scan s s.size 0 0).2) := by
      show tokOf s 0 = _; unfold tokOf firstT; rw [HD.out]; simp [hcap]
    generalize (scan s s.size 0 0).1 = sb at *
    generalize (scan s s.size 0 0).2 = sm at *
    unfold tokV tokC
    go_wp2
    refine bodyPost_ret (v := tokV 2 (s.extract 0 sb) 0 sm) (by simp [results, Tryz.results161, go_sem, tokV, tokC, hc2, hf2, hc1, hf1, hz1, hz2]) rfl ?_
    rw [hfin.out]
    exact ⟨rfl, (((hB.setCell (by simp) _).setCell (by simp) _).setCell (by simp) _).setCell (by simp) _⟩
  have hcap' : capB (r : Int) = false := by simpa using hcap
  clear hcap
  by_cases hsm : smallB (r : Int) = true
  · go_wp2_with (first | (go_at_call 211; refine (isCapital_any _ _).mono ?_; rintro e w' ⟨rfl, rfl⟩) | (go_at_call 213; refine (isSmall_any _ _).mono ?_; rintro e w' ⟨rfl, rfl⟩))
    refine (word_any _ _ _ hs).mono ?_
    rintro e w2 ⟨rfl, hb2⟩
    obtain ⟨hc2, hf2⟩ := bcell hb2
    have hz2 : w.heap.size < w2.heap.size := by have := hb2.size; omega
    have hB : Below w.heap.size w w2 := (((Below.refl w.heap.size w).alloc (Nat.le_refl _) _).trans (hb1.mono (by simp))).trans (hb2.mono (by omega))
    clear hb1 hb2 hT hT1
    have hfin : Hid (tokOf s 0 = tokV 1 (s.extract 0 (scan s s.size 0 0).1) 0 (scan s s.size 0 0).2) := by
      show tokOf s 0 = _; unfold tokOf firstT; rw [HD.out]; simp [hcap', hsm]
    generalize (scan s s.size 0 0).1 = sb at *
    generalize (scan s s.size 0 0).2 = sm at *
    unfold tokV tokC
    go_wp2
    refine bodyPost_ret (v := tokV 1 (s.extract 0 sb) 0 sm) (by simp [results, Tryz.results161, go_sem, tokV, tokC, hc2, hf2, hc1, hf1, hz1, hz2]) rfl ?_
    rw [hfin.out]
    exact ⟨rfl, (((hB.setCell (by simp) _).setCell (by simp) _).setCell (by simp) _).setCell (by simp) _⟩
  have hsm' : smallB (r : Int) = false := by simpa using hsm
  clear hsm
  have hwl : wd ≤ s.size := by have := Lib.width_le s h0; rw [HD.out] at this; exact this
  have hB : Below w.heap.size w w1 := ((Below.refl w.heap.size w).alloc (Nat.le_refl _) _).trans (hb1.mono (by simp))
  clear hb1 hT hT1
  unfold maxLen at hs
  by_cases hpre : Lib.hasPrefix s.data.toList [58, 45] = true
  · have hfin : Hid (tokOf s 0 = tokV 7 ⟨#[58, 45]⟩ 0 2) := by
      show tokOf s 0 = _
      unfold tokOf firstT; rw [HD.out]; simp only [hcap', hsm', hpre, Bool.false_eq_true, if_false, if_true]
      rw [pre_extract s hpre]; rfl
    clear HD
    go_wp2_with (first | (go_at_call 211; refine (isCapital_any _ _).mono ?_; rintro e w' ⟨rfl, rfl⟩) | (go_at_call 213; refine (isSmall_any _ _).mono ?_; rintro e w' ⟨rfl, rfl⟩) | (go_at_call 214; refine (Tryz.strings_HasPrefix _ _ _).mono ?_; rintro e w' ⟨rfl, rfl⟩))
    refine bodyPost_ret (v := tokV 7 ⟨#[58, 45]⟩ 0 2) (by simp [results, Tryz.results161, go_sem, tokV, tokC, hc1, hf1, hz1]) rfl ?_
    rw [hfin.out]
    exact ⟨rfl, (((hB.setCell (by simp) _).setCell (by simp) _).setCell (by simp) _).setCell (by simp) _⟩
  · have hpre' : Lib.hasPrefix s.data.toList [58, 45] = false := by simpa using hpre
    clear hpre
    have hfin : Hid (tokOf s 0 = tokV (signK r) (s.extract 0 wd) 0 1) := by
      show tokOf s 0 = _
      unfold tokOf firstT; rw [HD.out]; simp [hcap', hsm', hpre']
    clear HD
    go_wp2_with (first | (go_at_call 211; refine (isCapital_any _ _).mono ?_; rintro e w' ⟨rfl, rfl⟩) | (go_at_call 213; refine (isSmall_any _ _).mono ?_; rintro e w' ⟨rfl, rfl⟩) | (go_at_call 214; refine (Tryz.strings_HasPrefix _ _ _).mono ?_; rintro e w' ⟨rfl, rfl⟩))
    go_region_with (go_at_call 215; refine (signKind_any _ _).mono ?_; rintro e w' ⟨rfl, rfl⟩)
    all_goals
      go_wp2
      refine bodyPost_ret (v := tokV (signK r) (s.extract 0 wd) 0 1) (by simp [results, Tryz.results161, go_sem, tokV, tokC, hc1, hf1, hz1]) rfl ?_
      rw [hfin.out]
      exact ⟨rfl, ((((hB.setCell (by simp) _).setCell (by simp) _).setCell (by simp) _).setCell (by simp) _).drew⟩

end Go.Proofs.YtjajnhemgphefaaGreatDoor

namespace Go.Proofs.YtjajnhemgphefaaGreatDoor
open Go.RowKit Go.Shelf
set_option linter.unusedVariables false
set_option linter.unusedSimpArgs false
attribute [local go_sem] Oper.semAt_some

structure Tok where
  kind : Int
  text : ByteArray
  place : Nat
  runes : Nat
  ok : text.size ≤ 1200

def Tok.v (t : Tok) : Value := tokV t.kind t.text t.place t.runes

/-- The tokens of a text, by fuel. -/
def toks : Nat → ByteArray → Nat → List Tok
  | 0, _, _ => []
  | f + 1, s, p =>
    if s.size = 0 then []
    else if blankB (Utf8.decode s 0).1 then toks f (s.extract (Utf8.decode s 0).2 s.size) (p + 1)
    else if h : (s.extract 0 (firstT s).2.1).size ≤ 1200 then ⟨(firstT s).1, s.extract 0 (firstT s).2.1, p, (firstT s).2.2, h⟩ :: toks f (s.extract (firstT s).2.1 s.size) (p + (firstT s).2.2)
    else []

/-- What a round must leave alone: the blocks that hold a token. -/
def TokKept (W W' : World) : Prop := ∀ (k : Nat) (c : Array Value) (fz : Nat × Nat), W.heap[k]? = some (Obj.cells c 191 fz) → W'.heap[k]? = some (Obj.cells c 191 fz)

theorem TokKept.trans {A B C : World} (h : TokKept A B) (k : TokKept B C) : TokKept A C := fun i c fz hi => k i c fz (h i c fz hi)
theorem TokKept.put (W : World) (l : Nat) (o o' : Obj) (h : W.heap[l]? = some o) (ho : o.isCells = false) : TokKept W (W.putObj l o') := by
  intro k c fz hk
  by_cases e : k = l
  · subst e; rw [h] at hk; cases hk; simp [Obj.isCells] at ho
  · rw [(grownBy_putObj' W l o').block k (Array.getElem?_eq_some_iff.1 hk).1 (by simpa using e)]; exact hk

theorem below_grownBy {W W' : World} (h : Below W.heap.size W W') : W.grownBy W' none := ⟨h.os, h.tape, h.output, h.size, fun k hk _ => h.block k hk⟩

theorem scan_bounds (s : ByteArray) : ∀ f pos m, pos ≤ s.size → m ≤ pos → pos ≤ (scan s f pos m).1 ∧ (scan s f pos m).1 ≤ s.size ∧ (scan s f pos m).2 ≤ (scan s f pos m).1
  | 0, pos, m, h, hm => by simp [scan]; omega
  | f + 1, pos, m, h, hm => by
    unfold scan
    split
    · rename_i hp
      have h1 := Lib.decode_width_pos s pos hp
      have h2 := width_le_at s pos hp
      split
      · have := scan_bounds s f (pos + (Utf8.decode s pos).2) (m + 1) h2 (by omega)
        omega
      · simp; omega
    · simp; omega

theorem scan_first (s : ByteArray) (h0 : 0 < s.size) (hw : wordR (Utf8.decode s 0).1 = true) : 1 ≤ (scan s s.size 0 0).1 := by
  obtain ⟨n, hn⟩ : ∃ n, s.size = n + 1 := ⟨s.size - 1, by omega⟩
  rw [hn]
  unfold scan
  rw [if_pos h0, if_pos hw]
  have h1 := Lib.decode_width_pos s 0 h0
  have h2 := width_le_at s 0 h0
  have := scan_bounds s n (0 + (Utf8.decode s 0).2) (0 + 1) h2 (by omega)
  omega

theorem firstT_bounds (s : ByteArray) (h0 : 0 < s.size) : 1 ≤ (firstT s).2.1 ∧ (firstT s).2.1 ≤ s.size ∧ (firstT s).2.2 ≤ (firstT s).2.1 := by
  have hb := scan_bounds s s.size 0 0 (by omega) (by omega)
  have h1 := Lib.decode_width_pos s 0 h0
  have h2 := width_le_at s 0 h0
  unfold firstT
  split
  · rename_i hc
    have := scan_first s h0 (by simp [wordR, hc])
    simp; omega
  · split
    · rename_i hc
      have := scan_first s h0 (by simp [wordR, hc])
      simp; omega
    · split
      · rename_i hp
        have := Lib.hasPrefix_le hp
        simp at this
        simp; exact this
      · simp; omega

theorem toks_empty (f : Nat) (s : ByteArray) (p : Nat) (h : s.size = 0) : toks f s p = [] := by
  cases f <;> simp [toks, h]

theorem all_any (s : ByteArray) (w : World) :
    Calls Tryz.prog 96 #[.string s] w fun e w' => e = .returned (.func (.func 158) #[] #[.pointer (some ⟨w.heap.size, 0, none⟩)]) ∧ w' = w.alloc (.cells #[.string s] 9) := by
  go_enter Tryz.func96, Tryz.ntmps96
  go_wp2
  go_ret
  exact ⟨rfl, rfl⟩

theorem isEmpty_size (t : ByteArray) : t.toList.isEmpty = decide (t.size = 0) := by
  rw [← decide_eq_emptyBytes]
  apply decide_eq_decide.2
  constructor
  · intro h; rw [h]; rfl
  · intro h; exact ByteArray.size_eq_zero_iff.1 h

def strLen : Value → Nat | .string t => t.size | _ => 0

set_option maxHeartbeats 1000000 in
theorem all1_in (n : Nat) (hn : 1 ≤ n) (l B : Nat) (s : ByteArray) (hs : s.size ≤ 1200) (w0 : World) (hT : Lib.Utf8Tabs 0 1 w0) (J Jx : List Tok → World → Prop) (W : World)
    (hJ : AbidesFrom W.heap.size J)
    (hY : ∀ pre x W1, J pre W1 → pre.length < (toks s.size s 0).length → YieldAt Fence.wide (n - 1) Tryz.prog l #[x.v] W1 fun e W' =>
      (e = .returned (.bool true) ∧ J (pre ++ [x]) W' ∧ Below w0.heap.size W1 W' ∧ TokKept W1 W') ∨ (e = .returned (.bool false) ∧ Jx (pre ++ [x]) W'))
    (hW : Below w0.heap.size w0 W) (hB : W.cell? ⟨B, 0, none⟩ = some (.string s)) (h0 : J [] W) :
    CallsIn Fence.wide n Tryz.prog 158 #[.func (.yield l) #[] #[], .pointer (some ⟨B, 0, none⟩)] W fun e W' => (∃ v, e = .returned v) ∧
      ((∃ ys, ys = toks s.size s 0 ∧ J ys W') ∨ (∃ pre, pre <+: toks s.size s 0 ∧ Jx pre W')) := by
  refine callsIn_of_wp Tryz.func158 rfl trivial ?_ rfl
  simp only [Tryz.ntmps158, List.size_toArray, List.length_cons, List.length_nil, Nat.reduceAdd, Nat.reduceSub, Array.replicate_succ, Array.replicate_zero, List.push_toArray, List.append_toArray, List.nil_append, List.cons_append]
  gi_wp2
  generalize hxs : toks s.size s 0 = xs at *
  have HX : Hid (toks s.size s 0 = xs) := hxs
  clear hxs
  gi_loopw [3, 4] (fun rest place wr => ∃ (pre : List Tok) (t : ByteArray) (p f : Nat), rest = .string t ∧ place = .int .i64 p ∧ Hid (pre ++ toks f t p = xs) ∧ t.size ≤ f ∧ p + t.size ≤ s.size ∧ J pre wr ∧ Below w0.heap.size w0 wr )
    (fun rest _ _ => strLen rest)
  case atStart => exact ⟨[], s, 0, s.size, rfl, rfl, HX, by omega, by omega, h0, hW⟩
  case round =>
    obtain ⟨pre, t, p, f, rfl, rfl, hx, hf, hp, hJs, hB0⟩ := hrel
    by_cases ht : t.size = 0
    · have he : t.toList.isEmpty = true := by rw [isEmpty_size]; simp [ht]
      gi_wp2
      go_end0
      exact ⟨⟨_, rfl⟩, .inl ⟨pre, by rw [← HX.out] at hx; rw [← hx.out, toks_empty f t p ht]; simp, hJs⟩⟩
    · have he : t.toList.isEmpty = false := by rw [isEmpty_size]; simp [ht]
      have h1 : 0 < t.size := by omega
      obtain ⟨g, rfl⟩ : ∃ g, f = g + 1 := ⟨f - 1, by omega⟩
      have hdg : Lib.decodeGo t = Utf8.decode t 0 := by unfold Lib.decodeGo; rw [if_neg ht]
      have hwp := Lib.decode_width_pos t 0 h1
      have hwl := width_le_at t 0 h1
      rw [Nat.zero_add] at hwl
      have hTr := Utf8Tabs_below hT hB0
      have hdec : Calls Tryz.prog 159 #[.string t] wr fun e w' => e = .returned (.tuple #[.int .i32 (Utf8.decode t 0).1, .int .i64 (Utf8.decode t 0).2]) ∧ Below wr.heap.size wr w' := by
        rw [← hdg]; exact Tryz.utf8_DecodeRuneInString t wr hTr
      generalize hd : Utf8.decode t 0 = d at *
      obtain ⟨r, wd⟩ := d
      have HD : Hid (Utf8.decode t 0 = (r, wd)) := hd
      clear hd hdg
      simp only at hwp hwl hdec
      by_cases hbl : blankB (r : Int) = true
      · gi_wp2_with (first | (refine ⟨trivial, ?_⟩; gi_at_call 159; refine (callsIn_wide.2 hdec).mono ?_; rintro e w1 ⟨rfl, hb1⟩) | (refine ⟨trivial, ?_⟩; gi_at_call 160; refine (callsIn_wide.2 (isBlank_any _ _)).mono ?_; rintro e w' ⟨rfl, rfl⟩))
        go_roundw
        case rel =>
          refine ⟨pre, t.extract wd t.size, p + 1, g, rfl, by go_num, ?_, by simp; omega, by simp; omega, hJ pre wr _ none hJs (below_grownBy hb1) (fun r e => by cases e), hB0.trans (hb1.mono hB0.size)⟩
          have := hx.out
          unfold toks at this
          rw [if_neg ht, HD.out, if_pos hbl] at this
          exact this
        case measure => simp [strLen]; omega
      · have hbl' : blankB (r : Int) = false := by simpa using hbl
        clear hbl
        have hok : (t.extract 0 (firstT t).2.1).size ≤ 1200 := by simp; omega
        have hx2 : pre ++ ⟨(firstT t).1, t.extract 0 (firstT t).2.1, p, (firstT t).2.2, hok⟩ :: toks g (t.extract (firstT t).2.1 t.size) (p + (firstT t).2.2) = xs := by
          have := hx.out
          unfold toks at this
          rw [if_neg ht, HD.out, if_neg (by simp [hbl']), dif_pos hok] at this
          exact this
        have hfb := firstT_bounds t h1
        have hfst : ∀ w1, Below wr.heap.size wr w1 → Calls Tryz.prog 161 #[.string t] w1 fun e w' => e = .returned (tokV (firstT t).1 (t.extract 0 (firstT t).2.1) 0 (firstT t).2.2) ∧ Below w1.heap.size w1 w' := by
          intro w1 hb
          exact first_any t w1 (by unfold maxLen; omega) h1 (Utf8Tabs_below hT (hB0.trans (hb.mono hB0.size)))
        generalize hF : firstT t = ft at *
        obtain ⟨fk, fb, fr⟩ := ft
        simp only at hx2 hfb hfst hok
        have HX2 : Hid (pre ++ ⟨fk, t.extract 0 fb, p, fr, hok⟩ :: toks g (t.extract fb t.size) (p + fr) = xs) := hx2
        clear hx2 hx HD hF
        have HF : Hid (∀ w1, Below wr.heap.size wr w1 → Calls Tryz.prog 161 #[.string t] w1 fun e w' => e = .returned (tokV fk (t.extract 0 fb) 0 fr) ∧ Below w1.heap.size w1 w') := hfst
        clear hfst
        have HJ : Hid (AbidesFrom W.heap.size J) := hJ
        have HY := hY
        clear hY hJ
        gi_wp2_with (first | (refine ⟨trivial, ?_⟩; gi_at_call 159; refine (callsIn_wide.2 hdec).mono ?_; rintro e w1 ⟨rfl, hb1⟩) | (refine ⟨trivial, ?_⟩; gi_at_call 160; refine (callsIn_wide.2 (isBlank_any _ _)).mono ?_; rintro e w' ⟨rfl, rfl⟩))
        refine ⟨trivial, ?_⟩
        refine (callsIn_wide.2 (HF.out _ hb1)).mono ?_
        rintro e w2 ⟨rfl, hb2⟩
        have hb12 : Below wr.heap.size wr w2 := hb1.trans (hb2.mono hb1.size)
        have hb3 := hb12.alloc hb12.size (.cells #[.int .i64 fk, .string (t.extract 0 fb), .int .i64 p, .int .i64 fr] 191)
        obtain ⟨fn, tmps, assign, body, hy, hR⟩ := HY pre ⟨fk, t.extract 0 fb, p, fr, hok⟩ (w2.alloc (.cells #[.int .i64 fk, .string (t.extract 0 fb), .int .i64 p, .int .i64 fr] 191)) (HJ.out pre wr _ none hJs (below_grownBy hb3) (fun r e => by cases e)) (by rw [← HX2.out]; simp)
        dsimp only [Tok.v] at hy
        have hsz2 : (t.extract 0 fb).size = fb := by simp; omega
        unfold tokV tokC at hy ⊢
        generalize hte : t.extract 0 fb = te at *
        gi_wp2
        refine hR.mono ?_
        rintro e W3 (⟨rfl, hJ3, hk3, htk⟩ | ⟨rfl, hJx3⟩)
        · have hblk : W3.heap[w2.heap.size]? = some (.cells #[.int .i64 fk, .string te, .int .i64 p, .int .i64 fr] 191 (0, 0)) := htk _ _ _ (World.alloc_heap_new w2 _)
          have hcA : W3.cell? ⟨w2.heap.size, 1, none⟩ = some (.string te) := by simp [World.cell?, hblk]
          have hcB : W3.cell? ⟨w2.heap.size, 3, none⟩ = some (.int .i64 fr) := by simp [World.cell?, hblk]
          have hi1 : (fb : Int) ≤ (t.size : Int) := by omega
          clear hblk htk hy hR
          gi_wp2
          gi_region
          all_goals
            gi_wp2
            go_roundw
            case rel =>
              refine ⟨pre ++ [⟨fk, te, p, fr, hok⟩], t.extract fb t.size, p + fr, g, by simp [hsz2], by go_num, ?_, by simp; omega, by simp; omega, HJ.out _ _ _ none hJ3 (below_grownBy ((Below.refl _ W3).drew)) (fun r e => by cases e), ((hB0.trans (hb3.mono hB0.size)).trans hk3).drew⟩
              have := HX2.out
              show _ = _
              rw [← this]; simp
            case measure => simp [strLen, hsz2]; omega
        · gi_wp2
          refine bodyPost_ret (results_none rfl _ _ _) rfl ?_
          exact ⟨⟨_, rfl⟩, .inr ⟨pre ++ [⟨fk, te, p, fr, hok⟩], ⟨toks g (t.extract fb t.size) (p + fr), by rw [HX.out, ← HX2.out]; simp⟩, hJx3⟩⟩

/-- What a round over tokens keeps: all below the caller's own memory, and every token's block. -/
def RoundKept (n₀ : Nat) (A B : World) : Prop := Below n₀ A B ∧ TokKept A B

theorem RoundKept.tr {n₀ : Nat} {A B C : World} (h : RoundKept n₀ A B) (k : RoundKept n₀ B C) : RoundKept n₀ A C := ⟨h.1.trans k.1, h.2.trans k.2⟩
theorem RoundKept.put {n₀ : Nat} {w : World} (hn : n₀ ≤ w.heap.size) (W : World) (l : Nat) (o o' : Obj) (hl : w.heap.size ≤ l) (h : W.heap[l]? = some o) (ho : o.isCells = false) (hk : o.isWalk = false) : RoundKept n₀ W (W.putObj l o') :=
  ⟨belowK_b hn W l o o' hl h ho hk, TokKept.put W l o o' h ho⟩

theorem all_stops (n : Nat) (hn : 1 ≤ n) (B : Nat) (s : ByteArray) (hs : s.size ≤ 1200) (w0 : World) (hT : Lib.Utf8Tabs 0 1 w0)
    (w : World) (hw : Below w0.heap.size w0 w) (hBw : B < w.heap.size) (hc : w.cell? ⟨B, 0, none⟩ = some (.string s)) :
    SeqStopsK Fence.wide n Tryz.prog 158 #[.pointer (some ⟨B, 0, none⟩)] (fun x : Tok => #[x.v]) (RoundKept w0.heap.size) (fun ys => ys = toks s.size s 0) (fun pre => pre <+: toks s.size s 0) (toks s.size s 0).length w :=
  fun l J Jx W hW hJ _ hY h0 => all1_in n hn l B s hs w0 hT J Jx W hJ hY (hw.trans (hW.mono hw.size)) ((hW.cell (p := ⟨B, 0, none⟩) hBw).trans hc) h0

end Go.Proofs.YtjajnhemgphefaaGreatDoor
