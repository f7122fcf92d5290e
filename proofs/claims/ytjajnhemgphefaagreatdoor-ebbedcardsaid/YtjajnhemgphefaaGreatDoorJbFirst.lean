/-
  The tests on one rune (blank, small, capital, digit, sign): each call answers what the plain function says, for every rune, and leaves the world as it was.
  tokens.word: the letters and digits that a text begins with, for every text; nothing that lay before is turned.
  tokens.first: the token that a text, not empty, begins with; nothing that lay before is turned. Condition: the two tables of package utf8 hold what their text lays.
-/
import Derived.Test.YtjajnhemgphefaaGreatDoorRows
import Derived.WalkKit
import Derived.WalkSpells
import Derived.WalkLawsBesides
import Derived.Lib.RuneCount
import Derived.Lib.RuneCountTail
import Derived.Lib.QuoteLoop
import Derived.Test.YtjajnhemgphefaaGreatDoorShelf
import Derived.Deep.RegionWith
namespace Go.Proofs.YtjajnhemgphefaaGreatDoor
open Go.RowKit
set_option linter.unusedVariables false
set_option linter.unusedSimpArgs false

def blankB (r : Int) : Bool := decide (r = 32 ∨ r = 9 ∨ r = 10)
def smallB (r : Int) : Bool := decide ((97 ≤ r ∧ r ≤ 122) ∨ (945 ≤ r ∧ r ≤ 969))
def capB (r : Int) : Bool := decide ((65 ≤ r ∧ r ≤ 90) ∨ (913 ≤ r ∧ r ≤ 937 ∧ r ≠ 930))
def digB (r : Int) : Bool := decide (48 ≤ r ∧ r ≤ 57)
def signK (r : Int) : Int := if r = 40 then 3 else if r = 41 then 4 else if r = 44 then 5 else if r = 46 then 6 else 0

theorem ret_bool {a b : Bool} (h : a = b) : Ending.returned (.bool a) = .returned (.bool b) := by rw [h]
theorem ret_int {k : IntKind} {a b : Int} (h : a = b) : Ending.returned (.int k a) = .returned (.int k b) := by rw [h]

set_option maxHeartbeats 400000 in
theorem isBlank_any (r : Int) (w : World) :
    Calls Tryz.prog 160 #[.int .i32 r] w fun e w' => e = .returned (.bool (blankB r)) ∧ w' = w := by
  go_enter Tryz.func160, Tryz.ntmps160
  go_wp2
  all_goals
    go_ret
    exact ⟨ret_bool (by rw [Bool.eq_iff_iff]; simp [blankB] <;> omega), rfl⟩

set_option maxHeartbeats 400000 in
theorem isSmall_any (r : Int) (w : World) :
    Calls Tryz.prog 213 #[.int .i32 r] w fun e w' => e = .returned (.bool (smallB r)) ∧ w' = w := by
  go_enter Tryz.func213, Tryz.ntmps213
  go_wp2
  all_goals
    go_ret
    exact ⟨ret_bool (by rw [Bool.eq_iff_iff]; simp [smallB] <;> omega), rfl⟩

set_option maxHeartbeats 400000 in
theorem isCapital_any (r : Int) (w : World) :
    Calls Tryz.prog 211 #[.int .i32 r] w fun e w' => e = .returned (.bool (capB r)) ∧ w' = w := by
  go_enter Tryz.func211, Tryz.ntmps211
  go_wp2
  all_goals
    go_ret
    exact ⟨ret_bool (by rw [Bool.eq_iff_iff]; simp [capB] <;> omega), rfl⟩

set_option maxHeartbeats 400000 in
theorem isDigit_any (r : Int) (w : World) :
    Calls Tryz.prog 244 #[.int .i32 r] w fun e w' => e = .returned (.bool (digB r)) ∧ w' = w := by
  go_enter Tryz.func244, Tryz.ntmps244
  go_wp2
  all_goals
    go_ret
    exact ⟨ret_bool (by rw [Bool.eq_iff_iff]; simp [digB] <;> omega), rfl⟩

set_option maxHeartbeats 400000 in
theorem signKind_any (r : Int) (w : World) :
    Calls Tryz.prog 215 #[.int .i32 r] w fun e w' => e = .returned (.int .i64 (signK r)) ∧ w' = w := by
  go_enter Tryz.func215, Tryz.ntmps215
  go_wp2
  all_goals
    go_ret
    exact ⟨ret_int (by simp_all [signK]), rfl⟩

end Go.Proofs.YtjajnhemgphefaaGreatDoor

namespace Go.Proofs.YtjajnhemgphefaaGreatDoor
open Go.RowKit
set_option linter.unusedVariables false
set_option linter.unusedSimpArgs false

def wordR (r : Nat) : Bool := capB r || smallB r || digB r

def scan (s : ByteArray) : Nat → Nat → Nat → Nat × Nat
  | 0, pos, m => (pos, m)
  | f + 1, pos, m => if pos < s.size then (if wordR (Utf8.decode s pos).1 then scan s f (pos + (Utf8.decode s pos).2) (m + 1) else (pos, m)) else (pos, m)

theorem scan_end (s : ByteArray) (f pos m : Nat) (h : ¬ pos < s.size) : scan s f pos m = (pos, m) := by
  cases f <;> simp [scan, h]
theorem scan_stop (s : ByteArray) (f pos m : Nat) (h : wordR (Utf8.decode s pos).1 = false) : scan s f pos m = (pos, m) := by
  cases f <;> simp [scan, h]

theorem width_le_at (s : ByteArray) (pos : Nat) (h : pos < s.size) : pos + (Utf8.decode s pos).2 ≤ s.size := by
  have h1 := Lib.tail_decode s pos 0
  rw [Nat.add_zero] at h1
  have h2 := Lib.width_le (s.extract pos s.size) (by simp; omega)
  rw [h1] at h2
  simp at h2
  omega

theorem iterPos1 (w : World) (O : Obj) (s : ByteArray) (p : Nat) : ((w.alloc O).alloc (.stringIter s p)).iterPos (w.heap.size + 1) = p := by
  have := World.iterPos_iter (w.alloc O) s p
  rw [World.size_alloc] at this
  exact this

def tokC (k : Int) (t : ByteArray) (p m : Int) : Array Value := #[.int .i64 k, .string t, .int .i64 p, .int .i64 m]
def tokV (k : Int) (t : ByteArray) (p m : Int) : Value := .agg (tokC k t p m)

theorem extract_all (s : ByteArray) : s.extract 0 s.size = s := by
  simp

set_option maxHeartbeats 1000000 in
theorem word_any (k : Int) (s : ByteArray) (w : World) (hs : s.size ≤ maxLen) :
    Calls Tryz.prog 212 #[.int .i64 k, .string s] w fun e w' =>
      e = .returned (tokV k (s.extract 0 (scan s s.size 0 0).1) 0 (scan s s.size 0 0).2) ∧ Below w.heap.size w w' := by
  unfold maxLen at hs
  go_enter Tryz.func212, Tryz.ntmps212
  go_wp2
  go_loopw [5] (fun n w' => ∃ (pos b m : Nat), w' = (w.alloc (.cells #[.int .i64 0, .string ⟨#[]⟩, .int .i64 0, .int .i64 0] 191)).alloc (.stringIter s pos) ∧ n = .int .i64 m ∧ scan s b pos m = scan s s.size 0 0 ∧ s.size ≤ pos + b ∧ m ≤ pos ∧ pos ≤ s.size) (fun _ w' => s.size - w'.iterPos (w.heap.size + 1))
  case atStart => exact ⟨0, s.size, 0, rfl, rfl, rfl, by omega, by omega, by omega⟩
  case round =>
    obtain ⟨pos, b, m, rfl, rfl, hc, hb, hm, hle⟩ := hrel
    have HC : Hid (scan s b pos m = scan s s.size 0 0) := hc
    clear hc
    have hsz : (w.alloc (.cells #[.int .i64 0, .string ⟨#[]⟩, .int .i64 0, .int .i64 0] 191)).heap.size = w.heap.size + 1 := by simp
    by_cases hp : pos < s.size
    · have hnx : ∀ ty, (Instr.next (.pointer (some ⟨w.heap.size + 1, 0, none⟩)) true ty).run Tryz.prog ((w.alloc (.cells #[.int .i64 0, .string ⟨#[]⟩, .int .i64 0, .int .i64 0] 191)).alloc (.stringIter s pos)) = .ok (.tuple #[.bool true, .int .i64 pos, .int .i32 (Utf8.decode s pos).1]) ((w.alloc (.cells #[.int .i64 0, .string ⟨#[]⟩, .int .i64 0, .int .i64 0] 191)).alloc (.stringIter s (pos + (Utf8.decode s pos).2))) := fun ty => hsz ▸ run_next_any (w.alloc (.cells #[.int .i64 0, .string ⟨#[]⟩, .int .i64 0, .int .i64 0] 191)) s pos ty hp
      have hwd := Lib.decode_width_pos s pos hp
      have hwl := width_le_at s pos hp
      generalize hd : Utf8.decode s pos = d at *
      have HD : Hid (Utf8.decode s pos = d) := hd
      clear hd
      obtain ⟨r, wd⟩ := d
      simp only at hwd hwl hnx
      have hstep : Hid (wordR r = true → ∃ b', b = b' + 1 ∧ scan s b' (pos + wd) (m + 1) = scan s s.size 0 0) := by
        intro hw
        cases b with
        | zero => omega
        | succ b' => exact ⟨b', rfl, by rw [← HC.out]; simp [scan, hp, HD.out, hw]⟩
      have hstop : Hid (wordR r = false → scan s s.size 0 0 = (pos, m)) := by
        intro hw
        rw [← HC.out]; exact scan_stop s b pos m (by rw [HD.out]; exact hw)
      clear HC HD
      by_cases hcap : capB (r : Int) = true
      · go_wp2_with (first | (go_at_call 211; refine (isCapital_any _ _).mono ?_; rintro e w' ⟨rfl, rfl⟩) | (go_at_call 213; refine (isSmall_any _ _).mono ?_; rintro e w' ⟨rfl, rfl⟩) | (go_at_call 244; refine (isDigit_any _ _).mono ?_; rintro e w' ⟨rfl, rfl⟩))
        obtain ⟨b', rfl, hs'⟩ := hstep.out (by simp [wordR, hcap])
        go_roundw
        case rel => exact ⟨pos + wd, b', m + 1, rfl, by go_num, hs', by omega, by omega, by omega⟩
        case measure => rw [iterPos1, iterPos1]; omega
      by_cases hsm : smallB (r : Int) = true
      · have hcap' : capB (r : Int) = false := by simpa using hcap
        clear hcap
        go_wp2_with (first | (go_at_call 211; refine (isCapital_any _ _).mono ?_; rintro e w' ⟨rfl, rfl⟩) | (go_at_call 213; refine (isSmall_any _ _).mono ?_; rintro e w' ⟨rfl, rfl⟩) | (go_at_call 244; refine (isDigit_any _ _).mono ?_; rintro e w' ⟨rfl, rfl⟩))
        obtain ⟨b', rfl, hs'⟩ := hstep.out (by simp [wordR, hsm])
        go_roundw
        case rel => exact ⟨pos + wd, b', m + 1, rfl, by go_num, hs', by omega, by omega, by omega⟩
        case measure => rw [iterPos1, iterPos1]; omega
      by_cases hdg : digB (r : Int) = true
      · have hcap' : capB (r : Int) = false := by simpa using hcap
        have hsm' : smallB (r : Int) = false := by simpa using hsm
        clear hcap hsm
        go_wp2_with (first | (go_at_call 211; refine (isCapital_any _ _).mono ?_; rintro e w' ⟨rfl, rfl⟩) | (go_at_call 213; refine (isSmall_any _ _).mono ?_; rintro e w' ⟨rfl, rfl⟩) | (go_at_call 244; refine (isDigit_any _ _).mono ?_; rintro e w' ⟨rfl, rfl⟩))
        obtain ⟨b', rfl, hs'⟩ := hstep.out (by simp [wordR, hdg])
        go_roundw
        case rel => exact ⟨pos + wd, b', m + 1, rfl, by go_num, hs', by omega, by omega, by omega⟩
        case measure => rw [iterPos1, iterPos1]; omega
      have hcap' : capB (r : Int) = false := by simpa using hcap
      have hsm' : smallB (r : Int) = false := by simpa using hsm
      have hdg' : digB (r : Int) = false := by simpa using hdg
      clear hcap hsm hdg
      have hfin : Hid (scan s s.size 0 0 = (pos, m)) := hstop.out (by simp [wordR, hcap', hsm', hdg'])
      clear hstop hstep
      go_wp2_with (first | (go_at_call 211; refine (isCapital_any _ _).mono ?_; rintro e w' ⟨rfl, rfl⟩) | (go_at_call 213; refine (isSmall_any _ _).mono ?_; rintro e w' ⟨rfl, rfl⟩) | (go_at_call 244; refine (isDigit_any _ _).mono ?_; rintro e w' ⟨rfl, rfl⟩))
      refine bodyPost_ret (v := tokV k (s.extract 0 pos) 0 m) (by simp [results, Tryz.results212, go_sem, tokV, tokC]) rfl ?_
      rw [hfin.out]
      exact ⟨rfl, ((Below.refl _ _).alloc (Nat.le_refl _) _).alloc (by simp) _⟩
    · have hnx : ∀ ty, (Instr.next (.pointer (some ⟨w.heap.size + 1, 0, none⟩)) true ty).run Tryz.prog ((w.alloc (.cells #[.int .i64 0, .string ⟨#[]⟩, .int .i64 0, .int .i64 0] 191)).alloc (.stringIter s pos)) = .ok (.tuple #[.bool false]) ((w.alloc (.cells #[.int .i64 0, .string ⟨#[]⟩, .int .i64 0, .int .i64 0] 191)).alloc (.stringIter s pos)) := fun ty => hsz ▸ run_next_end (w.alloc (.cells #[.int .i64 0, .string ⟨#[]⟩, .int .i64 0, .int .i64 0] 191)) s pos ty hp
      have hfin : Hid (scan s s.size 0 0 = (pos, m)) := by rw [← HC.out]; exact scan_end s b pos m hp
      clear HC
      have hpe : Hid (s.extract 0 pos = s) := by rw [show pos = s.size by omega]; exact extract_all s
      go_wp2
      refine bodyPost_ret (v := tokV k s 0 m) (by simp [results, Tryz.results212, go_sem, tokV, tokC]) rfl ?_
      rw [hfin.out]
      exact ⟨by rw [hpe.out], ((Below.refl _ _).alloc (Nat.le_refl _) _).alloc (by simp) _⟩

end Go.Proofs.YtjajnhemgphefaaGreatDoor

namespace Go.Proofs.YtjajnhemgphefaaGreatDoor
open Go.RowKit
set_option linter.unusedVariables false
set_option linter.unusedSimpArgs false

theorem bcell {W w1 : World} (hb : Below W.heap.size W w1) : (∀ b o, b < W.heap.size → w1.cell? ⟨b, o, none⟩ = W.cell? ⟨b, o, none⟩) ∧ (∀ b o, b < W.heap.size → w1.frozen? ⟨b, o, none⟩ = W.frozen? ⟨b, o, none⟩) :=
  ⟨fun b o h => hb.cell (p := ⟨b, o, none⟩) h, fun b o h => hb.frozen (p := ⟨b, o, none⟩) h⟩

/-- The first token of a text: its kind, its bytes, its runes. -/
def firstT (s : ByteArray) : Int × Nat × Nat :=
  if capB (Utf8.decode s 0).1 then (2, (scan s s.size 0 0).1, (scan s s.size 0 0).2)
  else if smallB (Utf8.decode s 0).1 then (1, (scan s s.size 0 0).1, (scan s s.size 0 0).2)
  else if Lib.hasPrefix s.data.toList [58, 45] then (7, 2, 2)
  else (signK (Utf8.decode s 0).1, (Utf8.decode s 0).2, 1)

def tokOf (s : ByteArray) (p : Int) : Value := tokV (firstT s).1 (s.extract 0 (firstT s).2.1) p (firstT s).2.2

theorem pre_extract (s : ByteArray) (h : Lib.hasPrefix s.data.toList [58, 45] = true) : s.extract 0 2 = ⟨#[58, 45]⟩ := by
  have h1 : [58, 45] <+: s.data.toList := by simpa [Lib.hasPrefix] using h
  obtain ⟨t, ht⟩ := h1
  have hs : s = ⟨([58, 45] ++ t).toArray⟩ := by
    cases s; simp at ht; simp [ht]
  rw [hs]
  apply ByteArray.ext
  simp

set_option maxHeartbeats 1000000 in
theorem first_any (s : ByteArray) (w : World) (hs : s.size ≤ maxLen) (h0 : 0 < s.size) (hT : Lib.Utf8Tabs 0 1 w) :
    Calls Tryz.prog 161 #[.string s] w fun e w' => e = .returned (tokOf s 0) ∧ Below w.heap.size w w' := by
  have hdg : Lib.decodeGo s = Utf8.decode s 0 := by
    unfold Lib.decodeGo; rw [if_neg (by omega)]
  have hT1 := Utf8Tabs_below hT ((Below.refl w.heap.size w).alloc (Nat.le_refl _) (.cells #[.int .i64 0, .string ⟨#[]⟩, .int .i64 0, .int .i64 0] 191))
  go_enter Tryz.func161, Tryz.ntmps161
  go_wp2_with fail
  refine (Tryz.utf8_DecodeRuneInString _ _ hT1).mono ?_
  rintro e w1 ⟨rfl, hb1⟩
  rw [hdg]
  generalize hd : Utf8.decode s 0 = d
  obtain ⟨r, wd⟩ := d
  have HD : Hid (Utf8.decode s 0 = (r, wd)) := hd
  clear hd hdg
  obtain ⟨hc1, hf1⟩ := bcell hb1
  have hz1 : w.heap.size < w1.heap.size := by have := hb1.size; simp at this; omega
  by_cases hcap : capB (r : Int) = true
  · go_wp2_with (go_at_call 211; refine (isCapital_any _ _).mono ?_; rintro e w' ⟨rfl, rfl⟩)
    refine (word_any _ _ _ hs).mono ?_
    rintro e w2 ⟨rfl, hb2⟩
    obtain ⟨hc2, hf2⟩ := bcell hb2
    have hz2 : w.heap.size < w2.heap.size := by have := hb2.size; omega
    have hB : Below w.heap.size w w2 := (((Below.refl w.heap.size w).alloc (Nat.le_refl _) _).trans (hb1.mono (by simp))).trans (hb2.mono (by omega))
    clear hb1 hb2 hT hT1
    have hfin : Hid (tokOf s 0 = tokV 2 (s.extract 0 (scan s s.size 0 0).1) 0 (scan s s.size 0 0).2) := by
      show tokOf s 0 = _; unfold tokOf firstT; rw [HD.out]; simp [hcap]
    generalize (scan s s.size 0 0).1 = sb at *
    generalize (scan s s.size 0 0).2 = sm at *
    unfold tokV tokC
    go_wp2
    refine bodyPost_ret (v := tokV 2 (s.extract 0 sb) 0 sm) (by simp [results, Tryz.results161, go_sem, tokV, tokC, hc2, hf2, hc1, hf1, hz1, hz2]) rfl ?_
    rw [hfin.out]
    exact ⟨rfl, (((hB.setCell (by simp) _).setCell (by simp) _).setCell (by simp) _).setCell (by simp) _⟩
  have hcap' : capB (r : Int) = false := by simpa using hcap
  clear hcap
  by_cases hsm : smallB (r : Int) = true
  · go_wp2_with (first | (go_at_call 211; refine (isCapital_any _ _).mono ?_; rintro e w' ⟨rfl, rfl⟩) | (go_at_call 213; refine (isSmall_any _ _).mono ?_; rintro e w' ⟨rfl, rfl⟩))
    refine (word_any _ _ _ hs).mono ?_
    rintro e w2 ⟨rfl, hb2⟩
    obtain ⟨hc2, hf2⟩ := bcell hb2
    have hz2 : w.heap.size < w2.heap.size := by have := hb2.size; omega
    have hB : Below w.heap.size w w2 := (((Below.refl w.heap.size w).alloc (Nat.le_refl _) _).trans (hb1.mono (by simp))).trans (hb2.mono (by omega))
    clear hb1 hb2 hT hT1
    have hfin : Hid (tokOf s 0 = tokV 1 (s.extract 0 (scan s s.size 0 0).1) 0 (scan s s.size 0 0).2) := by
      show tokOf s 0 = _; unfold tokOf firstT; rw [HD.out]; simp [hcap', hsm]
    generalize (scan s s.size 0 0).1 = sb at *
    generalize (scan s s.size 0 0).2 = sm at *
    unfold tokV tokC
    go_wp2
    refine bodyPost_ret (v := tokV 1 (s.extract 0 sb) 0 sm) (by simp [results, Tryz.results161, go_sem, tokV, tokC, hc2, hf2, hc1, hf1, hz1, hz2]) rfl ?_
    rw [hfin.out]
    exact ⟨rfl, (((hB.setCell (by simp) _).setCell (by simp) _).setCell (by simp) _).setCell (by simp) _⟩
  have hsm' : smallB (r : Int) = false := by simpa using hsm
  clear hsm
  have hwl : wd ≤ s.size := by have := Lib.width_le s h0; rw [HD.out] at this; exact this
  have hB : Below w.heap.size w w1 := ((Below.refl w.heap.size w).alloc (Nat.le_refl _) _).trans (hb1.mono (by simp))
  clear hb1 hT hT1
  unfold maxLen at hs
  by_cases hpre : Lib.hasPrefix s.data.toList [58, 45] = true
  · have hfin : Hid (tokOf s 0 = tokV 7 ⟨#[58, 45]⟩ 0 2) := by
      show tokOf s 0 = _
      unfold tokOf firstT; rw [HD.out]; simp only [hcap', hsm', hpre, Bool.false_eq_true, if_false, if_true]
      rw [pre_extract s hpre]; rfl
    clear HD
    go_wp2_with (first | (go_at_call 211; refine (isCapital_any _ _).mono ?_; rintro e w' ⟨rfl, rfl⟩) | (go_at_call 213; refine (isSmall_any _ _).mono ?_; rintro e w' ⟨rfl, rfl⟩) | (go_at_call 214; refine (Tryz.strings_HasPrefix _ _ _).mono ?_; rintro e w' ⟨rfl, rfl⟩))
    refine bodyPost_ret (v := tokV 7 ⟨#[58, 45]⟩ 0 2) (by simp [results, Tryz.results161, go_sem, tokV, tokC, hc1, hf1, hz1]) rfl ?_
    rw [hfin.out]
    exact ⟨rfl, (((hB.setCell (by simp) _).setCell (by simp) _).setCell (by simp) _).setCell (by simp) _⟩
  · have hpre' : Lib.hasPrefix s.data.toList [58, 45] = false := by simpa using hpre
    clear hpre
    have hfin : Hid (tokOf s 0 = tokV (signK r) (s.extract 0 wd) 0 1) := by
      show tokOf s 0 = _
      unfold tokOf firstT; rw [HD.out]; simp [hcap', hsm', hpre']
    clear HD
    go_wp2_with (first | (go_at_call 211; refine (isCapital_any _ _).mono ?_; rintro e w' ⟨rfl, rfl⟩) | (go_at_call 213; refine (isSmall_any _ _).mono ?_; rintro e w' ⟨rfl, rfl⟩) | (go_at_call 214; refine (Tryz.strings_HasPrefix _ _ _).mono ?_; rintro e w' ⟨rfl, rfl⟩))
    go_region_with (go_at_call 215; refine (signKind_any _ _).mono ?_; rintro e w' ⟨rfl, rfl⟩)
    all_goals
      go_wp2
      refine bodyPost_ret (v := tokV (signK r) (s.extract 0 wd) 0 1) (by simp [results, Tryz.results161, go_sem, tokV, tokC, hc1, hf1, hz1]) rfl ?_
      rw [hfin.out]
      exact ⟨rfl, ((((hB.setCell (by simp) _).setCell (by simp) _).setCell (by simp) _).setCell (by simp) _).drew⟩

end Go.Proofs.YtjajnhemgphefaaGreatDoor
