/-
  The tests on one rune (blank, small, capital, digit, sign): each call answers what the plain function says, for every rune, and leaves the world as it was.
  tokens.word: the letters and digits that a text begins with, for every text; nothing that lay before is turned.
  The document's own answer, in plain functions: how many bytes the rune has that begins at a place, and of what kind it is: as Go reads the rune there.
  The document's own answer, in plain functions: the runes of a text.
  tokens.first: the token that a text, not empty, begins with; nothing that lay before is turned. Condition: the two tables of package utf8 hold what their text lays.
  tokens.All: the iterator over a text hands out the text's tokens, in their order, to whatever loop keeps its word, and ends early only where the loop bids it.
-/
import Derived.Test.YtjajnhemgphefaaGreatDoorRows
import Derived.WalkKit
import Derived.WalkSpells
import Derived.WalkLawsBesides
import Derived.Lib.RuneCount
import Derived.Lib.RuneCountTail
import Derived.Lib.QuoteLoop
import Derived.Test.YtjajnhemgphefaaGreatDoorShelf
import Derived.Deep.RegionWith
import Derived.Lib.Bytes2
import Derived.RangeFuncNested
import Derived.RangeFuncBound
import Derived.RangeFuncCalls
import Derived.RangeFuncLeaves
import Derived.Shelf.Abstract
import Derived.Shelf.RegionOpen
import Derived.OwnWalkIn
import Derived.TacticsInMore
import Derived.LoopNIn
import Derived.LoopIn
namespace Go.Proofs.YtjajnhemgphefaaGreatDoor
open Go.RowKit
set_option linter.unusedVariables false
set_option linter.unusedSimpArgs false

def blankB (r : Int) : Bool := decide (r = 32 ∨ r = 9 ∨ r = 10)
def smallB (r : Int) : Bool := decide ((97 ≤ r ∧ r ≤ 122) ∨ (945 ≤ r ∧ r ≤ 969))
def capB (r : Int) : Bool := decide ((65 ≤ r ∧ r ≤ 90) ∨ (913 ≤ r ∧ r ≤ 937 ∧ r ≠ 930))
def digB (r : Int) : Bool := decide (48 ≤ r ∧ r ≤ 57)
def signK (r : Int) : Int := if r = 40 then 3 else if r = 41 then 4 else if r = 44 then 5 else if r = 46 then 6 else 0

theorem ret_bool {a b : Bool} (h : a = b) : Ending.returned (.bool a) = .returned (.bool b) := by rw [h]
theorem ret_int {k : IntKind} {a b : Int} (h : a = b) : Ending.returned (.int k a) = .returned (.int k b) := by rw [h]

set_option maxHeartbeats 400000 in
theorem isBlank_any (r : Int) (w : World) :
    Calls Tryz.prog 160 #[.int .i32 r] w fun e w' => e = .returned (.bool (blankB r)) ∧ w' = w := by
  go_enter Tryz.func160, Tryz.ntmps160
  go_wp2
  all_goals
    go_ret
    exact ⟨ret_bool (by rw [Bool.eq_iff_iff]; simp [blankB] <;> omega), rfl⟩

set_option maxHeartbeats 400000 in
theorem isSmall_any (r : Int) (w : World) :
    Calls Tryz.prog 213 #[.int .i32 r] w fun e w' => e = .returned (.bool (smallB r)) ∧ w' = w := by
  go_enter Tryz.func213, Tryz.ntmps213
  go_wp2
  all_goals
    go_ret
    exact ⟨ret_bool (by rw [Bool.eq_iff_iff]; simp [smallB] <;> omega), rfl⟩

set_option maxHeartbeats 400000 in
theorem isCapital_any (r : Int) (w : World) :
    Calls Tryz.prog 211 #[.int .i32 r] w fun e w' => e = .returned (.bool (capB r)) ∧ w' = w := by
  go_enter Tryz.func211, Tryz.ntmps211
  go_wp2
  all_goals
    go_ret
    exact ⟨ret_bool (by rw [Bool.eq_iff_iff]; simp [capB] <;> omega), rfl⟩

set_option maxHeartbeats 400000 in
theorem isDigit_any (r : Int) (w : World) :
    Calls Tryz.prog 244 #[.int .i32 r] w fun e w' => e = .returned (.bool (digB r)) ∧ w' = w := by
  go_enter Tryz.func244, Tryz.ntmps244
  go_wp2
  all_goals
    go_ret
    exact ⟨ret_bool (by rw [Bool.eq_iff_iff]; simp [digB] <;> omega), rfl⟩

set_option maxHeartbeats 400000 in
theorem signKind_any (r : Int) (w : World) :
    Calls Tryz.prog 215 #[.int .i32 r] w fun e w' => e = .returned (.int .i64 (signK r)) ∧ w' = w := by
  go_enter Tryz.func215, Tryz.ntmps215
  go_wp2
  all_goals
    go_ret
    exact ⟨ret_int (by simp_all [signK]), rfl⟩

end Go.Proofs.YtjajnhemgphefaaGreatDoor

namespace Go.Proofs.YtjajnhemgphefaaGreatDoor
open Go.RowKit
set_option linter.unusedVariables false
set_option linter.unusedSimpArgs false

def wordR (r : Nat) : Bool := capB r || smallB r || digB r

def scan (s : ByteArray) : Nat → Nat → Nat → Nat × Nat
  | 0, pos, m => (pos, m)
  | f + 1, pos, m => if pos < s.size then (if wordR (Utf8.decode s pos).1 then scan s f (pos + (Utf8.decode s pos).2) (m + 1) else (pos, m)) else (pos, m)

theorem scan_end (s : ByteArray) (f pos m : Nat) (h : ¬ pos < s.size) : scan s f pos m = (pos, m) := by
  cases f <;> simp [scan, h]
theorem scan_stop (s : ByteArray) (f pos m : Nat) (h : wordR (Utf8.decode s pos).1 = false) : scan s f pos m = (pos, m) := by
  cases f <;> simp [scan, h]

theorem width_le_at (s : ByteArray) (pos : Nat) (h : pos < s.size) : pos + (Utf8.decode s pos).2 ≤ s.size := by
  have h1 := Lib.tail_decode s pos 0
  rw [Nat.add_zero] at h1
  have h2 := Lib.width_le (s.extract pos s.size) (by simp; omega)
  rw [h1] at h2
  simp at h2
  omega

theorem iterPos1 (w : World) (O : Obj) (s : ByteArray) (p : Nat) : ((w.alloc O).alloc (.stringIter s p)).iterPos (w.heap.size + 1) = p := by
  have := World.iterPos_iter (w.alloc O) s p
  rw [World.size_alloc] at this
  exact this

def tokC (k : Int) (t : ByteArray) (p m : Int) : Array Value := #[.int .i64 k, .string t, .int .i64 p, .int .i64 m]
def tokV (k : Int) (t : ByteArray) (p m : Int) : Value := .agg (tokC k t p m)

theorem extract_all (s : ByteArray) : s.extract 0 s.size = s := by
  simp

set_option maxHeartbeats 1000000 in
theorem word_any (k : Int) (s : ByteArray) (w : World) (hs : s.size ≤ maxLen) :
    Calls Tryz.prog 212 #[.int .i64 k, .string s] w fun e w' =>
      e = .returned (tokV k (s.extract 0 (scan s s.size 0 0).1) 0 (scan s s.size 0 0).2) ∧ Below w.heap.size w w' := by
  unfold maxLen at hs
  go_enter Tryz.func212, Tryz.ntmps212
  go_wp2
  go_loopw [5] (fun n w' => ∃ (pos b m : Nat), w' = (w.alloc (.cells #[.int .i64 0, .string ⟨#[]⟩, .int .i64 0, .int .i64 0] 191)).alloc (.stringIter s pos) ∧ n = .int .i64 m ∧ scan s b pos m = scan s s.size 0 0 ∧ s.size ≤ pos + b ∧ m ≤ pos ∧ pos ≤ s.size) (fun _ w' => s.size - w'.iterPos (w.heap.size + 1))
  case atStart => exact ⟨0, s.size, 0, rfl, rfl, rfl, by omega, by omega, by omega⟩
  case round =>
    obtain ⟨pos, b, m, rfl, rfl, hc, hb, hm, hle⟩ := hrel
    have HC : Hid (scan s b pos m = scan s s.size 0 0) := hc
    clear hc
    have hsz : (w.alloc (.cells #[.int .i64 0, .string ⟨#[]⟩, .int .i64 0, .int .i64 0] 191)).heap.size = w.heap.size + 1 := by simp
    by_cases hp : pos < s.size
    · have hnx : ∀ ty, (Instr.next (.pointer (some ⟨w.heap.size + 1, 0, none⟩)) true ty).run Tryz.prog ((w.alloc (.cells #[.int .i64 0, .string ⟨#[]⟩, .int .i64 0, .int .i64 0] 191)).alloc (.stringIter s pos)) = .ok (.tuple #[.bool true, .int .i64 pos, .int .i32 (Utf8.decode s pos).1]) ((w.alloc (.cells #[.int .i64 0, .string ⟨#[]⟩, .int .i64 0, .int .i64 0] 191)).alloc (.stringIter s (pos + (Utf8.decode s pos).2))) := fun ty => hsz ▸ run_next_any (w.alloc (.cells #[.int .i64 0, .string ⟨#[]⟩, .int .i64 0, .int .i64 0] 191)) s pos ty hp
      have hwd := Lib.decode_width_pos s pos hp
      have hwl := width_le_at s pos hp
      generalize hd : Utf8.decode s pos = d at *
      have HD : Hid (Utf8.decode s pos = d) := hd
      clear hd
      obtain ⟨r, wd⟩ := d
      simp only at hwd hwl hnx
      have hstep : Hid (wordR r = true → ∃ b', b = b' + 1 ∧ scan s b' (pos + wd) (m + 1) = scan s s.size 0 0) := by
        intro hw
        cases b with
        | zero => omega
        | succ b' => exact ⟨b', rfl, by rw [← HC.out]; simp [scan, hp, HD.out, hw]⟩
      have hstop : Hid (wordR r = false → scan s s.size 0 0 = (pos, m)) := by
        intro hw
        rw [← HC.out]; exact scan_stop s b pos m (by rw [HD.out]; exact hw)
      clear HC HD
      by_cases hcap : capB (r : Int) = true
      · go_wp2_with (first | (go_at_call 211; refine (isCapital_any _ _).mono ?_; rintro e w' ⟨rfl, rfl⟩) | (go_at_call 213; refine (isSmall_any _ _).mono ?_; rintro e w' ⟨rfl, rfl⟩) | (go_at_call 244; refine (isDigit_any _ _).mono ?_; rintro e w' ⟨rfl, rfl⟩))
        obtain ⟨b', rfl, hs'⟩ := hstep.out (by simp [wordR, hcap])
        go_roundw
        case rel => exact ⟨pos + wd, b', m + 1, rfl, by go_num, hs', by omega, by omega, by omega⟩
        case measure => rw [iterPos1, iterPos1]; omega
      by_cases hsm : smallB (r : Int) = true
      · have hcap' : capB (r : Int) = false := by simpa using hcap
        clear hcap
        go_wp2_with (first | (go_at_call 211; refine (isCapital_any _ _).mono ?_; rintro e w' ⟨rfl, rfl⟩) | (go_at_call 213; refine (isSmall_any _ _).mono ?_; rintro e w' ⟨rfl, rfl⟩) | (go_at_call 244; refine (isDigit_any _ _).mono ?_; rintro e w' ⟨rfl, rfl⟩))
        obtain ⟨b', rfl, hs'⟩ := hstep.out (by simp [wordR, hsm])
        go_roundw
        case rel => exact ⟨pos + wd, b', m + 1, rfl, by go_num, hs', by omega, by omega, by omega⟩
        case measure => rw [iterPos1, iterPos1]; omega
      by_cases hdg : digB (r : Int) = true
      · have hcap' : capB (r : Int) = false := by simpa using hcap
        have hsm' : smallB (r : Int) = false := by simpa using hsm
        clear hcap hsm
        go_wp2_with (first | (go_at_call 211; refine (isCapital_any _ _).mono ?_; rintro e w' ⟨rfl, rfl⟩) | (go_at_call 213; refine (isSmall_any _ _).mono ?_; rintro e w' ⟨rfl, rfl⟩) | (go_at_call 244; refine (isDigit_any _ _).mono ?_; rintro e w' ⟨rfl, rfl⟩))
        obtain ⟨b', rfl, hs'⟩ := hstep.out (by simp [wordR, hdg])
        go_roundw
        case rel => exact ⟨pos + wd, b', m + 1, rfl, by go_num, hs', by omega, by omega, by omega⟩
        case measure => rw [iterPos1, iterPos1]; omega
      have hcap' : capB (r : Int) = false := by simpa using hcap
      have hsm' : smallB (r : Int) = false := by simpa using hsm
      have hdg' : digB (r : Int) = false := by simpa using hdg
      clear hcap hsm hdg
      have hfin : Hid (scan s s.size 0 0 = (pos, m)) := hstop.out (by simp [wordR, hcap', hsm', hdg'])
      clear hstop hstep
      go_wp2_with (first | (go_at_call 211; refine (isCapital_any _ _).mono ?_; rintro e w' ⟨rfl, rfl⟩) | (go_at_call 213; refine (isSmall_any _ _).mono ?_; rintro e w' ⟨rfl, rfl⟩) | (go_at_call 244; refine (isDigit_any _ _).mono ?_; rintro e w' ⟨rfl, rfl⟩))
      refine bodyPost_ret (v := tokV k (s.extract 0 pos) 0 m) (by simp [results, Tryz.results212, go_sem, tokV, tokC]) rfl ?_
      rw [hfin.out]
      exact ⟨rfl, ((Below.refl _ _).alloc (Nat.le_refl _) _).alloc (by simp) _⟩
    · have hnx : ∀ ty, (Instr.next (.pointer (some ⟨w.heap.size + 1, 0, none⟩)) true ty).run Tryz.prog ((w.alloc (.cells #[.int .i64 0, .string ⟨#[]⟩, .int .i64 0, .int .i64 0] 191)).alloc (.stringIter s pos)) = .ok (.tuple #[.bool false]) ((w.alloc (.cells #[.int .i64 0, .string ⟨#[]⟩, .int .i64 0, .int .i64 0] 191)).alloc (.stringIter s pos)) := fun ty => hsz ▸ run_next_end (w.alloc (.cells #[.int .i64 0, .string ⟨#[]⟩, .int .i64 0, .int .i64 0] 191)) s pos ty hp
      have hfin : Hid (scan s s.size 0 0 = (pos, m)) := by rw [← HC.out]; exact scan_end s b pos m hp
      clear HC
      have hpe : Hid (s.extract 0 pos = s) := by rw [show pos = s.size by omega]; exact extract_all s
      go_wp2
      refine bodyPost_ret (v := tokV k s 0 m) (by simp [results, Tryz.results212, go_sem, tokV, tokC]) rfl ?_
      rw [hfin.out]
      exact ⟨by rw [hpe.out], ((Below.refl _ _).alloc (Nat.le_refl _) _).alloc (by simp) _⟩

end Go.Proofs.YtjajnhemgphefaaGreatDoor

namespace Go.Proofs.YtjajnhemgphefaaGreatDoor
open Go.RowKit
set_option linter.unusedVariables false
set_option linter.unusedSimpArgs false

def byN (s : ByteArray) (i : Nat) : Nat := (s.get! i).toNat
theorem byN_lt (s : ByteArray) (i : Nat) : byN s i < 256 := UInt8.toNat_lt _

def folR (s : ByteArray) (i lo hi : Nat) : Bool := decide (i < s.size ∧ lo ≤ byN s i ∧ byN s i ≤ hi)
def loB (c : Nat) : Nat := if c = 224 then 160 else if c = 240 then 144 else 128
def hiB (c : Nat) : Nat := if c = 237 then 159 else if c = 244 then 143 else 191
def sizeR (s : ByteArray) (i : Nat) : Nat :=
  if 194 ≤ byN s i ∧ byN s i ≤ 223 ∧ folR s (i + 1) (loB (byN s i)) (hiB (byN s i)) = true then 2
  else if 224 ≤ byN s i ∧ byN s i ≤ 239 ∧ folR s (i + 1) (loB (byN s i)) (hiB (byN s i)) = true ∧ folR s (i + 2) 128 191 = true then 3
  else if 240 ≤ byN s i ∧ byN s i ≤ 244 ∧ folR s (i + 1) (loB (byN s i)) (hiB (byN s i)) = true ∧ folR s (i + 2) 128 191 = true ∧ folR s (i + 3) 128 191 = true then 4
  else 1

/-- The rune that begins at a place, and its bytes, by the same bounds. -/
theorem decode_ref (s : ByteArray) (i : Nat) :
    Utf8.decode s i = if byN s i < 128 then (byN s i, 1)
      else if sizeR s i = 2 then ((byN s i % 32) * 64 + byN s (i + 1) % 64, 2)
      else if sizeR s i = 3 then ((byN s i % 16) * 4096 + (byN s (i + 1) % 64) * 64 + byN s (i + 2) % 64, 3)
      else if sizeR s i = 4 then ((byN s i % 8) * 262144 + (byN s (i + 1) % 64) * 4096 + (byN s (i + 2) % 64) * 64 + byN s (i + 3) % 64, 4)
      else (65533, 1) := by
  have h0 := byN_lt s i
  have h1 := byN_lt s (i + 1)
  have h2 := byN_lt s (i + 2)
  have h3 := byN_lt s (i + 3)
  have e : Utf8.decode s i = (if byN s i < 128 then (byN s i, 1)
      else if (byN s i / 32 == 6 && (decide (i + 1 < s.size) && byN s (i + 1) / 64 == 2)) = true then
        (if (byN s i % 32) * 64 + byN s (i + 1) % 64 ≥ 128 then ((byN s i % 32) * 64 + byN s (i + 1) % 64, 2) else (65533, 1))
      else if (byN s i / 16 == 14 && (decide (i + 1 < s.size) && byN s (i + 1) / 64 == 2) && (decide (i + 2 < s.size) && byN s (i + 2) / 64 == 2)) = true then
        (if (decide ((byN s i % 16) * 4096 + (byN s (i + 1) % 64) * 64 + byN s (i + 2) % 64 ≥ 2048) && Utf8.valid (((byN s i % 16) * 4096 + (byN s (i + 1) % 64) * 64 + byN s (i + 2) % 64 : Nat) : Int)) = true then ((byN s i % 16) * 4096 + (byN s (i + 1) % 64) * 64 + byN s (i + 2) % 64, 3) else (65533, 1))
      else if (byN s i / 8 == 30 && (decide (i + 1 < s.size) && byN s (i + 1) / 64 == 2) && (decide (i + 2 < s.size) && byN s (i + 2) / 64 == 2) && (decide (i + 3 < s.size) && byN s (i + 3) / 64 == 2)) = true then
        (if (decide ((byN s i % 8) * 262144 + (byN s (i + 1) % 64) * 4096 + (byN s (i + 2) % 64) * 64 + byN s (i + 3) % 64 ≥ 65536) && Utf8.valid (((byN s i % 8) * 262144 + (byN s (i + 1) % 64) * 4096 + (byN s (i + 2) % 64) * 64 + byN s (i + 3) % 64 : Nat) : Int)) = true then ((byN s i % 8) * 262144 + (byN s (i + 1) % 64) * 4096 + (byN s (i + 2) % 64) * 64 + byN s (i + 3) % 64, 4) else (65533, 1))
      else (65533, 1)) := rfl
  rw [e]
  have hlo : (byN s i = 224 → loB (byN s i) = 160) ∧ (byN s i = 240 → loB (byN s i) = 144) ∧ (byN s i ≠ 224 → byN s i ≠ 240 → loB (byN s i) = 128) := by
    unfold loB; refine ⟨fun h => by simp [h], fun h => by simp [h], fun h h' => by simp [h, h']⟩
  have hhi : (byN s i = 237 → hiB (byN s i) = 159) ∧ (byN s i = 244 → hiB (byN s i) = 143) ∧ (byN s i ≠ 237 → byN s i ≠ 244 → hiB (byN s i) = 191) := by
    unfold hiB; refine ⟨fun h => by simp [h], fun h => by simp [h], fun h h' => by simp [h, h']⟩
  unfold sizeR folR Utf8.valid
  generalize loB (byN s i) = lo at *
  generalize hiB (byN s i) = hi at *
  generalize byN s i = b0 at *
  generalize byN s (i + 1) = b1 at *
  generalize byN s (i + 2) = b2 at *
  generalize byN s (i + 3) = b3 at *
  generalize s.size = n at *
  clear e
  simp only [Bool.and_eq_true, Bool.or_eq_true, decide_eq_true_eq, beq_iff_eq, ge_iff_le]
  by_cases k0 : b0 < 128
  · rw [if_pos k0, if_pos k0]
  rw [if_neg k0, if_neg k0]
  by_cases a2 : 194 ≤ b0 ∧ b0 ≤ 223 ∧ i + 1 < n ∧ lo ≤ b1 ∧ b1 ≤ hi
  · rw [if_pos (by omega), if_pos (by omega)]
    simp [a2]
  by_cases a3 : 224 ≤ b0 ∧ b0 ≤ 239 ∧ (i + 1 < n ∧ lo ≤ b1 ∧ b1 ≤ hi) ∧ i + 2 < n ∧ 128 ≤ b2 ∧ b2 ≤ 191
  · rw [if_neg (by omega), if_pos (by omega), if_pos (by omega)]
    rw [if_neg a2, if_pos a3]
    rfl
  by_cases a4 : 240 ≤ b0 ∧ b0 ≤ 244 ∧ (i + 1 < n ∧ lo ≤ b1 ∧ b1 ≤ hi) ∧ (i + 2 < n ∧ 128 ≤ b2 ∧ b2 ≤ 191) ∧ i + 3 < n ∧ 128 ≤ b3 ∧ b3 ≤ 191
  · rw [if_neg (by omega), if_neg (by omega), if_pos (by omega), if_pos (by omega)]
    rw [if_neg a2, if_neg a3, if_pos a4]
    rfl
  rw [if_neg a2, if_neg a3, if_neg a4]
  show _ = (65533, 1)
  split
  · rw [if_neg (by omega)]
  · split
    · rw [if_neg (by omega)]
    · split
      · rw [if_neg (by omega)]
      · rfl

theorem size_ref (s : ByteArray) (i : Nat) : (Utf8.decode s i).2 = sizeR s i := by
  have h0 := byN_lt s i
  rw [decode_ref]
  by_cases k0 : byN s i < 128
  · rw [if_pos k0]
    unfold sizeR
    rw [if_neg (by omega), if_neg (by omega), if_neg (by omega)]
  rw [if_neg k0]
  have h4 : sizeR s i = 1 ∨ sizeR s i = 2 ∨ sizeR s i = 3 ∨ sizeR s i = 4 := by
    unfold sizeR
    split
    · simp
    · split
      · simp
      · split <;> simp
  rcases h4 with h | h | h | h <;> simp [h]

def oneR (c : Nat) : Nat :=
  if 97 ≤ c ∧ c ≤ 122 then 1 else if 65 ≤ c ∧ c ≤ 90 then 2 else if 48 ≤ c ∧ c ≤ 57 then 3 else if c = 32 ∨ c = 9 ∨ c = 10 then 4
  else if c = 40 ∨ c = 41 ∨ c = 44 ∨ c = 46 then 5 else if c = 58 then 6 else if c = 45 then 7 else 8
def greekR (a b : Nat) : Nat :=
  if 945 ≤ 64 * ((a : Int) - 192) + b - 128 ∧ 64 * ((a : Int) - 192) + b - 128 ≤ 969 then 1
  else if 913 ≤ 64 * ((a : Int) - 192) + b - 128 ∧ 64 * ((a : Int) - 192) + b - 128 ≤ 937 ∧ 64 * ((a : Int) - 192) + b - 128 ≠ 930 then 2 else 8
/-- The kind that the document's answer gives the rune at a place. -/
def kindAt (s : ByteArray) (i : Nat) : Nat :=
  if sizeR s i = 1 then oneR (byN s i) else if sizeR s i = 2 then greekR (byN s i) (byN s (i + 1)) else 8
/-- The kind of a rune. -/
def kindRune (r : Nat) : Nat :=
  if smallB r = true then 1 else if capB r = true then 2 else if digB r = true then 3 else if blankB r = true then 4
  else if r = 40 ∨ r = 41 ∨ r = 44 ∨ r = 46 then 5 else if r = 58 then 6 else if r = 45 then 7 else 8

theorem kindRune_big (r : Nat) (h : 970 ≤ r) : kindRune r = 8 := by
  unfold kindRune smallB capB digB blankB
  simp only [decide_eq_true_eq]
  rw [if_neg (by omega), if_neg (by omega), if_neg (by omega), if_neg (by omega), if_neg (by omega), if_neg (by omega), if_neg (by omega)]

theorem size3 (s : ByteArray) (i : Nat) (h : sizeR s i = 3) : 224 ≤ byN s i ∧ byN s i ≤ 239 ∧ (byN s i = 224 → 160 ≤ byN s (i + 1)) ∧ byN s (i + 1) ≤ 191 ∧ 128 ≤ byN s (i + 1) := by
  have hlo : (byN s i = 224 → loB (byN s i) = 160) ∧ 128 ≤ loB (byN s i) := by
    unfold loB; refine ⟨fun h => by simp [h], ?_⟩; split; decide; split <;> decide
  have hhi : hiB (byN s i) ≤ 191 := by unfold hiB; split; decide; split <;> decide
  unfold sizeR at h
  split at h
  · cases h
  · split at h
    · rename_i _ hb
      obtain ⟨b1, b2, b3, b4⟩ := hb
      unfold folR at b3
      simp only [decide_eq_true_eq] at b3
      omega
    · split at h <;> cases h
theorem size4 (s : ByteArray) (i : Nat) (h : sizeR s i = 4) : 240 ≤ byN s i ∧ byN s i ≤ 244 ∧ (byN s i = 240 → 144 ≤ byN s (i + 1)) ∧ byN s (i + 1) ≤ 191 ∧ 128 ≤ byN s (i + 1) := by
  have hlo : (byN s i = 240 → loB (byN s i) = 144) ∧ 128 ≤ loB (byN s i) := by
    unfold loB; refine ⟨fun h => by simp [h], ?_⟩; split; decide; split <;> decide
  have hhi : hiB (byN s i) ≤ 191 := by unfold hiB; split; decide; split <;> decide
  unfold sizeR at h
  split at h
  · cases h
  · split at h
    · cases h
    · split at h
      · rename_i _ _ hb
        obtain ⟨b1, b2, b3, b4⟩ := hb
        unfold folR at b3
        simp only [decide_eq_true_eq] at b3
        omega
      · cases h

theorem kind_ref (s : ByteArray) (i : Nat) : kindAt s i = kindRune (Utf8.decode s i).1 := by
  have h0 := byN_lt s i
  have h1 := byN_lt s (i + 1)
  have hd := decode_ref s i
  have hs := size_ref s i
  by_cases k0 : byN s i < 128
  · rw [if_pos k0] at hd
    rw [hd] at hs ⊢
    unfold kindAt
    rw [if_pos hs.symm]
    unfold oneR kindRune smallB capB digB blankB
    simp only [decide_eq_true_eq]
    generalize byN s i = c at *
    repeat' split
    all_goals first | rfl | (exfalso; omega)
  rw [if_neg k0] at hd
  have h4 : sizeR s i = 1 ∨ sizeR s i = 2 ∨ sizeR s i = 3 ∨ sizeR s i = 4 := by
    unfold sizeR
    split
    · simp
    · split
      · simp
      · split <;> simp
  rcases h4 with h | h | h | h
  · rw [if_neg (by omega), if_neg (by omega), if_neg (by omega)] at hd
    rw [hd]
    unfold kindAt
    rw [if_pos h, kindRune_big _ (by decide)]
    unfold oneR
    rw [if_neg (by omega), if_neg (by omega), if_neg (by omega), if_neg (by omega), if_neg (by omega), if_neg (by omega), if_neg (by omega)]
  · have hb : 194 ≤ byN s i ∧ byN s i ≤ 223 ∧ folR s (i + 1) (loB (byN s i)) (hiB (byN s i)) = true := by
      apply Classical.byContradiction
      intro hn
      unfold sizeR at h
      rw [if_neg hn] at h
      split at h
      · cases h
      · split at h <;> cases h
    have hf := hb.2.2
    unfold folR at hf
    simp only [decide_eq_true_eq] at hf
    have e1 : loB (byN s i) = 128 := by unfold loB; rw [if_neg (by omega), if_neg (by omega)]
    have e2 : hiB (byN s i) = 191 := by unfold hiB; rw [if_neg (by omega), if_neg (by omega)]
    rw [e1, e2] at hf
    rw [if_pos h] at hd
    rw [hd]
    unfold kindAt
    rw [if_neg (by omega), if_pos h]
    unfold greekR
    have hr : 64 * ((byN s i : Int) - 192) + (byN s (i + 1) : Int) - 128 = ((byN s i % 32 * 64 + byN s (i + 1) % 64 : Nat) : Int) := by omega
    have hlo : 128 ≤ byN s i % 32 * 64 + byN s (i + 1) % 64 := by omega
    rw [hr]
    simp only
    generalize byN s i % 32 * 64 + byN s (i + 1) % 64 = r at *
    clear hr hd hs hf hb h h0 h1 k0 e1 e2
    unfold kindRune smallB capB digB blankB
    simp only [decide_eq_true_eq]
    by_cases c1 : 945 ≤ r ∧ r ≤ 969
    · rw [if_pos (by omega), if_pos (by omega)]
    · rw [if_neg (by omega)]
      by_cases c2 : 913 ≤ r ∧ r ≤ 937 ∧ r ≠ 930
      · rw [if_pos (by omega), if_neg (by omega), if_pos (by omega)]
      · rw [if_neg (by omega), if_neg (by omega), if_neg (by omega), if_neg (by omega), if_neg (by omega), if_neg (by omega), if_neg (by omega), if_neg (by omega)]
  · have hb := size3 s i h
    rw [if_neg (by omega), if_pos h] at hd
    rw [hd]
    unfold kindAt
    rw [if_neg (by omega), if_neg (by omega), kindRune_big _ (by show 970 ≤ byN s i % 16 * 4096 + byN s (i + 1) % 64 * 64 + byN s (i + 2) % 64; omega)]
  · have hb := size4 s i h
    rw [if_neg (by omega), if_neg (by omega), if_pos h] at hd
    rw [hd]
    unfold kindAt
    rw [if_neg (by omega), if_neg (by omega), kindRune_big _ (by show 970 ≤ byN s i % 8 * 262144 + byN s (i + 1) % 64 * 4096 + byN s (i + 2) % 64 * 64 + byN s (i + 3) % 64; omega)]

end Go.Proofs.YtjajnhemgphefaaGreatDoor

namespace Go.Proofs.YtjajnhemgphefaaGreatDoor
open Go.RowKit
set_option linter.unusedVariables false
set_option linter.unusedSimpArgs false

/-- A rune: its kind, its bytes. -/
structure Rn where
  kind : Nat
  text : ByteArray

/-- The runes of a text, by fuel. -/
def runesF : Nat → ByteArray → List Rn
  | 0, _ => []
  | f + 1, s => if s.size = 0 then [] else ⟨kindRune (Utf8.decode s 0).1, s.extract 0 (Utf8.decode s 0).2⟩ :: runesF f (s.extract (Utf8.decode s 0).2 s.size)

theorem word_kind (r : Nat) : wordR r = decide (kindRune r ≤ 3) := by
  unfold wordR kindRune
  by_cases h1 : smallB r = true
  · simp [h1]
  · by_cases h2 : capB r = true
    · simp [h1, h2]
    · by_cases h3 : digB r = true
      · simp [h1, h2, h3]
      · have e1 : smallB r = false := by simpa using h1
        have e2 : capB r = false := by simpa using h2
        have e3 : digB r = false := by simpa using h3
        simp only [e1, e2, e3, Bool.false_eq_true, if_false, Bool.or_self]
        symm
        simp only [decide_eq_false_iff_not]
        repeat' split
        all_goals omega

theorem runes_empty (f : Nat) (s : ByteArray) (h : s.size = 0) : runesF f s = [] := by
  cases f <;> simp [runesF, h]

theorem width_pos (s : ByteArray) (i : Nat) : 0 < (Utf8.decode s i).2 := by
  rw [size_ref]
  unfold sizeR
  split
  · decide
  · split
    · decide
    · split <;> decide

/-- Fuel enough is enough. -/
theorem runes_fuel : ∀ (f g : Nat) (s : ByteArray), s.size ≤ f → s.size ≤ g → runesF f s = runesF g s
  | 0, g, s, h, _ => by rw [runes_empty _ _ (by omega), runes_empty _ _ (by omega)]
  | f + 1, 0, s, _, h => by rw [runes_empty _ _ (by omega), runes_empty _ _ (by omega)]
  | f + 1, g + 1, s, h, h' => by
    unfold runesF
    split
    · rfl
    · rename_i hn
      have hp := width_pos s 0
      have hz : (s.extract (Utf8.decode s 0).2 s.size).size ≤ s.size - 1 := by simp; omega
      rw [runes_fuel f g _ (by omega) (by omega)]

/-- The runes from a place on. -/
def R (s : ByteArray) (i : Nat) : List Rn := runesF s.size (s.extract i s.size)

theorem ext_ext (s : ByteArray) (i a b : Nat) : (s.extract i s.size).extract a b = s.extract (i + a) (min (i + b) s.size) := by
  apply ByteArray.ext
  simp only [ByteArray.data_extract, Array.extract_extract]

theorem R_end (s : ByteArray) (i : Nat) (h : ¬ i < s.size) : R s i = [] := runes_empty _ _ (by simp; omega)

theorem R_cons (s : ByteArray) (i : Nat) (h : i < s.size) : R s i = ⟨kindRune (Utf8.decode s i).1, s.extract i (i + (Utf8.decode s i).2)⟩ :: R s (i + (Utf8.decode s i).2) := by
  have hd := Lib.tail_decode s i 0
  rw [Nat.add_zero] at hd
  have hw := width_le_at s i h
  have hp := width_pos s i
  obtain ⟨k, hk⟩ : ∃ k, s.size = k + 1 := ⟨s.size - 1, by omega⟩
  have hsz : (s.extract i s.size).size = s.size - i := by simp
  unfold R
  rw [hk]
  conv => lhs; unfold runesF
  rw [← hk, if_neg (by rw [hsz]; omega), hd, ext_ext, ext_ext, Nat.add_zero, hsz, Nat.min_eq_left hw]
  have e : min (i + (s.size - i)) s.size = s.size := by omega
  rw [e]
  congr 1
  exact runes_fuel _ _ _ (by simp <;> omega) (by simp <;> omega)

def tw (l : List Rn) : List Rn := l.takeWhile (fun x => decide (x.kind ≤ 3))
def wlen : List Rn → Nat
  | [] => 0
  | x :: l => x.text.size + wlen l

theorem scan_runes (s : ByteArray) : ∀ (f i m : Nat), s.size ≤ i + f → scan s f i m = (i + wlen (tw (R s i)), m + (tw (R s i)).length)
  | 0, i, m, h => by
    rw [scan_end _ _ _ _ (by omega), R_end s i (by omega)]; simp [tw, wlen]
  | f + 1, i, m, h => by
    by_cases hi : i < s.size
    · have hp := width_pos s i
      have hw := width_le_at s i hi
      by_cases hr : wordR (Utf8.decode s i).1 = true
      · have ih := scan_runes s f (i + (Utf8.decode s i).2) (m + 1) (by omega)
        have hk : kindRune (Utf8.decode s i).1 ≤ 3 := by rw [word_kind] at hr; simpa using hr
        conv => lhs; unfold scan
        rw [if_pos hi, if_pos hr, ih, R_cons s i hi]
        have e : tw (⟨kindRune (Utf8.decode s i).1, s.extract i (i + (Utf8.decode s i).2)⟩ :: R s (i + (Utf8.decode s i).2)) = ⟨kindRune (Utf8.decode s i).1, s.extract i (i + (Utf8.decode s i).2)⟩ :: tw (R s (i + (Utf8.decode s i).2)) := by
          unfold tw
          rw [List.takeWhile_cons, if_pos (by simpa using hk)]
        rw [e]
        have hz : (s.extract i (i + (Utf8.decode s i).2)).size = (Utf8.decode s i).2 := by simp; omega
        simp only [wlen, List.length_cons, hz, Prod.mk.injEq]
        omega
      · have hr' : wordR (Utf8.decode s i).1 = false := by simpa using hr
        have hk : ¬ kindRune (Utf8.decode s i).1 ≤ 3 := by rw [word_kind] at hr'; simpa using hr'
        rw [scan_stop _ _ _ _ hr', R_cons s i hi]
        have e : tw (⟨kindRune (Utf8.decode s i).1, s.extract i (i + (Utf8.decode s i).2)⟩ :: R s (i + (Utf8.decode s i).2)) = [] := by
          unfold tw
          rw [List.takeWhile_cons, if_neg (by simpa using hk)]
        rw [e]; simp [wlen]
    · rw [scan_end _ _ _ _ hi, R_end s i hi]; simp [tw, wlen]

theorem R_tail (s : ByteArray) (n : Nat) : R (s.extract n s.size) 0 = R s n := by
  have hz : (s.extract n s.size).size = s.size - n := by simp
  unfold R
  rw [ext_ext, hz, Nat.add_zero]
  have e : min (n + (s.size - n)) s.size = s.size ∨ ¬ n < s.size := by omega
  rcases e with e | e
  · rw [e]
    exact runes_fuel _ _ _ (by simp) (by simp)
  · rw [runes_empty _ _ (by simp; omega), runes_empty _ _ (by simp; omega)]

theorem R_drop (s : ByteArray) : ∀ (k i : Nat), k ≤ (R s i).length → R s (i + wlen ((R s i).take k)) = (R s i).drop k
  | 0, i, _ => by simp [wlen]
  | k + 1, i, h => by
    by_cases hi : i < s.size
    · have hw := width_le_at s i hi
      have hc := R_cons s i hi
      rw [hc] at h ⊢
      rw [List.take_succ_cons, List.drop_succ_cons]
      have hz : (s.extract i (i + (Utf8.decode s i).2)).size = (Utf8.decode s i).2 := by simp; omega
      have ih := R_drop s k (i + (Utf8.decode s i).2) (by simpa using h)
      simp only [wlen, hz]
      rw [← Nat.add_assoc]
      exact ih
    · rw [R_end s i hi] at h; simp at h

end Go.Proofs.YtjajnhemgphefaaGreatDoor

namespace Go.Proofs.YtjajnhemgphefaaGreatDoor
open Go.RowKit
set_option linter.unusedVariables false
set_option linter.unusedSimpArgs false

theorem bcell {W w1 : World} (hb : Below W.heap.size W w1) : (∀ b o, b < W.heap.size → w1.cell? ⟨b, o, none⟩ = W.cell? ⟨b, o, none⟩) ∧ (∀ b o, b < W.heap.size → w1.frozen? ⟨b, o, none⟩ = W.frozen? ⟨b, o, none⟩) :=
  ⟨fun b o h => hb.cell (p := ⟨b, o, none⟩) h, fun b o h => hb.frozen (p := ⟨b, o, none⟩) h⟩

/-- The first token of a text: its kind, its bytes, its runes. -/
def firstT (s : ByteArray) : Int × Nat × Nat :=
  if capB (Utf8.decode s 0).1 then (2, (scan s s.size 0 0).1, (scan s s.size 0 0).2)
  else if smallB (Utf8.decode s 0).1 then (1, (scan s s.size 0 0).1, (scan s s.size 0 0).2)
  else if Lib.hasPrefix s.data.toList [58, 45] then (7, 2, 2)
  else (signK (Utf8.decode s 0).1, (Utf8.decode s 0).2, 1)

def tokOf (s : ByteArray) (p : Int) : Value := tokV (firstT s).1 (s.extract 0 (firstT s).2.1) p (firstT s).2.2

theorem pre_extract (s : ByteArray) (h : Lib.hasPrefix s.data.toList [58, 45] = true) : s.extract 0 2 = ⟨#[58, 45]⟩ := by
  have h1 : [58, 45] <+: s.data.toList := by simpa [Lib.hasPrefix] using h
  obtain ⟨t, ht⟩ := h1
  have hs : s = ⟨([58, 45] ++ t).toArray⟩ := by
    cases s; simp at ht; simp [ht]
  rw [hs]
  apply ByteArray.ext
  simp

set_option maxHeartbeats 1000000 in
theorem first_any (s : ByteArray) (w : World) (hs : s.size ≤ maxLen) (h0 : 0 < s.size) (hT : Lib.Utf8Tabs 0 1 w) :
    Calls Tryz.prog 161 #[.string s] w fun e w' => e = .returned (tokOf s 0) ∧ Below w.heap.size w w' := by
  have hdg : Lib.decodeGo s = Utf8.decode s 0 := by
    unfold Lib.decodeGo; rw [if_neg (by omega)]
  have hT1 := Utf8Tabs_below hT ((Below.refl w.heap.size w).alloc (Nat.le_refl _) (.cells #[.int .i64 0, .string ⟨#[]⟩, .int .i64 0, .int .i64 0] 191))
  go_enter Tryz.func161, Tryz.ntmps161
  go_wp2_with fail
  refine (Tryz.utf8_DecodeRuneInString _ _ hT1).mono ?_
  rintro e w1 ⟨rfl, hb1⟩
  rw [hdg]
  generalize hd : Utf8.decode s 0 = d
  obtain ⟨r, wd⟩ := d
  have HD : Hid (Utf8.decode s 0 = (r, wd)) := hd
  clear hd hdg
  obtain ⟨hc1, hf1⟩ := bcell hb1
  have hz1 : w.heap.size < w1.heap.size := by have := hb1.size; simp at this; omega
  by_cases hcap : capB (r : Int) = true
  · go_wp2_with (go_at_call 211; refine (isCapital_any _ _).mono ?_; rintro e w' ⟨rfl, rfl⟩)
    refine (word_any _ _ _ hs).mono ?_
    rintro e w2 ⟨rfl, hb2⟩
    obtain ⟨hc2, hf2⟩ := bcell hb2
    have hz2 : w.heap.size < w2.heap.size := by have := hb2.size; omega
    have hB : Below w.heap.size w w2 := (((Below.refl w.heap.size w).alloc (Nat.le_refl _) _).trans (hb1.mono (by simp))).trans (hb2.mono (by omega))
    clear hb1 hb2 hT hT1
    have hfin : Hid (tokOf s 0 = tokV 2 (s.extract 0 (scan s s.size 0 0).1) 0 (scan s s.size 0 0).2) := by
      show tokOf s 0 = _; unfold tokOf firstT; rw [HD.out]; simp [hcap]
    generalize (scan s s.size 0 0).1 = sb at *
    generalize (scan s s.size 0 0).2 = sm at *
    unfold tokV tokC
    go_wp2
    refine bodyPost_ret (v := tokV 2 (s.extract 0 sb) 0 sm) (by simp [results, Tryz.results161, go_sem, tokV, tokC, hc2, hf2, hc1, hf1, hz1, hz2]) rfl ?_
    rw [hfin.out]
    exact ⟨rfl, (((hB.setCell (by simp) _).setCell (by simp) _).setCell (by simp) _).setCell (by simp) _⟩
  have hcap' : capB (r : Int) = false := by simpa using hcap
  clear hcap
  by_cases hsm : smallB (r : Int) = true
  · go_wp2_with (first | (go_at_call 211; refine (isCapital_any _ _).mono ?_; rintro e w' ⟨rfl, rfl⟩) | (go_at_call 213; refine (isSmall_any _ _).mono ?_; rintro e w' ⟨rfl, rfl⟩))
    refine (word_any _ _ _ hs).mono ?_
    rintro e w2 ⟨rfl, hb2⟩
    obtain ⟨hc2, hf2⟩ := bcell hb2
    have hz2 : w.heap.size < w2.heap.size := by have := hb2.size; omega
    have hB : Below w.heap.size w w2 := (((Below.refl w.heap.size w).alloc (Nat.le_refl _) _).trans (hb1.mono (by simp))).trans (hb2.mono (by omega))
    clear hb1 hb2 hT hT1
    have hfin : Hid (tokOf s 0 = tokV 1 (s.extract 0 (scan s s.size 0 0).1) 0 (scan s s.size 0 0).2) := by
      show tokOf s 0 = _; unfold tokOf firstT; rw [HD.out]; simp [hcap', hsm]
    generalize (scan s s.size 0 0).1 = sb at *
    generalize (scan s s.size 0 0).2 = sm at *
    unfold tokV tokC
    go_wp2
    refine bodyPost_ret (v := tokV 1 (s.extract 0 sb) 0 sm) (by simp [results, Tryz.results161, go_sem, tokV, tokC, hc2, hf2, hc1, hf1, hz1, hz2]) rfl ?_
    rw [hfin.out]
    exact ⟨rfl, (((hB.setCell (by simp) _).setCell (by simp) _).setCell (by simp) _).setCell (by simp) _⟩
  have hsm' : smallB (r : Int) = false := by simpa using hsm
  clear hsm
  have hwl : wd ≤ s.size := by have := Lib.width_le s h0; rw [HD.out] at this; exact this
  have hB : Below w.heap.size w w1 := ((Below.refl w.heap.size w).alloc (Nat.le_refl _) _).trans (hb1.mono (by simp))
  clear hb1 hT hT1
  unfold maxLen at hs
  by_cases hpre : Lib.hasPrefix s.data.toList [58, 45] = true
  · have hfin : Hid (tokOf s 0 = tokV 7 ⟨#[58, 45]⟩ 0 2) := by
      show tokOf s 0 = _
      unfold tokOf firstT; rw [HD.out]; simp only [hcap', hsm', hpre, Bool.false_eq_true, if_false, if_true]
      rw [pre_extract s hpre]; rfl
    clear HD
    go_wp2_with (first | (go_at_call 211; refine (isCapital_any _ _).mono ?_; rintro e w' ⟨rfl, rfl⟩) | (go_at_call 213; refine (isSmall_any _ _).mono ?_; rintro e w' ⟨rfl, rfl⟩) | (go_at_call 214; refine (Tryz.strings_HasPrefix _ _ _).mono ?_; rintro e w' ⟨rfl, rfl⟩))
    refine bodyPost_ret (v := tokV 7 ⟨#[58, 45]⟩ 0 2) (by simp [results, Tryz.results161, go_sem, tokV, tokC, hc1, hf1, hz1]) rfl ?_
    rw [hfin.out]
    exact ⟨rfl, (((hB.setCell (by simp) _).setCell (by simp) _).setCell (by simp) _).setCell (by simp) _⟩
  · have hpre' : Lib.hasPrefix s.data.toList [58, 45] = false := by simpa using hpre
    clear hpre
    have hfin : Hid (tokOf s 0 = tokV (signK r) (s.extract 0 wd) 0 1) := by
      show tokOf s 0 = _
      unfold tokOf firstT; rw [HD.out]; simp [hcap', hsm', hpre']
    clear HD
    go_wp2_with (first | (go_at_call 211; refine (isCapital_any _ _).mono ?_; rintro e w' ⟨rfl, rfl⟩) | (go_at_call 213; refine (isSmall_any _ _).mono ?_; rintro e w' ⟨rfl, rfl⟩) | (go_at_call 214; refine (Tryz.strings_HasPrefix _ _ _).mono ?_; rintro e w' ⟨rfl, rfl⟩))
    go_region_with (go_at_call 215; refine (signKind_any _ _).mono ?_; rintro e w' ⟨rfl, rfl⟩)
    all_goals
      go_wp2
      refine bodyPost_ret (v := tokV (signK r) (s.extract 0 wd) 0 1) (by simp [results, Tryz.results161, go_sem, tokV, tokC, hc1, hf1, hz1]) rfl ?_
      rw [hfin.out]
      exact ⟨rfl, ((((hB.setCell (by simp) _).setCell (by simp) _).setCell (by simp) _).setCell (by simp) _).drew⟩

end Go.Proofs.YtjajnhemgphefaaGreatDoor

namespace Go.Proofs.YtjajnhemgphefaaGreatDoor
open Go.RowKit Go.Shelf
set_option linter.unusedVariables false
set_option linter.unusedSimpArgs false
attribute [local go_sem] Oper.semAt_some

structure Tok where
  kind : Int
  text : ByteArray
  place : Nat
  runes : Nat
  ok : text.size ≤ 1200

def Tok.v (t : Tok) : Value := tokV t.kind t.text t.place t.runes

/-- The tokens of a text, by fuel. -/
def toks : Nat → ByteArray → Nat → List Tok
  | 0, _, _ => []
  | f + 1, s, p =>
    if s.size = 0 then []
    else if blankB (Utf8.decode s 0).1 then toks f (s.extract (Utf8.decode s 0).2 s.size) (p + 1)
    else if h : (s.extract 0 (firstT s).2.1).size ≤ 1200 then ⟨(firstT s).1, s.extract 0 (firstT s).2.1, p, (firstT s).2.2, h⟩ :: toks f (s.extract (firstT s).2.1 s.size) (p + (firstT s).2.2)
    else []

/-- What a round must leave alone: the blocks that hold a token. -/
def TokKept (W W' : World) : Prop := ∀ (k : Nat) (c : Array Value) (fz : Nat × Nat), W.heap[k]? = some (Obj.cells c 191 fz) → W'.heap[k]? = some (Obj.cells c 191 fz)

theorem TokKept.trans {A B C : World} (h : TokKept A B) (k : TokKept B C) : TokKept A C := fun i c fz hi => k i c fz (h i c fz hi)
theorem TokKept.put (W : World) (l : Nat) (o o' : Obj) (h : W.heap[l]? = some o) (ho : o.isCells = false) : TokKept W (W.putObj l o') := by
  intro k c fz hk
  by_cases e : k = l
  · subst e; rw [h] at hk; cases hk; simp [Obj.isCells] at ho
  · rw [(grownBy_putObj' W l o').block k (Array.getElem?_eq_some_iff.1 hk).1 (by simpa using e)]; exact hk

theorem below_grownBy {W W' : World} (h : Below W.heap.size W W') : W.grownBy W' none := ⟨h.os, h.tape, h.output, h.size, fun k hk _ => h.block k hk⟩

theorem scan_bounds (s : ByteArray) : ∀ f pos m, pos ≤ s.size → m ≤ pos → pos ≤ (scan s f pos m).1 ∧ (scan s f pos m).1 ≤ s.size ∧ (scan s f pos m).2 ≤ (scan s f pos m).1
  | 0, pos, m, h, hm => by simp [scan]; omega
  | f + 1, pos, m, h, hm => by
    unfold scan
    split
    · rename_i hp
      have h1 := Lib.decode_width_pos s pos hp
      have h2 := width_le_at s pos hp
      split
      · have := scan_bounds s f (pos + (Utf8.decode s pos).2) (m + 1) h2 (by omega)
        omega
      · simp; omega
    · simp; omega

theorem scan_first (s : ByteArray) (h0 : 0 < s.size) (hw : wordR (Utf8.decode s 0).1 = true) : 1 ≤ (scan s s.size 0 0).1 := by
  obtain ⟨n, hn⟩ : ∃ n, s.size = n + 1 := ⟨s.size - 1, by omega⟩
  rw [hn]
  unfold scan
  rw [if_pos h0, if_pos hw]
  have h1 := Lib.decode_width_pos s 0 h0
  have h2 := width_le_at s 0 h0
  have := scan_bounds s n (0 + (Utf8.decode s 0).2) (0 + 1) h2 (by omega)
  omega

theorem firstT_bounds (s : ByteArray) (h0 : 0 < s.size) : 1 ≤ (firstT s).2.1 ∧ (firstT s).2.1 ≤ s.size ∧ (firstT s).2.2 ≤ (firstT s).2.1 := by
  have hb := scan_bounds s s.size 0 0 (by omega) (by omega)
  have h1 := Lib.decode_width_pos s 0 h0
  have h2 := width_le_at s 0 h0
  unfold firstT
  split
  · rename_i hc
    have := scan_first s h0 (by simp [wordR, hc])
    simp; omega
  · split
    · rename_i hc
      have := scan_first s h0 (by simp [wordR, hc])
      simp; omega
    · split
      · rename_i hp
        have := Lib.hasPrefix_le hp
        simp at this
        simp; exact this
      · simp; omega

theorem toks_empty (f : Nat) (s : ByteArray) (p : Nat) (h : s.size = 0) : toks f s p = [] := by
  cases f <;> simp [toks, h]

theorem all_any (s : ByteArray) (w : World) :
    Calls Tryz.prog 96 #[.string s] w fun e w' => e = .returned (.func (.func 158) #[] #[.pointer (some ⟨w.heap.size, 0, none⟩)]) ∧ w' = w.alloc (.cells #[.string s] 9) := by
  go_enter Tryz.func96, Tryz.ntmps96
  go_wp2
  go_ret
  exact ⟨rfl, rfl⟩

theorem isEmpty_size (t : ByteArray) : t.toList.isEmpty = decide (t.size = 0) := by
  rw [← decide_eq_emptyBytes]
  apply decide_eq_decide.2
  constructor
  · intro h; rw [h]; rfl
  · intro h; exact ByteArray.size_eq_zero_iff.1 h

def strLen : Value → Nat | .string t => t.size | _ => 0

set_option maxHeartbeats 1000000 in
theorem all1_in (n : Nat) (hn : 1 ≤ n) (l B : Nat) (s : ByteArray) (hs : s.size ≤ 1200) (w0 : World) (hT : Lib.Utf8Tabs 0 1 w0) (J Jx : List Tok → World → Prop) (W : World)
    (hJ : AbidesFrom W.heap.size J)
    (hY : ∀ pre x W1, J pre W1 → pre.length < (toks s.size s 0).length → YieldAt Fence.wide (n - 1) Tryz.prog l #[x.v] W1 fun e W' =>
      (e = .returned (.bool true) ∧ J (pre ++ [x]) W' ∧ Below w0.heap.size W1 W' ∧ TokKept W1 W') ∨ (e = .returned (.bool false) ∧ Jx (pre ++ [x]) W'))
    (hW : Below w0.heap.size w0 W) (hB : W.cell? ⟨B, 0, none⟩ = some (.string s)) (h0 : J [] W) :
    CallsIn Fence.wide n Tryz.prog 158 #[.func (.yield l) #[] #[], .pointer (some ⟨B, 0, none⟩)] W fun e W' => (∃ v, e = .returned v) ∧
      ((∃ ys, ys = toks s.size s 0 ∧ J ys W') ∨ (∃ pre, pre <+: toks s.size s 0 ∧ Jx pre W')) := by
  refine callsIn_of_wp Tryz.func158 rfl trivial ?_ rfl
  simp only [Tryz.ntmps158, List.size_toArray, List.length_cons, List.length_nil, Nat.reduceAdd, Nat.reduceSub, Array.replicate_succ, Array.replicate_zero, List.push_toArray, List.append_toArray, List.nil_append, List.cons_append]
  gi_wp2
  generalize hxs : toks s.size s 0 = xs at *
  have HX : Hid (toks s.size s 0 = xs) := hxs
  clear hxs
  gi_loopw [3, 4] (fun rest place wr => ∃ (pre : List Tok) (t : ByteArray) (p f : Nat), rest = .string t ∧ place = .int .i64 p ∧ Hid (pre ++ toks f t p = xs) ∧ t.size ≤ f ∧ p + t.size ≤ s.size ∧ J pre wr ∧ Below w0.heap.size w0 wr )
    (fun rest _ _ => strLen rest)
  case atStart => exact ⟨[], s, 0, s.size, rfl, rfl, HX, by omega, by omega, h0, hW⟩
  case round =>
    obtain ⟨pre, t, p, f, rfl, rfl, hx, hf, hp, hJs, hB0⟩ := hrel
    by_cases ht : t.size = 0
    · have he : t.toList.isEmpty = true := by rw [isEmpty_size]; simp [ht]
      gi_wp2
      go_end0
      exact ⟨⟨_, rfl⟩, .inl ⟨pre, by rw [← HX.out] at hx; rw [← hx.out, toks_empty f t p ht]; simp, hJs⟩⟩
    · have he : t.toList.isEmpty = false := by rw [isEmpty_size]; simp [ht]
      have h1 : 0 < t.size := by omega
      obtain ⟨g, rfl⟩ : ∃ g, f = g + 1 := ⟨f - 1, by omega⟩
      have hdg : Lib.decodeGo t = Utf8.decode t 0 := by unfold Lib.decodeGo; rw [if_neg ht]
      have hwp := Lib.decode_width_pos t 0 h1
      have hwl := width_le_at t 0 h1
      rw [Nat.zero_add] at hwl
      have hTr := Utf8Tabs_below hT hB0
      have hdec : Calls Tryz.prog 159 #[.string t] wr fun e w' => e = .returned (.tuple #[.int .i32 (Utf8.decode t 0).1, .int .i64 (Utf8.decode t 0).2]) ∧ Below wr.heap.size wr w' := by
        rw [← hdg]; exact Tryz.utf8_DecodeRuneInString t wr hTr
      generalize hd : Utf8.decode t 0 = d at *
      obtain ⟨r, wd⟩ := d
      have HD : Hid (Utf8.decode t 0 = (r, wd)) := hd
      clear hd hdg
      simp only at hwp hwl hdec
      by_cases hbl : blankB (r : Int) = true
      · gi_wp2_with (first | (refine ⟨trivial, ?_⟩; gi_at_call 159; refine (callsIn_wide.2 hdec).mono ?_; rintro e w1 ⟨rfl, hb1⟩) | (refine ⟨trivial, ?_⟩; gi_at_call 160; refine (callsIn_wide.2 (isBlank_any _ _)).mono ?_; rintro e w' ⟨rfl, rfl⟩))
        go_roundw
        case rel =>
          refine ⟨pre, t.extract wd t.size, p + 1, g, rfl, by go_num, ?_, by simp; omega, by simp; omega, hJ pre wr _ none hJs (below_grownBy hb1) (fun r e => by cases e), hB0.trans (hb1.mono hB0.size)⟩
          have := hx.out
          unfold toks at this
          rw [if_neg ht, HD.out, if_pos hbl] at this
          exact this
        case measure => simp [strLen]; omega
      · have hbl' : blankB (r : Int) = false := by simpa using hbl
        clear hbl
        have hok : (t.extract 0 (firstT t).2.1).size ≤ 1200 := by simp; omega
        have hx2 : pre ++ ⟨(firstT t).1, t.extract 0 (firstT t).2.1, p, (firstT t).2.2, hok⟩ :: toks g (t.extract (firstT t).2.1 t.size) (p + (firstT t).2.2) = xs := by
          have := hx.out
          unfold toks at this
          rw [if_neg ht, HD.out, if_neg (by simp [hbl']), dif_pos hok] at this
          exact this
        have hfb := firstT_bounds t h1
        have hfst : ∀ w1, Below wr.heap.size wr w1 → Calls Tryz.prog 161 #[.string t] w1 fun e w' => e = .returned (tokV (firstT t).1 (t.extract 0 (firstT t).2.1) 0 (firstT t).2.2) ∧ Below w1.heap.size w1 w' := by
          intro w1 hb
          exact first_any t w1 (by unfold maxLen; omega) h1 (Utf8Tabs_below hT (hB0.trans (hb.mono hB0.size)))
        generalize hF : firstT t = ft at *
        obtain ⟨fk, fb, fr⟩ := ft
        simp only at hx2 hfb hfst hok
        have HX2 : Hid (pre ++ ⟨fk, t.extract 0 fb, p, fr, hok⟩ :: toks g (t.extract fb t.size) (p + fr) = xs) := hx2
        clear hx2 hx HD hF
        have HF : Hid (∀ w1, Below wr.heap.size wr w1 → Calls Tryz.prog 161 #[.string t] w1 fun e w' => e = .returned (tokV fk (t.extract 0 fb) 0 fr) ∧ Below w1.heap.size w1 w') := hfst
        clear hfst
        have HJ : Hid (AbidesFrom W.heap.size J) := hJ
        have HY := hY
        clear hY hJ
        gi_wp2_with (first | (refine ⟨trivial, ?_⟩; gi_at_call 159; refine (callsIn_wide.2 hdec).mono ?_; rintro e w1 ⟨rfl, hb1⟩) | (refine ⟨trivial, ?_⟩; gi_at_call 160; refine (callsIn_wide.2 (isBlank_any _ _)).mono ?_; rintro e w' ⟨rfl, rfl⟩))
        refine ⟨trivial, ?_⟩
        refine (callsIn_wide.2 (HF.out _ hb1)).mono ?_
        rintro e w2 ⟨rfl, hb2⟩
        have hb12 : Below wr.heap.size wr w2 := hb1.trans (hb2.mono hb1.size)
        have hb3 := hb12.alloc hb12.size (.cells #[.int .i64 fk, .string (t.extract 0 fb), .int .i64 p, .int .i64 fr] 191)
        obtain ⟨fn, tmps, assign, body, hy, hR⟩ := HY pre ⟨fk, t.extract 0 fb, p, fr, hok⟩ (w2.alloc (.cells #[.int .i64 fk, .string (t.extract 0 fb), .int .i64 p, .int .i64 fr] 191)) (HJ.out pre wr _ none hJs (below_grownBy hb3) (fun r e => by cases e)) (by rw [← HX2.out]; simp)
        dsimp only [Tok.v] at hy
        have hsz2 : (t.extract 0 fb).size = fb := by simp; omega
        unfold tokV tokC at hy ⊢
        generalize hte : t.extract 0 fb = te at *
        gi_wp2
        refine hR.mono ?_
        rintro e W3 (⟨rfl, hJ3, hk3, htk⟩ | ⟨rfl, hJx3⟩)
        · have hblk : W3.heap[w2.heap.size]? = some (.cells #[.int .i64 fk, .string te, .int .i64 p, .int .i64 fr] 191 (0, 0)) := htk _ _ _ (World.alloc_heap_new w2 _)
          have hcA : W3.cell? ⟨w2.heap.size, 1, none⟩ = some (.string te) := by simp [World.cell?, hblk]
          have hcB : W3.cell? ⟨w2.heap.size, 3, none⟩ = some (.int .i64 fr) := by simp [World.cell?, hblk]
          have hi1 : (fb : Int) ≤ (t.size : Int) := by omega
          clear hblk htk hy hR
          gi_wp2
          gi_region
          all_goals
            gi_wp2
            go_roundw
            case rel =>
              refine ⟨pre ++ [⟨fk, te, p, fr, hok⟩], t.extract fb t.size, p + fr, g, by simp [hsz2], by go_num, ?_, by simp; omega, by simp; omega, HJ.out _ _ _ none hJ3 (below_grownBy ((Below.refl _ W3).drew)) (fun r e => by cases e), ((hB0.trans (hb3.mono hB0.size)).trans hk3).drew⟩
              have := HX2.out
              show _ = _
              rw [← this]; simp
            case measure => simp [strLen, hsz2]; omega
        · gi_wp2
          refine bodyPost_ret (results_none rfl _ _ _) rfl ?_
          exact ⟨⟨_, rfl⟩, .inr ⟨pre ++ [⟨fk, te, p, fr, hok⟩], ⟨toks g (t.extract fb t.size) (p + fr), by rw [HX.out, ← HX2.out]; simp⟩, hJx3⟩⟩

/-- What a round over tokens keeps: all below the caller's own memory, and every token's block. -/
def RoundKept (n₀ : Nat) (A B : World) : Prop := Below n₀ A B ∧ TokKept A B

theorem RoundKept.tr {n₀ : Nat} {A B C : World} (h : RoundKept n₀ A B) (k : RoundKept n₀ B C) : RoundKept n₀ A C := ⟨h.1.trans k.1, h.2.trans k.2⟩
theorem RoundKept.put {n₀ : Nat} {w : World} (hn : n₀ ≤ w.heap.size) (W : World) (l : Nat) (o o' : Obj) (hl : w.heap.size ≤ l) (h : W.heap[l]? = some o) (ho : o.isCells = false) (hk : o.isWalk = false) : RoundKept n₀ W (W.putObj l o') :=
  ⟨belowK_b hn W l o o' hl h ho hk, TokKept.put W l o o' h ho⟩

theorem all_stops (n : Nat) (hn : 1 ≤ n) (B : Nat) (s : ByteArray) (hs : s.size ≤ 1200) (w0 : World) (hT : Lib.Utf8Tabs 0 1 w0)
    (w : World) (hw : Below w0.heap.size w0 w) (hBw : B < w.heap.size) (hc : w.cell? ⟨B, 0, none⟩ = some (.string s)) :
    SeqStopsK Fence.wide n Tryz.prog 158 #[.pointer (some ⟨B, 0, none⟩)] (fun x : Tok => #[x.v]) (RoundKept w0.heap.size) (fun ys => ys = toks s.size s 0) (fun pre => pre <+: toks s.size s 0) (toks s.size s 0).length w :=
  fun l J Jx W hW hJ _ hY h0 => all1_in n hn l B s hs w0 hT J Jx W hJ hY (hw.trans (hW.mono hw.size)) ((hW.cell (p := ⟨B, 0, none⟩) hBw).trans hc) h0

end Go.Proofs.YtjajnhemgphefaaGreatDoor
