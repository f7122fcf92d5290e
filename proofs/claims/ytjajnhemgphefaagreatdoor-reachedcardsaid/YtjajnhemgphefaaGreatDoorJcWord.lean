/-
  The tests on one rune (blank, small, capital, digit, sign): each call answers what the plain function says, for every rune, and leaves the world as it was.
  What the statements of ebbkeep call beside the program: pick, point, of.
  tokens.word: the letters and digits that a text begins with, for every text; nothing that lay before is turned.
-/
import Derived.Test.YtjajnhemgphefaaGreatDoorRows
import Derived.WalkKit
import Derived.WalkSpells
import Derived.WalkLawsBesides
import Derived.BigQuiet
import Derived.Lib.RuneCount
import Derived.Lib.RuneCountTail
import Derived.Lib.QuoteLoop
namespace Go.Proofs.YtjajnhemgphefaaGreatDoor
open Go.RowKit
set_option linter.unusedVariables false
set_option linter.unusedSimpArgs false

def blankB (r : Int) : Bool := decide (r = 32 ∨ r = 9 ∨ r = 10)
def smallB (r : Int) : Bool := decide ((97 ≤ r ∧ r ≤ 122) ∨ (945 ≤ r ∧ r ≤ 969))
def capB (r : Int) : Bool := decide ((65 ≤ r ∧ r ≤ 90) ∨ (913 ≤ r ∧ r ≤ 937 ∧ r ≠ 930))
def digB (r : Int) : Bool := decide (48 ≤ r ∧ r ≤ 57)
def signK (r : Int) : Int := if r = 40 then 3 else if r = 41 then 4 else if r = 44 then 5 else if r = 46 then 6 else 0

theorem ret_bool {a b : Bool} (h : a = b) : Ending.returned (.bool a) = .returned (.bool b) := by rw [h]
theorem ret_int {k : IntKind} {a b : Int} (h : a = b) : Ending.returned (.int k a) = .returned (.int k b) := by rw [h]

set_option maxHeartbeats 400000 in
theorem isBlank_any (r : Int) (w : World) :
    Calls Tryz.prog 160 #[.int .i32 r] w fun e w' => e = .returned (.bool (blankB r)) ∧ w' = w := by
  go_enter Tryz.func160, Tryz.ntmps160
  go_wp2
  all_goals
    go_ret
    exact ⟨ret_bool (by rw [Bool.eq_iff_iff]; simp [blankB] <;> omega), rfl⟩

set_option maxHeartbeats 400000 in
theorem isSmall_any (r : Int) (w : World) :
    Calls Tryz.prog 213 #[.int .i32 r] w fun e w' => e = .returned (.bool (smallB r)) ∧ w' = w := by
  go_enter Tryz.func213, Tryz.ntmps213
  go_wp2
  all_goals
    go_ret
    exact ⟨ret_bool (by rw [Bool.eq_iff_iff]; simp [smallB] <;> omega), rfl⟩

set_option maxHeartbeats 400000 in
theorem isCapital_any (r : Int) (w : World) :
    Calls Tryz.prog 211 #[.int .i32 r] w fun e w' => e = .returned (.bool (capB r)) ∧ w' = w := by
  go_enter Tryz.func211, Tryz.ntmps211
  go_wp2
  all_goals
    go_ret
    exact ⟨ret_bool (by rw [Bool.eq_iff_iff]; simp [capB] <;> omega), rfl⟩

set_option maxHeartbeats 400000 in
theorem isDigit_any (r : Int) (w : World) :
    Calls Tryz.prog 244 #[.int .i32 r] w fun e w' => e = .returned (.bool (digB r)) ∧ w' = w := by
  go_enter Tryz.func244, Tryz.ntmps244
  go_wp2
  all_goals
    go_ret
    exact ⟨ret_bool (by rw [Bool.eq_iff_iff]; simp [digB] <;> omega), rfl⟩

set_option maxHeartbeats 400000 in
theorem signKind_any (r : Int) (w : World) :
    Calls Tryz.prog 215 #[.int .i32 r] w fun e w' => e = .returned (.int .i64 (signK r)) ∧ w' = w := by
  go_enter Tryz.func215, Tryz.ntmps215
  go_wp2
  all_goals
    go_ret
    exact ⟨ret_int (by simp_all [signK]), rfl⟩

end Go.Proofs.YtjajnhemgphefaaGreatDoor

namespace Go.Proofs.YtjajnhemgphefaaGreatDoor
open Go.RowKit
set_option linter.unusedVariables false
set_option linter.unusedSimpArgs false

def ptB (i : Nat) : ByteArray := ⟨#[UInt8.ofNat (97 + i)]⟩
/-- A relation of two points, as it is written. -/
def ofB (r : ByteArray) (a b : Nat) : ByteArray := ⟨r.data ++ #[40, UInt8.ofNat (97 + a), 44, UInt8.ofNat (97 + b), 41]⟩
theorem lt6 {a : Nat} (h : a < 6) : a = 0 ∨ a = 1 ∨ a = 2 ∨ a = 3 ∨ a = 4 ∨ a = 5 := by omega
def pickZ (c n : Int) : Int := if c < 0 then (-(c + 1)) % n else c % n
theorem pickZ_bounds (c n : Int) (hn : 0 < n) : 0 ≤ pickZ c n ∧ pickZ c n < n := by
  unfold pickZ
  split
  · exact ⟨Int.emod_nonneg _ (by omega), Int.emod_lt_of_pos _ hn⟩
  · exact ⟨Int.emod_nonneg _ (by omega), Int.emod_lt_of_pos _ hn⟩
theorem pick_neg (c n : Int) (hc : c < 0) : -(c + 1).tmod n = pickZ c n := by
  unfold pickZ
  rw [if_pos hc]
  obtain ⟨a, ha⟩ : ∃ a, a = -(c + 1) := ⟨_, rfl⟩
  have : c + 1 = -a := by omega
  rw [this, Int.neg_tmod, Int.neg_neg, Int.neg_neg, Int.tmod_eq_emod_of_nonneg (by omega)]

set_option maxHeartbeats 400000 in
theorem kpick_any (c n : Int) (w : World) (h1 : -9223372036854775808 ≤ c) (h2 : c ≤ 9223372036854775807) (hn : 0 < n) (hn2 : n ≤ 1000) :
    Calls Tryz.prog 19 #[.int .i64 c, .int .i64 n] w fun e w' => e = .returned (.int .i64 (pickZ c n)) ∧ w' = w := by
  have hn0 : (n == 0) = false := by simp; omega
  by_cases hc : c < 0
  · go_enter Tryz.func19, Tryz.ntmps19
    go_wp2
    go_ret
    exact ⟨ret_int (pick_neg c n hc), rfl⟩
  · go_enter Tryz.func19, Tryz.ntmps19
    go_wp2
    go_ret
    exact ⟨ret_int (by unfold pickZ; rw [if_neg (by omega)]), rfl⟩

set_option maxRecDepth 100000 in
theorem kpoint_any (n : Nat) (hn : n < 6) (w : World) :
    Calls Tryz.prog 45 #[.int .i64 n] w fun e w' => e = .returned (.string (ptB n)) ∧ w' = w := by
  rcases lt6 hn with rfl | rfl | rfl | rfl | rfl | rfl
  all_goals
    go_enter Tryz.func45, Tryz.ntmps45
    go_wp2
    go_ret
    exact ⟨rfl, rfl⟩

set_option maxRecDepth 100000 in
theorem kof_any (r : ByteArray) (a b : Nat) (hr : r.size ≤ 1000) (ha : a < 6) (hb : b < 6) (w : World) :
    Calls Tryz.prog 21 #[.string r, .int .i64 a, .int .i64 b] w fun e w' => e = .returned (.string (ofB r a b)) ∧ w' = w := by
  have hp : Hid (∀ n : Nat, n < 6 → ∀ W, Calls Tryz.prog 45 #[.int .i64 n] W fun e w' => e = .returned (.string (ptB n)) ∧ W = w') := fun n hn W => (kpoint_any n hn W).mono (by rintro e w' ⟨h1, h2⟩; exact ⟨h1, h2.symm⟩)
  have s1 : ∀ n, (ptB n).size = 1 := fun _ => rfl
  have n1 : ¬ 9223372036854775807 < r.size + 1 := by omega
  have n2 : ¬ 9223372036854775807 < r.size + 1 + (ptB a).size := by rw [s1]; omega
  have n3 : ¬ 9223372036854775807 < r.size + 1 + (ptB a).size + 1 := by rw [s1]; omega
  have n4 : ¬ 9223372036854775807 < r.size + 1 + (ptB a).size + 1 + (ptB b).size := by rw [s1, s1]; omega
  have n5 : ¬ 9223372036854775807 < r.size + 1 + (ptB a).size + 1 + (ptB b).size + 1 := by rw [s1, s1]; omega
  have HO : Hid (r ++ ⟨#[40]⟩ ++ ptB a ++ ⟨#[44]⟩ ++ ptB b ++ ⟨#[41]⟩ = ofB r a b) := by
    show _ = _
    unfold ofB ptB
    cases r with
    | mk d =>
      apply ByteArray.ext
      apply Array.ext'
      simp [ByteArray.data_append]
  clear s1
  go_enter Tryz.func21, Tryz.ntmps21
  go_wp2_with (first | (go_at_call 45; refine (hp.out a ha _).mono ?_; rintro e w' ⟨rfl, rfl⟩) | (go_at_call 45; refine (hp.out b hb _).mono ?_; rintro e w' ⟨rfl, rfl⟩))
  go_ret
  rw [← HO.out]
  exact ⟨rfl, rfl⟩

end Go.Proofs.YtjajnhemgphefaaGreatDoor

namespace Go.Proofs.YtjajnhemgphefaaGreatDoor
open Go.RowKit
set_option linter.unusedVariables false
set_option linter.unusedSimpArgs false

def wordR (r : Nat) : Bool := capB r || smallB r || digB r

def scan (s : ByteArray) : Nat → Nat → Nat → Nat × Nat
  | 0, pos, m => (pos, m)
  | f + 1, pos, m => if pos < s.size then (if wordR (Utf8.decode s pos).1 then scan s f (pos + (Utf8.decode s pos).2) (m + 1) else (pos, m)) else (pos, m)

theorem scan_end (s : ByteArray) (f pos m : Nat) (h : ¬ pos < s.size) : scan s f pos m = (pos, m) := by
  cases f <;> simp [scan, h]
theorem scan_stop (s : ByteArray) (f pos m : Nat) (h : wordR (Utf8.decode s pos).1 = false) : scan s f pos m = (pos, m) := by
  cases f <;> simp [scan, h]

theorem width_le_at (s : ByteArray) (pos : Nat) (h : pos < s.size) : pos + (Utf8.decode s pos).2 ≤ s.size := by
  have h1 := Lib.tail_decode s pos 0
  rw [Nat.add_zero] at h1
  have h2 := Lib.width_le (s.extract pos s.size) (by simp; omega)
  rw [h1] at h2
  simp at h2
  omega

theorem iterPos1 (w : World) (O : Obj) (s : ByteArray) (p : Nat) : ((w.alloc O).alloc (.stringIter s p)).iterPos (w.heap.size + 1) = p := by
  have := World.iterPos_iter (w.alloc O) s p
  rw [World.size_alloc] at this
  exact this

def tokC (k : Int) (t : ByteArray) (p m : Int) : Array Value := #[.int .i64 k, .string t, .int .i64 p, .int .i64 m]
def tokV (k : Int) (t : ByteArray) (p m : Int) : Value := .agg (tokC k t p m)

theorem extract_all (s : ByteArray) : s.extract 0 s.size = s := by
  simp

set_option maxHeartbeats 1000000 in
theorem word_any (k : Int) (s : ByteArray) (w : World) (hs : s.size ≤ maxLen) :
    Calls Tryz.prog 212 #[.int .i64 k, .string s] w fun e w' =>
      e = .returned (tokV k (s.extract 0 (scan s s.size 0 0).1) 0 (scan s s.size 0 0).2) ∧ Below w.heap.size w w' := by
  unfold maxLen at hs
  go_enter Tryz.func212, Tryz.ntmps212
  go_wp2
  go_loopw [5] (fun n w' => ∃ (pos b m : Nat), w' = (w.alloc (.cells #[.int .i64 0, .string ⟨#[]⟩, .int .i64 0, .int .i64 0] 191)).alloc (.stringIter s pos) ∧ n = .int .i64 m ∧ scan s b pos m = scan s s.size 0 0 ∧ s.size ≤ pos + b ∧ m ≤ pos ∧ pos ≤ s.size) (fun _ w' => s.size - w'.iterPos (w.heap.size + 1))
  case atStart => exact ⟨0, s.size, 0, rfl, rfl, rfl, by omega, by omega, by omega⟩
  case round =>
    obtain ⟨pos, b, m, rfl, rfl, hc, hb, hm, hle⟩ := hrel
    have HC : Hid (scan s b pos m = scan s s.size 0 0) := hc
    clear hc
    have hsz : (w.alloc (.cells #[.int .i64 0, .string ⟨#[]⟩, .int .i64 0, .int .i64 0] 191)).heap.size = w.heap.size + 1 := by simp
    by_cases hp : pos < s.size
    · have hnx : ∀ ty, (Instr.next (.pointer (some ⟨w.heap.size + 1, 0, none⟩)) true ty).run Tryz.prog ((w.alloc (.cells #[.int .i64 0, .string ⟨#[]⟩, .int .i64 0, .int .i64 0] 191)).alloc (.stringIter s pos)) = .ok (.tuple #[.bool true, .int .i64 pos, .int .i32 (Utf8.decode s pos).1]) ((w.alloc (.cells #[.int .i64 0, .string ⟨#[]⟩, .int .i64 0, .int .i64 0] 191)).alloc (.stringIter s (pos + (Utf8.decode s pos).2))) := fun ty => hsz ▸ run_next_any (w.alloc (.cells #[.int .i64 0, .string ⟨#[]⟩, .int .i64 0, .int .i64 0] 191)) s pos ty hp
      have hwd := Lib.decode_width_pos s pos hp
      have hwl := width_le_at s pos hp
      generalize hd : Utf8.decode s pos = d at *
      have HD : Hid (Utf8.decode s pos = d) := hd
      clear hd
      obtain ⟨r, wd⟩ := d
      simp only at hwd hwl hnx
      have hstep : Hid (wordR r = true → ∃ b', b = b' + 1 ∧ scan s b' (pos + wd) (m + 1) = scan s s.size 0 0) := by
        intro hw
        cases b with
        | zero => omega
        | succ b' => exact ⟨b', rfl, by rw [← HC.out]; simp [scan, hp, HD.out, hw]⟩
      have hstop : Hid (wordR r = false → scan s s.size 0 0 = (pos, m)) := by
        intro hw
        rw [← HC.out]; exact scan_stop s b pos m (by rw [HD.out]; exact hw)
      clear HC HD
      by_cases hcap : capB (r : Int) = true
      · go_wp2_with (first | (go_at_call 211; refine (isCapital_any _ _).mono ?_; rintro e w' ⟨rfl, rfl⟩) | (go_at_call 213; refine (isSmall_any _ _).mono ?_; rintro e w' ⟨rfl, rfl⟩) | (go_at_call 244; refine (isDigit_any _ _).mono ?_; rintro e w' ⟨rfl, rfl⟩))
        obtain ⟨b', rfl, hs'⟩ := hstep.out (by simp [wordR, hcap])
        go_roundw
        case rel => exact ⟨pos + wd, b', m + 1, rfl, by go_num, hs', by omega, by omega, by omega⟩
        case measure => rw [iterPos1, iterPos1]; omega
      by_cases hsm : smallB (r : Int) = true
      · have hcap' : capB (r : Int) = false := by simpa using hcap
        clear hcap
        go_wp2_with (first | (go_at_call 211; refine (isCapital_any _ _).mono ?_; rintro e w' ⟨rfl, rfl⟩) | (go_at_call 213; refine (isSmall_any _ _).mono ?_; rintro e w' ⟨rfl, rfl⟩) | (go_at_call 244; refine (isDigit_any _ _).mono ?_; rintro e w' ⟨rfl, rfl⟩))
        obtain ⟨b', rfl, hs'⟩ := hstep.out (by simp [wordR, hsm])
        go_roundw
        case rel => exact ⟨pos + wd, b', m + 1, rfl, by go_num, hs', by omega, by omega, by omega⟩
        case measure => rw [iterPos1, iterPos1]; omega
      by_cases hdg : digB (r : Int) = true
      · have hcap' : capB (r : Int) = false := by simpa using hcap
        have hsm' : smallB (r : Int) = false := by simpa using hsm
        clear hcap hsm
        go_wp2_with (first | (go_at_call 211; refine (isCapital_any _ _).mono ?_; rintro e w' ⟨rfl, rfl⟩) | (go_at_call 213; refine (isSmall_any _ _).mono ?_; rintro e w' ⟨rfl, rfl⟩) | (go_at_call 244; refine (isDigit_any _ _).mono ?_; rintro e w' ⟨rfl, rfl⟩))
        obtain ⟨b', rfl, hs'⟩ := hstep.out (by simp [wordR, hdg])
        go_roundw
        case rel => exact ⟨pos + wd, b', m + 1, rfl, by go_num, hs', by omega, by omega, by omega⟩
        case measure => rw [iterPos1, iterPos1]; omega
      have hcap' : capB (r : Int) = false := by simpa using hcap
      have hsm' : smallB (r : Int) = false := by simpa using hsm
      have hdg' : digB (r : Int) = false := by simpa using hdg
      clear hcap hsm hdg
      have hfin : Hid (scan s s.size 0 0 = (pos, m)) := hstop.out (by simp [wordR, hcap', hsm', hdg'])
      clear hstop hstep
      go_wp2_with (first | (go_at_call 211; refine (isCapital_any _ _).mono ?_; rintro e w' ⟨rfl, rfl⟩) | (go_at_call 213; refine (isSmall_any _ _).mono ?_; rintro e w' ⟨rfl, rfl⟩) | (go_at_call 244; refine (isDigit_any _ _).mono ?_; rintro e w' ⟨rfl, rfl⟩))
      refine bodyPost_ret (v := tokV k (s.extract 0 pos) 0 m) (by simp [results, Tryz.results212, go_sem, tokV, tokC]) rfl ?_
      rw [hfin.out]
      exact ⟨rfl, ((Below.refl _ _).alloc (Nat.le_refl _) _).alloc (by simp) _⟩
    · have hnx : ∀ ty, (Instr.next (.pointer (some ⟨w.heap.size + 1, 0, none⟩)) true ty).run Tryz.prog ((w.alloc (.cells #[.int .i64 0, .string ⟨#[]⟩, .int .i64 0, .int .i64 0] 191)).alloc (.stringIter s pos)) = .ok (.tuple #[.bool false]) ((w.alloc (.cells #[.int .i64 0, .string ⟨#[]⟩, .int .i64 0, .int .i64 0] 191)).alloc (.stringIter s pos)) := fun ty => hsz ▸ run_next_end (w.alloc (.cells #[.int .i64 0, .string ⟨#[]⟩, .int .i64 0, .int .i64 0] 191)) s pos ty hp
      have hfin : Hid (scan s s.size 0 0 = (pos, m)) := by rw [← HC.out]; exact scan_end s b pos m hp
      clear HC
      have hpe : Hid (s.extract 0 pos = s) := by rw [show pos = s.size by omega]; exact extract_all s
      go_wp2
      refine bodyPost_ret (v := tokV k s 0 m) (by simp [results, Tryz.results212, go_sem, tokV, tokC]) rfl ?_
      rw [hfin.out]
      exact ⟨by rw [hpe.out], ((Below.refl _ _).alloc (Nat.le_refl _) _).alloc (by simp) _⟩

end Go.Proofs.YtjajnhemgphefaaGreatDoor
