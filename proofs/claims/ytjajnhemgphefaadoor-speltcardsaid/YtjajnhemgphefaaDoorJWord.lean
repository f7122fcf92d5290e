/-
  tokens.word: the letters and digits that a text begins with, for every text; nothing that lay before is turned.
-/
import Derived.Test.YtjajnhemgphefaaDoorJKeep
import Derived.Lib.RuneCount
import Derived.Lib.RuneCountTail
import Derived.Lib.QuoteLoop
namespace Go.Proofs.YtjajnhemgphefaaDoor
open Go.RowKit
set_option linter.unusedVariables false
set_option linter.unusedSimpArgs false

def wordR (r : Nat) : Bool := capB r || smallB r || digB r

def scan (s : ByteArray) : Nat → Nat → Nat → Nat × Nat
  | 0, pos, m => (pos, m)
  | f + 1, pos, m => if pos < s.size then (if wordR (Utf8.decode s pos).1 then scan s f (pos + (Utf8.decode s pos).2) (m + 1) else (pos, m)) else (pos, m)

theorem scan_end (s : ByteArray) (f pos m : Nat) (h : ¬ pos < s.size) : scan s f pos m = (pos, m) := by
  cases f <;> simp [scan, h]
theorem scan_stop (s : ByteArray) (f pos m : Nat) (h : wordR (Utf8.decode s pos).1 = false) : scan s f pos m = (pos, m) := by
  cases f <;> simp [scan, h]

theorem width_le_at (s : ByteArray) (pos : Nat) (h : pos < s.size) : pos + (Utf8.decode s pos).2 ≤ s.size := by
  have h1 := Lib.tail_decode s pos 0
  rw [Nat.add_zero] at h1
  have h2 := Lib.width_le (s.extract pos s.size) (by simp; omega)
  rw [h1] at h2
  simp at h2
  omega

theorem iterPos1 (w : World) (O : Obj) (s : ByteArray) (p : Nat) : ((w.alloc O).alloc (.stringIter s p)).iterPos (w.heap.size + 1) = p := by
  have := World.iterPos_iter (w.alloc O) s p
  rw [World.size_alloc] at this
  exact this

def tokC (k : Int) (t : ByteArray) (p m : Int) : Array Value := #[.int .i64 k, .string t, .int .i64 p, .int .i64 m]
def tokV (k : Int) (t : ByteArray) (p m : Int) : Value := .agg (tokC k t p m)

theorem extract_all (s : ByteArray) : s.extract 0 s.size = s := by
  simp

set_option maxHeartbeats 1000000 in
theorem word_any (k : Int) (s : ByteArray) (w : World) (hs : s.size ≤ maxLen) :
    Calls Tryd.prog 54 #[.int .i64 k, .string s] w fun e w' =>
      e = .returned (tokV k (s.extract 0 (scan s s.size 0 0).1) 0 (scan s s.size 0 0).2) ∧ Below w.heap.size w w' := by
  unfold maxLen at hs
  go_enter Tryd.func54, Tryd.ntmps54
  go_wp2
  go_loopw [5] (fun n w' => ∃ (pos b m : Nat), w' = (w.alloc (.cells #[.int .i64 0, .string ⟨#[]⟩, .int .i64 0, .int .i64 0] 71)).alloc (.stringIter s pos) ∧ n = .int .i64 m ∧ scan s b pos m = scan s s.size 0 0 ∧ s.size ≤ pos + b ∧ m ≤ pos ∧ pos ≤ s.size) (fun _ w' => s.size - w'.iterPos (w.heap.size + 1))
  case atStart => exact ⟨0, s.size, 0, rfl, rfl, rfl, by omega, by omega, by omega⟩
  case round =>
    obtain ⟨pos, b, m, rfl, rfl, hc, hb, hm, hle⟩ := hrel
    have HC : Hid (scan s b pos m = scan s s.size 0 0) := hc
    clear hc
    have hsz : (w.alloc (.cells #[.int .i64 0, .string ⟨#[]⟩, .int .i64 0, .int .i64 0] 71)).heap.size = w.heap.size + 1 := by simp
    by_cases hp : pos < s.size
    · have hnx : ∀ ty, (Instr.next (.pointer (some ⟨w.heap.size + 1, 0, none⟩)) true ty).run Tryd.prog ((w.alloc (.cells #[.int .i64 0, .string ⟨#[]⟩, .int .i64 0, .int .i64 0] 71)).alloc (.stringIter s pos)) = .ok (.tuple #[.bool true, .int .i64 pos, .int .i32 (Utf8.decode s pos).1]) ((w.alloc (.cells #[.int .i64 0, .string ⟨#[]⟩, .int .i64 0, .int .i64 0] 71)).alloc (.stringIter s (pos + (Utf8.decode s pos).2))) := fun ty => hsz ▸ run_next_any (w.alloc (.cells #[.int .i64 0, .string ⟨#[]⟩, .int .i64 0, .int .i64 0] 71)) s pos ty hp
      have hwd := Lib.decode_width_pos s pos hp
      have hwl := width_le_at s pos hp
      generalize hd : Utf8.decode s pos = d at *
      have HD : Hid (Utf8.decode s pos = d) := hd
      clear hd
      obtain ⟨r, wd⟩ := d
      simp only at hwd hwl hnx
      have hstep : Hid (wordR r = true → ∃ b', b = b' + 1 ∧ scan s b' (pos + wd) (m + 1) = scan s s.size 0 0) := by
        intro hw
        cases b with
        | zero => omega
        | succ b' => exact ⟨b', rfl, by rw [← HC.out]; simp [scan, hp, HD.out, hw]⟩
      have hstop : Hid (wordR r = false → scan s s.size 0 0 = (pos, m)) := by
        intro hw
        rw [← HC.out]; exact scan_stop s b pos m (by rw [HD.out]; exact hw)
      clear HC HD
      by_cases hcap : capB (r : Int) = true
      · go_wp2_with (first | (go_at_call 53; refine (isCapital_any _ _).mono ?_; rintro e w' ⟨rfl, rfl⟩) | (go_at_call 55; refine (isSmall_any _ _).mono ?_; rintro e w' ⟨rfl, rfl⟩) | (go_at_call 65; refine (isDigit_any _ _).mono ?_; rintro e w' ⟨rfl, rfl⟩))
        obtain ⟨b', rfl, hs'⟩ := hstep.out (by simp [wordR, hcap])
        go_roundw
        case rel => exact ⟨pos + wd, b', m + 1, rfl, by go_num, hs', by omega, by omega, by omega⟩
        case measure => rw [iterPos1, iterPos1]; omega
      by_cases hsm : smallB (r : Int) = true
      · have hcap' : capB (r : Int) = false := by simpa using hcap
        clear hcap
        go_wp2_with (first | (go_at_call 53; refine (isCapital_any _ _).mono ?_; rintro e w' ⟨rfl, rfl⟩) | (go_at_call 55; refine (isSmall_any _ _).mono ?_; rintro e w' ⟨rfl, rfl⟩) | (go_at_call 65; refine (isDigit_any _ _).mono ?_; rintro e w' ⟨rfl, rfl⟩))
        obtain ⟨b', rfl, hs'⟩ := hstep.out (by simp [wordR, hsm])
        go_roundw
        case rel => exact ⟨pos + wd, b', m + 1, rfl, by go_num, hs', by omega, by omega, by omega⟩
        case measure => rw [iterPos1, iterPos1]; omega
      by_cases hdg : digB (r : Int) = true
      · have hcap' : capB (r : Int) = false := by simpa using hcap
        have hsm' : smallB (r : Int) = false := by simpa using hsm
        clear hcap hsm
        go_wp2_with (first | (go_at_call 53; refine (isCapital_any _ _).mono ?_; rintro e w' ⟨rfl, rfl⟩) | (go_at_call 55; refine (isSmall_any _ _).mono ?_; rintro e w' ⟨rfl, rfl⟩) | (go_at_call 65; refine (isDigit_any _ _).mono ?_; rintro e w' ⟨rfl, rfl⟩))
        obtain ⟨b', rfl, hs'⟩ := hstep.out (by simp [wordR, hdg])
        go_roundw
        case rel => exact ⟨pos + wd, b', m + 1, rfl, by go_num, hs', by omega, by omega, by omega⟩
        case measure => rw [iterPos1, iterPos1]; omega
      have hcap' : capB (r : Int) = false := by simpa using hcap
      have hsm' : smallB (r : Int) = false := by simpa using hsm
      have hdg' : digB (r : Int) = false := by simpa using hdg
      clear hcap hsm hdg
      have hfin : Hid (scan s s.size 0 0 = (pos, m)) := hstop.out (by simp [wordR, hcap', hsm', hdg'])
      clear hstop hstep
      go_wp2_with (first | (go_at_call 53; refine (isCapital_any _ _).mono ?_; rintro e w' ⟨rfl, rfl⟩) | (go_at_call 55; refine (isSmall_any _ _).mono ?_; rintro e w' ⟨rfl, rfl⟩) | (go_at_call 65; refine (isDigit_any _ _).mono ?_; rintro e w' ⟨rfl, rfl⟩))
      refine bodyPost_ret (v := tokV k (s.extract 0 pos) 0 m) (by simp [results, Tryd.results54, go_sem, tokV, tokC]) rfl ?_
      rw [hfin.out]
      exact ⟨rfl, ((Below.refl _ _).alloc (Nat.le_refl _) _).alloc (by simp) _⟩
    · have hnx : ∀ ty, (Instr.next (.pointer (some ⟨w.heap.size + 1, 0, none⟩)) true ty).run Tryd.prog ((w.alloc (.cells #[.int .i64 0, .string ⟨#[]⟩, .int .i64 0, .int .i64 0] 71)).alloc (.stringIter s pos)) = .ok (.tuple #[.bool false]) ((w.alloc (.cells #[.int .i64 0, .string ⟨#[]⟩, .int .i64 0, .int .i64 0] 71)).alloc (.stringIter s pos)) := fun ty => hsz ▸ run_next_end (w.alloc (.cells #[.int .i64 0, .string ⟨#[]⟩, .int .i64 0, .int .i64 0] 71)) s pos ty hp
      have hfin : Hid (scan s s.size 0 0 = (pos, m)) := by rw [← HC.out]; exact scan_end s b pos m hp
      clear HC
      have hpe : Hid (s.extract 0 pos = s) := by rw [show pos = s.size by omega]; exact extract_all s
      go_wp2
      refine bodyPost_ret (v := tokV k s 0 m) (by simp [results, Tryd.results54, go_sem, tokV, tokC]) rfl ?_
      rw [hfin.out]
      exact ⟨by rw [hpe.out], ((Below.refl _ _).alloc (Nat.le_refl _) _).alloc (by simp) _⟩

end Go.Proofs.YtjajnhemgphefaaDoor
