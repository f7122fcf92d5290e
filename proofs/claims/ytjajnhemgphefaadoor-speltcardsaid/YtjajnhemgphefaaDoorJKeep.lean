/-
  The tests on one rune (blank, small, capital, digit, sign): each call answers what the plain function says, for every rune, and leaves the world as it was.
  What the statement itself calls beside the program: pick, word, gap: each answers what the plain function says.
-/
import Derived.Test.YtjajnhemgphefaaDoorRows
import Derived.WalkKit
import Derived.WalkSpells
import Derived.WalkLawsBesides
import Derived.BigQuiet
namespace Go.Proofs.YtjajnhemgphefaaDoor
open Go.RowKit
set_option linter.unusedVariables false
set_option linter.unusedSimpArgs false

def blankB (r : Int) : Bool := decide (r = 32 ∨ r = 9 ∨ r = 10)
def smallB (r : Int) : Bool := decide ((97 ≤ r ∧ r ≤ 122) ∨ (945 ≤ r ∧ r ≤ 969))
def capB (r : Int) : Bool := decide ((65 ≤ r ∧ r ≤ 90) ∨ (913 ≤ r ∧ r ≤ 937 ∧ r ≠ 930))
def digB (r : Int) : Bool := decide (48 ≤ r ∧ r ≤ 57)
def signK (r : Int) : Int := if r = 40 then 3 else if r = 41 then 4 else if r = 44 then 5 else if r = 46 then 6 else 0

theorem ret_bool {a b : Bool} (h : a = b) : Ending.returned (.bool a) = .returned (.bool b) := by rw [h]
theorem ret_int {k : IntKind} {a b : Int} (h : a = b) : Ending.returned (.int k a) = .returned (.int k b) := by rw [h]

set_option maxHeartbeats 400000 in
theorem isBlank_any (r : Int) (w : World) :
    Calls Tryd.prog 39 #[.int .i32 r] w fun e w' => e = .returned (.bool (blankB r)) ∧ w' = w := by
  go_enter Tryd.func39, Tryd.ntmps39
  go_wp2
  all_goals
    go_ret
    exact ⟨ret_bool (by rw [Bool.eq_iff_iff]; simp [blankB] <;> omega), rfl⟩

set_option maxHeartbeats 400000 in
theorem isSmall_any (r : Int) (w : World) :
    Calls Tryd.prog 55 #[.int .i32 r] w fun e w' => e = .returned (.bool (smallB r)) ∧ w' = w := by
  go_enter Tryd.func55, Tryd.ntmps55
  go_wp2
  all_goals
    go_ret
    exact ⟨ret_bool (by rw [Bool.eq_iff_iff]; simp [smallB] <;> omega), rfl⟩

set_option maxHeartbeats 400000 in
theorem isCapital_any (r : Int) (w : World) :
    Calls Tryd.prog 53 #[.int .i32 r] w fun e w' => e = .returned (.bool (capB r)) ∧ w' = w := by
  go_enter Tryd.func53, Tryd.ntmps53
  go_wp2
  all_goals
    go_ret
    exact ⟨ret_bool (by rw [Bool.eq_iff_iff]; simp [capB] <;> omega), rfl⟩

set_option maxHeartbeats 400000 in
theorem isDigit_any (r : Int) (w : World) :
    Calls Tryd.prog 65 #[.int .i32 r] w fun e w' => e = .returned (.bool (digB r)) ∧ w' = w := by
  go_enter Tryd.func65, Tryd.ntmps65
  go_wp2
  all_goals
    go_ret
    exact ⟨ret_bool (by rw [Bool.eq_iff_iff]; simp [digB] <;> omega), rfl⟩

set_option maxHeartbeats 400000 in
theorem signKind_any (r : Int) (w : World) :
    Calls Tryd.prog 57 #[.int .i32 r] w fun e w' => e = .returned (.int .i64 (signK r)) ∧ w' = w := by
  go_enter Tryd.func57, Tryd.ntmps57
  go_wp2
  all_goals
    go_ret
    exact ⟨ret_int (by simp_all [signK]), rfl⟩

end Go.Proofs.YtjajnhemgphefaaDoor

namespace Go.Proofs.YtjajnhemgphefaaDoor
open Go.RowKit
set_option linter.unusedVariables false
set_option linter.unusedSimpArgs false

def pickZ (c n : Int) : Int := if c < 0 then (-(c + 1)) % n else c % n

theorem pickZ_bounds (c n : Int) (hn : 0 < n) : 0 ≤ pickZ c n ∧ pickZ c n < n := by
  unfold pickZ
  split
  · exact ⟨Int.emod_nonneg _ (by omega), Int.emod_lt_of_pos _ hn⟩
  · exact ⟨Int.emod_nonneg _ (by omega), Int.emod_lt_of_pos _ hn⟩

theorem pick_neg (c n : Int) (hc : c < 0) : -(c + 1).tmod n = pickZ c n := by
  unfold pickZ
  rw [if_pos hc]
  obtain ⟨a, ha⟩ : ∃ a, a = -(c + 1) := ⟨_, rfl⟩
  have : c + 1 = -a := by omega
  rw [this, Int.neg_tmod, Int.neg_neg, Int.neg_neg, Int.tmod_eq_emod_of_nonneg (by omega)]

set_option maxHeartbeats 400000 in
theorem pick_any (c n : Int) (w : World) (h1 : -9223372036854775808 ≤ c) (h2 : c ≤ 9223372036854775807) (hn : 0 < n) (hn2 : n ≤ 1000) :
    Calls Tryd.prog 4 #[.int .i64 c, .int .i64 n] w fun e w' => e = .returned (.int .i64 (pickZ c n)) ∧ w' = w := by
  have hn0 : (n == 0) = false := by simp; omega
  by_cases hc : c < 0
  · go_enter Tryd.func4, Tryd.ntmps4
    go_wp2
    go_ret
    exact ⟨ret_int (pick_neg c n hc), rfl⟩
  · go_enter Tryd.func4, Tryd.ntmps4
    go_wp2
    go_ret
    exact ⟨ret_int (by unfold pickZ; rw [if_neg (by omega)]), rfl⟩

def wordZ (n : Int) : ByteArray × Int :=
  if n = 0 then (⟨#[88]⟩, 1) else if n = 1 then (⟨#[206, 158]⟩, 1) else if n = 2 then (⟨#[65, 98, 49]⟩, 3) else (⟨#[206, 169, 207, 137, 57]⟩, 3)

set_option maxHeartbeats 400000 in
theorem kword_any (n : Int) (w : World) :
    Calls Tryd.prog 8 #[.int .i64 n] w fun e w' => e = .returned (.tuple #[.string (wordZ n).1, .int .i64 (wordZ n).2]) ∧ w' = w := by
  by_cases h0 : n = 0
  · subst h0
    go_enter Tryd.func8, Tryd.ntmps8
    go_wp2
    go_ret2
    exact ⟨rfl, rfl⟩
  by_cases h1 : n = 1
  · subst h1
    go_enter Tryd.func8, Tryd.ntmps8
    go_wp2
    go_ret2
    exact ⟨rfl, rfl⟩
  by_cases h2 : n = 2
  · subst h2
    go_enter Tryd.func8, Tryd.ntmps8
    go_wp2
    go_ret2
    exact ⟨rfl, rfl⟩
  · have e0 : (n == 0) = false := by simp [h0]
    have e1 : (n == 1) = false := by simp [h1]
    have e2 : (n == 2) = false := by simp [h2]
    have hw : wordZ n = (⟨#[206, 169, 207, 137, 57]⟩, 3) := by unfold wordZ; simp [h0, h1, h2]
    have HW : Hid (wordZ n = (⟨#[206, 169, 207, 137, 57]⟩, 3)) := hw
    clear hw h0 h1 h2
    go_enter Tryd.func8, Tryd.ntmps8
    go_wp2
    go_ret2
    rw [HW.out]
    exact ⟨rfl, rfl⟩

theorem w64_lo (x : Int) : -9223372036854775808 ≤ wrap64 x := by unfold wrap64; omega
theorem w64_hi (x : Int) : wrap64 x ≤ 9223372036854775807 := by unfold wrap64; omega

def gapK (k : Int) : List UInt8 :=
  if k < 3 then [] else if k = 3 then [32] else if k = 4 then [9] else if k = 5 then [10] else if k = 6 then [32, 32] else if k = 7 then [9, 32] else [10, 32]

/-- The gap that stands ahead of the n-th token. -/
def gapF (zs : List Int) (n : Nat) : List UInt8 := if zs.length = 0 then [] else gapK (pickZ (wrap64 (zs[n % zs.length]?.getD 0 + wrap64 ((n : Int) / (zs.length : Int)))) 9)

theorem gapK_ok (k : Int) : (∀ c ∈ gapK k, c = 32 ∨ c = 9 ∨ c = 10) ∧ (gapK k).length ≤ 2 := by
  unfold gapK
  repeat' split
  all_goals exact ⟨by decide, by decide⟩
theorem gapF_ok (zs : List Int) (n : Nat) : (∀ c ∈ gapF zs n, c = 32 ∨ c = 9 ∨ c = 10) ∧ (gapF zs n).length ≤ 2 := by
  unfold gapF
  split
  · exact ⟨by simp, by decide⟩
  · exact gapK_ok _

set_option maxHeartbeats 400000 in
theorem gap_none (a : Option Addr) (cap n : Nat) (w : World) :
    Calls Tryd.prog 7 #[.slice a 0 cap, .int .i64 n] w fun e w' => e = .returned (.string ⟨#[]⟩) ∧ ∃ q, w' = w.drewN q := by
  go_enter Tryd.func7, Tryd.ntmps7
  go_wp2
  go_ret
  exact ⟨rfl, 0, rfl⟩

set_option maxHeartbeats 2000000 in
theorem gap_some (b off cap : Nat) (zs : List Int) (n : Nat) (w : World) (hl : zs.length ≤ maxLen) (hn : n < 1000) (h0 : 0 < zs.length) (hc : ∀ j, j < zs.length → w.cell? ⟨b, off + j, none⟩ = some (.int .i64 (zs.getD j 0))) :
    Calls Tryd.prog 7 #[.slice (some ⟨b, off, none⟩) zs.length cap, .int .i64 n] w fun e w' => e = .returned (.string ⟨(gapF zs n).toArray⟩) ∧ ∃ q, w' = w.drewN q := by
  unfold maxLen at hl
  have e0 : ((zs.length : Int) == 0) = false := beq_eq_false_iff_ne.2 (by omega)
  have hq := hc (n % zs.length) (Nat.mod_lt _ h0)
  have i1 : (0 : Int) ≤ (n : Int) % (zs.length : Int) := Int.emod_nonneg _ (by omega)
  have i2 : (n : Int) % (zs.length : Int) < (zs.length : Int) := Int.emod_lt_of_pos _ (by omega)
  have HG : Hid (gapF zs n = gapK (pickZ (wrap64 (zs[n % zs.length]?.getD 0 + wrap64 ((n : Int) / (zs.length : Int)))) 9)) := by
    show gapF zs n = _
    unfold gapF; rw [if_neg (by omega)]
  go_enter Tryd.func7, Tryd.ntmps7
  go_wp2
  go_quiet ((go_at_call 4; exact Calls.quiet_of_same (pick_any _ _ _ (w64_lo _) (w64_hi _) (by decide) (by decide))))
  have hk := pickZ_bounds (wrap64 (zs[n % zs.length]?.getD 0 + wrap64 ((n : Int) / (zs.length : Int)))) 9 (by decide)
  generalize pickZ (wrap64 (zs[n % zs.length]?.getD 0 + wrap64 ((n : Int) / (zs.length : Int)))) 9 = k at hk HG ⊢
  have h9 : k = 0 ∨ k = 1 ∨ k = 2 ∨ k = 3 ∨ k = 4 ∨ k = 5 ∨ k = 6 ∨ k = 7 ∨ k = 8 := by omega
  clear hk
  rcases h9 with rfl | rfl | rfl | rfl | rfl | rfl | rfl | rfl | rfl
  all_goals
    go_wp2
    go_ret
    refine ⟨?_, _, rfl⟩
    rw [HG.out]
    rfl

end Go.Proofs.YtjajnhemgphefaaDoor
