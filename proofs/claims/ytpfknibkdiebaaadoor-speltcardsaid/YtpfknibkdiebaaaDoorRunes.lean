/-
  The tests on one rune (blank, small, capital, digit, sign): each call answers what the plain function says, for every rune, and leaves the world as it was.
-/
import Derived.Test.YtpfknibkdiebaaaDoorRows
import Derived.WalkKit
import Derived.WalkSpells
import Derived.WalkLawsBesides
namespace Go.Proofs.YtpfknibkdiebaaaDoor
open Go.RowKit
set_option linter.unusedVariables false
set_option linter.unusedSimpArgs false

def blankB (r : Int) : Bool := decide (r = 32 ∨ r = 9 ∨ r = 10)
def smallB (r : Int) : Bool := decide ((97 ≤ r ∧ r ≤ 122) ∨ (945 ≤ r ∧ r ≤ 969))
def capB (r : Int) : Bool := decide ((65 ≤ r ∧ r ≤ 90) ∨ (913 ≤ r ∧ r ≤ 937 ∧ r ≠ 930))
def digB (r : Int) : Bool := decide (48 ≤ r ∧ r ≤ 57)
def signK (r : Int) : Int := if r = 40 then 3 else if r = 41 then 4 else if r = 44 then 5 else if r = 46 then 6 else 0

theorem ret_bool {a b : Bool} (h : a = b) : Ending.returned (.bool a) = .returned (.bool b) := by rw [h]
theorem ret_int {k : IntKind} {a b : Int} (h : a = b) : Ending.returned (.int k a) = .returned (.int k b) := by rw [h]

set_option maxHeartbeats 400000 in
theorem isBlank_any (r : Int) (w : World) :
    Calls Tryd.prog 27 #[.int .i32 r] w fun e w' => e = .returned (.bool (blankB r)) ∧ w' = w := by
  go_enter Tryd.func27, Tryd.ntmps27
  go_wp2
  all_goals
    go_ret
    exact ⟨ret_bool (by rw [Bool.eq_iff_iff]; simp [blankB] <;> omega), rfl⟩

set_option maxHeartbeats 400000 in
theorem isSmall_any (r : Int) (w : World) :
    Calls Tryd.prog 46 #[.int .i32 r] w fun e w' => e = .returned (.bool (smallB r)) ∧ w' = w := by
  go_enter Tryd.func46, Tryd.ntmps46
  go_wp2
  all_goals
    go_ret
    exact ⟨ret_bool (by rw [Bool.eq_iff_iff]; simp [smallB] <;> omega), rfl⟩

set_option maxHeartbeats 400000 in
theorem isCapital_any (r : Int) (w : World) :
    Calls Tryd.prog 44 #[.int .i32 r] w fun e w' => e = .returned (.bool (capB r)) ∧ w' = w := by
  go_enter Tryd.func44, Tryd.ntmps44
  go_wp2
  all_goals
    go_ret
    exact ⟨ret_bool (by rw [Bool.eq_iff_iff]; simp [capB] <;> omega), rfl⟩

set_option maxHeartbeats 400000 in
theorem isDigit_any (r : Int) (w : World) :
    Calls Tryd.prog 62 #[.int .i32 r] w fun e w' => e = .returned (.bool (digB r)) ∧ w' = w := by
  go_enter Tryd.func62, Tryd.ntmps62
  go_wp2
  all_goals
    go_ret
    exact ⟨ret_bool (by rw [Bool.eq_iff_iff]; simp [digB] <;> omega), rfl⟩

set_option maxHeartbeats 400000 in
theorem signKind_any (r : Int) (w : World) :
    Calls Tryd.prog 48 #[.int .i32 r] w fun e w' => e = .returned (.int .i64 (signK r)) ∧ w' = w := by
  go_enter Tryd.func48, Tryd.ntmps48
  go_wp2
  all_goals
    go_ret
    exact ⟨ret_int (by simp_all [signK]), rfl⟩

end Go.Proofs.YtpfknibkdiebaaaDoor
