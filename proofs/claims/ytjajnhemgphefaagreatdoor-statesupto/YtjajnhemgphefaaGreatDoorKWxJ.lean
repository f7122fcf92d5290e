/- A part -/
import Derived.Test.YtjajnhemgphefaaGreatDoorRows
import Derived.JoinedCond
import Derived.RowKit
set_option linter.all false
namespace Go.Proofs.YtjajnhemgphefaaGreatDoor
open Go renaming World->Wq,Value->Vq
theorem qxe:(Rows.statesUptoRow.inPlace == Tryz.pinned.checked.prog.inPlace 4)=true:=by kernel_rfl
theorem qrb:(Rows.statesUptoRow.unfollowed == Tryz.pinned.checked.prog.unfollowed 4)=true:=by kernel_rfl
theorem qur:(Rows.statesUptoRow.recurses == Tryz.pinned.checked.prog.recurses 4)=true:=by kernel_rfl
theorem q3k:(Rows.statesUptoRow.named == Tryz.pinned.checked.prog.varsNamed 4)=true:=by kernel_rfl
theorem closed:joinedFacts Tryz.pinned.checked.prog 4 Tryz.f4 (Rows.OpenSpec.upto Rows.statesSpec).bare Rows.statesUptoRow=true:=by
 unfold joinedFacts;rw[qxe,qrb,qur,q3k]
 kernel_rfl
