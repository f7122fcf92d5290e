/- What the card of Ends asks of the program's text: closed -/
import Derived.Test.YtjajnhemgphefaaGreatDoorRows
import Derived.JoinedCond
import Derived.RowKit
set_option linter.unusedVariables false
set_option linter.unusedSimpArgs false
namespace Go.Proofs.YtjajnhemgphefaaGreatDoor
open Go renaming World->Wq,Value->Vq
theorem qws:(Rows.endsUptoRow.inPlace == Tryz.pinned.checked.prog.inPlace 5)=true:=by kernel_rfl
theorem qqn:(Rows.endsUptoRow.unfollowed == Tryz.pinned.checked.prog.unfollowed 5)=true:=by kernel_rfl
theorem qt4:(Rows.endsUptoRow.recurses == Tryz.pinned.checked.prog.recurses 5)=true:=by kernel_rfl
theorem q2l:(Rows.endsUptoRow.named == Tryz.pinned.checked.prog.varsNamed 5)=true:=by kernel_rfl
theorem closed:joinedFacts Tryz.pinned.checked.prog 5 Tryz.f5 (Rows.OpenSpec.upto Rows.endsSpec).bare Rows.endsUptoRow=true:=by
 unfold joinedFacts;rw[qws,qqn,qt4,q2l]
 kernel_rfl
