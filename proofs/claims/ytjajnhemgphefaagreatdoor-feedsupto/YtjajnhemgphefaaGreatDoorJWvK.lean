/- A part -/
import Derived.Test.YtjajnhemgphefaaGreatDoorRows
import Derived.JoinedCond
import Derived.RowKit
set_option linter.all false
namespace Go.Proofs.YtjajnhemgphefaaGreatDoor
open Go renaming World->Wq,Value->Vq
theorem EU:(Rows.feedsUptoRow.inPlace == Tryz.pinned.checked.prog.inPlace 6)=true:=by kernel_rfl
theorem Ee:(Rows.feedsUptoRow.unfollowed == Tryz.pinned.checked.prog.unfollowed 6)=true:=by kernel_rfl
theorem C8:(Rows.feedsUptoRow.recurses == Tryz.pinned.checked.prog.recurses 6)=true:=by kernel_rfl
theorem Ic:(Rows.feedsUptoRow.named == Tryz.pinned.checked.prog.varsNamed 6)=true:=by kernel_rfl
theorem closed:joinedFacts Tryz.pinned.checked.prog 6 Tryz.f6 (Rows.OpenSpec.upto Rows.feedsSpec).bare Rows.feedsUptoRow=true:=by
 unfold joinedFacts;rw[EU,Ee,C8,Ic]
 kernel_rfl
