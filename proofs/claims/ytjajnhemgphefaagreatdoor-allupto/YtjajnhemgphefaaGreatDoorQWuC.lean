/- A part -/
import Derived.Test.YtjajnhemgphefaaGreatDoorRows
import Derived.JoinedCond
import Derived.RowKit
set_option linter.all false
namespace Go.Proofs.YtjajnhemgphefaaGreatDoor
open Go renaming World->Wq,Value->Vq
def Iz:(Rows.allUptoRow.inPlace == Tryz.pinned.checked.prog.inPlace 7)=true:=by kernel_rfl
def Lw:(Rows.allUptoRow.unfollowed == Tryz.pinned.checked.prog.unfollowed 7)=true:=by kernel_rfl
def Ir:(Rows.allUptoRow.recurses == Tryz.pinned.checked.prog.recurses 7)=true:=by kernel_rfl
def OE:(Rows.allUptoRow.named == Tryz.pinned.checked.prog.varsNamed 7)=true:=by kernel_rfl
def closed:joinedFacts Tryz.pinned.checked.prog 7 Tryz.f7 (Rows.OpenSpec.upto Rows.allSpec).bare Rows.allUptoRow=true:=by unfold joinedFacts;rw[Iz,Lw,Ir,OE];kernel_rfl
