/- A part -/
import Derived.Shelf.Strings.BuilderK
import Derived.Test.YtjajnhemgphefaaGreatDoorKEgO
set_option linter.all false
namespace Go.Proofs.YtjajnhemgphefaaGreatDoor
open Go renaming World->Wq,Value->Vq
open Go.RowKit Go.Shelf
def Bld(B b:Nat)(bs:List UInt8)(W:Wq):Prop:=Lib.IsBuilderF 133 5 B b (Lib.byteCells bs) W
structure qy6(B b:Nat)(bs:List UInt8)(W W':Wq):Prop where
 bld:Bld B b bs W'
 below:Below B W W'
 others:Lib.OthersKept 5 (some b) W W'
theorem qy6.trans{B b:Nat}{bs aa:List UInt8}{A C D:Wq}(h:qy6 B b bs A C)(k:qy6 B b aa C D):qy6 B b aa A D:=⟨k.bld,h.below.trans k.below,h.others.trans k.others⟩
