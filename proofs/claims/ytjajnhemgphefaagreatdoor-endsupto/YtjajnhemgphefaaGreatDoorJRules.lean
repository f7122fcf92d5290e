/- ebb.Rules: for every text it answers what the plain -/
import Derived.Shelf.Strings.BuilderK
import Derived.Test.YtjajnhemgphefaaGreatDoorJEgO
set_option linter.unusedVariables false
set_option linter.unusedSimpArgs false
namespace Go.Proofs.YtjajnhemgphefaaGreatDoor
open Go renaming World->Wq,Value->Vq
open Go.RowKit Go.Shelf
variable {B b:Nat} {bs bs0:List UInt8} {W W':Wq}
def Bld(B b:Nat)(bs:List UInt8)(W:Wq):Prop:=Lib.IsBuilderF 133 5 B b (Lib.byteCells bs) W
structure qj1(B b:Nat)(bs:List UInt8)(W W':Wq):Prop where
 bld:Bld B b bs W'
 below:Below B W W'
 others:Lib.OthersKept 5 (some b) W W'
theorem Bld.block(h:Bld B b bs W):B<=b/\∃c,W.heap[b]?=some (Obj.cells c 133):=by
 rcases h with⟨hB,v,hb,_⟩ | ⟨hB,v,hb,_⟩
 ·exact⟨hB,_,hb⟩
 ·exact⟨hB,_,hb⟩
theorem Bld.below(h:Bld B b bs W)(hb:Below W.heap.size W W'):Bld B b bs W':=by
 have hlt:b < W.heap.size:=by obtain⟨_,c,hc⟩:=h.block;exact (zg hc).1
 rcases h with⟨h1,v,h2,h3,h4⟩ | ⟨h1,v,h2,h3,h4⟩
 ·exact .inl ⟨h1,v,(hb.block b hlt).trans h2,h3.kept (qh hb) (by cases hv:v.ownBlock <;> simp),h4⟩
 ·exact .inr ⟨h1,v,(hb.block b hlt).trans h2,h3.kept (qh hb) (by cases hv:v.ownBlock <;> simp),h4⟩
theorem qj1.cells(h:qj1 B b bs W W')(h0:Bld B b bs0 W){k:Nat}{c:Array Vq}{t:TypeId}{fz:Nat×Nat}(hk:W.heap[k]?=some (Obj.cells c t fz))(ht:t≠5)(ht2:t≠133):W'.heap[k]?=some (Obj.cells c t fz):=by
 refine h.others k _ hk (λe=>?_) (λc' fz' e=>?_)
 ·cases e;obtain⟨_,c',hc'⟩:=h0.block;rw[hk] at hc';cases hc';exact ht2 rfl
 ·cases e;exact ht rfl
theorem qj1.rk(h:qj1 B b bs W W')(h0:Bld B b bs0 W):qf W W':=λk c t ht hc=>
 h.cells h0 hc (by rcases ht with rfl | rfl | rfl <;> decide) (by rcases ht with rfl | rfl | rfl <;> decide)
theorem qj1.row(h:qj1 B b bs W W')(h0:Bld B b bs0 W){base n:Nat}{v:Vq}{xs:List Vq}(hv:W.ownsRow base 9 1 v n xs):W'.ownsRow base 9 1 v n xs:=
 q8 hv (λg c _ hc=>h.cells h0 hc (by decide) (by decide))
theorem qj1.trans{bs':List UInt8}{A C D:Wq}(h:qj1 B b bs A C)(k:qj1 B b bs' C D):qj1 B b bs' A D:=⟨k.bld,h.below.trans k.below,h.others.trans k.others⟩
