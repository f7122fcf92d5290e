/- A part -/
import Derived.Shelf.SlGeneric
import Derived.Shelf.Spec.SlicesGrow
import Derived.Ground.Names8Prog
import Derived.Shelf.SlSortCmp.WholeK
import Derived.Ground.SlsfProg
import Derived.Test.YtjajnhemgphefaaGreatDoorProg
namespace Go.Proofs
open Go.Shelf Tryz
def Tryz.growAtom_ren:Go.Shelf.Ren:=⟨λ| 4=>259 | n=>n,λ| 22=>134 | 25=>92 | 3=>3 | 4=>4 | 9=>9 | 20=>20 | 0=>0 | n=>n,λ| n=>n⟩
theorem Tryz.growAtom:Go.Proofs.Lays8.n4 Tryz.prog Tryz.growAtom_ren:={
 mixed:=by kernel_rfl
 f4:=⟨f259.name,by decide,func259.trans (congrArg some (by kernel_rfl))⟩
 t0:=underlying0
 a0:=isAgg0
 z0:=sizeOf0
 v0:=zeroValue0
 t3:=underlying3
 a3:=isAgg3
 z3:=sizeOf3
 v3:=zeroValue3
 t4:=underlying4
 a4:=isAgg4
 z4:=sizeOf4
 v4:=zeroValue4
 t9:=underlying9
 a9:=isAgg9
 z9:=sizeOf9
 v9:=zeroValue9
 t20:=underlying20
 a20:=isAgg20
 z20:=sizeOf20
 v20:=zeroValue20
 t22:=underlying134
 a22:=isAgg134
 z22:=sizeOf134
 v22:=zeroValue134}
def Tryz.sortLasting_ren:Go.Shelf.Ren:=⟨λ| 6=>185 | 15=>155 | 14=>228 | 28=>208 | 29=>209 | 20=>251 | 21=>252 | 22=>253 | 23=>254 | 24=>255 | 25=>256 | 26=>257 | 27=>258 | 46=>268 | 47=>239 | 48=>240 | 49=>269 | 50=>270 | 57=>273 | n=>n,λ| 22=>169 | 24=>172 | 25=>253 | 3=>3 | 39=>273 | 0=>0 | 53=>325 | 55=>327 | 4=>4 | 46=>318 | 45=>317 | 50=>286 | 5=>5 | 9=>9 | 66=>349 | 70=>353 | 76=>373 | 77=>374 | n=>n,λ| n=>n⟩
theorem Tryz.sortLasting:Go.Proofs.SlLaysF0.n6 Tryz.prog Tryz.sortLasting_ren:={
 mixed:=by kernel_rfl
 f6:=⟨f185.name,by decide,func185.trans (congrArg some (by kernel_rfl))⟩
 f14:=⟨f228.name,by decide,func228.trans (congrArg some (by kernel_rfl))⟩
 f15:=func155.trans (congrArg some (by kernel_rfl))
 f20:=⟨f251.name,by decide,func251.trans (congrArg some (by kernel_rfl))⟩
 f21:=⟨f252.name,by decide,func252.trans (congrArg some (by kernel_rfl))⟩
 f22:=⟨f253.name,by decide,func253.trans (congrArg some (by kernel_rfl))⟩
 f23:=⟨f254.name,by decide,func254.trans (congrArg some (by kernel_rfl))⟩
 f24:=⟨f255.name,by decide,func255.trans (congrArg some (by kernel_rfl))⟩
 f25:=⟨f256.name,by decide,func256.trans (congrArg some (by kernel_rfl))⟩
 f26:=⟨f257.name,by decide,func257.trans (congrArg some (by kernel_rfl))⟩
 f27:=⟨f258.name,by decide,func258.trans (congrArg some (by kernel_rfl))⟩
 f28:=func208.trans (congrArg some (by kernel_rfl))
 f29:=func209.trans (congrArg some (by kernel_rfl))
 f46:=⟨f268.name,by decide,func268.trans (congrArg some (by kernel_rfl))⟩
 f47:=func239.trans (congrArg some (by kernel_rfl))
 f48:=func240.trans (congrArg some (by kernel_rfl))
 f49:=⟨f269.name,by decide,func269.trans (congrArg some (by kernel_rfl))⟩
 f50:=⟨f270.name,by decide,func270.trans (congrArg some (by kernel_rfl))⟩
 f57:=⟨f273.name,by decide,func273.trans (congrArg some (by kernel_rfl))⟩
 t0:=underlying0
 a0:=isAgg0
 z0:=sizeOf0
 v0:=zeroValue0
 t3:=underlying3
 a3:=isAgg3
 z3:=sizeOf3
 v3:=zeroValue3
 t4:=underlying4
 a4:=isAgg4
 z4:=sizeOf4
 v4:=zeroValue4
 t5:=underlying5
 a5:=isAgg5
 z5:=sizeOf5
 v5:=zeroValue5
 t9:=underlying9
 a9:=isAgg9
 z9:=sizeOf9
 v9:=zeroValue9
 t22:=underlying169
 a22:=isAgg169
 z22:=sizeOf169
 v22:=zeroValue169
 t25:=underlying253
 a25:=isAgg253
 z25:=sizeOf253
 v25:=zeroValue253
 t39:=underlying273
 a39:=isAgg273
 z39:=sizeOf273
 v39:=zeroValue273
 t45:=underlying317
 a45:=isAgg317
 z45:=sizeOf317
 v45:=zeroValue317
 t46:=underlying318
 a46:=isAgg318
 z46:=sizeOf318
 v46:=zeroValue318
 t50:=underlying286
 a50:=isAgg286
 z50:=sizeOf286
 v50:=zeroValue286
 t53:=underlying325
 a53:=isAgg325
 z53:=sizeOf325
 v53:=zeroValue325
 t55:=underlying327
 a55:=isAgg327
 z55:=sizeOf327
 v55:=zeroValue327
 t66:=underlying349
 a66:=isAgg349
 z66:=sizeOf349
 v66:=zeroValue349
 t70:=underlying353
 a70:=isAgg353
 z70:=sizeOf353
 v70:=zeroValue353
 t76:=underlying373
 a76:=isAgg373
 z76:=sizeOf373
 v76:=zeroValue373
 t77:=underlying374
 a77:=isAgg374
 z77:=sizeOf374
 v77:=zeroValue374}
end Go.Proofs
