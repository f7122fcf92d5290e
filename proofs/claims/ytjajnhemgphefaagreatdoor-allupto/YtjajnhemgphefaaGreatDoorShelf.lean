/- DERIVED: THE SHELF's CONTRACTS AT THIS DUMP, IN PLAIN WORDS -/
import Derived.RangeFuncRecord
import Derived.Shelf.Strings.Builder1
import Derived.Shelf.Strings.Builder2
import Derived.Shelf.Strings.OnBuilder
import Derived.Shelf.Small.Bits
import Derived.Shelf.Small.Wraps
import Derived.Shelf.Strings.BuilderF
import Derived.Shelf.Strings.BuilderK
import Derived.Shelf.Utf8.RuneCount
import Derived.Shelf.Strconv.Itoa0
import Derived.Shelf.Strconv.Itoa1
import Derived.Shelf.LaysM
import Derived.Shelf.Strconv.Itoa2
import Derived.Shelf.Strconv.Itoa3
import Derived.Shelf.Strconv.Clone
import Derived.Shelf.Sort.Plain
import Derived.Shelf.Strings.Prefix
import Derived.Shelf.Unicode.DecodeSlow
import Derived.Shelf.Unicode.DecodeAny
import Derived.Shelf.Slices.Turned
import Derived.Ground.Names2Prog
import Derived.Shelf.Slices.Clone
import Derived.Test.YtjajnhemgphefaaGreatDoorProg
namespace Go.Proofs
open Go.Shelf Tryz
theorem zg{α:Type}{a:Array α}{i:Nat}{x:α}(h:a[i]?=some x):∃h:i<a.size,a[i]=x:=Array.getElem?_eq_some_iff.1 h
theorem zl{n:Nat}:n<=n:=Nat.le_refl n
def Tryz.lays169_ren:Go.Shelf.Ren:=⟨λ| 169=>63 | n=>n,λ| 70=>130 | 9=>9 | 0=>0 | 72=>133 | 37=>131 | 127=>206 | 3=>3 | 5=>5 | n=>n,λ| n=>n⟩
theorem Tryz.lays169:Go.Proofs.Lays.n169 Tryz.prog Tryz.lays169_ren:=by constructor<;>(try intro _)<;>(show _=_;kernel_rfl)
theorem Tryz.Builder_Extra_169:Builder.Extra Tryz.prog Tryz.lays169_ren:={
 sizeBuilder:=by kernel_rfl
 liesBuilder:=by kernel_rfl
 t5:=underlying5
 a5:=isAgg5
 z5:=sizeOf5
 v5:=zeroValue5
 infoByte:=by kernel_rfl
 cellsByte:=by kernel_rfl
 sizeByte:=by kernel_rfl
 neB5:=by decide}
def Tryz.lays156_ren:Go.Shelf.Ren:=⟨λ| 156=>153 | 165=>198 | 166=>105 | 169=>63 | 240=>171 | 241=>237 | 276=>219 | 277=>262 | n=>n,λ| 31=>22 | 9=>9 | 3=>3 | 4=>4 | 0=>0 | 20=>20 | 72=>133 | 76=>204 | 70=>130 | 37=>131 | 75=>203 | 127=>206 | 164=>333 | 5=>5 | 80=>138 | n=>n,λ| n=>n⟩
theorem Tryz.lays156:Go.Proofs.Lays.n156 Tryz.prog Tryz.lays156_ren:=by constructor<;>(try intro _)<;>(show _=_;kernel_rfl)
theorem Tryz.Builder_Extra_156:Builder.Extra Tryz.prog Tryz.lays156_ren:={
 sizeBuilder:=by kernel_rfl
 liesBuilder:=by kernel_rfl
 t5:=underlying5
 a5:=isAgg5
 z5:=sizeOf5
 v5:=zeroValue5
 infoByte:=by kernel_rfl
 cellsByte:=by kernel_rfl
 sizeByte:=by kernel_rfl
 neB5:=by decide}
open Go.RowKit in
theorem Tryz.strings_Join(bk o c:Nat)(xs:List ByteArray)(sep:ByteArray)(w:World)(hcells:∀(j:Nat) x,xs[j]?=some x->w.cell? ⟨bk,o+j,none⟩=some (.string x))(hbk:bk < w.heap.size)(hN:xs.length<=140737488355328)(hcap:xs.length<=c)(hlen:(Lib.join (xs.map (·.data.toList)) sep.data.toList).length<=140737488355328) :
  Calls Tryz.prog 153 #[.slice (some ⟨bk,o,none⟩) xs.length c,.string sep] w λe w'=>e=.returned (.string ⟨(Lib.join (xs.map (·.data.toList)) sep.data.toList).toArray⟩)/\Below w.heap.size w w':=Any.strings_Join Tryz.lays156 Tryz.Builder_Extra_156 bk o c xs sep w hcells hbk hN hcap hlen
def Tryz.lays122_ren:Go.Shelf.Ren:=⟨λ| 122=>133 | 215=>187 | n=>n,λ| 3=>3 | 4=>4 | n=>n,λ| n=>n⟩
theorem Tryz.lays122:Go.Proofs.Lays.n122 Tryz.prog Tryz.lays122_ren:=by constructor<;>(try intro _)<;>(show _=_;kernel_rfl)
open Go.RowKit in
theorem Tryz.cmp_Compare_int(x y:Int)(w:World) :
  Calls Tryz.prog 133 #[.int .i64 x,.int .i64 y] w λe w'=>e=.returned (.int .i64 (Lib.compareInt x y))/\w'=w:=Any.cmp_Compare_int Tryz.lays122 x y w
open Go.RowKit in
theorem Tryz.Builder_String_any_k(B b:Nat)(l:List UInt8)(w:World)(h:Lib.IsBuilderF 133 5 B b (Lib.byteCells l) w)(hBw:B<=w.heap.size) :
  Calls Tryz.prog 63 #[.pointer (some ⟨b,0,none⟩)] w λe w'=>e=.returned (.string ⟨l.toArray⟩)/\(Lib.IsBuilderF 133 5 B b (Lib.byteCells l) w'/\Below B w w'/\Lib.OthersKept 5 (some b) w w'):=Any.Builder_String_any_k Tryz.lays169 Tryz.Builder_Extra_169 B b l w h hBw
def Tryz.lays195_ren:Go.Shelf.Ren:=⟨λ| 195=>95 | n=>n,λ| 9=>9 | 3=>3 | 0=>0 | 4=>4 | n=>n,λ| n=>n⟩
theorem Tryz.lays195:Go.Proofs.Lays.n195 Tryz.prog Tryz.lays195_ren:=by constructor<;>(try intro _)<;>(show _=_;kernel_rfl)
open Go.RowKit in
theorem Tryz.utf8_RuneCountInString(s:ByteArray)(w:World)(hs:s.size < 9223372036854775807) :
  Calls Tryz.prog 95 #[.string s] w λe w'=>e=.returned (.int .i64 (Lib.runeCount s))/\∃pos,w'=w.iter s pos:=Any.utf8_RuneCountInString Tryz.lays195 s w hs
def Tryz.laysM171_ren:Go.Shelf.Ren:=⟨λ| 171=>129 | 243=>183 | 246=>227 | 283=>247 | 284=>248 | 285=>249 | 286=>250 | 129=>209 | 317=>264 | 318=>265 | 319=>266 | 320=>267 | 337=>271 | 338=>272 | n=>n,λ| 3=>3 | 9=>9 | 2=>2 | 4=>4 | 171=>360 | 0=>0 | 53=>327 | 37=>131 | 5=>5 | 173=>362 | 212=>377 | 51=>325 | 20=>20 | 213=>378 | 46=>273 | 232=>382 | 233=>383 | n=>n,λ| 17=>2 | 18=>4 | 19=>5 | n=>n⟩
theorem Tryz.laysM171:Go.Proofs.LaysM.n171 Tryz.prog Tryz.laysM171_ren:={
 mixed:=by kernel_rfl
 f129:=func209.trans (congrArg some (by kernel_rfl))
 f171:=func129.trans (congrArg some (by kernel_rfl))
 f243:=func183.trans (congrArg some (by kernel_rfl))
 f246:=func227.trans (congrArg some (by kernel_rfl))
 f283:=func247.trans (congrArg some (by kernel_rfl))
 f284:=func248.trans (congrArg some (by kernel_rfl))
 f285:=func249.trans (congrArg some (by kernel_rfl))
 f286:=func250.trans (congrArg some (by kernel_rfl))
 f317:=func264.trans (congrArg some (by kernel_rfl))
 f318:=func265.trans (congrArg some (by kernel_rfl))
 f319:=func266.trans (congrArg some (by kernel_rfl))
 f320:=func267.trans (congrArg some (by kernel_rfl))
 f337:=func271.trans (congrArg some (by kernel_rfl))
 f338:=func272.trans (congrArg some (by kernel_rfl))
 t0:=underlying0
 a0:=isAgg0
 z0:=sizeOf0
 v0:=zeroValue0
 t2:=underlying2
 a2:=isAgg2
 z2:=sizeOf2
 v2:=zeroValue2
 t3:=underlying3
 a3:=isAgg3
 z3:=sizeOf3
 v3:=zeroValue3
 t4:=underlying4
 a4:=isAgg4
 z4:=sizeOf4
 v4:=zeroValue4
 t5:=underlying5
 a5:=isAgg5
 z5:=sizeOf5
 v5:=zeroValue5
 t9:=underlying9
 a9:=isAgg9
 z9:=sizeOf9
 v9:=zeroValue9
 t20:=underlying20
 a20:=isAgg20
 z20:=sizeOf20
 v20:=zeroValue20
 t37:=underlying131
 a37:=isAgg131
 z37:=sizeOf131
 v37:=zeroValue131
 t46:=underlying273
 a46:=isAgg273
 z46:=sizeOf273
 v46:=zeroValue273
 t51:=underlying325
 a51:=isAgg325
 z51:=sizeOf325
 v51:=zeroValue325
 t53:=underlying327
 a53:=isAgg327
 z53:=sizeOf327
 v53:=zeroValue327
 t171:=underlying360
 a171:=isAgg360
 z171:=sizeOf360
 v171:=zeroValue360
 t173:=underlying362
 a173:=isAgg362
 z173:=sizeOf362
 v173:=zeroValue362
 t212:=underlying377
 a212:=isAgg377
 z212:=sizeOf377
 v212:=zeroValue377
 t213:=underlying378
 a213:=isAgg378
 z213:=sizeOf378
 t232:=underlying382
 a232:=isAgg382
 z232:=sizeOf382
 v232:=zeroValue382
 t233:=underlying383
 a233:=isAgg383
 z233:=sizeOf383
 v233:=zeroValue383
 g17:=by kernel_rfl
 g18:=by kernel_rfl
 g19:=by kernel_rfl
 i0:=by kernel_rfl
 i2:=by kernel_rfl
 i3:=by kernel_rfl
 i4:=by kernel_rfl
 i5:=by kernel_rfl
 i9:=by kernel_rfl
 i20:=by kernel_rfl
 i37:=by kernel_rfl
 i46:=by kernel_rfl
 i51:=by kernel_rfl
 i53:=by kernel_rfl
 i171:=by kernel_rfl
 i173:=by kernel_rfl
 i212:=by kernel_rfl
 i232:=by kernel_rfl
 i233:=by kernel_rfl
 m17:=by kernel_rfl
 m18:=by kernel_rfl
 m19:=by kernel_rfl}
open Go.RowKit Go.Sort Go.Lib in
theorem Tryz.strconv_Itoa(n:Int)(h0 : -9223372036854775808<=n)(h1:n<=9223372036854775807)(w:World)(htab:Lib.TabIs Tryz.prog w "internal/strconv.uint64pow10" .u64 Lib.pow10Tab) :
  Calls Tryz.prog 129 #[.int .i64 n] w λe w'=>e=.returned (.string ⟨(Lib.itoa n).toArray⟩)/\∃k os,w'=grow (w.drewN k) os:=Any.strconv_Itoa Tryz.laysM171 n h0 h1 w htab
def Tryz.lays171_ren:Go.Shelf.Ren:=⟨λ| 171=>129 | 243=>183 | 246=>227 | 283=>247 | 284=>248 | 285=>249 | 286=>250 | 129=>209 | 317=>264 | 318=>265 | 319=>266 | 320=>267 | 337=>271 | 338=>272 | n=>n,λ| 3=>3 | 9=>9 | 2=>2 | 4=>4 | 171=>360 | 0=>0 | 53=>327 | 37=>131 | 5=>5 | 173=>362 | 212=>377 | 51=>325 | 20=>20 | 213=>378 | 46=>273 | 232=>382 | 233=>383 | n=>n,λ| 17=>2 | 18=>4 | 19=>5 | n=>n⟩
theorem Tryz.lays171:Go.Proofs.Lays.n171 Tryz.prog Tryz.lays171_ren:=by constructor<;>(try intro _)<;>(show _=_;kernel_rfl)
open Go.RowKit Go.Sort Go.Lib in
theorem Tryz.strconv_Itoa_small(i:Nat)(hi:i < 100)(w:World) :
  Calls Tryz.prog 129 #[.int .i64 i] w λe w'=>e=.returned (.string ⟨(Lib.decDigits i).toArray⟩)/\w'=w:=Any.strconv_Itoa_small Tryz.lays171 i hi w
def Tryz.laysM316_ren:Go.Shelf.Ren:=⟨λ| 316=>162 | n=>n,λ| 9=>9 | 3=>3 | 4=>4 | 37=>131 | 0=>0 | 127=>206 | 5=>5 | n=>n,λ| n=>n⟩
theorem Tryz.laysM316:Go.Proofs.LaysM.n316 Tryz.prog Tryz.laysM316_ren:={
 mixed:=by kernel_rfl
 f316:=func162.trans (congrArg some (by kernel_rfl))
 t0:=underlying0
 a0:=isAgg0
 z0:=sizeOf0
 v0:=zeroValue0
 t3:=underlying3
 a3:=isAgg3
 z3:=sizeOf3
 v3:=zeroValue3
 t4:=underlying4
 a4:=isAgg4
 z4:=sizeOf4
 v4:=zeroValue4
 t9:=underlying9
 a9:=isAgg9
 z9:=sizeOf9
 v9:=zeroValue9
 t37:=underlying131
 a37:=isAgg131
 z37:=sizeOf131
 v37:=zeroValue131
 t127:=underlying206
 a127:=isAgg206
 z127:=sizeOf206
 v127:=zeroValue206
 t5:=underlying5
 a5:=isAgg5
 z5:=sizeOf5
 v5:=zeroValue5
 i0:=by kernel_rfl
 i3:=by kernel_rfl
 i4:=by kernel_rfl
 i5:=by kernel_rfl
 i9:=by kernel_rfl
 i37:=by kernel_rfl
 i127:=by kernel_rfl}
open Go.RowKit in
theorem Tryz.stringslite_Clone(s:ByteArray)(w:World)(hlim:s.size<=281474976710656) :
  Calls Tryz.prog 162 #[.string s] w λe w'=>e=.returned (.string s)/\Below w.heap.size w w':=Any.stringslite_Clone Tryz.laysM316 s w hlim
def Tryz.lays190_ren:Go.Shelf.Ren:=⟨λ| 190=>92 | 125=>155 | 258=>154 | 128=>208 | 129=>209 | 302=>199 | 303=>200 | 304=>201 | 305=>202 | 306=>203 | 307=>204 | 308=>205 | 309=>206 | 310=>207 | 333=>238 | 329=>239 | 330=>240 | 334=>241 | 335=>242 | 336=>243 | 344=>263 | n=>n,λ| 31=>22 | 9=>9 | 3=>3 | 46=>273 | 0=>0 | 51=>325 | 53=>327 | 4=>4 | 183=>318 | 182=>317 | 131=>286 | 5=>5 | 218=>349 | 222=>353 | 228=>373 | 229=>374 | n=>n,λ| n=>n⟩
theorem Tryz.lays190:Go.Proofs.Lays.n190 Tryz.prog Tryz.lays190_ren:=by constructor<;>(try intro _)<;>(show _=_;kernel_rfl)
open Go.Sort Go.RowKit in
theorem Tryz.slices_Sort_string(blk off cap:Nat)(ss:List (List UInt8))(w:World)(hH:Holds encStr w blk off ss.toArray)(hblk:blk < w.heap.size)(hsz:ss.length < 4611686018427387904) :
  Calls Tryz.prog 92 #[.slice (some ⟨blk,off,none⟩) ss.length cap] w λe w'=>
   e=.returned (.tuple #[])/\∃n os,w'=grow (putRow encStr (Sort.ahead w n) blk off (ss.mergeSort λx y=>decide (x<=y)).toArray) os:=Any.slices_Sort_string Tryz.lays190 blk off cap ss w hH hblk hsz
def Tryz.lays99_ren:Go.Shelf.Ren:=⟨λ| 99=>214 | 206=>245 | n=>n,λ| 9=>9 | 4=>4 | 3=>3 | n=>n,λ| n=>n⟩
theorem Tryz.lays99:Go.Proofs.Lays.n99 Tryz.prog Tryz.lays99_ren:=by constructor<;>(try intro _)<;>(show _=_;kernel_rfl)
open Go.RowKit Go.Lib in
theorem Tryz.strings_HasPrefix(s p:ByteArray)(w:World) :
  Calls Tryz.prog 214 #[.string s,.string p] w λe w'=>e=.returned (.bool (Lib.hasPrefix s.data.toList p.data.toList))/\w'=w:=Any.strings_HasPrefix Tryz.lays99 s p w
def Tryz.lays197_ren:Go.Shelf.Ren:=⟨λ| 197=>159 | 260=>210 | n=>n,λ| 9=>9 | 21=>21 | 3=>3 | 4=>4 | 5=>5 | 105=>278 | 119=>355 | 0=>0 | 46=>273 | 139=>358 | 138=>357 | n=>n,λ| 3=>0 | 4=>1 | n=>n⟩
theorem Tryz.lays197:Go.Proofs.Lays.n197 Tryz.prog Tryz.lays197_ren:=by constructor<;>(try intro _)<;>(show _=_;kernel_rfl)
open Go.RowKit Go.Lib in
theorem Tryz.utf8_DecodeRuneInString(s:ByteArray)(w:World)(hT:Lib.Utf8Tabs 0 1 w) :
  Calls Tryz.prog 159 #[.string s] w λe w'=>e=.returned (.tuple #[.int .i32 (Lib.decodeGo s).1,.int .i64 (Lib.decodeGo s).2])/\Below w.heap.size w w':=Any.utf8_DecodeRuneInString Tryz.lays197 s w hT
def Tryz.lays109_ren:Go.Shelf.Ren:=⟨λ| 109=>191 | n=>n,λ| 31=>22 | 9=>9 | 3=>3 | 0=>0 | 4=>4 | n=>n,λ| n=>n⟩
theorem Tryz.lays109:Go.Proofs.Lays.n109 Tryz.prog Tryz.lays109_ren:=by constructor<;>(try intro _)<;>(show _=_;kernel_rfl)
open Go.Lib in
theorem Tryz.slices_Index_string(b off n c:Nat)(zs:List ByteArray)(x:ByteArray)(w:World)(hz:n<=zs.length)(hbig:n<=9223372036854775807)(hc:∀j,j < zs.length->w.cell? ⟨b,off+j,none⟩=some (.string (zs.getD j ByteArray.empty))) :
  Calls Tryz.prog 191 #[.slice (some ⟨b,off,none⟩) n c,.string x] w λe w'=>e=.returned (.int .i64 (Lib.idxOfS (zs.take n) x))/\w'=w:=Any.slices_Index_string Tryz.lays109 b off n c zs x w hz hbig hc
open Go.Lib in
theorem Tryz.slices_Index_string_empty(a:Option Addr)(c:Nat)(x:ByteArray)(w:World) :
  Calls Tryz.prog 191 #[.slice a 0 c,.string x] w λe w'=>e=.returned (.int .i64 (Lib.idxOfS [] x))/\w'=w:=Any.slices_Index_string_empty Tryz.lays109 a c x w
def Tryz.lays110_ren:Go.Shelf.Ren:=⟨λ| 110=>140 | 109=>191 | n=>n,λ| 31=>22 | 9=>9 | 4=>4 | 3=>3 | 0=>0 | n=>n,λ| n=>n⟩
theorem Tryz.lays110:Go.Proofs.Lays.n110 Tryz.prog Tryz.lays110_ren:=by constructor<;>(try intro _)<;>(show _=_;kernel_rfl)
open Go.Lib in
theorem Tryz.slices_Contains_string(b off n c:Nat)(zs:List ByteArray)(x:ByteArray)(w:World)(hz:n<=zs.length)(hbig:n<=9223372036854775807)(hc:∀j,j < zs.length->w.cell? ⟨b,off+j,none⟩=some (.string (zs.getD j ByteArray.empty))) :
  Calls Tryz.prog 140 #[.slice (some ⟨b,off,none⟩) n c,.string x] w λe w'=>e=.returned (.bool (Lib.containsS (zs.take n) x))/\w'=w:=Any.slices_Contains_string Tryz.lays110 b off n c zs x w hz hbig hc
open Go.Lib in
theorem Tryz.slices_Contains_string_empty(a:Option Addr)(c:Nat)(x:ByteArray)(w:World) :
  Calls Tryz.prog 140 #[.slice a 0 c,.string x] w λe w'=>e=.returned (.bool false)/\w'=w:=Any.slices_Contains_string_empty Tryz.lays110 a c x w
def Tryz.laysNm216_ren:Go.Shelf.Ren:=⟨λ| 16=>83 | n=>n,λ| 24=>22 | 9=>9 | 4=>4 | n=>n,λ| n=>n⟩
theorem Tryz.laysNm216:Go.Proofs.Lays2.n16 Tryz.prog Tryz.laysNm216_ren:=by constructor<;>(try intro _)<;>(show _=_;kernel_rfl)
open Go.RowKit Go.Lib in
theorem Tryz.slices_Clone_string(b off n c:Nat)(zs:List ByteArray)(w:World)(hz:n<=zs.length)(hbig:n*16<=140737488355328)(hc:∀j,j < zs.length->w.cell? ⟨b,off+j,none⟩=some (.string (zs.getD j ByteArray.empty))) :
  Calls Tryz.prog 83 #[.slice (some ⟨b,off,none⟩) n c] w λe w'=>∃v',e=.returned v'/\w'.ownsRow w.heap.size 9 1 v' n ((zs.take n).map (Value.string))/\v'≠.slice none 0 0/\Below w.heap.size w w':=Any.slices_Clone_string Tryz.laysNm216 b off n c zs w hz hbig hc
open Go.RowKit Go.Lib in
theorem Tryz.slices_Clone_string_nil(n c:Nat)(w:World) :
  Calls Tryz.prog 83 #[.slice none n c] w λe w'=>e=.returned (.slice none 0 0)/\w'=w:=Any.slices_Clone_string_nil Tryz.laysNm216 n c w
end Go.Proofs

namespace Go.Proofs.YtjajnhemgphefaaGreatDoor
@[simp,go_sem,reducible] def Pt(b:Nat):Go.Value:=.pointer (some ⟨b,0,none⟩)
@[simp,go_sem,reducible] def Sc(g n c:Nat):Go.Value:=.slice (some ⟨g,0,none⟩) n c
@[simp,go_sem,reducible] def Ad(b o:Nat):Go.Addr:=⟨b,o,none⟩
abbrev Cs:=Go.Calls Tryz.prog
theorem zr{B:Nat}{a:Go.World}:Go.RowKit.Below B a a:=Go.RowKit.Below.refl B a
theorem zz{n:Nat}:0<=n:=Nat.zero_le n
theorem zo{w:Go.World}{b e s:Nat}:w.ownsRow b e s (.slice none 0 0) 0 []:=Go.World.ownsRow_nil _ _ _ _
theorem zn(w:Go.World)(o:Go.Obj):(w.alloc o).heap[w.heap.size]?=some o:=Go.World.alloc_heap_new w o
theorem zm{α:Type}{l:List α}{i:Nat}(h:i<l.length):l[i]∈l:=List.getElem_mem h
theorem zs{α:Type}{a:α}{l:List α}:a∈a::l:=List.mem_cons_self
theorem zt{α:Type}{a b:α}{l:List α}(h:a∈l):a∈b::l:=List.mem_cons_of_mem b h
theorem zc{w:Go.World}{b o:Nat}{c:Array Go.Value}{t:Go.TypeId}{f:Nat×Nat}(h:w.heap[b]?=some (.cells c t f)):w.cell? ⟨b,o,none⟩=c[o]?:=by simp[Go.World.cell?,h]
@[simp,go_sem,reducible] def cC(c:Array Go.Value)(t:Go.TypeId):Option Go.Obj:=some (.cells c t (0,0))
@[simp,go_sem,reducible] def St(x:ByteArray):Go.Value:=.string x
@[simp,go_sem,reducible] def Ii(x:Int):Go.Value:=.int .i64 x
end Go.Proofs.YtjajnhemgphefaaGreatDoor
namespace Go.RowKit
theorem aA{p:Prop}(h:p):Hid p:=h
theorem Hid.o{p:Prop}(h:Hid p):p:=h
theorem aB{α:Type}(a:α):∃x,x=a:=⟨_,rfl⟩
theorem aC{α:Type}(a:α):∃x,a=x:=⟨_,rfl⟩
end Go.RowKit
namespace Go.RowKit
theorem cZz{w:World}{b:Nat}{a:Array Value}{t:TypeId}{p:Nat×Nat}(h:w.heap[b]?=some (.cells a t p)):∀j,w.cell? ⟨b,j,none⟩=a[j]?:=fun j=>by simp[World.cell?,h]
theorem fZz{w:World}{b:Nat}{a:Array Value}{t:TypeId}(h:w.heap[b]?=some (.cells a t (0,0))):∀j,w.frozen? ⟨b,j,none⟩=false:=fun j=>by simp[World.frozen?,h]
end Go.RowKit
open Go Go.RowKit
theorem Eq.t.{u}{α:Sort u}{a b c:α}(h:a=b)(k:b=c):a=c:=h.trans k
theorem Eq.s.{u}{α:Sort u}{a b:α}(h:a=b):b=a:=h.symm
theorem Go.RowKit.Below.t{B:Nat}{a b c:World}(h:Below B a b)(k:Below B b c):Below B a c:=h.trans k
theorem Go.RowKit.Below.m{B B':Nat}{w w':World}(h:Below B w w')(k:B'<=B):Below B' w w':=h.mono k
theorem Go.RowKit.Below.s{B:Nat}{w w':World}(h:Below B w w'):w.heap.size<=w'.heap.size:=h.size
theorem Go.RowKit.Below.b{B:Nat}{w w':World}(h:Below B w w')(k:Nat)(l:k<B):w'.heap[k]?=w.heap[k]?:=h.block k l
theorem Go.RowKit.Below.l{B:Nat}{a w:World}(h:Below B a w)(k:B<=w.heap.size)(o:Obj):Below B a (w.alloc o):=h.alloc k o
theorem Go.RowKit.Below.c{B:Nat}{a w:World}(h:Below B a w){p:Addr}(k:B<=p.block)(u:Value):Below B a (w.setCell p u):=h.setCell k u
theorem Go.Calls.m{P:Program}{f:FuncId}{args:Array Value}{w:World}{R R':Ending->World->Prop}(h:Calls P f args w R)(k:∀e w',R e w'->R' e w'):Calls P f args w R':=h.mono k
theorem Go.World.grownBy.b{w w':World}{row:Option Nat}(h:w.grownBy w' row)(k:Nat)(l:k<w.heap.size)(n:some k≠row):w'.heap[k]?=w.heap[k]?:=h.block k l n
theorem Go.World.ownsRow.l{w:World}{base:Nat}{e:TypeId}{size:Nat}{v:Value}{n:Nat}{xs:List Value}(h:w.ownsRow base e size v n xs)(o:Obj):(w.alloc o).ownsRow base e size v n xs:=h.alloc o
