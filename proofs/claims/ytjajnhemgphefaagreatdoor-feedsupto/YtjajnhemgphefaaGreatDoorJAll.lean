/- A part -/
import Derived.Test.YtjajnhemgphefaaGreatDoorRows
import Derived.WalkKit
import Derived.WalkSpells
import Derived.WalkLawsBesides
import Derived.Lib.RuneCount
import Derived.Lib.RuneCountTail
import Derived.Lib.QuoteLoop
import Derived.Test.YtjajnhemgphefaaGreatDoorShelf
import Derived.Deep.RegionWith
import Derived.Lib.Bytes2
import Derived.RangeFuncNested
import Derived.RangeFuncBound
import Derived.RangeFuncCalls
import Derived.RangeFuncLeaves
import Derived.Shelf.Abstract
import Derived.Shelf.RegionOpen
import Derived.OwnWalkIn
import Derived.TacticsInMore
import Derived.LoopNIn
import Derived.LoopIn
set_option linter.all false
set_option maxHeartbeats 1000000
open List renaming length->aB,length_cons->aZ
open Go.World renaming cell?->aC,frozen?->aD
open Go.Value renaming string->aI,agg->aJ,bool->aK,tuple->aL,int->aM
open Go.Obj renaming cells->aN
open Go.Ending renaming returned->aO
open Go.IntKind renaming i64->aP
open Or renaming inl->aQ,inr->aR
open Option renaming some->aV,none->aW
open Go.RowKit.Below renaming refl->aX
open Nat renaming add_zero->aY
open ByteArray renaming ext->bB,data_extract->bC
open Go.Utf8 renaming decode->bD,valid->cD
open Go.Lib renaming decode_width_pos->bE,hasPrefix->bH,decodeGo->bQ,Utf8Tabs->bX,tail_decode->bZ
open Go renaming bodyPost_ret->bF,callsIn_wide->bL
open Go.RowKit renaming Below->bG
open Bool renaming eq_iff_iff->bI
open Go.Proofs.Tryz renaming results161->bJ,utf8_DecodeRuneInString->bO,prog->bT,strings_HasPrefix->bU,results212->cA
namespace Go.Proofs.YtjajnhemgphefaaGreatDoor
open Go renaming World->Wq,Value->Vq
open Go.RowKit
def kU(r:Int):Bool:=decide (r=32\/r=9\/r=10)
def iR(r:Int):Bool:=decide ((97<=r/\r<=122)\/(945<=r/\r<=969))
def iN(r:Int):Bool:=decide ((65<=r/\r<=90)\/(913<=r/\r<=937/\r≠930))
def kW(r:Int):Bool:=decide (48<=r/\r<=57)
def mg(r:Int):Int:=if r=40 then 3 else if r=41 then 4 else if r=44 then 5 else if r=46 then 6 else 0
theorem ie{a b:Bool}(h:a=b):aO (aK a)=aO (aK b):=by rw[h]
theorem m9{k:IntKind}{a b:Int}(h:a=b):aO (aM k a)=aO (aM k b):=by rw[h]
theorem zh(r:Int)(w:Wq):Cs 160 #[aM .i32 r] w λe w'=>e=aO (aK (kU r))/\w'=w:=by
 go_enter Tryz.func160,Tryz.ntmps160;go_wp2
 all_goals
  go_ret;exact⟨ie (by rw[bI];simp[kU]<;>omega),rfl⟩
theorem oU(r:Int)(w:Wq):Cs 213 #[aM .i32 r] w λe w'=>e=aO (aK (iR r))/\w'=w:=by
 go_enter Tryz.func213,Tryz.ntmps213;go_wp2
 all_goals
  go_ret;exact⟨ie (by rw[bI];simp[iR]<;>omega),rfl⟩
theorem nP(r:Int)(w:Wq):Cs 211 #[aM .i32 r] w λe w'=>e=aO (aK (iN r))/\w'=w:=by
 go_enter Tryz.func211,Tryz.ntmps211;go_wp2
 all_goals
  go_ret;exact⟨ie (by rw[bI];simp[iN]<;>omega),rfl⟩
theorem sC(r:Int)(w:Wq):Cs 244 #[aM .i32 r] w λe w'=>e=aO (aK (kW r))/\w'=w:=by
 go_enter Tryz.func244,Tryz.ntmps244;go_wp2
 all_goals
  go_ret;exact⟨ie (by rw[bI];simp[kW]<;>omega),rfl⟩
theorem CV(r:Int)(w:Wq):Cs 215 #[aM .i32 r] w λe w'=>e=aO (Ii (mg r))/\w'=w:=by
 go_enter Tryz.func215,Tryz.ntmps215;go_wp2
 all_goals
  go_ret;exact⟨m9 (by simp_all [mg]),rfl⟩
def jB(r:Nat):Bool:=iN r || iR r || kW r
def dT(s:ByteArray):Nat->Nat->Nat->Nat×Nat
 |0,aa,m=>(aa,m)
 |f+1,aa,m=>if aa<s.size then (if jB (bD s aa).1 then dT s f (aa+(bD s aa).2) (m+1) else (aa,m)) else (aa,m)
theorem uZ(s:ByteArray)(f aa m:Nat)(h:¬aa<s.size):dT s f aa m=(aa,m):=by cases f<;>simp[dT,h]
theorem xB(s:ByteArray)(f aa m:Nat)(h:jB (bD s aa).1=false):dT s f aa m=(aa,m):=by cases f<;>simp[dT,h]
theorem jW(s:ByteArray)(aa:Nat)(h:aa<s.size):aa+(bD s aa).2<=s.size:=by have d:=bZ s aa 0;rw[aY] at d;have z:=Lib.width_le (s.extract aa s.size) (by simp;omega);rw[d] at z;simp at z;omega
theorem pB(w:Wq)(O:Obj)(s:ByteArray)(p:Nat):((w.alloc O).alloc (.stringIter s p)).iterPos (w.heap.size+1)=p:=by have:=World.iterPos_iter (w.alloc O) s p;rw[World.size_alloc] at this;exact this
def fL(k:Int)(t:ByteArray)(p m:Int):Array Vq:=#[aM aP k,aI t,aM aP p,aM aP m]
def dU(k:Int)(t:ByteArray)(p m:Int):Vq:=aJ (fL k t p m)
theorem Gg(s:ByteArray):s.extract 0 s.size=s:=by simp
theorem zk(k:Int)(s:ByteArray)(w:Wq)(hs:s.size<=maxLen):Cs 212 #[aM aP k,aI s] w λe w'=>
   e=aO (dU k (s.extract 0 (dT s s.size 0 0).1) 0 (dT s s.size 0 0).2)/\bG w.heap.size w w':=by
 unfold maxLen at hs;go_enter Tryz.func212,Tryz.ntmps212;go_wp2
 go_loopw [5] (λn w'=>∃(aa b m:Nat),w'=(w.alloc (aN #[aM aP 0,aI ⟨#[]⟩,aM aP 0,aM aP 0] 191)).alloc (.stringIter s aa)/\n=aM aP m/\dT s b aa m=dT s s.size 0 0/\s.size<=aa+b/\m<=aa/\aa<=s.size) (λ_ w'=>s.size-w'.iterPos (w.heap.size+1))
 case atStart=>exact⟨0,s.size,0,rfl,rfl,rfl,by omega,by omega,by omega⟩
 case round=>
  obtain⟨aa,b,m,rfl,rfl,hc,hb,hm,cb⟩:=hrel;have A:Hid (dT s b aa m=dT s s.size 0 0):=hc;clear hc;have an:(w.alloc (aN #[aM aP 0,aI ⟨#[]⟩,aM aP 0,aM aP 0] 191)).heap.size=w.heap.size+1:=by simp
  by_cases z:aa<s.size
  .have bf:∀ty,(Instr.next (.pointer (aV ⟨w.heap.size+1,0,aW⟩)) true ty).run bT ((w.alloc (aN #[aM aP 0,aI ⟨#[]⟩,aM aP 0,aM aP 0] 191)).alloc (.stringIter s aa))=.ok (aL #[aK true,aM aP aa,aM .i32 (bD s aa).1]) ((w.alloc (aN #[aM aP 0,aI ⟨#[]⟩,aM aP 0,aM aP 0] 191)).alloc (.stringIter s (aa+(bD s aa).2))):=λty=>an ▸ run_next_any (w.alloc (aN #[aM aP 0,aI ⟨#[]⟩,aM aP 0,aM aP 0] 191)) s aa ty z;have b5:=bE s aa z;have al:=jW s aa z;generalize hd:bD s aa=d at *;have M:Hid (bD s aa=d):=hd;clear hd;obtain⟨r,G⟩:=d;simp only at b5 al bf
   have E:Hid (jB r=true->∃b',b=b'+1/\dT s b' (aa+G) (m+1)=dT s s.size 0 0):=by
    intro hw
    cases b with
    |zero=>omega
    |succ b'=>exact⟨b',rfl,by rw[<-A.o];simp[dT,z,M.o,hw]⟩
   have be:Hid (jB r=false->dT s s.size 0 0=(aa,m)):=by intro hw;rw[<-A.o];exact xB s b aa m (by rw[M.o];exact hw)
   clear A M;by_cases ab:iN (r:Int)=true
   .go_wp2_with (first|(go_at_call 211;refine (nP _ _).mono ?_;rintro e w' ⟨rfl,rfl⟩)|(go_at_call 213;refine (oU _ _).mono ?_;rintro e w' ⟨rfl,rfl⟩)|(go_at_call 244;refine (sC _ _).mono ?_;rintro e w' ⟨rfl,rfl⟩))
    obtain⟨b',rfl,ak⟩:=E.o (by simp[jB,ab])
    go_roundw
    case rel=>exact⟨aa+G,b',m+1,rfl,by go_num,ak,by omega,by omega,by omega⟩
    case measure=>rw[pB,pB];omega
   by_cases C:iR (r:Int)=true
   .have ai:iN (r:Int)=false:=by simpa using ab
    clear ab
    go_wp2_with (first|(go_at_call 211;refine (nP _ _).mono ?_;rintro e w' ⟨rfl,rfl⟩)|(go_at_call 213;refine (oU _ _).mono ?_;rintro e w' ⟨rfl,rfl⟩)|(go_at_call 244;refine (sC _ _).mono ?_;rintro e w' ⟨rfl,rfl⟩))
    obtain⟨b',rfl,ak⟩:=E.o (by simp[jB,C])
    go_roundw
    case rel=>exact⟨aa+G,b',m+1,rfl,by go_num,ak,by omega,by omega,by omega⟩
    case measure=>rw[pB,pB];omega
   by_cases ae:kW (r:Int)=true
   .have ai:iN (r:Int)=false:=by simpa using ab
    have am:iR (r:Int)=false:=by simpa using C
    clear ab C
    go_wp2_with (first|(go_at_call 211;refine (nP _ _).mono ?_;rintro e w' ⟨rfl,rfl⟩)|(go_at_call 213;refine (oU _ _).mono ?_;rintro e w' ⟨rfl,rfl⟩)|(go_at_call 244;refine (sC _ _).mono ?_;rintro e w' ⟨rfl,rfl⟩))
    obtain⟨b',rfl,ak⟩:=E.o (by simp[jB,ae])
    go_roundw
    case rel=>exact⟨aa+G,b',m+1,rfl,by go_num,ak,by omega,by omega,by omega⟩
    case measure=>rw[pB,pB];omega
   have ai:iN (r:Int)=false:=by simpa using ab
   have am:iR (r:Int)=false:=by simpa using C
   have Z:kW (r:Int)=false:=by simpa using ae
   clear ab C ae;have O:Hid (dT s s.size 0 0=(aa,m)):=be.o (by simp[jB,ai,am,Z]);clear be E
   go_wp2_with (first|(go_at_call 211;refine (nP _ _).mono ?_;rintro e w' ⟨rfl,rfl⟩)|(go_at_call 213;refine (oU _ _).mono ?_;rintro e w' ⟨rfl,rfl⟩)|(go_at_call 244;refine (sC _ _).mono ?_;rintro e w' ⟨rfl,rfl⟩))
   refine bF (v:=dU k (s.extract 0 aa) 0 m) (by simp[results,cA,go_sem,dU,fL]) rfl ?_;rw[O.o];exact⟨rfl,(zr.alloc zl _).alloc (by simp) _⟩
  .have bf:∀ty,(Instr.next (.pointer (aV ⟨w.heap.size+1,0,aW⟩)) true ty).run bT ((w.alloc (aN #[aM aP 0,aI ⟨#[]⟩,aM aP 0,aM aP 0] 191)).alloc (.stringIter s aa))=.ok (aL #[aK false]) ((w.alloc (aN #[aM aP 0,aI ⟨#[]⟩,aM aP 0,aM aP 0] 191)).alloc (.stringIter s aa)):=λty=>an ▸ run_next_end (w.alloc (aN #[aM aP 0,aI ⟨#[]⟩,aM aP 0,aM aP 0] 191)) s aa ty z;have O:Hid (dT s s.size 0 0=(aa,m)):=by rw[<-A.o];exact uZ s b aa m z
   clear A;have bn:Hid (s.extract 0 aa=s):=by rw[show aa=s.size by omega];exact Gg s
   go_wp2;refine bF (v:=dU k s 0 m) (by simp[results,cA,go_sem,dU,fL]) rfl ?_;rw[O.o];exact⟨by rw[bn.o],(zr.alloc zl _).alloc (by simp) _⟩
def dE(s:ByteArray)(i:Nat):Nat:=(s.get! i).toNat
theorem ml(s:ByteArray)(i:Nat):dE s i<256:=UInt8.toNat_lt _
def gV(s:ByteArray)(i lo hi:Nat):Bool:=decide (i<s.size/\lo<=dE s i/\dE s i<=hi)
def iy(c:Nat):Nat:=if c=224 then 160 else if c=240 then 144 else 128
def iC(c:Nat):Nat:=if c=237 then 159 else if c=244 then 143 else 191
def eQ(s:ByteArray)(i:Nat):Nat:=
 if 194<=dE s i/\dE s i<=223/\gV s (i+1) (iy (dE s i)) (iC (dE s i))=true then 2
 else if 224<=dE s i/\dE s i<=239/\gV s (i+1) (iy (dE s i)) (iC (dE s i))=true/\gV s (i+2) 128 191=true then 3
 else if 240<=dE s i/\dE s i<=244/\gV s (i+1) (iy (dE s i)) (iC (dE s i))=true/\gV s (i+2) 128 191=true/\gV s (i+3) 128 191=true then 4
 else 1
theorem rW(s:ByteArray)(i:Nat):bD s i=if dE s i<128 then (dE s i,1)
   else if eQ s i=2 then ((dE s i % 32)*64+dE s (i+1) % 64,2)
   else if eQ s i=3 then ((dE s i % 16)*4096+(dE s (i+1) % 64)*64+dE s (i+2) % 64,3)
   else if eQ s i=4 then ((dE s i % 8)*262144+(dE s (i+1) % 64)*4096+(dE s (i+2) % 64)*64+dE s (i+3) % 64,4)
   else (65533,1):=by
 have h0:=ml s i;have E:=ml s (i+1);have G:=ml s (i+2);have M:=ml s (i+3)
 have e:bD s i=(if dE s i<128 then (dE s i,1)
   else if (dE s i / 32 == 6 && (decide (i+1<s.size) && dE s (i+1) / 64 == 2))=true then
    (if (dE s i % 32)*64+dE s (i+1) % 64≥128 then ((dE s i % 32)*64+dE s (i+1) % 64,2) else (65533,1))
   else if (dE s i / 16 == 14 && (decide (i+1<s.size) && dE s (i+1) / 64 == 2) && (decide (i+2<s.size) && dE s (i+2) / 64 == 2))=true then
    (if (decide ((dE s i % 16)*4096+(dE s (i+1) % 64)*64+dE s (i+2) % 64≥2048) && cD (((dE s i % 16)*4096+(dE s (i+1) % 64)*64+dE s (i+2) % 64:Nat):Int))=true then ((dE s i % 16)*4096+(dE s (i+1) % 64)*64+dE s (i+2) % 64,3) else (65533,1))
   else if (dE s i / 8 == 30 && (decide (i+1<s.size) && dE s (i+1) / 64 == 2) && (decide (i+2<s.size) && dE s (i+2) / 64 == 2) && (decide (i+3<s.size) && dE s (i+3) / 64 == 2))=true then
    (if (decide ((dE s i % 8)*262144+(dE s (i+1) % 64)*4096+(dE s (i+2) % 64)*64+dE s (i+3) % 64≥65536) && cD (((dE s i % 8)*262144+(dE s (i+1) % 64)*4096+(dE s (i+2) % 64)*64+dE s (i+3) % 64:Nat):Int))=true then ((dE s i % 8)*262144+(dE s (i+1) % 64)*4096+(dE s (i+2) % 64)*64+dE s (i+3) % 64,4) else (65533,1))
   else (65533,1)):=rfl
 rw[e];have A:(dE s i=224->iy (dE s i)=160)/\(dE s i=240->iy (dE s i)=144)/\(dE s i≠224->dE s i≠240->iy (dE s i)=128):=by unfold iy;refine⟨λh=>by simp[h],λh=>by simp[h],λh z=>by simp[h,z]⟩
 have C:(dE s i=237->iC (dE s i)=159)/\(dE s i=244->iC (dE s i)=143)/\(dE s i≠237->dE s i≠244->iC (dE s i)=191):=by unfold iC;refine⟨λh=>by simp[h],λh=>by simp[h],λh z=>by simp[h,z]⟩
 unfold eQ gV cD;generalize iy (dE s i)=lo at *;generalize iC (dE s i)=hi at *;generalize dE s i=b0 at *;generalize dE s (i+1)=b1 at *;generalize dE s (i+2)=b2 at *;generalize dE s (i+3)=b3 at *;generalize s.size=n at *;clear e;simp only[Bool.and_eq_true,Bool.or_eq_true,decide_eq_true_eq,beq_iff_eq,ge_iff_le];by_cases d:b0<128
 .rw[if_pos d,if_pos d]
 rw[if_neg d,if_neg d];by_cases a2:194<=b0/\b0<=223/\i+1<n/\lo<=b1/\b1<=hi
 .rw[if_pos (by omega),if_pos (by omega)];simp[a2]
 by_cases a3:224<=b0/\b0<=239/\(i+1<n/\lo<=b1/\b1<=hi)/\i+2<n/\128<=b2/\b2<=191
 .rw[if_neg (by omega),if_pos (by omega),if_pos (by omega)];rw[if_neg a2,if_pos a3];rfl
 by_cases a4:240<=b0/\b0<=244/\(i+1<n/\lo<=b1/\b1<=hi)/\(i+2<n/\128<=b2/\b2<=191)/\i+3<n/\128<=b3/\b3<=191
 .rw[if_neg (by omega),if_neg (by omega),if_pos (by omega),if_pos (by omega)];rw[if_neg a2,if_neg a3,if_pos a4];rfl
 rw[if_neg a2,if_neg a3,if_neg a4];show _=(65533,1);split
 .rw[if_neg (by omega)]
 .split;{rw[if_neg (by omega)]}
  .split;{rw[if_neg (by omega)]};{rfl}
theorem rE(s:ByteArray)(i:Nat):(bD s i).2=eQ s i:=by
 have h0:=ml s i;rw[rW];by_cases z:dE s i<128
 .grind [eQ]
 rw[if_neg z];have d:eQ s i=1\/eQ s i=2\/eQ s i=3\/eQ s i=4:=by grind [eQ]
 rcases d with h|h|h|h<;>simp[h]
def oO(c:Nat):Nat:=
 if 97<=c/\c<=122 then 1 else if 65<=c/\c<=90 then 2 else if 48<=c/\c<=57 then 3 else if c=32\/c=9\/c=10 then 4
 else if c=40\/c=41\/c=44\/c=46 then 5 else if c=58 then 6 else if c=45 then 7 else 8
def qQ(a b:Nat):Nat:=
 if 945<=64*((a:Int)-192)+b-128/\64*((a:Int)-192)+b-128<=969 then 1
 else if 913<=64*((a:Int)-192)+b-128/\64*((a:Int)-192)+b-128<=937/\64*((a:Int)-192)+b-128≠930 then 2 else 8
def jz(s:ByteArray)(i:Nat):Nat:=
 if eQ s i=1 then oO (dE s i) else if eQ s i=2 then qQ (dE s i) (dE s (i+1)) else 8
def Qi(r:Nat):Nat:=
 if iR r=true then 1 else if iN r=true then 2 else if kW r=true then 3 else if kU r=true then 4
 else if r=40\/r=41\/r=44\/r=46 then 5 else if r=58 then 6 else if r=45 then 7 else 8
theorem vO(r:Nat)(h:970<=r):Qi r=8:=by grind [Qi,iR,iN,kW,kU]
theorem xL(s:ByteArray)(i:Nat)(h:eQ s i=3):224<=dE s i/\dE s i<=239/\(dE s i=224->160<=dE s (i+1))/\dE s (i+1)<=191/\128<=dE s (i+1):=by grind [iy,iC,eQ,gV]
theorem A8(s:ByteArray)(i:Nat)(h:eQ s i=4):240<=dE s i/\dE s i<=244/\(dE s i=240->144<=dE s (i+1))/\dE s (i+1)<=191/\128<=dE s (i+1):=by grind [iy,iC,eQ,gV]
theorem Bh(s:ByteArray)(i:Nat):jz s i=Qi (bD s i).1:=by
 have h0:=ml s i;have M:=ml s (i+1);have hd:=rW s i;have hs:=rE s i;by_cases A:dE s i<128
 .rw[if_pos A] at hd;rw[hd] at hs ⊢;unfold jz;rw[if_pos hs.symm];unfold oO Qi iR iN kW kU;simp only[decide_eq_true_eq];generalize dE s i=c at *
  repeat' split
  all_goals first|rfl|(exfalso;omega)
 rw[if_neg A] at hd
 have O:eQ s i=1\/eQ s i=2\/eQ s i=3\/eQ s i=4:=by
  unfold eQ;split;{simp}
  .split;{simp};{split<;>simp}
 rcases O with h|h|h|h
 .rw[if_neg (by omega),if_neg (by omega),if_neg (by omega)] at hd;rw[hd];unfold jz;rw[if_pos h,vO _ (by decide)];unfold oO;rw[if_neg (by omega),if_neg (by omega),if_neg (by omega),if_neg (by omega),if_neg (by omega),if_neg (by omega),if_neg (by omega)]
 .have d:194<=dE s i/\dE s i<=223/\gV s (i+1) (iy (dE s i)) (iC (dE s i))=true:=by
   apply Classical.byContradiction;intro Z;unfold eQ at h;rw[if_neg Z] at h;split at h;{cases h};{split at h<;>cases h}
  have z:=d.2.2;unfold gV at z;simp only[decide_eq_true_eq] at z;have C:iy (dE s i)=128:=by{unfold iy;rw[if_neg (by omega),if_neg (by omega)]};have E:iC (dE s i)=191:=by{unfold iC;rw[if_neg (by omega),if_neg (by omega)]};rw[C,E] at z;rw[if_pos h] at hd;rw[hd];unfold jz;rw[if_neg (by omega),if_pos h];unfold qQ;have G:64*((dE s i:Int)-192)+(dE s (i+1):Int)-128=((dE s i % 32*64+dE s (i+1) % 64:Nat):Int):=by{omega};have b4:128<=dE s i % 32*64+dE s (i+1) % 64:=by{omega};rw[G];simp only;generalize dE s i % 32*64+dE s (i+1) % 64=r at *;clear G hd hs z d h h0 M A C E;unfold Qi iR iN kW kU;simp only[decide_eq_true_eq];by_cases c1:945<=r/\r<=969;{rw[if_pos (by omega),if_pos (by omega)]}
  .rw[if_neg (by omega)];by_cases c2:913<=r/\r<=937/\r≠930;{rw[if_pos (by omega),if_neg (by omega),if_pos (by omega)]};{rw[if_neg (by omega),if_neg (by omega),if_neg (by omega),if_neg (by omega),if_neg (by omega),if_neg (by omega),if_neg (by omega),if_neg (by omega)]}
 .have d:=xL s i h;rw[if_neg (by omega),if_pos h] at hd;rw[hd];unfold jz;rw[if_neg (by omega),if_neg (by omega),vO _ (by show 970<=dE s i % 16*4096+dE s (i+1) % 64*64+dE s (i+2) % 64;omega)]
 .have d:=A8 s i h;rw[if_neg (by omega),if_neg (by omega),if_pos h] at hd;rw[hd];unfold jz;rw[if_neg (by omega),if_neg (by omega),vO _ (by show 970<=dE s i % 8*262144+dE s (i+1) % 64*4096+dE s (i+2) % 64*64+dE s (i+3) % 64;omega)]
structure Rn where
 kind:Nat
 text:ByteArray
def nO:Nat->ByteArray->List Rn
 |0,_=>[]
 |f+1,s=>if s.size=0 then [] else ⟨Qi (bD s 0).1,s.extract 0 (bD s 0).2⟩::nO f (s.extract (bD s 0).2 s.size)
theorem wR(r:Nat):jB r=decide (Qi r<=3):=by grind [jB,Qi]
theorem tB(f:Nat)(s:ByteArray)(h:s.size=0):nO f s=[]:=by cases f<;>simp[nO,h]
theorem nU(s:ByteArray)(i:Nat):0<(bD s i).2:=by grind [rE,eQ]
theorem uS:∀(f g:Nat) (s:ByteArray),s.size<=f->s.size<=g->nO f s=nO g s
 |0,g,s,h,_=>by grind [tB]
 |f+1,0,s,_,h=>by grind [tB]
 |f+1,g+1,s,h,h'=>by
  unfold nO;split;{rfl}
  .rename_i d;have z:=nU s 0;have A:(s.extract (bD s 0).2 s.size).size<=s.size-1:=by{simp;omega};rw[uS f g _ (by omega) (by omega)]
def R(s:ByteArray)(i:Nat):List Rn:=nO s.size (s.extract i s.size)
theorem w7(s:ByteArray)(i a b:Nat):(s.extract i s.size).extract a b=s.extract (i+a) (min (i+b) s.size):=by grind [bB,bC,Array.extract_extract]
theorem li(s:ByteArray)(i:Nat)(h:¬i<s.size):R s i=[]:=tB _ _ (by simp;omega)
theorem ld(s:ByteArray)(i:Nat)(h:i<s.size):R s i=⟨Qi (bD s i).1,s.extract i (i+(bD s i).2)⟩::R s (i+(bD s i).2):=by
 have hd:=bZ s i 0;rw[aY] at hd;have A:=jW s i h;have C:=nU s i;obtain⟨k,z⟩:∃k,s.size=k+1:=⟨s.size-1,by omega⟩;have d:(s.extract i s.size).size=s.size-i:=by simp
 unfold R;rw[z]
 conv=>lhs;unfold nO
 rw[<-z,if_neg (by rw[d];omega),hd,w7,w7,aY,d,Nat.min_eq_left A];have e:min (i+(s.size-i)) s.size=s.size:=by omega
 rw[e];congr 1;exact uS _ _ _ (by simp<;>omega) (by simp<;>omega)
def tw(l:List Rn):List Rn:=l.takeWhile (λx=>decide (x.kind<=3))
def eC:List Rn->Nat
 |[]=>0
 |x::l=>x.text.size+eC l
theorem wu(s:ByteArray):∀(f i m:Nat),s.size<=i+f->dT s f i m=(i+eC (tw (R s i)),m+aB (tw (R s i)))
 |0,i,m,h=>by rw[uZ _ _ _ _ (by omega),li s i (by omega)];simp[tw,eC]
 |f+1,i,m,h=>by
  by_cases d:i<s.size
  .have G:=nU s i;have M:=jW s i d;by_cases z:jB (bD s i).1=true
   .have C:=wu s f (i+(bD s i).2) (m+1) (by omega);have E:Qi (bD s i).1<=3:=by grind [wR]
    conv=>lhs;unfold dT
    rw[if_pos d,if_pos z,C,ld s i d];have e:tw (⟨Qi (bD s i).1,s.extract i (i+(bD s i).2)⟩::R s (i+(bD s i).2))=⟨Qi (bD s i).1,s.extract i (i+(bD s i).2)⟩::tw (R s (i+(bD s i).2)):=by{simp_all [tw]};rw[e];have A:(s.extract i (i+(bD s i).2)).size=(bD s i).2:=by{simp;omega};simp only[eC,aZ,A,Prod.mk.injEq];omega
   .grind [jB,Qi,wR,xB,ld,tw,R,eC,List.takeWhile_cons]
  .rw[uZ _ _ _ _ d,li s i d];simp[tw,eC]
theorem tZ(s:ByteArray)(n:Nat):R (s.extract n s.size) 0=R s n:=by
 have d:(s.extract n s.size).size=s.size-n:=by simp
 unfold R;rw[w7,d,aY];have e:min (n+(s.size-n)) s.size=s.size\/¬n<s.size:=by omega
 rcases e with e|e
 .grind [uS]
 .grind [tB]
theorem AQ(s:ByteArray):∀(k i:Nat),k<=aB (R s i)->R s (i+eC ((R s i).take k))=(R s i).drop k
 |0,i,_=>by simp[eC]
 |k+1,i,h=>by
  by_cases d:i<s.size
  .have E:=jW s i d;have z:=ld s i d;rw[z] at h ⊢;rw[List.take_succ_cons,List.drop_succ_cons];have A:(s.extract i (i+(bD s i).2)).size=(bD s i).2:=by{simp;omega};have C:=AQ s k (i+(bD s i).2) (by simpa using h);simp only[eC,A];rw[<-Nat.add_assoc];exact C
  .grind [li]
theorem xe{W w1:Wq}(d:bG W.heap.size W w1):(∀b o,b<W.heap.size->aC w1 (Ad b o)=aC W (Ad b o))/\(∀b o,b<W.heap.size->aD w1 (Ad b o)=aD W (Ad b o)):=
 ⟨λb o h=>d.cell (p:=⟨b,o,aW⟩) h,λb o h=>d.frozen (p:=⟨b,o,aW⟩) h⟩
def eY(s:ByteArray):Int×Nat×Nat:=
 if iN (bD s 0).1 then (2,(dT s s.size 0 0).1,(dT s s.size 0 0).2)
 else if iR (bD s 0).1 then (1,(dT s s.size 0 0).1,(dT s s.size 0 0).2)
 else if bH s.data.toList [58,45] then (7,2,2)
 else (mg (bD s 0).1,(bD s 0).2,1)
def kQ(s:ByteArray)(p:Int):Vq:=dU (eY s).1 (s.extract 0 (eY s).2.1) p (eY s).2.2
theorem Ia(s:ByteArray)(h:bH s.data.toList [58,45]=true):s.extract 0 2=⟨#[58,45]⟩:=by
 have d:[58,45] <+: s.data.toList:=by simpa [bH] using h
 have⟨t,ht⟩:=d;have hs:s=⟨([58,45]++t).toArray⟩:=by simp_all
 rw[hs];apply bB;simp
theorem Cq(s:ByteArray)(w:Wq)(hs:s.size<=maxLen)(h0:0<s.size)(O:bX 0 1 w):Cs 161 #[St s] w λe w'=>e=aO (kQ s 0)/\bG w.heap.size w w':=by
 have ae:bQ s=bD s 0:=by unfold bQ;rw[if_neg (by omega)]
 have aq:=Utf8Tabs_below O ((aX w.heap.size w).alloc zl (aN #[Ii 0,St ⟨#[]⟩,Ii 0,Ii 0] 191));go_enter Tryz.func161,Tryz.ntmps161;go_wp2_with fail;refine (bO _ _ aq).mono ?_;rintro e w1 ⟨rfl,z⟩;rw[ae];generalize hd:bD s 0=d;have⟨r,wd⟩:=d;have A:=aA hd;clear hd ae;have⟨aw,av⟩:=xe z;have M:w.heap.size<w1.heap.size:=by have:=z.size;simp at this;omega
 by_cases ab:iN (r:Int)=true
 .go_wp2_with (go_at_call 211;refine (nP _ _).mono ?_;rintro e w' ⟨rfl,rfl⟩)
  refine (zk _ _ _ hs).mono ?_;rintro e w2 ⟨rfl,ad⟩;have⟨bb,bc⟩:=xe ad;have a8:w.heap.size<w2.heap.size:=by{have:=ad.size;omega};have E:bG w.heap.size w w2:=(((aX w.heap.size w).alloc zl _).trans (z.mono (by simp))).trans (ad.mono (by omega));clear z ad O aq;have C:Hid (kQ s 0=dU 2 (s.extract 0 (dT s s.size 0 0).1) 0 (dT s s.size 0 0).2):=by{show kQ s 0=_;unfold kQ eY;rw[A.o];simp[ab]};generalize (dT s s.size 0 0).1=sb at *;generalize (dT s s.size 0 0).2=sm at *;unfold dU fL;go_wp2;refine bF (v:=dU 2 (s.extract 0 sb) 0 sm) (by simp[results,bJ,go_sem,dU,fL,bb,bc,aw,av,M,a8]) rfl ?_;rw[C.o];exact⟨rfl,(((E.setCell (by simp) _).setCell (by simp) _).setCell (by simp) _).setCell (by simp) _⟩
 have ai:iN (r:Int)=false:=by simpa using ab
 clear ab;by_cases af:iR (r:Int)=true
 .go_wp2_with (first|(go_at_call 211;refine (nP _ _).mono ?_;rintro e w' ⟨rfl,rfl⟩)|(go_at_call 213;refine (oU _ _).mono ?_;rintro e w' ⟨rfl,rfl⟩))
  refine (zk _ _ _ hs).mono ?_;rintro e w2 ⟨rfl,ad⟩;have⟨bb,bc⟩:=xe ad;have a8:w.heap.size<w2.heap.size:=by{have:=ad.size;omega};have E:bG w.heap.size w w2:=(((aX w.heap.size w).alloc zl _).trans (z.mono (by simp))).trans (ad.mono (by omega));clear z ad O aq;have C:Hid (kQ s 0=dU 1 (s.extract 0 (dT s s.size 0 0).1) 0 (dT s s.size 0 0).2):=by{show kQ s 0=_;unfold kQ eY;rw[A.o];simp[ai,af]};generalize (dT s s.size 0 0).1=sb at *;generalize (dT s s.size 0 0).2=sm at *;unfold dU fL;go_wp2;refine bF (v:=dU 1 (s.extract 0 sb) 0 sm) (by simp[results,bJ,go_sem,dU,fL,bb,bc,aw,av,M,a8]) rfl ?_;rw[C.o];exact⟨rfl,(((E.setCell (by simp) _).setCell (by simp) _).setCell (by simp) _).setCell (by simp) _⟩
 have am:iR (r:Int)=false:=by simpa using af
 clear af;have al:wd<=s.size:=by have:=Lib.width_le s h0;rw[A.o] at this;exact this
 have E:bG w.heap.size w w1:=((aX w.heap.size w).alloc zl _).trans (z.mono (by simp));clear z O aq;unfold maxLen at hs;by_cases G:bH s.data.toList [58,45]=true
 .have C:Hid (kQ s 0=dU 7 ⟨#[58,45]⟩ 0 2):=by{show kQ s 0=_;unfold kQ eY;rw[A.o];simp only[ai,am,G,Bool.false_eq_true,if_false,if_true];rw[Ia s G];rfl};clear A
  go_wp2_with (first|(go_at_call 211;refine (nP _ _).mono ?_;rintro e w' ⟨rfl,rfl⟩)|(go_at_call 213;refine (oU _ _).mono ?_;rintro e w' ⟨rfl,rfl⟩)|(go_at_call 214;refine (bU _ _ _).mono ?_;rintro e w' ⟨rfl,rfl⟩))
  refine bF (v:=dU 7 ⟨#[58,45]⟩ 0 2) (by simp[results,bJ,go_sem,dU,fL,aw,av,M]) rfl ?_;rw[C.o];exact⟨rfl,(((E.setCell (by simp) _).setCell (by simp) _).setCell (by simp) _).setCell (by simp) _⟩
 .have Z:bH s.data.toList [58,45]=false:=by{simpa using G};clear G;have C:Hid (kQ s 0=dU (mg r) (s.extract 0 wd) 0 1):=by{show kQ s 0=_;unfold kQ eY;rw[A.o];simp[ai,am,Z]};clear A
  go_wp2_with (first|(go_at_call 211;refine (nP _ _).mono ?_;rintro e w' ⟨rfl,rfl⟩)|(go_at_call 213;refine (oU _ _).mono ?_;rintro e w' ⟨rfl,rfl⟩)|(go_at_call 214;refine (bU _ _ _).mono ?_;rintro e w' ⟨rfl,rfl⟩))
  go_region_with (go_at_call 215;refine (CV _ _).mono ?_;rintro e w' ⟨rfl,rfl⟩)
  all_goals
   go_wp2;refine bF (v:=dU (mg r) (s.extract 0 wd) 0 1) (by simp[results,bJ,go_sem,dU,fL,aw,av,M]) rfl ?_;rw[C.o];exact⟨rfl,((((E.setCell (by simp) _).setCell (by simp) _).setCell (by simp) _).setCell (by simp) _).drew⟩
end Go.Proofs.YtjajnhemgphefaaGreatDoor
namespace Go.Proofs.YtjajnhemgphefaaGreatDoor
open Go renaming World->Wq,Value->Vq
open Go.RowKit Go.Shelf
attribute [local go_sem] Oper.semAt_some
variable {A B C:Wq}
structure eE where
 kind:Int
 text:ByteArray
 place:Nat
 runes:Nat
 ok:text.size<=1200
def eE.v(t:eE):Vq:=dU t.kind t.text t.place t.runes
def eA:Nat->ByteArray->Nat->List eE
 |0,_,_=>[]
 |f+1,s,p=>
  if s.size=0 then []
  else if kU (bD s 0).1 then eA f (s.extract (bD s 0).2 s.size) (p+1)
  else if h:(s.extract 0 (eY s).2.1).size<=1200 then ⟨(eY s).1,s.extract 0 (eY s).2.1,p,(eY s).2.2,h⟩::eA f (s.extract (eY s).2.1 s.size) (p+(eY s).2.2)
  else []
def mS(W W':Wq):Prop:=∀(k:Nat) (c:Array Vq) (fz:Nat×Nat),W.heap[k]?=aV (aN c 191 fz)->W'.heap[k]?=aV (aN c 191 fz)
theorem mS.trans(h:mS A B)(k:mS B C):mS A C:=λi c d z=>k i c d (h i c d z)
theorem mS.put(W:Wq)(l:Nat)(o z:Obj)(h:W.heap[l]?=aV o)(A:o.isCells=false):mS W (W.putObj l z):=by
 intro k c C d;by_cases e:k=l
 .subst e;rw[h] at d;cases d;simp[Obj.isCells] at A
 .rw[(grownBy_putObj' W l z).block k (zg d).1 (by simpa using e)];exact d
theorem qg{W W':Wq}(h:bG W.heap.size W W'):W.grownBy W' none:=⟨h.os,h.tape,h.output,h.size,λk d _=>h.block k d⟩
theorem uW(s:ByteArray):∀f aa m,aa<=s.size->m<=aa->aa<=(dT s f aa m).1/\(dT s f aa m).1<=s.size/\(dT s f aa m).2<=(dT s f aa m).1
 |0,aa,m,h,hm=>by simp[dT];omega
 |f+1,aa,m,h,hm=>by
  unfold dT;split
  .rename_i d;have A:=bE s aa d;have z:=jW s aa d;split;{have:=uW s f (aa+(bD s aa).2) (m+1) z (by omega);omega};{simp;omega}
  .simp;omega
theorem yv(s:ByteArray)(h0:0<s.size)(A:jB (bD s 0).1=true):1<=(dT s s.size 0 0).1:=by obtain⟨n,z⟩:∃n,s.size=n+1:=⟨s.size-1,by omega⟩;rw[z];unfold dT;rw[if_pos h0,if_pos A];have C:=bE s 0 h0;have d:=jW s 0 h0;have:=uW s n (0+(bD s 0).2) (0+1) d (by omega);omega
theorem Ea(s:ByteArray)(h0:0<s.size):1<=(eY s).2.1/\(eY s).2.1<=s.size/\(eY s).2.2<=(eY s).2.1:=by
 have C:=uW s s.size 0 0 (by omega) (by omega);have z:=bE s 0 h0;have A:=jW s 0 h0;unfold eY;split
 .grind [yv,jB]
 .split;{grind [yv,jB]}
  .split;{rename_i d;have:=Lib.hasPrefix_le d;simp at this;simp;exact this};{simp;omega}
theorem A4(f:Nat)(s:ByteArray)(p:Nat)(h:s.size=0):eA f s p=[]:=by cases f<;>simp[eA,h]
theorem A2(s:ByteArray)(w:Wq):Cs 96 #[St s] w λe w'=>e=aO (.func (.func 158) #[] #[Pt w.heap.size])/\w'=w.alloc (aN #[St s] 9):=by go_enter Tryz.func96,Tryz.ntmps96;go_wp2;go_ret;exact⟨rfl,rfl⟩
theorem xC(t:ByteArray):t.toList.isEmpty=decide (t.size=0):=by
 rw[<-decide_eq_emptyBytes];apply decide_eq_decide.2;constructor
 .simp_all
 .simp_all
def vu:Vq->Nat|aI t=>t.size|_=>0
theorem JF(n:Nat)(hn:1<=n)(l B:Nat)(s:ByteArray)(hs:s.size<=1200)(w0:Wq)(hT:bX 0 1 w0)(J Jx:List eE->Wq->Prop)(W:Wq)(hJ:AbidesFrom W.heap.size J)(hY:∀pre x W1,J pre W1->aB pre<aB (eA s.size s 0)->YieldAt Fence.wide (n-1) bT l #[x.v] W1 λe W'=>
   (e=aO (aK true)/\J (pre++[x]) W'/\bG w0.heap.size W1 W'/\mS W1 W')\/(e=aO (aK false)/\Jx (pre++[x]) W'))(hW:bG w0.heap.size w0 W)(hB:aC W (Ad B 0)=aV (aI s))(h0:J [] W):CallsIn Fence.wide n bT 158 #[.func (.yield l) #[] #[],.pointer (aV ⟨B,0,aW⟩)] W λe W'=>(∃v,e=aO v)/\
   ((∃ys,ys=eA s.size s 0/\J ys W')\/(∃pre,pre <+: eA s.size s 0/\Jx pre W')):=by
 refine callsIn_of_wp Tryz.func158 rfl trivial ?_ rfl;simp only[Tryz.ntmps158,List.size_toArray,aZ,List.length_nil,Nat.reduceAdd,Nat.reduceSub,Array.replicate_succ,Array.replicate_zero,List.push_toArray,List.append_toArray,List.nil_append,List.cons_append]
 gi_wp2
 generalize hxs:eA s.size s 0=xs at *;have HX:Hid (eA s.size s 0=xs):=hxs;clear hxs
 gi_loopw [3,4] (λrest O wr=>∃(pre:List eE) (t:ByteArray) (p f:Nat),rest=aI t/\O=aM aP p/\Hid (pre++eA f t p=xs)/\t.size<=f/\p+t.size<=s.size/\J pre wr/\bG w0.heap.size w0 wr)
  (λrest _ _=>vu rest)
 case atStart=>exact⟨[],s,0,s.size,rfl,rfl,HX,by omega,by omega,h0,hW⟩
 case round=>
  obtain⟨pre,t,p,f,rfl,rfl,hx,hf,hp,a6,G⟩:=hrel;by_cases ht:t.size=0
  .have he:t.toList.isEmpty=true:=by rw[xC];simp[ht]
   gi_wp2
   go_end0
   exact⟨⟨_,rfl⟩,aQ ⟨pre,by rw[<-HX.o] at hx;rw[<-hx.o,A4 f t p ht];simp,a6⟩⟩
  .have he:t.toList.isEmpty=false:=by rw[xC];simp[ht]
   have h1:0<t.size:=by omega
   obtain⟨g,rfl⟩:∃g,f=g+1:=⟨f-1,by omega⟩;have ae:bQ t=bD t 0:=by unfold bQ;rw[if_neg ht]
   have b7:=bE t 0 h1;have al:=jW t 0 h1;rw[Nat.zero_add] at al;have b6:=Utf8Tabs_below hT G;have ay:Cs 159 #[aI t] wr λe w'=>e=aO (aL #[aM .i32 (bD t 0).1,aM aP (bD t 0).2])/\bG wr.heap.size wr w':=by rw[<-ae];exact bO t wr b6
   generalize hd:bD t 0=d at *;obtain⟨r,wd⟩:=d;have HD:Hid (bD t 0=(r,wd)):=hd;clear hd ae;simp only at b7 al ay;by_cases ax:kU (r:Int)=true
   .gi_wp2_with (first|(refine⟨trivial,?_⟩;gi_at_call 159;refine (bL.2 ay).mono ?_;rintro e w1 ⟨rfl,Z⟩)|(refine⟨trivial,?_⟩;gi_at_call 160;refine (bL.2 (zh _ _)).mono ?_;rintro e w' ⟨rfl,rfl⟩))
    go_roundw
    case rel=>refine⟨pre,t.extract wd t.size,p+1,g,rfl,by go_num,?_,by simp;omega,by simp;omega,hJ pre wr _ aW a6 (qg Z) (λr e=>by cases e),G.trans (Z.mono G.size)⟩;have:=hx.o;unfold eA at this;rw[if_neg ht,HD.o,if_pos ax] at this;exact this
    case measure=>simp[vu];omega
   .have Qg0:kU (r:Int)=false:=by simpa using ax
    clear ax;have M:(t.extract 0 (eY t).2.1).size<=1200:=by simp;omega
    have az:pre ++ ⟨(eY t).1,t.extract 0 (eY t).2.1,p,(eY t).2.2,M⟩::eA g (t.extract (eY t).2.1 t.size) (p+(eY t).2.2)=xs:=by have:=hx.o;unfold eA at this;rw[if_neg ht,HD.o,if_neg (by simp[Qg0]),dif_pos M] at this;exact this
    have bk:=Ea t h1;have E:∀w1,bG wr.heap.size wr w1->Cs 161 #[aI t] w1 λe w'=>e=aO (dU (eY t).1 (t.extract 0 (eY t).2.1) 0 (eY t).2.2)/\bG w1.heap.size w1 w':=by intro w1 hb;exact Cq t w1 (by unfold maxLen;omega) h1 (Utf8Tabs_below hT (G.trans (hb.mono G.size)))
    generalize hF:eY t=ft at *;obtain⟨C,z,A⟩:=ft;simp only at az bk E M;have a7:Hid (pre ++ ⟨C,t.extract 0 z,p,A,M⟩::eA g (t.extract z t.size) (p+A)=xs):=az;clear az hx HD hF;have HF:Hid (∀w1,bG wr.heap.size wr w1->Cs 161 #[aI t] w1 λe w'=>e=aO (dU C (t.extract 0 z) 0 A)/\bG w1.heap.size w1 w'):=E;clear E;have HJ:Hid (AbidesFrom W.heap.size J):=hJ;have HY:=hY;clear hY hJ
    gi_wp2_with (first|(refine⟨trivial,?_⟩;gi_at_call 159;refine (bL.2 ay).mono ?_;rintro e w1 ⟨rfl,Z⟩)|(refine⟨trivial,?_⟩;gi_at_call 160;refine (bL.2 (zh _ _)).mono ?_;rintro e w' ⟨rfl,rfl⟩))
    refine⟨trivial,?_⟩;refine (bL.2 (HF.o _ Z)).mono ?_;rintro e w2 ⟨rfl,ad⟩;have bh:bG wr.heap.size wr w2:=Z.trans (ad.mono Z.size);have bj:=bh.alloc bh.size (aN #[aM aP C,aI (t.extract 0 z),aM aP p,aM aP A] 191);obtain⟨fn,tmps,assign,body,hy,hR⟩:=HY pre ⟨C,t.extract 0 z,p,A,M⟩ (w2.alloc (aN #[aM aP C,aI (t.extract 0 z),aM aP p,aM aP A] 191)) (HJ.o pre wr _ aW a6 (qg bj) (λr e=>by cases e)) (by rw[<-a7.o];simp);dsimp only[eE.v] at hy;have bi:(t.extract 0 z).size=z:=by simp;omega
    unfold dU fL at hy ⊢;generalize hte:t.extract 0 z=te at *
    gi_wp2
    refine hR.mono ?_;rintro e W3 (⟨rfl,bq,bv,bd⟩|⟨rfl,a9⟩)
    .have aj:W3.heap[w2.heap.size]?=aV (aN #[aM aP C,aI te,aM aP p,aM aP A] 191):=bd _ _ _ (zn w2 _);have b9:aC W3 (Ad w2.heap.size 1)=aV (aI te):=zc aj;have cc:aC W3 (Ad w2.heap.size 3)=aV (aM aP A):=zc aj;have b8:(z:Int)<=(t.size:Int):=by omega
     clear aj bd hy hR
     gi_wp2
     gi_region
     all_goals
      gi_wp2
      go_roundw
      case rel=>refine⟨pre++[⟨C,te,p,A,M⟩],t.extract z t.size,p+A,g,by simp[bi],by go_num,?_,by simp;omega,by simp;omega,HJ.o _ _ _ aW bq (qg ((aX _ W3).drew)) (λr e=>by cases e),((G.trans (bj.mono G.size)).trans bv).drew⟩;have:=a7.o;show _=_;rw[<-this];simp
      case measure=>simp[vu,bi];omega
    .gi_wp2
     refine bF (results_none rfl _ _ _) rfl ?_;exact⟨⟨_,rfl⟩,aR ⟨pre++[⟨C,te,p,A,M⟩],⟨eA g (t.extract z t.size) (p+A),by rw[HX.o,<-a7.o];simp⟩,a9⟩⟩
def kP(n₀:Nat)(A B:Wq):Prop:=bG n₀ A B/\mS A B
theorem kP.tr{n₀:Nat}(h:kP n₀ A B)(k:kP n₀ B C):kP n₀ A C:=⟨h.1.trans k.1,h.2.trans k.2⟩
theorem kP.put{n₀:Nat}{w:Wq}(E:n₀<=w.heap.size)(W:Wq)(l:Nat)(o d:Obj)(C:w.heap.size<=l)(h:W.heap[l]?=aV o)(z:o.isCells=false)(A:o.isWalk=false):kP n₀ W (W.putObj l d):=
 ⟨belowK_b E W l o d C h z A,mS.put W l o d h z⟩
theorem B5(n:Nat)(Z:1<=n)(B:Nat)(s:ByteArray)(hs:s.size<=1200)(w0:Wq)(G:bX 0 1 w0)(w:Wq)(z:bG w0.heap.size w0 w)(C:B<w.heap.size)(O:aC w (Ad B 0)=aV (St s)):SeqStopsK Fence.wide n bT 158 #[Pt B] (λx:eE=>#[x.v]) (kP w0.heap.size) (λys=>ys=eA s.size s 0) (λpre=>pre <+: eA s.size s 0) (aB (eA s.size s 0)) w:=
 λl J A W d E _ M h0=>JF n Z l B s hs w0 G J A W E M (z.trans (d.mono z.size)) ((d.cell (p:=⟨B,0,aW⟩) C).trans O) h0
