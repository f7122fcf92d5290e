/- A part -/
import Derived.Test.YtjajnhemgphefaaGreatDoorRows
import Derived.WalkKit
import Derived.WalkSpells
import Derived.WalkLawsBesides
import Derived.Lib.RuneCount
import Derived.Lib.RuneCountTail
import Derived.Lib.QuoteLoop
import Derived.Test.YtjajnhemgphefaaGreatDoorShelf
import Derived.Deep.RegionWith
import Derived.Lib.Bytes2
import Derived.RangeFuncNested
import Derived.RangeFuncBound
import Derived.RangeFuncCalls
import Derived.RangeFuncLeaves
import Derived.Shelf.Abstract
import Derived.Shelf.RegionOpen
import Derived.OwnWalkIn
import Derived.TacticsInMore
import Derived.LoopNIn
import Derived.LoopIn
import Derived.BigQuiet
set_option linter.all false
set_option maxRecDepth 100000
set_option maxHeartbeats 4000000
open List renaming length->aD,length_cons->bC,length_drop->bF,takeWhile_cons->bH,take_succ_eq_append_getElem->bQ,map_cons->bZ,drop_eq_getElem_cons->cA,take_succ_cons->cI,length_append->cL,flatMap_cons->cO,cons_append->cQ,append_nil->cR,drop_drop->cS
open Go.World renaming cell?->aE,frozen?->aF,ownsRow->aH,setCell->aW,size_alloc->cP
open Go.Value renaming ownBlock->aI,slice->aJ,string->aK,agg->aL,bool->aM,tuple->aN,int->aO,oneCell'->cE
open Go.Obj renaming cells->aP
open Go.Ending renaming returned->aQ
open Go.IntKind renaming i64->aR
open Or renaming inl->aS,inr->aU
open Option renaming some->aX,none->aY
open Nat renaming add_sub_cancel_left->bB,zero_add->bI,add_zero->bT,le_refl->bX,add_assoc->cH,le_trans->cM,le_of_eq->cT
open Go.RowKit.Below renaming cell->bD,heap_alloc->bG,refl->bJ
open Array renaming getElem?_toList->bE,length_toList->cJ
open ByteArray renaming get!->bL,append_assoc->bO,empty->bU,data_extract->cD,size_append->cF,ext->cG
open Go.Utf8 renaming decode->cU,valid->dP
open Go renaming wpList_append_own->cW,bodyPost_ret->dD,callsIn_wide->dF,maxLen->dJ
open Go.RowKit renaming Below->cX
open Go.Proofs.Tryz renaming underlying209->cZ,results161->dE,underlying207->dG,prog->dK,results212->dO
open Go.Lib renaming hasPrefix->dA,decode_width_pos->dB,decodeGo->dI,Utf8Tabs->dL,tail_decode->dM
open Bool renaming eq_iff_iff->dC
open Go.Addr renaming add->dH
namespace Go.Proofs.YtjajnhemgphefaaGreatDoor
open Go renaming World->Wq,Value->Vq
open Go.RowKit
def qK(r:Int):Bool:=decide (r=32\/r=9\/r=10)
def mE(r:Int):Bool:=decide ((97<=r/\r<=122)\/(945<=r/\r<=969))
def lT(r:Int):Bool:=decide ((65<=r/\r<=90)\/(913<=r/\r<=937/\r≠930))
def qJ(r:Int):Bool:=decide (48<=r/\r<=57)
def sD(r:Int):Int:=if r=40 then 3 else if r=41 then 4 else if r=44 then 5 else if r=46 then 6 else 0
def kU{a b:Bool}(h:a=b):aQ (aM a)=aQ (aM b):=by rw[h]
def sR{k:IntKind}{a b:Int}(h:a=b):aQ (aO k a)=aQ (aO k b):=by rw[h]
def Gg(r:Int)(w:Wq):Cs 160 #[aO .i32 r] w λe w'=>e=aQ (aM (qK r))/\w'=w:=by
 go_enter Tryz.func160,Tryz.ntmps160;go_wp2;all_goals
  go_ret;exact⟨kU (by rw[dC];simp[qK]<;>omega),rfl⟩
def uz(r:Int)(w:Wq):Cs 213 #[aO .i32 r] w λe w'=>e=aQ (aM (mE r))/\w'=w:=by
 go_enter Tryz.func213,Tryz.ntmps213;go_wp2;all_goals
  go_ret;exact⟨kU (by rw[dC];simp[mE]<;>omega),rfl⟩
def tQ(r:Int)(w:Wq):Cs 211 #[aO .i32 r] w λe w'=>e=aQ (aM (lT r))/\w'=w:=by
 go_enter Tryz.func211,Tryz.ntmps211;go_wp2;all_goals
  go_ret;exact⟨kU (by rw[dC];simp[lT]<;>omega),rfl⟩
def yD(r:Int)(w:Wq):Cs 244 #[aO .i32 r] w λe w'=>e=aQ (aM (qJ r))/\w'=w:=by
 go_enter Tryz.func244,Tryz.ntmps244;go_wp2;all_goals
  go_ret;exact⟨kU (by rw[dC];simp[qJ]<;>omega),rfl⟩
def Ip(r:Int)(w:Wq):Cs 215 #[aO .i32 r] w λe w'=>e=aQ (Ii (sD r))/\w'=w:=by
 go_enter Tryz.func215,Tryz.ntmps215;go_wp2;all_goals
  go_ret;exact⟨sR (by simp_all [sD]),rfl⟩
def nQ(r:Nat):Bool:=lT r || mE r || qJ r
def fX(s:ByteArray):Nat->Nat->Nat->Nat×Nat
 |0,ac,m=>(ac,m)
 |f+1,ac,m=>if ac<s.size then (if nQ (cU s ac).1 then fX s f (ac+(cU s ac).2) (m+1) else (ac,m)) else (ac,m)
def Bv(s:ByteArray)(f ac m:Nat)(h:¬ac<s.size):fX s f ac m=(ac,m):=by cases f<;>simp[fX,h]
theorem ET(s:ByteArray)(f ac m:Nat)(h:nQ (cU s ac).1=false):fX s f ac m=(ac,m):=by cases f<;>simp[fX,h]
def oU(s:ByteArray)(ac:Nat)(h:ac<s.size):ac+(cU s ac).2<=s.size:=by have z:=dM s ac 0;rw[bT] at z;have A:=Lib.width_le (s.extract ac s.size) (by simp;lia);rw[z] at A;simp at A;lia
def wn(w:Wq)(O:Obj)(s:ByteArray)(p:Nat):((w.alloc O).alloc (.stringIter s p)).iterPos (w.heap.size+1)=p:=by have:=World.iterPos_iter (w.alloc O) s p;rw[cP] at this;exact this
def iH(k:Int)(t:ByteArray)(p m:Int):Array Vq:=#[aO aR k,aK t,aO aR p,aO aR m]
def fY(k:Int)(t:ByteArray)(p m:Int):Vq:=aL (iH k t p m)
def I8(s:ByteArray):s.extract 0 s.size=s:=by simp
theorem DX(k:Int)(s:ByteArray)(w:Wq)(hs:s.size<=dJ):Cs 212 #[aO aR k,aK s] w λe w'=>
   e=aQ (fY k (s.extract 0 (fX s s.size 0 0).1) 0 (fX s s.size 0 0).2)/\cX w.heap.size w w':=by
 unfold dJ at hs;go_enter Tryz.func212,Tryz.ntmps212;go_wp2;go_loopw [5] (λn w'=>∃(ac b m:Nat),w'=(w.alloc (aP #[aO aR 0,aK ⟨#[]⟩,aO aR 0,aO aR 0] 191)).alloc (.stringIter s ac)/\n=aO aR m/\fX s b ac m=fX s s.size 0 0/\s.size<=ac+b/\m<=ac/\ac<=s.size) (λ_ w'=>s.size-w'.iterPos (w.heap.size+1))
 case atStart=>exact⟨0,s.size,0,rfl,rfl,rfl,by omega,by omega,by omega⟩
 obtain⟨ac,b,m,rfl,rfl,hc,hb,hm,ea⟩:=hrel;have A:Hid (fX s b ac m=fX s s.size 0 0):=hc;clear hc;have az:(w.alloc (aP #[aO aR 0,aK ⟨#[]⟩,aO aR 0,aO aR 0] 191)).heap.size=w.heap.size+1:=by simp
 by_cases z:ac<s.size
 .have d8:∀ty,(Instr.next (.pointer (aX ⟨w.heap.size+1,0,aY⟩)) true ty).run dK ((w.alloc (aP #[aO aR 0,aK ⟨#[]⟩,aO aR 0,aO aR 0] 191)).alloc (.stringIter s ac))=.ok (aN #[aM true,aO aR ac,aO .i32 (cU s ac).1]) ((w.alloc (aP #[aO aR 0,aK ⟨#[]⟩,aO aR 0,aO aR 0] 191)).alloc (.stringIter s (ac+(cU s ac).2))):=λty=>az ▸ run_next_any (w.alloc (aP #[aO aR 0,aK ⟨#[]⟩,aO aR 0,aO aR 0] 191)) s ac ty z;have cu:=dB s ac z;have co:=oU s ac z;generalize hd:cU s ac=d at *;have O:Hid (cU s ac=d):=hd;clear hd;obtain⟨r,M⟩:=d;simp only at cu co d8;have G:Hid (nQ r=true->∃b',b=b'+1/\fX s b' (ac+M) (m+1)=fX s s.size 0 0):=by
   intro hw;cases b with
   |zero=>omega
   |succ b'=>exact⟨b',rfl,by rw[<-A.o];simp[fX,z,O.o,hw]⟩
  have cy:Hid (nQ r=false->fX s s.size 0 0=(ac,m)):=by{intro hw;rw[<-A.o];exact ET s b ac m (by rw[O.o];exact hw)};clear A O;by_cases af:lT (r:Int)=true
  .go_wp2_with (first|(go_at_call 211;refine (tQ _ _).m ?_;rintro e w' ⟨rfl,rfl⟩)|(go_at_call 213;refine (uz _ _).mono ?_;rintro e w' ⟨rfl,rfl⟩)|(go_at_call 244;refine (yD _ _).mono ?_;rintro e w' ⟨rfl,rfl⟩));obtain⟨b',rfl,E⟩:=G.o (by simp[nQ,af]);go_roundw
   case rel=>exact⟨ac+M,b',m+1,rfl,by go_num,E,by omega,by omega,by omega⟩
   rw[wn,wn];omega
  by_cases C:mE (r:Int)=true
  .have b5:lT (r:Int)=false:=by{simpa using af};clear af;go_wp2_with (first|(go_at_call 211;refine (tQ _ _).m ?_;rintro e w' ⟨rfl,rfl⟩)|(go_at_call 213;refine (uz _ _).m ?_;rintro e w' ⟨rfl,rfl⟩)|(go_at_call 244;refine (yD _ _).mono ?_;rintro e w' ⟨rfl,rfl⟩));obtain⟨b',rfl,E⟩:=G.o (by simp[nQ,C]);go_roundw
   case rel=>exact⟨ac+M,b',m+1,rfl,by go_num,E,by omega,by omega,by omega⟩
   rw[wn,wn];omega
  by_cases bn:qJ (r:Int)=true
  .have b5:lT (r:Int)=false:=by{simpa using af};have cv:mE (r:Int)=false:=by{simpa using C};clear af C;go_wp2_with (first|(go_at_call 211;refine (tQ _ _).m ?_;rintro e w' ⟨rfl,rfl⟩)|(go_at_call 213;refine (uz _ _).m ?_;rintro e w' ⟨rfl,rfl⟩)|(go_at_call 244;refine (yD _ _).m ?_;rintro e w' ⟨rfl,rfl⟩));obtain⟨b',rfl,E⟩:=G.o (by simp[nQ,bn]);go_roundw
   case rel=>exact⟨ac+M,b',m+1,rfl,by go_num,E,by omega,by omega,by omega⟩
   rw[wn,wn];omega
  have b5:lT (r:Int)=false:=by{simpa using af};have cv:mE (r:Int)=false:=by{simpa using C};have Qn7:qJ (r:Int)=false:=by{simpa using bn};clear af C bn;have Qd:Hid (fX s s.size 0 0=(ac,m)):=cy.o (by simp[nQ,b5,cv,Qn7]);clear cy G;go_wp2_with (first|(go_at_call 211;refine (tQ _ _).m ?_;rintro e w' ⟨rfl,rfl⟩)|(go_at_call 213;refine (uz _ _).m ?_;rintro e w' ⟨rfl,rfl⟩)|(go_at_call 244;refine (yD _ _).m ?_;rintro e w' ⟨rfl,rfl⟩));refine dD (v:=fY k (s.extract 0 ac) 0 m) (by simp[results,dO,go_sem,fY,iH]) rfl ?_;rw[Qd.o];exact⟨rfl,(zr.l zl _).l (by simp) _⟩
 have d8:∀ty,(Instr.next (.pointer (aX ⟨w.heap.size+1,0,aY⟩)) true ty).run dK ((w.alloc (aP #[aO aR 0,aK ⟨#[]⟩,aO aR 0,aO aR 0] 191)).alloc (.stringIter s ac))=.ok (aN #[aM false]) ((w.alloc (aP #[aO aR 0,aK ⟨#[]⟩,aO aR 0,aO aR 0] 191)).alloc (.stringIter s ac)):=λty=>az ▸ run_next_end (w.alloc (aP #[aO aR 0,aK ⟨#[]⟩,aO aR 0,aO aR 0] 191)) s ac ty z;have Qd:Hid (fX s s.size 0 0=(ac,m)):=by rw[<-A.o];exact Bv s b ac m z
 clear A;have e7:Hid (s.extract 0 ac=s):=by rw[show ac=s.size by omega];exact I8 s
 go_wp2;refine dD (v:=fY k s 0 m) (by simp[results,dO,go_sem,fY,iH]) rfl ?_;rw[Qd.o];exact⟨by rw[e7.o],(zr.l zl _).l (by simp) _⟩
def fE(s:ByteArray)(i:Nat):Nat:=(s.get! i).toNat
def sX(s:ByteArray)(i:Nat):fE s i<256:=UInt8.toNat_lt _
def kI(s:ByteArray)(i lo hi:Nat):Bool:=decide (i<s.size/\lo<=fE s i/\fE s i<=hi)
def lP(c:Nat):Nat:=if c=224 then 160 else if c=240 then 144 else 128
def lQ(c:Nat):Nat:=if c=237 then 159 else if c=244 then 143 else 191
def gO(s:ByteArray)(i:Nat):Nat:=
 if 194<=fE s i/\fE s i<=223/\kI s (i+1) (lP (fE s i)) (lQ (fE s i))=true then 2
 else if 224<=fE s i/\fE s i<=239/\kI s (i+1) (lP (fE s i)) (lQ (fE s i))=true/\kI s (i+2) 128 191=true then 3
 else if 240<=fE s i/\fE s i<=244/\kI s (i+1) (lP (fE s i)) (lQ (fE s i))=true/\kI s (i+2) 128 191=true/\kI s (i+3) 128 191=true then 4
 else 1
theorem xZ(s:ByteArray)(i:Nat):cU s i=if fE s i<128 then (fE s i,1)
   else if gO s i=2 then ((fE s i % 32)*64+fE s (i+1) % 64,2)
   else if gO s i=3 then ((fE s i % 16)*4096+(fE s (i+1) % 64)*64+fE s (i+2) % 64,3)
   else if gO s i=4 then ((fE s i % 8)*262144+(fE s (i+1) % 64)*4096+(fE s (i+2) % 64)*64+fE s (i+3) % 64,4)
   else (65533,1):=by
 have h0:=sX s i;have E:=sX s (i+1);have G:=sX s (i+2);have M:=sX s (i+3);have e:cU s i=(if fE s i<128 then (fE s i,1)
   else if (fE s i / 32 == 6 && (decide (i+1<s.size) && fE s (i+1) / 64 == 2))=true then
    (if (fE s i % 32)*64+fE s (i+1) % 64≥128 then ((fE s i % 32)*64+fE s (i+1) % 64,2) else (65533,1))
   else if (fE s i / 16 == 14 && (decide (i+1<s.size) && fE s (i+1) / 64 == 2) && (decide (i+2<s.size) && fE s (i+2) / 64 == 2))=true then
    (if (decide ((fE s i % 16)*4096+(fE s (i+1) % 64)*64+fE s (i+2) % 64≥2048) && dP (((fE s i % 16)*4096+(fE s (i+1) % 64)*64+fE s (i+2) % 64:Nat):Int))=true then ((fE s i % 16)*4096+(fE s (i+1) % 64)*64+fE s (i+2) % 64,3) else (65533,1))
   else if (fE s i / 8 == 30 && (decide (i+1<s.size) && fE s (i+1) / 64 == 2) && (decide (i+2<s.size) && fE s (i+2) / 64 == 2) && (decide (i+3<s.size) && fE s (i+3) / 64 == 2))=true then
    (if (decide ((fE s i % 8)*262144+(fE s (i+1) % 64)*4096+(fE s (i+2) % 64)*64+fE s (i+3) % 64≥65536) && dP (((fE s i % 8)*262144+(fE s (i+1) % 64)*4096+(fE s (i+2) % 64)*64+fE s (i+3) % 64:Nat):Int))=true then ((fE s i % 8)*262144+(fE s (i+1) % 64)*4096+(fE s (i+2) % 64)*64+fE s (i+3) % 64,4) else (65533,1))
   else (65533,1)):=rfl
 rw[e];have en:(fE s i=224->lP (fE s i)=160)/\(fE s i=240->lP (fE s i)=144)/\(fE s i≠224->fE s i≠240->lP (fE s i)=128):=by unfold lP;refine⟨λh=>by simp[h],λh=>by simp[h],λh A=>by simp[h,A]⟩
 have C:(fE s i=237->lQ (fE s i)=159)/\(fE s i=244->lQ (fE s i)=143)/\(fE s i≠237->fE s i≠244->lQ (fE s i)=191):=by unfold lQ;refine⟨λh=>by simp[h],λh=>by simp[h],λh A=>by simp[h,A]⟩
 unfold gO kI dP;generalize lP (fE s i)=lo at *;generalize lQ (fE s i)=hi at *;generalize fE s i=b0 at *;generalize fE s (i+1)=b1 at *;generalize fE s (i+2)=b2 at *;generalize fE s (i+3)=b3 at *;generalize s.size=n at *;clear e;simp only[Bool.and_eq_true,Bool.or_eq_true,decide_eq_true_eq,beq_iff_eq,ge_iff_le];by_cases z:b0<128
 .rw[if_pos z,if_pos z]
 rw[if_neg z,if_neg z];by_cases a2:194<=b0/\b0<=223/\i+1<n/\lo<=b1/\b1<=hi
 .rw[if_pos (by lia),if_pos (by lia)];simp[a2]
 by_cases a3:224<=b0/\b0<=239/\(i+1<n/\lo<=b1/\b1<=hi)/\i+2<n/\128<=b2/\b2<=191
 .rw[if_neg (by lia),if_pos (by lia),if_pos (by lia)];rw[if_neg a2,if_pos a3];rfl
 by_cases a4:240<=b0/\b0<=244/\(i+1<n/\lo<=b1/\b1<=hi)/\(i+2<n/\128<=b2/\b2<=191)/\i+3<n/\128<=b3/\b3<=191
 .rw[if_neg (by lia),if_neg (by lia),if_pos (by lia),if_pos (by lia)];rw[if_neg a2,if_neg a3,if_pos a4];rfl
 rw[if_neg a2,if_neg a3,if_neg a4];show _=(65533,1);split
 .rw[if_neg (by lia)]
 split;{rw[if_neg (by lia)]};split;{rw[if_neg (by omega)]};{rfl}
theorem wX(s:ByteArray)(i:Nat):(cU s i).2=gO s i:=by
 rw[xZ];by_cases A:fE s i<128
 .grind [gO]
 rw[if_neg A];have z:gO s i=1\/gO s i=2\/gO s i=3\/gO s i=4:=by grind [gO]
 obtain h|h|h|h:=z<;>simp[h]
def vC(c:Nat):Nat:=
 if 97<=c/\c<=122 then 1 else if 65<=c/\c<=90 then 2 else if 48<=c/\c<=57 then 3 else if c=32\/c=9\/c=10 then 4
 else if c=40\/c=41\/c=44\/c=46 then 5 else if c=58 then 6 else if c=45 then 7 else 8
def we(a b:Nat):Nat:=
 if 945<=64*((a:Int)-192)+b-128/\64*((a:Int)-192)+b-128<=969 then 1
 else if 913<=64*((a:Int)-192)+b-128/\64*((a:Int)-192)+b-128<=937/\64*((a:Int)-192)+b-128≠930 then 2 else 8
def nW(s:ByteArray)(i:Nat):Nat:=
 if gO s i=1 then vC (fE s i) else if gO s i=2 then we (fE s i) (fE s (i+1)) else 8
def Qm(r:Nat):Nat:=
 if mE r=true then 1 else if lT r=true then 2 else if qJ r=true then 3 else if qK r=true then 4
 else if r=40\/r=41\/r=44\/r=46 then 5 else if r=58 then 6 else if r=45 then 7 else 8
def Aw(r:Nat)(h:970<=r):Qm r=8:=by grind [Qm,mE,lT,qJ,qK]
theorem DS(s:ByteArray)(i:Nat)(h:gO s i=3):224<=fE s i/\fE s i<=239/\(fE s i=224->160<=fE s (i+1))/\fE s (i+1)<=191/\128<=fE s (i+1):=by grind [lP,lQ,gO,kI]
theorem Em(s:ByteArray)(i:Nat)(h:gO s i=4):240<=fE s i/\fE s i<=244/\(fE s i=240->144<=fE s (i+1))/\fE s (i+1)<=191/\128<=fE s (i+1):=by grind [lP,lQ,gO,kI]
def FB(s:ByteArray)(i:Nat):nW s i=Qm (cU s i).1:=by
 have h0:=sX s i;have O:=sX s (i+1);have hd:=xZ s i;have hs:=wX s i;by_cases C:fE s i<128
 .rw[if_pos C] at hd;rw[hd] at hs ⊢;unfold nW;rw[if_pos hs.s];unfold vC Qm mE lT qJ qK;simp only[decide_eq_true_eq];generalize fE s i=c at *
  repeat' split
  all_goals first|rfl|(exfalso;lia)
 rw[if_neg C] at hd
 have h4:gO s i=1\/gO s i=2\/gO s i=3\/gO s i=4:=by
  unfold gO;split;{simp}
  .split;{simp};{split<;>simp}
 obtain h|h|h|h:=h4
 .rw[if_neg (by lia),if_neg (by lia),if_neg (by lia)] at hd;rw[hd];unfold nW;rw[if_pos h,Aw _ (by lia)];unfold vC;rw[if_neg (by lia),if_neg (by lia),if_neg (by lia),if_neg (by lia),if_neg (by lia),if_neg (by lia),if_neg (by lia)]
 .have z:194<=fE s i/\fE s i<=223/\kI s (i+1) (lP (fE s i)) (lQ (fE s i))=true:=by
   apply Classical.byContradiction;intro hn;unfold gO at h;rw[if_neg hn] at h;split at h;{cases h};{split at h<;>cases h}
  have A:=z.2.2;unfold kI at A;simp only[decide_eq_true_eq] at A;have E:lP (fE s i)=128:=by{unfold lP;rw[if_neg (by lia),if_neg (by lia)]};have G:lQ (fE s i)=191:=by{unfold lQ;rw[if_neg (by lia),if_neg (by lia)]};rw[E,G] at A;rw[if_pos h] at hd;rw[hd];unfold nW;rw[if_neg (by lia),if_pos h];unfold we;have M:64*((fE s i:Int)-192)+(fE s (i+1):Int)-128=((fE s i % 32*64+fE s (i+1) % 64:Nat):Int):=by{lia};have en:128<=fE s i % 32*64+fE s (i+1) % 64:=by{lia};rw[M];simp only;generalize fE s i % 32*64+fE s (i+1) % 64=r at *;clear M hd hs A z h h0 O C E G;unfold Qm mE lT qJ qK;simp only[decide_eq_true_eq];by_cases c1:945<=r/\r<=969;{rw[if_pos (by lia),if_pos (by lia)]}
  .rw[if_neg (by lia)];by_cases c2:913<=r/\r<=937/\r≠930;{rw[if_pos (by lia),if_neg (by lia),if_pos (by lia)]};{rw[if_neg (by lia),if_neg (by lia),if_neg (by lia),if_neg (by lia),if_neg (by lia),if_neg (by lia),if_neg (by lia),if_neg (by lia)]}
 .have z:=DS s i h;rw[if_neg (by lia),if_pos h] at hd;rw[hd];unfold nW;rw[if_neg (by lia),if_neg (by lia),Aw _ (by show 970<=fE s i % 16*4096+fE s (i+1) % 64*64+fE s (i+2) % 64;lia)]
 .have z:=Em s i h;rw[if_neg (by lia),if_neg (by lia),if_pos h] at hd;rw[hd];unfold nW;rw[if_neg (by lia),if_neg (by lia),Aw _ (by show 970<=fE s i % 8*262144+fE s (i+1) % 64*4096+fE s (i+2) % 64*64+fE s (i+3) % 64;lia)]
structure Rn where
 d:Nat
 f:ByteArray
def tF:Nat->ByteArray->List Rn
 |0,_=>[]
 |f+1,s=>if s.size=0 then [] else ⟨Qm (cU s 0).1,s.extract 0 (cU s 0).2⟩::tF f (s.extract (cU s 0).2 s.size)
theorem Ae(r:Nat):nQ r=decide (Qm r<=3):=by grind [nQ,Qm]
theorem yw(f:Nat)(s:ByteArray)(h:s.size=0):tF f s=[]:=by cases f<;>simp[tF,h]
def tE(s:ByteArray)(i:Nat):0<(cU s i).2:=by grind [wX,gO]
theorem BQ:∀(f g:Nat) (s:ByteArray),s.size<=f->s.size<=g->tF f s=tF g s
 |0,g,s,h,_=>by grind [yw]
 |f+1,0,s,_,h=>by grind [yw]
 |f+1,g+1,s,h,h'=>by
  unfold tF;split;{rfl}
  .rename_i z;have A:=tE s 0;have C:(s.extract (cU s 0).2 s.size).size<=s.size-1:=by{simp;lia};rw[BQ f g _ (by lia) (by lia)]
def R(s:ByteArray)(i:Nat):List Rn:=tF s.size (s.extract i s.size)
def AP(s:ByteArray)(i a b:Nat):(s.extract i s.size).extract a b=s.extract (i+a) (min (i+b) s.size):=by grind [cG,cD,Array.extract_extract]
theorem qF(s:ByteArray)(i:Nat)(h:¬i<s.size):R s i=[]:=yw _ _ (by simp;lia)
theorem qC(s:ByteArray)(i:Nat)(h:i<s.size):R s i=⟨Qm (cU s i).1,s.extract i (i+(cU s i).2)⟩::R s (i+(cU s i).2):=by
 have hd:=dM s i 0;rw[bT] at hd;have C:=oU s i h;have E:=tE s i;obtain⟨k,A⟩:∃k,s.size=k+1:=⟨s.size-1,by lia⟩;have z:(s.extract i s.size).size=s.size-i:=by simp
 unfold R;rw[A];conv=>lhs;unfold tF
 rw[<-A,if_neg (by rw[z];lia),hd,AP,AP,bT,z,Nat.min_eq_left C];have e:min (i+(s.size-i)) s.size=s.size:=by lia
 rw[e];congr 1;exact BQ _ _ _ (by simp<;>lia) (by simp<;>lia)
def tw(l:List Rn):List Rn:=l.takeWhile (λx=>decide (x.d<=3))
def gE:List Rn->Nat
 |[]=>0
 |x::l=>x.f.size+gE l
theorem Cr(s:ByteArray):∀(f i m:Nat),s.size<=i+f->fX s f i m=(i+gE (tw (R s i)),m+aD (tw (R s i)))
 |0,i,m,h=>by rw[Bv _ _ _ _ (by lia),qF s i (by lia)];simp[tw,gE]
 |f+1,i,m,h=>by
  by_cases z:i<s.size
  .have M:=tE s i;have O:=oU s i z;by_cases A:nQ (cU s i).1=true
   .have E:=Cr s f (i+(cU s i).2) (m+1) (by lia);have G:Qm (cU s i).1<=3:=by grind [Ae]
    conv=>lhs;unfold fX
    rw[if_pos z,if_pos A,E,qC s i z];have e:tw (⟨Qm (cU s i).1,s.extract i (i+(cU s i).2)⟩::R s (i+(cU s i).2))=⟨Qm (cU s i).1,s.extract i (i+(cU s i).2)⟩::tw (R s (i+(cU s i).2)):=by{simp_all [tw]};rw[e];have C:(s.extract i (i+(cU s i).2)).size=(cU s i).2:=by{simp;lia};simp only[gE,bC,C,Prod.mk.injEq];lia
   .grind [nQ,Qm,Ae,ET,qC,tw,R,gE,bH]
  .rw[Bv _ _ _ _ z,qF s i z];simp[tw,gE]
def zj(s:ByteArray)(n:Nat):R (s.extract n s.size) 0=R s n:=by
 have z:(s.extract n s.size).size=s.size-n:=by simp
 unfold R;rw[AP,z,bT];have e:min (n+(s.size-n)) s.size=s.size\/¬n<s.size:=by lia
 obtain e|e:=e
 .grind [BQ]
 grind [yw]
theorem FQ(s:ByteArray):∀(k i:Nat),k<=aD (R s i)->R s (i+gE ((R s i).take k))=(R s i).drop k
 |0,i,_=>by simp[gE]
 |k+1,i,h=>by
  by_cases z:i<s.size
  .have G:=oU s i z;have A:=qC s i z;rw[A] at h ⊢;rw[cI,List.drop_succ_cons];have C:(s.extract i (i+(cU s i).2)).size=(cU s i).2:=by{simp;lia};have E:=FQ s k (i+(cU s i).2) (by simpa using h);simp only[gE,C];rwa[<-cH]
  .grind [qF]
def BS{W w1:Wq}(z:cX W.heap.size W w1):(∀b o,b<W.heap.size->aE w1 (Ad b o)=aE W (Ad b o))/\(∀b o,b<W.heap.size->aF w1 (Ad b o)=aF W (Ad b o)):=
 ⟨λb o h=>z.cell (p:=⟨b,o,aY⟩) h,λb o h=>z.frozen (p:=⟨b,o,aY⟩) h⟩
def gT(s:ByteArray):Int×Nat×Nat:=
 if lT (cU s 0).1 then (2,(fX s s.size 0 0).1,(fX s s.size 0 0).2)
 else if mE (cU s 0).1 then (1,(fX s s.size 0 0).1,(fX s s.size 0 0).2)
 else if dA s.data.toList [58,45] then (7,2,2)
 else (sD (cU s 0).1,(cU s 0).2,1)
def qV(s:ByteArray)(p:Int):Vq:=fY (gT s).1 (s.extract 0 (gT s).2.1) p (gT s).2.2
def Kg(s:ByteArray)(h:dA s.data.toList [58,45]=true):s.extract 0 2=⟨#[58,45]⟩:=by
 have z:[58,45] <+: s.data.toList:=by simpa [dA] using h
 have⟨t,ht⟩:=z;have hs:s=⟨([58,45]++t).toArray⟩:=by simp_all
 rw[hs];apply cG;simp
def NY(s:ByteArray)(w:Wq)(hs:s.size<=dJ)(h0:0<s.size)(hT:dL 0 1 w):Cs 161 #[St s] w λe w'=>e=aQ (qV s 0)/\cX w.heap.size w w':=by
 have bn:dI s=cU s 0:=by unfold dI;rw[if_neg (by omega)]
 have df:=Utf8Tabs_below hT ((bJ w.heap.size w).l zl (aP #[Ii 0,St ⟨#[]⟩,Ii 0,Ii 0] 191));go_enter Tryz.func161,Tryz.ntmps161;go_wp2_with fail;refine (Tryz.utf8_DecodeRuneInString _ _ df).m ?_;rintro e w1 ⟨rfl,A⟩;rw[bn];generalize hd:cU s 0=d;have⟨r,wd⟩:=d;have C:=aA hd;clear hd bn;have⟨b4,di⟩:=BS A;have M:w.heap.size<w1.heap.size:=by have:=A.s;simp at this;omega
 by_cases af:lT (r:Int)=true
 .go_wp2_with (go_at_call 211;refine (tQ _ _).m ?_;rintro e w' ⟨rfl,rfl⟩);refine (DX _ _ _ hs).m ?_;rintro e w2 ⟨rfl,z⟩;have⟨dt,dv⟩:=BS z;have ao:w.heap.size<w2.heap.size:=by{have:=z.s;omega};have G:=(((bJ w.heap.size w).l zl _).t (A.m (by simp))).t (z.m (by omega));clear A z hT df;have E:Hid (qV s 0=fY 2 (s.extract 0 (fX s s.size 0 0).1) 0 (fX s s.size 0 0).2):=by{show qV s 0=_;unfold qV gT;rw[C.o];simp[af]};generalize (fX s s.size 0 0).1=sb at *;generalize (fX s s.size 0 0).2=sm at *;unfold fY iH;go_wp2;refine dD (v:=fY 2 (s.extract 0 sb) 0 sm) (by simp[results,dE,go_sem,fY,iH,dt,dv,b4,di,M,ao]) rfl ?_;rw[E.o];exact⟨rfl,(((G.c (by simp) _).c (by simp) _).c (by simp) _).c (by simp) _⟩
 have b5:lT (r:Int)=false:=by simpa using af
 clear af;by_cases a7:mE (r:Int)=true
 .go_wp2_with (first|(go_at_call 211;refine (tQ _ _).m ?_;rintro e w' ⟨rfl,rfl⟩)|(go_at_call 213;refine (uz _ _).m ?_;rintro e w' ⟨rfl,rfl⟩));refine (DX _ _ _ hs).m ?_;rintro e w2 ⟨rfl,z⟩;have⟨dt,dv⟩:=BS z;have ao:w.heap.size<w2.heap.size:=by{have:=z.s;omega};have G:=(((bJ w.heap.size w).l zl _).t (A.m (by simp))).t (z.m (by omega));clear A z hT df;have E:Hid (qV s 0=fY 1 (s.extract 0 (fX s s.size 0 0).1) 0 (fX s s.size 0 0).2):=by{show qV s 0=_;unfold qV gT;rw[C.o];simp[b5,a7]};generalize (fX s s.size 0 0).1=sb at *;generalize (fX s s.size 0 0).2=sm at *;unfold fY iH;go_wp2;refine dD (v:=fY 1 (s.extract 0 sb) 0 sm) (by simp[results,dE,go_sem,fY,iH,dt,dv,b4,di,M,ao]) rfl ?_;rw[E.o];exact⟨rfl,(((G.c (by simp) _).c (by simp) _).c (by simp) _).c (by simp) _⟩
 have cv:mE (r:Int)=false:=by simpa using a7
 clear a7;have co:wd<=s.size:=by have:=Lib.width_le s h0;rw[C.o] at this;exact this
 have G:=((bJ w.heap.size w).l zl _).t (A.m (by simp));clear A hT df;unfold dJ at hs;by_cases O:dA s.data.toList [58,45]=true
 .have E:Hid (qV s 0=fY 7 ⟨#[58,45]⟩ 0 2):=by{show qV s 0=_;unfold qV gT;rw[C.o];simp only[b5,cv,O,Bool.false_eq_true,if_false,if_true];rw[Kg s O];rfl};clear C;go_wp2_with (first|(go_at_call 211;refine (tQ _ _).m ?_;rintro e w' ⟨rfl,rfl⟩)|(go_at_call 213;refine (uz _ _).m ?_;rintro e w' ⟨rfl,rfl⟩)|(go_at_call 214;refine (Tryz.strings_HasPrefix _ _ _).m ?_;rintro e w' ⟨rfl,rfl⟩));refine dD (v:=fY 7 ⟨#[58,45]⟩ 0 2) (by simp[results,dE,go_sem,fY,iH,b4,di,M]) rfl ?_;rw[E.o];exact⟨rfl,(((G.c (by simp) _).c (by simp) _).c (by simp) _).c (by simp) _⟩
 have Ql0:dA s.data.toList [58,45]=false:=by{simpa using O};clear O;have E:Hid (qV s 0=fY (sD r) (s.extract 0 wd) 0 1):=by{show qV s 0=_;unfold qV gT;rw[C.o];simp[b5,cv,Ql0]};clear C;go_wp2_with (first|(go_at_call 211;refine (tQ _ _).m ?_;rintro e w' ⟨rfl,rfl⟩)|(go_at_call 213;refine (uz _ _).m ?_;rintro e w' ⟨rfl,rfl⟩)|(go_at_call 214;refine (Tryz.strings_HasPrefix _ _ _).m ?_;rintro e w' ⟨rfl,rfl⟩));go_region_with (go_at_call 215;refine (Ip _ _).m ?_;rintro e w' ⟨rfl,rfl⟩);all_goals
  go_wp2;refine dD (v:=fY (sD r) (s.extract 0 wd) 0 1) (by simp[results,dE,go_sem,fY,iH,b4,di,M]) rfl ?_;rw[E.o];exact⟨rfl,((((G.c (by simp) _).c (by simp) _).c (by simp) _).c (by simp) _).drew⟩
end Go.Proofs.YtjajnhemgphefaaGreatDoor
namespace Go.Proofs.YtjajnhemgphefaaGreatDoor
open Go renaming World->Wq,Value->Vq
open Go.RowKit Go.Shelf
attribute [local go_sem] Oper.semAt_some
variable {A C W W' wr X w1 W0:Wq} {B T k i:Nat} {α:Type} {xs:List Vq} {v':Vq}
structure gF where
 d:Int
 f:ByteArray
 b:Nat
 a:Nat
 o:f.size<=1200
def gF.v(t:gF):Vq:=fY t.d t.f t.b t.a
def gD:Nat->ByteArray->Nat->List gF
 |0,_,_=>[]
 |f+1,s,p=>
  if s.size=0 then []
  else if qK (cU s 0).1 then gD f (s.extract (cU s 0).2 s.size) (p+1)
  else if h:(s.extract 0 (gT s).2.1).size<=1200 then ⟨(gT s).1,s.extract 0 (gT s).2.1,p,(gT s).2.2,h⟩::gD f (s.extract (gT s).2.1 s.size) (p+(gT s).2.2)
  else []
def s9(W W':Wq):Prop:=∀(k:Nat) (c:Array Vq) (fz:Nat×Nat),W.heap[k]?=aX (aP c 191 fz)->W'.heap[k]?=aX (aP c 191 fz)
def s9.trans{B:Wq}(h:s9 A B)(k:s9 B C):s9 A C:=λi c z E=>k i c z (h i c z E)
def s9.H(W:Wq)(l:Nat)(o A:Obj)(h:W.heap[l]?=aX o)(C:o.isCells=false):s9 W (W.putObj l A):=by
 intro k c E z;by_cases e:k=l
 .subst e;rw[h] at z;cases z;simp[Obj.isCells] at C
 rw[(grownBy_putObj' W l A).b k (zg z).1 (by simpa using e)];exact z
def qi(h:cX W.heap.size W W'):W.grownBy W' none:=⟨h.os,h.tape,h.output,h.s,λk z _=>h.b k z⟩
theorem AR(s:ByteArray):∀f ac m,ac<=s.size->m<=ac->ac<=(fX s f ac m).1/\(fX s f ac m).1<=s.size/\(fX s f ac m).2<=(fX s f ac m).1
 |0,ac,m,h,hm=>by simp[fX];lia
 |f+1,ac,m,h,hm=>by
  unfold fX;split
  .rename_i z;have C:=dB s ac z;have A:=oU s ac z;split;{have:=AR s f (ac+(cU s ac).2) (m+1) A (by lia);lia};{simp;lia}
  .simp;lia
theorem C3(s:ByteArray)(h0:0<s.size)(C:nQ (cU s 0).1=true):1<=(fX s s.size 0 0).1:=by obtain⟨n,A⟩:∃n,s.size=n+1:=⟨s.size-1,by lia⟩;rw[A];unfold fX;rw[if_pos h0,if_pos C];have E:=dB s 0 h0;have z:=oU s 0 h0;have:=AR s n (0+(cU s 0).2) (0+1) z (by lia);lia
def Mj(s:ByteArray)(h0:0<s.size):1<=(gT s).2.1/\(gT s).2.1<=s.size/\(gT s).2.2<=(gT s).2.1:=by
 have E:=AR s s.size 0 0 (by lia) (by lia);have A:=dB s 0 h0;have C:=oU s 0 h0;unfold gT;split
 .grind [C3,nQ]
 split;{grind [C3,nQ]};split;{rename_i z;have:=Lib.hasPrefix_le z;simp at this;simp;exact this};{simp;lia}
def Ea(f:Nat)(s:ByteArray)(p:Nat)(h:s.size=0):gD f s p=[]:=by cases f<;>simp[gD,h]
def E4(s:ByteArray)(w:Wq):Cs 96 #[St s] w λe w'=>e=aQ (.func (.func 158) #[] #[Pt w.heap.size])/\w'=w.alloc (aP #[St s] 9):=by go_enter Tryz.func96,Tryz.ntmps96;go_wp2;go_ret;exact⟨rfl,rfl⟩
def GB(t:ByteArray):t.toList.isEmpty=decide (t.size=0):=by
 rw[<-decide_eq_emptyBytes];apply decide_eq_decide.2;constructor
 .simp_all
 simp_all
def Bb:Vq->Nat|aK t=>t.size|_=>0
theorem JV(n:Nat)(hn:1<=n)(l B:Nat)(s:ByteArray)(hs:s.size<=1200)(w0:Wq)(hT:dL 0 1 w0)(J Jx:List gF->Wq->Prop)(W:Wq)(hJ:AbidesFrom W.heap.size J)(hY:∀pre x W1,J pre W1->aD pre<aD (gD s.size s 0)->YieldAt Fence.wide (n-1) dK l #[x.v] W1 λe W'=>
   (e=aQ (aM true)/\J (pre++[x]) W'/\cX w0.heap.size W1 W'/\s9 W1 W')\/(e=aQ (aM false)/\Jx (pre++[x]) W'))(hW:cX w0.heap.size w0 W)(hB:aE W (Ad B 0)=aX (aK s))(h0:J [] W):CallsIn Fence.wide n dK 158 #[.func (.yield l) #[] #[],.pointer (aX ⟨B,0,aY⟩)] W λe W'=>(∃v,e=aQ v)/\
   ((∃ys,ys=gD s.size s 0/\J ys W')\/(∃pre,pre <+: gD s.size s 0/\Jx pre W')):=by
 refine callsIn_of_wp Tryz.func158 rfl trivial ?_ rfl;simp only[Tryz.ntmps158,List.size_toArray,bC,List.length_nil,Nat.reduceAdd,Nat.reduceSub,Array.replicate_succ,Array.replicate_zero,List.push_toArray,List.append_toArray,List.nil_append,cQ];gi_wp2;generalize ay:gD s.size s 0=xs at *;have HX:Hid (gD s.size s 0=xs):=ay;clear ay;gi_loopw [3,4] (λrest O wr=>∃(pre:List gF) (t:ByteArray) (p f:Nat),rest=aK t/\O=aO aR p/\Hid (pre++gD f t p=xs)/\t.size<=f/\p+t.size<=s.size/\J pre wr/\cX w0.heap.size w0 wr) (λrest _ _=>Bb rest)
 case atStart=>exact⟨[],s,0,s.size,rfl,rfl,HX,by omega,by omega,h0,hW⟩
 obtain⟨pre,t,p,f,rfl,rfl,hx,hf,hp,dn,M⟩:=hrel;by_cases ht:t.size=0
 .have he:t.toList.isEmpty=true:=by{rw[GB];simp[ht]};gi_wp2;go_end0;exact⟨⟨_,rfl⟩,aS ⟨pre,by rw[<-HX.o] at hx;rw[<-hx.o,Ea f t p ht];simp,dn⟩⟩
 have he:t.toList.isEmpty=false:=by rw[GB];simp[ht]
 have h1:0<t.size:=by omega
 obtain⟨g,rfl⟩:∃g,f=g+1:=⟨f-1,by omega⟩;have bn:dI t=cU t 0:=by unfold dI;rw[if_neg ht]
 have d5:=dB t 0 h1;have co:=oU t 0 h1;rw[bI] at co;have ey:=Utf8Tabs_below hT M;have dl:Cs 159 #[aK t] wr λe w'=>e=aQ (aN #[aO .i32 (cU t 0).1,aO aR (cU t 0).2])/\cX wr.heap.size wr w':=by rw[<-bn];exact Tryz.utf8_DecodeRuneInString t wr ey
 generalize hd:cU t 0=d at *;obtain⟨r,wd⟩:=d;have HD:Hid (cU t 0=(r,wd)):=hd;clear hd bn;simp only at d5 co dl;by_cases a9:qK (r:Int)=true
 .gi_wp2_with (first|(refine⟨trivial,?_⟩;gi_at_call 159;refine (dF.2 dl).mono ?_;rintro e w1 ⟨rfl,av⟩)|(refine⟨trivial,?_⟩;gi_at_call 160;refine (dF.2 (Gg _ _)).mono ?_;rintro e w' ⟨rfl,rfl⟩));go_roundw
  case rel=>refine⟨pre,t.extract wd t.size,p+1,g,rfl,by go_num,?_,by simp;omega,by simp;omega,hJ pre wr _ aY dn (qi av) (λr e=>by cases e),M.t (av.m M.s)⟩;have:=hx.o;unfold gD at this;rw[if_neg ht,HD.o,if_pos a9] at this;exact this
  simp[Bb];omega
 have Qko:qK (r:Int)=false:=by simpa using a9
 clear a9;have G:(t.extract 0 (gT t).2.1).size<=1200:=by simp;omega
 have dj:pre ++ ⟨(gT t).1,t.extract 0 (gT t).2.1,p,(gT t).2.2,G⟩::gD g (t.extract (gT t).2.1 t.size) (p+(gT t).2.2)=xs:=by have:=hx.o;unfold gD at this;rw[if_neg ht,HD.o,if_neg (by simp[Qko]),dif_pos G] at this;exact this
 have e6:=Mj t h1;have E:∀w1,cX wr.heap.size wr w1->Cs 161 #[aK t] w1 λe w'=>e=aQ (fY (gT t).1 (t.extract 0 (gT t).2.1) 0 (gT t).2.2)/\cX w1.heap.size w1 w':=by intro w1 hb;exact NY t w1 (by unfold dJ;omega) h1 (Utf8Tabs_below hT (M.t (hb.m M.s)))
 generalize hF:gT t=ft at *;obtain⟨C,z,A⟩:=ft;simp only at dj e6 E G;have d2:Hid (pre ++ ⟨C,t.extract 0 z,p,A,G⟩::gD g (t.extract z t.size) (p+A)=xs):=dj;clear dj hx HD hF;have HF:Hid (∀w1,cX wr.heap.size wr w1->Cs 161 #[aK t] w1 λe w'=>e=aQ (fY C (t.extract 0 z) 0 A)/\cX w1.heap.size w1 w'):=E;clear E;have HJ:Hid (AbidesFrom W.heap.size J):=hJ;have HY:=hY;clear hY hJ;gi_wp2_with (first|(refine⟨trivial,?_⟩;gi_at_call 159;refine (dF.2 dl).mono ?_;rintro e w1 ⟨rfl,av⟩)|(refine⟨trivial,?_⟩;gi_at_call 160;refine (dF.2 (Gg _ _)).mono ?_;rintro e w' ⟨rfl,rfl⟩));refine⟨trivial,?_⟩;refine (dF.2 (HF.o _ av)).mono ?_;rintro e w2 ⟨rfl,bc⟩;have d9:cX wr.heap.size wr w2:=av.t (bc.m av.s);have eb:=d9.l d9.s (aP #[aO aR C,aK (t.extract 0 z),aO aR p,aO aR A] 191);obtain⟨fn,tmps,assign,body,hy,hR⟩:=HY pre ⟨C,t.extract 0 z,p,A,G⟩ (w2.alloc (aP #[aO aR C,aK (t.extract 0 z),aO aR p,aO aR A] 191)) (HJ.o pre wr _ aY dn (qi eb) (λr e=>by cases e)) (by rw[<-d2.o];simp);dsimp only[gF.v] at hy;have fv:(t.extract 0 z).size=z:=by simp;omega
 unfold fY iH at hy ⊢;generalize hte:t.extract 0 z=te at *;gi_wp2;refine hR.mono ?_;rintro e W3 (⟨rfl,fe,bd,ef⟩|⟨rfl,dx⟩)
 .have ch:W3.heap[w2.heap.size]?=aX (aP #[aO aR C,aK te,aO aR p,aO aR A] 191):=ef _ _ _ (zn w2 _);have fi:aE W3 (Ad w2.heap.size 1)=aX (aK te):=zc ch;have fp:aE W3 (Ad w2.heap.size 3)=aX (aO aR A):=zc ch;have fl:(z:Int)<=(t.size:Int):=by{omega};clear ch ef hy hR;gi_wp2;gi_region;all_goals
   gi_wp2
   go_roundw
   case rel=>refine⟨pre++[⟨C,te,p,A,G⟩],t.extract z t.size,p+A,g,by simp,by go_num,?_,by simp;omega,by simp;omega,HJ.o _ _ _ aY fe (qi ((bJ _ W3).drew)) (λr e=>by cases e),((M.t (eb.m M.s)).t bd).drew⟩;have:=d2.o;show _=_;rw[<-this];simp
   case measure=>simp[Bb];omega
 gi_wp2;refine dD (results_none rfl _ _ _) rfl ?_;exact⟨⟨_,rfl⟩,aU ⟨pre++[⟨C,te,p,A,G⟩],⟨gD g (t.extract z t.size) (p+A),by rw[HX.o,<-d2.o];simp⟩,dx⟩⟩
def qP(n₀:Nat)(A B:Wq):Prop:=cX n₀ A B/\s9 A B
def qP.g{n₀:Nat}{B:Wq}(h:qP n₀ A B)(k:qP n₀ B C):qP n₀ A C:=⟨h.1.t k.1,h.2.trans k.2⟩
def qP.H{n₀:Nat}{w:Wq}(G:n₀<=w.heap.size)(W:Wq)(l:Nat)(o z:Obj)(E:w.heap.size<=l)(h:W.heap[l]?=aX o)(A:o.isCells=false)(C:o.isWalk=false):qP n₀ W (W.putObj l z):=
 ⟨belowK_b G W l o z E h A C,s9.H W l o z h A⟩
def G4(n:Nat)(hn:1<=n)(B:Nat)(s:ByteArray)(hs:s.size<=1200)(w0:Wq)(M:dL 0 1 w0)(w:Wq)(A:cX w0.heap.size w0 w)(E:B<w.heap.size)(hc:aE w (Ad B 0)=aX (St s)):SeqStopsK Fence.wide n dK 158 #[Pt B] (λx:gF=>#[x.v]) (qP w0.heap.size) (λys=>ys=gD s.size s 0) (λpre=>pre <+: gD s.size s 0) (aD (gD s.size s 0)) w:=
 λl J C W z G _ O h0=>JV n hn l B s hs w0 M J C W G O (A.t (z.m A.s)) ((z.cell (p:=⟨B,0,aY⟩) E).t hc) h0
structure RT where
 d:Int
 f:ByteArray
 b:Nat
 a:Nat
def kC:List Rn->ByteArray
 |[]=>⟨#[]⟩
 |x::l=>x.f++kC l
def fL:Nat->List Rn->Nat->List RT
 |0,_,_=>[]
 |f+1,[],_=>[]
 |f+1,r::l,i=>
  if r.d=1\/r.d=2 then ⟨r.d,r.f++kC (tw l),i,1+aD (tw l)⟩::fL f (l.drop (aD (tw l))) (i+(1+aD (tw l)))
  else if r.d=5 then ⟨((r.f.get! 0).toNat:Int),r.f,i,1⟩::fL f l (i+1)
  else if r.d=6/\(l.head?.map (·.d))=aX 7 then ⟨3,⟨#[]⟩,i,2⟩::fL f (l.drop 1) (i+2)
  else if r.d=4 then fL f l (i+1)
  else ⟨5,r.f,i,1⟩::fL f l (i+1)
def gZ(k:Int):Int:=
 if k=1 then 1 else if k=2 then 2 else if k=7 then 3 else if k=3 then 40 else if k=4 then 41 else if k=5 then 44 else if k=6 then 46 else 5
def Qu(t:gF):RT:=⟨gZ t.d,if t.d=7 then ⟨#[]⟩ else t.f,t.b,t.a⟩
def LA(s:ByteArray)(i j k:Nat)(z:i<=j)(A:j<=k)(C:k<=s.size):s.extract i j++s.extract j k=s.extract i k:=by simp_all
theorem Gy(s:ByteArray):∀(k i:Nat),k<=aD (R s i)->i<=s.size->kC ((R s i).take k)=s.extract i (i+gE ((R s i).take k))/\i+gE ((R s i).take k)<=s.size
 |0,i,_,z=>by refine⟨?_,by simpa [gE] using z⟩;simp only[List.take_zero,kC,gE,bT];apply cG;simp
 |k+1,i,h,el=>by
  by_cases z:i<s.size
  .have E:=oU s i z;have C:=qC s i z;rw[C] at h ⊢;rw[cI];have G:(s.extract i (i+(cU s i).2)).size=(cU s i).2:=by{simp;lia};have A:=Gy s k (i+(cU s i).2) (by simpa using h) E;simp only[gE,G,kC];rw[A.1,<-cH];exact⟨LA s _ _ _ (by lia) (by lia) A.2,A.2⟩
  .grind [qF]
theorem tL(l:List Rn):tw l=l.take (aD (tw l)):=by
 unfold tw;induction l with
 |nil=>rfl
 |cons x l ih=>rw[bH];split;{grind};{simp}
def zL(l:List Rn):aD (tw l)<=aD l:=by grind [tL]
theorem DB(r:Nat)(h:mE r=true):Qm r=1:=by grind [Qm]
theorem Ff(r:Nat)(h:lT r=true):Qm r=2:=by grind [lT,mE,Qm]
def O6(r:Nat)(h:qK r=true):Qm r=4:=by grind [qK,Qm,mE,lT,qJ]
def GE(s:ByteArray)(h:0<s.size)(O:Qm (cU s 0).1<=3):(fX s s.size 0 0).2=1+aD (tw (R s (cU s 0).2))/\
  s.extract 0 (fX s s.size 0 0).1=s.extract 0 (cU s 0).2++kC (tw (R s (cU s 0).2))/\
  R (s.extract (fX s s.size 0 0).1 s.size) 0=(R s (cU s 0).2).drop (aD (tw (R s (cU s 0).2))):=by
 have E:=qC s 0 h;rw[bI] at E;have z:=oU s 0 h;rw[bI] at z;have G:tw (R s 0)=⟨Qm (cU s 0).1,s.extract 0 (cU s 0).2⟩::tw (R s (cU s 0).2):=by simp_all [tw]
 have M:(s.extract 0 (cU s 0).2).size=(cU s 0).2:=by simp;lia
 have hs:=Cr s s.size 0 0 (by lia);rw[G] at hs;simp only[gE,M,bC,bI] at hs;have C:=Gy s (aD (tw (R s (cU s 0).2))) (cU s 0).2 (zL _) z;rw[<-tL] at C;have A:=FQ s (aD (tw (R s (cU s 0).2))) (cU s 0).2 (zL _);rw[<-tL] at A;rw[hs];refine⟨by simp only;lia,?_,?_⟩
 .simp_all
 rwa[zj]
def Nn(s:ByteArray)(n:Nat)(h:s.size<=1200):(s.extract 0 n).size<=1200:=by simp;lia
def Ef(s:ByteArray)(h:0<s.size)(M:Qm (cU s 0).1<=3):0<(fX s s.size 0 0).1:=by
 have z:=qC s 0 h;rw[bI] at z;have G:=tE s 0;have E:=oU s 0 h;have hs:=Cr s s.size 0 0 (by lia);have A:tw (R s 0)=⟨Qm (cU s 0).1,s.extract 0 (cU s 0).2⟩::tw (R s (cU s 0).2):=by simp_all [tw]
 have C:(s.extract 0 (cU s 0).2).size=(cU s 0).2:=by simp;lia
 rw[A] at hs;simp only[gE,C] at hs;rw[hs];simp only;lia
def IR(s:ByteArray)(h:dA s.data.toList [58,45]=true):(cU s 0).2=1/\(cU s 1).2=1/\Qm (cU s 0).1=6/\Qm (cU s 1).1=7/\2<=s.size/\True:=by
 have G:[58,45] <+: s.data.toList:=by simpa [dA] using h
 have⟨t,ht⟩:=G;have O:aD s.data.toList=s.size:=cJ;have M:2<=s.size:=by grind
 have C:fE s 0=58:=by have:s.data.toList[0]?=aX 58:=by{rw[<-ht];rfl};rw[bE] at this;simp[fE,bL,getElem!_def,this]
 have E:fE s 1=45:=by have:s.data.toList[1]?=aX 45:=by{rw[<-ht];rfl};rw[bE] at this;simp[fE,bL,getElem!_def,this]
 have z:=xZ s 0;have A:=xZ s 1;rw[C,if_pos (by lia)] at z;rw[E,if_pos (by lia)] at A;rw[z,A];exact⟨rfl,rfl,by decide,by decide,M,trivial⟩
theorem K0(s:ByteArray)(i:Nat)(h:gO s i=2):194<=fE s i/\fE s i<=223:=by grind [gO]
theorem Eq(s:ByteArray)(i:Nat)(h:(cU s i).1<128):fE s i=(cU s i).1/\(cU s i).2=1:=by grind [xZ,fE,gO,K0,DS,Em]
theorem NE(r:Nat)(h:Qm r=7):r=45:=by grind [Qm]
theorem Mq(s:ByteArray)(h0:fE s 0=58)(C:fE s 1=45)(E:1<s.size):dA s.data.toList [58,45]=true:=by
 have G:aD s.data.toList=s.size:=cJ;have z:s.data.toList[0]?=aX 58:=by rw[bE];have e:s.data[0]?=aX (s.data[0]'(by grind)):=by{simp};rw[e];have:fE s 0=(s.data[0]'(by grind)).toNat:=by{simp[fE,bL,getElem!_def,e]};rw[h0] at this;congr 1;exact UInt8.toNat.inj (by grind)
 have A:s.data.toList[1]?=aX 45:=by rw[bE];have e:s.data[1]?=aX (s.data[1]'(by grind)):=by{simp};rw[e];have:fE s 1=(s.data[1]'(by grind)).toNat:=by{simp[fE,bL,getElem!_def,e]};rw[C] at this;congr 1;exact UInt8.toNat.inj (by grind)
 generalize s.data.toList=l at *;cases l with
 |nil=>simp at z
 |cons a l=>
  cases l with
  |nil=>simp at A
  |cons b l=>simp at z A;subst z A;simp[dA]
theorem LO(s:ByteArray)(n:Nat)(h:0<n)(z:0<s.size):((s.extract 0 n).get! 0).toNat=fE s 0:=by
 unfold fE;have:(s.extract 0 n).data[0]?=s.data[0]?:=by rw[cD,Array.getElem?_extract];have A:s.data.size=s.size:=rfl;rw[if_pos (by grind)]
 simp only[bL,getElem!_def];rw[this]
theorem uH:∀(f:Nat) (s:ByteArray) (p:Nat),s.size<=f->s.size<=1200->(gD f s p).map Qu=fL f (R s 0) p
 |0,s,p,h,_=>rfl
 |f+1,s,p,h,hb=>by
  by_cases h0:s.size=0;{rw[Ea _ _ _ h0,qF s 0 (by lia)];rfl};have hp:=tE s 0;have M:=qC s 0 (by lia);rw[bI] at M;have cu:=oU s 0 (by lia);have az:∀n,(s.extract n s.size).size=s.size-n:=λn=>by{simp};rw[M]
  conv=>lhs;unfold gD
  rw[if_neg h0];by_cases E:qK (cU s 0).1=true
  .rw[if_pos E,uH f _ _ (by grind) (by grind),zj]
   conv=>rhs;unfold fL
   simp only[O6 _ E];simp
  rw[if_neg E,dif_pos (Nn s _ hb)];have A:lT (cU s 0).1=true\/mE (cU s 0).1=true->Qm (cU s 0).1<=3:=by{grind [Ff,DB]};by_cases af:lT (cU s 0).1=true
  .have⟨w1,w2,w3⟩:=GE s (by lia) (A (aS af));have w0:=Ef s (by lia) (A (aS af));have z:gT s=(2,(fX s s.size 0 0).1,(fX s s.size 0 0).2):=by{grind [gT]};rw[bZ,z];simp only;rw[uH f _ _ (by grind) (by grind),w3]
   conv=>rhs;unfold fL
   simp only[Ff _ af];simp[Qu,gZ,w1,w2]
  by_cases C:mE (cU s 0).1=true
  .have⟨w1,w2,w3⟩:=GE s (by lia) (A (aU C));have w0:=Ef s (by lia) (A (aU C));have z:gT s=(1,(fX s s.size 0 0).1,(fX s s.size 0 0).2):=by{grind [gT]};rw[bZ,z];simp only;rw[uH f _ _ (by grind) (by grind),w3]
   conv=>rhs;unfold fL
   simp only[DB _ C];simp[Qu,gZ,w1,w2]
  by_cases be:dA s.data.toList [58,45]=true
  .have⟨q1,q2,q3,q4,q5,q6⟩:=IR s be;have z:gT s=(7,2,2):=by{grind [gT]};rw[bZ,z];simp only;rw[uH f _ _ (by grind) (by grind),zj,q1];have b4:=qC s 1 (by lia);rw[b4,q2]
   conv=>rhs;unfold fL
   simp only[q3,q4];simp[Qu,gZ]
  have z:gT s=(sD (cU s 0).1,(cU s 0).2,1):=by{grind [gT]};rw[bZ,z];simp only;rw[uH f _ _ (by grind) (by grind),zj];have ez:Qm (cU s 0).1=6->¬((R s (cU s 0).2).head?.map (·.d))=aX 7:=by{grind [Qm,Eq,qC,NE,Mq,qF]};have es:(cU s 0).1<128->((s.extract 0 (cU s 0).2).get! 0).toNat=(cU s 0).1:=by grind [LO,Eq]
  conv=>rhs;unfold fL
  generalize (cU s 0).2=wd at *;generalize (cU s 0).1=r at *;have b5:lT r=false:=by{grind};have cv:mE r=false:=by{grind};have Qko:qK r=false:=by{grind};have hk:Qm r=if qJ r=true then 3 else if r=40\/r=41\/r=44\/r=46 then 5 else if r=58 then 6 else if r=45 then 7 else 8:=by{grind [Qm]};by_cases h5:r=40\/r=41\/r=44\/r=46
  .have hd:qJ r=false:=by{unfold qJ;simp only[decide_eq_false_iff_not];lia};have G:Qm r=5:=by grind
   simp only[G];have hg:=es (by lia);obtain rfl|rfl|rfl|rfl:=h5<;>simp[Qu,gZ,sD,hg]
  .have eo:sD r=0:=by{unfold sD;rw[if_neg (by lia),if_neg (by lia),if_neg (by lia),if_neg (by lia)]};have G:Qm r≠1/\Qm r≠2/\Qm r≠5/\Qm r≠4:=by{grind};have et:¬(Qm r=6/\((R s wd).head?.map (·.d))=aX 7):=λO=>ez O.1 O.2;simp only;rw[if_neg (by lia),if_neg (by lia),if_neg et,if_neg (by lia),eo];simp[Qu,gZ]
theorem D1(f:α->List Vq)(k:Nat)(A:∀x,aD (f x)=k):∀(l:List α) (j o:Nat) (z:j<aD l),o<k->(l.flatMap f)[j*k+o]?=(f l[j])[o]?
 |[],j,o,z,_=>by simp at z
 |x::l,0,o,z,ho=>by grind
 |x::l,j+1,o,z,ho=>by
  have C:j<aD l:=by{simpa using z};have e:(j+1)*k+o=k+(j*k+o):=by{grind};rw[cO,List.getElem?_append_right (by rw[A,e];lia),A,e,bB];simpa using D1 f k A l j o C ho
theorem CA(f:α->List Vq)(k:Nat)(z:∀x,aD (f x)=k)(l:List α):aD (l.flatMap f)=aD l*k:=by
 induction l with
 |nil=>simp
 |cons x l ih=>rw[cO,cL,z,ih,bC,Nat.succ_mul];lia
def qd{n:Nat}{v:Vq}(h:aH W B T k v n xs):∃a c,v=aJ a n c:=by
 obtain⟨_,⟨A,E⟩|⟨g,z,C,A,_⟩⟩:=h
 .grind
 grind
theorem lH{v:Vq}{α:Type}{f:α->List Vq}{l:List α}(h:aH W B T k v (aD l) (l.flatMap f))(hk:∀x,aD (f x)=k)(fh:0<aD l):∃g z,v=Sc g (aD l) z/\B<=g/\g<W.heap.size/\aD l<=z/\∀(j o:Nat) (hj:j<aD l) (u:Vq),o<k->(f l[j])[o]?=aX u->aE W (Ad g (j*k+o))=aX u:=by
 obtain⟨_,⟨C,hn⟩|⟨g,z,M,C,hb,E,O,h2,h3,h4⟩⟩:=h
 .omega
 refine⟨g,z,C,hb,(zg E).1,O,λj o hj u ho hu=>?_⟩;have A:(M.toList.take (aD l*k))[j*k+o]?=aX u:=by{grind [D1]};have G:j*k+o<aD l*k:=by{grind};rw[List.getElem?_take,if_pos G] at A;simp only[aE,E];simpa using A
def qm{n:Nat}{v:Vq}(h:aH W B T k v n xs)(hk:∀g,aI v=aX g->g<W.heap.size->W'.heap[g]?=W.heap[g]?):aH W' B T k v n xs:=by
 obtain⟨h0,⟨z,hn⟩|⟨g,A,E,z,hb,C,G,M,O,h4⟩⟩:=h
 .exact⟨h0,aS ⟨z,hn⟩⟩
 exact⟨h0,aU ⟨g,A,E,z,hb,(hk g (by rw[z];rfl) (zg C).1).t C,G,M,O,h4⟩⟩
def qh{n:Nat}{v:Vq}(h:aH W B T k v n xs)(z:cX W.heap.size W W'):aH W' B T k v n xs:=qm h (λg _ A=>z.b g A)
def qz{B' n:Nat}{v:Vq}(h:aH W B T k v n xs)(M:B'<=B):aH W B' T k v n xs:=by
 obtain⟨h0,⟨A,E⟩|⟨g,z,C,A,O,G⟩⟩:=h
 .exact⟨h0,aS ⟨A,E⟩⟩
 exact⟨h0,aU ⟨g,z,C,A,by lia,G⟩⟩
theorem vK(w:Wq)(x y z u:Vq)(t:TypeId):∀j q,[x,y,z,u][j]?=aX q->aE (w.alloc (aP #[x,y,z,u] t)) ((⟨w.heap.size,0,aY⟩:Addr).add j)=aX q:=by
 intro j q A;match j,A with
 |0,A=>simp at A;subst A;simp[dH]
 |1,A=>simp at A;subst A;simp[dH]
 |2,A=>simp at A;subst A;simp[dH]
 |3,A=>simp at A;subst A;simp[dH]
 |j+4,A=>simp at A
theorem Od(l:List Rn):∀m,m<=aD (tw l)->∀z:m<aD l,l[m].d<=3->m+1<=aD (tw l):=by
 induction l with
 |nil=>intro m _ z;simp at z
 |cons x l ih=>grind [tw,bH,bC]
theorem MW(l:List Rn):∀m,m<=aD (tw l)->(∀A:m<aD l,¬l[m].d<=3)->m=aD (tw l):=by
 induction l with
 |nil=>intro m h _;simpa [tw] using h
 |cons x l ih=>
  intro m h z;cases m with
  |zero=>simp_all [tw]
  |succ m=>unfold tw at h ⊢;rw[bH] at h ⊢;split at h;{simp_all [tw]};{simp at h}
theorem DI(l:List Rn)(x:Rn):kC (l++[x])=kC l++x.f:=by
 induction l with
 |nil=>show x.f++bU=bU++x.f;simp
 |cons y l ih=>simp only[cQ,kC,ih,bO]
theorem uC:∀(f g:Nat) (l:List Rn) (i:Nat),aD l<=f->aD l<=g->fL f l i=fL g l i
 |0,g,[],i,_,_=>by cases g<;>rfl
 |0,g,r::l,i,h,_=>by simp at h
 |f+1,0,[],i,_,_=>rfl
 |f+1,0,r::l,i,_,h=>by simp at h
 |f+1,g+1,[],i,_,_=>rfl
 |f+1,g+1,r::l,i,h,h'=>by simp only[bC] at h h';unfold fL;rw[uC f g (l.drop (aD (tw l))) _ (by simp;lia) (by simp;lia),uC f g l _ (by lia) (by lia),uC f g (l.drop 1) _ (by simp;lia) (by simp;lia)]
theorem zb(s:ByteArray):∀(f i:Nat),s.size<=i+f->∀r∈R s i,1<=r.f.size/\r.f.size<=4
 |0,i,h,r,z=>by grind [qF]
 |f+1,i,h,r,z=>by
  by_cases A:i<s.size
  .have M:=oU s i A;have G:=tE s i;have E:(cU s i).2<=4:=by grind [wX,gO]
   rw[qC s i A] at z;obtain rfl|z:=List.mem_cons.1 z
   .have C:(s.extract i (i+(cU s i).2)).size=(cU s i).2:=by{simp;lia};simp only;rw[C];lia
   .exact zb s f _ (by lia) r z
  .grind [qF]
def Hn(c:Nat)(w:Wq):Cs 173 #[aO .u8 c] w λe w'=>e=aQ (Ii (vC c))/\w'=w:=by
 go_enter Tryz.func173,Tryz.ntmps173;go_wp2;all_goals
  go_ret;exact⟨sR (by unfold vC;(repeat' split)<;>first|rfl|(exfalso;omega)|(simp at *;done)|(exfalso;simp at *;omega)),rfl⟩
def vH(s:ByteArray)(i:Nat)(h:i<s.size):s[i].toNat=fE s i:=by unfold fE;congr 1;have z:i<s.data.size:=h;show s.data[i]=s.data[i]!;rw[getElem!_pos s.data i z]
def Cn(s:ByteArray)(i lo z:Nat)(w:Wq)(hs:s.size<=1048576)(C:i<=1048576+10):Cs 220 #[St s,Ii i,aO .u8 lo,aO .u8 z] w λe w'=>e=aQ (aM (kI s i lo z))/\w'=w:=by
 by_cases A:i<s.size
 .have E:=vH s i A;go_enter Tryz.func220,Tryz.ntmps220;go_wp2;all_goals
   go_ret;exact⟨kU (by rw[dC];simp only[kI,decide_eq_true_eq];(try simp)<;>omega),rfl⟩
 go_enter Tryz.func220,Tryz.ntmps220;go_wp2;go_ret;exact⟨kU (by rw[dC];simp only[kI,decide_eq_true_eq];(try simp)<;>omega),rfl⟩
def Li(a b:Nat)(z:a<256)(A:b<256)(w:Wq):Cs 174 #[aO .u8 a,aO .u8 b] w λe w'=>e=aQ (Ii (we a b))/\w'=w:=by
 go_enter Tryz.func174,Tryz.ntmps174;go_wp2;all_goals
  go_ret;exact⟨sR (by unfold we;(repeat' split)<;>first|rfl|(exfalso;omega)|(simp at *;done)|(exfalso;simp at *;omega)),rfl⟩
def BU(c:Nat)(a b d:Bool):Nat:=
 if 194<=c/\c<=223/\a=true then 2 else if 224<=c/\c<=239/\a=true/\b=true then 3
 else if 240<=c/\c<=244/\a=true/\b=true/\d=true then 4 else 1
def N3(s:ByteArray)(i:Nat)(w:Wq)(hs:s.size<=1048576)(hi:i<s.size):Cs 172 #[St s,Ii i] w λe w'=>e=aQ (Ii (gO s i))/\w'=w:=by
 have hb:=vH s i hi;have C:gO s i=BU (fE s i) (kI s (i+1) (lP (fE s i)) (lQ (fE s i))) (kI s (i+2) 128 191) (kI s (i+3) 128 191):=rfl;have z:Cs 220 #[St s,Ii ((i:Int)+1),aO .u8 (lP (fE s i)),aO .u8 (lQ (fE s i))] w λe w'=>e=aQ (aM (kI s (i+1) (lP (fE s i)) (lQ (fE s i))))/\w'=w:=Cn s (i+1) _ _ w hs (by omega);have E:Cs 220 #[St s,Ii ((i:Int)+2),aO .u8 128,aO .u8 191] w λe w'=>e=aQ (aM (kI s (i+2) 128 191))/\w'=w:=Cn s (i+2) _ _ w hs (by omega);have G:Cs 220 #[St s,Ii ((i:Int)+3),aO .u8 128,aO .u8 191] w λe w'=>e=aQ (aM (kI s (i+3) 128 191))/\w'=w:=Cn s (i+3) _ _ w hs (by omega);rw[C];clear C;generalize kI s (i+1) (lP (fE s i)) (lQ (fE s i))=A at *;generalize kI s (i+2) 128 191=B at *;generalize kI s (i+3) 128 191=D at *;have hc:fE s i=224\/fE s i=237\/fE s i=240\/fE s i=244\/(fE s i≠224/\fE s i≠237/\fE s i≠240/\fE s i≠244):=by omega
 generalize fE s i=c at *;obtain rfl|rfl|rfl|rfl|⟨M,O,n3,n4⟩:=hc
 case inr.inr.inr.inr=>
  have l1:lP c=128:=by{unfold lP;simp[M,n3]};have l2:lQ c=191:=by{unfold lQ;simp[O,n4]};rw[l1,l2] at z;have m1:((c:Int) == 224)=false:=by{simp;omega};have m2:((c:Int) == 237)=false:=by{simp;omega};have m3:((c:Int) == 240)=false:=by{simp;omega};have m4:((c:Int) == 244)=false:=by{simp;omega};clear M O n3 n4;go_enter Tryz.func172,Tryz.ntmps172;go_wp2_with fail;refine z.m ?_;rintro e w' ⟨rfl,rfl⟩;go_wp2_with fail;refine E.m ?_;rintro e w' ⟨rfl,rfl⟩;go_wp2_with fail;refine G.m ?_;rintro e w' ⟨rfl,rfl⟩;go_wp2;all_goals
   go_ret;exact⟨sR (by unfold BU;(repeat' split)<;>first|rfl|(exfalso;simp_all;done)|(exfalso;simp_all;omega)),rfl⟩
 all_goals
  simp only[lP,lQ] at z;go_enter Tryz.func172,Tryz.ntmps172;go_wp2_with fail;refine z.m ?_;rintro e w' ⟨rfl,rfl⟩;go_wp2_with fail;refine E.m ?_;rintro e w' ⟨rfl,rfl⟩;go_wp2_with fail;refine G.m ?_;rintro e w' ⟨rfl,rfl⟩;go_wp2
  all_goals
   go_ret;exact⟨sR (by unfold BU;(repeat' split)<;>first|rfl|(exfalso;simp_all;done)|(exfalso;simp_all;omega)),rfl⟩
def qx{a w:Wq}(h:cX B a w){q:Nat}:cX B a (w.drewN q):=⟨h.os,h.tape,h.output,h.s,h.b⟩
def tA(r:Rn):List Vq:=[aO aR r.d,aK r.f]
def Tryz.q:(Tryz.prog.info? 295).map (λi=>(i.zero,i.size,i.bytes))=aX (aX (aL #[Ii 0,St ⟨#[]⟩]),2,24):=by kernel_rfl
theorem rx(w:Wq)(x y:Vq)(t:TypeId):∀j u,[x,y][j]?=aX u->aE (w.alloc (aP #[x,y] t)) ((⟨w.heap.size,0,aY⟩:Addr).add j)=aX u:=by
 intro j u z;match j,z with
 |0,z=>simp at z;subst z;simp[dH]
 |1,z=>simp at z;subst z;simp[dH]
 |j+2,z=>simp at z
def MI{w:Wq}{v:Vq}{pre:List Rn}{t:ByteArray}(C:cX B w X)(A:B<=X.heap.size)(M:aH wr B 295 2 v (aD pre) (pre.flatMap tA))(z:aH w1 B 295 2 v' (aD pre+1) (pre.flatMap tA++[Ii k,St t]))(E:X.grownBy w1 (aI v)):aH w1 B 295 2 v' (aD (pre++[Rn.mk k t])) ((pre++[Rn.mk k t]).flatMap tA)/\cX B w w1:=by refine⟨?_,C.grown E A (λk G=>(M.lt k G).1)⟩;simpa [tA] using z
theorem AA(s:ByteArray)(w:Wq)(hs:s.size<=1048576):Cs 106 #[aK s] w λe w'=>∃v,e=aQ v/\aH w' w.heap.size 295 2 v (aD (R s 0)) ((R s 0).flatMap tA)/\cX w.heap.size w w':=by
 obtain⟨i0,hi,aw,an,ao⟩:=info_parts Tryz.q;obtain⟨B,hB⟩:=aB w.heap.size;have dr:B<=w.heap.size:=by omega
 rw[<-hB];clear hB;go_enter Tryz.func106,Tryz.ntmps106;go_wp2;go_loopw [3,4] (λv a wr=>∃(i:Nat) (pre:List Rn) (v1:Vq),v1=v/\a=aO aR i/\i<=s.size/\pre++R s i=R s 0/\aD pre<=i/\aH wr B 295 2 v1 (aD pre) (pre.flatMap tA)/\cX B w wr) (λ_ a _=>s.size-(intOf a).toNat)
 case atStart=>exact⟨0,[],_,rfl,rfl,zz,rfl,bX _,zo,zr⟩
 obtain⟨i,pre,v,rfl,rfl,ea,O,fs,z,bu⟩:=hrel;by_cases M:i<s.size
 .have b7:=FB s i;have d7:=wX s i;have co:=oU s i M;have d5:=tE s i;have de:=qC s i M;have hb:=vH s i M;rw[d7] at co d5 de;rw[<-b7] at de;clear d7 b7;have az:=N3 s i wr hs M;have HC:Hid (R s i=⟨nW s i,s.extract i (i+gO s i)⟩::R s (i+gO s i)):=de;clear de;have dc:Hid (gO s i=1->nW s i=vC (fE s i)):=λh=>by{unfold nW;rw[if_pos h]};have bb:Hid (gO s i=2->nW s i=we (fE s i) (fE s (i+1))):=λh=>by{unfold nW;rw[if_neg (by omega),if_pos h]};have bd:Hid (gO s i≠1->gO s i≠2->nW s i=8):=λh h'=>by{unfold nW;rw[if_neg h,if_neg h']};have C:Hid (∀(v':Vq) (w1:Wq) (kd:Nat) (X:Wq),kd=nW s i->cX B w X->B<=X.heap.size->aH w1 B 295 2 v' (aD pre+1) (pre.flatMap tA++[aO aR kd,aK (s.extract i (i+gO s i))])->X.grownBy w1 (aI v)->
    ∃ai:List Rn,ai++R s (i+gO s i)=R s 0/\aD ai<=i+gO s i/\aH w1 B 295 2 v' (aD ai) (ai.flatMap tA)/\cX B w w1):=by
   intro v' w1 kd X b7 fa dy ho hg;subst b7;obtain⟨a1,a2⟩:=MI fa dy z ho hg;exact⟨pre++[⟨nW s i,s.extract i (i+gO s i)⟩],by rw[<-O,HC.o];simp,by simp;omega,a1,a2⟩
  clear HC O;have bk:B<=wr.heap.size:=cM dr bu.s;have G:Hid (cX B w wr):=bu;clear bu;generalize gO s i=n at *;generalize nW s i=kd at *;have aq:aD pre+1<=maxLen:=by{unfold dJ;omega};have ap:(aD pre+1)*24<=140737488355328:=by{omega};have E:∀o,B<=(wr.alloc o).heap.size:=λo=>by{simp;omega};have au:∀(k:Nat) (t:ByteArray),∀u∈[aO aR k,aK t],u.oneCell'=true:=λk t=>by{simp[cE]};by_cases h1:n=1
  .subst h1;have cz:=dc.o rfl;subst cz;clear dc bb bd;have ek:=Hn (fE s i) wr;generalize vC (fE s i)=kd at *;go_wp2_with (first
    |(go_at_call 172;refine az.m ?_;rintro e w' ⟨rfl,A⟩;obtain rfl:wr=w':=A.s)
    |(go_at_call 173;refine ek.m ?_;rintro e w' ⟨rfl,A⟩;obtain rfl:wr=w':=A.s)
    |(at_builtin;refine cW _ rfl (.tmp 30) (.tmp 39) 207 rfl B 295 i0 (aL #[aO aR 0,aK ⟨#[]⟩]) 2 24 dG hi aw an ao rfl (by decide) _ _ _ rfl (z.l _) ⟨wr.heap.size,0,aY⟩ 1 1 [aO aR kd,aK (s.extract i (i+1))] rfl rfl (rx _ _ _ _) (au _ _) aq ap (E _) ?_;intro v' w1 ab aa _))
   obtain⟨ai,q1,q2,q3,q4⟩:=C.o v' w1 kd _ rfl (G.o.l bk _) (E _) ab aa;clear ab aa C z G;go_roundw
   case rel=>exact⟨i+1,ai,v',rfl,by go_num,by omega,q1,q2,q3,q4⟩
   simp[intOf];omega
  by_cases h2:n=2
  .subst h2;have cz:=bb.o rfl;subst cz;clear dc bb bd h1;have bc:=vH s (i+1) (by omega);have fc:=Li (fE s i) (fE s (i+1)) (sX _ _) (sX _ _);generalize we (fE s i) (fE s (i+1))=kd at *;go_wp2_with (first
    |(go_at_call 172;refine az.m ?_;rintro e w' ⟨rfl,A⟩;obtain rfl:wr=w':=A.s))
   go_quiet ((go_at_call 174;exact Calls.quiet_of_same (fc _)));go_wp2_with (first
    |(at_builtin;refine cW _ rfl (.tmp 30) (.tmp 39) 207 rfl B 295 i0 (aL #[aO aR 0,aK ⟨#[]⟩]) 2 24 dG hi aw an ao rfl (by decide) _ _ _ rfl (aH.l z _) ⟨wr.heap.size,0,aY⟩ 1 1 [aO aR kd,aK (s.extract i (i+2))] rfl rfl (rx _ _ _ _) (au _ _) aq ap (E _) ?_;intro v' w1 ab aa _))
   obtain⟨ai,q1,q2,q3,q4⟩:=C.o v' w1 kd _ rfl ((qx G.o).l bk _) (E _) ab aa;clear ab aa C z G;go_roundw
   case rel=>exact⟨i+2,ai,v',rfl,by go_num,by omega,q1,q2,q3,q4⟩
   simp[intOf];omega
  have cz:=bd.o h1 h2;subst cz;clear dc bb bd;have m1:((n:Int) == 1)=false:=by{simp;omega};have m2:((n:Int) == 2)=false:=by{simp;omega};go_wp2_with (first
   |(go_at_call 172;refine az.m ?_;rintro e w' ⟨rfl,A⟩;obtain rfl:wr=w':=A.s)
   |(at_builtin;refine cW _ rfl (.tmp 30) (.tmp 39) 207 rfl B 295 i0 (aL #[aO aR 0,aK ⟨#[]⟩]) 2 24 dG hi aw an ao rfl (by decide) _ _ _ rfl (z.l _) ⟨wr.heap.size,0,aY⟩ 1 1 [aO aR ((8:Nat):Int),aK (s.extract i (i+n))] rfl rfl (rx _ _ _ _) (au _ _) aq ap (E _) ?_;intro v' w1 ab aa _))
  obtain⟨ai,q1,q2,q3,q4⟩:=C.o v' w1 8 _ rfl (G.o.l bk _) (E _) ab aa;clear ab aa C z G;go_roundw
  case rel=>exact⟨i+n,ai,v',rfl,by go_num,by omega,q1,q2,q3,q4⟩
  simp[intOf];omega
 rw[qF s i M] at O;simp only[cR] at O;subst O;go_wp2;go_ret;exact⟨v,rfl,z,bu⟩
def rU(t:RT):List Vq:=[aO aR t.d,aK t.f,aO aR t.b,aO aR t.a]
def Kq(t:RT):aD (rU t)=4:=rfl
def NI(t:Rn):aD (tA t)=2:=rfl
def Tryz.r:(Tryz.prog.info? 244).map (λi=>(i.zero,i.size,i.bytes))=aX (aX (aL #[Ii 0,St ⟨#[]⟩,Ii 0,Ii 0]),4,40):=by kernel_rfl
def Q7(s:ByteArray):List RT:=fL (aD (R s 0)) (R s 0) 0++[⟨4,⟨#[]⟩,aD (R s 0),0⟩]
def sU(w:Wq)(a:Addr):Nat:=match (aE w) a with|some (aO _ n)=>n.toNat|_=>0
def FP{A:Wq}{N r:Nat}{k a:Vq}{ae:ByteArray}(E:wr.heap[N]?=cC #[k,St ae,a,Ii r] T)(C:cX N A wr)(hs:wr.heap.size=N+1)(t:ByteArray):((wr.setCell (Ad N 1) (St t)).setCell (Ad N 3) (Ii ((r:Int)+1))).drew.heap[N]?=cC #[k,St t,a,Ii (r+1:Nat)] T/\
  cX N A ((wr.setCell (Ad N 1) (St t)).setCell (Ad N 3) (Ii ((r:Int)+1))).drew/\
  ((wr.setCell (Ad N 1) (St t)).setCell (Ad N 3) (Ii ((r:Int)+1))).drew.heap.size=N+1/\
  sU ((wr.setCell (Ad N 1) (St t)).setCell (Ad N 3) (Ii ((r:Int)+1))).drew ⟨N,3,aY⟩=r+1:=by
 have z:((wr.setCell (Ad N 1) (St t)).setCell (Ad N 3) (Ii ((r:Int)+1))).heap[N]?=cC #[k,St t,a,Ii (r+1:Nat)] T:=by simp[aW,Array.getElem?_modify,E]
 refine⟨z,((C.c zl _).c zl _).drew,?_,?_⟩
 .simp_all
 show sU ((wr.setCell (Ad N 1) (St t)).setCell (Ad N 3) (Ii ((r:Int)+1))) ⟨N,3,aY⟩=r+1;simp[sU,aE,z]
def D3(L:List Rn)(i r:Nat)(A:1<=r)(z:i+r<aD L):∃h:r-1<aD (L.drop (i+1)),(L.drop (i+1))[r-1]=L[i+r]:=by grind
structure uM(L:List Rn)(B:Nat)(W0 wr:Wq)(v:Vq)(i:Nat)(ad:List RT):Prop where
 d:i<=aD L
 b:ad++fL (aD L) (L.drop i) i=fL (aD L) L 0
 I:aD ad<=i
 z:aH wr B 244 4 v (aD ad) (ad.flatMap rU)
 f:cX B W0 wr
def uM.c{L:List Rn}{A:Wq}{v:Vq}{z:List RT}(h:uM L B W0 wr v i z)(E:i<aD L)(M:L[i].d=4)(C:cX wr.heap.size wr A)(G:B<=wr.heap.size):uM L B W0 A v (i+1) z:=by
 refine⟨E,?_,by have:=h.I;lia,qh h.z C,h.f.t (C.m G)⟩;rw[<-h.b];have e:=cA E;congr 1;obtain⟨n,O⟩:∃n,aD L=n+1:=⟨aD L-1,by lia⟩;rw[O,e];conv=>rhs;unfold fL
 rw[if_neg (by lia),if_neg (by lia),if_neg (by lia),if_pos M];exact uC _ _ _ _ (by simp;lia) (by simp;lia)
def uM.a{L:List Rn}{v:Vq}{d:Nat}{z:List RT}(h:uM L B W0 wr v i z)(t:RT)(hd:1<=d)(G:i+d<=aD L)(hs:fL (aD L) (L.drop i) i=t::fL (aD L-1) (L.drop (i+d)) (i+d))(C:cX B W0 X)(A:B<=X.heap.size)(O:aH w1 B 244 4 v' (aD z+1) (z.flatMap rU++rU t))(E:X.grownBy w1 (aI v)):uM L B W0 w1 v' (i+d) (z++[t]):=by refine⟨G,?_,by have:=h.I;simp only[cL,List.length_singleton];lia,by simpa using O,C.grown E A (λk M=>(h.z.lt k M).1)⟩;rw[<-h.b,hs,List.append_assoc];congr 1;simp only[List.singleton_append,List.cons.injEq,true_and];exact uC _ _ _ _ (by rw[bF];lia) (by rw[bF];lia)
theorem yK(L:List Rn)(i:Nat)(z:i<aD L):fL (aD L) (L.drop i) i=fL (aD L-1+1) (L[i]::L.drop (i+1)) i:=by grind [cA]
theorem F2(L:List Rn)(i:Nat):((L.drop i).head?.map (·.d))=aX 7↔∃h:i<aD L,L[i].d=7:=by
 rw[List.head?_drop];by_cases h:i<aD L
 .grind
 grind
def Ij(L:List Rn)(i:Nat)(z:i<aD L)(A:L[i].d=5):fL (aD L) (L.drop i) i=⟨(fE L[i].f 0:Int),L[i].f,i,1⟩::fL (aD L-1) (L.drop (i+1)) (i+1):=by
 rw[yK L i z];conv=>lhs;unfold fL
 rw[if_neg (by lia),if_pos A];rfl
def Nr(L:List Rn)(i:Nat)(z:i<aD L)(A:L[i].d=6)(h:∃h:i+1<aD L,L[i+1].d=7):fL (aD L) (L.drop i) i=⟨3,⟨#[]⟩,i,2⟩::fL (aD L-1) (L.drop (i+2)) (i+2):=by grind [yK,fL,F2,cS]
def K9(L:List Rn)(i:Nat)(M:i<aD L)(z:L[i].d≠1)(A:L[i].d≠2)(C:L[i].d≠4)(E:L[i].d≠5)(G:L[i].d=6->∀h:i+1<aD L,L[i+1].d≠7):fL (aD L) (L.drop i) i=⟨5,L[i].f,i,1⟩::fL (aD L-1) (L.drop (i+1)) (i+1):=by grind [yK,fL,F2]
def MP(L:List Rn)(i:Nat)(z:i<aD L)(A:L[i].d=1\/L[i].d=2):fL (aD L) (L.drop i) i=⟨L[i].d,L[i].f++kC (tw (L.drop (i+1))),i,1+aD (tw (L.drop (i+1)))⟩::fL (aD L-1) (L.drop (i+(1+aD (tw (L.drop (i+1)))))) (i+(1+aD (tw (L.drop (i+1))))):=by grind [yK,fL,cS,cH]
def Bj(s:ByteArray)(w:Wq)(hs:s.size<=1048576)(hL:aD (R s 0)<=1048576):Cs 107 #[St s] w λe w'=>∃v,e=aQ v/\aH w' w.heap.size 244 4 v (aD (Q7 s)) ((Q7 s).flatMap rU)/\cX w.heap.size w w':=by
 have⟨i0,hi,aw,an,ao⟩:=info_parts Tryz.r;have d3:=zb s s.size 0 (by omega);have ee:=AA s w hs;unfold Q7;generalize R s 0=L at *;go_enter Tryz.func107,Tryz.ntmps107;go_wp2_with (go_at_call 106;refine ee.m ?_;rintro e W0 ⟨vl,rfl,d4,dq⟩);have⟨la,lc,dz⟩:=qd d4;have bf:∀(j:Nat)(hj:j<aD L),∃g,la=aX ⟨g,0,aY⟩/\g<W0.heap.size/\aE W0 (Ad g (j*2))=aX (Ii L[j].d)/\aE W0 (Ad g (j*2+1))=aX (St L[j].f):=by intro j hj;have⟨g,cap,e1,e2,e3,e4,e5⟩:=lH d4 NI (by omega);rw[e1] at dz;cases dz;exact⟨g,rfl,e3,e5 j 0 hj _ (by decide) rfl,e5 j 1 hj _ (by decide) rfl⟩
 subst dz;obtain⟨B,hB⟩:=aB W0.heap.size;have HB:=aA hB.s;have dh:Hid (∀(j:Nat)(hj:j<aD L),∃g,la=aX ⟨g,0,aY⟩/\g<B/\aE W0 (Ad g (j*2))=aX (Ii L[j].d)/\aE W0 (Ad g (j*2+1))=aX (St L[j].f)):=hB▸bf
 have HW:Hid (w.heap.size<=B/\cX w.heap.size w W0):=hB▸⟨dq.s,dq⟩
 clear hB bf d4 dq ee;go_loopw [4,5] (λv a wr=>∃(i:Nat)(G:List RT)(v1:Vq),v1=v/\a=aO aR i/\uM L B W0 wr v1 i G) (λ_ a _=>aD L-(intOf a).toNat)
 case atStart=>exact⟨0,[],_,rfl,rfl,zz,rfl,bX _,zo,zr⟩
 obtain⟨i,G,v,rfl,rfl,hT⟩:=hrel;by_cases ah:i<aD L
 .obtain⟨g,rfl,cx,ec,b4⟩:=dh.o i ah;have bu:=hT.f;have az:=bu.s;have d0:=(bu.cell cx).t ec;have d1:=(bu.cell cx).t b4;have e9:=d3 L[i] (zm ah);have A:=aA hT;have eu:=hT.I;have bk:=cM (cT HB.o.s) az;have Qoh:g≠wr.heap.size:=by{omega};clear hT ec b4 bu az;obtain⟨kd,b7⟩:=aC (L[i].d);obtain⟨C,dk⟩:=aC (L[i].f);rw[b7] at d0;rw[dk] at d1 e9;have HK:=aA b7;have HX:=aA dk;clear b7 dk;have c7:Hid (∀(O:Obj)(x y z u:Vq)(t:TypeId)(j:Nat)(q:Vq),[x,y,z,u][j]?=aX q->aE ((wr.alloc O).alloc (aP #[x,y,z,u] t)) ((⟨wr.heap.size+1,0,aY⟩:Addr).add j)=aX q):=by{intro O x y z u t j q hq;have:=vK (wr.alloc O) x y z u t j q hq;rwa[cP] at this};have au:∀(k r:Int)(t:ByteArray),∀u∈[aO aR k,St t,Ii i,Ii r],u.oneCell'=true:=λk r t=>by{simp[cE]};have aq:aD G+1<=maxLen:=by{unfold dJ;omega};have ap:(aD G+1)*40<=140737488355328:=by{omega};have ak:Hid (∀(O O':Obj),B<=((wr.alloc O).alloc O').heap.size):=λO O'=>by{simp;omega};have a9:=aA λO O'=>(A.o.f.l bk O).l (by simp;omega) O';have c8:Hid (∀(a b c d:Vq)(O:Obj)(w1:Wq),((wr.alloc (aP #[a,b,c,d] 244)).alloc O).grownBy w1 (aI v)->aE w1 (Ad wr.heap.size 3)=aX d):=by{intro a b c d O w1 hg;have h1:w1.heap[wr.heap.size]?=cC #[a,b,c,d] 244:=by{rw[hg.b wr.heap.size (by simp;omega) (λe=>?_),bG _ _ _ (by simp),World.alloc_heap_new];have:=(A.o.z.lt _ e.s).2;omega};simp[aE,h1]};by_cases k4:kd=4
  .subst k4;go_wp2;have M:=A.o.c ah HK.o ((bJ wr.heap.size wr).l zl (aP #[Ii 5,St C,Ii i,Ii 1] 244)) bk;go_roundw
   case rel=>exact⟨i+1,G,v,rfl,by go_num,M⟩
   simp[intOf];omega
  by_cases k5:kd=5
  .subst k5;have h0:0<C.size:=by{omega};have hb:=vH C 0 h0;have fw:=sX C 0;have fj:=λO=>(bD ((bJ wr.heap.size wr).l zl O) (by simp;omega)).t d1;have E:=Ij L i ah HK.o;rw[HX.o] at E;have HS:=aA E;clear E;generalize fE C 0=c at *;go_wp2_with (first
    |(at_builtin;refine cW _ rfl (.tmp 105) (.tmp 107) 209 rfl B 244 i0 (aL #[Ii 0,St ⟨#[]⟩,Ii 0,Ii 0]) 4 40 cZ hi aw an ao rfl (by decide) _ _ _ rfl ((A.o.z.l _).l _) ⟨wr.heap.size+1,0,aY⟩ 1 1 [Ii c,St C,Ii i,Ii 1] rfl rfl (c7.o _ _ _ _ _ _) (au _ _ _) aq ap (ak.o _ _) ?_;intro v' w1 ab aa _;have b6:=c8.o _ _ _ _ _ _ aa))
   have M:=A.o.a ⟨c,C,i,1⟩ (bX 1) ah HS.o (a9.o _ _) (ak.o _ _) ab aa;clear ab aa;go_roundw
   case rel=>exact⟨i+1,_,v',rfl,by go_num,M⟩
   simp[intOf];omega
  have Qkk:Hid (kd≠1->kd≠2->(kd=6->∀h:i+1<aD L,L[i+1].d≠7)->fL (aD L) (L.drop i) i=⟨5,C,i,1⟩::fL (aD L-1) (L.drop (i+1)) (i+1)):=by{intro a1 a2 a6;have:=K9 L i ah (HK.o▸a1) (HK.o▸a2) (HK.o▸k4) (HK.o▸k5) (HK.o▸a6);rwa[HX.o] at this};have fx:((kd:Int) == 4)=false:=by{simp;omega};have fg:((kd:Int) == 5)=false:=by{simp;omega};by_cases k6:kd=6
  .subst k6;by_cases h7:∃h:i+1<aD L,L[i+1].d=7
   .have⟨cr,h7⟩:=h7;have E:Hid _:=Nr L i ah HK.o ⟨cr,h7⟩;have⟨g',e',Qk2,b8,c5⟩:=dh.o (i+1) cr;cases e';rw[h7] at b8;have ew:∀O,aE (wr.alloc O) (Ad g ((i+1)*2))=aX (Ii 7):=λO=>(bD (A.o.f.l bk O) cx).t b8;clear b8 c5 h7;go_wp2_with (first
     |(at_builtin;refine cW _ rfl (.tmp 105) (.tmp 107) 209 rfl B 244 i0 (aL #[Ii 0,St ⟨#[]⟩,Ii 0,Ii 0]) 4 40 cZ hi aw an ao rfl (by decide) _ _ _ rfl ((A.o.z.l _).l _) ⟨wr.heap.size+1,0,aY⟩ 1 1 [Ii 3,St ⟨#[]⟩,Ii i,Ii 2] rfl rfl (c7.o _ _ _ _ _ _) (au _ _ _) aq ap (ak.o _ _) ?_;intro v' w1 ab aa _;have b6:=c8.o _ _ _ _ _ _ aa))
    have M:=A.o.a ⟨3,⟨#[]⟩,i,2⟩ (by decide) cr E.o (a9.o _ _) (ak.o _ _) ab aa;clear ab aa;go_roundw
    case rel=>exact⟨i+2,_,v',rfl,by go_num,M⟩
    simp[intOf];omega
   have E:Hid _:=Qkk.o (by decide) (by decide) (λ_ h e=>h7 ⟨h,e⟩);by_cases cr:i+1<aD L
   .have⟨g',e',Qk2,b8,c5⟩:=dh.o (i+1) cr;cases e';have fm:L[i+1].d≠7:=λe=>h7 ⟨cr,e⟩;generalize L[i+1].d=k7 at *;have m7:((k7:Int) == 7)=false:=by{simp;omega};have ew:=λO=>(bD (A.o.f.l bk O) cx).t b8;clear b8 c5 h7;go_wp2_with (first
     |(at_builtin;refine cW _ rfl (.tmp 105) (.tmp 107) 209 rfl B 244 i0 (aL #[Ii 0,St ⟨#[]⟩,Ii 0,Ii 0]) 4 40 cZ hi aw an ao rfl (by decide) _ _ _ rfl ((A.o.z.l _).l _) ⟨wr.heap.size+1,0,aY⟩ 1 1 [Ii 5,St C,Ii i,Ii 1] rfl rfl (c7.o _ _ _ _ _ _) (au _ _ _) aq ap (ak.o _ _) ?_;intro v' w1 ab aa _;have b6:=c8.o _ _ _ _ _ _ aa))
    have M:=A.o.a ⟨5,C,i,1⟩ (by decide) ah E.o (a9.o _ _) (ak.o _ _) ab aa;clear ab aa;go_roundw
    case rel=>exact⟨i+1,_,v',rfl,by go_num,M⟩
    simp[intOf];omega
   .go_wp2_with (first
     |(at_builtin;refine cW _ rfl (.tmp 105) (.tmp 107) 209 rfl B 244 i0 (aL #[Ii 0,St ⟨#[]⟩,Ii 0,Ii 0]) 4 40 cZ hi aw an ao rfl (by decide) _ _ _ rfl ((A.o.z.l _).l _) ⟨wr.heap.size+1,0,aY⟩ 1 1 [Ii 5,St C,Ii i,Ii 1] rfl rfl (c7.o _ _ _ _ _ _) (au _ _ _) aq ap (ak.o _ _) ?_;intro v' w1 ab aa _;have b6:=c8.o _ _ _ _ _ _ aa))
    have M:=A.o.a ⟨5,C,i,1⟩ (by decide) ah E.o (a9.o _ _) (ak.o _ _) ab aa;clear ab aa
    go_roundw
    case rel=>exact⟨i+1,_,v',rfl,by go_num,M⟩
    case measure=>simp[intOf];omega
  have fq:((kd:Int) == 6)=false:=by{simp;omega};by_cases kw:kd=1\/kd=2
  .have E:Hid _:=MP L i ah (HK.o▸kw);have e8:=zL (L.drop (i+1));rw[bF] at e8;have dg:=Od (L.drop (i+1));have cy:=MW (L.drop (i+1));have ct:=aA dg;have b9:=aA cy;clear dg cy;obtain⟨wo,rfl⟩:=aB wr;obtain⟨N,hN⟩:=aB wo.heap.size;have dd:B<=N:=by{omega};have eh:=hN.s;have c9:g<N:=by{omega};have eg:Hid (∀(j:Nat)(hj:j<aD L),aE wo (Ad g (j*2))=aX (Ii L[j].d)/\aE wo (Ad g (j*2+1))=aX (St L[j].f)):=by{intro j hj;have⟨g',e',Qk2,b8,c5⟩:=dh.o j hj;cases e';exact⟨(bD A.o.f cx).t b8,(bD A.o.f cx).t c5⟩};clear hN;obtain rfl|rfl:=kw
   .go_wp2;go_loopw [37] (λ_ ax=>∃(r:Nat)(ae:ByteArray),1<=r/\r<=1+aD (tw (L.drop (i+1)))/\Hid (ae=C++kC ((L.drop (i+1)).take (r-1)))/\ae.size<=4*r/\ax.heap[N]?=aX (aP #[aO aR 1,aK ae,aO aR i,aO aR r] 244)/\cX N wo ax/\ax.heap.size=N+1) (λ_ ax=>aD L+1-sU ax ⟨N,3,aY⟩)
    case atStart=>refine⟨1,C,bX _,by omega,?_,by omega,?_,zr.l (by omega) _,by simp;omega⟩;{show C=C++bU;simp};{rw[<-eh];exact zn wo _}
    have⟨r,ae,cc,ej,a8,ei,hh,aj,cl⟩:=hrel;have c0:aE wr (Ad N 0)=aX (Ii 1):=zc hh;have c1:aE wr (Ad N 1)=aX (St ae):=zc hh;have c2:aE wr (Ad N 2)=aX (Ii i):=zc hh;have c3:aE wr (Ad N 3)=aX (Ii r):=zc hh;have f1:aF wr (Ad N 1)=false:=by{simp[aF,hh]};have f3:aF wr (Ad N 3)=false:=by{simp[aF,hh]};by_cases hl:i+r<aD L
    .have⟨e0,e1⟩:=eg.o (i+r) hl;have dw:=(bD aj c9).t e0;have d6:=(bD aj c9).t e1;have Qh8:=d3 L[i+r] (zm hl);have⟨ci,bq⟩:=D3 L i r cc hl;obtain⟨k2,bb⟩:=aC (L[i+r].d);obtain⟨t2,ck⟩:=aC (L[i+r].f);rw[bb] at dw;rw[ck] at d6 Qh8;have c6:=aA bb;have dm:=aA ck;clear bb ck e0 e1;by_cases bd:k2<=3
     .have dg:=ct.o (r-1) (by omega) ci (by rwa[bq,c6.o]);have hw:=FP hh aj cl (ae++t2);have Qil:Hid (ae++t2=C++kC ((L.drop (i+1)).take (r+1-1))):=by{show _=_;have e:r+1-1=(r-1)+1:=by{omega};rw[a8.o,e,bQ ci,DI,bq,dm.o,bO]};have bv:=aA hw;have du:Hid (sU wr ⟨N,3,aY⟩=r):=by{show _=_;simp[sU,c3]};clear hh aj hw ci bq a8;have ev:ae.size+t2.size<=10000000:=by{omega};go_wp2;go_region;go_wp2;go_roundw
      case rel=>exact⟨r+1,ae++t2,by omega,by omega,Qil,by rw[cF];omega,bv.o.1,bv.o.2.1,bv.o.2.2.1⟩
      rw[bv.o.2.2.2,du.o];omega
     have al:r=1+aD (tw (L.drop (i+1))):=by{have:=b9.o (r-1) (by omega) (λhm=>by rwa[bq,c6.o]);omega};have bh:=qm A.o.z (λg' _ dp=>aj.b g' (by omega));have bj:=A.o.f.t (aj.m dd);have ay:C++kC (tw (L.drop (i+1)))=ae:=by{rw[a8.o,al,bB,<-tL]};rw[HX.o,HK.o,ay,<-al] at E;have cn:Hid (∀(O:Obj)(w1:Wq),(wr.alloc O).grownBy w1 (aI v)->aE w1 (Ad N 3)=aX (Ii r)):=by{intro O w1 hg;have h1:w1.heap[N]?=cC #[Ii 1,St ae,Ii i,Ii r] 244:=by{rw[hg.b N (by simp;omega) (λe=>?_),bG _ _ _ (by omega)];{exact hh};{have:=(A.o.z.lt _ e.s).2;omega}};simp[aE,h1]};have cf:=aA bh;have cp:=aA bj;have bi:Hid (∀O,B<=(wr.alloc O).heap.size):=λO=>by{simp;omega};have ca:B<=wr.heap.size:=by{omega};have cb:=aA E;have cg:=aA al;clear hh aj ay bh bj a8 al E ct b9 cl;go_wp2_with (first
      |(at_builtin;refine cW _ rfl (.tmp 105) (.tmp 107) 209 rfl B 244 i0 (aL #[Ii 0,St ⟨#[]⟩,Ii 0,Ii 0]) 4 40 cZ hi aw an ao rfl (by decide) _ _ _ rfl (cf.o.l _) ⟨wr.heap.size,0,aY⟩ 1 1 [Ii 1,St ae,Ii i,Ii r] rfl rfl (vK _ _ _ _ _ _) (au _ _ _) aq ap (bi.o _) ?_;intro v' w1 ab aa _;have b6:=cn.o _ _ aa))
     have M:=A.o.a ⟨1,ae,i,r⟩ cc (by have:=cg.o;omega) cb.o (cp.o.l ca _) (bi.o _) ab aa;clear ab aa;go_roundw
     case rel=>exact⟨i+r,_,v',rfl,by go_num,M⟩
     simp[intOf];omega
    have al:r=1+aD (tw (L.drop (i+1))):=by{have:=b9.o (r-1) (by omega) (λhm=>by rw[bF] at hm;omega);omega};have bh:=qm A.o.z (λg' _ dp=>aj.b g' (by omega));have bj:=A.o.f.t (aj.m dd);have ay:C++kC (tw (L.drop (i+1)))=ae:=by{rw[a8.o,al,bB,<-tL]};rw[HX.o,HK.o,ay,<-al] at E;have cn:Hid (∀(O:Obj)(w1:Wq),(wr.alloc O).grownBy w1 (aI v)->aE w1 (Ad N 3)=aX (Ii r)):=by{intro O w1 hg;have h1:w1.heap[N]?=cC #[Ii 1,St ae,Ii i,Ii r] 244:=by{rw[hg.b N (by simp;omega) (λe=>?_),bG _ _ _ (by omega)];{exact hh};{have:=(A.o.z.lt _ e.s).2;omega}};simp[aE,h1]};have cf:=aA bh;have cp:=aA bj;have bi:Hid (∀O,B<=(wr.alloc O).heap.size):=λO=>by{simp;omega};have ca:B<=wr.heap.size:=by{omega};have cb:=aA E;have cg:=aA al;clear hh aj ay bh bj a8 al E ct b9 cl;go_wp2_with (first
     |(at_builtin;refine cW _ rfl (.tmp 105) (.tmp 107) 209 rfl B 244 i0 (aL #[Ii 0,St ⟨#[]⟩,Ii 0,Ii 0]) 4 40 cZ hi aw an ao rfl (by decide) _ _ _ rfl (cf.o.l _) ⟨wr.heap.size,0,aY⟩ 1 1 [Ii 1,St ae,Ii i,Ii r] rfl rfl (vK _ _ _ _ _ _) (au _ _ _) aq ap (bi.o _) ?_;intro v' w1 ab aa _;have b6:=cn.o _ _ aa))
    have M:=A.o.a ⟨1,ae,i,r⟩ cc (by have:=cg.o;omega) cb.o (cp.o.l ca _) (bi.o _) ab aa;clear ab aa;go_roundw
    case rel=>exact⟨i+r,_,v',rfl,by go_num,M⟩
    simp[intOf];omega
   go_wp2;go_loopw [37] (λ_ ax=>∃(r:Nat)(ae:ByteArray),1<=r/\r<=1+aD (tw (L.drop (i+1)))/\Hid (ae=C++kC ((L.drop (i+1)).take (r-1)))/\ae.size<=4*r/\ax.heap[N]?=aX (aP #[aO aR 2,aK ae,aO aR i,aO aR r] 244)/\cX N wo ax/\ax.heap.size=N+1) (λ_ ax=>aD L+1-sU ax ⟨N,3,aY⟩)
   case atStart=>refine⟨1,C,bX _,by omega,?_,by omega,?_,zr.l (by omega) _,by simp;omega⟩;{show C=C++bU;simp};{rw[<-eh];exact zn wo _}
   have⟨r,ae,cc,ej,a8,ei,hh,aj,cl⟩:=hrel;have c0:aE wr (Ad N 0)=aX (Ii 2):=zc hh;have c1:aE wr (Ad N 1)=aX (St ae):=zc hh;have c2:aE wr (Ad N 2)=aX (Ii i):=zc hh;have c3:aE wr (Ad N 3)=aX (Ii r):=zc hh;have f1:aF wr (Ad N 1)=false:=by{simp[aF,hh]};have f3:aF wr (Ad N 3)=false:=by{simp[aF,hh]};by_cases hl:i+r<aD L
   .have⟨e0,e1⟩:=eg.o (i+r) hl;have dw:=(bD aj c9).t e0;have d6:=(bD aj c9).t e1;have Qh8:=d3 L[i+r] (zm hl);have⟨ci,bq⟩:=D3 L i r cc hl;obtain⟨k2,bb⟩:=aC (L[i+r].d);obtain⟨t2,ck⟩:=aC (L[i+r].f);rw[bb] at dw;rw[ck] at d6 Qh8;have c6:=aA bb;have dm:=aA ck;clear bb ck e0 e1;by_cases bd:k2<=3
    .have dg:=ct.o (r-1) (by omega) ci (by rwa[bq,c6.o]);have hw:=FP hh aj cl (ae++t2);have Qil:Hid (ae++t2=C++kC ((L.drop (i+1)).take (r+1-1))):=by{show _=_;have e:r+1-1=(r-1)+1:=by{omega};rw[a8.o,e,bQ ci,DI,bq,dm.o,bO]};have bv:=aA hw;have du:Hid (sU wr ⟨N,3,aY⟩=r):=by{show _=_;simp[sU,c3]};clear hh aj hw ci bq a8;have ev:ae.size+t2.size<=10000000:=by{omega};go_wp2;go_region;go_wp2;go_roundw
     case rel=>exact⟨r+1,ae++t2,by omega,by omega,Qil,by rw[cF];omega,bv.o.1,bv.o.2.1,bv.o.2.2.1⟩
     rw[bv.o.2.2.2,du.o];omega
    have al:r=1+aD (tw (L.drop (i+1))):=by{have:=b9.o (r-1) (by omega) (λhm=>by rwa[bq,c6.o]);omega};have bh:=qm A.o.z (λg' _ dp=>aj.b g' (by omega));have bj:=A.o.f.t (aj.m dd);have ay:C++kC (tw (L.drop (i+1)))=ae:=by{rw[a8.o,al,bB,<-tL]};rw[HX.o,HK.o,ay,<-al] at E;have cn:Hid (∀(O:Obj)(w1:Wq),(wr.alloc O).grownBy w1 (aI v)->aE w1 (Ad N 3)=aX (Ii r)):=by{intro O w1 hg;have h1:w1.heap[N]?=cC #[Ii 2,St ae,Ii i,Ii r] 244:=by{rw[hg.b N (by simp;omega) (λe=>?_),bG _ _ _ (by omega)];{exact hh};{have:=(A.o.z.lt _ e.s).2;omega}};simp[aE,h1]};have cf:=aA bh;have cp:=aA bj;have bi:Hid (∀O,B<=(wr.alloc O).heap.size):=λO=>by{simp;omega};have ca:B<=wr.heap.size:=by{omega};have cb:=aA E;have cg:=aA al;clear hh aj ay bh bj a8 al E ct b9 cl;go_wp2_with (first
     |(at_builtin;refine cW _ rfl (.tmp 105) (.tmp 107) 209 rfl B 244 i0 (aL #[Ii 0,St ⟨#[]⟩,Ii 0,Ii 0]) 4 40 cZ hi aw an ao rfl (by decide) _ _ _ rfl (cf.o.l _) ⟨wr.heap.size,0,aY⟩ 1 1 [Ii 2,St ae,Ii i,Ii r] rfl rfl (vK _ _ _ _ _ _) (au _ _ _) aq ap (bi.o _) ?_;intro v' w1 ab aa _;have b6:=cn.o _ _ aa))
    have M:=A.o.a ⟨2,ae,i,r⟩ cc (by have:=cg.o;omega) cb.o (cp.o.l ca _) (bi.o _) ab aa;clear ab aa;go_roundw
    case rel=>exact⟨i+r,_,v',rfl,by go_num,M⟩
    simp[intOf];omega
   have al:r=1+aD (tw (L.drop (i+1))):=by{have:=b9.o (r-1) (by omega) (λhm=>by rw[bF] at hm;omega);omega};have bh:=qm A.o.z (λg' _ dp=>aj.b g' (by omega));have bj:=A.o.f.t (aj.m dd);have ay:C++kC (tw (L.drop (i+1)))=ae:=by{rw[a8.o,al,bB,<-tL]};rw[HX.o,HK.o,ay,<-al] at E;have cn:Hid (∀(O:Obj)(w1:Wq),(wr.alloc O).grownBy w1 (aI v)->aE w1 (Ad N 3)=aX (Ii r)):=by{intro O w1 hg;have h1:w1.heap[N]?=cC #[Ii 2,St ae,Ii i,Ii r] 244:=by{rw[hg.b N (by simp;omega) (λe=>?_),bG _ _ _ (by omega)];{exact hh};{have:=(A.o.z.lt _ e.s).2;omega}};simp[aE,h1]};have cf:=aA bh;have cp:=aA bj;have bi:Hid (∀O,B<=(wr.alloc O).heap.size):=λO=>by{simp;omega};have ca:B<=wr.heap.size:=by{omega};have cb:=aA E;have cg:=aA al;clear hh aj ay bh bj a8 al E ct b9 cl;go_wp2_with (first
    |(at_builtin;refine cW _ rfl (.tmp 105) (.tmp 107) 209 rfl B 244 i0 (aL #[Ii 0,St ⟨#[]⟩,Ii 0,Ii 0]) 4 40 cZ hi aw an ao rfl (by decide) _ _ _ rfl (cf.o.l _) ⟨wr.heap.size,0,aY⟩ 1 1 [Ii 2,St ae,Ii i,Ii r] rfl rfl (vK _ _ _ _ _ _) (au _ _ _) aq ap (bi.o _) ?_;intro v' w1 ab aa _;have b6:=cn.o _ _ aa))
   have M:=A.o.a ⟨2,ae,i,r⟩ cc (by have:=cg.o;omega) cb.o (cp.o.l ca _) (bi.o _) ab aa;clear ab aa;go_roundw
   case rel=>exact⟨i+r,_,v',rfl,by go_num,M⟩
   simp[intOf];omega
  have m1:((kd:Int) == 1)=false:=by{simp;omega};have m2:((kd:Int) == 2)=false:=by{simp;omega};have E:Hid _:=Qkk.o (by omega) (by omega) (λe=>absurd e k6);clear kw k4 k5 k6;go_wp2_with (first
   |(at_builtin;refine cW _ rfl (.tmp 105) (.tmp 107) 209 rfl B 244 i0 (aL #[Ii 0,St ⟨#[]⟩,Ii 0,Ii 0]) 4 40 cZ hi aw an ao rfl (by decide) _ _ _ rfl ((A.o.z.l _).l _) ⟨wr.heap.size+1,0,aY⟩ 1 1 [Ii 5,St C,Ii i,Ii 1] rfl rfl (c7.o _ _ _ _ _ _) (au _ _ _) aq ap (ak.o _ _) ?_;intro v' w1 ab aa _;have b6:=c8.o _ _ _ _ _ _ aa))
  have M:=A.o.a ⟨5,C,i,1⟩ (by decide) ah E.o (a9.o _ _) (ak.o _ _) ab aa;clear ab aa;go_roundw
  case rel=>exact⟨i+1,_,v',rfl,by go_num,M⟩
  simp[intOf];omega
 have E:=hT.b;rw[List.drop_eq_nil_of_le (by omega)] at E;have Qh0:fL (aD L) [] i=[]:=by{cases (aD L)<;>rfl};rw[Qh0,cR] at E;have eu:=hT.I;have ea:=hT.d;have em:aD G<=1048576:=by{omega};have bk:=cM (cT HB.o.s) hT.f.s;have au:∀u∈[aO aR 4,St ⟨#[]⟩,Ii (aD L),Ii 0],u.oneCell'=true:=by{simp[cE]};have aq:aD G+1<=maxLen:=by{unfold dJ;omega};have ap:(aD G+1)*40<=140737488355328:=by{omega};have ak:Hid (∀(O:Obj),B<=(wr.alloc O).heap.size):=λO=>by{simp;omega};have A:=aA hT;have HS:=aA E;clear hT E Qh0;go_wp2_with (first
  |(at_builtin;refine cW _ rfl (.tmp 113) (.tmp 117) 209 rfl B 244 i0 (aL #[Ii 0,St ⟨#[]⟩,Ii 0,Ii 0]) 4 40 cZ hi aw an ao rfl (by decide) _ _ _ rfl (A.o.z.l _) ⟨wr.heap.size,0,aY⟩ 1 1 [Ii 4,St ⟨#[]⟩,Ii (aD L),Ii 0] rfl rfl (vK _ _ _ _ _ _) au aq ap (ak.o _) ?_;intro v' w1 ab aa _))
 go_ret;rw[<-HS.o];refine⟨v',rfl,qz ?_ HW.o.1,HW.o.2.t (Below.m ((A.o.f.l bk _).grown aa (ak.o _) (λk hk=>(A.o.z.lt k hk).1)) HW.o.1)⟩;simpa [rU] using ab
