/- A part -/
import Derived.Test.YtjajnhemgphefaaGreatDoorQRefP
import Derived.Lib.ItoaNum
import Derived.Deep.RegionLawGrows
import Derived.Maps.AppendAt
import Derived.BigRegion
import Derived.Laws.CopyOwn
set_option linter.all false
set_option maxRecDepth 100000
set_option maxHeartbeats 16000000
open List renaming length->aD,drop_eq_getElem_cons->bC,drop_eq_nil_of_le->bD,map_cons->bJ,mem_of_mem_drop->bL,mem_cons->bQ,getElem?_eq_getElem->bT,any_cons->bZ,mem_flatMap->cA,mem_of_mem_take->cD,length_cons->cE,map_nil->cG,mem_map->cI,any_nil->cJ,length_drop->cM,append_nil->cO,findIdx_le_length->cP,take_append_drop->cQ,replicate->cR,mem_cons_of_mem->cS,length_append->cT,flatMap_cons->cU,getElem?_map->cW,getElem_mem->cX,cons_append->cZ,length_take->dA,foldl_cons->dC,nil_append->dD,length_nil->dE,drop_drop->dG,drop_zero->dH
open Go.World renaming cell?->aE,frozen?->aF,ownsRow->aH,size_alloc->bU,setCell_alloc_past->bX
open Go.Value renaming ownBlock->aI,slice->aJ,string->aK,agg->aL,bool->aM,tuple->aN,int->aO,oneCell'->cH
open Go.Obj renaming cells->aP
open Go.Ending renaming returned->aQ
open Go.IntKind renaming i64->aR
open Or renaming inr->aU
open Option renaming some->aX,none->aY
open ByteArray renaming size_append->bB,append_assoc->bF,empty->dF,ext->dJ
open Go.RowKit.Below renaming heap_alloc->bE,cell->bG,refl->bH,heap_setCell->bI
open Nat renaming le_trans->bO,le_refl->cF,zero_add->cL,mul_one->dI
open Array renaming toList_inj->dB
open Go.RowKit renaming Below->dK
open Go.Proofs.Tryz renaming underlying22->dL,results114->dU,ntmps114->dV,ntmps118->dW,func114->dX,func118->dY,ntmps64->dZ
open Go renaming wpList_append_own->dM,Ending->dP,bodyPost_ret->dQ,info_parts->dR,maxLen->dS,ownsRow_succ->dT,madeCells->eA
open Bool renaming false_eq_true->dO
namespace Go.Proofs.YtjajnhemgphefaaGreatDoor
open Go renaming World->Wq,Value->Vq
open Go.RowKit Go.Shelf
variable {S B g N:Nat} {X Y W W':Wq} {xs:List Vq} {va vg vo vm v1 v2:Vq} {ps:List (Am×Vq)} {qs:List (Rl×Vq×Vq)} {l:Lk} {t:RT} {us:List RT} {rs:List Rl} {x rel r1 r2:ByteArray} {ae out m:List ByteArray} {o:Obj} {a:Option Addr}
theorem Dr(z:List ByteArray)(t:Tm):aD z<=aD (jO z t)/\aD (jO z t)<=aD z+1:=by grind [jO,Qs]
theorem BO(l:List Tm):∀z,aD z<=aD (fF z l)/\aD (fF z l)<=aD z+aD l:=by
 induction l with
 |nil=>intro z;simp[fF]
 |cons t l ih=>grind [Dr,jO,fF]
def Kp.b{n:Nat}{v:Vq}(E:aH X B 9 1 v n xs)(A:X.grownBy Y (aI v)):Kp S X Y:=by
 refine⟨λk c z=>A.b k (zg z).1 (λe=>?_),λk c C z=>A.b k (zg z).1 (λe=>?_)⟩
 .grind [qg]
 grind [qg]
def kW.b{n:Nat}{v:Vq}(h:kW X va ps)(A:aH X B 9 1 v n xs)(z:X.grownBy Y (aI v)):kW Y va ps:=by refine⟨qm h.h (λg C af=>?_),λp E=>(h.z p E).o (Kp.b (S:=0) A z)⟩;have⟨c,hc⟩:=qg h.h C;exact (Kp.b (S:=X.heap.size) A z).e g c af hc
structure pH(N:Nat)(w X:Wq)(vo:Vq)(vs:List ByteArray):Prop where
 f:dK N w X
 size:N<=X.heap.size
 z:aH X N 9 1 vo (aD vs) (vs.map aK)
theorem C1(v:Vq)(qs:List (Rl×Vq×Vq))(w:Wq)(hR:Q5 w v qs)(hl:aD qs<=1000)(hb:∀q∈qs,aD q.1.n<=900)(ht:aD (Q3 (Q9 qs))<=100000)(hm:∀a∈Q9 qs,aD a.d<=1000):Cs 112 #[v] w λe w'=>∃v',e=aQ v'/\pH w.heap.size w w' v' (fF [] (Q3 (Q9 qs))):=by
 obtain⟨N,hN⟩:=aB w.heap.size;have ao:=hN.s;obtain⟨va,vc,hv⟩:=qd hR.h;rw[<-hN];have hT:=(BO (Q3 (Q9 qs)) []).2;have HR:=aA hR;subst hv;clear hR hN;generalize hTT:fF [] (Q3 (Q9 qs))=T at *;have la:aD T<=100000:=by simp at hT;omega
 clear hT;go_enter Tryz.func112,Tryz.ntmps112;go_wp2;go_loopw [3,4] (λo p wr=>∃(i:Nat)(vo:Vq)(z:List ByteArray),vo=o/\p=aO aR i/\i<=aD qs/\pH N w wr vo z/\Hid (fF z (Q3 (Q9 (qs.drop i)))=T)) (λ_ p _=>aD qs-(intOf p).toNat)
 case atStart=>exact⟨0,_,[],rfl,rfl,zz,⟨zr,by omega,zo⟩,hTT⟩
 obtain⟨i,vo,z,rfl,rfl,ci,A,aa⟩:=hrel;by_cases af:i<aD qs
 .have et:=HR.o.f (ao▸A.f);obtain⟨g,cap,e1,hg,c0,c1,c2,hA,ps,a9,be⟩:=et.d i af;cases e1;have a7:=A.size;have iu:=hb qs[i] (zm af);have eu:aD ps<=900:=by{have:=congrArg aD a9;simp at this;omega};have c5:=AC qs[i] ps wr hA be (by omega);have jh:=bC af;have g9:Q9 (qs.drop i)=(qs[i].1.d::ps.map (·.1))++Q9 (qs.drop (i+1)):=by{rw[jh];unfold Q9 Qa;rw[cU,a9]};rw[g9] at aa;have bi:∀p∈(qs[i].1.d,qs[i].2.1)::ps,aD p.1.d<=1000:=by{intro p hp;refine hm p.1 (cA.2 ⟨qs[i],cX af,?_⟩);obtain rfl|hp:=bQ.1 hp;{exact zs};refine cS _ ?_;rw[<-a9];exact cI.2 ⟨p,hp,rfl⟩};clear g9 jh a9 et;unfold pT at c5;obtain⟨a1,a2,bj⟩:=qd hA;simp only at bj;obtain⟨b1,b2,bn⟩:=qd be.h;rw[bj] at c1 c5 bi;rw[bn] at c2 c5;generalize qs[i]=q at *;generalize q.1.d.j=hrl at *;generalize hq:((q.1.d,aJ a1 (aD q.1.d.d) a2)::ps)=qp at *;have Qd6:Hid (fF z (Q3 (qp.map (·.1)++Q9 (qs.drop (i+1))))=T):=hq▸aa.o;have Ql1:aD qp<=901:=by{rw[<-hq];simp;omega};have C:=aA A;clear A aa hq hA be bj bn;go_wp2_with fail;refine c5.m ?_;rintro e W1 ⟨vp,rfl,ay,dz⟩;have dn:pH N w W1 vo z:=⟨C.o.f.t (dz.m a7),bO a7 dz.s,qh C.o.z dz⟩;obtain⟨pa,O,gt⟩:=qd ay.h;subst gt;have E:=aA ay;have eo:=aA dn;clear ay dz dn c5 C c0 c1 c2;go_wp2;go_loopw [3,6] (λo p wr=>∃(k:Nat)(vo:Vq)(z:List ByteArray),vo=o/\p=aO aR k/\k<=aD qp/\pH N w wr vo z/\kW wr (aJ pa (aD qp) O) qp/\Hid (fF z (Q3 ((qp.drop k).map (·.1)++Q9 (qs.drop (i+1))))=T)) (λ_ p _=>aD qp-(intOf p).toNat)
  case atStart=>exact⟨0,_,z,rfl,rfl,zz,eo.o,E.o,Qd6⟩
  clear eo E Qd6;obtain⟨k,vo,z,rfl,rfl,ey,A,ay,ac⟩:=hrel;by_cases bc:k<aD qp
  .rw[bC bc] at ac;have i8:Hid (fF z (qp[k].1.d++Q3 ((qp.drop (k+1)).map (·.1)++Q9 (qs.drop (i+1))))=T):=by{have:=ac.o;rw[bJ,cZ] at this;unfold Q3 at this ⊢;rwa[cU] at this};have C:=aA A;have E:=aA ay;clear ac A ay;go_wp2;go_loopw [3,7] (λo p wr=>∃(m:Nat)(vo:Vq) (z:List ByteArray),vo=o/\p=aO aR m/\m<=aD qp[k].1.d/\pH N w wr vo z/\kW wr (aJ pa (aD qp) O) qp/\Hid (fF z (qp[k].1.d.drop m++Q3 ((qp.drop (k+1)).map (·.1)++Q9 (qs.drop (i+1))))=T)) (λ_ p _=>aD qp[k].1.d-(intOf p).toNat)
   case atStart=>exact⟨0,_,z,rfl,rfl,zz,C.o,E.o,i8⟩
   clear C E i8;obtain⟨m,vo,z,rfl,rfl,Qor,A,ay,G⟩:=hrel;obtain⟨g2,d3,e2,fe,d0,d1,⟨x1,x2,hx⟩,c9⟩:=ay.d k bc;cases e2;rw[hx] at d1;have ct:=bi qp[k] (zm bc);by_cases eb:m<aD qp[k].1.d
   .obtain⟨g3,du,e3,_,f0,f1⟩:=c9.d m eb;rw[hx] at e3;cases e3;rw[bC eb] at G;generalize qp[k].1.d[m]=tm at *;simp only[cZ,fF,dC] at G;have eg:Hid (fF (jO z tm) (qp[k].1.d.drop (m+1)++Q3 ((qp.drop (k+1)).map (·.1)++Q9 (qs.drop (i+1))))=T):=G;have ed:=(BO (qp[k].1.d.drop (m+1)++Q3 ((qp.drop (k+1)).map (·.1)++Q9 (qs.drop (i+1)))) (jO z tm)).1;rw[eg.o] at ed;have kf:=(Dr z tm).1;have lg:aD z<=100000:=by{omega};clear G ed kf hx c9 d0;obtain⟨M,nu⟩:=tm;simp only at f0 f1;by_cases h1:M.toList.isEmpty=true
    .have bu:jO z ⟨M,nu⟩=z:=by{unfold jO;rw[if_pos h1]};rw[bu] at eg;have C:=aA A;have E:=aA ay;clear A ay bu;go_wp2;go_roundw
     case rel=>exact⟨m+1,vo,z,rfl,by go_num,by omega,C.o,E.o,eg⟩
     simp[intOf];omega
    have ef:M.toList.isEmpty=false:=by{simpa using h1};have bu:jO z ⟨M,nu⟩=Qs z M:=by{unfold jO;rw[if_neg h1]};rw[bu] at eg;have jx:=Gq N vo z M wr A.size (by omega) A.z;have C:=aA A;have E:=aA ay;clear A ay bu h1;go_wp2_with (go_at_call 119;refine jx.m ?_;rintro e w2 ⟨v2,rfl,bh,dc⟩);have bk:pH N w w2 v2 (Qs z M):=⟨C.o.f.grown dc C.o.size (λk e=>(Qr C.o.z k e).1),bO C.o.size dc.size,bh⟩;have ga:=E.o.b C.o.z dc;clear bh dc;go_roundw
    case rel=>exact⟨m+1,v2,_,rfl,by go_num,by omega,bk,ga,eg⟩
    simp[intOf];omega
   rw[bD (by omega)] at G;simp only[dD] at G;have C:=aA A;have E:=aA ay;clear A ay c9;go_wp2;go_roundw
   case rel=>exact⟨k+1,vo,z,rfl,by go_num,by omega,C.o,E.o,G⟩
   simp[intOf];omega
  rw[bD (by omega)] at ac;simp only[cG,dD] at ac;have C:=aA A;clear A ay;go_wp2;go_roundw
  case rel=>exact⟨i+1,vo,z,rfl,by go_num,by omega,C.o,ac⟩
  simp[intOf];omega
 rw[bD (by omega)] at aa;have jp:z=T:=by have:=aa.o;simpa [fF,Q3,Q9] using this
 subst jp;go_wp2;go_ret;exact⟨vo,rfl,A⟩
def fK(rs:List Rl):List Am:=rs.flatMap Qa
theorem A4(qs:List (Rl×Vq×Vq)):Q9 qs=fK (qs.map (·.1)):=by unfold Q9 fK;rw[List.flatMap_map]
def qH(all:List Am)(a:Am):Bool:=decide (gX all a.j≠a.d.length)
def qI(all:List Am)(r:Rl):Bool:=(Qa r).any (qH all)
def uh(bd:List Am)(t:Tm):Bool:=t.c.toList.isEmpty && !Qf bd t.d
def oY(r:Rl):Bool:=r.d.d.any (uh r.n)
def jX(p:Rl->Bool):List Rl->Nat->Option Nat
 |[],_=>aY
 |r::l,i=>if p r=true then aX i else jX p l (i+1)
def nZ:List ByteArray->List Rl->Nat->Option Nat
 |_,[],_=>aY
 |vs,r::l,i=>if 8<aD (fF vs (Q3 (Qa r))) then aX i else nZ (fF vs (Q3 (Qa r))) l (i+1)
def lA(rs:List Rl):Int×Nat:=
 match jX (qI (fK rs)) rs 0 with
 |some i=>(4,i)
 |none=>match jX oY rs 0 with
  |some i=>(5,i)
  |none=>match nZ [] rs 0 with
   |some i=>(3,i)
   |none=>(0,0)
structure tu(qs:List (Rl×Vq×Vq)):Prop where
 I:aD qs<=1000
 n:∀q∈qs,aD q.1.n<=900
 c:aD (Q3 (Q9 qs))<=100000
 d:∀a∈Q9 qs,aD a.d<=1000/\∀t∈a.d,t.d<=1000000
def tu.e(h:tu qs)(k:Nat):tu (qs.take k):=by
 have C:∀a∈Q9 (qs.take k),a∈Q9 qs:=λa z=>by have⟨q,A,d7⟩:=cA.1 z;exact cA.2 ⟨q,cD A,d7⟩
 refine⟨by rw[dA];have:=h.I;lia,λq A=>h.n q (cD A),?_,λa z=>h.d a (C a z)⟩;have e:Q3 (Q9 qs)=Q3 (Q9 (qs.take k))++Q3 (Q9 (qs.drop k)):=by grind [Q3,Q9,cQ]
 have:=h.c;rw[e,cT] at this;lia
def Q5.e{n c:Nat}(h:Q5 W (Sc g (aD qs) c) qs)(k:Nat)(hk:k<=aD qs):Q5 W (Sc g k c) (qs.take k):=by
 refine⟨?_,λq hq=>h.z q (cD hq)⟩;have z:aD (qs.take k)=k:=by grind
 obtain⟨h0,⟨C,hn⟩|⟨g',E,A,C,hb,hw,h1,M,O,h4⟩⟩:=h.h
 .cases C
 cases C;refine⟨by rw[CA rR 3 CI],aU ⟨g,c,A,by rw[z],zz,hw,by lia,M,O,?_⟩⟩;rw[z];have e:A.toList.take (k*3)=(A.toList.take (aD qs*3)).take (k*3):=by grind
 rw[e,h4];have G:qs.flatMap rR=(qs.take k).flatMap rR++(qs.drop k).flatMap rR:=by{rw[<-List.flatMap_append,cQ]};rw[G,List.take_left' (by rw[CA rR 3 CI,z])]
def Fx(z:List ByteArray)(a b:List Tm):fF z (a++b)=fF (fF z a) b:=by unfold fF;rw[List.foldl_append]
def Hx{i:Nat}(z:i<aD qs):Q3 (Q9 (qs.take (i+1)))=Q3 (Q9 (qs.take i))++Q3 (Qa qs[i].1):=by grind [Q3,Q9,List.take_succ_eq_append_getElem]
def xt{va:Option Addr}{G:Nat}(h:Q5 W (aJ va (aD qs) G) qs)(i:Nat)(z:i<aD qs)(C:tu qs):∃g ps,va=aX ⟨g,0,aY⟩/\g<W.heap.size/\aE W (Ad g (i*3))=aX (aK qs[i].1.d.j)/\aE W (Ad g (i*3+1))=aX qs[i].2.1/\aE W (Ad g (i*3+2))=aX qs[i].2.2/\
   gY W (qs[i].1.d,qs[i].2.1)/\ps.map (·.1)=qs[i].1.n/\kW W qs[i].2.2 ps/\aD ps<=900/\(∃a c,qs[i].2.1=aJ a (aD qs[i].1.d.d) c)/\(∃a c,qs[i].2.2=aJ a (aD ps) c)/\
   ∀p∈(qs[i].1.d,qs[i].2.1)::ps,p.1∈Q9 qs/\aD p.1.d<=1000/\∀t∈p.1.d,t.d<=1000000:=by
 have⟨g,cap,e1,hg,c0,c1,c2,hA,ps,a9,be⟩:=h.d i z;cases e1;have M:=C.n qs[i] (zm z);refine⟨g,ps,rfl,hg,c0,c1,c2,hA,a9,be,by have:=congrArg aD a9;simp at this;lia,qd hA,qd be.h,λp A=>?_⟩;have E:p.1∈Q9 qs:=by refine cA.2 ⟨qs[i],cX z,?_⟩;obtain rfl|A:=bQ.1 A;{exact zs};refine cS _ ?_;rw[<-a9];exact cI.2 ⟨p,A,rfl⟩
 exact⟨E,C.d p.1 E⟩
theorem Lb(v:Vq)(qs:List (Rl×Vq×Vq))(w:Wq)(hR:Q5 w v qs)(a8:tu qs):Cs 110 #[v] w λe w'=>e=aQ (aN #[aO aR (lA (qs.map (·.1))).1,aO aR (lA (qs.map (·.1))).2])/\dK w.heap.size w w':=by
 obtain⟨N,hN⟩:=aB w.heap.size;have ao:=hN.s;obtain⟨va,vc,hv⟩:=qd hR.h;rw[<-hN];have HR:Hid (Q5 w v qs):=hR;subst hv;clear hR hN;have kd:=a8.I;have dm:Hid (tu qs):=a8;clear a8;obtain⟨A,E⟩:=aB (fK (qs.map (·.1)));have io:Hid (∀(rel:ByteArray) (W:Wq),dK N w W->Cs 117 #[aJ va (aD qs) vc,aK rel] W λe w'=>e=aQ (aO aR (gX A rel))/\dK N w w'/\dK W.heap.size W w'):=by intro rel W hW;refine (xL (aJ va (aD qs) vc) qs rel W (HR.o.f (by rw[ao];exact hW)) kd dm.o.n).m ?_;rintro e w' ⟨rfl,hb⟩;rw[A4,<-E];exact⟨rfl,hW.t (hb.m (by have:=hW.s;omega)),hb⟩
 generalize hS:lA (qs.map (·.1))=S at *;have di:Hid (match jX (qI A) (qs.map (·.1)) 0 with
  |some i=>S=(4,i)
  |none=>match jX oY (qs.map (·.1)) 0 with
   |some i=>S=(5,i)
   |none=>match nZ [] (qs.map (·.1)) 0 with
    |some i=>S=(3,i)
    |none=>S=(0,0)):=by
  rw[E,<-hS];unfold lA
  cases jX (qI (fK (qs.map (·.1)))) (qs.map (·.1)) 0 with
  |some i=>rfl
  |none=>
   cases jX oY (qs.map (·.1)) 0 with
   |some i=>rfl
   |none=>cases nZ [] (qs.map (·.1)) 0<;>rfl
 clear hS E;go_enter Tryz.func110,Tryz.ntmps110;go_wp2;go_loopw [4] (λp wr=>∃i:Nat,p=aO aR i/\i<=aD qs/\dK N w wr/\Hid (jX (qI A) ((qs.drop i).map (·.1)) i=jX (qI A) (qs.map (·.1)) 0)) (λp _=>aD qs-(intOf p).toNat)
 case atStart=>exact⟨0,rfl,zz,zr,rfl⟩
 obtain⟨i,rfl,ci,z,aa⟩:=hrel;by_cases af:i<aD qs
 .obtain⟨g,ps,rfl,hg,c0,c1,c2,E,a9,be,eu,⟨a1,a2,bj⟩,⟨b1,b2,bn⟩,bi⟩:=xt (HR.o.f (by rw[ao];exact z)) i af dm.o;have a7:N<=wr.heap.size:=by{have:=z.s;omega};have c5:=AC qs[i] ps wr E be (by omega);rw[bC af,bJ] at aa;simp only[jX] at aa;have g7:qI A qs[i].1=((qs[i].1.d,qs[i].2.1)::ps).any (λp=>qH A p.1):=by{unfold qI Qa;rw[<-a9,bZ,bZ,List.any_map];rfl};rw[g7] at aa;unfold pT at c5;rw[bj] at c1 c5 bi aa;rw[bn] at c2 c5;clear g7 a9;generalize qs[i]=q at *;generalize q.1.d.j=hrl at *;generalize hq:((q.1.d,aJ a1 (aD q.1.d.d) a2)::ps)=qp at *;have Ql1:aD qp<=901:=by{rw[<-hq];simp;omega};have C:Hid (dK N w wr):=z;clear z hq E be bj bn;go_wp2_with fail;refine c5.m ?_;rintro e W1 ⟨vp,rfl,ay,dz⟩;have iq:dK N w W1:=C.o.t (dz.m a7);obtain⟨pa,pc,gt⟩:=qd ay.h;subst gt;have b6:Hid (kW W1 (aJ pa (aD qp) pc) qp):=ay;have i4:Hid (dK N w W1):=iq;clear ay dz iq c5 c0 c1 c2;go_wp2;go_loopw [6] (λp wr=>∃k:Nat,p=aO aR k/\k<=aD qp/\dK N w wr/\kW wr (aJ pa (aD qp) pc) qp/\Hid ((qp.drop k).any (λp=>qH A p.1)=qp.any (λp=>qH A p.1))) (λp _=>aD qp-(intOf p).toNat)
  case atStart=>exact⟨0,rfl,zz,i4.o,b6.o,rfl⟩
  clear b6 i4 C;obtain⟨k,rfl,ey,z,ay,ac⟩:=hrel;by_cases bc:k<aD qp
  .obtain⟨g2,d3,e2,fe,d0,d1,⟨x1,x2,hx⟩,_⟩:=ay.d k bc;cases e2;rw[hx] at d1;have lc:=(bi qp[k] (zm bc)).2.1;rw[bC bc] at ac;simp only[bZ] at ac;have f5:=io.o qp[k].1.j wr z;generalize qp[k]=pk at *;have Qkf:qH A pk.1=decide (gX A pk.1.j≠pk.1.d.length):=rfl;generalize gX A pk.1.j=ar at *;generalize qH A pk.1=ab at *;generalize pk.1.j=pr at *;generalize (aD pk.1.d)=al at *;have b6:Hid (kW wr (aJ (aX ⟨g2,0,aY⟩) (aD qp) pc) qp):=ay;clear ay hx;have C:Hid (dK N w wr):=z;clear z;go_wp2_with fail;refine f5.m ?_;rintro e w2 ⟨rfl,M,aj⟩;have lx:aE w2 (Ad g2 (k*2+1))=aX (aJ x1 al x2):=(bG aj fe).t d1;have ga:=b6.o.f aj;clear f5 aj d0 d1;by_cases c6:ar=al
   .subst c6;have gx:ab=false:=by{rw[Qkf];simp};rw[gx] at ac;go_wp2;go_roundw
    case rel=>exact⟨k+1,by go_num,by omega,M,ga,by simpa using ac⟩
    simp[intOf];omega
   have gx:ab=true:=by{rw[Qkf];simpa using c6};rw[gx] at ac;have b3:qp.any (λp=>qH A p.1)=true:=by{rw[<-ac.o];simp};rw[b3,if_pos rfl] at aa;have Qd:Hid (S=(4,i)):=by{have h:=di.o;rw[<-aa.o] at h;exact h};have m1:((ar:Int) == (al:Int))=false:=by{simp;omega};have m2:((ar:Int) != (al:Int))=true:=by{simp;omega};go_wp2;go_ret2;rw[Qd.o];exact⟨rfl,M⟩
  rw[bD (by omega)] at ac;simp only[cJ] at ac;rw[<-ac.o,if_neg (by simp)] at aa;have C:Hid (dK N w wr):=z;clear ay z;go_wp2;go_roundw
  case rel=>exact⟨i+1,by go_num,by omega,C.o,aa⟩
  simp[intOf];omega
 rw[bD (by omega)] at aa;have G:jX (qI A) (qs.map (·.1)) 0=none:=by rw[<-aa.o];rfl
 have bq:Hid (match jX oY (qs.map (·.1)) 0 with
   |some i=>S=(5,i)
   |none=>match nZ [] (qs.map (·.1)) 0 with
    |some i=>S=(3,i)
    |none=>S=(0,0)):=by
  have h:=di.o;rw[G] at h;exact h
 have C:Hid (dK N w wr):=z;clear di G z aa io;go_wp2;go_loopw [8] (λp wr=>∃i:Nat,p=aO aR i/\i<=aD qs/\dK N w wr/\Hid (jX oY ((qs.drop i).map (·.1)) i=jX oY (qs.map (·.1)) 0)) (λp _=>aD qs-(intOf p).toNat)
 case atStart=>exact⟨0,rfl,zz,C.o,rfl⟩
 clear C;obtain⟨i,rfl,ci,z,aa⟩:=hrel;by_cases af:i<aD qs
 .obtain⟨g,ps,rfl,hg,c0,c1,c2,E,a9,be,eu,⟨a1,a2,bj⟩,⟨b1,b2,bn⟩,bi⟩:=xt (HR.o.f (by rw[ao];exact z)) i af dm.o;rw[bC af,bJ] at aa;simp only[jX] at aa;have jj:oY qs[i].1=qs[i].1.d.d.any (uh qs[i].1.n):=rfl;rw[jj] at aa;have jl:=(bi _ zs).2.1;simp only at jl;rw[bj] at c1;have dt:Hid _:=aa;have C:Hid (dK N w wr):=z;clear jj aa z E be bi a9 bj bn c0 c2 eu;go_wp2;go_loopw [9] (λp wr=>∃k:Nat,p=aO aR k/\k<=aD qs[i].1.d.d/\dK N w wr/\Hid ((qs[i].1.d.d.drop k).any (uh qs[i].1.n)=qs[i].1.d.d.any (uh qs[i].1.n))) (λp _=>aD qs[i].1.d.d-(intOf p).toNat)
  case atStart=>exact⟨0,rfl,zz,C.o,rfl⟩
  clear C c1;obtain⟨k,rfl,ey,z,ac⟩:=hrel;obtain⟨g',ps,e',hg,c0,c1,c2,E,a9,be,eu,⟨a1,a2,bj⟩,⟨b1,b2,bn⟩,bi⟩:=xt (HR.o.f (by rw[ao];exact z)) i af dm.o;cases e';have a7:N<=wr.heap.size:=by{have:=z.s;omega};by_cases bc:k<aD qs[i].1.d.d
  .obtain⟨g3,du,e3,lk,f0,f1⟩:=E.d k bc;simp only at e3 f0 f1;have f9:=(bi _ zs).2.2 _ (zm bc);rw[bC bc] at ac;simp only[bZ] at ac;rw[e3] at c1;rw[bn] at c2;have ie:Hid (∀X,dK wr.heap.size wr X->Cs 179 #[aL #[aK qs[i].1.d.j,aJ (aX ⟨g3,0,aY⟩) (aD qs[i].1.d.d) du,aJ b1 (aD ps) b2],aO aR qs[i].1.d.d[k].d] X λe w'=>e=aQ (aM (Qf qs[i].1.n qs[i].1.d.d[k].d))/\dK N w w'/\dK X.heap.size X w'):=by{intro X b8;have hb:=Nw qs[i] ps qs[i].1.d.d[k].d X (be.f b8) (E.o (Kp.d (S:=0) b8)) a9 (by omega) f9 (λp hp=>⟨by have:=(bi p (zt hp)).2.1;omega,(bi p (zt hp)).2.2⟩);unfold pT at hb;rw[e3,bn] at hb;refine hb.m ?_;rintro e w' ⟨rfl,fr⟩;refine⟨rfl,?_,fr⟩;exact (z.t (b8.m a7)).t (fr.m (by have:=b8.s;omega))};have Qoh:g≠wr.heap.size:=by{omega};have Qp1:g3≠wr.heap.size:=by{omega};have lh:∀O,aE (wr.alloc O) (Ad g (i*3))=aX (aK qs[i].1.d.j):=λO=>(bG ((bH wr.heap.size wr).l zl O) hg).t c0;have l3:∀O,aE (wr.alloc O) (Ad g (i*3+1))=aX (aJ (aX ⟨g3,0,aY⟩) (aD qs[i].1.d.d) du):=λO=>(bG ((bH wr.heap.size wr).l zl O) hg).t c1;have ln:∀O,aE (wr.alloc O) (Ad g (i*3+2))=aX (aJ b1 (aD ps) b2):=λO=>(bG ((bH wr.heap.size wr).l zl O) hg).t c2;have C:Hid (dK N w wr):=z;clear z E be bi bj bn e3 a9;have gy:uh qs[i].1.n qs[i].1.d.d[k]=(qs[i].1.d.d[k].c.toList.isEmpty && !Qf qs[i].1.n qs[i].1.d.d[k].d):=rfl;rw[gy] at ac;clear gy;generalize Qf qs[i].1.n qs[i].1.d.d[k].d=bb at *;generalize qs[i].1.d.d[k].d=nu at *;generalize qs[i].1.d.d[k].c=nm at *;generalize qs[i].1.d.j=rl at *;have hX:Hid (∀(O:Obj),dK wr.heap.size wr (wr.alloc O).drew):=λO=>((bH _ wr).l zl O).drew;go_wp2;go_region_with (go_at_call 179;refine (ie.o _ (hX.o _)).m ?_;rintro e w2 ⟨rfl,M,aj⟩);all_goals
    have lu:aE w2 (Ad wr.heap.size 0)=aX (aK nm):=by rw[bG aj (by show wr.heap.size<(wr.alloc _).heap.size;simp)];show aE (wr.alloc (aP #[aK nm,aO aR nu] 215)) (Ad wr.heap.size 0)=_;simp
    clear ie aj
    cases G:nm.toList.isEmpty with
    |false=>
     rw[G] at ac;go_wp2
     go_roundw
     case rel=>exact⟨k+1,by go_num,by omega,M,by simpa using ac⟩
     case measure=>simp[intOf];omega
    |true=>
     rw[G] at ac
     cases bb with
     |true=>
      go_wp2
      go_roundw
      case rel=>exact⟨k+1,by go_num,by omega,M,by simpa using ac⟩
      case measure=>simp[intOf];omega
     |false=>
      have b3:qs[i].1.d.d.any (uh qs[i].1.n)=true:=by rw[<-ac.o];simp
      have Qd:Hid (S=(5,i)):=by have h:=bq.o;have h2:=dt.o;rw[b3,if_pos rfl] at h2;rw[<-h2] at h;exact h
      go_wp2;go_ret2;rw[Qd.o];exact⟨rfl,M⟩
  rw[bD (by omega)] at ac;simp only[cJ] at ac;have cf:=dt.o;rw[<-ac.o,if_neg (by simp)] at cf;have d8:Hid _:=cf;have C:Hid (dK N w wr):=z;rw[bj] at c1;clear z E be bi bj bn ac cf c0 c2;go_wp2;go_roundw
  case rel=>exact⟨i+1,by go_num,by omega,C.o,d8⟩
  simp[intOf];omega
 rw[bD (by omega)] at aa;have G:jX oY (qs.map (·.1)) 0=none:=by rw[<-aa.o];rfl
 have d8:Hid (match nZ [] (qs.map (·.1)) 0 with
    |some i=>S=(3,i)
    |none=>S=(0,0)):=by
  have h:=bq.o;rw[G] at h;exact h
 have C:Hid (dK N w wr):=z;clear bq G z aa;go_wp2;go_loopw [12] (λp wr=>∃i:Nat,p=aO aR i/\i<=aD qs/\dK N w wr/\Hid (nZ (fF [] (Q3 (Q9 (qs.take i)))) ((qs.drop i).map (·.1)) i=nZ [] (qs.map (·.1)) 0)) (λp _=>aD qs-(intOf p).toNat)
 case atStart=>exact⟨0,rfl,zz,C.o,rfl⟩
 clear C;obtain⟨i,rfl,ci,z,aa⟩:=hrel;by_cases af:i<aD qs
 .have ft:=HR.o.f (by rw[ao];exact z);obtain⟨g,cap,e1,hg,_⟩:=ft.d i af;cases e1;have jq:aD qs<=vc:=by{obtain⟨_,⟨hv,hn⟩|⟨g',jz,fm,hv,hb,hw,G,_⟩⟩:=ft.h;{cases hv};cases hv;exact G};have ax:aD (qs.take (i+1))=i+1:=by{rw[dA];omega};have d9:=dm.o.e (i+1);have fp:=C1 (aJ (aX ⟨g,0,aY⟩) (i+1) vc) (qs.take (i+1)) wr (Q5.e (n:=0) ft (i+1) (by omega)) d9.I d9.n d9.c (λa ha=>(d9.d a ha).1);have a7:N<=wr.heap.size:=by{have:=z.s;omega};rw[bC af,bJ] at aa;simp only[nZ] at aa;rw[<-Fx,<-Hx af] at aa;have jf:=(BO (Q3 (Q9 (qs.take (i+1)))) []).2;have kj:=d9.c;generalize hnle:fF [] (Q3 (Q9 (qs.take (i+1))))=nl at *;have kb:Hid (fF [] (Q3 (Q9 (qs.take (i+1))))=nl):=hnle;clear hnle;have Qad:aD nl<=100000:=by{simp at jf;omega};have lq:(i:Int)+1<=(vc:Int):=by{omega};have Qp6:i+1<=vc:=by{omega};have C:Hid (dK N w wr):=z;clear z ft d9 ax jf kj;by_cases h8:8<aD nl;{rw[if_pos h8] at aa;have Qd:Hid (S=(3,i)):=by{have h:=d8.o;rw[<-aa.o] at h;exact h};go_wp2_with fail;refine fp.m ?_;rintro e w2 ⟨v2,rfl,bk⟩;obtain⟨na,nc,rfl⟩:=qd bk.z;have M:dK N w w2:=C.o.t (bk.f.m a7);clear bk fp;go_wp2;go_ret2;rw[Qd.o];exact⟨rfl,M⟩};rw[if_neg h8] at aa;go_wp2_with fail;refine fp.m ?_;rintro e w2 ⟨v2,rfl,bk⟩;obtain⟨na,nc,rfl⟩:=qd bk.z;have M:dK N w w2:=C.o.t (bk.f.m a7);clear bk fp;go_wp2;go_roundw
  case rel=>exact⟨i+1,by go_num,by omega,M,by rw[kb.o];exact aa⟩
  simp[intOf];omega
 rw[bD (by omega)] at aa;have G:nZ [] (qs.map (·.1)) 0=none:=by rw[<-aa.o];rfl
 have Qd:Hid (S=(0,0)):=by have h:=d8.o;rw[G] at h;exact h
 go_wp2;go_ret2;rw[Qd.o];exact⟨rfl,z⟩
def oC(l:Lk)(ts:List RT):Prop:=(fZ l ts).1=0
def pF(ts:List RT):Prop:=∃pre E,ts=pre++[E]/\E.d=4
def sf(h:oC l (t::us))(z:mN l t=false):(Qk l t).e=0/\oC (Qk l t) us:=by grind [oC,fZ]
theorem oR(h:pF (t::us))(z:t.d≠4):pF us:=by
 have⟨pre,E,h1,h2⟩:=h;cases pre with
 |nil=>simp at h1;exact absurd (by grind) z
 |cons p pre=>simp at h1;exact⟨pre,E,h1.2,h2⟩
theorem pZ:¬pF []:=by rintro⟨pre,E,z,_⟩;simp at z
def sq(h0:l.a≠0)(z:l.a≠6):mN l t=false:=by grind [mN]
def EF(z:l.a=3)(h:(Qk l t).e=0):(t.d=1\/t.d=2)/\l.d+1<=2/\t.a<=8/\Qk l t={l with d:=l.d+1,a:=4}:=by grind [Qk,iU,iY,kP]
def L6(z:l.a=1)(h:(Qk l t).e=0):t.d=1/\l.f+1<=3/\t.a<=8/\Qk l t={l with f:=l.f+1,a:=2}:=by grind [Qk,iU,iY,kP]
def CZ(z:l.a=0)(h:(Qk l t).e=0):t.d=1/\l.u+1<=8/\t.a<=8/\Qk l t={l with u:=l.u+1,n:=false,a:=2}:=by grind [Qk,iU,iY,kP]
def Ah(z:l.a=2)(h:(Qk l t).e=0):t.d=40/\Qk l t={l with d:=0,a:=3}:=by grind [Qk,gJ]
def Kw(A:l.a=4)(z:l.c=false)(h:(Qk l t).e=0):(t.d=44/\Qk l t={l with a:=3})\/(t.d=41/\Qk l t={l with a:=5}):=by grind [Qk,gJ]
def Jc(z:l.a=5)(h:(Qk l t).e=0):(t.d=46/\Qk l t={l with a:=0})\/(t.d=44/\l.n=true/\Qk l t={l with a:=1})\/(t.d=3/\l.n=false/\Qk l t={l with n:=true,f:=0,a:=1}):=by
 have hs:Qk l t=gJ l t:=by grind [Qk]
 rw[hs] at h ⊢;unfold gJ at h ⊢;simp only[z] at h ⊢;simp at h ⊢;by_cases A:t.d=46
 .grind
 grind
theorem Ce:∀(n:Nat) (ts:List RT) (l:Lk) (z:List ByteArray),aD ts<=n->l.a=3->l.e=0->l.c=false->pF ts->oC l ts->
  ∃L C k,gG z ts=aX (L,C,k)/\l.d+aD L<=2/\oC {l with a:=5,d:=l.d+aD L} (ts.drop k)/\pF (ts.drop k)/\(∀t∈L,t.d<=aD z+aD L)/\aD C<=aD z+aD L
 |0,ts,l,z,hn,_,_,_,hE,_=>by grind [pZ]
 |n+1,[],l,z,hn,_,_,_,hE,_=>absurd hE pZ
 |n+1,t::us,l,z,hn,hw,he,ct,hE,a8=>by
  have⟨h1,h2⟩:=sf a8 (sq (by grind) (by grind));have⟨hk,hg,hr,bu⟩:=EF hw h1;have G:=oR hE (by lia);rw[bu] at h2
  have f9:(lF z t).d<=aD z:=by
   unfold lF;split;{exact cP};{simp}
  have M:=yl z t
  cases us with
  |nil=>exact absurd G pZ
  |cons b us=>
   have⟨h3,h4⟩:=sf h2 (sq (by simp) (by simp));obtain⟨O,A⟩|⟨O,A⟩:=Kw (l:={l with d:=l.d+1,a:=4}) rfl (by grind) h3
   .rw[A] at h4;have E:=oR G (by lia);have⟨L,C,k,r1,r2,r3,r4,r5,r6⟩:=Ce n us {l with d:=l.d+1,a:=3} (mB z t) (by grind) rfl he ct E h4;refine⟨lF z t::L,C,k+2,?_,?_,?_,?_,?_,?_⟩;{grind [gG]};{grind};{grind};{grind};{grind};{grind}
   .rw[A] at h4;have E:=oR G (by lia);refine⟨[lF z t],mB z t,2,?_,hg,h4,E,?_,M⟩;{grind [gG]};{grind}
theorem G1:∀(f:Nat) (ts:List RT) (l:Lk) (C:List ByteArray),aD ts<f->l.a=5->l.e=0->l.c=false->pF ts->oC l ts->(l.n=true->l.f<=3)->
  ∃z m A,nK f C ts=aX (z,m)/\(if l.n=true then l.f+aD z<=3 else aD z<=3)/\A.a=0/\A.u=l.u/\A.e=0/\A.c=false/\oC A (ts.drop (m+1))/\pF (ts.drop (m+1))/\
   (∀a∈z,aD a.d<=2/\∀t∈a.d,t.d<=aD C+2*aD z)
 |0,ts,l,C,G,_,_,_,_,_,_=>by lia
 |f+1,[],l,C,G,_,_,_,hE,_,_=>absurd hE pZ
 |f+1,t::us,l,C,G,hw,he,ct,hE,a8,aj=>by
  have⟨h1,h2⟩:=sf a8 (sq (by grind) (by grind))
  have M:∀l1:Lk,l1.a=1->l1.e=0->l1.c=false->l1.n=true->l1.u=l.u->oC l1 us->pF us->t.d≠46->(∀n,l1.f+n<=3->if l.n=true then l.f+n<=3 else n<=3)->
    ∃z m A,nK (f+1) C (t::us)=aX (z,m)/\(if l.n=true then l.f+aD z<=3 else aD z<=3)/\A.a=0/\A.u=l.u/\A.e=0/\A.c=false/\oC A ((t::us).drop (m+1))/\pF ((t::us).drop (m+1))/\
     (∀a∈z,aD a.d<=2/\∀t∈a.d,t.d<=aD C+2*aD z):=by
   intro l1 w1 e1 a1 b1 r1 o1 O l7 dy
   cases us with
   |nil=>exact absurd O pZ
   |cons r us=>
    have⟨g1,g2⟩:=sf o1 (sq (by grind) (by grind));have⟨kr,ka,k9,ev⟩:=L6 w1 g1;have E2:=oR O (by lia);rw[ev] at g2
    cases us with
    |nil=>exact absurd E2 pZ
    |cons p us=>
     have⟨g3,g4⟩:=sf g2 (sq (by simp) (by simp));have⟨kp,cr⟩:=Ah (l:={l1 with f:=l1.f+1,a:=2}) rfl g3;have E3:=oR E2 (by lia);rw[cr] at g4;have⟨L,a6,k,q1,q2,q3,q4,q5,q6⟩:=Ce (aD us) us {l1 with f:=l1.f+1,d:=0,a:=3} C zl rfl e1 a1 E3 g4;have ax:aD (us.drop k)<f:=by{grind};have⟨z,m,A,p1,p2,p3,p4,p5,p6,p7,p8,p9⟩:=G1 f (us.drop k) {l1 with f:=l1.f+1,d:=0+aD L,a:=5} a6 ax rfl e1 a1 q4 q3 (λ_=>by simp;lia);simp only[b1,if_true] at p2;refine⟨⟨r.f,L⟩::z,3+k+m,A,?_,?_,p3,p4.t r1,p5,p6,?_,?_,?_⟩;{grind [nK]};{simp only[cE];exact dy (aD z+1) (by lia)};{grind [dG]};{grind [dG]};{grind}
  obtain⟨hk,E⟩|⟨hk,jy,E⟩|⟨hk,jy,E⟩:=Jc hw h1
  .rw[E] at h2;refine⟨[],0,{l with a:=0},?_,?_,rfl,rfl,he,ct,h2,oR hE (by lia),λa ha=>by cases ha⟩;{simp_all [nK]};{grind}
  .grind [oR]
  .rw[E] at h2;exact M {l with n:=true,f:=0,a:=1} rfl he ct rfl rfl h2 (oR hE (by lia)) (by lia) (λn G=>by rw[if_neg (by grind)];simpa using G)
structure tR(r:Rl):Prop where
 d:aD r.d.d<=2/\∀t∈r.d.d,t.d<=100
 I:aD r.n<=3
 n:∀a∈r.n,aD a.d<=2/\∀t∈a.d,t.d<=100
theorem zw:∀(f:Nat) (ts:List RT) (l:Lk),aD ts<f->l.a=0->l.e=0->l.c=false->pF ts->oC l ts->l.u<=8->
  ∃rs,nG f ts=aX rs/\l.u+aD rs<=8/\∀r∈rs,tR r
 |0,ts,l,hn,_,_,_,_,_,_=>by lia
 |f+1,[],l,hn,_,_,_,hE,_,_=>absurd hE pZ
 |f+1,t::us,l,hn,hw,he,ct,hE,a8,h8=>by
  by_cases kz:t.d=4;{simp_all [nG]}
  .have⟨h1,h2⟩:=sf a8 (by grind [mN]);have⟨kt,kr,jk,ev⟩:=CZ hw h1;have C:=oR hE kz;rw[ev] at h2
   cases us with
   |nil=>exact absurd C pZ
   |cons p us=>
    have⟨g3,g4⟩:=sf h2 (sq (by simp) (by simp));have⟨kp,cr⟩:=Ah (l:={l with u:=l.u+1,n:=false,a:=2}) rfl g3;have M:=oR C (by lia);rw[cr] at g4;have⟨L,a6,k,q1,q2,q3,q4,q5,q6⟩:=Ce (aD us) us {l with u:=l.u+1,n:=false,d:=0,a:=3} [] zl rfl he ct M g4;simp only[cL,dE] at q2 q5 q6;have gi:=(wN _ _ _ _ _ q1).2.1;have O:=(wN _ _ _ _ _ q1).2.2.1;have⟨bs,m,l',p1,p2,p3,p4,p5,p6,p7,p8,p9⟩:=G1 (aD us) (us.drop k) {l with u:=l.u+1,n:=false,d:=0+aD L,a:=5} a6 (by simp;lia) rfl he ct q4 q3 (λh=>by simp at h);simp only[dO,if_false] at p2;have g5:l'.u=l.u+1:=p4;have⟨rs,s1,s2,s3⟩:=zw f ((us.drop k).drop (m+1)) l' (by grind) p3 p5 p6 p8 p7 (by lia);refine⟨⟨⟨t.f,L⟩,bs⟩::rs,?_,by simp;lia,λr G=>?_⟩;{grind [nG]}
    .obtain rfl|G:=bQ.1 G
     .exact⟨⟨q2,λA z=>by have:=q5 A z;lia⟩,p2,λa E=>⟨(p9 a E).1,λA z=>by have:=(p9 a E).2 A z;lia⟩⟩
     .grind
def gU(alone:Bool):Lk:=⟨0,false,alone,0,0,0,0⟩
def iT(s:ByteArray):Except (Int×Nat) (List Rl):=
 if 300<aD (R s 0) then .error (1,0)
 else if (fZ (gU false) (Q7 s)).1≠0 then .error (fZ (gU false) (Q7 s))
 else match nG (aD (Q7 s)+1) (Q7 s) with
  |none=>.error (0,0)
  |some rs=>if (lA rs).1≠0 then .error (lA rs) else .ok rs
theorem yg:∀(f:Nat) (l:List Rn) (i:Nat),aD (fL f l i)<=aD l
 |0,l,i=>by simp[fL]
 |f+1,[],i=>by simp[fL]
 |f+1,r::l,i=>by
  unfold fL;have z:=yg f (l.drop (aD (tw l))) (i+(1+aD (tw l)));have C:=yg f l (i+1);have A:=yg f (l.drop 1) (i+2);rw[cM] at z A
  repeat' split
  all_goals simp only[cE]
  all_goals lia
def FA(s:ByteArray):aD (Q7 s)<=aD (R s 0)+1:=by grind [Q7,yg,R]
def wP(s:ByteArray):pF (Q7 s):=⟨_,_,rfl,rfl⟩
theorem Ie(rs:List Rl)(h:∀r∈rs,tR r):aD (Q3 (fK rs))<=8*aD rs:=by
 induction rs with
 |nil=>simp[fK,Q3]
 |cons r rs ih=>
  have A:=h r zs;have O:=ih (λM C=>h M (zt C));have e:Q3 (fK (r::rs))=r.d.d++Q3 r.n++Q3 (fK rs):=by{grind [fK,Q3,Qa]};have G:∀(z:List Am),(∀a∈z,aD a.d<=2)->aD (Q3 z)<=2*aD z:=by
   intro z;induction z with
   |nil=>intro _;simp[Q3]
   |cons a z ihb=>grind [Q3]
  have h3:=G r.n (λa E=>(A.n a E).1);have h4:=A.d.1;have h5:=A.I;rw[e];simp only[cT,cE];lia
def IG(M:qs.map (·.1)=rs)(O:aD rs<=8)(h:∀r∈rs,tR r):tu qs:=by
 have hl:aD qs=aD rs:=by grind
 have E:∀q∈qs,tR q.1:=λq z=>h q.1 (by rw[<-M];exact cI.2 ⟨q,z,rfl⟩);refine⟨by lia,λq z=>by have:=(E q z).I;lia,?_,λa G=>?_⟩
 .grind [Ie,A4]
 have⟨q,z,A⟩:=cA.1 G;have hs:=E q z;obtain rfl|A:=bQ.1 A
 .exact⟨by have:=hs.d.1;lia,λt C=>by have:=hs.d.2 t C;lia⟩
 exact⟨by have:=(hs.n a A).1;lia,λt C=>by have:=(hs.n a A).2 t C;lia⟩
def zC{v:Vq}{ts:List RT}(h:aH W B 244 4 v (aD ts) (ts.flatMap rU))(C:0<aD ts):∃g z,v=Sc g (aD ts) z/\r9 W g ts:=by have⟨g,z,e1,e2,e3,e4,e5⟩:=lH h Kq C;refine⟨g,z,e1,⟨e3,λj A=>⟨e5 j 0 A _ (by lia) rfl,e5 j 1 A _ (by lia) rfl,e5 j 2 A _ (by lia) rfl,e5 j 3 A _ (by lia) rfl⟩⟩,?_⟩;exact qg h (by rw[e1];rfl)
def qE(s:ByteArray)(e:dP)(w':Wq):Prop:=
 match iT s with
 |.error (c,p)=>e=aQ (aN #[aJ aY 0 0,aO aR c,aO aR p])
 |.ok rs=>∃v qs,e=aQ (aN #[v,aO aR 0,aO aR 0])/\Q5 w' v qs/\qs.map (·.1)=rs/\tu qs/\aD rs<=8/\∀r∈rs,tR r
theorem EA(s:ByteArray)(w:Wq)(hs:s.size<=1048576):Cs 64 #[aK s] w λe w'=>qE s e w'/\dK w.heap.size w w':=by
 obtain⟨N,hN⟩:=aB w.heap.size;have b9:=AA s w hs;rw[<-hN] at b9 ⊢;by_cases aq:300<aD (R s 0)
 .have A:iT s=.error (1,0):=by{unfold iT;rw[if_pos aq]};have HD:Hid (∀(e:dP)(w':Wq),e=aQ (aN #[aJ aY 0 0,aO aR 1,aO aR 0])->qE s e w'):=by{intro e w' he;unfold qE;rwa[A]};clear A;generalize R s 0=L at *;go_enter Tryz.func64,dZ;go_wp2_with fail;refine b9.m ?_;rintro e W1 ⟨v1,rfl,G,C⟩;obtain⟨a1,c1,rfl⟩:=qd G;clear G b9;go_wp2;go_ret3;exact⟨HD.o _ _ rfl,C⟩
 have hL:aD (R s 0)<=300:=by omega
 have df:=λW1=>Bj s W1 hs (by omega);have jr:=FA s;have da:=wP s;have A:iT s=if (fZ (gU false) (Q7 s)).1≠0 then .error (fZ (gU false) (Q7 s)) else match nG (aD (Q7 s)+1) (Q7 s) with
  |none=>.error (0,0)
  |some rs=>if (lA rs).1≠0 then .error (lA rs) else .ok rs:=by unfold iT;rw[if_neg aq]
 generalize Q7 s=ts at *;have c6:0<aD ts:=by have⟨pre,E,h1,_⟩:=da;rw[h1];simp
 have db:=λ(g z:Nat) (W:Wq) (h:tt W g ts)=>CY g z ts false W h (by omega);by_cases ck:(fZ (gU false) ts).1=0
 .have⟨rs,c7,d4,es⟩:=zw (aD ts+1) ts (gU false) (by omega) rfl rfl rfl da ck (by decide);rw[if_neg (by simpa using ck),c7] at A;simp only at A;have i9:=λ(g z:Nat) (W:Wq) (h:r9 W g ts)=>JD g z ts (aD ts+1) rs W h (by omega) c7;have h8:aD rs<=8:=by{simp[gU] at d4;exact d4};have HD:=aA A;have iz:=aA es;have Qah:Hid (∀(g z:Nat)(W:Wq),tt W g ts->Cs 108 #[Sc g (aD ts) z,aM false] W λe w'=>(∃p:Nat,e=aQ (aN #[aO aR 0,aO aR p]))/\dK W.heap.size W w'):=by{intro g z W h;refine (db g z W h).m ?_;rintro e w' ⟨rfl,hb⟩;refine⟨⟨(fZ (gU false) ts).2,?_⟩,hb⟩;have e0:(fZ ⟨0,false,false,0,0,0,0⟩ ts).1=0:=ck;rw[e0];rfl};clear db A c7 d4 es ck da aq;generalize R s 0=L at *;go_enter Tryz.func64,dZ;go_wp2_with fail;refine b9.m ?_;rintro e W1 ⟨v1,rfl,G,C⟩;obtain⟨a1,c1,rfl⟩:=qd G;clear G b9;go_wp2_with fail;refine (df W1).m ?_;rintro e W2 ⟨v2,rfl,bh,M⟩;obtain⟨g,z,rfl,b7⟩:=zC bh c6;have dn:N<=W1.heap.size:=by{have:=C.s;omega};have ch:=C.t (M.m dn);have bk:=bO dn M.s;clear bh df C M;go_wp2_with fail;refine (Qah.o g z W2 b7.1).m ?_;rintro e W3 ⟨⟨p3,rfl⟩,O⟩;have fc:=b7.f O b7.1.1;have cn:=ch.t (O.m bk);have ek:=bO bk O.s;clear O b7 Qah ch;go_wp2_with fail;refine (i9 g z W3 fc).m ?_;rintro e W4 ⟨v4,qs,rfl,hO,hq⟩;have fz:=hO.u;have dp:=cn.t (hO.f.m ek);have dj:=bO ek hO.size;have a8:=IG hq h8 iz.o;have ea:=Lb v4 qs W4 fz a8;rw[hq] at ea;clear i9 hO cn fc;by_cases fy:(lA rs).1=0;{have fb:Hid (∀(e:dP) (w':Wq),(∃v qs,e=aQ (aN #[v,aO aR 0,aO aR 0])/\Q5 w' v qs/\qs.map (·.1)=rs/\tu qs/\aD rs<=8/\∀r∈rs,tR r)->qE s e w'):=by{intro e w' he;unfold qE;rw[HD.o,if_neg (by simpa using fy)];exact he};rw[fy] at ea;go_wp2_with fail;refine ea.m ?_;rintro e W5 ⟨rfl,ee⟩;have kl:=fz.f ee;have gz:dK N w W5:=dp.t (ee.m dj);clear ea fz ee dp;go_wp2;go_ret3;exact⟨fb.o _ _ ⟨v4,qs,rfl,kl,hq,a8,h8,iz.o⟩,gz⟩};have fb:Hid (∀(e:dP) (w':Wq),e=aQ (aN #[aJ aY 0 0,aO aR (lA rs).1,aO aR (lA rs).2])->qE s e w'):=by{intro e w' he;unfold qE;rw[HD.o,if_pos fy];exact he};generalize (lA rs).1=se at *;generalize (lA rs).2=si at *;have m1:(se != 0)=true:=by{simpa using fy};go_wp2_with fail;refine ea.m ?_;rintro e W5 ⟨rfl,ee⟩;have gz:dK N w W5:=dp.t (ee.m dj);clear ea fz ee dp;go_wp2;go_ret3;exact⟨fb.o _ _ rfl,gz⟩
 rw[if_pos ck] at A;have fb:Hid (∀(e:dP) (w':Wq),e=aQ (aN #[aJ aY 0 0,aO aR (fZ (gU false) ts).1,aO aR (fZ (gU false) ts).2])->qE s e w'):=by intro e w' he;unfold qE;rw[A];exact he
 have Qaj:Hid (∀(g z:Nat) (W:Wq),tt W g ts->Cs 108 #[Sc g (aD ts) z,aM false] W λe w'=>e=aQ (aN #[aO aR (fZ (gU false) ts).1,aO aR (fZ (gU false) ts).2])/\dK W.heap.size W w'):=db;clear db A da aq;generalize (fZ (gU false) ts).1=oe at *;generalize (fZ (gU false) ts).2=op at *;generalize R s 0=L at *;have m1:(oe != 0)=true:=by simpa using ck
 go_enter Tryz.func64,dZ;go_wp2_with fail;refine b9.m ?_;rintro e W1 ⟨v1,rfl,G,C⟩;obtain⟨a1,c1,rfl⟩:=qd G;clear G b9;go_wp2_with fail;refine (df W1).m ?_;rintro e W2 ⟨v2,rfl,bh,M⟩;obtain⟨g,z,rfl,b7⟩:=zC bh c6;have dn:N<=W1.heap.size:=by have:=C.s;omega
 have ch:dK N w W2:=C.t (M.m dn);have bk:N<=W2.heap.size:=bO dn M.s;clear bh df C M;go_wp2_with fail;refine (Qaj.o g z W2 b7.1).m ?_;rintro e W3 ⟨rfl,O⟩;have cn:dK N w W3:=ch.t (O.m bk);clear O b7 Qaj ch;go_wp2;go_ret3;exact⟨fb.o _ _ rfl,cn⟩
theorem Iw:∀(n:Nat) (w:Wq),n<=1000000->Cs 111 #[aO aR n] w λe w'=>e=aQ (aK (qL n))/\w'=w:=by
 intro n;induction n using Nat.strongRecOn with
 |ind n ih=>intro w M;have lp:(n:Int).tmod 10=((n % 10:Nat):Int):=by{rw[Int.tmod_eq_emod_of_nonneg (by omega)];omega};have l0:(n:Int).tdiv 10=((n / 10:Nat):Int):=by{rw[Int.tdiv_eq_ediv_of_nonneg (by omega)];omega};have C:n % 10<10:=by{omega};by_cases h:n<10;{have z:=KN n h;have A:=aA z;clear z;go_enter Tryz.func111,Tryz.ntmps111;go_wp2;go_ret;rw[A.o];exact⟨rfl,rfl⟩};have z:=GW n h;have A:=aA z;have E:=ih (n / 10) (by omega) w (by omega);have G:=yL (n / 10);generalize qL (n / 10)=dq at *;clear z ih;go_enter Tryz.func111,Tryz.ntmps111;go_wp2_with fail;refine E.m ?_;rintro e w' ⟨rfl,rfl⟩;have l6:((⟨#[48,49,50,51,52,53,54,55,56,57]⟩:ByteArray).extract (n % 10) (n % 10+1)).size<=1:=by{rw[zq _ C];exact cF 1};generalize (⟨#[48,49,50,51,52,53,54,55,56,57]⟩:ByteArray).extract (n % 10) (n % 10+1)=dg at *;have O:dq.size+dg.size<=2000000:=by{omega};go_wp2;go_ret;rw[A.o];exact⟨rfl,rfl⟩
def wy(t:Tm):ByteArray:=if t.c.toList.isEmpty=true then ⟨#[88]⟩++qL t.d else t.c
def pI:Nat->List Tm->ByteArray
 |_,[]=>⟨#[]⟩
 |i,t::l=>(if 0<i then ⟨#[44]⟩ else ⟨#[]⟩)++wy t++pI (i+1) l
def rL(a:Am):ByteArray:=(a.j ++ ⟨#[40]⟩)++pI 0 a.d ++ ⟨#[41]⟩
def zK(x:ByteArray):x ++ ⟨#[]⟩=x:=by show x++dF=x;simp
def zO(x:ByteArray):(⟨#[]⟩:ByteArray)++x=x:=by show dF++x=x;simp
def Dw(p:Am×Vq)(w:Wq)(hA:gY w p)(hr:p.1.j.size<=2000)(hl:aD p.1.d<=1000)(hn:∀t∈p.1.d,t.c.size<=2000/\t.d<=1000):Cs 65 #[aL #[aK p.1.j,p.2]] w λe w'=>e=aQ (aK (rL p.1))/\dK w.heap.size w w':=by
 have⟨⟨rel,args⟩,va⟩:=p;simp only at hr hl hn ⊢;have⟨a1,a2,hq⟩:=qd hA;simp only at hq;subst hq;have HC:Hid (∀(O:Obj)(j:Nat)(hj:j<aD args),∃g,a1=aX ⟨g,0,aY⟩/\aE (w.alloc O) (Ad g (j*2))=aX (aK args[j].c)/\aE (w.alloc O) (Ad g (j*2+1))=aX (aO aR args[j].d)):=by intro O j hj;have⟨g,cap,e1,hg,M,c1⟩:=hA.d j hj;cases e1;have hb:=(bH _ w).l zl O;exact⟨g,rfl,(bG hb hg).t M,(bG hb hg).t c1⟩
 have b8:=aA λO=>(bH _ w).l zl O;clear hA;have b4:(⟨#[40]⟩:ByteArray).size=1:=rfl;have bv:(⟨#[44]⟩:ByteArray).size=1:=rfl;have js:(⟨#[88]⟩:ByteArray).size=1:=rfl;have kx:(⟨#[41]⟩:ByteArray).size=1:=rfl;have hW:Hid (rL ⟨rel,args⟩=(rel ++ ⟨#[40]⟩)++pI 0 args ++ ⟨#[41]⟩):=rfl;generalize rL ⟨rel,args⟩=T at *;go_enter Tryz.func65,Tryz.ntmps65;go_wp2;go_loopw [3,4] (λx p wr=>∃(k:Nat)(z:ByteArray),x=aK z/\p=aO aR k/\k<=aD args/\wr=w.alloc (aP #[aK rel,aJ a1 (aD args) a2] 145)/\z.size<=2001+k*4000/\Hid (T=z++pI k (args.drop k) ++ ⟨#[41]⟩)) (λ_ p _=>aD args-(intOf p).toNat)
 case atStart=>exact⟨0,_,rfl,rfl,zz,rfl,by rw[bB];omega,hW⟩
 obtain⟨k,z,rfl,rfl,ci,rfl,cq,aa⟩:=hrel;by_cases af:k<aD args
 .obtain⟨g,rfl,M,c1⟩:=HC.o (aP #[aK rel,aJ a1 (aD args) a2] 145) k af;have hm:=hn args[k] (zm af);rw[bC af] at aa;generalize args[k]=tm at *;have⟨nm,nu⟩:=tm;simp only at M c1 hm;simp only[pI,wy] at aa;have ly:=yL nu;have gh:=Iw nu (w.alloc (aP #[aK rel,Sc g (aD args) a2] 145)) (by omega);generalize qL nu=ds at *;have am:z.size+1<=100000000:=by{omega};by_cases E:nm.toList.isEmpty=true
  .rw[if_pos E] at aa;by_cases h0:k=0
   .subst h0;rw[if_neg (by decide)] at aa;have A:Hid (T=z ++ ⟨#[88]⟩++ds++pI 1 (args.drop 1) ++ ⟨#[41]⟩):=by{show _=_;rw[aa.o,zO];simp only[bF]};have G:(z ++ ⟨#[88]⟩).size+ds.size<=100000000:=by{rw[bB];omega};have C:Hid ((z ++ ⟨#[88]⟩++ds).size<=2001+1*4000):=by{show _<=_;rw[bB,bB];omega};clear aa;go_wp2_with (go_at_call 111;refine gh.m ?_;rintro e w' ⟨rfl,rfl⟩);go_roundw
    case rel=>exact⟨1,_,rfl,by go_num,by omega,by trivial,C.o,A⟩
    simp[intOf];omega
   rw[if_pos (by omega)] at aa;have A:Hid (T=z ++ ⟨#[44]⟩ ++ ⟨#[88]⟩++ds++pI (k+1) (args.drop (k+1)) ++ ⟨#[41]⟩):=by{show _=_;rw[aa.o];simp only[bF]};have ig:0<k:=by{omega};have G:(z ++ ⟨#[44]⟩).size+1<=100000000:=by{rw[bB];omega};have C:(z ++ ⟨#[44]⟩ ++ ⟨#[88]⟩).size+ds.size<=100000000:=by{rw[bB,bB];omega};have f4:Hid ((z ++ ⟨#[44]⟩ ++ ⟨#[88]⟩++ds).size<=2001+(k+1)*4000):=by{show _<=_;rw[bB,bB,bB];omega};clear aa;go_wp2_with (go_at_call 111;refine gh.m ?_;rintro e w' ⟨rfl,rfl⟩);go_roundw
   case rel=>exact⟨k+1,_,rfl,by go_num,by omega,by trivial,f4.o,A⟩
   simp[intOf];omega
  have ef:nm.toList.isEmpty=false:=by{simpa using E};rw[if_neg E] at aa;clear E gh;by_cases h0:k=0
  .subst h0;rw[if_neg (by decide)] at aa;have A:Hid (T=z++nm++pI 1 (args.drop 1) ++ ⟨#[41]⟩):=by{show _=_;rw[aa.o,zO];simp only[bF]};have G:z.size+nm.size<=100000000:=by{omega};have C:Hid ((z++nm).size<=2001+1*4000):=by{show _<=_;rw[bB];omega};clear aa;go_wp2;go_roundw
   case rel=>exact⟨1,_,rfl,by go_num,by omega,by trivial,C.o,A⟩
   simp[intOf];omega
  rw[if_pos (by omega)] at aa;have A:Hid (T=z ++ ⟨#[44]⟩++nm++pI (k+1) (args.drop (k+1)) ++ ⟨#[41]⟩):=by{show _=_;rw[aa.o];simp only[bF]};have ig:0<k:=by{omega};have G:(z ++ ⟨#[44]⟩).size+nm.size<=100000000:=by{rw[bB];omega};have C:Hid ((z ++ ⟨#[44]⟩++nm).size<=2001+(k+1)*4000):=by{show _<=_;rw[bB,bB];omega};clear aa;go_wp2;go_roundw
  case rel=>exact⟨k+1,_,rfl,by go_num,by omega,by trivial,C.o,A⟩
  simp[intOf];omega
 rw[bD (by omega)] at aa;simp only[pI,zK] at aa;have am:z.size+1<=100000000:=by{omega};go_wp2;go_ret;rw[aa.o];exact⟨rfl,b8.o _⟩
def xi(K:Nat)(a:Am):Prop:=a.j.size<=K/\∀t∈a.d,t.c.size<=K
def CE(K:Nat)(r:Rl):Prop:=xi K r.d/\∀a∈r.n,xi K a
theorem xC(K:Nat):∀(us:List RT) (z:List ByteArray) (L:List Tm) (A:List ByteArray) (n:Nat),(∀u∈us,u.f.size<=K)->gG z us=aX (L,A,n)->∀t∈L,t.c.size<=K
 |[],z,L,A,n,_,h=>by simp[gG] at h
 |[a],z,L,A,n,_,h=>by simp[gG] at h
 |a::b::us,z,L,A,n,hu,h=>by
  have G:(lF z a).c.size<=K:=by
   unfold lF;split;{exact zz};{grind}
  unfold gG at h;split at h;{grind}
  .cases hr:gG (mB z a) us with
   |none=>rw[hr] at h;simp at h
   |some r=>
    have⟨l',v',n'⟩:=r;rw[hr] at h;simp only[Option.some.injEq,Prod.mk.injEq] at h;obtain⟨rfl,rfl,rfl⟩:=h;have M:=xC K us _ _ _ _ (λu E=>hu u (zt (zt E))) hr;intro t C;obtain rfl|C:=bQ.1 C
    .exact G
    .grind
theorem DQ(K:Nat):∀(n f:Nat) (us:List RT) (M:List ByteArray) (z:List Am) (m:Nat),aD us<=n->(∀u∈us,u.f.size<=K)->nK f M us=aX (z,m)->∀a∈z,xi K a
 |n,f,us,M,z,m,hn,hu,h=>by
  obtain⟨t,ki,rfl,⟨_,rfl,_⟩|⟨_,r,p,C,l,jt,k,f',jv,m',rfl,O,h2,rfl,_⟩⟩:=zQ h;{grind}
  .cases n with
   |zero=>simp at hn
   |succ n=>
    have E:=λu A=>hu u (zt (zt (zt A)));have ih:=DQ K n f' (C.drop k) jt jv m' (by simp at hn ⊢;lia) (λu A=>E u (bL A)) h2;intro a G;obtain rfl|G:=bQ.1 G
    .exact⟨hu r (zt zs),xC K C _ _ _ _ E O⟩
    .grind
theorem Ga(K:Nat):∀(n f:Nat) (us:List RT) (rs:List Rl),aD us<=n->(∀u∈us,u.f.size<=K)->nG f us=aX rs->∀r∈rs,CE K r
 |n,f,us,rs,hn,hu,h=>by
  obtain⟨t,ki,rfl,⟨_,rfl⟩|⟨_,p,A,l,vs,k,bs,m,f',h9,rfl,M,O,h3,rfl⟩⟩:=Bf h;{grind}
  .cases n with
   |zero=>simp at hn
   |succ n=>
    have C:=λu z=>hu u (zt (zt z));have G:∀u∈A.drop k,u.f.size<=K:=λu z=>C u (bL z);have ih:=Ga K n f' ((A.drop k).drop (m+1)) h9 (by simp at hn ⊢;lia) (λu z=>G u (bL z)) h3;intro r E;obtain rfl|E:=bQ.1 E
    .exact⟨⟨hu t zs,xC K A _ _ _ _ C M⟩,DQ K _ _ _ _ _ _ zl G O⟩
    .grind
theorem IV(l:List Rn)(h:∀r∈l,r.f.size<=4):(kC l).size<=4*aD l:=by
 induction l with
 |nil=>exact cF 0
 |cons x l ih=>grind [kC]
def Ll(l:List Rn):∀r∈tw l,r∈l:=λr z=>by rw[tL] at z;exact cD z
theorem yx:∀(f:Nat) (l:List Rn) (i:Nat),(∀r∈l,r.f.size<=4)->∀t∈fL f l i,t.f.size<=4*aD l
 |0,l,i,_,t,z=>by simp[fL] at z
 |f+1,[],i,_,t,z=>by simp[fL] at z
 |f+1,r::l,i,h,t,z=>by
  have hr:=h r zs;have C:=λx A=>h x (zt A);have O:=IV (tw l) (λx A=>C x (Ll l x A));have M:=zL l;have E:=yx f (l.drop (aD (tw l))) (i+(1+aD (tw l))) (λx A=>C x (bL A)) t;have i2:=yx f l (i+1) C t;have G:=yx f (l.drop 1) (i+2) (λx A=>C x (bL A)) t;rw[cM] at E G;simp only[cE];unfold fL at z;split at z;{grind}
  .split at z;{grind}
   .split at z
    .obtain rfl|z:=bQ.1 z
     .show (0:Nat)<=_;lia
     .grind
    .grind
def zX(s:ByteArray)(C:aD (R s 0)<=300):∀t∈Q7 s,t.f.size<=1200:=by
 intro t z;unfold Q7 at z;obtain z|z:=List.mem_append.1 z
 .have:=yx _ _ _ (λr A=>(zb s s.size 0 (by lia) r A).2) t z;lia
 simp at z;subst z;exact zz
def FL(s:ByteArray)(rs:List Rl)(h:iT s=.ok rs):∀r∈rs,CE 1200 r:=by
 unfold iT at h;split at h
 .cases h
 rename_i C;split at h;{cases h};split at h;{cases h};rename_i A z;split at h;{cases h};{injection h with h;subst h;exact Ga 1200 _ _ _ _ zl (zX s (by lia)) z}
def sj:Nat->List Am->ByteArray
 |_,[]=>⟨#[]⟩
 |i,a::l=>(if i=0 then ⟨#[32,58,45,32]⟩ else ⟨#[44,32]⟩)++rL a++sj (i+1) l
def BF(r:Rl):ByteArray:=rL r.d++sj 0 r.n ++ ⟨#[46,10]⟩
def oZ:List Rl->ByteArray
 |[]=>⟨#[]⟩
 |r::l=>BF r++oZ l
def rZ(s:ByteArray):ByteArray×Int×Nat:=
 match iT s with
 |.error (c,p)=>(⟨#[]⟩,c,p)
 |.ok rs=>(oZ rs,0,0)
def yi(a:Am):Prop:=a.j.size<=2000/\aD a.d<=2/\∀t∈a.d,t.c.size<=2000/\t.d<=1000
theorem Gs:∀(l:List Tm) (i:Nat),(∀t∈l,t.c.size<=2000/\t.d<=1000)->(pI i l).size<=aD l*4000
 |[],i,_=>zz
 |t::l,i,h=>by
  have A:=h t zs;have C:=Gs l (i+1) (λx z=>h x (zt z))
  have E:(wy t).size<=3000:=by
   unfold wy;split;{have:=yL t.d;have M:(⟨#[88]⟩:ByteArray).size=1:=rfl;rw[bB];lia};{lia}
  have G:(if 0<i then (⟨#[44]⟩:ByteArray) else ⟨#[]⟩).size<=1:=by{split<;>decide};simp only[pI,bB,cE];lia
def DK(a:Am)(h:yi a):(rL a).size<=20000:=by have z:=Gs a.d 0 h.2.2;have A:=h.1;have C:=h.2.1;have E:(⟨#[40]⟩:ByteArray).size=1:=rfl;have G:(⟨#[41]⟩:ByteArray).size=1:=rfl;unfold rL;simp only[bB];lia
def xO(s:ByteArray)(c:Int)(p:Nat)(h:iT s=.error (c,p)):c≠0:=by
 unfold iT at h;split at h
 .grind
 split at h;{grind};rename_i z;have⟨rs,c7,_,_⟩:=zw (aD (Q7 s)+1) (Q7 s) (gU false) (by lia) rfl rfl rfl (wP s) (by unfold oC;simpa using z) (by decide);rw[c7] at h;simp only at h;split at h;{grind};{cases h}
def Lj(hq:qs.map (·.1)=rs)(M:∀r∈rs,tR r)(O:∀r∈rs,CE 1200 r):∀q∈qs,yi q.1.d/\aD q.1.n<=3/\∀a∈q.1.n,yi a:=by
 intro q ec;have G:q.1∈rs:=by grind
 have A:=M q.1 G;have E:=O q.1 G;refine⟨⟨by have:=E.1.1;lia,A.d.1,λt z=>⟨by have:=E.1.2 t z;lia,by have:=A.d.2 t z;lia⟩⟩,A.I,λa C=>⟨by have:=(E.2 a C).1;lia,(A.n a C).1,λt z=>⟨by have:=(E.2 a C).2 t z;lia,by have:=(A.n a C).2 t z;lia⟩⟩⟩
theorem KJ(s:ByteArray)(w:Wq)(hs:s.size<=1048576):Cs 32 #[aK s] w λe w'=>e=aQ (aN #[aK (rZ s).1,aO aR (rZ s).2.1,aO aR (rZ s).2.2])/\dK w.heap.size w w':=by
 obtain⟨N,hN⟩:=aB w.heap.size;have fg:=EA s w hs;rw[<-hN] at fg ⊢;cases hD:iT s with
 |error ep=>have⟨c,p⟩:=ep;have hc:=xO s c p hD;have fw:Hid (rZ s=(⟨#[]⟩,c,p)):=by{show _=_;unfold rZ;rw[hD]};have O:Cs 64 #[aK s] w λe w'=>e=aQ (aN #[aJ aY 0 0,aO aR c,aO aR p])/\dK N w w':=by{refine fg.m ?_;rintro e w' ⟨M,h2⟩;unfold qE at M;rw[hD] at M;exact⟨M,h2⟩};have m1:(c != 0)=true:=by{simpa using hc};clear fg hD;go_enter Tryz.func32,Tryz.ntmps32;go_wp2_with fail;refine O.m ?_;rintro e W1 ⟨rfl,am⟩;go_wp2;go_ret3;rw[fw.o];exact⟨rfl,am⟩
 |ok rs=>
  have cq:=FL s rs hD;have fw:Hid (rZ s=(oZ rs,0,0)):=by{show _=_;unfold rZ;rw[hD]};have O:Cs 64 #[aK s] w λe w'=>(∃v qs,e=aQ (aN #[v,aO aR 0,aO aR 0])/\Q5 w' v qs/\qs.map (·.1)=rs/\tu qs/\aD rs<=8/\∀r∈rs,tR r)/\dK N w w':=by{refine fg.m ?_;rintro e w' ⟨M,h2⟩;unfold qE at M;rw[hD] at M;exact⟨M,h2⟩};clear fg hD;go_enter Tryz.func32,Tryz.ntmps32;go_wp2_with fail;refine O.m ?_;rintro e W1 ⟨⟨v,qs,rfl,z,hq,a8,h8,cg⟩,am⟩;have j2:=Lj hq cg cq;have Qql:aD qs<=8:=by{rw[<-hq] at h8;simpa using h8};have hT:Hid (rZ s=(oZ (qs.map (·.1)),0,0)):=hq▸fw;have dm:=aA a8;have⟨va,vc,hv⟩:=qd z.h;subst hv;have E:=aA z;have i6:=aA am;clear cg cq hq a8 fw O z am;generalize hTT:oZ (qs.map (·.1))=T at *;have im:Hid (T=⟨#[]⟩++oZ ((qs.drop 0).map (·.1))):=by{show _=_;rw[zO,dH];exact hTT.s};clear hTT;have b4:(⟨#[32,58,45,32]⟩:ByteArray).size=4:=rfl;have bv:(⟨#[44,32]⟩:ByteArray).size=2:=rfl;have js:(⟨#[46,10]⟩:ByteArray).size=2:=rfl;go_wp2;go_loopw [8,9] (λx p wr=>∃(i:Nat)(out:ByteArray),x=aK out/\p=aO aR i/\i<=aD qs/\dK N w wr/\Q5 wr (aJ va (aD qs) vc) qs/\out.size<=i*200000/\Hid (T=out++oZ ((qs.drop i).map (·.1)))) (λ_ p _=>aD qs-(intOf p).toNat)
  case atStart=>exact⟨0,_,rfl,rfl,zz,i6.o,E.o,zz,im⟩
  clear i6 E im;obtain⟨i,out,rfl,rfl,ci,G,z,Qqg,aa⟩:=hrel;by_cases af:i<aD qs
  .obtain⟨g,ps,rfl,hg,c0,c1,c2,hA,a9,be,eu,⟨a1,a2,bj⟩,⟨b1,b2,bn⟩,bi⟩:=xt z i af dm.o;have a7:N<=wr.heap.size:=by{have:=G.s;omega};have⟨fh,ls,id⟩:=j2 qs[i] (zm af);have C:=Dw (qs[i].1.d,qs[i].2.1) wr hA fh.1 (by have:=fh.2.1;show aD qs[i].1.d.d<=1000;omega) fh.2.2;have j7:=DK qs[i].1.d fh;simp only at C;rw[bC af,bJ] at aa;simp only[oZ,BF] at aa;rw[bj] at c1 C;rw[<-a9] at aa;have av:=aA G;have E:=aA z;have j4:∀p∈ps,yi p.1:=λp hp=>id p.1 (by rw[<-a9];exact cI.2 ⟨p,hp,rfl⟩);have Qqi:aD ps<=3:=by{have:=congrArg aD a9;simp at this;omega};have j6:=aA a9;clear hA be bi bj bn G z id a9 fh;generalize rL qs[i].1.d=hw at *;generalize qs[i].1.d.j=hrl at *;have kk:out.size+hw.size<=100000000:=by{omega};go_wp2_with fail;refine C.m ?_;rintro e W2 ⟨rfl,ah⟩;have ia:=av.o.t (ah.m a7);have et:=E.o.f ah;have ip:=aA ia;have ii:=aA et;have fk:Hid (T=(out++hw)++sj 0 ((ps.drop 0).map (·.1)) ++ ⟨#[46,10]⟩++oZ ((qs.drop (i+1)).map (·.1))):=by{show _=_;rw[aa.o,dH];simp only[bF]};have Qls:Hid ((out++hw).size<=i*200000+20000+0*30000):=by{show _<=_;rw[bB];omega};clear C ah ia et av E aa c0 c1 c2;go_wp2;go_loopw [8,11] (λx p wr=>∃(k:Nat)(A:ByteArray),x=aK A/\p=aO aR k/\k<=aD ps/\dK N w wr/\Q5 wr (aJ (aX ⟨g,0,aY⟩) (aD qs) vc) qs/\A.size<=i*200000+20000+k*30000/\Hid (T=A++sj k ((ps.drop k).map (·.1)) ++ ⟨#[46,10]⟩++oZ ((qs.drop (i+1)).map (·.1)))) (λ_ p _=>aD ps-(intOf p).toNat)
   case atStart=>exact⟨0,_,rfl,rfl,zz,ip.o,ii.o,Qls.o,fk⟩
   clear ip ii fk Qls;obtain⟨k,A,rfl,rfl,ey,G,z,bh,ac⟩:=hrel;have⟨g',ez,e',dk,c0,c1,c2,hA,Qh4,be,Qqh,⟨l4,ld,bj⟩,⟨it,li,bn⟩,bi⟩:=xt z i af dm.o;cases e';have fx:=Qh4.t j6.o.s;have Qly:aD ez=aD ps:=by{have:=congrArg aD fx;simpa using this};have a7:N<=wr.heap.size:=by{have:=G.s;omega};by_cases bc:k<aD ps
   .have⟨g2,d3,e2,fe,d0,d1,⟨x1,x2,hx⟩,c9⟩:=be.d k (by omega);have ff:ez[k].1=ps[k].1:=by{have M:(ez.map (·.1))[k]?=(ps.map (·.1))[k]?:=by{rw[fx]};rw[cW,cW,bT (by omega),bT bc] at M;simpa using M};have e6:=j4 ps[k] (zm bc);have C:=Dw ez[k] wr c9 (ff▸e6.1) (by rw[ff];have:=e6.2.1;omega) (ff▸e6.2.2);have j7:=DK ps[k].1 e6;rw[hx] at d1 C;rw[ff] at d0 d1 C;rw[e2] at c2;rw[bC bc,bJ] at ac;simp only[sj] at ac;rw[Qly] at c2;have av:=aA G;have E:=aA z;clear hA be bi bj bn G z c9 Qh4 fx ff hx e2 e6 c0 c1;generalize rL ps[k].1=aw at *;generalize ps[k].1.j=arl at *;generalize (aD ps[k].1.d)=aal at *;by_cases h0:k=0
    .subst h0;rw[if_pos rfl] at ac;have ge:Hid (T=(A ++ ⟨#[32,58,45,32]⟩++aw)++sj 1 ((ps.drop 1).map (·.1)) ++ ⟨#[46,10]⟩++oZ ((qs.drop (i+1)).map (·.1))):=by{show _=_;rw[ac.o];simp only[bF]};have i5:A.size+4<=100000000:=by{omega};have gb:(A ++ ⟨#[32,58,45,32]⟩).size+aw.size<=100000000:=by{rw[bB];omega};have f6:Hid ((A ++ ⟨#[32,58,45,32]⟩++aw).size<=i*200000+20000+(0+1)*30000):=by{show _<=_;rw[bB,bB];omega};clear ac;go_wp2_with fail;refine C.m ?_;rintro e W3 ⟨rfl,aj⟩;have gp:=av.o.t (aj.m a7);have f8:=E.o.f aj;clear C aj;go_wp2;go_roundw
     case rel=>exact⟨0+1,_,rfl,by go_num,by omega,gp,f8,f6.o,ge⟩
     simp[intOf];omega
    rw[if_neg h0] at ac;have ge:Hid (T=(A ++ ⟨#[44,32]⟩++aw)++sj (k+1) ((ps.drop (k+1)).map (·.1)) ++ ⟨#[46,10]⟩++oZ ((qs.drop (i+1)).map (·.1))):=by{show _=_;rw[ac.o];simp only[bF]};have m0:((k:Int) == 0)=false:=by{simp;omega};have i5:A.size+2<=100000000:=by{omega};have gb:(A ++ ⟨#[44,32]⟩).size+aw.size<=100000000:=by{rw[bB];omega};have f6:Hid ((A ++ ⟨#[44,32]⟩++aw).size<=i*200000+20000+(k+1)*30000):=by{show _<=_;rw[bB,bB];omega};clear ac;go_wp2_with fail;refine C.m ?_;rintro e W3 ⟨rfl,aj⟩;have gp:=av.o.t (aj.m a7);have f8:=E.o.f aj;clear C aj;go_wp2;go_roundw
    case rel=>exact⟨k+1,_,rfl,by go_num,by omega,gp,f8,f6.o,ge⟩
    simp[intOf];omega
   rw[bD (by omega)] at ac;simp only[cG,sj,zK] at ac;rw[bn] at c2;rw[Qly] at c2;have i5:A.size+2<=100000000:=by{omega};have gb:Hid ((A ++ ⟨#[46,10]⟩).size<=(i+1)*200000):=by{show _<=_;rw[bB];omega};have av:=aA G;have E:=aA z;clear hA be bi bj bn G z Qh4 fx c0 c1;go_wp2;go_roundw
   case rel=>exact⟨i+1,_,rfl,by go_num,by omega,av.o,E.o,gb.o,ac⟩
   simp[intOf];omega
  rw[bD (by omega)] at aa;simp only[cG,oZ,zK] at aa;have fk:Hid (rZ s=(out,0,0)):=aa.o▸hT;clear z hT;go_wp2;go_ret3;rw[fk.o];exact⟨rfl,G⟩
structure Gr where
 j:ByteArray
 d:List ByteArray
def qv(W:Wq)(v:Vq)(l:List ByteArray):Prop:=aH W 0 9 1 v (aD l) (l.map aK)
def lD(p:Gr×Vq):List Vq:=[aK p.1.j,p.2]
def Ov(p:Gr×Vq):aD (lD p)=2:=rfl
def rI(p:Gr×Vq):Vq:=aL #[aK p.1.j,p.2]
structure jS(W:Wq)(v:Vq)(ps:List (Gr×Vq)):Prop where
 h:aH W 0 226 2 v (aD ps) (ps.flatMap lD)
 z:∀p∈ps,qv W p.2 p.1.d
def qv.f{v:Vq}{l:List ByteArray}(h:qv W v l)(z:dK W.heap.size W W'):qv W' v l:=qh h z
def jS.f{v:Vq}{ps:List (Gr×Vq)}(h:jS W v ps)(z:dK W.heap.size W W'):jS W' v ps:=⟨qh h.h z,λp A=>(h.z p A).f z⟩
def qv.d{v:Vq}{l:List ByteArray}(h:qv W v l)(j:Nat)(A:j<aD l):∃g z,v=Sc g (aD l) z/\g<W.heap.size/\aE W (Ad g j)=aX (aK l[j]):=by grind [qv,zv,lH,yX]
def jS.d{v:Vq}{ps:List (Gr×Vq)}(h:jS W v ps)(k:Nat)(A:k<aD ps):∃g z,v=Sc g (aD ps) z/\g<W.heap.size/\aE W (Ad g (k*2))=aX (aK ps[k].1.j)/\aE W (Ad g (k*2+1))=aX ps[k].2/\(∃a c,ps[k].2=aJ a (aD ps[k].1.d) c)/\qv W ps[k].2 ps[k].1.d:=by have⟨g,z,e1,e2,e3,e4,e5⟩:=lH h.h Ov (by lia);have C:=h.z ps[k] (zm A);exact⟨g,z,e1,e3,e5 k 0 A _ (by lia) rfl,e5 k 1 A _ (by lia) rfl,qd C,C⟩
theorem OU{y:ByteArray}(h:x.toList=y.toList):x=y:=by grind [ByteArray.toList_eq,dJ,dB.1]
theorem vz(x y:ByteArray):(x.toList == y.toList)=decide (x=y):=by grind [OU]
def pC:List ByteArray->List ByteArray->Bool
 |[],[]=>true
 |x::l,y::m=>(x.toList == y.toList) && pC l m
 |_,_=>false
def nO(a b:Gr):Bool:=(a.j.toList == b.j.toList) && pC a.d b.d
theorem BB:∀(l m:List ByteArray),pC l m=true↔l=m
 |[],[]=>by simp[pC]
 |[],y::m=>by simp[pC]
 |x::l,[]=>by simp[pC]
 |x::l,y::m=>by simp only[pC,Bool.and_eq_true,vz,decide_eq_true_eq,BB l m,List.cons.injEq]
theorem BL(a b:Gr):nO a b=true↔a=b:=by have⟨r,l⟩:=a;have⟨q,m⟩:=b;simp only[nO,Bool.and_eq_true,vz,decide_eq_true_eq,BB,Gr.mk.injEq]
def JK(l m:List ByteArray)(h:aD l≠m.length):pC l m=false:=by grind [pC,BB]
theorem FW(p q:Gr×Vq)(w:Wq)(hp:qv w p.2 p.1.d)(hq:qv w q.2 q.1.d)(hl:aD p.1.d<=1000000):Cs 118 #[rI p,rI q] w λe w'=>e=aQ (aM (nO p.1 q.1))/\dK w.heap.size w w':=by
 have⟨⟨r1,l1⟩,v1⟩:=p;have⟨⟨r2,l2⟩,v2⟩:=q;unfold rI;simp only at hp hq hl ⊢;obtain⟨a1,c1,rfl⟩:=qd hp;obtain⟨a2,c2,rfl⟩:=qd hq;have A:=aA λO z=>((bH _ w).l zl O).l (by simp) z;have j0:Hid (∀(O z:Obj)(j:Nat)(G:j<aD l1),∃g,a1=aX ⟨g,0,aY⟩/\aE ((w.alloc O).alloc z) (Ad g j)=aX (aK l1[j])):=by intro O z j G;have⟨g,cap,C,hg,hc⟩:=hp.d j G;cases C;exact⟨g,rfl,(bG (A.o O z) hg).t hc⟩
 have j5:Hid (∀(O z:Obj)(j:Nat)(G:j<aD l2),∃g,a2=aX ⟨g,0,aY⟩/\aE ((w.alloc O).alloc z) (Ad g j)=aX (aK l2[j])):=by intro O z j G;have⟨g,cap,C,hg,hc⟩:=hq.d j G;cases C;exact⟨g,rfl,(bG (A.o O z) hg).t hc⟩
 clear hp hq;have hS:nO ⟨r1,l1⟩ ⟨r2,l2⟩=((r1.toList == r2.toList) && pC l1 l2):=rfl;rw[hS];clear hS;cases hr:(r1.toList == r2.toList) with
 |false=>go_enter dY,dW;go_wp2;go_ret;exact⟨by simp,A.o _ _⟩
 |true=>
  by_cases E:aD l1=aD l2
  .have h1:((aD l1:Int) == (aD l2:Int))=true:=by{simp[E]};obtain⟨n,M⟩:=aC (aD l2);have dv:=aA M;have eo:=aA (E.t M);have C:=E.t M;rw[C] at hl ⊢;rw[M];clear h1 E M C;go_enter dY,dW;go_wp2;go_loopw [5] (λx wr=>∃k:Nat,x=aO aR k/\k<=n/\(∃d,wr=(((w.alloc (aP #[aK r1,aJ a1 n c1] 226)).alloc (aP #[aK r2,aJ a2 n c2] 226))).drewN d)/\Hid (pC (l1.drop k) (l2.drop k)=pC l1 l2)) (λx _=>n-(intOf x).toNat)
   case atStart=>exact⟨0,rfl,zz,⟨0,rfl⟩,rfl⟩
   obtain⟨k,rfl,ci,⟨d,rfl⟩,aa⟩:=hrel;by_cases af:k<n
   .have jc:k<aD l1:=eo.o▸af;have gi:k<aD l2:=dv.o▸af;obtain⟨g1,rfl,d1⟩:=j0.o (aP #[aK r1,aJ a1 n c1] 226) (aP #[aK r2,aJ a2 n c2] 226) k jc;obtain⟨g2,rfl,d2⟩:=j5.o (aP #[aK r1,Sc g1 n c1] 226) (aP #[aK r2,aJ a2 n c2] 226) k gi;rw[bC jc,bC gi] at aa;simp only[pC] at aa;generalize l1[k]=x at *;generalize l2[k]=y at *;cases hxy:(x.toList == y.toList) with
    |true=>
     rw[hxy] at aa;simp only[Bool.true_and] at aa;go_wp2;go_quiet (fail);go_wp2;go_roundw
     case rel=>exact⟨k+1,by go_num,by omega,⟨_,rfl⟩,aa⟩
     simp[intOf];omega
    |false=>rw[hxy] at aa;simp only[Bool.false_and] at aa;go_wp2;go_quiet (fail);go_wp2;go_ret;rw[<-aa.o];exact⟨by simp,qx (qx (A.o _ _))⟩
   have h1:l1.drop k=[]:=bD (by rw[eo.o];omega);have h2:l2.drop k=[]:=bD (by rw[dv.o];omega);rw[h1,h2] at aa;go_wp2;go_ret;rw[<-aa.o];exact⟨by simp[pC],qx (A.o _ _)⟩
  have hs:=JK l1 l2 E;rw[hs];have h1:((aD l1:Int) == (aD l2:Int))=false:=by{simp;omega};have h2:((aD l1:Int) != (aD l2:Int))=true:=by{simp;omega};go_enter dY,dW;go_wp2;go_ret;exact⟨by simp,A.o _ _⟩
def lV(l:List Gr)(g:Gr):Bool:=l.any (λx=>nO x g)
theorem BR(l:List Gr)(g:Gr):lV l g=true↔g∈l:=by grind [lV,BL]
theorem y9(v:Vq)(ps:List (Gr×Vq))(q:Gr×Vq)(w:Wq)(hp:jS w v ps)(O:qv w q.2 q.1.d)(hl:aD ps<=1000000)(ha:∀p∈ps,aD p.1.d<=1000000):Cs 122 #[v,rI q] w λe w'=>e=aQ (aM (lV (ps.map (·.1)) q.1))/\dK w.heap.size w w':=by
 obtain⟨pa,pc,rfl⟩:=qd hp.h;have⟨⟨r2,l2⟩,v2⟩:=q;unfold rI;simp only at O ⊢;obtain⟨a2,z,rfl⟩:=qd O;obtain⟨N,hN⟩:=aB w.heap.size;have E:=hN.s;obtain⟨W0,G⟩:=aB (w.alloc (aP #[aK r2,aJ a2 (aD l2) z] 226));have em:W0.heap.size=N+1:=by rw[G];simp[E]
 have M:dK N w W0:=G▸(bH _ w).l (by omega) _
 have Qy:W0.heap[N]?=cC #[aK r2,aJ a2 (aD l2) z] 226:=by rw[G,<-E];exact zn w _
 have jg:=hp.f (by rw[E];exact M);have ij:=qv.f O (by rw[E];exact M);have HP:=aA jg;have HQ:=aA ij;have iv:=aA M;have kh:Hid _:=Qy;have di:=aA em;rw[<-hN];clear hp O hN jg ij M Qy em;go_enter Tryz.func122,Tryz.ntmps122;go_wp2;go_loopw [5] (λx wr=>∃k:Nat,x=aO aR k/\k<=aD ps/\dK (N+1) W0 wr/\Hid (lV ((ps.drop k).map (·.1)) ⟨r2,l2⟩=lV (ps.map (·.1)) ⟨r2,l2⟩)) (λx _=>aD ps-(intOf x).toNat)
 case atStart=>exact⟨0,rfl,zz,G▸zr,rfl⟩
 obtain⟨k,rfl,ci,C,aa⟩:=hrel;have A:dK W0.heap.size W0 wr:=di.o▸C
 have Qma:=C.s;rw[di.o] at Qma;by_cases af:k<aD ps
 .have⟨g,cap,e1,hg,d0,d1,⟨x1,x2,hx⟩,hS⟩:=(HP.o.f A).d k af;cases e1;have gk:=(C.b N (by omega)).t kh.o;have b0:aE wr (Ad N 0)=aX (aK r2):=zc gk;have b1:aE wr (Ad N 1)=aX (aJ a2 (aD l2) z):=zc gk;have cg:Hid (∀d,Cs 118 #[aL #[aK ps[k].1.j,ps[k].2],aL #[aK r2,aJ a2 (aD l2) z]] (wr.drewN d) λe w'=>e=aQ (aM (nO ps[k].1 ⟨r2,l2⟩))/\dK (N+1) W0 w'):=by{intro d;have hb:=FW ps[k] (⟨r2,l2⟩,aJ a2 (aD l2) z) (wr.drewN d) (hS.f (qx (bH _ wr))) ((qv.f HQ.o A).f (qx (bH _ wr))) (ha ps[k] (zm af));refine hb.m ?_;rintro e w' ⟨rfl,fr⟩;exact⟨rfl,(qx C).t (fr.m (by show N+1<=wr.heap.size;omega))⟩};rw[bC af,bJ] at aa;have cf:Hid ((nO ps[k].1 ⟨r2,l2⟩ || lV ((ps.drop (k+1)).map (·.1)) ⟨r2,l2⟩)=lV (ps.map (·.1)) ⟨r2,l2⟩):=aa;rw[hx] at d1 cg;generalize nO ps[k].1 ⟨r2,l2⟩=sb at *;generalize ps[k].1.j=pr at *;generalize (aD ps[k].1.d)=pl at *;clear C A hS hx aa gk;go_wp2;go_region_with (go_at_call 118;refine (cg.o 1).m ?_;rintro e w2 ⟨rfl,ah⟩);all_goals
   cases sb with
   |true=>go_wp2;go_ret;rw[<-cf.o];exact⟨by simp,iv.o.t (ah.m (by omega))⟩
   |false=>
    go_wp2
    go_roundw
    case rel=>exact⟨k+1,by go_num,by omega,ah,by simpa using cf⟩
    case measure=>simp[intOf];omega
 rw[bD (by omega)] at aa;go_wp2;go_ret;rw[<-aa.o];exact⟨by simp[lV],iv.o.t (C.m (by omega))⟩
def mZ(b:List ByteArray)(t:Tm):ByteArray:=if t.c.toList.isEmpty=true then b.getD t.d ⟨#[]⟩ else t.c
def jI(a:Am)(b:List ByteArray):Gr:=⟨a.j,a.d.map (mZ b)⟩
structure sg(N:Nat)(w X:Wq)(rel:ByteArray)(va vg:Vq)(ae:List ByteArray):Prop where
 f:dK N w X
 A:X.heap[N]?=cC #[aK rel,va] 145
 h:X.heap[N+1]?=cC #[aK ⟨#[]⟩,aJ aY 0 0] 226
 b:X.heap[N+2]?=cC #[aK rel,vg] 226
 z:aH X (N+3) 9 1 vg (aD ae) (ae.map aK)
def sg.j{w:Wq}{z:Vq}(h:sg N w X rel va vg ae)(hw:w.heap.size=N)(E:(X.alloc o).grownBy Y (aI vg))(G:aH Y (N+3) 9 1 z (aD ae+1) (ae.map aK++[aK x])):sg N w (Y.setCell (Ad (N+2) 1) z) rel va z (ae++[x]):=by
 have cq:N+3<=X.heap.size:=(zg h.b).1;have C:=λk e=>(Qr h.z k e).1;have A:∀k,k<N+3->Y.heap[k]?=X.heap[k]?:=λk A=>(E.b k (by simp;lia) (λe=>by have:=C k e.s;lia)).t (bE _ _ _ (by lia));refine⟨((h.f.l (by lia) o).grown E (by simp;lia) (λk e=>by have:=C k e;lia)).c (by simp) _,(bI _ _ _ _ (by simp)).t ((A N (by lia)).t h.A),(bI _ _ _ _ (by simp)).t ((A (N+1) (by lia)).t h.h),Qo ((A (N+2) (by lia)).t h.b) 1 z,?_⟩;have O:aH Y (N+3) 9 1 z (aD (ae++[x])) ((ae++[x]).map aK):=by simpa using G
 exact qm O (λg M _=>bI _ _ _ _ (λe=>by have:=(Qr G g M).1;simp at e;lia))
def sg.d{w:Wq}(h:sg N w X rel va vg ae)(C:w.heap.size=N)(a b:Vq):aH ((X.setCell (Ad (N+1) 0) a).setCell (Ad (N+1) 1) b) N 9 1 vg (aD ae) (ae.map aK)/\dK N w ((X.setCell (Ad (N+1) 0) a).setCell (Ad (N+1) 1) b):=by have A:∀g,g≠N+1->((X.setCell (Ad (N+1) 0) a).setCell (Ad (N+1) 1) b).heap[g]?=X.heap[g]?:=λg z=>(bI _ _ _ _ z).t (bI _ _ _ _ z);exact⟨qz (qm h.z (λg z _=>A g (by have:=(Qr h.z g z).1;lia))) (by lia),(h.f.c (by simp) _).c (by simp) _⟩
def Hl(p:Am×Vq)(vb:Vq)(b:List ByteArray)(w:Wq)(hA:gY w p)(hb:qv w vb b)(hl:aD p.1.d<=1000)(hn:∀t∈p.1.d,t.c.toList.isEmpty=true->t.d<aD b)(iu:aD b<=1000000):Cs 181 #[aL #[aK p.1.j,p.2],vb] w λe w'=>∃vg,e=aQ (aL #[aK p.1.j,vg])/\aH w' w.heap.size 9 1 vg (aD (jI p.1 b).d) ((jI p.1 b).d.map aK)/\dK w.heap.size w w':=by
 have⟨i0,hi,cb,b4,bv⟩:=dR Tryz.a;have⟨⟨rel,args⟩,va⟩:=p;simp only at hl hn ⊢;have⟨a1,a2,hq⟩:=qd hA;simp only at hq;subst hq;obtain⟨b1,b2,rfl⟩:=qd hb;obtain⟨N,hN⟩:=aB w.heap.size;have G:=hN.s;have HC:Hid (∀(X:Wq),dK N w X->∀(j:Nat)(hj:j<aD args),∃g,a1=aX ⟨g,0,aY⟩/\g<N/\aE X (Ad g (j*2))=aX (aK args[j].c)/\aE X (Ad g (j*2+1))=aX (aO aR args[j].d)):=by intro X hX j hj;have⟨g,cap,e1,hg,c0,c1⟩:=hA.d j hj;cases e1;have C:g<N:=hN▸hg;exact⟨g,rfl,C,(bG hX C).t c0,(bG hX C).t c1⟩
 have ju:Hid (∀(X:Wq),dK N w X->∀(j:Nat)(hj:j<aD b),∃g,b1=aX ⟨g,0,aY⟩/\g<N/\aE X (Ad g j)=aX (aK b[j])):=by intro X hX j hj;have⟨g,cap,e1,hg,c0⟩:=hb.d j hj;cases e1;have C:g<N:=hN▸hg;exact⟨g,rfl,C,(bG hX C).t c0⟩
 have HT:Hid ((jI ⟨rel,args⟩ b).d=args.map (mZ b)):=rfl;generalize (jI ⟨rel,args⟩ b).d=T at *;rw[<-hN];clear hA hb hN;go_enter Tryz.func181,Tryz.ntmps181;go_wp2;go_loopw [6] (λx wr=>∃(k:Nat)(vg:Vq)(ae:List ByteArray),x=aO aR k/\k<=aD args/\sg N w wr rel (aJ a1 (aD args) a2) vg ae/\aD ae<=k/\Hid (ae++(args.drop k).map (mZ b)=T)) (λx _=>aD args-(intOf x).toNat)
 case atStart=>refine⟨0,_,[],rfl,zz,⟨(((bH _ w).l (by omega) _).l (by simp;omega) _).l (by simp;omega) _,?_,?_,?_,zo⟩,cF _,HT.o.s⟩;{rw[bE _ _ _ (by simp;omega),bE _ _ _ (by simp;omega),<-G];exact zn w _};{rw[bE _ _ _ (by simp;omega)];have:=zn (w.alloc (aP #[aK rel,aJ a1 (aD args) a2] 145)) (aP #[aK ⟨#[]⟩,aJ aY 0 0] 226);rwa[bU,G] at this};{have:=zn ((w.alloc (aP #[aK rel,aJ a1 (aD args) a2] 145)).alloc (aP #[aK ⟨#[]⟩,aJ aY 0 0] 226)) (aP #[aK rel,aJ aY 0 0] 226);rwa[bU,bU,G] at this}
 obtain⟨k,vg,ae,rfl,ci,z,kn,aa⟩:=hrel;have b0:=cZz z.A;have g0:=cZz z.b;by_cases af:k<aD args
 .obtain⟨g,rfl,C,c0,c1⟩:=HC.o wr z.f k af;have i7:=hn args[k] (zm af);rw[bC af,bJ] at aa;generalize args[k]=tm at *;have⟨nm,nu⟩:=tm;simp only at c0 c1 i7;obtain⟨y,hy⟩:=aC (mZ b ⟨nm,nu⟩);rw[hy] at aa;have Qpb:N+3<=wr.heap.size:=(zg z.b).1;have c3:aD ae+1<=maxLen:=by{unfold dS;omega};have cv:(aD ae+1)*16<=140737488355328:=by{omega};have cl:Hid (∀O,N+3<=(wr.alloc O).heap.size):=λO=>by{simp;omega};have cd:∀u∈[aK y],u.oneCell'=true:=by{simp[cH]};have E:=aA z;have hF:Hid (∀(O:Obj)(w1:Wq),(wr.alloc O).grownBy w1 (aI vg)->aE w1 (Ad (N+2) 1)=aX vg/\∀o,aF w1 (Ad (N+2) o)=false):=by{intro O w1 hg;have A:=(hg.b (N+2) (by simp;omega) (λe=>by have:=(Qr E.o.z _ e.s).1;omega)).t ((bE _ _ _ (by omega)).t E.o.b);exact⟨zc A,λo=>by simp[aF,A]⟩};have cf:Hid ((ae++[y])++(args.drop (k+1)).map (mZ b)=T):=by{show _=_;rw[<-aa.o];simp};by_cases A:nm.toList.isEmpty=true
  .have ib:=i7 A;have⟨g2,e2,Qk1,d0⟩:=ju.o wr z.f nu ib;have fl:y=b[nu]:=by{rw[<-hy];unfold mZ;rw[if_pos A];simp[List.getD,bT ib]};rw[<-fl] at d0;subst e2;clear z aa hy fl;go_wp2_with (at_builtin;refine dM _ rfl (.tmp 36) (.tmp 38) 22 rfl (N+3) 9 i0 (aK ⟨#[]⟩) 1 16 dL hi cb b4 bv rfl (by decide) _ _ _ rfl (E.o.z.l _) ⟨wr.heap.size,0,aY⟩ 1 1 [aK y] rfl rfl (nV _ _ _) cd c3 cv (cl.o _) ?_;intro bf w1 M ai _;have⟨f1,f2⟩:=hF.o _ w1 ai;have HA:=aA (E.o.j G ai M);have⟨gg,gc,e8⟩:=dT M;subst e8);go_roundw
   case rel=>exact⟨k+1,_,ae++[y],by go_num,by omega,HA.o,by simp;omega,cf⟩
   simp[intOf];omega
  have ef:nm.toList.isEmpty=false:=by{simpa using A};have fl:y=nm:=by{rw[<-hy];unfold mZ;rw[if_neg A]};subst fl;clear z aa hy A;go_wp2_with (at_builtin;refine dM _ rfl (.tmp 36) (.tmp 38) 22 rfl (N+3) 9 i0 (aK ⟨#[]⟩) 1 16 dL hi cb b4 bv rfl (by decide) _ _ _ rfl (E.o.z.l _) ⟨wr.heap.size,0,aY⟩ 1 1 [aK y] rfl rfl (nV _ _ _) cd c3 cv (cl.o _) ?_;intro bf w1 M ai _;have⟨f1,f2⟩:=hF.o _ w1 ai;have HA:=aA (E.o.j G ai M);have⟨gg,gc,e8⟩:=dT M;subst e8);go_roundw
  case rel=>exact⟨k+1,_,ae++[y],by go_num,by omega,HA.o,by simp;omega,cf⟩
  simp[intOf];omega
 rw[bD (by omega)] at aa;simp only[cG,cO] at aa;have hf:=z.d G (aK rel) vg;have b5:=z.h;obtain⟨de,dh,rfl⟩:=qd z.z;have r0:=cZz b5;have rf:∀o,aF wr (Ad (N+1) o)=false:=λo=>by{simp[aF,b5]};have cc:aE (wr.setCell (Ad (N+1) 0) (aK rel)) (Ad (N+1) 0)=aX (aK rel):=by{simp[aE,Qo b5 0 (aK rel)]};have ce:aE ((wr.setCell (Ad (N+1) 0) (aK rel)).setCell (Ad (N+1) 1) (aJ de (aD ae) dh)) (Ad (N+1) 1)=aX (aJ de (aD ae) dh):=by{simp[aE,Qo (Qo b5 0 (aK rel)) 1 (aJ de (aD ae) dh)]};have HF:=aA hf;have e9:=aA cc;have e7:=aA ce;clear z hf cc ce;go_wp2;have cc:=e9.o;have ce:=e7.o;refine dQ (v:=aL #[aK rel,aJ de (aD ae) dh]) (by simp[results,Tryz.results181,go_sem,cc,ce]) rfl ?_;rw[<-aa.o];exact⟨_,rfl,HF.o⟩
def J6{P:Program}{je:Array Oper}{o:Oper}{a:Act}{w:Wq}{K:Act->Wq->Prop}{Q:Exit->Act->Wq->Prop}{E:Prop}(hg:o.guard=aY)(s x:Operand)(t:TypeId)(ku:o.op=Op.call {callee:=Callee.builtin Builtin.append,args:=#[s,x],argTypes:=#[t,t]})(G:Nat)(e:TypeId)(i:TypeInfo)(z:Vq)(size A:Nat)(h1:P.underlying t=aX (.slice e))(h2:P.info? e=aX i)(h3:i.zero=aX z)(h4:i.size=size)(h5:i.bytes=A)(h6:z.cells.size=size)(h7:0<size)(v:Vq)(n:Nat)(xs:List Vq)(hs:a.eval s=v)(qt:aH w G e size v n xs)(O:Addr)(m c:Nat)(C:List Vq)(hx:a.eval x=aJ (aX O) m c)(hn:aD C=m*size)(hc:∀j u,C[j]?=aX u->aE w (O.add j)=aX u)(cd:∀u∈C,u.oneCell'=true)(b1:n+m<=dS)(b2:(n+m)*A<=140737488355328)(ko:G<=w.heap.size)(hK:∀M w',aH w' G e size M (n+m) (xs++C)->w.grownBy w' (aI v)->K (a.put o.dst M) w'):if Region.wanted o (yielded je a.tmps)=true then Oper.wp P o a w K Q else E:=by
 have hw:Region.wanted o (yielded je a.tmps)=true:=by simp[Region.wanted,hg]
 rw[if_pos hw];have⟨M,w',k7,r1,r2,_⟩:=run_append_own (P:=P) w G t o.type e i z size A h1 h2 h3 h4 h5 h6 h7 v n xs qt O m c C hn hc cd b1 b2 ko;unfold Oper.wp;simp[execOp,ku,resolve,invoke,builtin,hs,hx,k7,Result.andThen];exact hK M w' r1 r2
def uR(t:Tm):Bool:=t.c.toList.isEmpty
def nT(a:Am):Option Gr:=if a.d.any uR=true then aY else aX ⟨a.j,a.d.map (·.c)⟩
def tZ(a:Am)(N:Nat)(e:dP)(w':Wq):Prop:=
 match nT a with
 |none=>e=aQ (aN #[aL #[aK ⟨#[]⟩,aJ aY 0 0],aM false])
 |some g=>∃vg,e=aQ (aN #[aL #[aK g.j,vg],aM true])/\aH w' N 9 1 vg (aD g.d) (g.d.map aK)
def Fv(p:Am×Vq)(w:Wq)(hA:gY w p)(hl:aD p.1.d<=1000):Cs 115 #[aL #[aK p.1.j,p.2]] w λe w'=>tZ p.1 w.heap.size e w'/\dK w.heap.size w w':=by
 have⟨i0,hi,cb,b4,bv⟩:=dR Tryz.a;have⟨⟨rel,args⟩,va⟩:=p;simp only at hl ⊢;have⟨a1,a2,hq⟩:=qd hA;simp only at hq;subst hq;obtain⟨N,hN⟩:=aB w.heap.size;have ao:=hN.s;have HC:Hid (∀(X:Wq),dK N w X->∀(j:Nat)(hj:j<aD args),∃g,a1=aX ⟨g,0,aY⟩/\g<N/\aE X (Ad g (j*2))=aX (aK args[j].c)):=by intro X hX j hj;have⟨g,cap,e1,M,c0,c1⟩:=hA.d j hj;cases e1;have ca:g<N:=hN▸M;exact⟨g,rfl,ca,(bG hX ca).t c0⟩
 have j9:Hid (args.any uR=true->∀(e:dP)(w':Wq),e=aQ (aN #[aL #[aK ⟨#[]⟩,aJ aY 0 0],aM false])->tZ ⟨rel,args⟩ N e w'):=by intro h e w' he;unfold tZ nT;rwa[if_pos h]
 have jw:Hid (args.any uR=false->∀(e:dP)(w':Wq),(∃vg,e=aQ (aN #[aL #[aK rel,vg],aM true])/\aH w' N 9 1 vg (aD (args.map (·.c))) ((args.map (·.c)).map aK))->tZ ⟨rel,args⟩ N e w'):=by intro h e w' he;unfold tZ nT;rwa[if_neg (by rw[h];simp)]
 rw[<-hN];clear hA hN;go_enter Tryz.func115,Tryz.ntmps115;go_wp2;go_loopw [5] (λx wr=>∃(k:Nat)(vg:Vq)(ae:List ByteArray),x=aO aR k/\k<=aD args/\sg N w wr rel (aJ a1 (aD args) a2) vg ae/\aD ae<=k/\Hid ((args.drop k).any uR=args.any uR)/\Hid (ae++(args.drop k).map (·.c)=args.map (·.c))) (λx _=>aD args-(intOf x).toNat)
 case atStart=>refine⟨0,_,[],rfl,zz,⟨(((bH _ w).l (by omega) _).l (by simp;omega) _).l (by simp;omega) _,?_,?_,?_,zo⟩,cF _,rfl,rfl⟩;{rw[bE _ _ _ (by simp;omega),bE _ _ _ (by simp;omega),<-ao];exact zn w _};{rw[bE _ _ _ (by simp;omega)];have:=zn (w.alloc (aP #[aK rel,aJ a1 (aD args) a2] 145)) (aP #[aK ⟨#[]⟩,aJ aY 0 0] 226);rwa[bU,ao] at this};{have:=zn ((w.alloc (aP #[aK rel,aJ a1 (aD args) a2] 145)).alloc (aP #[aK ⟨#[]⟩,aJ aY 0 0] 226)) (aP #[aK rel,aJ aY 0 0] 226);rwa[bU,bU,ao] at this}
 obtain⟨k,vg,ae,rfl,ci,z,kn,A,aa⟩:=hrel;have it:aE wr (Ad N 1)=aX (aJ a1 (aD args) a2):=by{simp[aE,z.A]};have g0:aE wr (Ad (N+2) 0)=aX (aK rel):=by{simp[aE,z.b]};have g1:aE wr (Ad (N+2) 1)=aX vg:=by{simp[aE,z.b]};have C:=z.h;have r0:=cZz C;have rf:∀o,aF wr (Ad (N+1) o)=false:=λo=>by{simp[aF,C]};by_cases af:k<aD args
 .obtain⟨g,rfl,ca,c0⟩:=HC.o wr z.f k af;rw[bC af] at aa A;simp only[bJ,bZ] at aa A;generalize args[k]=tm at *;have⟨nm,nu⟩:=tm;simp only[uR] at c0 aa A;have Qpb:N+3<=wr.heap.size:=(zg z.b).1;by_cases h1:nm.toList.isEmpty=true;{rw[h1] at A;have ix:args.any uR=true:=by{rw[<-A.o];simp};have Qd:=aA (j9.o ix);have hf:=z.d ao (aK ⟨#[]⟩) (aJ aY 0 0);have E:aE (wr.setCell (Ad (N+1) 0) (aK ⟨#[]⟩)) (Ad (N+1) 0)=aX (aK ⟨#[]⟩):=by{simp[aE,Qo C 0 (aK ⟨#[]⟩)]};have G:aE ((wr.setCell (Ad (N+1) 0) (aK ⟨#[]⟩)).setCell (Ad (N+1) 1) (aJ aY 0 0)) (Ad (N+1) 1)=aX (aJ aY 0 0):=by{simp[aE,Qo (Qo C 0 (aK ⟨#[]⟩)) 1 (aJ aY 0 0)]};have fo:=aA hf;have e9:=aA E;have e7:=aA G;clear z aa A ix hf E G C;go_wp2;have E:=e9.o;have G:=e7.o;refine dQ (v:=aN #[aL #[aK ⟨#[]⟩,aJ aY 0 0],aM false]) (by simp[results,Tryz.results115,go_sem,E,G]) rfl ?_;exact⟨Qd.o _ _ rfl,fo.o.2⟩};have ef:nm.toList.isEmpty=false:=by{simpa using h1};rw[ef] at A;simp only[Bool.false_or] at A;have lr:∀O,aE (wr.alloc O) (Ad (N+1+1) 1)=aX vg:=λO=>(bG ((bH wr.heap.size wr).l zl O) (by show N+2<wr.heap.size;omega)).t g1;have c3:aD ae+1<=maxLen:=by{unfold dS;omega};have cv:(aD ae+1)*16<=140737488355328:=by{omega};have cd:∀u∈[aK nm],u.oneCell'=true:=by{simp[cH]};have HP:=aA z;have hA:Hid (aH (wr.alloc (aP #[aK nm] 9)) (N+3) 9 1 vg (aD ae) (ae.map aK)):=z.z.l _;have a7:Hid (∀j u,[aK nm][j]?=aX u->aE (wr.alloc (aP #[aK nm] 9)) ((⟨wr.heap.size,0,aY⟩:Addr).add j)=aX u):=nV wr _ _;have cl:Hid (N+3<=(wr.alloc (aP #[aK nm] 9)).drew.heap.size):=by{show N+3<=(wr.alloc _).heap.size;simp;omega};have hF:Hid (∀(w1:Wq),(wr.alloc (aP #[aK nm] 9)).drew.grownBy w1 (aI vg)->aE w1 (Ad (N+2) 1)=aX vg/\∀o,aF w1 (Ad (N+2) o)=false):=by{intro w1 M;have h1:=(M.b (N+2) (by show N+2<(wr.alloc _).heap.size;simp;omega) (λe=>by have:=(Qr HP.o.z _ e.s).1;omega)).t ((bE _ _ _ (by omega)).t HP.o.b);exact⟨zc h1,λo=>by simp[aF,h1]⟩};have ay:Hid (∀(w1:Wq)(bf:Vq),(wr.alloc (aP #[aK nm] 9)).drew.grownBy w1 (aI vg)->aH w1 (N+3) 9 1 bf (aD ae+1) (ae.map aK++[aK nm])->sg N w (w1.setCell (Ad (N+2) 1) bf) rel (Sc g (aD args) a2) bf (ae++[nm])):=by{intro w1 bf M ho;exact HP.o.j ao (o:=aP #[aK nm] 9) ⟨M.os,M.tape,M.output,M.size,M.b⟩ ho};have cf:Hid ((ae++[nm])++(args.drop (k+1)).map (·.c)=args.map (·.c)):=by{show _=_;rw[<-aa.o];simp};clear z aa h1 C;go_wp2;go_region_law (refine J6 rfl (.tmp 25) (.tmp 32) 22 rfl (N+3) 9 i0 (aK ⟨#[]⟩) 1 16 dL hi cb b4 bv rfl (by decide) vg (aD ae) (ae.map aK) (by simp[Act.eval,Act.put]) hA.o ⟨wr.heap.size,0,aY⟩ 1 1 [aK nm] (by simp[Act.eval,Act.put]) rfl a7.o cd c3 cv cl.o ?_;intro bf w1 ak ai;have⟨f1,f2⟩:=hF.o w1 ai;have HA:=aA (ay.o w1 bf ai ak);have⟨gg,gc,e8⟩:=dT ak;subst e8);all_goals
   go_wp2
   go_roundw
   case rel=>exact⟨k+1,_,ae++[nm],by go_num,by omega,HA.o,by simp;omega,A,cf⟩
   case measure=>simp[intOf];omega
 rw[bD (by omega)] at aa A;simp only[cG,cO,cJ] at aa A;have Qd:=jw.o A.o.s;have hf:=z.d ao (aK rel) vg;obtain⟨de,dh,rfl⟩:=qd z.z;have E:aE (wr.setCell (Ad (N+1) 0) (aK rel)) (Ad (N+1) 0)=aX (aK rel):=by{simp[aE,Qo C 0 (aK rel)]};have G:aE ((wr.setCell (Ad (N+1) 0) (aK rel)).setCell (Ad (N+1) 1) (aJ de (aD ae) dh)) (Ad (N+1) 1)=aX (aJ de (aD ae) dh):=by{simp[aE,Qo (Qo C 0 (aK rel)) 1 (aJ de (aD ae) dh)]};have fo:=aA hf;have k0:=aA Qd;have e9:=aA E;have e7:=aA G;clear z hf E G C Qd A;go_wp2;have E:=e9.o;have G:=e7.o;refine dQ (v:=aN #[aL #[aK rel,aJ de (aD ae) dh],aM true]) (by simp[results,Tryz.results115,go_sem,E,G]) rfl ?_;refine⟨k0.o _ _ ⟨_,rfl,?_⟩,fo.o.2⟩;rw[<-aa.o];exact fo.o.1
def M3(A:l.a=4)(z:l.c=true)(h:(Qk l t).e=0):(t.d=44/\Qk l t={l with a:=3})\/(t.d=41/\Qk l t={l with a:=6}):=by grind [Qk,gJ]
theorem D7:∀(n:Nat) (ts:List RT) (l:Lk) (z:List ByteArray),aD ts<=n->l.a=3->l.e=0->l.c=true->pF ts->oC l ts->
  ∃L C k,gG z ts=aX (L,C,k)/\l.d+aD L<=2/\1<=aD L/\oC {l with a:=6,d:=l.d+aD L} (ts.drop k)/\pF (ts.drop k)/\(∀t∈L,t.d<=aD z+aD L)/\aD C<=aD z+aD L
 |0,ts,l,z,hn,_,_,_,hE,_=>by grind [pZ]
 |n+1,[],l,z,hn,_,_,_,hE,_=>absurd hE pZ
 |n+1,t::us,l,z,hn,hw,he,ct,hE,a8=>by
  have⟨h1,h2⟩:=sf a8 (sq (by rw[hw];decide) (by rw[hw];decide));have⟨hk,hg,hr,bu⟩:=EF hw h1;have G:=oR hE (by lia);rw[bu] at h2
  have f9:(lF z t).d<=aD z:=by
   unfold lF;split;{exact cP};{simp}
  have M:=yl z t
  cases us with
  |nil=>exact absurd G pZ
  |cons b us=>
   have⟨h3,h4⟩:=sf h2 (sq (by simp) (by simp));rcases M3 (l:={l with d:=l.d+1,a:=4}) rfl (ct) h3 with⟨O,A⟩|⟨O,A⟩
   .rw[A] at h4;have E:=oR G (by lia);have⟨L,C,k,r1,r2,r0,r3,r4,r5,r6⟩:=D7 n us {l with d:=l.d+1,a:=3} (mB z t) (by simp at hn;lia) rfl he ct E h4;refine⟨lF z t::L,C,k+2,?_,?_,by simp,?_,?_,?_,?_⟩;{grind [gG]};{grind};{grind};{grind};{grind};{grind}
   .rw[A] at h4;have E:=oR G (by lia);refine⟨[lF z t],mB z t,2,?_,hg,by simp,h4,E,?_,M⟩;{grind [gG]};{grind}
def uU:List RT->Option Am
 |t::_::us=>match gG [] us with
  |some (l,_,_)=>aX ⟨t.f,l⟩
  |none=>aY
 |_=>aY
def jW(s:ByteArray):Option Am:=
 if 300<aD (R s 0) then aY
 else if (fZ (gU true) (Q7 s)).1≠0 then aY
 else uU (Q7 s)
theorem Fm(ts:List RT)(C:pF ts)(G:oC (gU true) ts):∃t p us L z k,ts=t::p::us/\gG [] us=aX (L,z,k)/\aD L<=2/\1<=aD L/\(∀t∈L,t.d<=2):=by
 cases ts with
 |nil=>exact absurd C pZ
 |cons t ts=>
  have O:mN (gU true) t=false:=by{unfold mN gU;simp};have⟨h1,h2⟩:=sf G O;have⟨kt,kr,jk,ev⟩:=CZ (l:=gU true) rfl h1;have A:=oR C (by lia);rw[ev] at h2;cases ts with
  |nil=>exact absurd A pZ
  |cons p us=>have⟨g3,g4⟩:=sf h2 (sq (by simp) (by simp));have⟨kp,cr⟩:=Ah (l:={gU true with u:=(gU true).u+1,n:=false,a:=2}) rfl g3;have E:=oR A (by lia);rw[cr] at g4;have⟨L,z,k,q1,q2,q0,q3,q4,q5,q6⟩:=D7 (aD us) us {gU true with u:=(gU true).u+1,n:=false,d:=0,a:=3} [] zl rfl rfl rfl E g4;simp only[cL,dE] at q2 q5;exact⟨t,p,us,L,z,k,rfl,q1,q2,q0,λt' M=>by have:=q5 t' M;lia⟩
def ry(s:ByteArray)(N:Nat)(e:dP)(w':Wq):Prop:=
 match jW s with
 |none=>e=aQ (aN #[aL #[aK ⟨#[]⟩,aJ aY 0 0],aM false])
 |some a=>∃va,e=aQ (aN #[aL #[aK a.j,va],aM true])/\aH w' N 215 2 va (aD a.d) (a.d.flatMap jL)/\aD a.d<=2/\1<=aD a.d/\(∀t∈a.d,t.d<=2)/\xi 1200 a
def CJ{T:Nat}{x y a b:Vq}(h:X.heap[N]?=cC #[x,y] T):aE (X.setCell (Ad N 0) a) (Ad N 0)=aX a/\aE ((X.setCell (Ad N 0) a).setCell (Ad N 1) b) (Ad N 1)=aX b:=by refine⟨by simp[aE,Qo h 0 a],by simp[aE,Qo (Qo h 0 a) 1 b]⟩
theorem Ep(s:ByteArray)(w:Wq)(hs:s.size<=1048576):Cs 114 #[aK s] w λe w'=>ry s w.heap.size e w'/\dK w.heap.size w w':=by
 obtain⟨N,hN⟩:=aB w.heap.size;have ao:=hN.s;rw[<-hN];obtain⟨W0,cj⟩:=aB (w.alloc (aP #[aK ⟨#[]⟩,aJ aY 0 0] 145));have em:W0.heap.size=N+1:=by rw[cj];simp[ao]
 have dw:dK N w W0:=by rw[cj];exact (bH _ w).l (by omega) _
 have Qy:W0.heap[N]?=cC #[aK ⟨#[]⟩,aJ aY 0 0] 145:=by rw[cj,<-ao];exact zn w _
 have b9:=AA s W0 hs;have gu:Hid (∀X,dK W0.heap.size W0 X->X.heap[N]?=cC #[aK ⟨#[]⟩,aJ aY 0 0] 145/\aE X (Ad N 0)=aX (aK ⟨#[]⟩)/\aE X (Ad N 1)=aX (aJ aY 0 0)/\(∀o,aF X (Ad N o)=false)/\dK N w X):=by intro X hX;have G:X.heap[N]?=cC #[aK ⟨#[]⟩,aJ aY 0 0] 145:=(hX.b N (by omega)).t Qy;exact⟨G,zc G,zc G,λo=>by simp[aF,G],dw.t (hX.m (by omega))⟩
 have di:Hid (W0.heap.size=N+1):=em;have l5:Hid _:=cj;clear hN em dw Qy;rw[cj] at b9;by_cases aq:300<aD (R s 0)
 .have HD:Hid (∀(e:dP) (w':Wq),e=aQ (aN #[aL #[aK ⟨#[]⟩,aJ aY 0 0],aM false])->ry s N e w'):=by{intro e w' he;unfold ry jW;rw[if_pos aq];exact he};generalize R s 0=L at *;go_enter dX,dV;go_wp2_with fail;refine b9.m ?_;rintro e W1 ⟨v1,rfl,au,A⟩;rw[<-cj] at A;have⟨k1,k2,k3,k4,k5⟩:=gu.o W1 A;have fa:=CJ (a:=aK ⟨#[]⟩) (b:=aJ aY 0 0) k1;have gv:Hid _:=fa;have HB:Hid (dK N w ((W1.setCell (Ad N 0) (aK ⟨#[]⟩)).setCell (Ad N 1) (aJ aY 0 0))):=(k5.c zl _).c zl _;obtain⟨a1,c1,rfl⟩:=qd au;clear au b9 k1 k5 fa A;go_wp2;have⟨q1,q2⟩:=gv.o;refine dQ (v:=aN #[aL #[aK ⟨#[]⟩,aJ aY 0 0],aM false]) (by simp[results,dU,go_sem,q1,q2]) rfl ?_;exact⟨HD.o _ _ rfl,HB.o⟩
 have hL:aD (R s 0)<=300:=by omega
 have df:=λW1=>Bj s W1 hs (by omega);have jr:=FA s;have da:=wP s;have fj:=zX s hL;have hD:jW s=if (fZ (gU true) (Q7 s)).1≠0 then aY else uU (Q7 s):=by unfold jW;rw[if_neg aq]
 generalize Q7 s=ts at *;have c6:0<aD ts:=by have⟨pre,E,G,_⟩:=da;rw[G];simp
 have db:=λ(g z:Nat) (W:Wq) (h:tt W g ts)=>CY g z ts true W h (by omega);by_cases ck:(fZ (gU true) ts).1=0
 .obtain⟨t,p,us,LL,a6,k,rfl,c7,d4,kg,es⟩:=Fm ts da ck;rw[if_neg (by simpa using ck)] at hD;unfold uU at hD;simp only[c7] at hD;have cq:=xC 1200 us _ _ _ _ (λu hu=>fj u (zt (zt hu))) c7;have d6:=fj t zs;have HD:Hid (∀(e:dP) (w':Wq),(∃va,e=aQ (aN #[aL #[aK t.f,va],aM true])/\aH w' N 215 2 va (aD LL) (LL.flatMap jL))->ry s N e w'):=by{rintro e w' ⟨va,G,h2⟩;unfold ry;rw[hD];exact⟨va,G,h2,d4,kg,es,d6,cq⟩};have g8:Hid (∀(g z:Nat) (W:Wq),r9 W g (t::p::us)->Cs 177 #[Sc g (aD (t::p::us)) z,aO aR 0,aJ aY 0 0] W λe w'=>∃va v' M,e=aQ (aN #[aL #[aK t.f,va],aO aR M,v'])/\aH w' W.heap.size 215 2 va (aD LL) (LL.flatMap jL)/\dK W.heap.size W w'):=by{intro g z W h;refine (AO g z (t::p::us) 0 W.heap.size (aJ aY 0 0) [] LL a6 k W h (by omega) (by simp) zl (by simp) zo c7).m ?_;rintro e w' ⟨va,v',rfl,G,h2,h3⟩;exact⟨va,v',_,rfl,G,BH h3 zl⟩};have Qah:Hid (∀(g z:Nat) (W:Wq),tt W g (t::p::us)->Cs 108 #[Sc g (aD (t::p::us)) z,aM true] W λe w'=>(∃p:Nat,e=aQ (aN #[aO aR 0,aO aR p]))/\dK W.heap.size W w'):=by{intro g z W h;refine (db g z W h).m ?_;rintro e w' ⟨rfl,hb⟩;refine⟨⟨(fZ (gU true) (t::p::us)).2,?_⟩,hb⟩;have e0:(fZ ⟨0,false,true,0,0,0,0⟩ (t::p::us)).1=0:=ck;rw[e0];rfl};clear db hD c7 d4 es ck da aq fj cq d6;generalize t.f=tx at *;generalize (t::p::us)=ts at *;generalize R s 0=L at *;go_enter dX,dV;go_wp2_with fail;refine b9.m ?_;rintro e W1 ⟨v1,rfl,au,A⟩;rw[<-cj] at A;obtain⟨a1,c1,rfl⟩:=qd au;clear au b9;go_wp2_with fail;refine (df W1).m ?_;rintro e W2 ⟨v2,rfl,bh,ah⟩;obtain⟨g,z,rfl,b7⟩:=zC bh c6;have ch:dK W0.heap.size W0 W2:=A.t (ah.m A.s);clear bh df A ah;go_wp2_with fail;refine (Qah.o g z W2 b7.1).m ?_;rintro e W3 ⟨⟨p3,rfl⟩,aj⟩;have fc:=b7.f aj b7.1.1;have cn:dK W0.heap.size W0 W3:=ch.t (aj.m ch.s);clear aj b7 Qah ch;go_wp2_with fail;refine (g8.o g z W3 fc).m ?_;rintro e W4 ⟨va,v4,M,rfl,fs,f4⟩;have dp:dK W0.heap.size W0 W4:=cn.t (f4.m cn.s);have⟨k1,k2,k3,k4,k5⟩:=gu.o W4 dp;have ek:N+1<=W3.heap.size:=by{have:=cn.s;rw[di.o] at this;exact this};have dj:N<W4.heap.size:=(zg k1).1;obtain⟨a4,C,rfl⟩:=qd fs;have kA:Hid (∀O,(W4.alloc O).heap[N]?=cC #[aK ⟨#[]⟩,aJ aY 0 0] 145):=λO=>(bE _ _ _ dj).t k1;have Qd:Hid (∀O,aH (((W4.alloc O).setCell (Ad N 0) (aK tx)).setCell (Ad N 1) (aJ a4 (aD LL) C)) N 215 2 (aJ a4 (aD LL) C) (aD LL) (LL.flatMap jL)/\dK N w (((W4.alloc O).setCell (Ad N 0) (aK tx)).setCell (Ad N 1) (aJ a4 (aD LL) C))):=by{intro O;refine⟨qz (B:=W3.heap.size) (qm (fs.l O) (λg' dk _=>?_)) (by omega),((k5.l (by omega) O).c zl _).c zl _⟩;have G:=(Qr fs g' dk).1;rw[bI _ _ _ _ (by simp;omega),bI _ _ _ _ (by simp;omega)]};have k8:∀O,aE (W4.alloc O) (Ad N 0)=aX (aK ⟨#[]⟩):=λO=>by{simp[aE,kA.o O]};have lj:∀O o,aF (W4.alloc O) (Ad N o)=false:=λO o=>by{simp[aF,kA.o O]};clear g8 fs f4 dp cn fc k1 k5;go_wp2;have gw:=Qo (Qo (kA.o (aP #[aK tx,aJ a4 (aD LL) C] 145)) 0 (aK tx)) 1 (aJ a4 (aD LL) C);rw[bX _ _ _ _ dj,bX _ _ _ _ (by simpa using dj)] at gw;have gq:=Qd.o (aP #[aK tx,aJ a4 (aD LL) C] 145);rw[bX _ _ _ _ dj,bX _ _ _ _ (by simpa using dj)] at gq;have q1:aE (((W4.setCell (Ad N 0) (aK tx)).setCell (Ad N 1) (aJ a4 (aD LL) C)).alloc (aP #[aK tx,aJ a4 (aD LL) C] 145)) (Ad N 0)=aX (aK tx):=by{simp only[aE,gw];rfl};have q2:aE (((W4.setCell (Ad N 0) (aK tx)).setCell (Ad N 1) (aJ a4 (aD LL) C)).alloc (aP #[aK tx,aJ a4 (aD LL) C] 145)) (Ad N 1)=aX (aJ a4 (aD LL) C):=by{simp only[aE,gw];rfl};refine dQ (v:=aN #[aL #[aK tx,aJ a4 (aD LL) C],aM true]) (by simp[results,dU,go_sem,q1,q2]) rfl ?_;exact⟨HD.o _ _ ⟨_,rfl,gq.1⟩,gq.2⟩
 rw[if_pos ck] at hD;have HD:Hid (∀(e:dP) (w':Wq),e=aQ (aN #[aL #[aK ⟨#[]⟩,aJ aY 0 0],aM false])->ry s N e w'):=by intro e w' he;unfold ry;rw[hD];exact he
 have Qaj:Hid (∀(g z:Nat) (W:Wq),tt W g ts->Cs 108 #[Sc g (aD ts) z,aM true] W λe w'=>e=aQ (aN #[aO aR (fZ (gU true) ts).1,aO aR (fZ (gU true) ts).2])/\dK W.heap.size W w'):=db;clear db hD da aq fj;generalize (fZ (gU true) ts).1=oe at *;generalize (fZ (gU true) ts).2=op at *;generalize R s 0=L at *;have m1:(oe != 0)=true:=by simpa using ck
 go_enter dX,dV;go_wp2_with fail;refine b9.m ?_;rintro e W1 ⟨v1,rfl,au,A⟩;rw[<-cj] at A;obtain⟨a1,c1,rfl⟩:=qd au;clear au b9;go_wp2_with fail;refine (df W1).m ?_;rintro e W2 ⟨v2,rfl,bh,ah⟩;obtain⟨g,z,rfl,b7⟩:=zC bh c6;have ch:dK W0.heap.size W0 W2:=A.t (ah.m A.s);clear bh df A ah;go_wp2_with fail;refine (Qaj.o g z W2 b7.1).m ?_;rintro e W3 ⟨rfl,aj⟩;have cn:dK W0.heap.size W0 W3:=ch.t (aj.m ch.s);have⟨k1,k2,k3,k4,k5⟩:=gu.o W3 cn;have fa:=CJ (a:=aK ⟨#[]⟩) (b:=aJ aY 0 0) k1;have gv:Hid _:=fa;have HB:Hid (dK N w ((W3.setCell (Ad N 0) (aK ⟨#[]⟩)).setCell (Ad N 1) (aJ aY 0 0))):=(k5.c zl _).c zl _;clear aj b7 Qaj ch k1 k5 fa cn;go_wp2;have⟨q1,q2⟩:=gv.o;refine dQ (v:=aN #[aL #[aK ⟨#[]⟩,aJ aY 0 0],aM false]) (by simp[results,dU,go_sem,q1,q2]) rfl ?_;exact⟨HD.o _ _ rfl,HB.o⟩
def sE:Nat->List ByteArray->ByteArray
 |_,[]=>⟨#[]⟩
 |i,x::l=>(if 0<i then ⟨#[44]⟩ else ⟨#[]⟩)++x++sE (i+1) l
def lJ(g:Gr):ByteArray:=(g.j ++ ⟨#[40]⟩)++sE 0 g.d ++ ⟨#[41]⟩
def CM(p:Gr×Vq)(w:Wq)(A:qv w p.2 p.1.d)(hr:p.1.j.size<=2000)(hl:aD p.1.d<=1000)(hn:∀t∈p.1.d,t.size<=2000):Cs 125 #[rI p] w λe w'=>e=aQ (aK (lJ p.1))/\dK w.heap.size w w':=by
 have⟨⟨rel,args⟩,va⟩:=p;unfold rI;simp only at hr hl hn A ⊢;obtain⟨a1,a2,rfl⟩:=qd A;have HC:Hid (∀(O:Obj)(j:Nat)(M:j<aD args),∃g,a1=aX ⟨g,0,aY⟩/\aE (w.alloc O) (Ad g j)=aX (aK args[j])):=by intro O j M;have⟨g,cap,e1,hg,G⟩:=A.d j M;cases e1;have hb:=(bH _ w).l zl O;exact⟨g,rfl,(bG hb hg).t G⟩
 have b8:=aA λO=>(bH _ w).l zl O;clear A;have b4:(⟨#[40]⟩:ByteArray).size=1:=rfl;have bv:(⟨#[44]⟩:ByteArray).size=1:=rfl;have kx:(⟨#[41]⟩:ByteArray).size=1:=rfl;have hW:Hid (lJ ⟨rel,args⟩=(rel ++ ⟨#[40]⟩)++sE 0 args ++ ⟨#[41]⟩):=rfl;generalize lJ ⟨rel,args⟩=T at *;go_enter Tryz.func125,Tryz.ntmps125;go_wp2;go_loopw [3,4] (λx p wr=>∃(k:Nat)(z:ByteArray),x=aK z/\p=aO aR k/\k<=aD args/\wr=w.alloc (aP #[aK rel,aJ a1 (aD args) a2] 226)/\z.size<=2001+k*4000/\Hid (T=z++sE k (args.drop k) ++ ⟨#[41]⟩)) (λ_ p _=>aD args-(intOf p).toNat)
 case atStart=>exact⟨0,_,rfl,rfl,zz,rfl,by rw[bB];omega,hW⟩
 obtain⟨k,z,rfl,rfl,ci,rfl,cq,aa⟩:=hrel;by_cases af:k<aD args
 .obtain⟨g,rfl,G⟩:=HC.o (aP #[aK rel,aJ a1 (aD args) a2] 226) k af;have hm:=hn args[k] (zm af);rw[bC af] at aa;generalize args[k]=nm at *;simp only[sE] at aa;have am:z.size+1<=100000000:=by{omega};by_cases h0:k=0
  .subst h0;rw[if_neg (by decide)] at aa;have E:Hid (T=z++nm++sE 1 (args.drop 1) ++ ⟨#[41]⟩):=by{show _=_;rw[aa.o,zO];simp only[bF]};have ah:z.size+nm.size<=100000000:=by{omega};have C:Hid ((z++nm).size<=2001+1*4000):=by{show _<=_;rw[bB];omega};clear aa;go_wp2;go_roundw
   case rel=>exact⟨1,_,rfl,by go_num,by omega,by trivial,C.o,E⟩
   simp[intOf];omega
  rw[if_pos (by omega)] at aa;have E:Hid (T=z ++ ⟨#[44]⟩++nm++sE (k+1) (args.drop (k+1)) ++ ⟨#[41]⟩):=by{show _=_;rw[aa.o];simp only[bF]};have ig:0<k:=by{omega};have ah:(z ++ ⟨#[44]⟩).size+nm.size<=100000000:=by{rw[bB];omega};have C:Hid ((z ++ ⟨#[44]⟩++nm).size<=2001+(k+1)*4000):=by{show _<=_;rw[bB,bB];omega};clear aa;go_wp2;go_roundw
  case rel=>exact⟨k+1,_,rfl,by go_num,by omega,by trivial,C.o,E⟩
  simp[intOf];omega
 rw[bD (by omega)] at aa;simp only[sE,zK] at aa;have am:z.size+1<=100000000:=by{omega};go_wp2;go_ret;rw[aa.o];exact⟨rfl,b8.o _⟩
def iF:List ByteArray:=cR 8 ⟨#[]⟩
def F4(z:Vq)(n:Nat):(eA #[z] (n*1)).toList=cR n z:=by
 unfold eA;rw[dI];apply List.ext_getElem
 .simp
 grind
def AD(n:Nat):(eA (aK ⟨#[]⟩).cells (n*1)).toList=(cR n (⟨#[]⟩:ByteArray)).map aK:=by have:(aK ⟨#[]⟩).cells=#[aK ⟨#[]⟩]:=rfl;rw[this,F4];simp
def Ko:(eA (aK ⟨#[]⟩).cells (8*1)).toList=iF.map aK:=AD 8
def Ci(w:Wq):Cs 124 #[] w λe w'=>∃v,e=aQ v/\aH w' w.heap.size 9 1 v 8 (iF.map aK)/\dK w.heap.size w w':=by
 have⟨i0,hi,cb,b4,bv⟩:=dR Tryz.a;have A:i0.bytes*8<=281474976710656:=by rw[bv];decide
 have E:8<=maxLen:=by unfold dS;decide
 go_enter Tryz.func124,Tryz.ntmps124;go_wp2_with (at_make;refine wpList_make_full _ rfl _ _ 22 rfl w.heap.size 9 i0 (aK ⟨#[]⟩) 1 dL hi cb b4 aR aR _ _ 8 rfl rfl rfl rfl A E zl ?_;intro w1 z ai);go_ret;rw[Ko] at z;exact⟨_,rfl,z,(bH _ w).grown ai zl (λk C=>by cases C)⟩
structure jY(W:Wq)(a:Option Addr)(ps:List (Am×Vq)):Prop where
 i:∀(k:Nat) (hk:k<aD ps),∃g cp,a=aX ⟨g,cp,aY⟩/\g<W.heap.size/\aE W (Ad g (cp+k*2))=aX (aK ps[k].1.j)/\aE W (Ad g (cp+k*2+1))=aX ps[k].2
 z:∀p∈ps,gY W p
def jY.f(h:jY W a ps)(z:dK W.heap.size W W'):jY W' a ps:=
 ⟨λk A=>by
  have⟨g,cp,e,hg,c0,c1⟩:=h.i k A
  exact⟨g,cp,e,Nat.lt_of_lt_of_le hg z.s,(bG z hg).t c0,(bG z hg).t c1⟩,λp C=>(h.z p C).o (Kp.d (S:=0) z)⟩
def kW.s{c:Nat}(h:kW W (aJ a (aD ps) c) ps):jY W a ps:=
 ⟨λk z=>by
  have⟨g,cap,e,hg,c0,c1,_⟩:=h.d k z;cases e
  exact⟨g,0,rfl,hg,by rw[cL];exact c0,by rw[cL];exact c1⟩,h.z⟩
def jY.b{cp:Nat}(h:jY W (aX ⟨g,cp,aY⟩) ps)(i:Nat):jY W (aX ⟨g,cp+i*2,aY⟩) (ps.drop i):=
 ⟨λk z=>by
  rw[cM] at z;have⟨g',jm,e,hg,c0,c1⟩:=h.i (i+k) (by lia);cases e;refine⟨g,cp+i*2,rfl,hg,?_,?_⟩;{grind}
  .rw[List.getElem_drop];have e:cp+i*2+k*2+1=cp+(i+k)*2+1:=by lia
   rwa[e],λp A=>h.z p (bL A)⟩
def ya(a:Option Addr)(c:Nat)(ps:List (Am×Vq))(n:Nat)(w:Wq)(hp:jY w a ps)(hl:aD ps<=1000)(hn:n<=1000000)(hm:∀p∈ps,aD p.1.d<=1000000/\∀t∈p.1.d,t.d<=1000000):Cs 246 #[aJ a (aD ps) c,aO aR n] w λe w'=>e=aQ (aM (Qf (ps.map (·.1)) n))/\w'=w:=by
 have HP:=aA hp;clear hp;go_enter Tryz.func246,Tryz.ntmps246;go_wp2;go_loopw [5] (λp wr=>∃i:Nat,p=aO aR i/\i<=aD ps/\wr=w/\Hid (Qf ((ps.drop i).map (·.1)) n=Qf (ps.map (·.1)) n)) (λp _=>aD ps-(intOf p).toNat)
 case atStart=>exact⟨0,rfl,zz,rfl,rfl⟩
 obtain⟨i,rfl,ci,gj,aa⟩:=hrel;obtain rfl:w=wr:=gj.s;by_cases af:i<aD ps
 .obtain⟨g,cp,rfl,hg,c0,c1⟩:=HP.o.i i af;have G:=HP.o.z ps[i] (zm af);have⟨x1,x2,hx⟩:=qd G;rw[bC af] at aa;have ke:=hm ps[i] (zm af);rw[hx] at c1;generalize ps[i]=p at *;simp only[bJ,Qf,bZ] at aa;have f5:Hid (∀(j:Nat)(hj:j<aD p.1.d),∃z,x1=aX ⟨z,0,aY⟩/\aE w (Ad z (j*2))=aX (aK p.1.d[j].c)/\aE w (Ad z (j*2+1))=aX (aO aR p.1.d[j].d)):=by{intro j hj;have⟨z,d3,e2,_,M,O⟩:=G.d j hj;rw[hx] at e2;cases e2;exact⟨z,rfl,M,O⟩};have dt:=aA aa;have⟨jd,fq⟩:=ke;clear aa G hx c0;generalize p.1.d=args at *;go_wp2;go_loopw [6] (λp wr=>∃k:Nat,p=aO aR k/\k<=aD args/\wr=w/\Hid (((args.drop k).any (mW n) || Qf ((ps.drop (i+1)).map (·.1)) n)=Qf (ps.map (·.1)) n)) (λp _=>aD args-(intOf p).toNat)
  case atStart=>exact⟨0,rfl,zz,rfl,dt⟩
  obtain⟨k,rfl,ey,gj,ac⟩:=hrel;obtain rfl:w=wr:=gj.s;by_cases E:k<aD args
  .obtain⟨z,rfl,M,O⟩:=f5.o k E;have kv:=fq args[k] (zm E);rw[bC E] at ac;generalize args[k]=tm at *;have⟨nm,A⟩:=tm;simp only[bZ] at ac M O kv;by_cases h1:nm.toList.isEmpty=true
   .by_cases h2:A=n;{subst h2;have C:mW A ⟨nm,A⟩=true:=by{unfold mW;simp[h1]};rw[C] at ac;go_wp2;go_ret;rw[<-ac.o];exact⟨by simp,rfl⟩};have C:mW n ⟨nm,A⟩=false:=by{unfold mW;simp[h2]};rw[C] at ac;have m2:((A:Int) == (n:Int))=false:=by{simp;omega};go_wp2;go_roundw
    case rel=>exact⟨k+1,by go_num,by omega,by trivial,ac⟩
    simp[intOf];omega
   have ef:nm.toList.isEmpty=false:=by{simpa using h1};have C:mW n ⟨nm,A⟩=false:=by{unfold mW;simp[ef]};rw[C] at ac;clear h1;go_wp2;go_roundw
   case rel=>exact⟨k+1,by go_num,by omega,by trivial,ac⟩
   simp[intOf];omega
  rw[bD (by omega)] at ac;simp only[cJ,Bool.false_or] at ac;go_wp2;go_roundw
  case rel=>exact⟨i+1,by go_num,by omega,by trivial,ac⟩
  simp[intOf];omega
 rw[bD (by omega)] at aa;go_wp2;go_ret;rw[<-aa.o];exact⟨rfl,rfl⟩
def wu(x y:ByteArray):Bool:=Op.bytesLess x.toList y.toList
def mR(x:ByteArray):List ByteArray->List ByteArray
 |[]=>[x]
 |y::l=>if wu x y=true then x::y::l else y::mR x l
def lB(out l:List ByteArray):List ByteArray:=l.foldl (λo x=>mR x o) out
theorem Ds(x:ByteArray)(l:List ByteArray):aD (mR x l)=aD l+1:=by
 induction l with
 |nil=>rfl
 |cons y l ih=>unfold mR;split<;>simp[ih]
structure mX(N S:Nat)(w X:Wq)(vo:Vq)(out:List ByteArray)(vm:Vq)(m:List ByteArray):Prop where
 k:N<=S
 size:S<=X.heap.size
 f:dK N w X
 c:aH X N 9 1 vo (aD out) (out.map aK)
 e:∀g,aI vo=aX g->g<S
 b:aH X S 9 1 vm (aD m) (m.map aK)
def mX.j{w:Wq}{C:Vq}(h:mX N S w X vo out vm m)(z:(X.alloc o).grownBy Y (aI vm))(M:aH Y S 9 1 C (aD m+1) (m.map aK++[aK x])):mX N S w Y vo out C (m++[x]):=by have O:=h.k;have h2:=h.size;have E:=z.size;simp at E;have A:=λk e=>(Qr h.b k e).1;refine⟨h.k,by lia,(h.f.l (by lia) o).grown z (by simp;lia) (λk e=>by have:=A k e;lia),?_,h.e,by simpa using M⟩;refine qm h.c (λg G af=>?_);exact (z.b g (by simp;lia) (λe=>by have:=A g e.s;have:=h.e g G;lia)).t (bE _ _ _ af)
def mX.q{w:Wq}(h:mX N S w X vo out vm m)(q:Nat):mX N S w (X.drewN q) vo out vm m:=⟨h.k,h.size,qx h.f,h.c,h.e,h.b⟩
def mX.d{w:Wq}(h:mX N S w X vo out vm m):∀O,S<=(X.alloc O).heap.size:=λO=>by have:=h.size;simp;lia
def Gj(v:Vq)(l:List ByteArray)(w:Wq)(hA:qv w v l)(hl:aD l<=100000):Cs 126 #[v] w λe w'=>∃v',e=aQ v'/\aH w' w.heap.size 9 1 v' (aD (lB [] l)) ((lB [] l).map aK)/\dK w.heap.size w w':=by
 have⟨i0,hi,cb,b4,bv⟩:=dR Tryz.a;obtain⟨a1,a2,rfl⟩:=qd hA;obtain⟨N,hN⟩:=aB w.heap.size;have ao:=hN.s;have HC:Hid (∀(X:Wq),dK N w X->∀(j:Nat)(hj:j<aD l),∃g,a1=aX ⟨g,0,aY⟩/\g<N/\aE X (Ad g j)=aX (aK l[j])):=by intro X hX j hj;have⟨g,cap,e1,A,c0⟩:=hA.d j hj;cases e1;have ca:g<N:=hN▸A;exact⟨g,rfl,ca,(bG hX ca).t c0⟩
 have cd:∀(x:ByteArray),∀u∈[aK x],u.oneCell'=true:=λx=>by simp[cH]
 rw[<-hN];clear hA hN;generalize hTT:lB [] l=T at *;go_enter Tryz.func126,Tryz.ntmps126;go_wp2;go_loopw [3,4] (λo p wr=>∃(i:Nat)(vo:Vq)(out:List ByteArray),vo=o/\p=aO aR i/\i<=aD l/\N<=wr.heap.size/\dK N w wr/\aH wr N 9 1 vo (aD out) (out.map aK)/\aD out<=i/\Hid (lB out (l.drop i)=T)) (λ_ p _=>aD l-(intOf p).toNat)
 case atStart=>exact⟨0,_,[],rfl,rfl,zz,by omega,zr,zo,cF _,hTT⟩
 obtain⟨i,vo,out,rfl,rfl,ci,a7,ag,qt,lw,aa⟩:=hrel;by_cases af:i<aD l
 .obtain⟨gl,rfl,Qp3,_⟩:=HC.o wr ag i af;have jn:Hid (∀X,dK N w X->aE X (Ad gl i)=aX (aK l[i])):=by{intro X hX;have⟨g',e',_,c⟩:=HC.o X hX i af;cases e';exact c};rw[bC af] at aa;simp only[lB,dC] at aa;generalize l[i]=x at *;have dt:=aA aa;obtain⟨S,G⟩:=aB wr.heap.size;have bu:mX N S w wr vo out (aJ aY 0 0) []:=⟨by omega,by omega,ag,qt,λg A=>by have:=(Qr qt g A).2.1;omega,zo⟩;have ji:=aA bu;have⟨oa,oc,kc⟩:=qd qt;subst kc;clear aa bu qt ag a7 G;go_wp2;go_loopw [5,6,7] (λo q p wr=>∃(k:Nat)(vm:Vq)(m:List ByteArray)(b:Bool),vm=o/\q=aM b/\p=aO aR k/\k<=aD out/\mX N S w wr (aJ oa (aD out) oc) out vm m/\aD m<=k+(if b=true then 1 else 0)/\Hid (m++(if b=true then out.drop k else mR x (out.drop k))=mR x out)) (λ_ _ p _=>aD out-(intOf p).toNat)
  case atStart=>exact⟨0,_,[],false,rfl,rfl,rfl,zz,ji.o,by simp,rfl⟩
  clear ji;obtain⟨k,vm,m,b,rfl,rfl,rfl,ey,G,eb,ac⟩:=hrel;have cx:=jn.o wr G.f;have Qqe:aD m<=k+1:=by{split at eb<;>omega};have C:=aA G;have c3:aD m+1<=maxLen:=by{unfold dS;omega};have cv:(aD m+1)*16<=140737488355328:=by{omega};have cl:=aA G.d;by_cases bc:k<aD out
  .have⟨go,lz,e1,k6,cy⟩:=qv.d (qz G.c zz) k bc;cases e1;rw[bC bc] at ac;have Qp4:=G.e go rfl;have d5:Hid (∀(O:Obj)(w1:Wq),(wr.alloc O).grownBy w1 (aI vm)->aE w1 (Ad go k)=aX (aK out[k])):=by{intro O w1 A;have h1:=(A.b go (by simp;omega) (λe=>by have:=(Qr C.o.b _ e.s).1;omega)).t (bE _ _ _ k6);exact (World.cell?_of_block (w:=wr) h1).t cy};generalize out[k]=y at *;have⟨ma,mc,en⟩:=qd G.b;subst en;have l8:aD m+2<=200000:=by{omega};clear G;cases b with
   |true=>
    simp only[if_true] at ac eb;have ei:Hid ((m++[y])++(if true=true then out.drop (k+1) else mR x (out.drop (k+1)))=mR x out):=by{show _=_;rw[<-ac.o];simp};go_wp2;go_quiet (fail);have z:=aA (C.o.q nq);have Qhr:Hid (∀(O:Obj) (w1:Wq),((wr.drewN nq).alloc O).grownBy w1 (aI (aJ ma (aD m) mc))->aE w1 (Ad go k)=aX (aK y)):=λO w1 A=>d5.o O w1 ⟨A.os,A.tape,A.output,A.size,A.b⟩;have fi:=aA z.o.d;have g6:aE (wr.drewN nq) (Ad gl i)=aX (aK x):=cx;have jb:aE (wr.drewN nq) (Ad go k)=aX (aK y):=cy;generalize wr.drewN nq=wd at *;clear C d5 cx cy cl;go_wp2_with (at_builtin;refine dM _ rfl (.tmp 40) (.tmp 45) 22 rfl S 9 i0 (aK ⟨#[]⟩) 1 16 dL hi cb b4 bv rfl (by decide) _ _ _ rfl (z.o.b.l _) ⟨wd.heap.size,0,aY⟩ 1 1 [aK y] rfl rfl (nV _ _ _) (cd y) c3 cv (fi.o _) ?_;intro M w1 au co _;have E:=aA (z.o.j co au));go_roundw
    case rel=>exact⟨k+1,M,m++[y],true,rfl,rfl,by go_num,by omega,E.o,by simp;omega,ei⟩
    simp[intOf];omega
   |false=>
    simp only[dO,if_false,mR] at ac eb;cases hxy:wu x y with
    |true=>
     rw[hxy] at ac;simp only[if_true] at ac;unfold wu at hxy;have Qnz:aD (m++[x])+1<=maxLen:=by{unfold dS;simp;omega};have Qn0:(aD (m++[x])+1)*16<=140737488355328:=by{simp;omega};have ei:Hid ((m++[x]++[y])++(if true=true then out.drop (k+1) else mR x (out.drop (k+1)))=mR x out):=by{show _=_;rw[<-ac.o];simp};go_wp2;go_quiet (fail);have z:=aA (C.o.q nq);have Qhr:Hid (∀(O:Obj) (w1:Wq),((wr.drewN nq).alloc O).grownBy w1 (aI (aJ ma (aD m) mc))->aE w1 (Ad go k)=aX (aK y)):=λO w1 A=>d5.o O w1 ⟨A.os,A.tape,A.output,A.size,A.b⟩;have fi:=aA z.o.d;have g6:aE (wr.drewN nq) (Ad gl i)=aX (aK x):=cx;have jb:aE (wr.drewN nq) (Ad go k)=aX (aK y):=cy;generalize wr.drewN nq=wd at *;clear C d5 cx cy cl;go_wp2_with (first|(at_builtin;refine dM _ rfl (.tmp 33) (.tmp 38) 22 rfl S 9 i0 (aK ⟨#[]⟩) 1 16 dL hi cb b4 bv rfl (by decide) _ _ _ rfl (z.o.b.l _) ⟨wd.heap.size,0,aY⟩ 1 1 [aK x] rfl rfl (nV _ _ _) (cd x) c3 cv (fi.o _) ?_;intro M w1 au co _;have E:=aA (z.o.j co au);have lm:=Qhr.o _ w1 co;have Qn1:=aA E.o.d;have⟨gm,cm,en⟩:=dT au;subst en)|(at_builtin;refine dM _ rfl (.tmp 40) (.tmp 45) 22 rfl S 9 i0 (aK ⟨#[]⟩) 1 16 dL hi cb b4 bv rfl (by decide) _ _ _ rfl (E.o.b.l _) ⟨w1.heap.size,0,aY⟩ 1 1 [aK y] rfl rfl (nV _ _ _) (cd y) Qnz Qn0 (Qn1.o _) ?_;intro iw w2 bh fe _;have d8:=aA (E.o.j fe bh)));go_roundw
     case rel=>exact⟨k+1,iw,m++[x]++[y],true,rfl,rfl,by go_num,by omega,d8.o,by simp;omega,ei⟩
     simp[intOf];omega
    |false=>
     rw[hxy] at ac;simp only[dO,if_false] at ac;unfold wu at hxy;have ei:Hid ((m++[y])++(if false=true then out.drop (k+1) else mR x (out.drop (k+1)))=mR x out):=by{show _=_;rw[<-ac.o];simp};go_wp2;go_quiet (fail);have z:=aA (C.o.q nq);have Qhr:Hid (∀(O:Obj) (w1:Wq),((wr.drewN nq).alloc O).grownBy w1 (aI (aJ ma (aD m) mc))->aE w1 (Ad go k)=aX (aK y)):=λO w1 A=>d5.o O w1 ⟨A.os,A.tape,A.output,A.size,A.b⟩;have fi:=aA z.o.d;have g6:aE (wr.drewN nq) (Ad gl i)=aX (aK x):=cx;have jb:aE (wr.drewN nq) (Ad go k)=aX (aK y):=cy;generalize wr.drewN nq=wd at *;clear C d5 cx cy cl;go_wp2_with (at_builtin;refine dM _ rfl (.tmp 40) (.tmp 45) 22 rfl S 9 i0 (aK ⟨#[]⟩) 1 16 dL hi cb b4 bv rfl (by decide) _ _ _ rfl (z.o.b.l _) ⟨wd.heap.size,0,aY⟩ 1 1 [aK y] rfl rfl (nV _ _ _) (cd y) c3 cv (fi.o _) ?_;intro M w1 au co _;have E:=aA (z.o.j co au));go_roundw
     case rel=>exact⟨k+1,M,m++[y],false,rfl,rfl,by go_num,by omega,E.o,by simp;omega,ei⟩
     simp[intOf];omega
  rw[bD (by omega)] at ac;have⟨ma,mc,en⟩:=qd G.b;subst en;clear G;cases b with
  |true=>
   simp only[if_true,cO] at ac;have fq:=aA ac;go_wp2;go_roundw
   case rel=>refine⟨i+1,_,m,rfl,by go_num,by omega,bO C.o.k C.o.size,C.o.f,qz C.o.b C.o.k,?_,fq.o▸dt⟩;rw[fq.o,Ds];omega
   simp[intOf];omega
  |false=>
   simp only[dO,if_false,mR] at ac;go_wp2_with (at_builtin;refine dM _ rfl (.tmp 49) (.tmp 54) 22 rfl S 9 i0 (aK ⟨#[]⟩) 1 16 dL hi cb b4 bv rfl (by decide) _ _ _ rfl (C.o.b.l _) ⟨wr.heap.size,0,aY⟩ 1 1 [aK x] rfl rfl (nV _ _ _) (cd x) c3 cv (cl.o _) ?_;intro M w1 au co _;have E:=aA (C.o.j co au));go_roundw
   case rel=>refine⟨i+1,M,m++[x],rfl,by go_num,by omega,bO E.o.k E.o.size,E.o.f,qz E.o.b E.o.k,?_,ac.o▸dt⟩;rw[ac.o,Ds];omega
   simp[intOf];omega
 rw[bD (by omega)] at aa;have j1:out=T:=aa.o;subst j1;go_wp2;go_ret;exact⟨vo,rfl,qt,ag⟩
def qX(rel:ByteArray)(g:Gr):Bool:=g.j.toList == rel.toList
def rN(gs:List Gr)(rel:ByteArray):List ByteArray:=(gs.filter (qX rel)).map lJ
def EW(g:Gr):Prop:=g.j.size<=2000/\aD g.d<=1000/\∀t∈g.d,t.size<=2000
theorem Cl(v:Vq)(ps:List (Gr×Vq))(rel:ByteArray)(w:Wq)(hp:jS w v ps)(hl:aD ps<=100000)(hf:∀p∈ps,EW p.1):Cs 127 #[v,aK rel] w λe w'=>∃v',e=aQ v'/\aH w' w.heap.size 9 1 v' (aD (lB [] (rN (ps.map (·.1)) rel))) ((lB [] (rN (ps.map (·.1)) rel)).map aK)/\dK w.heap.size w w':=by
 obtain⟨i0,hi,cb,b4,bv⟩:=dR Tryz.a;obtain⟨pa,pc,rfl⟩:=qd hp.h;obtain⟨N,hN⟩:=aB w.heap.size;have ao:=hN.s;have HP:Hid (jS w (aJ pa (aD ps) pc) ps):=hp;have cd:∀(x:ByteArray),∀u∈[aK x],u.oneCell'=true:=λx=>by simp[cH]
 rw[<-hN];clear hp hN;generalize hTT:rN (ps.map (·.1)) rel=T at *;go_enter Tryz.func127,Tryz.ntmps127;go_wp2;go_loopw [5,6] (λo p wr=>∃(i:Nat) (vo:Vq) (ae:List ByteArray),vo=o/\p=aO aR i/\i<=aD ps/\pH N w wr vo ae/\aD ae<=i/\Hid (ae++rN ((ps.drop i).map (·.1)) rel=T)) (λ_ p _=>aD ps-(intOf p).toNat)
 case atStart=>exact⟨0,_,[],rfl,rfl,zz,⟨zr,by omega,zo⟩,cF _,hTT⟩
 obtain⟨i,vo,ae,rfl,rfl,ci,z,lf,aa⟩:=hrel;by_cases af:i<aD ps
 .obtain⟨g,cap,e1,hg,d0,d1,⟨x1,x2,hx⟩,hS⟩:=(HP.o.f (by rw[ao];exact z.f)).d i af;cases e1;have fv:=hf ps[i] (zm af);have M:=CM ps[i] wr hS fv.1 fv.2.1 fv.2.2;unfold rI at M;rw[bC af,bJ] at aa;unfold rN at aa;rw[List.filter_cons] at aa;have il:qX rel ps[i].1=(ps[i].1.j.toList == rel.toList):=rfl;rw[il] at aa;rw[hx] at d1 M;have E:Hid (pH N w wr vo ae):=z;have G:=z.size;clear il hS hx z fv;obtain⟨A,d6⟩:=aC (lJ ps[i].1);rw[d6] at M;have ic:Hid (lJ ps[i].1=A):=d6;clear d6;generalize (aD ps[i].1.d)=al at *;cases hr:(ps[i].1.j.toList == rel.toList) with
  |false=>
   rw[hr] at aa;simp only[dO,if_false] at aa;generalize ps[i].1.j=pr at *;go_wp2;go_roundw
   case rel=>exact⟨i+1,vo,ae,rfl,by go_num,by omega,E.o,by omega,aa⟩
   simp[intOf];omega
  |true=>
   rw[hr] at aa;simp only[if_true,bJ] at aa;have cf:Hid ((ae++[A])++rN ((ps.drop (i+1)).map (·.1)) rel=T):=by{show _=_;rw[<-aa.o,ic.o];unfold rN;simp};have c3:aD ae+1<=maxLen:=by{unfold dS;omega};have cv:(aD ae+1)*16<=140737488355328:=by{omega};clear aa ic;generalize ps[i].1.j=pr at *;go_wp2_with fail;refine M.m ?_;rintro e W2 ⟨rfl,C⟩;have bk:pH N w W2 vo ae:=⟨E.o.f.t (C.m G),bO G C.s,qh E.o.z C⟩;have dv:Hid (pH N w W2 vo ae):=bk;have cl:Hid (∀O,N<=(W2.alloc O).heap.size):=λO=>by{have:=bk.size;simp;omega};clear M C bk E;go_wp2_with (at_builtin;refine dM _ rfl (.tmp 26) (.tmp 28) 22 rfl N 9 i0 (aK ⟨#[]⟩) 1 16 dL hi cb b4 bv rfl (by decide) _ _ _ rfl (dv.o.z.l _) ⟨W2.heap.size,0,aY⟩ 1 1 [aK A] rfl rfl (nV _ _ _) (cd A) c3 cv (cl.o _) ?_;intro ik w1 au co _);have ek:pH N w w1 ik (ae++[A]):=⟨(dv.o.f.l dv.o.size _).grown co (cl.o _) (λk e=>(Qr dv.o.z k e).1),by have:=co.size;have:=cl.o (aP #[aK A] 9);omega,by simpa using au⟩;clear au co;go_roundw
   case rel=>exact⟨i+1,ik,ae++[A],rfl,by go_num,by omega,ek,by simp;omega,cf⟩
   simp[intOf];omega
 rw[bD (by omega)] at aa;have km:ae=T:=by have:=aa.o;simpa [rN] using this
 subst km;have ja:=Gj vo ae wr (qz z.z zz) (by omega);have E:Hid (pH N w wr vo ae):=z;have G:=z.size;obtain⟨oa,oc,rfl⟩:=qd z.z;clear z;go_wp2_with fail;refine ja.m ?_;rintro e W2 ⟨v2,rfl,bh,C⟩;have aj:dK N w W2:=E.o.f.t (C.m G);have kq:=qz bh G;clear ja C bh;go_wp2;go_ret;exact⟨v2,rfl,kq,aj⟩
def qj(x:ByteArray):Bool:=x.toList.isEmpty
def rC(x y:ByteArray):Bool:=x.toList == y.toList
def jR:List Tm->List ByteArray->List ByteArray->Option (List ByteArray)
 |[],_,b=>aX b
 |t::ts,[],b=>aY
 |t::ts,x::xs,b=>
  if qj t.c=false then (if rC t.c x=true then jR ts xs b else aY)
  else if qj (b.getD t.d ⟨#[]⟩)=true then jR ts xs (b.set t.d x)
  else if rC (b.getD t.d ⟨#[]⟩) x=true then jR ts xs b else aY
def gM(a:Am)(g:Gr)(b:List ByteArray):Option (List ByteArray):=if rC a.j g.j=true/\aD a.d=aD g.d then jR a.d g.d b else aY
def zM(b o:List ByteArray):Prop:=aD o=aD b/\∀n,qj (b.getD n ⟨#[]⟩)=false->o.getD n ⟨#[]⟩=b.getD n ⟨#[]⟩
def zM.u{b o:List ByteArray}(h:zM b o)(n:Nat)(x:ByteArray)(C:qj (o.getD n ⟨#[]⟩)=true):zM b (o.set n x):=by
 refine⟨by rw[List.length_set];exact h.1,λm z=>?_⟩;have A:=h.2 m z;by_cases e:m=n
 .grind
 grind
theorem GT(b:List ByteArray):∀(ts:List Tm) (xs o:List ByteArray) (i:Nat) (z:i<aD ts) (A:i<aD xs),zM b o->qj (mZ b ts[i])=false->rC (mZ b ts[i]) xs[i]=false->jR ts xs o=aY
 |t::ts,x::xs,o,0,z,A,hE,he,hq=>by
  simp only[List.getElem_cons_zero] at he hq;unfold jR;unfold mZ at he hq;by_cases C:t.c.toList.isEmpty=true;{rw[if_pos C] at he hq;have G:qj t.c=true:=C;rw[if_neg (by rw[G];simp),hE.2 _ he,if_neg (by rw[he];simp),if_neg (by rw[hq];simp)]};{grind}
 |t::ts,x::xs,o,i+1,z,A,hE,he,hq=>by
  simp only[List.getElem_cons_succ] at he hq;have E:=λo' M=>GT b ts xs o' i (by simpa using z) (by simpa using A) M he hq;unfold jR;split;{grind}
  .split;{rename_i O;exact E _ (hE.u _ _ O)};{grind}
structure jE(N:Nat)(w X:Wq)(r1:ByteArray)(v1:Vq)(r2:ByteArray)(v2:Vq)(out:List ByteArray):Prop where
 f:dK N w X
 e:X.heap[N]?=cC #[aK r1,v1] 145
 c:X.heap[N+1]?=cC #[aK r2,v2] 226
 h:X.heap[N+2]?=aX (aP (out.map aK).toArray 9)
def jE.alloc{w:Wq}(h:jE N w X r1 v1 r2 v2 out)(o:Obj):jE N w (X.alloc o) r1 v1 r2 v2 out:=by have hs:N+3<=X.heap.size:=(zg h.h).1;exact⟨h.f.l (by lia) o,(bE _ _ _ (by lia)).t h.e,(bE _ _ _ (by lia)).t h.c,(bE _ _ _ (by lia)).t h.h⟩
def jE.q{w:Wq}(h:jE N w X r1 v1 r2 v2 out)(q:Nat):jE N w (X.drewN q) r1 v1 r2 v2 out:=⟨qx h.f,h.e,h.c,h.h⟩
def jE.b{w:Wq}(h:jE N w X r1 v1 r2 v2 out)(z:Y.heap=X.heap)(A:Y.os=X.os)(C:Y.tape=X.tape)(E:Y.output=X.output):jE N w Y r1 v1 r2 v2 out:=
 ⟨⟨A.t h.f.os,C.t h.f.tape,E.t h.f.output,z▸h.f.s,λk G=>by rw[z];exact h.f.b k G⟩,z▸h.e,z▸h.c,z▸h.h⟩
def jE.u{w:Wq}(h:jE N w X r1 v1 r2 v2 out)(k:Nat)(x:ByteArray):jE N w (X.setCell (Ad (N+2) k) (aK x)) r1 v1 r2 v2 (out.set k x):=by refine⟨h.f.c (by simp) _,(bI _ _ _ _ (by simp)).t h.e,(bI _ _ _ _ (by simp)).t h.c,?_⟩;rw[Qo h.h k (aK x)];congr 2;rw[<-dB];simp[List.map_set]
def jE.d{w:Wq}(h:jE N w X r1 v1 r2 v2 out)(k:Nat)(z:k<aD out):aE X (Ad (N+2) k)=aX (aK (out.getD k ⟨#[]⟩)):=by simp[aE,h.h,bT z]
def jE.z{w:Wq}(h:jE N w X r1 v1 r2 v2 out)(z:aD out<=1000):aH X N 9 1 (Sc (N+2) (aD out) (aD out)) (aD out) (out.map aK):=
 ⟨by simp,aU ⟨N+2,aD out,(out.map aK).toArray,rfl,by lia,h.h,cF _,by unfold dS;lia,by simp,by rw[dI];exact List.take_of_length_le (by simp)⟩⟩
