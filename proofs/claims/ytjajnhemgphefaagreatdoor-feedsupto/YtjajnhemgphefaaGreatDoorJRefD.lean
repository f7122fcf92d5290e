/- A part -/
import Derived.Test.YtjajnhemgphefaaGreatDoorJRefC
set_option linter.all false
set_option maxRecDepth 100000
set_option maxHeartbeats 4000000
open List renaming length->aB,length_drop->aZ,take_succ_eq_append_getElem->bC,drop_eq_getElem_cons->bD,drop_drop->bI
open Go.World renaming cell?->aC,frozen?->aD,ownsRow->aE,setCell->aU
open Go.Value renaming ownBlock->aF,string->aI,agg->aJ,int->aM,oneCell'->bJ
open Go.Obj renaming cells->aN
open Go.Ending renaming returned->aO
open Go.IntKind renaming i64->aP
open Option renaming some->aV,none->aW
open Nat renaming add_sub_cancel_left->aX,le_refl->bE,le_trans->bL,le_of_eq->bO
open Go.RowKit.Below renaming cell->aY,heap_alloc->bB,refl->bQ
open ByteArray renaming append_assoc->bF,size_append->bG,empty->bH
open Go.Proofs.Tryz renaming underlying209->bT
open Go renaming wpList_append_own->bU
open Go.RowKit renaming Below->bX
namespace Go.Proofs.YtjajnhemgphefaaGreatDoor
open Go renaming World->Wq,Value->Vq
open Go.RowKit Go.Shelf
variable {wr W0:Wq} {L:List Rn} {B i:Nat} {ac:List RT}
def lW(t:RT):List Vq:=[aM aP t.kind,aI t.text,aM aP t.place,aM aP t.runes]
theorem E0(t:RT):aB (lW t)=4:=rfl
theorem Ff(t:Rn):aB (nh t)=2:=rfl
theorem Tryz.infoRT:(Tryz.prog.info? 244).map (λi=>(i.zero,i.size,i.bytes))=aV (aV (aJ #[Ii 0,St ⟨#[]⟩,Ii 0,Ii 0]),4,40):=by kernel_rfl
def Q3(s:ByteArray):List RT:=dL (aB (R s 0)) (R s 0) 0++[⟨4,⟨#[]⟩,aB (R s 0),0⟩]
def mJ(w:Wq)(a:Addr):Nat:=match (aC w) a with|some (aM _ n)=>n.toNat|_=>0
theorem BF{z:Wq}{N r T:Nat}{k a:Vq}{ad:ByteArray}(C:wr.heap[N]?=cC #[k,St ad,a,Ii r] T)(A:bX N z wr)(hs:wr.heap.size=N+1)(t:ByteArray):((wr.setCell (Ad N 1) (St t)).setCell (Ad N 3) (Ii ((r:Int)+1))).drew.heap[N]?=cC #[k,St t,a,Ii (r+1:Nat)] T/\
  bX N z ((wr.setCell (Ad N 1) (St t)).setCell (Ad N 3) (Ii ((r:Int)+1))).drew/\
  ((wr.setCell (Ad N 1) (St t)).setCell (Ad N 3) (Ii ((r:Int)+1))).drew.heap.size=N+1/\
  mJ ((wr.setCell (Ad N 1) (St t)).setCell (Ad N 3) (Ii ((r:Int)+1))).drew ⟨N,3,aW⟩=r+1:=by
 have d:((wr.setCell (Ad N 1) (St t)).setCell (Ad N 3) (Ii ((r:Int)+1))).heap[N]?=cC #[k,St t,a,Ii (r+1:Nat)] T:=by simp[aU,Array.getElem?_modify,C]
 refine⟨d,((A.setCell zl _).setCell zl _).drew,?_,?_⟩
 .simp_all
 .show mJ ((wr.setCell (Ad N 1) (St t)).setCell (Ad N 3) (Ii ((r:Int)+1))) ⟨N,3,aW⟩=r+1;simp[mJ,aC,d]
theorem ym(L:List Rn)(i r:Nat)(z:1<=r)(d:i+r<aB L):∃h:r-1<aB (L.drop (i+1)),(L.drop (i+1))[r-1]=L[i+r]:=by grind
structure ow(L:List Rn)(B:Nat)(W0 wr:Wq)(v:Vq)(i:Nat)(ac:List RT):Prop where
 le:i<=aB L
 spec:ac++dL (aB L) (L.drop i) i=dL (aB L) L 0
 few:aB ac<=i
 own:aE wr B 244 4 v (aB ac) (ac.flatMap lW)
 below:bX B W0 wr
theorem ow.blank{d:Wq}{v:Vq}(h:ow L B W0 wr v i ac)(A:i<aB L)(E:L[i].kind=4)(z:bX wr.heap.size wr d)(C:B<=wr.heap.size):ow L B W0 d v (i+1) ac:=by
 refine⟨A,?_,by have:=h.few;omega,qj h.own z,h.below.trans (z.mono C)⟩;rw[<-h.spec];have e:=bD A;congr 1;obtain⟨n,G⟩:∃n,aB L=n+1:=⟨aB L-1,by omega⟩;rw[G,e]
 conv=>rhs;unfold dL
 rw[if_neg (by omega),if_neg (by omega),if_neg (by omega),if_pos E];exact oj _ _ _ _ (by simp;omega) (by simp;omega)
theorem ow.more{X w1:Wq}{v z:Vq}{d:Nat}(h:ow L B W0 wr v i ac)(t:RT)(hd:1<=d)(G:i+d<=aB L)(hs:dL (aB L) (L.drop i) i=t::dL (aB L-1) (L.drop (i+d)) (i+d))(C:bX B W0 X)(A:B<=X.heap.size)(O:aE w1 B 244 4 z (aB ac+1) (ac.flatMap lW++lW t))(E:X.grownBy w1 (aF v)):ow L B W0 w1 z (i+d) (ac++[t]):=by refine⟨G,?_,by have:=h.few;simp only[List.length_append,List.length_singleton];omega,by simpa using O,C.grown E A (λk M=>(h.own.lt k M).1)⟩;rw[<-h.spec,hs,List.append_assoc];congr 1;simp only[List.singleton_append,List.cons.injEq,true_and];exact oj _ _ _ _ (by rw[aZ];omega) (by rw[aZ];omega)
theorem sS(L:List Rn)(i:Nat)(d:i<aB L):dL (aB L) (L.drop i) i=dL (aB L-1+1) (L[i]::L.drop (i+1)) i:=by grind [bD]
theorem yl(L:List Rn)(i:Nat):((L.drop i).head?.map (·.kind))=aV 7↔∃h:i<aB L,L[i].kind=7:=by
 rw[List.head?_drop];by_cases h:i<aB L
 .grind
 .grind
theorem Il(L:List Rn)(i:Nat)(d:i<aB L)(z:L[i].kind=5):dL (aB L) (L.drop i) i=⟨(dE L[i].text 0:Int),L[i].text,i,1⟩::dL (aB L-1) (L.drop (i+1)) (i+1):=by
 rw[sS L i d];conv=>lhs;unfold dL
 rw[if_neg (by omega),if_pos z];rfl
theorem IE(L:List Rn)(i:Nat)(d:i<aB L)(z:L[i].kind=6)(h:∃h:i+1<aB L,L[i+1].kind=7):dL (aB L) (L.drop i) i=⟨3,⟨#[]⟩,i,2⟩::dL (aB L-1) (L.drop (i+2)) (i+2):=by grind [sS,dL,yl,bI]
theorem Fj(L:List Rn)(i:Nat)(G:i<aB L)(d:L[i].kind≠1)(z:L[i].kind≠2)(A:L[i].kind≠4)(C:L[i].kind≠5)(E:L[i].kind=6->∀h:i+1<aB L,L[i+1].kind≠7):dL (aB L) (L.drop i) i=⟨5,L[i].text,i,1⟩::dL (aB L-1) (L.drop (i+1)) (i+1):=by grind [sS,dL,yl]
theorem Dy(L:List Rn)(i:Nat)(d:i<aB L)(z:L[i].kind=1\/L[i].kind=2):dL (aB L) (L.drop i) i=⟨L[i].kind,L[i].text++gO (tw (L.drop (i+1))),i,1+aB (tw (L.drop (i+1)))⟩::dL (aB L-1) (L.drop (i+(1+aB (tw (L.drop (i+1)))))) (i+(1+aB (tw (L.drop (i+1))))):=by grind [sS,dL,bI,Nat.add_assoc]
theorem uw(s:ByteArray)(w:Wq)(hs:s.size<=1048576)(hL:aB (R s 0)<=1048576):Cs 107 #[St s] w λe w'=>∃v,e=aO v/\aE w' w.heap.size 244 4 v (aB (Q3 s)) ((Q3 s).flatMap lW)/\bX w.heap.size w w':=by
 have⟨i0,hi,ax,az,ay⟩:=info_parts Tryz.infoRT;have cr:=sD s s.size 0 (by omega);have cx:=vB s w hs;unfold Q3;generalize R s 0=L at *;go_enter Tryz.func107,Tryz.ntmps107
 go_wp2_with (go_at_call 106;refine cx.mono ?_;rintro e W0 ⟨vl,rfl,cn,ck⟩)
 have⟨la,lc,cq⟩:=qe cn;have am:∀(j:Nat) (hj:j<aB L),∃g,la=aV ⟨g,0,aW⟩/\g<W0.heap.size/\aC W0 (Ad g (j*2))=aV (Ii L[j].kind)/\aC W0 (Ad g (j*2+1))=aV (St L[j].text):=by intro j hj;have⟨g,cap,e1,e2,e3,e4,e5⟩:=iI cn Ff (by omega);rw[e1] at cq;cases cq;exact⟨g,rfl,e3,e5 j 0 hj _ (by decide) rfl,e5 j 1 hj _ (by decide) rfl⟩
 subst cq;obtain⟨B,hB⟩:∃B,B=W0.heap.size:=⟨_,rfl⟩;have HB:=aA hB.symm;have cg:Hid (∀(j:Nat) (hj:j<aB L),∃g,la=aV ⟨g,0,aW⟩/\g<B/\aC W0 (Ad g (j*2))=aV (Ii L[j].kind)/\aC W0 (Ad g (j*2+1))=aV (St L[j].text)):=by rw[hB];exact am
 have HW:Hid (w.heap.size<=B/\bX w.heap.size w W0):=by rw[hB];exact⟨ck.size,ck⟩
 clear hB am cn ck cx
 go_loopw [4,5] (λv a wr=>∃(i:Nat) (ac:List RT) (v1:Vq),v1=v/\a=aM aP i/\ow L B W0 wr v1 i ac)
  (λ_ a _=>aB L-(intOf a).toNat)
 case atStart=>exact⟨0,[],_,rfl,rfl,zz,rfl,bE _,zo,zr⟩
 case round=>
  obtain⟨i,ac,v,rfl,rfl,hT⟩:=hrel;by_cases an:i<aB L
  .obtain⟨g,rfl,b5,cv,cz⟩:=cg.o i an;have cd:=hT.below;have cu:=cd.size;have d0:aC wr (Ad g (i*2))=aV (Ii L[i].kind):=(cd.cell b5).trans cv;have d1:aC wr (Ad g (i*2+1))=aV (St L[i].text):=(cd.cell b5).trans cz;have dd:=cr L[i] (zm an);have A:=aA hT;have c8:=hT.few;have b0:B<=wr.heap.size:=bL (bO HB.o.symm) cu;have Qhg:g≠wr.heap.size:=by{omega};clear hT cv cz cd cu;obtain⟨kd,cp⟩:∃kd,L[i].kind=kd:=⟨_,rfl⟩;obtain⟨C,ch⟩:∃C,L[i].text=C:=⟨_,rfl⟩;rw[cp] at d0;rw[ch] at d1 dd;have Z:=aA cp;have HX:=aA ch;clear cp ch;have cb:Hid (∀(O:Obj) (x y z u:Vq) (t:TypeId) (j:Nat) (q:Vq),[x,y,z,u][j]?=aV q->aC ((wr.alloc O).alloc (aN #[x,y,z,u] t)) ((⟨wr.heap.size+1,0,aW⟩:Addr).add j)=aV q):=by{intro O x y z u t j q hq;have:=qM (wr.alloc O) x y z u t j q hq;rw[World.size_alloc] at this;exact this};have av:∀(k r:Int) (t:ByteArray),∀u∈[aM aP k,St t,Ii i,Ii r],u.oneCell'=true:=λk r t=>by{simp[bJ]};have aq:aB ac+1<=maxLen:=by{unfold maxLen;omega};have ap:(aB ac+1)*40<=140737488355328:=by{omega};have ak:Hid (∀(O O':Obj),B<=((wr.alloc O).alloc O').heap.size):=λO O'=>by{simp;omega};have b7:Hid (∀(O O':Obj),bX B W0 ((wr.alloc O).alloc O')):=λO O'=>(A.o.below.alloc b0 O).alloc (by simp;omega) O'
   have b6:Hid (∀(a b c d:Vq) (O:Obj) (w1:Wq),((wr.alloc (aN #[a,b,c,d] 244)).alloc O).grownBy w1 (aF v)->aC w1 (Ad wr.heap.size 3)=aV d):=by
    intro a b c d O w1 hg;have h1:w1.heap[wr.heap.size]?=cC #[a,b,c,d] 244:=by{rw[hg.block wr.heap.size (by simp;omega) (λe=>?_),bB _ _ _ (by simp),World.alloc_heap_new];have:=(A.o.own.lt _ e.symm).2;omega};simp[aC,h1]
   by_cases k4:kd=4
   .subst k4;go_wp2;have G:=A.o.blank an Z.o ((bQ wr.heap.size wr).alloc zl (aN #[Ii 5,St C,Ii i,Ii 1] 244)) b0
    go_roundw
    case rel=>exact⟨i+1,ac,v,rfl,by go_num,G⟩
    case measure=>simp[intOf];omega
   by_cases k5:kd=5
   .subst k5;have h0:0<C.size:=by{omega};have hb:=pC C 0 h0;have dj:=ml C 0;have df:∀O,aC (wr.alloc O) (Ad g (i*2+1))=aV (St C):=λO=>(aY ((bQ wr.heap.size wr).alloc zl O) (by simp;omega)).trans d1;have ae:=Il L i an Z.o;rw[HX.o] at ae;have HS:=aA ae;clear ae;generalize dE C 0=c at *
    go_wp2_with (first
     |(at_builtin;refine bU _ rfl (.tmp 105) (.tmp 107) 209 rfl B 244 i0 (aJ #[Ii 0,St ⟨#[]⟩,Ii 0,Ii 0]) 4 40 bT hi ax az ay rfl (by decide) _ _ _ rfl ((A.o.own.alloc _).alloc _) ⟨wr.heap.size+1,0,aW⟩ 1 1 [Ii c,St C,Ii i,Ii 1] rfl rfl (cb.o _ _ _ _ _ _) (av _ _ _) aq ap (ak.o _ _) ?_;intro M w1 ab aa _;have a9:=b6.o _ _ _ _ _ _ aa))
    have G:=A.o.more ⟨c,C,i,1⟩ (bE 1) an HS.o (b7.o _ _) (ak.o _ _) ab aa;clear ab aa
    go_roundw
    case rel=>exact⟨i+1,_,M,rfl,by go_num,G⟩
    case measure=>simp[intOf];omega
   have Qgx:Hid (kd≠1->kd≠2->(kd=6->∀h:i+1<aB L,L[i+1].kind≠7)->dL (aB L) (L.drop i) i=⟨5,C,i,1⟩::dL (aB L-1) (L.drop (i+1)) (i+1)):=by{intro a1 a2 a6;have:=Fj L i an (by rw[Z.o];exact a1) (by rw[Z.o];exact a2) (by rw[Z.o];exact k4) (by rw[Z.o];exact k5) (by rw[Z.o];exact a6);rw[HX.o] at this;exact this};have dk:((kd:Int) == 4)=false:=by{simp;omega};have de:((kd:Int) == 5)=false:=by{simp;omega};by_cases k6:kd=6
   .subst k6;by_cases h7:∃h:i+1<aB L,L[i+1].kind=7
    .have⟨b3,h7⟩:=h7;have ae:Hid _:=IE L i an Z.o ⟨b3,h7⟩;have⟨g',e',Qhe,bb,ca⟩:=cg.o (i+1) b3
     cases e'
     rw[h7] at bb;have da:∀O,aC (wr.alloc O) (Ad g ((i+1)*2))=aV (Ii 7):=λO=>(aY (A.o.below.alloc b0 O) b5).trans bb;clear bb ca h7
     go_wp2_with (first
      |(at_builtin;refine bU _ rfl (.tmp 105) (.tmp 107) 209 rfl B 244 i0 (aJ #[Ii 0,St ⟨#[]⟩,Ii 0,Ii 0]) 4 40 bT hi ax az ay rfl (by decide) _ _ _ rfl ((A.o.own.alloc _).alloc _) ⟨wr.heap.size+1,0,aW⟩ 1 1 [Ii 3,St ⟨#[]⟩,Ii i,Ii 2] rfl rfl (cb.o _ _ _ _ _ _) (av _ _ _) aq ap (ak.o _ _) ?_;intro M w1 ab aa _;have a9:=b6.o _ _ _ _ _ _ aa))
     have G:=A.o.more ⟨3,⟨#[]⟩,i,2⟩ (by decide) b3 ae.o (b7.o _ _) (ak.o _ _) ab aa;clear ab aa
     go_roundw
     case rel=>exact⟨i+2,_,M,rfl,by go_num,G⟩
     case measure=>simp[intOf];omega
    .have ae:Hid _:=Qgx.o (by decide) (by decide) (λ_ h e=>h7 ⟨h,e⟩);by_cases b3:i+1<aB L
     .have⟨g',e',Qhe,bb,ca⟩:=cg.o (i+1) b3
      cases e'
      have dg:L[i+1].kind≠7:=λe=>h7 ⟨b3,e⟩;generalize L[i+1].kind=k7 at *;have m7:((k7:Int) == 7)=false:=by{simp;omega};have da:∀O,aC (wr.alloc O) (Ad g ((i+1)*2))=aV (Ii k7):=λO=>(aY (A.o.below.alloc b0 O) b5).trans bb;clear bb ca h7
      go_wp2_with (first
       |(at_builtin;refine bU _ rfl (.tmp 105) (.tmp 107) 209 rfl B 244 i0 (aJ #[Ii 0,St ⟨#[]⟩,Ii 0,Ii 0]) 4 40 bT hi ax az ay rfl (by decide) _ _ _ rfl ((A.o.own.alloc _).alloc _) ⟨wr.heap.size+1,0,aW⟩ 1 1 [Ii 5,St C,Ii i,Ii 1] rfl rfl (cb.o _ _ _ _ _ _) (av _ _ _) aq ap (ak.o _ _) ?_;intro M w1 ab aa _;have a9:=b6.o _ _ _ _ _ _ aa))
      have G:=A.o.more ⟨5,C,i,1⟩ (by decide) an ae.o (b7.o _ _) (ak.o _ _) ab aa;clear ab aa
      go_roundw
      case rel=>exact⟨i+1,_,M,rfl,by go_num,G⟩
      case measure=>simp[intOf];omega
     .go_wp2_with (first
       |(at_builtin;refine bU _ rfl (.tmp 105) (.tmp 107) 209 rfl B 244 i0 (aJ #[Ii 0,St ⟨#[]⟩,Ii 0,Ii 0]) 4 40 bT hi ax az ay rfl (by decide) _ _ _ rfl ((A.o.own.alloc _).alloc _) ⟨wr.heap.size+1,0,aW⟩ 1 1 [Ii 5,St C,Ii i,Ii 1] rfl rfl (cb.o _ _ _ _ _ _) (av _ _ _) aq ap (ak.o _ _) ?_;intro M w1 ab aa _;have a9:=b6.o _ _ _ _ _ _ aa))
      have G:=A.o.more ⟨5,C,i,1⟩ (by decide) an ae.o (b7.o _ _) (ak.o _ _) ab aa;clear ab aa
      go_roundw
      case rel=>exact⟨i+1,_,M,rfl,by go_num,G⟩
      case measure=>simp[intOf];omega
   have di:((kd:Int) == 6)=false:=by{simp;omega};by_cases kw:kd=1\/kd=2
   .have ae:Hid _:=Dy L i an (by rw[Z.o];exact kw);have dc:=tJ (L.drop (i+1));rw[aZ] at dc;have cf:=GO (L.drop (i+1));have cw:=Fp (L.drop (i+1));have b4:=aA cf;have bc:=aA cw;clear cf cw;obtain⟨wo,rfl⟩:∃wo,wo=wr:=⟨_,rfl⟩;obtain⟨N,hN⟩:∃N,N=wo.heap.size:=⟨_,rfl⟩;have ce:B<=N:=by{omega};have c4:=hN.symm;have cc:g<N:=by omega
    have cy:Hid (∀(j:Nat) (hj:j<aB L),aC wo (Ad g (j*2))=aV (Ii L[j].kind)/\aC wo (Ad g (j*2+1))=aV (St L[j].text)):=by
     intro j hj;have⟨g',e',Qhe,bb,ca⟩:=cg.o j hj
     cases e'
     exact⟨(aY A.o.below b5).trans bb,(aY A.o.below b5).trans ca⟩
    clear hN;rcases kw with rfl|rfl
    .go_wp2
     go_loopw [37] (λ_ ai=>∃(r:Nat) (ad:ByteArray),1<=r/\r<=1+aB (tw (L.drop (i+1)))/\Hid (ad=C++gO ((L.drop (i+1)).take (r-1)))/\ad.size<=4*r/\
       ai.heap[N]?=aV (aN #[aM aP 1,aI ad,aM aP i,aM aP r] 244)/\bX N wo ai/\ai.heap.size=N+1) (λ_ ai=>aB L+1-mJ ai ⟨N,3,aW⟩)
     case atStart=>
      refine⟨1,C,bE _,by omega,?_,by omega,?_,zr.alloc (by omega) _,by simp;omega⟩;{show C=C++bH;simp};{rw[<-c4];exact zn wo _}
     case round=>
      have⟨r,ad,bf,c6,aj,c5,hh,af,bq⟩:=hrel;have c0:aC wr (Ad N 0)=aV (Ii 1):=zc hh;have c1:aC wr (Ad N 1)=aV (St ad):=zc hh;have c2:aC wr (Ad N 2)=aV (Ii i):=zc hh;have c3:aC wr (Ad N 3)=aV (Ii r):=zc hh;have f1:aD wr (Ad N 1)=false:=by{simp[aD,hh]};have f3:aD wr (Ad N 3)=false:=by{simp[aD,hh]};by_cases hl:i+r<aB L
      .have⟨e0,e1⟩:=cy.o (i+r) hl;have co:aC wr (Ad g ((i+r)*2))=aV (Ii L[i+r].kind):=(aY af cc).trans e0;have ct:aC wr (Ad g ((i+r)*2+1))=aV (St L[i+r].text):=(aY af cc).trans e1;have Qen:=cr L[i+r] (zm hl);have⟨bk,a7⟩:=ym L i r bf hl;obtain⟨k2,bi⟩:∃k2,L[i+r].kind=k2:=⟨_,rfl⟩;obtain⟨t2,bn⟩:∃t2,L[i+r].text=t2:=⟨_,rfl⟩;rw[bi] at co;rw[bn] at ct Qen;have b8:=aA bi;have ci:=aA bn;clear bi bn e0 e1;by_cases b9:k2<=3
       .have cf:=b4.o (r-1) (by omega) bk (by rw[a7,b8.o];exact b9);have hw:=BF hh af bq (ad++t2)
        have Qew:Hid (ad++t2=C++gO ((L.drop (i+1)).take (r+1-1))):=by
         show _=_;have e:r+1-1=(r-1)+1:=by{omega};rw[aj.o,e,bC bk,AN,a7,ci.o,bF]
        have a8:=aA hw;have cl:Hid (mJ wr ⟨N,3,aW⟩=r):=by{show _=_;simp[mJ,c3]};clear hh af hw bk a7 aj;have c9:ad.size+t2.size<=10000000:=by{omega};go_wp2
        go_region
        go_wp2
        go_roundw
        case rel=>exact⟨r+1,ad++t2,by omega,by omega,Qew,by rw[bG];omega,a8.o.1,a8.o.2.1,a8.o.2.2.1⟩
        case measure=>rw[a8.o.2.2.2,cl.o];omega
       .have E:r=1+aB (tw (L.drop (i+1))):=by{have:=bc.o (r-1) (by omega) (λhm=>by rw[a7,b8.o];exact b9);omega};have al:aE wr B 244 4 v (aB ac) (ac.flatMap lW):=qn A.o.own (λg' _ cj=>af.block g' (by omega));have ao:bX B W0 wr:=A.o.below.trans (af.mono ce);have aw:C++gO (tw (L.drop (i+1)))=ad:=by{rw[aj.o,E,aX,<-nZ]};rw[HX.o,Z.o,aw,<-E] at ae
        have bu:Hid (∀(O:Obj) (w1:Wq),(wr.alloc O).grownBy w1 (aF v)->aC w1 (Ad N 3)=aV (Ii r)):=by
         intro O w1 hg
         have h1:w1.heap[N]?=cC #[Ii 1,St ad,Ii i,Ii r] 244:=by
          rw[hg.block N (by simp;omega) (λe=>?_),bB _ _ _ (by omega)];{exact hh};{have:=(A.o.own.lt _ e.symm).2;omega}
         simp[aC,h1]
        have bh:=aA al;have bv:=aA ao;have au:Hid (∀O,B<=(wr.alloc O).heap.size):=λO=>by{simp;omega};have bd:B<=wr.heap.size:=by{omega};have be:=aA ae;have bj:=aA E;clear hh af aw al ao aj E ae b4 bc bq
        go_wp2_with (first
         |(at_builtin;refine bU _ rfl (.tmp 105) (.tmp 107) 209 rfl B 244 i0 (aJ #[Ii 0,St ⟨#[]⟩,Ii 0,Ii 0]) 4 40 bT hi ax az ay rfl (by decide) _ _ _ rfl (bh.o.alloc _) ⟨wr.heap.size,0,aW⟩ 1 1 [Ii 1,St ad,Ii i,Ii r] rfl rfl (qM _ _ _ _ _ _) (av _ _ _) aq ap (au.o _) ?_;intro M w1 ab aa _;have a9:=bu.o _ _ aa))
        have G:=A.o.more ⟨1,ad,i,r⟩ bf (by have:=bj.o;omega) be.o (bv.o.alloc bd _) (au.o _) ab aa;clear ab aa
        go_roundw
        case rel=>exact⟨i+r,_,M,rfl,by go_num,G⟩
        case measure=>simp[intOf];omega
      .have E:r=1+aB (tw (L.drop (i+1))):=by{have:=bc.o (r-1) (by omega) (λhm=>by rw[aZ] at hm;omega);omega};have al:aE wr B 244 4 v (aB ac) (ac.flatMap lW):=qn A.o.own (λg' _ cj=>af.block g' (by omega));have ao:bX B W0 wr:=A.o.below.trans (af.mono ce);have aw:C++gO (tw (L.drop (i+1)))=ad:=by{rw[aj.o,E,aX,<-nZ]};rw[HX.o,Z.o,aw,<-E] at ae
       have bu:Hid (∀(O:Obj) (w1:Wq),(wr.alloc O).grownBy w1 (aF v)->aC w1 (Ad N 3)=aV (Ii r)):=by
        intro O w1 hg
        have h1:w1.heap[N]?=cC #[Ii 1,St ad,Ii i,Ii r] 244:=by
         rw[hg.block N (by simp;omega) (λe=>?_),bB _ _ _ (by omega)];{exact hh};{have:=(A.o.own.lt _ e.symm).2;omega}
        simp[aC,h1]
       have bh:=aA al;have bv:=aA ao;have au:Hid (∀O,B<=(wr.alloc O).heap.size):=λO=>by{simp;omega};have bd:B<=wr.heap.size:=by{omega};have be:=aA ae;have bj:=aA E;clear hh af aw al ao aj E ae b4 bc bq
       go_wp2_with (first
        |(at_builtin;refine bU _ rfl (.tmp 105) (.tmp 107) 209 rfl B 244 i0 (aJ #[Ii 0,St ⟨#[]⟩,Ii 0,Ii 0]) 4 40 bT hi ax az ay rfl (by decide) _ _ _ rfl (bh.o.alloc _) ⟨wr.heap.size,0,aW⟩ 1 1 [Ii 1,St ad,Ii i,Ii r] rfl rfl (qM _ _ _ _ _ _) (av _ _ _) aq ap (au.o _) ?_;intro M w1 ab aa _;have a9:=bu.o _ _ aa))
       have G:=A.o.more ⟨1,ad,i,r⟩ bf (by have:=bj.o;omega) be.o (bv.o.alloc bd _) (au.o _) ab aa;clear ab aa
       go_roundw
       case rel=>exact⟨i+r,_,M,rfl,by go_num,G⟩
       case measure=>simp[intOf];omega
    .go_wp2
     go_loopw [37] (λ_ ai=>∃(r:Nat) (ad:ByteArray),1<=r/\r<=1+aB (tw (L.drop (i+1)))/\Hid (ad=C++gO ((L.drop (i+1)).take (r-1)))/\ad.size<=4*r/\
       ai.heap[N]?=aV (aN #[aM aP 2,aI ad,aM aP i,aM aP r] 244)/\bX N wo ai/\ai.heap.size=N+1) (λ_ ai=>aB L+1-mJ ai ⟨N,3,aW⟩)
     case atStart=>
      refine⟨1,C,bE _,by omega,?_,by omega,?_,zr.alloc (by omega) _,by simp;omega⟩;{show C=C++bH;simp};{rw[<-c4];exact zn wo _}
     case round=>
      have⟨r,ad,bf,c6,aj,c5,hh,af,bq⟩:=hrel;have c0:aC wr (Ad N 0)=aV (Ii 2):=zc hh;have c1:aC wr (Ad N 1)=aV (St ad):=zc hh;have c2:aC wr (Ad N 2)=aV (Ii i):=zc hh;have c3:aC wr (Ad N 3)=aV (Ii r):=zc hh;have f1:aD wr (Ad N 1)=false:=by{simp[aD,hh]};have f3:aD wr (Ad N 3)=false:=by{simp[aD,hh]};by_cases hl:i+r<aB L
      .have⟨e0,e1⟩:=cy.o (i+r) hl;have co:aC wr (Ad g ((i+r)*2))=aV (Ii L[i+r].kind):=(aY af cc).trans e0;have ct:aC wr (Ad g ((i+r)*2+1))=aV (St L[i+r].text):=(aY af cc).trans e1;have Qen:=cr L[i+r] (zm hl);have⟨bk,a7⟩:=ym L i r bf hl;obtain⟨k2,bi⟩:∃k2,L[i+r].kind=k2:=⟨_,rfl⟩;obtain⟨t2,bn⟩:∃t2,L[i+r].text=t2:=⟨_,rfl⟩;rw[bi] at co;rw[bn] at ct Qen;have b8:=aA bi;have ci:=aA bn;clear bi bn e0 e1;by_cases b9:k2<=3
       .have cf:=b4.o (r-1) (by omega) bk (by rw[a7,b8.o];exact b9);have hw:=BF hh af bq (ad++t2)
        have Qew:Hid (ad++t2=C++gO ((L.drop (i+1)).take (r+1-1))):=by
         show _=_;have e:r+1-1=(r-1)+1:=by{omega};rw[aj.o,e,bC bk,AN,a7,ci.o,bF]
        have a8:=aA hw;have cl:Hid (mJ wr ⟨N,3,aW⟩=r):=by{show _=_;simp[mJ,c3]};clear hh af hw bk a7 aj;have c9:ad.size+t2.size<=10000000:=by{omega};go_wp2
        go_region
        go_wp2
        go_roundw
        case rel=>exact⟨r+1,ad++t2,by omega,by omega,Qew,by rw[bG];omega,a8.o.1,a8.o.2.1,a8.o.2.2.1⟩
        case measure=>rw[a8.o.2.2.2,cl.o];omega
       .have E:r=1+aB (tw (L.drop (i+1))):=by{have:=bc.o (r-1) (by omega) (λhm=>by rw[a7,b8.o];exact b9);omega};have al:aE wr B 244 4 v (aB ac) (ac.flatMap lW):=qn A.o.own (λg' _ cj=>af.block g' (by omega));have ao:bX B W0 wr:=A.o.below.trans (af.mono ce);have aw:C++gO (tw (L.drop (i+1)))=ad:=by{rw[aj.o,E,aX,<-nZ]};rw[HX.o,Z.o,aw,<-E] at ae
        have bu:Hid (∀(O:Obj) (w1:Wq),(wr.alloc O).grownBy w1 (aF v)->aC w1 (Ad N 3)=aV (Ii r)):=by
         intro O w1 hg
         have h1:w1.heap[N]?=cC #[Ii 2,St ad,Ii i,Ii r] 244:=by
          rw[hg.block N (by simp;omega) (λe=>?_),bB _ _ _ (by omega)];{exact hh};{have:=(A.o.own.lt _ e.symm).2;omega}
         simp[aC,h1]
        have bh:=aA al;have bv:=aA ao;have au:Hid (∀O,B<=(wr.alloc O).heap.size):=λO=>by{simp;omega};have bd:B<=wr.heap.size:=by{omega};have be:=aA ae;have bj:=aA E;clear hh af aw al ao aj E ae b4 bc bq
        go_wp2_with (first
         |(at_builtin;refine bU _ rfl (.tmp 105) (.tmp 107) 209 rfl B 244 i0 (aJ #[Ii 0,St ⟨#[]⟩,Ii 0,Ii 0]) 4 40 bT hi ax az ay rfl (by decide) _ _ _ rfl (bh.o.alloc _) ⟨wr.heap.size,0,aW⟩ 1 1 [Ii 2,St ad,Ii i,Ii r] rfl rfl (qM _ _ _ _ _ _) (av _ _ _) aq ap (au.o _) ?_;intro M w1 ab aa _;have a9:=bu.o _ _ aa))
        have G:=A.o.more ⟨2,ad,i,r⟩ bf (by have:=bj.o;omega) be.o (bv.o.alloc bd _) (au.o _) ab aa;clear ab aa
        go_roundw
        case rel=>exact⟨i+r,_,M,rfl,by go_num,G⟩
        case measure=>simp[intOf];omega
      .have E:r=1+aB (tw (L.drop (i+1))):=by{have:=bc.o (r-1) (by omega) (λhm=>by rw[aZ] at hm;omega);omega};have al:aE wr B 244 4 v (aB ac) (ac.flatMap lW):=qn A.o.own (λg' _ cj=>af.block g' (by omega));have ao:bX B W0 wr:=A.o.below.trans (af.mono ce);have aw:C++gO (tw (L.drop (i+1)))=ad:=by{rw[aj.o,E,aX,<-nZ]};rw[HX.o,Z.o,aw,<-E] at ae
       have bu:Hid (∀(O:Obj) (w1:Wq),(wr.alloc O).grownBy w1 (aF v)->aC w1 (Ad N 3)=aV (Ii r)):=by
        intro O w1 hg
        have h1:w1.heap[N]?=cC #[Ii 2,St ad,Ii i,Ii r] 244:=by
         rw[hg.block N (by simp;omega) (λe=>?_),bB _ _ _ (by omega)];{exact hh};{have:=(A.o.own.lt _ e.symm).2;omega}
        simp[aC,h1]
       have bh:=aA al;have bv:=aA ao;have au:Hid (∀O,B<=(wr.alloc O).heap.size):=λO=>by{simp;omega};have bd:B<=wr.heap.size:=by{omega};have be:=aA ae;have bj:=aA E;clear hh af aw al ao aj E ae b4 bc bq
       go_wp2_with (first
        |(at_builtin;refine bU _ rfl (.tmp 105) (.tmp 107) 209 rfl B 244 i0 (aJ #[Ii 0,St ⟨#[]⟩,Ii 0,Ii 0]) 4 40 bT hi ax az ay rfl (by decide) _ _ _ rfl (bh.o.alloc _) ⟨wr.heap.size,0,aW⟩ 1 1 [Ii 2,St ad,Ii i,Ii r] rfl rfl (qM _ _ _ _ _ _) (av _ _ _) aq ap (au.o _) ?_;intro M w1 ab aa _;have a9:=bu.o _ _ aa))
       have G:=A.o.more ⟨2,ad,i,r⟩ bf (by have:=bj.o;omega) be.o (bv.o.alloc bd _) (au.o _) ab aa;clear ab aa
       go_roundw
       case rel=>exact⟨i+r,_,M,rfl,by go_num,G⟩
       case measure=>simp[intOf];omega
   .have m1:((kd:Int) == 1)=false:=by{simp;omega};have m2:((kd:Int) == 2)=false:=by{simp;omega};have ae:Hid _:=Qgx.o (by omega) (by omega) (λe=>absurd e k6);clear kw k4 k5 k6
    go_wp2_with (first
     |(at_builtin;refine bU _ rfl (.tmp 105) (.tmp 107) 209 rfl B 244 i0 (aJ #[Ii 0,St ⟨#[]⟩,Ii 0,Ii 0]) 4 40 bT hi ax az ay rfl (by decide) _ _ _ rfl ((A.o.own.alloc _).alloc _) ⟨wr.heap.size+1,0,aW⟩ 1 1 [Ii 5,St C,Ii i,Ii 1] rfl rfl (cb.o _ _ _ _ _ _) (av _ _ _) aq ap (ak.o _ _) ?_;intro M w1 ab aa _;have a9:=b6.o _ _ _ _ _ _ aa))
    have G:=A.o.more ⟨5,C,i,1⟩ (by decide) an ae.o (b7.o _ _) (ak.o _ _) ab aa;clear ab aa
    go_roundw
    case rel=>exact⟨i+1,_,M,rfl,by go_num,G⟩
    case measure=>simp[intOf];omega
  .have ae:=hT.spec;rw[List.drop_eq_nil_of_le (by omega)] at ae;have Qei:dL (aB L) [] i=[]:=by{cases (aB L)<;>rfl};rw[Qei,List.append_nil] at ae;have c8:=hT.few;have dh:=hT.le;have c7:aB ac<=1048576:=by{omega};have b0:B<=wr.heap.size:=bL (bO HB.o.symm) hT.below.size;have av:∀u∈[aM aP 4,St ⟨#[]⟩,Ii (aB L),Ii 0],u.oneCell'=true:=by{simp[bJ]};have aq:aB ac+1<=maxLen:=by{unfold maxLen;omega};have ap:(aB ac+1)*40<=140737488355328:=by{omega};have ak:Hid (∀(O:Obj),B<=(wr.alloc O).heap.size):=λO=>by{simp;omega};have A:=aA hT;have HS:=aA ae;clear hT ae Qei
   go_wp2_with (first
    |(at_builtin;refine bU _ rfl (.tmp 113) (.tmp 117) 209 rfl B 244 i0 (aJ #[Ii 0,St ⟨#[]⟩,Ii 0,Ii 0]) 4 40 bT hi ax az ay rfl (by decide) _ _ _ rfl (A.o.own.alloc _) ⟨wr.heap.size,0,aW⟩ 1 1 [Ii 4,St ⟨#[]⟩,Ii (aB L),Ii 0] rfl rfl (qM _ _ _ _ _ _) av aq ap (ak.o _) ?_;intro M w1 ab aa _))
   go_ret;rw[<-HS.o];refine⟨M,rfl,Qj ?_ HW.o.1,HW.o.2.trans (Below.mono ((A.o.below.alloc b0 _).grown aa (ak.o _) (λk hk=>(A.o.own.lt k hk).1)) HW.o.1)⟩;simpa [lW] using ab
