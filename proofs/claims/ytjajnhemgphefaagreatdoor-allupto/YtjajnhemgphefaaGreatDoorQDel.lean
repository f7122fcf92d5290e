/- A part -/
import Derived.Test.YtjajnhemgphefaaGreatDoorQMoF
import Derived.Shelf.Slices.In.SortNone
import Derived.Lib.SliceRun
set_option linter.all false
set_option maxRecDepth 100000
set_option maxHeartbeats 16000000
open List renaming length->aD,take_succ_eq_append_getElem->bF,length_cons->bG,map_append->bJ,eq_nil_of_length_eq_zero->bL,append_toArray->bO,cons_append->bQ,nil_append->bX,size_toArray->bZ,push_toArray->cA,take_length->cD,length_nil->cE,length_append->cH,flatMap_append->cL,getElem?_take->cM,flatMap_cons->cO,getElem?_eq_none->cP,mergeSort_perm->cQ,mem_filterMap->cR,ext_getElem?->cS,not_mem_nil->cT,append_nil->cU,mem_append->cW,length_map->cX,map_cons->cZ,mem_cons->dA
open Go.World renaming cell?->aE,frozen?->aF,ownsRow->aH,alloc->aV,size_alloc->bB
open Go.Value renaming ownBlock->aI,slice->aJ,string->aK,agg->aL,bool->aM,tuple->aN,int->aO,oneCell'->cI
open Go.Obj renaming cells->aP
open Go.Ending renaming returned->aQ
open Go.IntKind renaming i64->aR
open Or renaming inl->aS,inr->aU
open Option renaming some->aX,none->aY
open Go renaming undef->aZ,cell_later->dJ,wpAnyIn_ready->dO,maxLen->dP,callsIn_wide->dQ,results_none->dS,callsIn_of_wp_marks->dT,run_takeDeferred->dU,grownBy_putObj'->dW,info_parts->dZ,KeepsFrom->eC,wpList_append_own->eH,cell_one_new->eI,wpAnyIn_done->eJ,Addr->eO,grownCap_le_maxLen->eW,Boxed->eX,ownFrom_keepsFrom->eY,step_append_room->eZ,TypeId->fA
open Go.RowKit.Below renaming heap_alloc->bC,refl->bD,trans->dH,drew->dI
open Nat renaming mul_le_mul_right->bE,le_refl->bT,le_trans->bU,reduceAdd->cF,reduceSub->cG,add_zero->dB,pow_succ->dC,mul_comm->dD,zero_add->dE,add_mul->dF,one_mul->dG
open Array renaming replicate_succ->bH,replicate_zero->bI,size_append->cJ
open Go.RowKit renaming Below->dK
open Go.AllReadyIn renaming cons->dL,nil->dM
open Go.CallsIn renaming inRound->dR
open Go.Proofs.Tryz renaming underlying196->dV,underlying22->eA,prog->eD,func260->eT,underlying134->eU
open Go.BigFrame renaming allReadyIn_want->dX
open Go.Oper renaming semAt_some->dY
open Go.Sort renaming putRow->eE,ahead->eK,grow->eQ
open Go.Builtin renaming zeroCells->eF,clear_->fB
namespace Go.Proofs.YtjajnhemgphefaaGreatDoor
open Go renaming World->Wq,Value->Vq
open Go.RowKit Go.Shelf Go.Maps
attribute [local go_sem] dY
variable {m az ag:Nat} {L:List Am} {W:Wq} {a:Am} {p:fD}
def B4(B:Nat)(z:Vq)(put:fD)(w:Wq)(C:Option eO)(G E:Nat)(A:z=aJ C G E):Cs 231 #[.map (aX B),z,put.v] w λe w'=>e=aQ (.func (.func 260) #[] #[Pt (w.heap.size+1),Pt (w.heap.size+2),Pt w.heap.size])/\
   w'=((w.alloc (aP #[.map (aX B)] 98)).alloc (aP #[z] 134)).alloc (aP put.c 176):=by subst A;unfold fD.v fD.c;go_enter Tryz.func231,Tryz.ntmps231;go_wp2;go_ret;exact⟨rfl,rfl⟩
def rv(M:Gd->Option Int):List Am->fD->fD->Prop
 |[],put,p=>p=put
 |a::L,put,p=>∃x y q,x.size<=dP/\y.size<=dP/\(M ⟨a.j,x,y⟩).isSome=true/\gK put a x y=aX q/\rv M L q p
structure A2(L:List Am):Prop where
 d:∀a∈L,aD a.d<=2
 f:∀a∈L,∀t∈a.d,t.d<6
 c:∀a∈L,a.j.size<=dP
structure wi(Bm Bs Bp B nn az ag:Nat)(M:Gd->Option Int)(L:List Am)(vs:Vq)(put:fD)(W:Wq):Prop where
 j:W.heap[Bm]?=cC #[.map (aX B)] 98
 g:W.heap[Bs]?=cC #[vs] 134
 d:W.heap[Bp]?=aX (aP put.c 176)
 f:gP W az ag vs L
 C:gH W B nn M
def wi.i{C G E B O:Nat}{M:Gd->Option Int}{vs:Vq}{put:fD}{W':Wq}(h:wi C G E B O az ag M L vs put W)(z:qr m W W'):wi C G E B O az ag M L vs put W':=
 ⟨z.i _ _ _ (by unfold gI;decide) h.j,z.i _ _ _ (by unfold gI;decide) h.g,z.i _ _ _ (by unfold gI;decide) h.d,h.f.o (λk c _ A=>z.i k c _ (by unfold gI;decide) A) (λk c _ A=>z.i k c _ (by unfold gI;decide) A),h.C.mk z⟩
def qr.z{w0 V V':Wq}{row:Option Nat}(h:qr m w0 V)(E:V.grownBy V' row)(O:∀r,row=aX r->w0.heap.size<=r):qr m w0 V':=by have C:∀(k:Nat) (o:Obj),k<w0.heap.size->V.heap[k]?=aX o->V'.heap[k]?=aX o:=λk o z A=>(E.b k (zg A).1 (λe=>by have:=O k e.s;lia)).t A;refine⟨λk c t ht z=>C k _ (zg z).1 (h.i k c t ht z),λk G c z=>C k _ (zg z).1 (h.j k G c z),⟨bU h.f.size E.size,λk o M z A=>C k o (zg z).1 (h.f.same k o M z A)⟩⟩
def uT(g ae n tc:Nat):Vq:=aJ (if tc=1 then aX ⟨g,ae,aY⟩ else aX ⟨g,ae+2,aY⟩) n (tc-1)
theorem gP.f{g ae z:Nat}(h:gP W az ag (aJ (aX ⟨g,ae,aY⟩) (aD (a::L)) z) (a::L)):gP W az ag (uT g ae (aD L) z) L:=by
 have⟨ps,ad,cap,e1,e2,⟨e3,e5⟩,e4⟩:=h;cases e2;have⟨g',g5,al,k1,k2,k3,k4⟩:=e4 (by simp);cases k1;cases ps with
 |nil=>simp at e1
 |cons p0 pt=>simp only[cZ,List.cons.injEq] at e1;have⟨_,e1⟩:=e1;refine⟨pt,_,z-1,e1,rfl,⟨λp C=>e3 p (zt C),by simp at e5;lia⟩,λA=>?_⟩;have E:aD L≠0:=λe=>A (bL e);refine⟨g,ae+2,al,by rw[if_neg (by simp at e5;lia)],k2,k3,?_⟩;have:=congrArg (List.drop 2) k4;rw[List.drop_take,List.drop_drop] at this;simp only[cO,iD,bQ,bX,List.drop_succ_cons,List.drop_zero] at this;rw[<-this];congr 1;simp;lia
theorem Dd:∀(L:List Am) (n:Nat) (Bm Bs G B nn az ag:Nat) (M:Gd->Option Int) (vs:Vq) (put:fD) (w:Wq),wi Bm Bs G B nn az ag M L vs put w->A2 L->aD L<=3->(∀k,(put.f k).size<=dP)->∀m:Nat,
  iW m n 260 #[Pt Bs,Pt G,Pt Bm] (λp:wz=>#[p.1.v]) (qr m)
   (λA=>(∀p,p∈A.map (·.1)↔rv M L put p)/\aD A<=nn ^ aD L) (λ_=>True) (nn ^ aD L) w
 |[],n,Bm,Bs,G,B,nn,az,ag,M,vs,put,w,bb,hbo,h3,cq,m=>by
  intro l J Jx W hW bc hJ bd hY h0;have av:=bb.i (qr.d (m:=m) hW);have⟨ta,z,ej⟩:=av.f.c;subst ej;have E:=λO=>(bD _ W).l zl O;have c1:∀O,aE (W.alloc O) (Ad Bs 0)=aX (aJ ta 0 z):=λO=>dJ (E O) (by have:=av.g;simp[aE,this]);have hp:=av.d;unfold fD.c at hp;have d0:∀O,aE (W.alloc O) (Ad G 0)=aX (St put.g):=λO=>dJ (E O) (by simp[aE,hp]);have d1:∀O,aE (W.alloc O) (Ad G 1)=aX (St put.h):=λO=>dJ (E O) (by simp[aE,hp]);have d2:∀O,aE (W.alloc O) (Ad G 2)=aX (St put.i):=λO=>dJ (E O) (by simp[aE,hp]);have d3:∀O,aE (W.alloc O) (Ad G 3)=aX (St put.j):=λO=>dJ (E O) (by simp[aE,hp]);have d4:∀O,aE (W.alloc O) (Ad G 4)=aX (St put.o):=λO=>dJ (E O) (by simp[aE,hp]);have d5:∀O,aE (W.alloc O) (Ad G 5)=aX (St put.q):=λO=>dJ (E O) (by simp[aE,hp]);have⟨fn,tmps,assign,body,hy,hR⟩:=hY [] ⟨put,cq⟩ (W.alloc (aP #[.func (.yield l) #[] #[]] 274)) (hJ _ _ _ aY h0 (qi (E _)) (λr e=>by cases e)) (by simp);unfold fD.v fD.c at hy;clear E;clear bb av hY hJ bd h0 hp;refine dT eT rfl trivial ?_ rfl;simp only[Tryz.ntmps260,bZ,bG,cE,cF,cG,bH,bI,cA,bO,bX,bQ]
  gi_wp2
  refine⟨λh=>(by cases h),hR.mono ?_⟩;rintro e W1 (⟨rfl,jb,jx⟩|⟨rfl,fb,_⟩)
  .clear hy hR
   gi_wp2
   refine⟨_,dS rfl _ _ _,⟨_,rfl⟩,aS ⟨[⟨put,cq⟩],⟨λp=>by show p∈[put]↔_;simp[rv],bT 1⟩,jb⟩⟩
  .clear hy hR
   gi_wp2
   refine⟨_,dS rfl _ _ _,⟨_,rfl⟩,aU ⟨_,trivial,fb⟩⟩
 |a::L,n0,Bm,Bs,G,B,nn,az,ag,M,vs,put,w,bb,hbo,h3,cq,m=>by
  obtain⟨n,hn⟩:∃n,12<=n:=⟨12,bT _⟩;refine iW.c (n:=n) ?_ n0;have n1:1<=n:=by{omega};have n3:1<=n-1-1:=by{omega};have n5:1<=n-1-1-1-1:=by{omega};intro l J Jx W hW bc hJ bd hY h0;have av:=bb.i (qr.d (m:=m) hW);clear bb hW;have⟨ta,z,ej⟩:=av.f.c;subst ej;have⟨g,ae,c',va,jl,x0,x1,b4,hg⟩:=xp av.f (k:=0) (by simp);cases jl;have⟨fa,fc,dn⟩:=b4.c;simp only[List.getElem_cons_zero,Nat.zero_mul,dB] at x0 x1 b4 dn;rw[dn] at x1;rw[dn] at b4;have E:=λO=>(bD _ W).l zl O;have c1:∀O,aE (W.alloc O) (Ad Bs 0)=aX (aJ (aX ⟨g,ae,aY⟩) (aD (a::L)) z):=λO=>dJ (E O) (by have:=av.g;simp[aE,this]);have c2:∀O,aE (W.alloc O) (Ad Bm 0)=aX (.map (aX B)):=λO=>dJ (E O) (by have:=av.j;simp[aE,this]);have y0:∀O,aE (W.alloc O) (Ad g ae)=aX (St a.j):=λO=>dJ (E O) x0;have y1:=λO=>dJ (E O) x1;have hp:=av.d;unfold fD.c at hp;have d0:∀O,aE (W.alloc O) (Ad G 0)=aX (St put.g):=λO=>dJ (E O) (by simp[aE,hp]);have d1:∀O,aE (W.alloc O) (Ad G 1)=aX (St put.h):=λO=>dJ (E O) (by simp[aE,hp]);have d2:∀O,aE (W.alloc O) (Ad G 2)=aX (St put.i):=λO=>dJ (E O) (by simp[aE,hp]);have d3:∀O,aE (W.alloc O) (Ad G 3)=aX (St put.j):=λO=>dJ (E O) (by simp[aE,hp]);have d4:∀O,aE (W.alloc O) (Ad G 4)=aX (St put.o):=λO=>dJ (E O) (by simp[aE,hp]);have d5:∀O,aE (W.alloc O) (Ad G 5)=aX (St put.q):=λO=>dJ (E O) (by simp[aE,hp]);have b6:=λW=>Gp B a (aJ fa (aD a.d) fc) put W fa (aD a.d) fc rfl;unfold fD.v fD.c at b6;have iy:=aA b6;have HY:=aA hY;have HJ:=aA hJ;have HJx:=aA bd;have H0:=aA h0;have fi:=aA av;have h6:=aA b4;clear av hY hJ bd h0 hp E b6 b4 dn x0 x1;have ak:(aD (a::L):Int)=(aD L:Int)+1:=by{simp};have jv:aD L<=2:=by{simpa using h3};refine dT eT rfl trivial ?_ rfl;simp only[Tryz.ntmps260,bZ,bG,cE,cF,cG,bH,bI,cA,bO,bX,bQ]
  gi_wp2
  refine wpIn_mono (Q:=λe a' w'=>e=Exit.normal/\a'={tmps:=#[.func (.yield l) #[] #[],Pt Bs,Pt G,Pt Bm,Pt W.heap.size,aZ,aZ,aJ (aX ⟨g,ae,aY⟩) (aD L+1) z,Ii (aD L+1),aM false,aZ,aZ,aZ,.map (aX B),aJ (aX ⟨g,ae,aY⟩) (aD L+1) z,.pointer (aX ⟨g,ae,aY⟩),aL #[St a.j,aJ fa (aD a.d) fc],aL #[St put.g,St put.h,St put.i,St put.j,St put.o,St put.q],.func (.func 156) #[] #[Pt (W.heap.size+1),Pt (W.heap.size+1+1),Pt (W.heap.size+1+2)],aZ,aZ,aZ,aZ,aZ,aZ,aZ,aZ,aZ,aZ,aZ],defers:=[]}/\w'=((((W.alloc (aP #[.func (.yield l) #[] #[]] 274)).alloc (aP #[.map (aX B)] 98)).alloc (aP #[St a.j,aJ fa (aD a.d) fc] 92)).alloc (aP #[St put.g,St put.h,St put.i,St put.j,St put.o,St put.q] 176)).drew) ?reg ?rest
  case reg=>
   first|(gi_region_with (refine⟨trivial,?_⟩;(try refine⟨λh=>(by cases h),?_⟩);refine (dQ.2 (iy.o _)).mono ?_;rintro e w' ⟨rfl,rfl⟩))|fail
   all_goals exact⟨rfl,rfl,rfl⟩
  case rest=>
   rintro e a' w' ⟨rfl,rfl,rfl⟩
   gi_wp2
   obtain⟨NB,aw⟩:=aC W.heap.size;obtain⟨W0,ah⟩:=aC (((((W.alloc (aP #[.func (.yield l) #[] #[]] 274)).alloc (aP #[.map (aX B)] 98)).alloc (aP #[St a.j,aJ fa (aD a.d) fc] 92)).alloc (aP #[St put.g,St put.h,St put.i,St put.j,St put.o,St put.q] 176)).drew);have a6:dK W.heap.size W W0:=ah▸(((((bD _ W).alloc zl _).alloc (by simp) _).alloc (by simp;omega) _).alloc (by simp;omega) _).drew;have dy:W0.heap.size=NB+4:=by{rw[<-ah,<-aw];show (aV _ _).heap.size=_;simp};have bY:W0.heap[NB]?=cC #[.func (.yield l) #[] #[]] 274:=by{rw[<-ah,<-aw];exact (bC _ _ _ (by simp;omega)).t ((bC _ _ _ (by simp;omega)).t ((bC _ _ _ (by simp)).t (zn W _)))};have bM:W0.heap[NB+1]?=cC #[.map (aX B)] 98:=by{rw[<-ah,<-aw];refine (bC _ _ _ (by simp)).t ((bC _ _ _ (by simp)).t ?_);have:=zn (W.alloc (aP #[.func (.yield l) #[] #[]] 274)) (aP #[.map (aX B)] 98);rwa[bB] at this};have bA:W0.heap[NB+1+1]?=cC #[St a.j,aJ fa (aD a.d) fc] 92:=by{rw[<-ah,<-aw];refine (bC _ _ _ (by simp)).t ?_;have:=zn ((W.alloc (aP #[.func (.yield l) #[] #[]] 274)).alloc (aP #[.map (aX B)] 98)) (aP #[St a.j,aJ fa (aD a.d) fc] 92);rwa[bB,bB] at this};have bP:W0.heap[NB+1+2]?=aX (aP put.c 176):=by{rw[<-ah,<-aw];have:=zn (((W.alloc (aP #[.func (.yield l) #[] #[]] 274)).alloc (aP #[.map (aX B)] 98)).alloc (aP #[St a.j,aJ fa (aD a.d) fc] 92)) (aP #[St put.g,St put.h,St put.i,St put.j,St put.o,St put.q] 176);rwa[bB,bB,bB] at this};have cd:=(fi.o).i (qr.d (m:=m) a6);have cz:=HJ.o _ _ _ aY H0.o (qi a6) (λr e=>by cases e);have Qnn:=Qg.mk h6.o (qr.d (m:=m) a6);have et:m<=W0.heap.size:=by{have:=a6.s;omega};simp only[aw];rw[ah];clear ah
   refine ui (n:=n) (gf:=156) (lb:=#[Pt (NB+1),Pt (NB+1+1),Pt (NB+1+2)]) rfl (enters_of Tryz.func156 (by kernel_rfl) rfl)
    (OX (n-1) (NB+1) (NB+1+1) (NB+1+2) B nn ag M a (aJ fa (aD a.d) fc) put W0 bM bA bP cd.C Qnn (hbo.d a (by simp)) (hbo.f a (by simp)) (hbo.c a (by simp)) cq (W0.heap.size+2)) qr.g (λV rc o' ho=>qr.H V _ _ o' (by omega) ho rfl (λ_ _ h=>by cases h)) (λ_=>rfl)
    (λpre V=>∃A:List wz,J A V/\(∀p,p∈A.map (·.1)↔∃q∈pre.map (·.1),rv M L q p)/\aD A<=aD pre*nn ^ aD L/\qr m W0 V)
    (λc pre V=>c=.ret/\∃A,Jx A V)
    ?hI ?hIx ⟨[],cz,by simp,by simp,qr.d zr⟩
    (λx a' V=>∃Bx,V.heap[Bx]?=aX (aP x.1.c 176)/\a'={tmps:=#[.func (.yield l) #[] #[],Pt Bs,Pt G,Pt Bm,Pt NB,Pt Bx,aZ,aJ (aX ⟨g,ae,aY⟩) (aD L+1) z,Ii (aD L+1),aM false,aZ,aZ,aZ,.map (aX B),aJ (aX ⟨g,ae,aY⟩) (aD L+1) z,.pointer (aX ⟨g,ae,aY⟩),aL #[St a.j,aJ fa (aD a.d) fc],aL #[St put.g,St put.h,St put.i,St put.j,St put.o,St put.q],.func (.func 156) #[] #[Pt (NB+1),Pt (NB+1+1),Pt (NB+1+2)],aL #[St x.1.g,St x.1.h,St x.1.i,St x.1.j,St x.1.o,St x.1.q],aZ,aZ,aZ,aZ,aZ,aZ,aZ,aZ,aZ,aZ],defers:=[]})
    ?hAx ?assign ?body ?done ?stop
   case hI=>rintro pre V V' row ⟨A,h1,h2,h3,h4⟩ hg hr;exact⟨A,HJ.o _ _ _ row h1 hg (λr e=>⟨by have:=(hr r e).1;omega,(hr r e).2⟩),h2,h3,h4.z hg (λr e=>(hr r e).1)⟩
   case hIx=>rintro c pre V V' row ⟨rfl,A,h1⟩ hg hr;exact⟨rfl,A,HJx.o _ _ _ row h1 hg (λr e=>⟨by have:=(hr r e).1;omega,(hr r e).2⟩)⟩
   case hAx=>rintro x a' _ V V' row ⟨Bx,h2,h3⟩ hg hr;exact⟨Bx,qn hg (λr e=>(hr r e).2) _ _ _ _ h2,h3⟩
   case assign=>
    rintro l' pre x V K hl ei ⟨A,h1,h2,h3,h4⟩ hK;have HK:=aA hK;clear hK;unfold fD.v fD.c
    gi_wp2
    have an:dK V.heap.size V (V.alloc (aP #[St x.1.g,St x.1.h,St x.1.i,St x.1.j,St x.1.o,St x.1.q] 176)):=(bD _ V).l zl _;exact HK.o _ _ (KeepsFrom.d an) (qr.d an) ⟨A,HJ.o _ _ _ aY h1 (qi an) (λr e=>by cases e),h2,h3,h4.g (qr.d an)⟩ ⟨V.heap.size,zn V _,rfl⟩
   case done=>
    rintro D xs V hD ⟨ks,k1,k2,k3,k4⟩ ⟨A,h1,h2,h3,h4⟩ hK
    have Qd:Hid ((∀p,p∈A.map (·.1)↔rv M (a::L) put p)/\aD A<=nn ^ aD (a::L)):=by
     refine⟨λp=>?_,?_⟩
     .rw[h2,k4];constructor;{rintro⟨q,hq,hj⟩;have⟨⟨x,y⟩,im,hm⟩:=cR.1 hq;have⟨z1,z2,z3⟩:=(k2 x y).1 im;exact⟨x,y,q,z1,z2,z3,hm,hj⟩};{rintro⟨x,y,q,z1,z2,z3,hm,hj⟩;exact⟨q,cR.2 ⟨(x,y),(k2 x y).2 ⟨z1,z2,z3⟩,hm⟩,hj⟩}
     .have e1:aD xs<=nn:=by
       have:=EK (put:=put) (a:=a) (ks:=ks);have e2:aD xs=aD (ks.filterMap (λk=>gK put a k.1 k.2)):=by{rw[<-k4];simp};omega
      refine bU h3 (bU (bE _ e1) (Nat.le_of_eq ?_));rw[bG,dC,dD]
    gi_wp2
    refine⟨by simp,aS ⟨_,_,rfl,dU hK,?_⟩⟩;refine⟨_,dS rfl _ _ _,⟨_,rfl⟩,aS ⟨A,⟨λp=>by simpa using Qd.o.1 p,Qd.o.2⟩,?_⟩⟩;exact HJ.o _ _ _ (aX D) h1 (dW V D (.deferred aY)) (λr e=>by cases e;exact⟨by omega,_,hK,rfl⟩)
   case stop=>
    rintro D c pre V hD _ ⟨rfl,A,h1⟩ hK
    gi_wp2
    refine⟨by simp,aS ⟨_,_,rfl,dU hK,?_⟩⟩;refine⟨_,dS rfl _ _ _,⟨_,rfl⟩,aU ⟨A,trivial,?_⟩⟩;exact HJx.o _ _ _ (aX D) h1 (dW V D (.deferred aY)) (λr e=>by cases e;exact⟨by omega,_,hK,rfl⟩)
   case body=>
    rintro l' pre x a' V gm ⟨rc,f8⟩ ⟨A,h1,h2,h3,h4⟩ ⟨Bx,ca,rfl⟩ ai;have cr:=cd.i h4;have b5:aD L+1<=z:=by{have⟨_,c,e,hc⟩:=cr.f.b;cases e;simpa using hc};have z1:aE V (Ad Bm 0)=aX (.map (aX B)):=by{have:=cr.j;simp[aE,this]};have z2:aE V (Ad Bs 0)=aX (aJ (aX ⟨g,ae,aY⟩) (aD L+1) z):=by{have:=cr.g;simp[aE,this]};have au:=ca;unfold fD.c at au;have q0:∀j,aE V (Ad Bx j)=([St x.1.g,St x.1.h,St x.1.i,St x.1.j,St x.1.o,St x.1.q]:List Vq)[j]?:=λj=>by{simp[aE,au]};have e6:=λW=>B4 B (uT g ae (aD L) z) x.1 W _ _ _ rfl;have gp:=gP.f cr.f;unfold fD.v fD.c uT at e6;have jr:=aA e6;have i1:(1:Int)<=(aD L:Int)+1:=by{omega};have i3:(aD L:Int)+1<=(z:Int):=by{omega};have iz:=aA cr;have ja:=aA gp;clear e6 au cr gp
    obtain⟨tb,b9⟩:∃tb,uT g ae (aD L) z=aJ (aX tb) (aD L) (z-1):=by
     unfold uT;by_cases b3:z=1;{exact⟨⟨g,ae,aY⟩,by rw[if_pos b3]⟩};{exact⟨⟨g,ae+2,aY⟩,by rw[if_neg b3]⟩}
    have ic:=aA b9
    have Qla:Hid (∀W,Cs 231 #[.map (aX B),aJ (aX tb) (aD L) (z-1),aL #[St x.1.g,St x.1.h,St x.1.i,St x.1.j,St x.1.o,St x.1.q]] W λe w'=>e=aQ (.func (.func 260) #[] #[Pt (W.heap.size+1),Pt (W.heap.size+2),Pt W.heap.size])/\
      w'=((W.alloc (aP #[.map (aX B)] 98)).alloc (aP #[aJ (aX tb) (aD L) (z-1)] 134)).alloc (aP #[St x.1.g,St x.1.h,St x.1.i,St x.1.j,St x.1.o,St x.1.q] 176)):=λW=>B4 B _ x.1 W _ _ _ rfl
    have ji:Hid ((z=1/\tb=⟨g,ae,aY⟩)\/(z≠1/\tb=⟨g,ae+2,aY⟩)):=by
     show _\/_;unfold uT at b9;by_cases b3:z=1;{rw[if_pos b3] at b9;injection b9 with h;cases h;exact aS ⟨b3,rfl⟩};{rw[if_neg b3] at b9;injection b9 with h;cases h;exact aU ⟨b3,rfl⟩}
    have gq:=f8;clear b9
    gi_wp2
    refine wpIn_mono (Q:=λe a' w'=>e=Exit.normal/\a'={tmps:=#[.func (.yield l) #[] #[],Pt Bs,Pt G,Pt Bm,Pt NB,Pt Bx,aZ,aJ (aX ⟨g,ae,aY⟩) (aD L+1) z,Ii (aD L+1),aM false,aZ,aZ,aZ,.map (aX B),aJ (aX ⟨g,ae,aY⟩) (aD L+1) z,.pointer (aX ⟨g,ae,aY⟩),aL #[St a.j,aJ fa (aD a.d) fc],aL #[St put.g,St put.h,St put.i,St put.j,St put.o,St put.q],.func (.func 156) #[] #[Pt (NB+1),Pt (NB+1+1),Pt (NB+1+2)],aL #[St x.1.g,St x.1.h,St x.1.i,St x.1.j,St x.1.o,St x.1.q],.map (aX B),aJ (aX ⟨g,ae,aY⟩) (aD L+1) z,aJ (aX tb) (aD L) (z-1),aL #[St x.1.g,St x.1.h,St x.1.i,St x.1.j,St x.1.o,St x.1.q],.func (.func 260) #[] #[Pt (V.heap.size+1),Pt (V.heap.size+2),Pt V.heap.size],aZ,aZ,aZ,aZ,aZ],defers:=[]}/\w'=(((V.alloc (aP #[.map (aX B)] 98)).alloc (aP #[aJ (aX tb) (aD L) (z-1)] 134)).alloc (aP #[St x.1.g,St x.1.h,St x.1.i,St x.1.j,St x.1.o,St x.1.q] 176)).drew) ?reg ?rest
    case reg=>
     obtain⟨rfl,rfl⟩|⟨b3,rfl⟩:=ji.o
     .obtain rfl:L=[]:=bL (by omega)
      first|(gi_region_with (refine⟨trivial,?_⟩;(try refine⟨λh=>(by cases h),?_⟩);refine (dR l' (dQ.2 (Qla.o _))).mono ?_;rintro e w' ⟨rfl,rfl⟩))|fail
      all_goals exact⟨rfl,rfl,rfl⟩
     .first|(gi_region_with (refine⟨trivial,?_⟩;(try refine⟨λh=>(by cases h),?_⟩);refine (dR l' (dQ.2 (Qla.o _))).mono ?_;rintro e w' ⟨rfl,rfl⟩))|fail
      all_goals exact⟨rfl,rfl,rfl⟩
    case rest=>
     rintro e a' w' ⟨rfl,rfl,rfl⟩
     gi_wp2
     obtain⟨VN,db⟩:=aC V.heap.size;obtain⟨W5,cf⟩:=aC ((((V.alloc (aP #[.map (aX B)] 98)).alloc (aP #[aJ (aX tb) (aD L) (z-1)] 134)).alloc (aP #[St x.1.g,St x.1.h,St x.1.i,St x.1.j,St x.1.o,St x.1.q] 176)).drew);have ea:dK V.heap.size V W5:=cf▸((((bD _ V).alloc zl _).alloc (by simp) _).alloc (by simp;omega) _).drew;have jt:W5.heap.size=VN+3:=by{rw[<-cf,<-db];show (aV _ _).heap.size=_;simp};have eM:W5.heap[VN]?=cC #[.map (aX B)] 98:=by{rw[<-cf,<-db];exact (bC _ _ _ (by simp;omega)).t ((bC _ _ _ (by simp)).t (zn V _))};have eS:W5.heap[VN+1]?=cC #[aJ (aX tb) (aD L) (z-1)] 134:=by{rw[<-cf,<-db];refine (bC _ _ _ (by simp)).t ?_;have:=zn (V.alloc (aP #[.map (aX B)] 98)) (aP #[aJ (aX tb) (aD L) (z-1)] 134);rwa[bB] at this};have eP:W5.heap[VN+2]?=aX (aP x.1.c 176):=by{rw[<-cf,<-db];have:=zn ((V.alloc (aP #[.map (aX B)] 98)).alloc (aP #[aJ (aX tb) (aD L) (z-1)] 134)) (aP #[St x.1.g,St x.1.h,St x.1.i,St x.1.j,St x.1.o,St x.1.q] 176);rwa[bB,bB] at this};have df:∀m',qr m' V W5:=λm'=>qr.d ea;have io:gP W5 az ag (aJ (aX tb) (aD L) (z-1)) L:=ic.o▸gP.o ja.o (λk c _ hc=>(df 0).i k c _ (by unfold gI;decide) hc) (λk c _ hc=>(df 0).i k c _ (by unfold gI;decide) hc);have it:wi VN (VN+1) (VN+2) B nn az ag M L (aJ (aX tb) (aD L) (z-1)) x.1 W5:=⟨eM,eS,eP,io,(iz.o).C.mk (df 0)⟩;have jz:=h4.f.size;have jh:=(ea.b l' (zg gq).1).t gq;have jg:J (A++[]) W5:=by{rw[cU];exact HJ.o _ _ _ aY h1 (qi ea) (λr e=>by cases e)};have ih:=Dd L (n-1-1-1) VN (VN+1) (VN+2) B nn az ag M (aJ (aX tb) (aD L) (z-1)) x.1 W5 it ⟨λb hb=>hbo.d b (by simp[hb]),λb hb=>hbo.f b (by simp[hb]),λb hb=>hbo.c b (by simp[hb])⟩ (by omega) x.2 (W5.heap.size+1);simp only[db];rw[cf];clear cf
     refine Jf (n:=n-1-1) (gf:=260) (lb:=#[Pt (VN+1),Pt (VN+2),Pt VN]) jh rfl (enters_of eT (by kernel_rfl) rfl)
      ih qr.g (λV' j8 o' ho=>qr.H V' _ _ o' (by omega) ho rfl (λ_ _ h=>by cases h)) (λ_=>rfl)
      (λax V2=>J (A++ax) V2/\qr m W0 V2/\eC W0.heap.size V V2/\qr (W0.heap.size+2) V V2)
      (λc ax V2=>c=.ret/\(∃zs,Jx zs V2)/\eC W0.heap.size V V2)
      ?hI2 ?hIx2 ⟨jg,h4.g (df m),KeepsFrom.d ea,df _⟩
      (λC a' V2=>∃By,V2.heap[By]?=aX (aP C.1.c 176)/\a'={tmps:=#[.func (.yield l) #[] #[],Pt Bs,Pt G,Pt Bm,Pt NB,Pt Bx,Pt By,aJ (aX ⟨g,ae,aY⟩) (aD L+1) z,Ii (aD L+1),aM false,aZ,aZ,aZ,.map (aX B),aJ (aX ⟨g,ae,aY⟩) (aD L+1) z,.pointer (aX ⟨g,ae,aY⟩),aL #[St a.j,aJ fa (aD a.d) fc],aL #[St put.g,St put.h,St put.i,St put.j,St put.o,St put.q],.func (.func 156) #[] #[Pt (NB+1),Pt (NB+1+1),Pt (NB+1+2)],aL #[St x.1.g,St x.1.h,St x.1.i,St x.1.j,St x.1.o,St x.1.q],.map (aX B),aJ (aX ⟨g,ae,aY⟩) (aD L+1) z,aJ (aX tb) (aD L) (z-1),aL #[St x.1.g,St x.1.h,St x.1.i,St x.1.j,St x.1.o,St x.1.q],.func (.func 260) #[] #[Pt (VN+1),Pt (VN+2),Pt VN],aL #[St C.1.g,St C.1.h,St C.1.i,St C.1.j,St C.1.o,St C.1.q],aZ,aZ,aZ,aZ],defers:=[]})
      ?hAx2 ?assign2 ?body2 ?done2 ?stop2
     case hI2=>rintro ax X X' row ⟨j1,j2,j3,j4⟩ hg hr;exact⟨HJ.o _ _ _ row j1 hg (λr e=>⟨by have:=(hr r e).1;omega,(hr r e).2⟩),j2.z hg (λr e=>by have:=(hr r e).1;omega),eY (β:=Unit) (B':=W5.heap.size) (by omega) () X X' row j3 hg hr,j4.z hg (λr e=>by have:=(hr r e).1;omega)⟩
     case hIx2=>rintro c ax X X' row ⟨rfl,⟨zs,j1⟩,j3⟩ hg hr;exact⟨rfl,⟨zs,HJx.o _ _ _ row j1 hg (λr e=>⟨by have:=(hr r e).1;omega,(hr r e).2⟩)⟩,eY (β:=Unit) (B':=W5.heap.size) (by omega) () X X' row j3 hg hr⟩
     case hAx2=>rintro C a' _ X X' row ⟨By,k2,k3⟩ hg hr;exact⟨By,qn hg (λr e=>(hr r e).2) _ _ _ _ k2,k3⟩
     case assign2=>
      rintro l2 ax C X K de g9 ⟨j1,j2,j3,j4⟩ hK;have HK:=aA hK;clear hK;unfold fD.v fD.c
      gi_wp2
      have an:dK X.heap.size X (X.alloc (aP #[St C.1.g,St C.1.h,St C.1.i,St C.1.j,St C.1.o,St C.1.q] 176)):=(bD _ X).l zl _;exact HK.o _ _ (KeepsFrom.d an) (qr.d an) ⟨HJ.o _ _ _ aY j1 (qi an) (λr e=>by cases e),j2.g (qr.d an),KeepsFrom.g j3 (KeepsFrom.d an),j4.g (qr.d an)⟩ ⟨X.heap.size,zn X _,rfl⟩
     case done2=>
      rintro xs X ⟨s1,s2⟩ ⟨j1,j2,j3,j4⟩
      have d8:Hid ((∀p,p∈(A++xs).map (·.1)↔∃q∈(pre++[x]).map (·.1),rv M L q p)/\aD (A++xs)<=aD (pre++[x])*nn ^ aD L):=by
       refine⟨λp=>?_,?_⟩
       .rw[bJ,cW,h2,s1,bJ];constructor
        .rintro (⟨q,hq,hj⟩|hj);{exact⟨q,List.mem_append_left _ hq,hj⟩};{exact⟨x.1,List.mem_append_right _ (by show x.1∈[x.1];simp),hj⟩}
        .rintro⟨q,hq,hj⟩;obtain hq|hq:=cW.1 hq
         .exact aS ⟨q,hq,hj⟩
         .have:q=x.1:=by{have i6:q∈[x.1]:=hq;simpa using i6};subst this;exact aU hj
       .rw[cH,cH];show aD A+aD xs<=(aD pre+1)*nn ^ aD L;rw[dF,dG];omega
      clear dy h2 h3
      gi_wp2
      exact⟨j3,j4,A++xs,j1,λp=>by simpa only[List.mem_map] using d8.o.1 p,d8.o.2,j2⟩
     case stop2=>
      rintro c ax X _ ⟨rfl,hx,j3⟩
      gi_wp2
      exact⟨j3,rfl,hx⟩
     case body2=>
      rintro l2 ax C a' X de ⟨ib,ef⟩ ⟨j1,j2,j3,j4⟩ ⟨By,eu,rfl⟩ i7;have iv:aD (A++ax)<nn ^ aD (a::L):=by{rw[cH,bG,dC,dD];have e1:aD pre+1<=nn:=ai;have e2:=bE (nn ^ aD L) e1;rw[dF,dG] at e2;omega};have⟨fn,tmps,assign,body,hy,hR⟩:=HY.o (A++ax) C X j1 iv;unfold fD.v fD.c at hy;have Qau:=j2.i _ _ _ (by unfold gI;decide) bY;have cy:aE X (Ad NB 0)=aX (.func (.yield l) #[] #[]):=zc Qau;have ek:=eu;unfold fD.c at ek;have r0:∀j,aE X (Ad By j)=([St C.1.g,St C.1.h,St C.1.i,St C.1.j,St C.1.o,St C.1.q]:List Vq)[j]?:=λj=>by{simp[aE,ek]};have jw:=et;clear ek Qau h2 h3
      gi_wp2
      refine (vF hR).mono ?_;rintro e X' (⟨rfl,ez,a9⟩|⟨rfl,ce,a9⟩)
      .clear hy hR
       gi_wp2
       exact⟨KeepsFrom.h a9.f (by omega),a9.h (by omega),by rw[<-List.append_assoc];exact ez,j2.g a9,KeepsFrom.g j3 (KeepsFrom.h a9.f (by omega)),j4.g (a9.h (by omega))⟩
      .clear hy hR
       gi_wp2
       exact⟨KeepsFrom.h a9 (by omega),rfl,⟨_,ce⟩,KeepsFrom.g j3 (KeepsFrom.h a9 (by omega))⟩
attribute [local go_sem] dY
def BK(B:Nat)(a:Am)(z:Vq)(w:Wq)(C:Option eO)(G E:Nat)(A:z=aJ C G E):Cs 51 #[.map (aX B),aL #[St a.j,z]] w λe w'=>e=aQ (.func (.func 93) #[] #[Pt w.heap.size,Pt (w.heap.size+1)])/\
   w'=(w.alloc (aP #[.map (aX B)] 98)).alloc (aP #[St a.j,z] 92):=by subst A;go_enter Tryz.func51,Tryz.ntmps51;go_wp2;go_ret;exact⟨rfl,rfl⟩
def zB:={g:Gd // lZ g}
def uB(g:Gd)(h:lZ g):zB:=⟨g,h⟩
def CW(E:∀k,(p.f k).size<=dP)(A:a.j.size<=dP)(G:∀t∈a.d,t.c.size<=dP):lZ (qb p a):=by
 have C:∀t∈a.d,(fH p t).size<=maxLen:=by grind [fH]
 have z:(⟨#[]⟩:ByteArray).size<=maxLen:=by show 0<=dP;exact zz
 refine⟨A,?_,?_⟩
 .show (iM p a.d).size<=dP;unfold iM;split;{exact z};{grind}
 show (iJ p a.d).size<=dP;unfold iJ;split;{grind};{exact z}
structure vW(g:Gd):Prop where
 j:g.j.size<=2000
 x:g.x.size<=2000
 y:g.y.size<=2000
def vW.o{g:Gd}(h:vW g):lZ g:=⟨bU h.j (by unfold dP;decide),bU h.x (by unfold dP;decide),bU h.y (by unfold dP;decide)⟩
def rS:={g:Gd // vW g}
def Oj(g:Gd)(h:vW g):rS:=⟨g,h⟩
def O4(E:∀k,(p.f k).size<=2000)(A:a.j.size<=2000)(G:∀t∈a.d,t.c.size<=2000):vW (qb p a):=by
 have C:∀t∈a.d,(fH p t).size<=2000:=by grind [fH]
 have z:(⟨#[]⟩:ByteArray).size<=2000:=by show 0<=2000;exact zz
 refine⟨A,?_,?_⟩
 .show (iM p a.d).size<=2000;unfold iM;split;{exact z};{grind}
 show (iJ p a.d).size<=2000;unfold iJ;split;{grind};{exact z}
def zY(n0:Nat)(Bm Ba B nn ag:Nat)(M:Gd->Option Int)(a:Am)(va:Vq)(w:Wq)(hm:w.heap[Bm]?=cC #[.map (aX B)] 98)(ha:w.heap[Ba]?=cC #[St a.j,va] 92)(hM:gH w B nn M)(hS:Qg w ag va a.d)(aj:aD a.d<=2)(dr:∀t∈a.d,t.d<6)(hrel:a.j.size<=2000)(el:∀t∈a.d,t.c.size<=2000)(fh:∀x y,(M ⟨a.j,x,y⟩).isSome=true->x.size<=2000/\y.size<=2000)(m:Nat):iW m n0 93 #[Pt Bm,Pt Ba] (λg:rS=>#[g.1.v]) (qr m)
   (λgs=>∃ks:List (ByteArray×ByteArray),ks.Nodup/\(∀x y,(x,y)∈ks↔(x.size<=dP/\y.size<=dP/\(M ⟨a.j,x,y⟩).isSome=true))/\aD ks<=nn/\gs.map (·.1)=(ks.filterMap (λk=>gK Ql a k.1 k.2)).map (λp=>qb p a)) (λ_=>True) nn w:=by
 obtain⟨n,hn⟩:∃n,12<=n:=⟨12,bT _⟩;refine iW.c (n:=n) ?_ n0;have n1:1<=n:=by omega
 have n3:1<=n-1-1:=by omega
 intro l J Jx W hW bc hJ bd hY h0;have dm:qr m w W:=qr.d hW;have fq:=dm.i _ _ _ (by unfold gI;decide) hm;have ec:=dm.i _ _ _ (by unfold gI;decide) ha;have fl:=hM.mk dm;have fe:=hS.mk dm;clear hm ha hM hS dm hW;have⟨fa,fc,bf⟩:=fe.c;subst bf;have bq:=λO=>(bD _ W).l zl O;have c0:∀O,aE (W.alloc O) (Ad Bm 0)=aX (.map (aX B)):=λO=>dJ (bq O) (by simp[aE,fq]);have c1:∀O,aE (W.alloc O) (Ad Ba 0)=aX (St a.j):=λO=>dJ (bq O) (by simp[aE,ec]);have c2:∀O,aE (W.alloc O) (Ad Ba 1)=aX (aJ fa (aD a.d) fc):=λO=>dJ (bq O) (by simp[aE,ec])
 have b6:Hid (∀W,Cs 94 #[.map (aX B),aL #[St a.j,aJ fa (aD a.d) fc],aL #[St ⟨#[]⟩,St ⟨#[]⟩,St ⟨#[]⟩,St ⟨#[]⟩,St ⟨#[]⟩,St ⟨#[]⟩]] W λe w'=>e=aQ (.func (.func 156) #[] #[Pt W.heap.size,Pt (W.heap.size+1),Pt (W.heap.size+2)])/\
   w'=((W.alloc (aP #[.map (aX B)] 98)).alloc (aP #[St a.j,aJ fa (aD a.d) fc] 92)).alloc (aP #[St ⟨#[]⟩,St ⟨#[]⟩,St ⟨#[]⟩,St ⟨#[]⟩,St ⟨#[]⟩,St ⟨#[]⟩] 176)):=λW=>Gp B a _ Ql W _ _ _ rfl
 have HY:=aA hY;have HJ:=aA hJ;have HJx:=aA bd;have H0:=aA h0;clear hY hJ bd h0 bq;refine dT Tryz.func93 rfl trivial ?_ rfl;simp only[Tryz.ntmps93,bZ,bG,cE,cF,cG,bH,bI,cA,bO,bX,bQ]
 gi_wp2_with (refine⟨trivial,?_⟩;gi_at_call 94;refine (dQ.2 (b6.o _)).mono ?_;rintro e w' ⟨rfl,rfl⟩)
 obtain⟨NB,aw⟩:=aC W.heap.size;obtain⟨W0,ah⟩:=aC ((((W.alloc (aP #[.func (.yield l) #[] #[]] 181)).alloc (aP #[.map (aX B)] 98)).alloc (aP #[St a.j,aJ fa (aD a.d) fc] 92)).alloc (aP #[St ⟨#[]⟩,St ⟨#[]⟩,St ⟨#[]⟩,St ⟨#[]⟩,St ⟨#[]⟩,St ⟨#[]⟩] 176));have a6:dK W.heap.size W W0:=ah▸((((bD _ W).alloc zl _).alloc (by simp) _).alloc (by simp;omega) _).alloc (by simp;omega) _
 have dy:W0.heap.size=NB+4:=by rw[<-ah,<-aw];simp
 have bY:W0.heap[NB]?=cC #[.func (.yield l) #[] #[]] 181:=by rw[<-ah,<-aw];exact (bC _ _ _ (by simp;omega)).t ((bC _ _ _ (by simp;omega)).t ((bC _ _ _ (by simp)).t (zn W _)))
 have bM:W0.heap[NB+1]?=cC #[.map (aX B)] 98:=by rw[<-ah,<-aw];refine (bC _ _ _ (by simp)).t ((bC _ _ _ (by simp)).t ?_);have:=zn (W.alloc (aP #[.func (.yield l) #[] #[]] 181)) (aP #[.map (aX B)] 98);rwa[bB] at this
 have bA:W0.heap[NB+1+1]?=cC #[St a.j,aJ fa (aD a.d) fc] 92:=by rw[<-ah,<-aw];refine (bC _ _ _ (by simp)).t ?_;have:=zn ((W.alloc (aP #[.func (.yield l) #[] #[]] 181)).alloc (aP #[.map (aX B)] 98)) (aP #[St a.j,aJ fa (aD a.d) fc] 92);rwa[bB,bB] at this
 have bP:W0.heap[NB+1+2]?=aX (aP Ql.c 176):=by rw[<-ah,<-aw];have:=zn (((W.alloc (aP #[.func (.yield l) #[] #[]] 181)).alloc (aP #[.map (aX B)] 98)).alloc (aP #[St a.j,aJ fa (aD a.d) fc] 92)) (aP #[St ⟨#[]⟩,St ⟨#[]⟩,St ⟨#[]⟩,St ⟨#[]⟩,St ⟨#[]⟩,St ⟨#[]⟩] 176);rwa[bB,bB,bB] at this
 have ep:qr m W W0:=qr.d a6;have cz:=HJ.o _ _ _ aY H0.o (qi a6) (λr e=>by cases e);have iq:=fl.mk ep;have b4:=fe.mk ep;have jn:=ep.i _ _ _ (by unfold gI;decide) ec;have et:m<=W0.heap.size:=by have:=a6.s;omega
 have hz:∀k,(Ql.f k).size<=2000:=by
  intro k;have:(Ql.f k)=⟨#[]⟩:=by{unfold Ql fD.f;split<;>rfl};rw[this];exact zz
 simp only[aw];rw[ah];clear ah fl fe fq ec
 refine ui (n:=n) (gf:=156) (lb:=#[Pt (NB+1),Pt (NB+1+1),Pt (NB+1+2)]) rfl (enters_of Tryz.func156 (by kernel_rfl) rfl)
  (Gz 2000 (n-1) (NB+1) (NB+1+1) (NB+1+2) B nn ag M a (aJ fa (aD a.d) fc) Ql W0 bM bA bP iq b4 aj dr (bU hrel (by unfold dP;decide)) hz (λx y _ _ h=>fh x y h) (W0.heap.size+2)) qr.g (λV rc o' ho=>qr.H V _ _ o' (by omega) ho rfl (λ_ _ h=>by cases h)) (λ_=>rfl)
  (λpre V=>∃gs:List rS,J gs V/\gs.map (·.1)=(pre.map (·.1)).map (λp=>qb p a)/\qr m W0 V)
  (λc pre V=>c=.ret/\∃gs,Jx gs V)
  ?hI ?hIx ⟨[],cz,rfl,qr.d zr⟩
  (λx a' V=>∃Bx,V.heap[Bx]?=aX (aP x.1.c 176)/\a'={tmps:=#[.func (.yield l) #[] #[],Pt Bm,Pt Ba,Pt NB,Pt Bx,.map (aX B),aL #[St a.j,aJ fa (aD a.d) fc],aL #[St ⟨#[]⟩,St ⟨#[]⟩,St ⟨#[]⟩,St ⟨#[]⟩,St ⟨#[]⟩,St ⟨#[]⟩],.func (.func 156) #[] #[Pt (NB+1),Pt (NB+1+1),Pt (NB+1+2)],aL #[St x.1.g,St x.1.h,St x.1.i,St x.1.j,St x.1.o,St x.1.q],aZ,aZ,aZ,aZ,aZ,aZ],defers:=[]})
  ?hAx ?assign ?body ?done ?stop
 case hI=>rintro pre V V' row ⟨gs,C,z,E⟩ hg hr;exact⟨gs,HJ.o _ _ _ row C hg (λr e=>⟨by have:=(hr r e).1;omega,(hr r e).2⟩),z,E.z hg (λr e=>(hr r e).1)⟩
 case hIx=>rintro c pre V V' row ⟨rfl,gs,C⟩ hg hr;exact⟨rfl,gs,HJx.o _ _ _ row C hg (λr e=>⟨by have:=(hr r e).1;omega,(hr r e).2⟩)⟩
 case hAx=>rintro x a' _ V V' row ⟨Bx,z,h3⟩ hg hr;exact⟨Bx,qn hg (λr e=>(hr r e).2) _ _ _ _ z,h3⟩
 case assign=>
  rintro l' pre x V K hl ei ⟨gs,C,z,E⟩ hK;have HK:=aA hK;clear hK;unfold fD.v fD.c
  gi_wp2
  have an:dK V.heap.size V (V.alloc (aP #[St x.1.g,St x.1.h,St x.1.i,St x.1.j,St x.1.o,St x.1.q] 176)):=(bD _ V).l zl _;exact HK.o _ _ (KeepsFrom.d an) (qr.d an) ⟨gs,HJ.o _ _ _ aY C (qi an) (λr e=>by cases e),z,E.g (qr.d an)⟩ ⟨V.heap.size,zn V _,rfl⟩
 case done=>
  rintro D xs V hD ⟨ks,G,A,k3,k4⟩ ⟨gs,C,z,E⟩ hK
  have Qd:Hid (∃ks:List (ByteArray×ByteArray),ks.Nodup/\(∀x y,(x,y)∈ks↔(x.size<=dP/\y.size<=dP/\(M ⟨a.j,x,y⟩).isSome=true))/\aD ks<=nn/\gs.map (·.1)=(ks.filterMap (λk=>gK Ql a k.1 k.2)).map (λp=>qb p a)):=
   ⟨ks,G,A,k3,by rw[z,k4]⟩
  clear z A k4
  gi_wp2
  refine⟨by simp,aS ⟨_,_,rfl,dU hK,?_⟩⟩;refine⟨_,dS rfl _ _ _,⟨_,rfl⟩,aS ⟨gs,Qd.o,?_⟩⟩;exact HJ.o _ _ _ (aX D) C (dW V D (.deferred aY)) (λr e=>by cases e;exact⟨by omega,_,hK,rfl⟩)
 case stop=>
  rintro D c pre V hD _ ⟨rfl,gs,C⟩ hK
  gi_wp2
  refine⟨by simp,aS ⟨_,_,rfl,dU hK,?_⟩⟩;refine⟨_,dS rfl _ _ _,⟨_,rfl⟩,aU ⟨gs,trivial,?_⟩⟩;exact HJx.o _ _ _ (aX D) C (dW V D (.deferred aY)) (λr e=>by cases e;exact⟨by omega,_,hK,rfl⟩)
 case body=>
  rintro l' pre x a' V gm ⟨rc,f8⟩ ⟨gs,C,z,E⟩ ⟨Bx,ca,rfl⟩ ai;have dq:=E.i _ _ _ (by unfold gI;decide) bY;have g8:=E.i _ _ _ (by unfold gI;decide) jn;have fx:=b4.mk E;have cy:aE V (Ad NB 0)=aX (.func (.yield l) #[] #[]):=zc dq;have z1:∀j,aE V (Ad Ba j)=([St a.j,aJ fa (aD a.d) fc]:List Vq)[j]?:=λj=>by{simp[aE,g8]};have au:=ca;unfold fD.c at au;have q0:∀j,aE V (Ad Bx j)=([St x.1.g,St x.1.h,St x.1.i,St x.1.j,St x.1.o,St x.1.q]:List Vq)[j]?:=λj=>by{simp[aE,au]};have il:Hid (∀W1,dK V.heap.size V W1->aE W1 (Ad NB 0)=aX (.func (.yield l) #[] #[])):=λW1 hb=>dJ hb cy;have ct:=O4 x.2 hrel el;have ak:aD gs<nn:=by{have:=congrArg aD z;simp at this;omega};have cj:Hid (∀W,(∀(k:Nat) (c:Array Vq),V.heap[k]?=cC c 166->W.heap[k]?=cC c 166)->Cs 89 #[aL #[St x.1.g,St x.1.h,St x.1.i,St x.1.j,St x.1.o,St x.1.q],aL #[St a.j,aJ fa (aD a.d) fc]] W λe w'=>e=aQ (aL #[St (qb x.1 a).j,St (qb x.1 a).x,St (qb x.1 a).y])/\dK W.heap.size W w'):=λW hk=>A3 x.1 a _ ag W (fx.o (λk c _ hc=>hk k c hc)) aj dr
  have cu:Hid (∀W1,dK V.heap.size V W1->YieldAt Fence.wide (n-1) eD l #[aL #[St (qb x.1 a).j,St (qb x.1 a).x,St (qb x.1 a).y]] W1 λe W'=>∃b:Bool,e=aQ (aM b)/\((b=true/\J (gs++[⟨qb x.1 a,ct⟩]) W'/\qr m V W')\/(b=false/\Jx (gs++[⟨qb x.1 a,ct⟩]) W'/\eC m V W'))):=by
   intro W1 hb;have⟨fn,tmps,assign,body,hy,hR⟩:=HY.o gs ⟨qb x.1 a,ct⟩ W1 (HJ.o _ _ _ aY C (qi hb) (λr e=>by cases e)) ak;refine⟨fn,tmps,assign,body,hy,hR.mono ?_⟩;rintro e W' (⟨rfl,G,A⟩|⟨rfl,G,A⟩);{exact⟨true,rfl,aS ⟨rfl,G,(qr.d hb).g A⟩⟩};{exact⟨false,rfl,aU ⟨rfl,G,KeepsFrom.g (KeepsFrom.d hb) A⟩⟩}
  have d8:Hid ((gs++[Oj (qb x.1 a) ct]).map (·.1)=((pre++[x]).map (·.1)).map (λp=>qb p a)):=by{show _=_;rw[bJ,bJ,bJ,z];rfl};generalize hGr:(qb x.1 a).j=gr at *;generalize hGx:(qb x.1 a).x=gx at *;generalize hGy:(qb x.1 a).y=gy at *;clear hGr hGx hGy au fx z
  gi_wp2
  refine wpIn_mono (Q:=λe a' w'=>e=Exit.normal/\∃b:Bool,a'={tmps:=#[.func (.yield l) #[] #[],Pt Bm,Pt Ba,Pt NB,Pt Bx,.map (aX B),aL #[St a.j,aJ fa (aD a.d) fc],aL #[St ⟨#[]⟩,St ⟨#[]⟩,St ⟨#[]⟩,St ⟨#[]⟩,St ⟨#[]⟩,St ⟨#[]⟩],.func (.func 156) #[] #[Pt (NB+1),Pt (NB+1+1),Pt (NB+1+2)],aL #[St x.1.g,St x.1.h,St x.1.i,St x.1.j,St x.1.o,St x.1.q],.func (.yield l) #[] #[],aL #[St x.1.g,St x.1.h,St x.1.i,St x.1.j,St x.1.o,St x.1.q],aL #[St a.j,aJ fa (aD a.d) fc],aL #[St gr,St gx,St gy],aM b,aM (!b)],defers:=[]}/\((b=true/\J (gs++[⟨qb x.1 a,ct⟩]) w'/\qr m V w')\/(b=false/\Jx (gs++[⟨qb x.1 a,ct⟩]) w'/\eC m V w'))) ?reg ?rest
  case reg=>
   gi_region_with (first|(refine⟨trivial,?_⟩;(try refine⟨λh=>(by cases h),?_⟩);refine (dR l' (dQ.2 (cj.o V.drew (λ_ _ h=>h)))).mono ?_;rintro e W1 ⟨rfl,ao⟩;have⟨jq,gu,assign2,body2,ju,iu⟩:=cu.o W1 (dH (dI (bD V.heap.size V)) ao);have j7:=il.o W1 (dH (dI (bD V.heap.size V)) ao))|(refine (vF iu).mono ?_;rintro e W2 ⟨b,rfl,bj⟩))
   all_goals exact⟨rfl,b,rfl,bj⟩
  case rest=>
   rintro e a' X' ⟨rfl,b,rfl,bj⟩;obtain⟨rfl,G,A⟩|⟨rfl,G,A⟩:=bj
   .gi_wp2
    exact⟨KeepsFrom.h A.f (by omega),A.h (by omega),_,G,d8.o,E.g A⟩
   .gi_wp2
    exact⟨KeepsFrom.h A (by omega),rfl,_,G⟩
attribute [local go_sem] dY
def B6(a:Am)(M:Vq)(b:Nat)(w:Wq)(A:Qg w b M a.d)(hl:aD a.d<=2)(G:∀t∈a.d,t.d<6):Cs 48 #[aL #[St a.j,M]] w λe w'=>e=aQ (qb Ql a).v/\dK w.heap.size w w':=by
 have⟨ta,tc,g7⟩:=A.c;subst g7;have hg:Hid (∀W,dK w.heap.size w W->Cs 89 #[aL #[St ⟨#[]⟩,St ⟨#[]⟩,St ⟨#[]⟩,St ⟨#[]⟩,St ⟨#[]⟩,St ⟨#[]⟩],aL #[St a.j,aJ ta (aD a.d) tc]] W λe w'=>e=aQ (aL #[St (qb Ql a).j,St (qb Ql a).x,St (qb Ql a).y])/\dK W.heap.size W w'):=λW hk=>A3 Ql a _ b W (A.o (λk c _ E=>(hk.b k (zg E).1).t E)) hl G;clear A G;unfold Gd.v Gd.c;generalize hGr:(qb Ql a).j=gr at *;generalize hGx:(qb Ql a).x=gx at *;generalize hGy:(qb Ql a).y=gy at *;clear hGr hGx hGy;have hH:Hid (∀W1,dK ((w.alloc (aP #[St a.j,aJ ta (aD a.d) tc] 92)).alloc (aP #[St ⟨#[]⟩,St ⟨#[]⟩,St ⟨#[]⟩] 111)).heap.size ((w.alloc (aP #[St a.j,aJ ta (aD a.d) tc] 92)).alloc (aP #[St ⟨#[]⟩,St ⟨#[]⟩,St ⟨#[]⟩] 111)) W1->W1.heap[w.heap.size+1]?=cC #[St ⟨#[]⟩,St ⟨#[]⟩,St ⟨#[]⟩] 111):=by intro W1 hb;refine (hb.b _ (by simp)).t ?_;have:=zn (w.alloc (aP #[St a.j,aJ ta (aD a.d) tc] 92)) (aP #[St ⟨#[]⟩,St ⟨#[]⟩,St ⟨#[]⟩] 111);rwa[bB] at this
 go_enter Tryz.func48,Tryz.ntmps48;go_wp2_with (go_at_call 89;refine (hg.o _ (((bD _ w).l zl _).l (by simp) _)).m ?_;rintro e W1 ⟨rfl,C⟩;have z:=hH.o W1 C;have O:aE W1 (Ad (w.heap.size+1) 0)=aX (St ⟨#[]⟩):=(by simp[aE,z]);have c1:aE W1 (Ad (w.heap.size+1) 1)=aX (St ⟨#[]⟩):=(by simp[aE,z]);have c2:aE W1 (Ad (w.heap.size+1) 2)=aX (St ⟨#[]⟩):=(by simp[aE,z]);have f0:=fZz z;have f2:aF W1 (Ad (w.heap.size+1) 2)=false:=(by simp[aF,z]));refine bodyPost_ret (v:=aL #[St gr,St gx,St gy]) (by simp[results,Tryz.results48,go_sem,O,c1,c2]) rfl ?_;exact⟨rfl,((((((bD _ w).l zl _).l (by simp) _).t (C.m (by simp;omega))).c (p:=⟨w.heap.size+1,0,aY⟩) (by simp) _).c (p:=⟨w.heap.size+1,1,aY⟩) (by simp) _).c (p:=⟨w.heap.size+1,2,aY⟩) (by simp) _⟩
def Oa(v:Vq)(w:Wq)(A:Option eO)(E C:Nat)(z:v=aJ A E C):Cs 135 #[v] w λe w'=>e=aQ (.func (.func 188) #[] #[Pt w.heap.size])/\w'=w.alloc (aP #[v] 75):=by subst z;go_enter Tryz.func135,Tryz.ntmps135;go_wp2;go_ret;exact⟨rfl,rfl⟩
def Qx(R:List Rl):List (Gd×Int):=R.filterMap (λr=>if r.n=[] then aX (qb Ql r.d,2000000) else aY)
def Hb{R:List Rl}{k:Nat}(h:k<aD R):Qx (R.take (k+1))=Qx (R.take k)++(if (R[k]).n=[] then [(qb Ql (R[k]).d,2000000)] else []):=by grind [Qx,R,bF]
def OD(r:Rl):Prop:=aD r.d.d<=2/\∀t∈r.d.d,t.d<6
def My(aq E rb az ag:Nat)(v:Vq)(R:List Rl)(w:Wq)(Qy:w.heap[E]?=cC #[v] 75)(z:Qq w rb az ag v R)(fp:∀r∈R,OD r)(h8:aD R<=8)(m n0:Nat):iW m n0 188 #[Pt E] (λx:Gd×Int=>#[aL (qy x).toArray]) (kL w.heap.size aq m) (λys=>ys=Qx R) (λ_=>True) (aD R) w:=by
 obtain⟨n,hn⟩:∃n,12<=n:=⟨12,bT _⟩;refine iW.c (n:=n) ?_ n0;have n1:1<=n:=by lia
 intro l J Jx W hW bc hJ bd hY h0;have ci:=(hW.b E (zg Qy).1).t Qy;obtain⟨va,vc,rfl⟩:=z.c;have c0:aE W (Ad E 0)=aX (aJ va (aD R) vc):=zc ci;have HY:=aA hY;have HJ:=aA hJ;have HR:=aA z;have HW:=aA hW;clear hY hJ bd z hW Qy;refine dT Tryz.func188 rfl trivial ?_ rfl;simp only[Tryz.ntmps188,bZ,bG,cE,cF,cG,bH,bI,cA,bO,bX,bQ];gi_wp2;refine wpIn_loop (λA V=>∃(k:Nat)(u4 u8 u9 fr gj c4 c9 dj dc cw dg cx c3 c5 dk fo fm f6:Vq),A={tmps:=#[.func (.yield l) #[] #[],Pt E,aZ,aZ,u4,aJ va (aD R) vc,Ii (aD R),Ii k,u8,u9,fr,gj,c4,c9,dj,dc,cw,dg,cx,c3,c5,dk,fo,fm,f6],defers:=[]}/\k<=aD R/\J (Qx (R.take k)) V/\kL w.heap.size aq m W V) (λA _=>aD R-(intOf (A.tmps.getD 7 aZ)).toNat) ⟨0,_,_,_,_,_,_,_,_,_,_,_,_,_,_,_,_,_,_,rfl,zz,by simpa [Qx] using h0,kL.d zr⟩ ?_;rintro A V ⟨k,u4,u8,u9,fr,gj,c4,c9,dj,dc,cw,dg,cx,c3,c5,dk,fo,fm,f6,rfl,hk,M,ff⟩;by_cases ai:k<aD R
 .have fk:qf w V:=λi c t ht hi=>by{have gt:=(zg hi).1;refine ff.h i _ gt ((HW.o.b i gt).t hi) (aU (λc' fz e=>?_));cases e;obtain h|h|h:=ht<;>revert h<;>decide};have⟨g,c,v0,vb,e0,x0,x1,x2,eo,f9⟩:=sY (Qq.a HR.o fk) ai;cases e0;have⟨fa,fc,jk⟩:=eo.c;have⟨ga,gc,jc⟩:=gP.c f9;subst jk jc;have aj:=λO=>(bD _ V).l zl O;have di:Hid (∀W1,dK V.heap.size V W1->Cs 48 #[aL #[St (R[k]).d.j,aJ fa (aD (R[k]).d.d) fc]] W1 λe w'=>e=aQ (aL #[St (qb Ql (R[k]).d).j,St (qb Ql (R[k]).d).x,St (qb Ql (R[k]).d).y])/\dK W1.heap.size W1 w'):=λW1 hb=>B6 (R[k]).d _ ag W1 (eo.o (λi c _ hc=>(hb.b i (zg hc).1).t hc)) (fp _ (zm ai)).1 (fp _ (zm ai)).2;have em:=Hb ai;have ak:aD (Qx (R.take k))<=k:=by{refine bU (List.length_filterMap_le _ _) ?_;simp;lia};have cu:Hid (∀W1,dK V.heap.size V W1->YieldAt Fence.wide (n-1) eD l #[aL #[St (qb Ql (R[k]).d).j,St (qb Ql (R[k]).d).x,St (qb Ql (R[k]).d).y,Ii 2000000]] W1 λe W'=>∃b:Bool,e=aQ (aM b)/\((b=true/\J (Qx (R.take k)++[(qb Ql (R[k]).d,2000000)]) W'/\kL w.heap.size aq m V W')\/(b=false/\Jx (Qx (R.take k)++[(qb Ql (R[k]).d,2000000)]) W'))):=by{intro W1 hb;have⟨fn,tmps,assign,body,hy,z⟩:=HY.o (Qx (R.take k)) (qb Ql (R[k]).d,2000000) W1 (HJ.o _ _ _ aY M (qi hb) (λr e=>by cases e)) (by lia);refine⟨fn,tmps,assign,body,hy,z.mono ?_⟩;rintro e W' (⟨rfl,k1,k2⟩|⟨rfl,k1,k2⟩);{exact⟨true,rfl,aS ⟨rfl,k1,(kL.d hb).g k2⟩⟩};{exact⟨false,rfl,aU ⟨rfl,k1⟩⟩}};generalize hxk:R[k]=rk at *;have gb:=aA ff;have dx:=aA em;have G:=aA aj;clear aj ff hxk fk eo f9 em;cases hbd:rk.n with
  |nil=>have C:Hid (Qx (R.take (k+1))=Qx (R.take k)++[(qb Ql rk.d,2000000)]):=by{show _=_;rw[dx.o,if_pos hbd]};rw[hbd] at x2;clear hbd dx;generalize hGr:(qb Ql rk.d).j=gr at *;generalize hGx:(qb Ql rk.d).x=gx at *;generalize hGy:(qb Ql rk.d).y=gy at *;clear hGr hGx hGy;gi_wp2_with (first|(refine⟨trivial,?_⟩;gi_at_call 48;refine (dQ.2 (di.o _ (G.o _))).mono ?_;rintro e W1 ⟨rfl,ao⟩;have⟨fn,tmps,assign,body,hy,z⟩:=cu.o W1 ((G.o _).t (ao.m (by simp)))));refine z.mono ?_;rintro e W2 ⟨b,rfl,⟨rfl,ij,ig⟩|⟨rfl,e7⟩⟩;{clear hy z;gi_wp2;refine⟨⟨k+1,_,_,_,_,_,_,_,_,_,_,_,_,_,_,_,_,_,_,rfl,by lia,C.o▸ij,gb.o.g ig⟩,?_⟩;simp[intOf];lia};clear hy z;gi_wp2;exact⟨_,dS rfl _ _ _,⟨_,rfl⟩,aU ⟨_,trivial,e7⟩⟩
  |cons a0 at2=>have C:Hid (Qx (R.take (k+1))=Qx (R.take k)):=by{show _=_;rw[dx.o,if_neg (by rw[hbd];simp),cU]};rw[hbd] at x2;clear hbd dx;have hz:((aD at2:Int)+1 == 0)=false:=by{simp;lia};gi_wp2;refine⟨trivial,?_⟩;gi_wp2;refine⟨λf h=>(by cases h),?_⟩;gi_wp2;refine⟨⟨k+1,_,_,_,_,_,_,_,_,_,_,_,_,_,_,_,_,_,_,rfl,by lia,C.o▸HJ.o _ _ _ aY M (qi (G.o _)) (λr e=>by cases e),gb.o.g (kL.d (G.o _))⟩,?_⟩;simp[intOf];lia
 have bk:k=aD R:=by{lia};subst bk;rw[cD] at M;gi_wp2;exact⟨_,dS rfl _ _ _,⟨_,rfl⟩,aS ⟨_,rfl,M⟩⟩
def yt{F:Fence}{nF:Nat}{P:Program}(w:Wq){o:Oper}{a:Act}{K:Act->Wq->Prop}{Q:Exit->Act->Wq->Prop}(s x:Operand)(t:fA)(M:o.op=.call {callee:=.builtin .append,args:=#[s,x],argTypes:=#[t,t]})(E:Nat)(e:fA)(i:TypeInfo)(z:Vq)(size A:Nat)(ht:P.underlying t=aX (.slice e))(hi:P.info? e=aX i)(hz:i.zero=aX z)(dd:i.size=size)(eu:i.bytes=A)(h7:z.cells.size=size)(O:0<size)(v:Vq)(n:Nat)(xs:List Vq)(hs:a.eval s=v)(qt:aH w E e size v n xs)(G:eO)(m c:Nat)(aa:List Vq)(hx:a.eval x=aJ (aX G) m c)(hl:aD aa=m*size)(dw:∀j u,aa[j]?=aX u->aE w (G.add j)=aX u)(h1:∀u∈aa,u.oneCell'=true)(ix:n+m<=dP)(cc:(n+m)*A<=140737488355328)(je:E<=w.heap.size)(h:∀C w',aH w' E e size C (n+m) (xs++aa)->w.grownBy w' (aI v)->(aI C=aI v\/aI C=aX w.heap.size)->K (a.put o.dst C) w'):Oper.wpIn F nF P o a w K Q:=by have⟨C,w',hr,h2,h3,h4,h5⟩:=run_append_own_at (P:=P) w E t o.type e i z size A ht hi hz dd eu h7 O v n xs qt G m c aa hl dw h1 ix cc je;unfold Oper.wpIn;refine⟨by simp[Oper.about,M,resolve,Target.leads,Sem.run_pure],?_⟩;rw[Oper.semAt_plain F _ _ (by rw[M];intro c ik;cases ik)];simp[execOp,M,resolve,invoke,builtin,hs,hx,hr,Result.andThen];exact h _ _ h2 h3 h5
attribute [local go_sem] dY
def iL(l:List (List UInt8)):List (List UInt8):=l.mergeSort λx y=>decide (x<=y)
def kR(l:List UInt8):Vq:=aK ⟨l.toArray⟩
def OC(v:Vq)(l:List (List UInt8))(b:Nat)(w:Wq)(qt:aH w b 9 1 v (aD l) (l.map kR))(hl:aD l<=2000000):Cs 92 #[v] w λe w'=>e=aQ (aN #[])/\aH w' b 9 1 v (aD l) ((iL l).map kR)/\fC w w' (λk=>aX k=aI v):=by
 have ip:=qt;obtain⟨ak,⟨E,hn⟩|⟨g,z,al,E,hb,C,O,h2,h3,h4⟩⟩:=qt
 .subst E;have:l=[]:=bL hn;subst this;refine (Any.slices_Sort_string_none Tryz.lays190 aY 0 w).m ?_;rintro e w' ⟨rfl,rfl⟩;have e0:iL []=[]:=by{simp[iL]};rw[e0];exact⟨rfl,ip,fC.j _ _⟩
 subst E;have ai:=(zg C).1;have hH:Sort.Holds encStr w g 0 l.toArray:=by intro j hj;have jm:j<aD l:=by{simpa using hj};refine⟨?_,by simp[aF,C]⟩;have G:al.toList[j]?=(l.map kR)[j]?:=by{grind};have e2:al[j]?=aX (kR l[j]):=by{grind};simp only[aE,C];have e3:l.toArray[j]! = l[j]:=by{simp[jm]};rw[e3];have e4:al[0+j]?=aX (kR l[j]):=by{grind};exact e4
 refine (Tryz.slices_Sort_string g 0 z l w hH ai (by lia)).m ?_;rintro e w' ⟨rfl,n,A,rfl⟩;have M:aD (iL l)=aD l:=(cQ l _).length_eq;have hF:((iL l).toArray.map encStr).size<=al.size:=by grind
 have cq:eQ (eE encStr (eK w n) g 0 (iL l).toArray) A=eQ (eE id (eK w n) g 0 ((iL l).toArray.map encStr)) A:=by unfold eE;congr 2;funext c;unfold Sort.putCells;refine Array.ext (by simp) (λi O h2=>?_);simp only[Array.getElem_mapIdx,Array.size_map];by_cases hi:0<=i/\i<0+(iL l).toArray.size;{grind};{grind}
 have⟨s1,s2,s3,s4⟩:=B9 (n:=n) ((iL l).toArray.map encStr) A C hF;show _/\aH (eQ (eE encStr (eK w n) g 0 (iL l).toArray) A) _ _ _ _ _ _/\fC w (eQ (eE encStr (eK w n) g 0 (iL l).toArray) A) _;rw[cq];refine⟨rfl,⟨by simp[M],aU ⟨g,z,_,rfl,hb,s1,O,h2,s3.t h3,?_⟩⟩,⟨rfl,rfl,rfl,?_,λk hk hx=>s2 k hk (λe=>hx (by rw[e];rfl))⟩⟩
 .have G:aD l*1=((iL l).toArray.map encStr).size:=by{simp[M]};rw[G,s4];simp[kR]
 grind
theorem DR{gf:Nat}{lb:Array Vq}{S Sp:List rS->Prop}{N:Nat}(w:Wq)(gk:N<=1000000)(eg:∀args w,(callFunc gf args).run eD w=.ok (.enter gf args) w)(b0:∀m n,iW m n gf lb (λg:rS=>#[g.1.v]) (qr m) S Sp N w):Cs 50 #[.func (.func gf) #[] lb] w λe w'=>∃v gs,e=aQ v/\S gs/\aH w' w.heap.size 9 1 v (aD gs) ((iL (gs.map (λg=>(fU g.1).data.toList))).map kR)/\dK w.heap.size w w'/\aD gs<=N:=by
 obtain⟨NB,hN⟩:∃N,w.heap.size=N:=⟨_,rfl⟩;obtain⟨i0,hi,a7,ay,a8⟩:=dZ Tryz.d;refine (dQ (n:=8)).1 ?_;refine dT Tryz.func50 rfl trivial ?_ rfl;simp only[Tryz.ntmps50,bZ,bG,cE,cF,cG,bH,bI,cA,bO,bX,bQ];gi_wp2;obtain⟨W0,ah⟩:=aC (w.alloc (aP #[aJ aY 0 0] 22));have a6:dK w.heap.size w W0:=ah▸(bD _ w).alloc zl _
 have dy:W0.heap.size=NB+1:=by rw[<-ah,<-hN];simp
 have bV:eX W0 NB 22 (aJ aY 0 0):=by have:=Boxed.new w 22 (aJ aY 0 0);rwa[hN,ah] at this
 (try simp only[hN]);rw[ah];clear ah;refine ui (n:=8) (gf:=gf) (lb:=lb) rfl eg ((b0 _ _).d a6) qr.g (λV rc o' ho=>qr.H V _ _ o' (by omega) ho rfl (λ_ _ h=>by cases h)) (λ_=>rfl)
  (λpre V=>∃v,eX V NB 22 v/\aH V NB 9 1 v (aD pre) (pre.map (λg=>aK (fU g.1)))/\dK NB w V/\NB<V.heap.size/\aD pre<=N)
  (λ_ _ _=>False)
  ?hI (λ_ _ _ _ _ h _ _=>h) ⟨_,bV,⟨rfl,aS ⟨rfl,rfl⟩⟩,by rwa[hN] at a6,by omega,zz⟩
  (λx a' V=>∃Bx,V.heap[Bx]?=aX (aP x.1.c 111)/\a'={tmps:=#[.func (.func gf) #[] lb,aZ,aJ aY 0 0,.pointer (aX ⟨NB,0,aY⟩),.pointer (aX ⟨Bx,0,aY⟩),.func (.func gf) #[] lb,aL #[aK x.1.j,aK x.1.x,aK x.1.y],aZ,aZ,aZ,aZ,aZ,aZ,aZ,aZ],defers:=[]})
  ?hAx ?assign ?body ?done (λ_ _ _ _ _ _ h _=>h.elim)
 case hI=>rintro pre V V' row ⟨v,h1,M,h3,h4,h5⟩ hg hr;have hk:=qn hg (λr e=>(hr r e).2);exact⟨v,hk _ _ _ _ h1,Qe M (λg c _ A=>hk g c _ _ A),h3.grown hg (by omega) (λk e=>by have:=(hr k e).1;omega),by have:=hg.size;omega,h5⟩
 case hAx=>rintro x a' _ V V' row ⟨Bx,M,h5⟩ hg hr;exact⟨Bx,qn hg (λr e=>(hr r e).2) _ _ _ _ M,h5⟩
 case assign=>rintro l' pre t V K hl ei ⟨v,h1,M,h3,h4,h5⟩ z;have HK:Hid _:=z;clear z;unfold Gd.v Gd.c;gi_wp2;have an:dK V.heap.size V (V.alloc (aP #[aK t.1.j,aK t.1.x,aK t.1.y] 111)):=(bD _ V).l zl _;exact HK.o _ _ (KeepsFrom.d an) (qr.d an) ⟨v,h1.alloc _,M.l _,h3.t (an.m (by omega)),by simp;omega,h5⟩ ⟨V.heap.size,zn V _,rfl⟩
 case done=>rintro D gs V hD hS ⟨v,h1,M,h3,h4,h5⟩ z;have c1:=h1.cell;obtain⟨C,E,rfl⟩:=qq M;have em:aD gs<=2000000:=by{omega};have bb:Hid (Cs 92 #[aJ C (aD gs) E] V λe w'=>e=aQ (aN #[])/\aH w' NB 9 1 (aJ C (aD gs) E) (aD gs) ((iL (gs.map (λg=>(fU g.1).data.toList))).map kR)/\dK NB w w'/\eX w' NB 22 (aJ C (aD gs) E)/\w'.heap[D]?=aX (.deferred (aX []))/\NB<w'.heap.size):=by{have ie:gs.map (λg=>aK (fU g.1))=(gs.map (λg=>(fU g.1).data.toList)).map kR:=by{rw[List.map_map];refine List.map_congr_left (λg _=>?_);show aK (fU g.1)=kR (fU g.1).data.toList;unfold kR;rw[Array.toArray_toList]};have de:aD (gs.map (λg=>(fU g.1).data.toList))=aD gs:=by{simp};have ge:=M;rw[ie] at ge;have i8:=OC (aJ C (aD gs) E) (gs.map (λg=>(fU g.1).data.toList)) NB V (de▸ge) (by omega);refine i8.m ?_;rintro e w' ⟨rfl,ho,A⟩;rw[de] at ho;refine⟨rfl,ho,h3.t ⟨A.os,A.tape,A.output,A.size,λk hk=>A.h k (by omega) (λe=>?_)⟩,(A.h _ h1.lt (λe=>Qh M h1 (by decide) _ e.s rfl)).t h1,(A.h _ (zg z).1 (λe=>?_)).t z,by have:=A.size;omega⟩;{have:=(qe M e.s).1;omega};obtain⟨_,c,jj⟩:=qe M e.s;rw[jj] at z;cases z};gi_wp2_with (refine⟨trivial,?_⟩;gi_at_call 92;refine (dQ.2 bb.o).mono ?_;rintro e W2 ⟨rfl,k1,k2,k3,k4,k5⟩;have kc:=k3.cell);refine⟨by simp,aS ⟨_,_,rfl,dU k4,?_⟩⟩;have hk:=qn (dW W2 D (.deferred aY)) (λr e=>by cases e;exact⟨_,k4,rfl⟩);refine⟨_,results_tmp rfl _ _ _,aJ C (aD gs) E,gs,rfl,hS,?_,?_,h5⟩;{rw[hN];exact Qe k1 (λg c _ A=>hk g c _ _ A)};rw[hN];exact v8 k2 (by omega) (by omega)
 rintro l' pre t a' V gm ⟨r,hr⟩ ⟨v,h1,M,h3,h4,h5⟩ ⟨Bx,ca,rfl⟩ ai;obtain⟨C,E,rfl⟩:=qq M;have au:=ca;unfold Gd.c at au;have c0:aE V (Ad Bx 0)=aX (aK t.1.j):=zc au;have c1:aE V (Ad Bx 1)=aX (aK t.1.x):=zc au;have c2:aE V (Ad Bx 2)=aX (aK t.1.y):=zc au;have cb:=h1.cell;have co:aD pre+1<=maxLen:=by unfold dP;omega
 have cp:(aD pre+1)*16<=140737488355328:=by omega
 have ed:Hid (Cs 91 #[aL #[aK t.1.j,aK t.1.x,aK t.1.y]] V.drew λe w'=>e=aQ (aK (fU t.1))/\dK V.heap.size V w'):=(JI t.1 V.drew t.2.j t.2.x t.2.y).m (λe w' h=>⟨h.1,((bD _ V).drew).t h.2⟩);have fv:Hid (∀V1,dK V.heap.size V V1->aE V1 (Ad NB 0)=aX (aJ C (aD pre) E)):=λV1 hb=>dJ hb cb;have d7:Hid (∀V1,dK V.heap.size V V1->aH (V1.alloc (aP #[aK (fU t.1)] 9)) NB 9 1 (aJ C (aD pre) E) (aD pre) (pre.map (λg=>aK (fU g.1)))):=λV1 hb=>(qh M hb).l _;have d6:Hid (∀V1,dK V.heap.size V V1->NB<=(V1.alloc (aP #[aK (fU t.1)] 9)).heap.size):=λV1 hb=>by have:=hb.s;show NB<=_;simp;omega
 have Qd:Hid (∀V1 G w1,dK V.heap.size V V1->aH w1 NB 9 1 G (aD pre+1) (pre.map (λg=>aK (fU g.1))++[aK (fU t.1)])->(V1.alloc (aP #[aK (fU t.1)] 9)).grownBy w1 (aI (aJ C (aD pre) E))->∃g' af,G=aJ (aX ⟨g',0,aY⟩) (aD pre+1) af/\(∃cv,aE w1 (Ad NB 0)=aX cv)/\aF w1 (Ad NB 0)=false/\
   (eC W0.heap.size V (w1.setCell (Ad NB 0) G)/\qr (W0.heap.size+2) V (w1.setCell (Ad NB 0) G)/\∃v,eX (w1.setCell (Ad NB 0) G) NB 22 v/\aH (w1.setCell (Ad NB 0) G) NB 9 1 v (aD (pre++[t])) ((pre++[t]).map (λg=>aK (fU g.1)))/\dK NB w (w1.setCell (Ad NB 0) G)/\NB<(w1.setCell (Ad NB 0) G).heap.size/\aD (pre++[t])<=N)):=by
  intro V1 G w1 ao ho hg;obtain⟨g',af,e9⟩:=ownsRow_succ ho;subst e9;have k1:eX V1 NB 22 (aJ C (aD pre) E):=(ao.b _ h1.lt).t h1;have k2:=qh M ao;have A:=((fC.j V1 _).alloc _).o hg (λk e _=>e.s);have eb:eX w1 NB 22 (aJ C (aD pre) E):=(A.h _ k1.lt (λe=>Qh k2 k1 (by decide) _ e.s rfl)).t k1;have b7:fC V1 (w1.setCell (Ad NB 0) (aJ (aX ⟨g',0,aY⟩) (aD pre+1) af)) (λj=>j=NB\/aX j=aI (aJ C (aD pre) E)):=(A.mono (λ_ _ e=>aU e)).i (Ad NB 0) _ (λ_=>aS rfl)
  have gv:∀m',eC m' V1 (w1.setCell (Ad NB 0) (aJ (aX ⟨g',0,aY⟩) (aD pre+1) af)):=λm'=>BT b7 (λj hj hx=>by
   obtain rfl|hx:=hx
   .exact⟨_,_,k1⟩
   .obtain⟨_,c,A⟩:=qe k2 hx.s;exact⟨c,_,A⟩)
  have b6:∀(k:Nat)(o:Obj),V1.heap[k]?=aX o->(∀c fz,o≠aP c 9 fz)->(∀c fz,o≠aP c 22 fz)->(w1.setCell (Ad NB 0) (aJ (aX ⟨g',0,aY⟩) (aD pre+1) af)).heap[k]?=aX o:=λk o ck g6 jp=>by
   refine (b7.h k (zg ck).1 (λe=>?_)).t ck;obtain e|e:=e
   .rw[e] at ck;have hj:=k1;unfold eX at hj;rw[hj] at ck;cases ck;exact jp _ _ rfl
   .obtain⟨_,c,A⟩:=qe k2 e.s;rw[A] at ck;cases ck;exact g6 _ _ rfl
  have ir:∀m',qr m' V1 (w1.setCell (Ad NB 0) (aJ (aX ⟨g',0,aY⟩) (aD pre+1) af)):=λm'=>⟨λk c t ht hk=>b6 k _ hk (λc' fz e=>by cases e;exact ht.1 rfl) (λc' fz e=>by cases e;exact ht.2.1 rfl),λk es c hk=>b6 k _ hk (λ_ _ e=>by cases e) (λ_ _ e=>by cases e),gv m'⟩;refine⟨g',af,rfl,⟨_,eb.cell⟩,eb.frozen,KeepsFrom.g (KeepsFrom.d ao) (gv _),(qr.d ao).g (ir _),_,qQ eb _,?_,?_,?_,by simp;omega⟩
  .have:=Qj ho ⟨NB,0,aY⟩ (aJ (aX ⟨g',0,aY⟩) (aD pre+1) af) (Qh ho eb (by decide));simpa using this
  .refine (h3.t (ao.m (by omega))).t ⟨b7.os,b7.tape,b7.output,b7.size,λk hk=>?_⟩;refine b7.h k (by have:=ao.s;omega) (λe=>?_);obtain rfl|e:=e
   .omega
   .have:=(qe k2 e.s).1;omega
  .have:=b7.size;have:=ao.s;omega
 have Qoq:Tryz.prog.follows .mixedOrders=true:=by kernel_rfl
 clear au h1 M;gi_wp2;generalize fU t.1=tx at *;refine wpIn_region_any Qoq ?_;(try (change wpAnyIn _ _ _ _ _ _ _ _ _ (World.drew _)));refine dO (rs:=[0,1]) (by kernel_rfl) (by simp) (dL rfl (λK z=>?_) (dL rfl (λK z=>?_) dM))
 .go_simp;refine z _ _ ?_;clear z K;refine dO (rs:=[1]) (by kernel_rfl) (by simp) (dL rfl (λK z=>?_) dM);go_simp;refine z _ _ ?_;clear z K;refine dO (rs:=[2]) (by kernel_rfl) (by simp) (dL rfl (λK z=>?_) dM);go_simp;refine⟨trivial,?_⟩;refine (dR l' (dQ.2 ed.o)).mono ?_;rintro e V1 ⟨rfl,ab⟩;refine z _ _ ?_;clear z K;refine dO (rs:=[3]) (by kernel_rfl) (by simp) (dL rfl (λK z=>?_) dM);go_simp;refine z _ _ ?_;clear z K;refine dO (rs:=[4]) (by kernel_rfl) (by simp) (dX rfl rfl (λK z=>?_) dM);refine yt _ (.tmp 7) (.tmp 10) 22 rfl NB 9 i0 (aK ⟨#[]⟩) 1 16 eA hi a7 ay a8 rfl (by decide) (aJ C (aD pre) E) _ _ rfl (d7.o V1 ab) ⟨V1.heap.size,0,aY⟩ 1 1 [aK tx] rfl rfl (eI _ _ _) (by simp[cI]) co cp (d6.o V1 ab) ?_;intro G w1 ho b8 e8;obtain⟨g',af,rfl,⟨cv,ev⟩,ey,bj⟩:=Qd.o V1 G w1 ab ho b8;refine z _ _ ?_;clear z K;refine dO (rs:=[5]) (by kernel_rfl) (by simp) (dL rfl (λK z=>?_) dM);go_simp;refine z _ _ ?_;clear z K;refine eJ (by kernel_rfl) ?_ _;exact bj
 go_simp;refine z _ _ ?_;clear z K;refine dO (rs:=[0,2]) (by kernel_rfl) (by simp) (dL rfl (λK z=>?_) (dL rfl (λK z=>?_) dM))
 .go_simp;refine z _ _ ?_;clear z K;refine dO (rs:=[2]) (by kernel_rfl) (by simp) (dL rfl (λK z=>?_) dM);go_simp;refine⟨trivial,?_⟩;refine (dR l' (dQ.2 ed.o)).mono ?_;rintro e V1 ⟨rfl,ab⟩;refine z _ _ ?_;clear z K;refine dO (rs:=[3]) (by kernel_rfl) (by simp) (dL rfl (λK z=>?_) dM);go_simp;refine z _ _ ?_;clear z K;refine dO (rs:=[4]) (by kernel_rfl) (by simp) (dX rfl rfl (λK z=>?_) dM);refine yt _ (.tmp 7) (.tmp 10) 22 rfl NB 9 i0 (aK ⟨#[]⟩) 1 16 eA hi a7 ay a8 rfl (by decide) (aJ C (aD pre) E) _ _ rfl (d7.o V1 ab) ⟨V1.heap.size,0,aY⟩ 1 1 [aK tx] rfl rfl (eI _ _ _) (by simp[cI]) co cp (d6.o V1 ab) ?_;intro G w1 ho b8 e8;obtain⟨g',af,rfl,⟨cv,ev⟩,ey,bj⟩:=Qd.o V1 G w1 ab ho b8;refine z _ _ ?_;clear z K;refine dO (rs:=[5]) (by kernel_rfl) (by simp) (dL rfl (λK z=>?_) dM);go_simp;refine z _ _ ?_;clear z K;refine eJ (by kernel_rfl) ?_ _;exact bj
 go_simp;refine⟨trivial,?_⟩;refine (dR l' (dQ.2 ed.o)).mono ?_;rintro e V1 ⟨rfl,ab⟩;have gw:=fv.o V1 ab;have ia:=λO=>fv.o _ (ab.l ab.s O);refine z _ _ ?_;clear z K;refine dO (rs:=[0,3]) (by kernel_rfl) (by simp) (dL rfl (λK z=>?_) (dL rfl (λK z=>?_) dM))
 .go_simp;refine z _ _ ?_;clear z K;refine dO (rs:=[3]) (by kernel_rfl) (by simp) (dL rfl (λK z=>?_) dM);go_simp;refine z _ _ ?_;clear z K;refine dO (rs:=[4]) (by kernel_rfl) (by simp) (dX rfl rfl (λK z=>?_) dM);refine yt _ (.tmp 7) (.tmp 10) 22 rfl NB 9 i0 (aK ⟨#[]⟩) 1 16 eA hi a7 ay a8 rfl (by decide) (aJ C (aD pre) E) _ _ rfl (d7.o V1 ab) ⟨V1.heap.size,0,aY⟩ 1 1 [aK tx] rfl rfl (eI _ _ _) (by simp[cI]) co cp (d6.o V1 ab) ?_;intro G w1 ho b8 e8;obtain⟨g',af,rfl,⟨cv,ev⟩,ey,bj⟩:=Qd.o V1 G w1 ab ho b8;refine z _ _ ?_;clear z K;refine dO (rs:=[5]) (by kernel_rfl) (by simp) (dL rfl (λK z=>?_) dM);go_simp;refine z _ _ ?_;clear z K;refine eJ (by kernel_rfl) ?_ _;exact bj
 go_simp;refine z _ _ ?_;clear z K;refine dO (rs:=[0]) (by kernel_rfl) (by simp) (dL rfl (λK z=>?_) dM);go_simp;refine z _ _ ?_;clear z K;refine dO (rs:=[4]) (by kernel_rfl) (by simp) (dX rfl rfl (λK z=>?_) dM);refine yt _ (.tmp 7) (.tmp 10) 22 rfl NB 9 i0 (aK ⟨#[]⟩) 1 16 eA hi a7 ay a8 rfl (by decide) (aJ C (aD pre) E) _ _ rfl (d7.o V1 ab) ⟨V1.heap.size,0,aY⟩ 1 1 [aK tx] rfl rfl (eI _ _ _) (by simp[cI]) co cp (d6.o V1 ab) ?_;intro G w1 ho b8 e8;obtain⟨g',af,rfl,⟨cv,ev⟩,ey,bj⟩:=Qd.o V1 G w1 ab ho b8;refine z _ _ ?_;clear z K;refine dO (rs:=[5]) (by kernel_rfl) (by simp) (dL rfl (λK z=>?_) dM);go_simp;refine z _ _ ?_;clear z K;refine eJ (by kernel_rfl) ?_ _;exact bj
end Go.Proofs.YtjajnhemgphefaaGreatDoor
namespace Go.Proofs.YtjajnhemgphefaaGreatDoor
open Go renaming World->Wq,Value->Vq
open Go.RowKit Go.Shelf
variable {W:Wq} {size b e:Nat} {xs:List Vq}
theorem xz(z:Array Vq)(n:Nat):(eF z n).size=n*z.size:=by
 unfold eF;induction n with
 |zero=>simp
 |succ n ih=>simp[Nat.succ_mul]
structure Sl where
 v:Vq
 n:Nat
 c:List Vq
def gL(l:List Sl):Nat:=(l.map (·.n)).sum
def zE{l:List Sl}{k:Nat}(h:k<aD l):gL (l.take (k+1))=gL (l.take k)+(l[k]).n:=by grind [gL,bF]
def zh(l:List Sl)(k:Nat):gL (l.take k)<=gL l:=by grind [gL,List.take_append_drop]
def mY(W:Wq)(size:Nat)(s:Sl):Prop:=
 (s.v=aJ aY 0 0/\s.n=0/\s.c=[])\/
 ∃a c,s.v=aJ (aX a) s.n c/\aD s.c=s.n*size/\(∀j u,s.c[j]?=aX u->aE W (a.add j)=aX u)/\(s.n≠0->a.block<W.heap.size)/\∀u∈s.c,u.oneCell'=true
def mY.c{s:Sl}(h:mY W size s):∃a c,s.v=aJ a s.n c:=by
 obtain⟨z,A,_⟩|⟨a,c,z,_⟩:=h
 .grind
 grind
def mY.d{W':Wq}{s:Sl}(h:mY W size s)(z:dK W.heap.size W W'):mY W' size s:=by
 obtain h|⟨a,c,A,C,E,G,M⟩:=h
 .exact aS h
 refine aU ⟨a,c,A,C,λj u O=>dJ z (E j u O),λhn=>?_,M⟩;have:=G hn;have:=z.s;lia
def rD{b' n:Nat}{v:Vq}(h:aH W b e size v n xs)(E:b'<=b):aH W b' e size v n xs:=by
 obtain⟨h0,A|⟨g,z,al,M,G,C⟩⟩:=h
 .exact⟨h0,aS A⟩
 exact⟨h0,aU ⟨g,z,al,M,bU E G,C⟩⟩
def Et{n:Nat}{v:Vq}(h:aH W b e size v n xs){g:Nat}(z:aI v=aX g):b<=g:=by
 obtain⟨h0,⟨C,_⟩|⟨g',A,al,G,E,M⟩⟩:=h
 .rw[C] at z;cases z
 rw[G] at z;cases z;exact E
def F7(W:Wq)(r:Option Nat):W.grownBy W r:=⟨rfl,rfl,rfl,bT _,λ_ _ _=>rfl⟩
def Gh{P:Program}(w:Wq){A:Array Oper}{rest:List Oper}{o:Oper}{a:Act}{Q:Exit->Act->Wq->Prop}(C:o.guard=aY)(s x:Operand)(t:fA)(M:o.op=.call {callee:=.builtin .append,args:=#[s,x],argTypes:=#[t,t]})(z:Nat)(e:fA)(i:TypeInfo)(size:Nat)(ht:P.underlying t=aX (.slice e))(G:P.info? e=aX i)(v:Vq)(n:Nat)(xs:List Vq)(hs:a.eval s=v)(qt:aH w z e size v n xs)(hx:a.eval x=aJ aY 0 0)(h:wpList P A Q rest (a.put o.dst v) w):wpList P A Q (o::rest) a w:=by refine wpList_plain C λK E=>?_;have O:=run_append_owned_none (P:=P) w z t o.type e i size ht G v n xs qt;unfold Oper.wp execOp;simp only[M,resolve,invoke,builtin,Sem.run_bind,Sem.run_pure,Result.andThen_ok,List.map_toArray,cZ,List.map_nil,hs,hx,O];exact E _ _ h
def Tryz.c:(Tryz.prog.info? 71).map (λi=>(i.zero,i.size,i.bytes))=aX (aX (aL #[Ii 0,Ii 0,St ⟨#[]⟩,Ii 0]),4,40):=by kernel_rfl
def LX(n:Nat)(C:n<=1000)(w:Wq):Cs 259 #[aJ aY 0 0,Ii n] w λe w'=>∃v,e=aQ v/\aH w' w.heap.size 92 2 v 0 []/\dK w.heap.size w w':=by
 by_cases h0:n=0
 .subst h0;refine (Any8.slices_Grow_room Tryz.growAtom aY 0 0 0 w zl (by lia) (by lia) zl).m ?_;rintro e w' ⟨rfl,rfl⟩;exact⟨_,rfl,zo,zr⟩
 have⟨i0,hi,a7,ay,a8⟩:=dZ Tryz.h;refine (Any8.slices_Grow_grow Tryz.growAtom i0 _ hi a7 (by rw[ay];decide) aY 0 0 n [] w zl (by lia) (by rw[a8];lia) (by lia) (by simp) (λ_=>rfl) (λa h=>by cases h)).m ?_;rintro e w' ⟨rfl,rfl⟩;have z:=grownCap_ge w (0+n) 0 92;have A:=eW w (0+n) 0 92 (by unfold dP;lia);refine⟨_,rfl,⟨rfl,aU ⟨w.heap.size,_,_,rfl,bT _,zn w.drew _,zz,A,?_,by simp⟩⟩,(bD w.heap.size w).drew.l zl _⟩;rw[cJ,cJ,xz,xz];show 0+_*2+_*2=_*2;have:∀g:Nat,0+n<=g->0+(0+n-0)*2+(g-(0+n))*2=g*2:=λg h=>by{lia};exact this _ z
def Oq(B:Nat)(z:List Sl)(w:Wq)(hB:w.heap[B]?=aX (aP (z.map (·.v)).toArray 134))(c7:∀s∈z,mY w 2 s)(hn:gL z<=500)(hl:aD z<=10):Cs 230 #[Sc B (aD z) (aD z)] w λe w'=>∃v,e=aQ v/\aH w' w.heap.size 92 2 v (gL z) (z.flatMap (·.c))/\dK w.heap.size w w':=by
 have cj:Hid (∀W,Cs 259 #[aJ aY 0 0,Ii (gL z)] W λe w'=>∃v,e=aQ v/\aH w' W.heap.size 92 2 v 0 []/\dK W.heap.size W w'):=λW=>LX _ (by omega) W;have Qi:Hid (∀W,dK w.heap.size w W->∀k(E:k<aD z),aE W (Ad B k)=aX (z[k]).v/\mY W 2 z[k]):=by intro W C k E;refine⟨dJ C ?_,(c7 _ (zm E)).d C⟩;simp[aE,hB,E]
 clear c7 hB;have⟨i0,hi,a7,ay,a8⟩:=dZ Tryz.h;go_enter Tryz.func230,Tryz.ntmps230;go_wp2;go_loopw [3,11] (λx y wr=>∃k:Nat,k<=aD z/\x=aO aR (gL (z.take k))/\y=aO aR k/\dK w.heap.size w wr) (λx y _=>aD z-(intOf y).toNat)
 case atStart=>exact⟨0,zz,rfl,rfl,zr⟩
 obtain⟨k,E,rfl,rfl,C⟩:=hrel;by_cases ai:k<aD z
 .have⟨hc,hs⟩:=Qi.o wr C k ai;have⟨a,c,hv⟩:=hs.c;have bi:=zE ai;have b5:=zh z (k+1);rw[hv] at hc;have i1:(k:Int)<(aD z:Int):=by{omega};generalize (z[k]).n=m at *;generalize hq:gL (z.take k)=q at *;have i2:¬((q:Int)+m<0):=by{omega};clear hs hv hq;go_wp2;go_roundw
  case rel=>exact⟨k+1,by omega,by rw[bi];go_num,by go_num,C⟩
  simp[intOf];omega
 have bk:k=aD z:=by{omega};subst bk;rw[cD] at *;generalize hq:gL z=q at *;have cg:=aA hq;clear hq;go_wp2_with (go_at_call 259;refine (cj.o _).m ?_;rintro e W1 ⟨v,rfl,A,G⟩;have⟨va,vc,ee⟩:=qd A;subst ee);have ci:=C.t (G.m C.s);have dh:=rD A C.s;clear A cj G C;go_loopw [6,27] (λx y wr=>∃k:Nat,k<=aD z/\(∃vx,vx=x/\aH wr w.heap.size 92 2 vx (gL (z.take k)) ((z.take k).flatMap (·.c)))/\y=aO aR k/\dK w.heap.size w wr) (λx y _=>aD z-(intOf y).toNat)
 case atStart=>exact⟨0,zz,⟨_,rfl,dh⟩,rfl,ci⟩
 clear dh ci;obtain⟨k,E,⟨vx,rfl,A⟩,rfl,C⟩:=hrel;by_cases ai:k<aD z
 .have⟨hc,hs⟩:=Qi.o _ C k ai;have bi:=zE ai;have b5:=zh z (k+1);have ch:(z.take (k+1)).flatMap (·.c)=(z.take k).flatMap (·.c)++(z[k]).c:=by{rw[bF ai,cL];simp};have i1:(k:Int)<(aD z:Int):=by{omega};have bc:=C.s;have cl:Hid (∀O w1,aH w1 w.heap.size 92 2 O (gL (z.take k)+(z[k]).n) ((z.take k).flatMap (·.c)++(z[k]).c)->wr.grownBy w1 (aI vx)->aH w1 w.heap.size 92 2 O (gL (z.take (k+1))) ((z.take (k+1)).flatMap (·.c))/\dK w.heap.size w w1):=by{intro O w1 h1 h2;rw[bi,ch];exact⟨h1,C.grown h2 bc (λg hg=>Et A hg)⟩};rw[cg.o] at b5;obtain⟨s1,s2,M⟩|⟨a,c,s1,s2,M,s4,s5⟩:=hs
  .rw[s1] at hc;have hl:=cl.o vx wr (by rw[s2,M];simpa using A) (F7 _ _);have HL:=aA hl;have HO:=aA A;have⟨xa,xc,be⟩:=qd A;clear cl ch bi hl;subst be;go_wp2_with (at_builtin;refine Gh _ rfl (.tmp 31) (.tmp 32) 134 rfl w.heap.size 92 i0 2 eU hi _ _ _ rfl HO.o rfl ?_);go_roundw
   case rel=>exact⟨k+1,by omega,⟨_,rfl,HL.o.1⟩,by go_num,HL.o.2⟩
   simp[intOf];omega
  rw[s1] at hc;have G:gL (z.take k)+(z[k]).n<=maxLen:=by{unfold dP;omega};have c8:(gL (z.take k)+(z[k]).n)*40<=140737488355328:=by{omega};have HO:=aA A;have⟨xa,xc,be⟩:=qd A;have S3:=aA M;generalize (z[k]).n=m at *;generalize (z[k]).c=aa at *;clear ch bi b5 M A;subst be;go_wp2_with (at_builtin;refine eH _ rfl (.tmp 31) (.tmp 32) 134 rfl w.heap.size 92 i0 _ 2 40 eU hi a7 ay a8 rfl (by decide) _ _ _ rfl HO.o a m c aa rfl s2 S3.o s5 G c8 bc ?_;intro O w1 am ap _;have⟨h9,ii,Qio⟩:=qd am;subst Qio);have⟨t1,t2⟩:=cl.o _ w1 am ap;go_roundw
  case rel=>exact⟨k+1,by omega,⟨_,rfl,t1⟩,by go_num,t2⟩
  simp[intOf];omega
 have bk:k=aD z:=by{omega};subst bk;rw[cD] at A;rw[cg.o] at A;have⟨xa,xc,be⟩:=qd A;subst be;go_wp2;go_ret;refine⟨_,rfl,?_,C⟩;rwa[cg.o]
def Oo(n:Nat)(C:n<=1000)(w:Wq):Cs 194 #[aJ aY 0 0,Ii n] w λe w'=>∃v,e=aQ v/\aH w' w.heap.size 71 4 v 0 []/\dK w.heap.size w w':=by
 by_cases h0:n=0
 .subst h0;refine (Any8.slices_Grow_room Tryz.growRecord aY 0 0 0 w zl (by lia) (by lia) zl).m ?_;rintro e w' ⟨rfl,rfl⟩;exact⟨_,rfl,zo,zr⟩
 have⟨i0,hi,a7,ay,a8⟩:=dZ Tryz.c;refine (Any8.slices_Grow_grow Tryz.growRecord i0 _ hi a7 (by rw[ay];decide) aY 0 0 n [] w zl (by lia) (by rw[a8];lia) (by lia) (by simp) (λ_=>rfl) (λa h=>by cases h)).m ?_;rintro e w' ⟨rfl,rfl⟩;have z:=grownCap_ge w (0+n) 0 71;have A:=eW w (0+n) 0 71 (by unfold dP;lia);refine⟨_,rfl,⟨rfl,aU ⟨w.heap.size,_,_,rfl,bT _,zn w.drew _,zz,A,?_,by simp⟩⟩,(bD w.heap.size w).drew.l zl _⟩;rw[cJ,cJ,xz,xz];show 0+_*4+_*4=_*4;have:∀g:Nat,0+n<=g->0+(0+n-0)*4+(g-(0+n))*4=g*4:=λg h=>by{lia};exact this _ z
def JE(B:Nat)(z:List Sl)(w:Wq)(hB:w.heap[B]?=aX (aP (z.map (·.v)).toArray 196))(c7:∀s∈z,mY w 4 s)(hn:gL z<=500)(hl:aD z<=10):Cs 148 #[Sc B (aD z) (aD z)] w λe w'=>∃v,e=aQ v/\aH w' w.heap.size 71 4 v (gL z) (z.flatMap (·.c))/\dK w.heap.size w w':=by
 have cj:Hid (∀W,Cs 194 #[aJ aY 0 0,Ii (gL z)] W λe w'=>∃v,e=aQ v/\aH w' W.heap.size 71 4 v 0 []/\dK W.heap.size W w'):=λW=>Oo _ (by omega) W;have Qi:Hid (∀W,dK w.heap.size w W->∀k(E:k<aD z),aE W (Ad B k)=aX (z[k]).v/\mY W 4 z[k]):=by intro W C k E;refine⟨dJ C ?_,(c7 _ (zm E)).d C⟩;simp[aE,hB,E]
 clear c7 hB;have⟨i0,hi,a7,ay,a8⟩:=dZ Tryz.c;go_enter Tryz.func148,Tryz.ntmps148;go_wp2;go_loopw [3,11] (λx y wr=>∃k:Nat,k<=aD z/\x=aO aR (gL (z.take k))/\y=aO aR k/\dK w.heap.size w wr) (λx y _=>aD z-(intOf y).toNat)
 case atStart=>exact⟨0,zz,rfl,rfl,zr⟩
 obtain⟨k,E,rfl,rfl,C⟩:=hrel;by_cases ai:k<aD z
 .have⟨hc,hs⟩:=Qi.o wr C k ai;have⟨a,c,hv⟩:=hs.c;have bi:=zE ai;have b5:=zh z (k+1);rw[hv] at hc;have i1:(k:Int)<(aD z:Int):=by{omega};generalize (z[k]).n=m at *;generalize hq:gL (z.take k)=q at *;have i2:¬((q:Int)+m<0):=by{omega};clear hs hv hq;go_wp2;go_roundw
  case rel=>exact⟨k+1,by omega,by rw[bi];go_num,by go_num,C⟩
  simp[intOf];omega
 have bk:k=aD z:=by{omega};subst bk;rw[cD] at *;generalize hq:gL z=q at *;have cg:=aA hq;clear hq;go_wp2_with (go_at_call 194;refine (cj.o _).m ?_;rintro e W1 ⟨v,rfl,A,G⟩;have⟨va,vc,ee⟩:=qd A;subst ee);have ci:=C.t (G.m C.s);have dh:=rD A C.s;clear A cj G C;go_loopw [6,27] (λx y wr=>∃k:Nat,k<=aD z/\(∃vx,vx=x/\aH wr w.heap.size 71 4 vx (gL (z.take k)) ((z.take k).flatMap (·.c)))/\y=aO aR k/\dK w.heap.size w wr) (λx y _=>aD z-(intOf y).toNat)
 case atStart=>exact⟨0,zz,⟨_,rfl,dh⟩,rfl,ci⟩
 clear dh ci;obtain⟨k,E,⟨vx,rfl,A⟩,rfl,C⟩:=hrel;by_cases ai:k<aD z
 .have⟨hc,hs⟩:=Qi.o _ C k ai;have bi:=zE ai;have b5:=zh z (k+1);have ch:(z.take (k+1)).flatMap (·.c)=(z.take k).flatMap (·.c)++(z[k]).c:=by{rw[bF ai,cL];simp};have i1:(k:Int)<(aD z:Int):=by{omega};have bc:=C.s;have cl:Hid (∀O w1,aH w1 w.heap.size 71 4 O (gL (z.take k)+(z[k]).n) ((z.take k).flatMap (·.c)++(z[k]).c)->wr.grownBy w1 (aI vx)->aH w1 w.heap.size 71 4 O (gL (z.take (k+1))) ((z.take (k+1)).flatMap (·.c))/\dK w.heap.size w w1):=by{intro O w1 h1 h2;rw[bi,ch];exact⟨h1,C.grown h2 bc (λg hg=>Et A hg)⟩};rw[cg.o] at b5;obtain⟨s1,s2,M⟩|⟨a,c,s1,s2,M,s4,s5⟩:=hs
  .rw[s1] at hc;have hl:=cl.o vx wr (by rw[s2,M];simpa using A) (F7 _ _);have HL:=aA hl;have HO:=aA A;have⟨xa,xc,be⟩:=qd A;clear cl ch bi hl;subst be;go_wp2_with (at_builtin;refine Gh _ rfl (.tmp 31) (.tmp 32) 196 rfl w.heap.size 71 i0 4 dV hi _ _ _ rfl HO.o rfl ?_);go_roundw
   case rel=>exact⟨k+1,by omega,⟨_,rfl,HL.o.1⟩,by go_num,HL.o.2⟩
   simp[intOf];omega
  rw[s1] at hc;have G:gL (z.take k)+(z[k]).n<=maxLen:=by{unfold dP;omega};have c8:(gL (z.take k)+(z[k]).n)*40<=140737488355328:=by{omega};have HO:=aA A;have⟨xa,xc,be⟩:=qd A;have S3:=aA M;generalize (z[k]).n=m at *;generalize (z[k]).c=aa at *;clear ch bi b5 M A;subst be;go_wp2_with (at_builtin;refine eH _ rfl (.tmp 31) (.tmp 32) 196 rfl w.heap.size 71 i0 _ 4 40 dV hi a7 ay a8 rfl (by decide) _ _ _ rfl HO.o a m c aa rfl s2 S3.o s5 G c8 bc ?_;intro O w1 am ap _;have⟨h9,ii,Qio⟩:=qd am;subst Qio);have⟨t1,t2⟩:=cl.o _ w1 am ap;go_roundw
  case rel=>exact⟨k+1,by omega,⟨_,rfl,t1⟩,by go_num,t2⟩
  simp[intOf];omega
 have bk:k=aD z:=by{omega};subst bk;rw[cD] at A;rw[cg.o] at A;have⟨xa,xc,be⟩:=qd A;subst be;go_wp2;go_ret;refine⟨_,rfl,?_,C⟩;rwa[cg.o]
end Go.Proofs.YtjajnhemgphefaaGreatDoor
namespace Go.Proofs.YtjajnhemgphefaaGreatDoor
open Go renaming World->Wq,Value->Vq
open Go.RowKit Go.Shelf Go.Maps
attribute [local go_sem] dY
variable {W:Wq} {b:Nat}
def Jh(B A:Nat)(a:Am)(z:Vq)(w:Wq)(E:Option eO)(M G:Nat)(C:z=aJ E M G):Cs 147 #[.map (aX B),.map (aX A),aL #[St a.j,z]] w λe w'=>e=aQ (.func (.func 193) #[] #[Pt w.heap.size,Pt (w.heap.size+2),Pt (w.heap.size+1)])/\
   w'=((w.alloc (aP #[.map (aX B)] 98)).alloc (aP #[.map (aX A)] 98)).alloc (aP #[St a.j,z] 92):=by subst C;go_enter Tryz.func147,Tryz.ntmps147;go_wp2;go_ret;exact⟨rfl,rfl⟩
structure ul(Bm Ba Bo B B2 nn n2 ag:Nat)(M M2:Gd->Option Int)(a:Am)(va:Vq)(W:Wq):Prop where
 j:W.heap[Bm]?=cC #[.map (aX B)] 98
 g:W.heap[Ba]?=cC #[St a.j,va] 92
 f:W.heap[Bo]?=cC #[.map (aX B2)] 98
 d:Qg W ag va a.d
 C:gH W B nn M
 c:gH W B2 n2 M2
def ul.i{m E C G B A nn n2 ag:Nat}{M O:Gd->Option Int}{a:Am}{va:Vq}{W':Wq}(h:ul E C G B A nn n2 ag M O a va W)(z:qr m W W'):ul E C G B A nn n2 ag M O a va W':=
 ⟨z.i _ _ _ (by unfold gI;decide) h.j,z.i _ _ _ (by unfold gI;decide) h.g,z.i _ _ _ (by unfold gI;decide) h.f,h.d.mk z,h.C.mk z,h.c.mk z⟩
def Kz(n0 Bm Ba Bo B B2 nn n2 ag:Nat)(M z:Gd->Option Int)(a:Am)(va:Vq)(w:Wq)(bb:ul Bm Ba Bo B B2 nn n2 ag M z a va w)(aj:aD a.d<=2)(dr:∀t∈a.d,t.d<6)(hrel:a.j.size<=2000)(el:∀t∈a.d,t.c.size<=2000)(fh:∀x y,(M ⟨a.j,x,y⟩).isSome=true->x.size<=2000/\y.size<=2000)(m:Nat):iW m n0 193 #[Pt Bm,Pt Ba,Pt Bo] (λg:rS=>#[g.1.v]) (qr m)
   (λgs=>∃ks:List (ByteArray×ByteArray),ks.Nodup/\(∀x y,(x,y)∈ks↔(x.size<=dP/\y.size<=dP/\(M ⟨a.j,x,y⟩).isSome=true))/\aD ks<=nn/\gs.map (·.1)=((ks.filterMap (λk=>gK Ql a k.1 k.2)).map (λp=>qb p a)).filter (λg=>(z g).isNone)) (λ_=>True) nn w:=by
 obtain⟨n,hn⟩:∃n,12<=n:=⟨12,bT _⟩;refine iW.c (n:=n) ?_ n0;have n1:1<=n:=by lia
 have n3:1<=n-1-1:=by lia
 intro l J Jx W hW bc hJ bd hY h0;have av:=bb.i (qr.d (m:=m) hW);clear bb hW;have⟨fa,fc,bf⟩:=av.d.c;subst bf;have bq:=λO=>(bD _ W).l zl O;have c0:∀O,aE (W.alloc O) (Ad Bm 0)=aX (.map (aX B)):=λO=>dJ (bq O) (by have:=av.j;simp[aE,this]);have c1:∀O,aE (W.alloc O) (Ad Ba 0)=aX (St a.j):=λO=>dJ (bq O) (by have:=av.g;simp[aE,this]);have c2:∀O,aE (W.alloc O) (Ad Ba 1)=aX (aJ fa (aD a.d) fc):=λO=>dJ (bq O) (by have:=av.g;simp[aE,this]);have gi:Hid (∀W,Cs 51 #[.map (aX B),aL #[St a.j,aJ fa (aD a.d) fc]] W λe w'=>e=aQ (.func (.func 93) #[] #[Pt W.heap.size,Pt (W.heap.size+1)])/\w'=(W.alloc (aP #[.map (aX B)] 98)).alloc (aP #[St a.j,aJ fa (aD a.d) fc] 92)):=λW=>BK B a _ W _ _ _ rfl;have fi:=aA av;have HY:=aA hY;have HJ:=aA hJ;have HJx:=aA bd;have H0:=aA h0;clear hY hJ bd h0 bq av;refine dT Tryz.func193 rfl trivial ?_ rfl;simp only[Tryz.ntmps193,bZ,bG,cE,cF,cG,bH,bI,cA,bO,bX,bQ];gi_wp2_with (refine⟨trivial,?_⟩;gi_at_call 51;refine (dQ.2 (gi.o _)).mono ?_;rintro e w' ⟨rfl,rfl⟩);obtain⟨NB,aw⟩:=aC W.heap.size;obtain⟨W0,ah⟩:=aC (((W.alloc (aP #[.func (.yield l) #[] #[]] 181)).alloc (aP #[.map (aX B)] 98)).alloc (aP #[St a.j,aJ fa (aD a.d) fc] 92));have a6:dK W.heap.size W W0:=ah▸(((bD _ W).alloc zl _).alloc (by simp) _).alloc (by simp;omega) _
 have dy:W0.heap.size=NB+3:=by rw[<-ah,<-aw];simp
 have bY:W0.heap[NB]?=cC #[.func (.yield l) #[] #[]] 181:=by rw[<-ah,<-aw];exact (bC _ _ _ (by simp;lia)).t ((bC _ _ _ (by simp)).t (zn W _))
 have bM:W0.heap[NB+1]?=cC #[.map (aX B)] 98:=by rw[<-ah,<-aw];refine (bC _ _ _ (by simp)).t ?_;have:=zn (W.alloc (aP #[.func (.yield l) #[] #[]] 181)) (aP #[.map (aX B)] 98);rwa[bB] at this
 have bA:W0.heap[NB+1+1]?=cC #[St a.j,aJ fa (aD a.d) fc] 92:=by rw[<-ah,<-aw];have:=zn ((W.alloc (aP #[.func (.yield l) #[] #[]] 181)).alloc (aP #[.map (aX B)] 98)) (aP #[St a.j,aJ fa (aD a.d) fc] 92);rwa[bB,bB] at this
 have cd:=(fi.o).i (qr.d (m:=m) a6);have cz:=HJ.o _ _ _ aY H0.o (qi a6) (λr e=>by cases e);have et:m<=W0.heap.size:=by have:=a6.s;lia
 have ih:=zY (n-1) (NB+1) (NB+1+1) B nn ag M a (aJ fa (aD a.d) fc) W0 bM bA cd.C cd.d aj dr hrel el fh (W0.heap.size+2);simp only[aw];rw[ah];clear ah c0 c1 c2 gi;have Qc3:=aA cd;clear cd;refine ui (n:=n) (gf:=93) (lb:=#[Pt (NB+1),Pt (NB+1+1)]) rfl (enters_of Tryz.func93 (by kernel_rfl) rfl)
  ih qr.g (λV rc o' ho=>qr.H V _ _ o' (by lia) ho rfl (λ_ _ h=>by cases h)) (λ_=>rfl)
  (λpre V=>∃gs:List rS,J gs V/\gs.map (·.1)=(pre.map (·.1)).filter (λg=>(z g).isNone)/\qr m W0 V)
  (λc pre V=>c=.ret/\∃gs,Jx gs V)
  ?hI ?hIx ⟨[],cz,rfl,qr.d zr⟩
  (λx a' V=>∃A,V.heap[A]?=aX (aP x.1.c 111)/\a'={tmps:=#[.func (.yield l) #[] #[],Pt Bm,Pt Ba,Pt Bo,Pt NB,Pt A,.map (aX B),aL #[St a.j,aJ fa (aD a.d) fc],.func (.func 93) #[] #[Pt (NB+1),Pt (NB+1+1)],aL #[St x.1.j,St x.1.x,St x.1.y],aZ,aZ,aZ,aZ,aZ,aZ,aZ,aZ,aZ,aZ],defers:=[]})
  ?hAx ?assign ?body ?done ?stop
 case hI=>rintro pre V V' row ⟨gs,C,E,h4⟩ hg hr;exact⟨gs,HJ.o _ _ _ row C hg (λr e=>⟨by have:=(hr r e).1;lia,(hr r e).2⟩),E,h4.z hg (λr e=>(hr r e).1)⟩
 case hIx=>rintro c pre V V' row ⟨rfl,gs,C⟩ hg hr;exact⟨rfl,gs,HJx.o _ _ _ row C hg (λr e=>⟨by have:=(hr r e).1;lia,(hr r e).2⟩)⟩
 case hAx=>rintro x a' _ V V' row ⟨A,E,h3⟩ hg hr;exact⟨A,qn hg (λr e=>(hr r e).2) _ _ _ _ E,h3⟩
 case assign=>rintro l' pre x V K hl ei ⟨gs,C,E,h4⟩ G;have HK:=aA G;clear G;unfold Gd.v Gd.c;gi_wp2;have an:dK V.heap.size V (V.alloc (aP #[St x.1.j,St x.1.x,St x.1.y] 111)):=(bD _ V).l zl _;exact HK.o _ _ (KeepsFrom.d an) (qr.d an) ⟨gs,HJ.o _ _ _ aY C (qi an) (λr e=>by cases e),E,h4.g (qr.d an)⟩ ⟨V.heap.size,zn V _,rfl⟩
 case done=>
  rintro D xs V hD ⟨ks,k1,k2,k3,k4⟩ ⟨gs,C,E,h4⟩ G;have Qd:Hid (∃ks:List (ByteArray×ByteArray),ks.Nodup/\(∀x y,(x,y)∈ks↔(x.size<=dP/\y.size<=dP/\(M ⟨a.j,x,y⟩).isSome=true))/\aD ks<=nn/\gs.map (·.1)=((ks.filterMap (λk=>gK Ql a k.1 k.2)).map (λp=>qb p a)).filter (λg=>(z g).isNone)):=
   ⟨ks,k1,k2,k3,by rw[E,k4]⟩
  clear E k2 k4;gi_wp2;refine⟨by simp,aS ⟨_,_,rfl,dU G,?_⟩⟩;refine⟨_,dS rfl _ _ _,⟨_,rfl⟩,aS ⟨gs,Qd.o,?_⟩⟩;exact HJ.o _ _ _ (aX D) C (dW V D (.deferred aY)) (λr e=>by cases e;exact⟨by lia,_,G,rfl⟩)
 case stop=>rintro D c pre V hD _ ⟨rfl,gs,C⟩ G;gi_wp2;refine⟨by simp,aS ⟨_,_,rfl,dU G,?_⟩⟩;refine⟨_,dS rfl _ _ _,⟨_,rfl⟩,aU ⟨gs,trivial,?_⟩⟩;exact HJx.o _ _ _ (aX D) C (dW V D (.deferred aY)) (λr e=>by cases e;exact⟨by lia,_,G,rfl⟩)
 rintro l2 pre x a' X de ⟨ib,ef⟩ ⟨gs,j1,j0,j2⟩ ⟨A,ca,rfl⟩ i7;have Qih:=(Qc3.o).i j2;have dq:=j2.i _ _ _ (by unfold gI;decide) bY;have au:=ca;unfold Gd.c at au;have q0:aE X (Ad A 0)=aX (St x.1.j):=zc au;have q1:aE X (Ad A 1)=aX (St x.1.x):=zc au;have q2:aE X (Ad A 2)=aX (St x.1.y):=zc au;have qo:aE X (Ad Bo 0)=aX (.map (aX B2)):=by{have:=Qih.f;simp[aE,this]};have cy:aE X (Ad NB 0)=aX (.func (.yield l) #[] #[]):=zc dq;have dt:=aA (BX B2 n2 z x.1 x.2.o X Qih.c);have ak:aD gs<nn:=by{have e1:=congrArg aD j0;rw[cX] at e1;have e2:=List.length_filter_le (λg=>(z g).isNone) (pre.map (·.1));have e3:aD (pre.map (·.1))=aD pre:=cX _;lia};have dz:Hid (((pre++[x]).map (·.1)).filter (λg=>(z g).isNone)=gs.map (·.1)++(if (z x.1).isNone=true then [x.1] else [])):=by show _=_;rw[bJ,List.filter_append,j0];congr 1;show List.filter _ [x.1]=_;rw[List.filter_cons,List.filter_nil]
 have cu:Hid (∀X3,dK X.heap.size X X3->YieldAt Fence.wide (n-1) eD l #[aL #[St x.1.j,St x.1.x,St x.1.y]] X3 λe W'=>∃b:Bool,e=aQ (aM b)/\((b=true/\J (gs++[x]) W'/\qr m X W')\/(b=false/\Jx (gs++[x]) W'/\eC m X W'))):=by intro X3 hb;have⟨fn,tmps,assign,body,hy,hR⟩:=HY.o gs x X3 (HJ.o _ _ _ aY j1 (qi hb) (λr e=>by cases e)) ak;refine⟨fn,tmps,assign,body,hy,hR.mono ?_⟩;rintro e W' (⟨rfl,k1,k2⟩|⟨rfl,k1,k2⟩);{exact⟨true,rfl,aS ⟨rfl,k1,(qr.d hb).g k2⟩⟩};{exact⟨false,rfl,aU ⟨rfl,k1,KeepsFrom.g (KeepsFrom.d hb) k2⟩⟩}
 have f4:Hid (∀X3,dK X.heap.size X X3->aE X3 (Ad NB 0)=aX (.func (.yield l) #[] #[])/\aE X3 (Ad A 0)=aX (St x.1.j)/\aE X3 (Ad A 1)=aX (St x.1.x)/\aE X3 (Ad A 2)=aX (St x.1.y)):=λX3 hb=>⟨dJ hb cy,dJ hb q0,dJ hb q1,dJ hb q2⟩;clear au Qih dq;cases hMh:z x.1 with
 |some t=>have ew:Hid (((pre++[x]).map (·.1)).filter (λg=>(z g).isNone)=gs.map (·.1)):=by{show _=_;rw[dz.o,hMh];simp};rw[hMh] at dt;clear hMh dz cu f4 ak j0;gi_wp2_with (refine⟨trivial,?_⟩;gi_at_call 136;refine (dR l2 (dQ.2 dt.o)).mono ?_;rintro e X3 ⟨rfl,cn⟩);refine⟨λf h=>(by cases h),?_⟩;gi_wp2;exact⟨KeepsFrom.d cn,qr.d cn,gs,HJ.o _ _ _ aY j1 (qi cn) (λr e=>by cases e),ew.o.s,j2.g (qr.d cn)⟩
 |none=>have ew:Hid (((pre++[x]).map (·.1)).filter (λg=>(z g).isNone)=(gs++[x]).map (·.1)):=by{show _=_;rw[dz.o,hMh,bJ];rfl};rw[hMh] at dt;clear hMh dz ak j0;gi_wp2_with (refine⟨trivial,?_⟩;gi_at_call 136;refine (dR l2 (dQ.2 dt.o)).mono ?_;rintro e X3 ⟨rfl,cn⟩;have⟨js,g0,g1,g2⟩:=f4.o X3 cn;have⟨fn,tmps,assign,body,hy,hR⟩:=cu.o X3 cn);refine (vF hR).mono ?_;rintro e X' ⟨b,rfl,⟨rfl,ez,a9⟩|⟨rfl,ce,a9⟩⟩;{clear hy hR;gi_wp2;exact⟨KeepsFrom.h a9.f (by lia),a9.h (by lia),gs++[x],ez,ew.o.s,j2.g a9⟩};clear hy hR;gi_wp2;exact⟨KeepsFrom.h a9 (by lia),rfl,⟨_,ce⟩⟩
structure Rc where
 d:Int
 h:Int
 f:ByteArray
 g:Int
def Rc.c(r:Rc):List Vq:=[aO aR r.d,aO aR r.h,aK r.f,aO aR r.g]
def Rc.v(r:Rc):Vq:=aL r.c.toArray
def Rc.i(r:Rc):aD r.c=4:=rfl
theorem wh(l:List Rc):aD (l.flatMap Rc.c)=aD l*4:=by
 induction l with
 |nil=>rfl
 |cons x l ih=>rw[cO,cH,ih,Rc.i,bG];lia
def mH(kind:Int)(l:List (List UInt8)):List Rc:=l.map (λt=>⟨kind,0,⟨t.toArray⟩,0⟩)
def KK{v:Vq}{l:List (List UInt8)}(h:aH W b 9 1 v (aD l) (l.map kR)){k:Nat}(M:k<aD l):∃(g c:Nat),v=Sc g (aD l) c/\aE W (Ad g k)=aX (St ⟨(l[k]).toArray⟩):=by
 obtain⟨_,⟨_,O⟩|⟨g,c,al,C,_,E,_,_,_,G⟩⟩:=h
 .omega
 refine⟨g,c,C,?_⟩;have z:(l.map kR)[k]?=aX (kR l[k]):=by grind
 rw[<-G,cM,if_pos (by lia)] at z;simp only[aE,E];have A:al[k]?=aX (kR l[k]):=by simpa using z
 exact A
def FH{gf:Nat}{lb:Array Vq}{S Sp:List rS->Prop}{N:Nat}(z:Int)(w:Wq)(gk:N<=1000000)(eg:∀args w,(callFunc gf args).run eD w=.ok (.enter gf args) w)(b0:∀m n,iW m n gf lb (λg:rS=>#[g.1.v]) (qr m) S Sp N w):Cs 146 #[Ii z,.func (.func gf) #[] lb] w λe w'=>∃(v:Vq) (gs:List rS),e=aQ v/\S gs/\aH w' w.heap.size 71 4 v (aD (mH z (iL (gs.map (λg=>(fU g.1).data.toList))))) ((mH z (iL (gs.map (λg=>(fU g.1).data.toList)))).flatMap Rc.c)/\dK w.heap.size w w':=by
 have ft:Hid (Cs 50 #[.func (.func gf) #[] lb] w λe w'=>∃(C:Option eO)(E:Nat)(ts:List (List UInt8))(gs:List rS),e=aQ (aJ C (aD ts) E)/\S gs/\ts=iL (gs.map (λg=>(fU g.1).data.toList))/\aD ts<=1000000/\aH w' w.heap.size 9 1 (aJ C (aD ts) E) (aD ts) (ts.map kR)/\dK w.heap.size w w'):=by refine (DR w gk eg b0).m ?_;rintro e w' ⟨v,gs,rfl,hS,G,M,hl⟩;have ak:aD (iL (gs.map (λg=>(fU g.1).data.toList)))=aD gs:=((cQ _ _).length_eq).t (by simp);have⟨C,E,di⟩:=qq G;subst di;rw[<-ak] at G;exact⟨C,E,_,gs,by rw[ak],hS,rfl,by omega,G,M⟩
 clear b0;go_enter Tryz.func146,Tryz.ntmps146;go_wp2_with (go_at_call 50;refine (ft.o).m ?_;rintro e W1 ⟨C,E,ts,gs,rfl,hS,gh,jy,G,M⟩;have i9:=aA gh;clear gh);have⟨i0,hi,a7,ay,a8⟩:=dZ Tryz.c;have HB:=aA M;have f5:=M.s;have HO:=aA G;clear G M ft;refine wp_loop (λA V=>∃(k:Nat)(qa:Option eO)(qc:Nat)(u7 c4 c9 dj dc cw dg cx c3 c5 dk:Vq),A={tmps:=#[Ii z,.func (.func gf) #[] lb,aZ,aZ,aJ aY 0 0,aJ qa k qc,aZ,u7,.func (.func gf) #[] lb,aJ C (aD ts) E,Ii (aD ts),Ii k,c4,c9,dj,dc,cw,dg,cx,c3,c5,dk,aZ],defers:=[]}/\k<=aD ts/\aH V W1.heap.size 71 4 (aJ qa k qc) k ((mH z (ts.take k)).flatMap Rc.c)/\dK W1.heap.size W1 V) (λA _=>aD ts-(intOf (A.tmps.getD 11 aZ)).toNat) ⟨0,aY,0,_,_,_,_,_,_,_,_,_,_,_,rfl,zz,⟨rfl,aS ⟨rfl,rfl⟩⟩,zr⟩ ?_;rintro A V ⟨k,qa,qc,u7,c4,c9,dj,dc,cw,dg,cx,c3,c5,dk,rfl,hk,qt,O⟩;have fs:=qh HO.o O;have jd:=O.s;by_cases ai:k<aD ts
 .have⟨g,c,e0,x0⟩:=KK fs ai;cases e0;have co:k+1<=maxLen:=by{unfold dP;omega};have cp:(k+1)*40<=140737488355328:=by{omega};have iw:Hid ((mH z (ts.take (k+1))).flatMap Rc.c=(mH z (ts.take k)).flatMap Rc.c++[Ii z,Ii 0,St ⟨(ts[k]).toArray⟩,Ii 0]):=by{show _=_;rw[bF ai];unfold mH;rw[bJ,cL];rfl};generalize hxk:(⟨(ts[k]).toArray⟩:ByteArray)=tx at *;generalize hub:(mH z (ts.take k)).flatMap Rc.c=uc at *;clear hxk hub fs;go_wp2_with (at_builtin;refine eH _ rfl (.tmp 15) (.tmp 19) 196 rfl W1.heap.size 71 i0 (aL #[Ii 0,Ii 0,St ⟨#[]⟩,Ii 0]) 4 40 dV hi a7 ay a8 rfl (by decide) _ _ _ rfl (aH.l qt _) ⟨V.heap.size,0,aY⟩ 1 1 [Ii z,Ii 0,St tx,Ii 0] rfl rfl (sL _ _ _ _ _ _) (by simp[cI]) co cp (by simp;omega) ?_;intro v' w1 am ap _;have⟨g',af,e9⟩:=ownsRow_succ am;subst e9);have jo:aH w1 W1.heap.size 71 4 (Sc g' (k+1) af) (k+1) ((mH z (ts.take (k+1))).flatMap Rc.c):=iw.o▸am;have c8:=(O.l jd _).grown ap (by simp;omega) (λj e=>(qe qt e).1);refine⟨⟨k+1,_,_,_,_,_,_,_,_,_,_,_,_,_,rfl,by omega,jo,c8⟩,?_⟩;simp[intOf];omega
 have bk:k=aD ts:=by{omega};subst bk;rw[cD] at qt;go_wp2;go_ret;have c6:aD (mH z ts)=aD ts:=by{unfold mH;simp};refine⟨_,gs,rfl,hS,?_,HB.o.t (O.m f5)⟩;rw[<-i9.o,c6];exact rD qt f5
theorem uw{t:fA}{C:Nat×Nat}:∀(z:List Vq) (o:Nat) (w:Wq) (al:Array Vq),w.heap[b]?=aX (aP al t C)->o+aD z<=al.size->
  ∃ac:Array Vq,(w.setCells b o z).heap[b]?=aX (aP ac t C)/\ac.size=al.size/\(∀j,j<aD z->ac[o+j]?=z[j]?)/\∀j,(j<o\/o+aD z<=j)->ac[j]?=al[j]?
 |[],o,w,al,h,_=>⟨al,h,rfl,λj A=>by simp at A,λ_ _=>rfl⟩
 |v::z,o,w,al,h,hl=>by
  have E:=qw h o v;have⟨ac,k1,k2,k3,k4⟩:=uw z (o+1) (w.setCell (Ad b o) v) _ E (by simp at hl ⊢;lia);refine⟨ac,k1,by simpa using k2,λj A=>?_,λj A=>?_⟩;{grind};{grind}
theorem ur{w0:Wq}:∀(z:List Vq) (o:Nat) (w:Wq),fC w0 w (λk=>k=b)->fC w0 (w.setCells b o z) (λk=>k=b)
 |[],_,_,h=>h
 |v::z,o,w,h=>ur z (o+1) _ (h.i (Ad b o) v (λ_=>rfl))
def F3(w:Wq)(b o c:Nat)(C:∀j,j<4->(aE w (Ad b (o+j))).isSome=true)(E:∀j,j<4->aF w (Ad b (o+j))=false):(fB #[196] 0 #[aJ (aX ⟨b,o,aY⟩) 1 c]).run eD w=.ok (aN #[]) (w.setCells b o [Ii 0,Ii 0,St ⟨#[]⟩,Ii 0]):=by
 have z:=run_storeCells_cells (P:=eD) b o [Ii 0,Ii 0,St ⟨#[]⟩,Ii 0] 0 w (C) (E) (by
  intro v A;simp only[dA,cT,or_false] at A
  obtain rfl|rfl|rfl|rfl:=A<;>rfl)
 simp only[dB] at z;have G:(eF (aL #[Ii 0,Ii 0,St ⟨#[]⟩,Ii 0]).cells 1).toList=[Ii 0,Ii 0,St ⟨#[]⟩,Ii 0]:=by kernel_rfl
 simp[fB,run_underlying dV,Tryz.zeroValue71 w,G,z]
def Oe(g z b:Nat)(r:Rc)(l:List Rc)(w:Wq)(qt:aH w b 71 4 (Sc g (aD l+1) z) (aD l+1) ((r::l).flatMap Rc.c))(hl:aD l<=100000):Cs 216 #[Sc g (aD l+1) z,Ii 0,Ii 1] w λe w'=>e=aQ (Sc g (aD l) z)/\aH w' b 71 4 (Sc g (aD l) z) (aD l) (l.flatMap Rc.c)/\fC w w' (λk=>k=g):=by
 have⟨i0,hi,a7,ay,a8⟩:=dZ Tryz.c;obtain⟨ak,⟨hv,_⟩|⟨g',af,al,hv,gg,d9,h1,h2,h3,h4⟩⟩:=qt
 .cases hv
 cases hv;have eh:(aD l:Int)+1<=(z:Int):=by omega
 have O:=h1;have c6:=wh l;have Qi:∀(j:Nat)(u:Vq),((r::l).flatMap Rc.c)[j]?=aX u->al[j]?=aX u:=by grind
 have dw:∀(j:Nat) (u:Vq),(l.flatMap Rc.c)[j]?=aX u->al[4+j]?=aX u:=λj u A=>Qi (4+j) u (by rw[cO,List.getElem?_append_right (by rw[Rc.i];omega),Rc.i,Nat.add_sub_cancel_left];exact A);have fy:∀u∈l.flatMap Rc.c,u.oneCell'=true:=by intro u hu;have⟨x,_,hx⟩:=List.mem_flatMap.1 hu;simp only[Rc.c,dA,cT,or_false] at hx;obtain rfl|rfl|rfl|rfl:=hx<;>rfl
 have Qap:∀j,j<aD (l.flatMap Rc.c)->(aE w.drew (Ad g (0+0*4+j))).isSome=true/\aF w.drew (Ad g (0+0*4+j))=false:=by intro j A;have hd:w.drew.heap[g]?=cC al 71:=d9;refine⟨?_,by simp[aF,hd]⟩;simp only[aE,hd];have:j<al.size:=by{rw[h3];rw[c6] at A;have:=bE 4 O;omega};simp[this]
 have E:=aA c6;have G:=aA fy;have du:=aA Qap;have dp:Hid (∀ad:eO,(z=1/\ad=⟨g,0,aY⟩)\/(z≠1/\ad=⟨g,4,aY⟩)->∀(j:Nat)(u:Vq),(l.flatMap Rc.c)[j]?=aX u->aE w.drew (ad.add j)=aX u):=by rintro ad (⟨hc,rfl⟩|⟨hc,rfl⟩) j u A;{have:l=[]:=bL (by omega);rw[this] at A;simp at A};{have hd:w.drew.heap[g]?=cC al 71:=d9;have:=dw j u A;rw[show (⟨g,4,aY⟩:eO).add j=⟨g,4+j,aY⟩ by simp[Addr.add]];simp only[aE,hd];simpa using this}
 have Qjh:=aA d9;clear Qap fy Qi dw ak h4 c6 d9;by_cases fj:z=1
 .have g4:aD l=0:=by{omega};rw[g4] at eh O E hl h1 ⊢;subst fj;generalize hnw:l.flatMap Rc.c=aa at *;have j6:(0:Int)<=(1:Int):=by{omega};go_enter Tryz.func216,Tryz.ntmps216;go_wp2;go_region_law (refine eZ rfl (.tmp 22) (.tmp 25) 196 rfl 71 i0 4 dV hi ay g 0 0 1 (by simp[Act.eval,Act.put]) ⟨g,0,aY⟩ 0 0 aa (by simp[Act.eval,Act.put]) E.o (dp.o ⟨g,0,aY⟩ (aS ⟨by simp,rfl⟩)) G.o (by omega) du.o ?_);have⟨ac,k1,k2,k3,k4⟩:=uw (b:=g) aa 0 w.drew al Qjh.o (by rw[E.o,h3];have:=bE 4 O;omega);have bn:fC w (w.drew.setCells g 0 aa) (λk=>k=g):=ur aa 0 w.drew ⟨rfl,rfl,rfl,bT _,λ_ _ _=>rfl⟩;generalize hW2:w.drew.setCells g 0 aa=W2 at *;have M:=k2.t h3;have dl:∀j,j<4->∃u,aE W2 (Ad g (0+j))=aX u:=by{intro j A;have ai:0+j<ac.size:=by{rw[M];have:=bE 4 O;omega};refine⟨ac[0+j],?_⟩;simp only[aE,k1];simp};have Qn4:=F3 W2 g (0) 1 (λj A=>by have⟨u,hu⟩:=dl j A;rw[hu];rfl) (λj _=>by simp[aF,k1]);have⟨bh,m1,m2,m3,m4⟩:=uw (b:=g) [Ii 0,Ii 0,St ⟨#[]⟩,Ii 0] (0) W2 ac k1 (by rw[M];simp);have da:=ur [Ii 0,Ii 0,St ⟨#[]⟩,Ii 0] (0) W2 bn;generalize hW3:W2.setCells g (0) [Ii 0,Ii 0,St ⟨#[]⟩,Ii 0]=W3 at *;clear dl dp du G hW3 hW2;have fg:=aA m1;have en:=aA da;clear m1 da bn k1;go_wp2;go_ret;refine⟨rfl,⟨E.o,aU ⟨g,1,bh,rfl,gg,fg.o,by omega,h2,m2.t M,?_⟩⟩,en.o⟩;have i4:0<=bh.size:=by{rw[m2,M];have:=bE 4 O;omega};refine cS (λj=>?_);rw[cM];by_cases A:j<0;{rw[if_pos A];have e1:=m4 j (aS A);have e2:=k3 j (E.o▸A);rw[dE] at e2;rw[<-e2,<-e1];simp};{rw[if_neg A,cP (by rw[E.o];omega)]}
 generalize hln:aD l=C at *;generalize hnw:l.flatMap Rc.c=aa at *;have j4:(1:Int)<=(C:Int)+1:=by{omega};have j5:(1:Int)<=(z:Int):=by{omega};have j6:(0:Int)<=(z:Int):=by{omega};go_enter Tryz.func216,Tryz.ntmps216;go_wp2;go_region_law (refine eZ rfl (.tmp 22) (.tmp 25) 196 rfl 71 i0 4 dV hi ay g 0 0 z (by simp[Act.eval,Act.put]) ⟨g,4,aY⟩ C (z-1) aa (by simp[Act.eval,Act.put,fj]) E.o (dp.o ⟨g,4,aY⟩ (aU ⟨fj,rfl⟩)) G.o (by omega) du.o ?_);have⟨ac,k1,k2,k3,k4⟩:=uw (b:=g) aa 0 w.drew al Qjh.o (by rw[E.o,h3];have:=bE 4 O;omega);have bn:fC w (w.drew.setCells g 0 aa) (λk=>k=g):=ur aa 0 w.drew ⟨rfl,rfl,rfl,bT _,λ_ _ _=>rfl⟩;generalize hW2:w.drew.setCells g 0 aa=W2 at *;have M:=k2.t h3;have dl:∀j,j<4->∃u,aE W2 (Ad g (C*4+j))=aX u:=by intro j A;have ai:C*4+j<ac.size:=by{rw[M];have:=bE 4 O;omega};refine⟨ac[C*4+j],?_⟩;simp only[aE,k1];simp[ai]
 have Qn4:=F3 W2 g (C*4) (z-C) (λj A=>by have⟨u,hu⟩:=dl j A;rw[hu];rfl) (λj _=>by simp[aF,k1]);have⟨bh,m1,m2,m3,m4⟩:=uw (b:=g) [Ii 0,Ii 0,St ⟨#[]⟩,Ii 0] (C*4) W2 ac k1 (by rw[M];have:=bE 4 O;simp;omega);have da:=ur [Ii 0,Ii 0,St ⟨#[]⟩,Ii 0] (C*4) W2 bn;generalize hW3:W2.setCells g (C*4) [Ii 0,Ii 0,St ⟨#[]⟩,Ii 0]=W3 at *;clear dl dp du G hW3 hW2;have fg:=aA m1;have en:=aA da;clear m1 da bn k1;go_wp2;go_ret;refine⟨rfl,⟨E.o,aU ⟨g,z,bh,rfl,gg,fg.o,by omega,h2,m2.t M,?_⟩⟩,en.o⟩;have i4:C*4<=bh.size:=by{rw[m2,M];have:=bE 4 O;omega};refine cS (λj=>?_);rw[cM];by_cases A:j<C*4;{rw[if_pos A];have e1:=m4 j (aS A);have e2:=k3 j (E.o▸A);rw[dE] at e2;rw[<-e2,<-e1];simp};{rw[if_neg A,cP (by rw[E.o];omega)]}
