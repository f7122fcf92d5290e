/- A part -/
import Derived.Test.YtjajnhemgphefaaGreatDoorJMoF
set_option linter.all false
set_option maxRecDepth 100000
set_option maxHeartbeats 4000000
open List renaming length->aB,length_cons->aZ,eq_nil_of_length_eq_zero->bC,length_append->bD,cons_append->bE,nil_append->bF,append_toArray->bJ,mem_filterMap->bO,size_toArray->bQ,push_toArray->bT,length_nil->bU,map_append->bX,mem_append->bZ
open Go.World renaming cell?->aC,alloc->aS,size_alloc->aY
open Go.Value renaming slice->aH,agg->aJ,bool->aK
open Go.Obj renaming cells->aN
open Go.Ending renaming returned->aO
open Or renaming inl->aQ,inr->aR
open Option renaming some->aV,none->aW
open Go.RowKit.Below renaming heap_alloc->aX,refl->bB
open Array renaming replicate_succ->bG,replicate_zero->bH
open Nat renaming mul_le_mul_right->bI,le_trans->bL,reduceAdd->cA,reduceSub->cD,pow_succ->cE,mul_comm->cF,le_refl->cG,add_mul->cH,one_mul->cI
open Go renaming cell_later->cJ,results_none->cL,callsIn_of_wp_marks->cM,callsIn_wide->cO
namespace Go.Proofs.YtjajnhemgphefaaGreatDoor
open Go renaming World->Wq,Value->Vq
open Go.RowKit Go.Shelf Go.Maps
attribute [local go_sem] Oper.semAt_some
variable {m af ae:Nat} {L:List Am} {W:Wq}
theorem wk(B:Nat)(d:Vq)(put:dF)(w:Wq)(A:Option Addr)(E C:Nat)(z:d=aH A E C):Cs 231 #[.map (aV B),d,put.v] w λe w'=>e=aO (.func (.func 260) #[] #[Pt (w.heap.size+1),Pt (w.heap.size+2),Pt w.heap.size])/\
   w'=((w.alloc (aN #[.map (aV B)] 98)).alloc (aN #[d] 134)).alloc (aN put.c 176):=by
 subst z;unfold dF.v dF.c;go_enter Tryz.func231,Tryz.ntmps231;go_wp2;go_ret;exact⟨rfl,rfl⟩
def lE(M:Gd->Option Int):List Am->dF->dF->Prop
 |[],put,p=>p=put
 |a::L,put,p=>∃x y q,x.size<=maxLen/\y.size<=maxLen/\(M ⟨a.rel,x,y⟩).isSome=true/\Q6 put a x y=aV q/\lE M L q p
structure vM(L:List Am):Prop where
 args:∀a∈L,aB a.args<=2
 nums:∀a∈L,∀t∈a.args,t.num<6
 rels:∀a∈L,a.rel.size<=maxLen
structure pz(Bm Bs Bp B nn af ae:Nat)(M:Gd->Option Int)(L:List Am)(vs:Vq)(put:dF)(W:Wq):Prop where
 bm:W.heap[Bm]?=cC #[.map (aV B)] 98
 bs:W.heap[Bs]?=cC #[vs] 134
 bp:W.heap[Bp]?=aV (aN put.c 176)
 atoms:eW W af ae vs L
 md:eT W B nn M
theorem pz.mk'{A E C B G:Nat}{M:Gd->Option Int}{O:Vq}{put:dF}{W':Wq}(h:pz A E C B G af ae M L O put W)(d:qr m W W'):pz A E C B G af ae M L O put W':=
 ⟨d.cells _ _ _ (by unfold eF;decide) h.bm,d.cells _ _ _ (by unfold eF;decide) h.bs,d.cells _ _ _ (by unfold eF;decide) h.bp,h.atoms.kept (λk c _ z=>d.cells k c _ (by unfold eF;decide) z) (λk c _ z=>d.cells k c _ (by unfold eF;decide) z),h.md.mk d⟩
theorem qr.own{w0 V V':Wq}{row:Option Nat}(h:qr m w0 V)(C:V.grownBy V' row)(M:∀r,row=aV r->w0.heap.size<=r):qr m w0 V':=by
 have A:∀(k:Nat) (o:Obj),k<w0.heap.size->V.heap[k]?=aV o->V'.heap[k]?=aV o:=λk o d z=>(C.block k (zg z).1 (λe=>by have:=M k e.symm;omega)).trans z;refine⟨λk c t O d=>A k _ (zg d).1 (h.cells k c t O d),λk E c d=>A k _ (zg d).1 (h.maps k E c d),⟨bL h.from'.size C.size,λk o G d z=>A k o (zg d).1 (h.from'.same k o G d z)⟩⟩
def oD(g aa n tc:Nat):Vq:=aH (if tc=1 then aV ⟨g,aa,aW⟩ else aV ⟨g,aa+2,aW⟩) n (tc-1)
theorem eW.tail{g aa d:Nat}{a:Am}(h:eW W af ae (aH (aV ⟨g,aa,aW⟩) (aB (a::L)) d) (a::L)):eW W af ae (oD g aa (aB L) d) L:=by
 have⟨ps,ad,cap,e1,e2,⟨e3,e5⟩,e4⟩:=h;cases e2;have⟨g',bk,b0,k1,k2,k3,k4⟩:=e4 (by simp);cases k1
 cases ps with
 |nil=>simp at e1
 |cons p0 pt=>simp only[List.map_cons,List.cons.injEq] at e1;have⟨_,e1⟩:=e1;refine⟨pt,_,d-1,e1,rfl,⟨λp A=>e3 p (zt A),by simp at e5;omega⟩,λz=>?_⟩;have C:aB L≠0:=λe=>z (bC e);refine⟨g,aa+2,b0,by rw[if_neg (by simp at e5;omega)],k2,k3,?_⟩;have:=congrArg (List.drop 2) k4;rw[List.drop_take,List.drop_drop] at this;simp only[List.flatMap_cons,fF,bE,bF,List.drop_succ_cons,List.drop_zero] at this;rw[<-this];congr 1;simp;omega
theorem BU:∀(L:List Am) (n:Nat) (Bm Bs C B nn af ae:Nat) (M:Gd->Option Int) (vs:Vq) (put:dF) (w:Wq),pz Bm Bs C B nn af ae M L vs put w->vM L->aB L<=3->(∀k,(put.get k).size<=maxLen)->∀m:Nat,
  fW m n 260 #[Pt Bs,Pt C,Pt Bm] (λp:qO=>#[p.1.v]) (qr m)
   (λz=>(∀p,p∈z.map (·.1)↔lE M L put p)/\aB z<=nn ^ aB L) (λ_=>True) (nn ^ aB L) w
 |[],n,Bm,Bs,C,B,nn,af,ae,M,vs,put,w,hst,hbo,h3,qef,m=>by
  intro l J Jx W hW bv hJ ay hY h0;have ag:=hst.mk' (qr.ofBelow (m:=m) hW);have⟨ta,d,a6⟩:=ag.atoms.form;subst a6;have ab:∀O,Below W.heap.size W (W.alloc O):=λO=>(bB _ W).alloc zl O;have c1:∀O,aC (W.alloc O) (Ad Bs 0)=aV (aH ta 0 d):=λO=>cJ (ab O) (by have:=ag.bs;simp[aC,this]);have hp:=ag.bp;unfold dF.c at hp;have d0:∀O,aC (W.alloc O) (Ad C 0)=aV (St put.a0):=λO=>cJ (ab O) (by simp[aC,hp]);have d1:∀O,aC (W.alloc O) (Ad C 1)=aV (St put.a1):=λO=>cJ (ab O) (by simp[aC,hp]);have d2:∀O,aC (W.alloc O) (Ad C 2)=aV (St put.a2):=λO=>cJ (ab O) (by simp[aC,hp]);have d3:∀O,aC (W.alloc O) (Ad C 3)=aV (St put.a3):=λO=>cJ (ab O) (by simp[aC,hp]);have d4:∀O,aC (W.alloc O) (Ad C 4)=aV (St put.a4):=λO=>cJ (ab O) (by simp[aC,hp]);have d5:∀O,aC (W.alloc O) (Ad C 5)=aV (St put.a5):=λO=>cJ (ab O) (by simp[aC,hp]);have⟨fn,tmps,assign,body,hy,hR⟩:=hY [] ⟨put,qef⟩ (W.alloc (aN #[.func (.yield l) #[] #[]] 274)) (hJ _ _ _ aW h0 (qg (ab _)) (λr e=>by cases e)) (by simp);unfold dF.v dF.c at hy;clear ab;have HY:=aA hY;have HJ:=aA hJ;have H0:=aA h0;clear hst ag hY hJ ay h0 hp;refine cM Tryz.func260 rfl trivial ?_ rfl;simp only[Tryz.ntmps260,bQ,aZ,bU,cA,cD,bG,bH,bT,bJ,bF,bE]
  gi_wp2
  refine⟨λh=>(by cases h),hR.mono ?_⟩;rintro e W1 (⟨rfl,co,c7⟩|⟨rfl,bb,_⟩)
  .clear hy hR
   gi_wp2
   refine⟨_,cL rfl _ _ _,⟨_,rfl⟩,aQ ⟨[⟨put,qef⟩],⟨λp=>by show p∈[put]↔_;simp[lE],cG 1⟩,co⟩⟩
  .clear hy hR
   gi_wp2
   refine⟨_,cL rfl _ _ _,⟨_,rfl⟩,aR ⟨_,trivial,bb⟩⟩
 |a::L,n0,Bm,Bs,C,B,nn,af,ae,M,vs,put,w,hst,hbo,h3,qef,m=>by
  obtain⟨n,hn⟩:∃n,12<=n:=⟨12,cG _⟩;refine fW.any (n:=n) ?_ n0;have n1:1<=n:=by{omega};have n2:1<=n-1:=by{omega};have n3:1<=n-1-1:=by{omega};have n4:1<=n-1-1-1:=by{omega};have n5:1<=n-1-1-1-1:=by{omega};intro l J Jx W hW bv hJ ay hY h0;have ag:=hst.mk' (qr.ofBelow (m:=m) hW);clear hst hW;have⟨ta,d,a6⟩:=ag.atoms.form;subst a6;have⟨g,aa,c',va,ct,x0,x1,ap,Z⟩:=wJ ag.atoms (k:=0) (by simp);cases ct;have⟨fa,fc,av⟩:=ap.form;simp only[List.getElem_cons_zero,Nat.zero_mul,Nat.add_zero] at x0 x1 ap av;rw[av] at x1;rw[av] at ap;have ab:∀O,Below W.heap.size W (W.alloc O):=λO=>(bB _ W).alloc zl O;have c1:∀O,aC (W.alloc O) (Ad Bs 0)=aV (aH (aV ⟨g,aa,aW⟩) (aB (a::L)) d):=λO=>cJ (ab O) (by have:=ag.bs;simp[aC,this]);have c2:∀O,aC (W.alloc O) (Ad Bm 0)=aV (.map (aV B)):=λO=>cJ (ab O) (by have:=ag.bm;simp[aC,this]);have y0:∀O,aC (W.alloc O) (Ad g aa)=aV (St a.rel):=λO=>cJ (ab O) x0;have y1:∀O,aC (W.alloc O) (Ad g (aa+1))=aV (aH fa (aB a.args) fc):=λO=>cJ (ab O) x1;have hp:=ag.bp;unfold dF.c at hp;have d0:∀O,aC (W.alloc O) (Ad C 0)=aV (St put.a0):=λO=>cJ (ab O) (by simp[aC,hp]);have d1:∀O,aC (W.alloc O) (Ad C 1)=aV (St put.a1):=λO=>cJ (ab O) (by simp[aC,hp]);have d2:∀O,aC (W.alloc O) (Ad C 2)=aV (St put.a2):=λO=>cJ (ab O) (by simp[aC,hp]);have d3:∀O,aC (W.alloc O) (Ad C 3)=aV (St put.a3):=λO=>cJ (ab O) (by simp[aC,hp]);have d4:∀O,aC (W.alloc O) (Ad C 4)=aV (St put.a4):=λO=>cJ (ab O) (by simp[aC,hp]);have d5:∀O,aC (W.alloc O) (Ad C 5)=aV (St put.a5):=λO=>cJ (ab O) (by simp[aC,hp]);have bc:=λW=>xw B a (aH fa (aB a.args) fc) put W fa (aB a.args) fc rfl;unfold dF.v dF.c at bc;have cj:=aA bc;have HY:=aA hY;have HJ:=aA hJ;have HJx:=aA ay;have H0:=aA h0;have cu:=aA ag;have b3:=aA ap;clear ag hY hJ ay h0 hp ab bc ap av x0 x1;have bu:(aB (a::L):Int)=(aB L:Int)+1:=by{simp};have c4:aB L<=2:=by{simpa using h3};refine cM Tryz.func260 rfl trivial ?_ rfl;simp only[Tryz.ntmps260,bQ,aZ,bU,cA,cD,bG,bH,bT,bJ,bF,bE]
  gi_wp2
  refine wpIn_mono (Q:=λe a' w'=>e=Exit.normal/\a'={tmps:=#[.func (.yield l) #[] #[],Pt Bs,Pt C,Pt Bm,Pt W.heap.size,undef,undef,aH (aV ⟨g,aa,aW⟩) (aB L+1) d,Ii (aB L+1),aK false,undef,undef,undef,.map (aV B),aH (aV ⟨g,aa,aW⟩) (aB L+1) d,.pointer (aV ⟨g,aa,aW⟩),aJ #[St a.rel,aH fa (aB a.args) fc],aJ #[St put.a0,St put.a1,St put.a2,St put.a3,St put.a4,St put.a5],.func (.func 156) #[] #[Pt (W.heap.size+1),Pt (W.heap.size+1+1),Pt (W.heap.size+1+2)],undef,undef,undef,undef,undef,undef,undef,undef,undef,undef,undef],defers:=[]}/\w'=((((W.alloc (aN #[.func (.yield l) #[] #[]] 274)).alloc (aN #[.map (aV B)] 98)).alloc (aN #[St a.rel,aH fa (aB a.args) fc] 92)).alloc (aN #[St put.a0,St put.a1,St put.a2,St put.a3,St put.a4,St put.a5] 176)).drew) ?reg ?rest
  case reg=>
   first|(gi_region_with (refine⟨trivial,?_⟩;(try refine⟨λh=>(by cases h),?_⟩);refine (cO.2 (cj.o _)).mono ?_;rintro e w' ⟨rfl,rfl⟩))|fail
   all_goals exact⟨rfl,rfl,rfl⟩
  case rest=>
   rintro e a' w' ⟨rfl,rfl,rfl⟩
   gi_wp2
   obtain⟨NB,ao⟩:∃NB,W.heap.size=NB:=⟨_,rfl⟩;obtain⟨W0,ak⟩:∃W0,((((W.alloc (aN #[.func (.yield l) #[] #[]] 274)).alloc (aN #[.map (aV B)] 98)).alloc (aN #[St a.rel,aH fa (aB a.args) fc] 92)).alloc (aN #[St put.a0,St put.a1,St put.a2,St put.a3,St put.a4,St put.a5] 176)).drew=W0:=⟨_,rfl⟩;have aw:Below W.heap.size W W0:=by{rw[<-ak];exact (((((bB _ W).alloc zl _).alloc (by simp) _).alloc (by simp;omega) _).alloc (by simp;omega) _).drew};have b8:W0.heap.size=NB+4:=by{rw[<-ak,<-ao];show (aS _ _).heap.size=_;simp};have bY:W0.heap[NB]?=cC #[.func (.yield l) #[] #[]] 274:=by{rw[<-ak,<-ao];exact (aX _ _ _ (by simp;omega)).trans ((aX _ _ _ (by simp;omega)).trans ((aX _ _ _ (by simp)).trans (zn W _)))};have bM:W0.heap[NB+1]?=cC #[.map (aV B)] 98:=by{rw[<-ak,<-ao];refine (aX _ _ _ (by simp)).trans ((aX _ _ _ (by simp)).trans ?_);have:=zn (W.alloc (aN #[.func (.yield l) #[] #[]] 274)) (aN #[.map (aV B)] 98);rw[aY] at this;exact this};have bA:W0.heap[NB+1+1]?=cC #[St a.rel,aH fa (aB a.args) fc] 92:=by{rw[<-ak,<-ao];refine (aX _ _ _ (by simp)).trans ?_;have:=zn ((W.alloc (aN #[.func (.yield l) #[] #[]] 274)).alloc (aN #[.map (aV B)] 98)) (aN #[St a.rel,aH fa (aB a.args) fc] 92);rw[aY,aY] at this;exact this};have bP:W0.heap[NB+1+2]?=aV (aN put.c 176):=by{rw[<-ak,<-ao];have:=zn (((W.alloc (aN #[.func (.yield l) #[] #[]] 274)).alloc (aN #[.map (aV B)] 98)).alloc (aN #[St a.rel,aH fa (aB a.args) fc] 92)) (aN #[St put.a0,St put.a1,St put.a2,St put.a3,St put.a4,St put.a5] 176);rw[aY,aY,aY] at this;exact this};have bf:=(cu.o).mk' (qr.ofBelow (m:=m) aw);have b4:J [] W0:=HJ.o _ _ _ aW H0.o (qg aw) (λr e=>by cases e);have Qjy:Qh W0 ae (aH fa (aB a.args) fc) a.args:=Qh.mk b3.o (qr.ofBelow (m:=m) aw);have ca:m<=W0.heap.size:=by{have:=aw.size;omega};simp only[ao];rw[ak];clear ak
   refine nz (n:=n) (gf:=156) (lb:=#[Pt (NB+1),Pt (NB+1+1),Pt (NB+1+2)]) rfl (enters_of Tryz.func156 (by kernel_rfl) rfl)
    (DF (n-1) (NB+1) (NB+1+1) (NB+1+2) B nn ae M a (aH fa (aB a.args) fc) put W0 bM bA bP bf.md Qjy (hbo.args a (by simp)) (hbo.nums a (by simp)) (hbo.rels a (by simp)) qef (W0.heap.size+2)) qr.tr (λV rc o' ho=>qr.put V _ _ o' (by omega) ho rfl (λ_ _ h=>by cases h)) (λ_=>rfl)
    (λpre V=>∃z:List qO,J z V/\(∀p,p∈z.map (·.1)↔∃q∈pre.map (·.1),lE M L q p)/\aB z<=aB pre*nn ^ aB L/\qr m W0 V)
    (λc pre V=>c=.ret/\∃z,Jx z V)
    ?hI ?hIx ⟨[],b4,by simp,by simp,qr.ofBelow zr⟩
    (λx a' V=>∃Bx,V.heap[Bx]?=aV (aN x.1.c 176)/\a'={tmps:=#[.func (.yield l) #[] #[],Pt Bs,Pt C,Pt Bm,Pt NB,Pt Bx,undef,aH (aV ⟨g,aa,aW⟩) (aB L+1) d,Ii (aB L+1),aK false,undef,undef,undef,.map (aV B),aH (aV ⟨g,aa,aW⟩) (aB L+1) d,.pointer (aV ⟨g,aa,aW⟩),aJ #[St a.rel,aH fa (aB a.args) fc],aJ #[St put.a0,St put.a1,St put.a2,St put.a3,St put.a4,St put.a5],.func (.func 156) #[] #[Pt (NB+1),Pt (NB+1+1),Pt (NB+1+2)],aJ #[St x.1.a0,St x.1.a1,St x.1.a2,St x.1.a3,St x.1.a4,St x.1.a5],undef,undef,undef,undef,undef,undef,undef,undef,undef,undef],defers:=[]})
    ?hAx ?assign ?body ?done ?stop
   case hI=>rintro pre V V' row ⟨z,h1,h2,h3,h4⟩ Z E;exact⟨z,HJ.o _ _ _ row h1 Z (λr e=>⟨by have:=(E r e).1;omega,(E r e).2⟩),h2,h3,h4.own Z (λr e=>(E r e).1)⟩
   case hIx=>rintro c pre V V' row ⟨rfl,z,h1⟩ Z E;exact⟨rfl,z,HJx.o _ _ _ row h1 Z (λr e=>⟨by have:=(E r e).1;omega,(E r e).2⟩)⟩
   case hAx=>rintro x a' _ V V' row ⟨Bx,h2,h3⟩ Z E;exact⟨Bx,qm Z (λr e=>(E r e).2) _ _ _ _ h2,h3⟩
   case assign=>
    rintro l' pre x V K hl cw ⟨z,h1,h2,h3,h4⟩ hK;have HK:=aA hK;clear hK;unfold dF.v dF.c
    gi_wp2
    have ah:Below V.heap.size V (V.alloc (aN #[St x.1.a0,St x.1.a1,St x.1.a2,St x.1.a3,St x.1.a4,St x.1.a5] 176)):=(bB _ V).alloc zl _;exact HK.o _ _ (KeepsFrom.ofBelow ah) (qr.ofBelow ah) ⟨z,HJ.o _ _ _ aW h1 (qg ah) (λr e=>by cases e),h2,h3,h4.tr (qr.ofBelow ah)⟩ ⟨V.heap.size,zn V _,rfl⟩
   case done=>
    rintro D xs V hD ⟨ks,k1,k2,k3,k4⟩ ⟨z,h1,h2,h3,h4⟩ hK
    have Qf:Hid ((∀p,p∈z.map (·.1)↔lE M (a::L) put p)/\aB z<=nn ^ aB (a::L)):=by
     refine⟨λp=>?_,?_⟩
     .rw[h2,k4];constructor;{rintro⟨q,hq,hj⟩;have⟨⟨x,y⟩,cb,hm⟩:=bO.1 hq;have⟨z1,z2,z3⟩:=(k2 x y).1 cb;exact⟨x,y,q,z1,z2,z3,hm,hj⟩};{rintro⟨x,y,q,z1,z2,z3,hm,hj⟩;exact⟨q,bO.2 ⟨(x,y),(k2 x y).2 ⟨z1,z2,z3⟩,hm⟩,hj⟩}
     .have e1:aB xs<=nn:=by
       have:=yV (put:=put) (a:=a) (ks:=ks);have e2:aB xs=aB (ks.filterMap (λk=>Q6 put a k.1 k.2)):=by{rw[<-k4];simp};omega
      refine bL h3 (bL (bI _ e1) (Nat.le_of_eq ?_));rw[aZ,cE,cF]
    gi_wp2
    refine⟨by simp,aQ ⟨_,_,rfl,run_takeDeferred hK,?_⟩⟩;refine⟨_,cL rfl _ _ _,⟨_,rfl⟩,aQ ⟨z,⟨λp=>by simpa using Qf.o.1 p,by simpa using Qf.o.2⟩,?_⟩⟩;exact HJ.o _ _ _ (aV D) h1 (grownBy_putObj' V D (.deferred aW)) (λr e=>by cases e;exact⟨by omega,_,hK,rfl⟩)
   case stop=>
    rintro D c pre V hD _ ⟨rfl,z,h1⟩ hK
    gi_wp2
    refine⟨by simp,aQ ⟨_,_,rfl,run_takeDeferred hK,?_⟩⟩;refine⟨_,cL rfl _ _ _,⟨_,rfl⟩,aR ⟨z,trivial,?_⟩⟩;exact HJx.o _ _ _ (aV D) h1 (grownBy_putObj' V D (.deferred aW)) (λr e=>by cases e;exact⟨by omega,_,hK,rfl⟩)
   case body=>
    rintro l' pre x a' V db ⟨rc,cf⟩ ⟨z,h1,h2,h3,h4⟩ ⟨Bx,b9,rfl⟩ b7;have an:=bf.mk' h4;have cv:=h4.cells _ _ _ (by unfold eF;decide) bY;have c3:aB L+1<=d:=by{have⟨_,c,e,hc⟩:=an.atoms.form2;cases e;simpa using hc};have z1:aC V (Ad Bm 0)=aV (.map (aV B)):=by{have:=an.bm;simp[aC,this]};have z2:aC V (Ad Bs 0)=aV (aH (aV ⟨g,aa,aW⟩) (aB L+1) d):=by{have:=an.bs;simp[aC,this]};have a9:=b9;unfold dF.c at a9;have q0:∀j,aC V (Ad Bx j)=([St x.1.a0,St x.1.a1,St x.1.a2,St x.1.a3,St x.1.a4,St x.1.a5]:List Vq)[j]?:=λj=>by{simp[aC,a9]};have a8:=λW=>wk B (oD g aa (aB L) d) x.1 W _ _ _ rfl;have bh:eW V af ae (oD g aa (aB L) d) L:=eW.tail an.atoms;unfold dF.v dF.c oD at a8;have cx:=aA a8;have i1:(1:Int)<=(aB L:Int)+1:=by{omega};have i3:(aB L:Int)+1<=(d:Int):=by{omega};have ck:=aA an;have cn:=aA bh;clear a8 a9 an bh
    obtain⟨tb,al⟩:∃tb,oD g aa (aB L) d=aH (aV tb) (aB L) (d-1):=by
     unfold oD;by_cases aj:d=1;{exact⟨⟨g,aa,aW⟩,by rw[if_pos aj]⟩};{exact⟨⟨g,aa+2,aW⟩,by rw[if_neg aj]⟩}
    have b6:=aA al
    have Qhk:Hid (∀W,Cs 231 #[.map (aV B),aH (aV tb) (aB L) (d-1),aJ #[St x.1.a0,St x.1.a1,St x.1.a2,St x.1.a3,St x.1.a4,St x.1.a5]] W λe w'=>e=aO (.func (.func 260) #[] #[Pt (W.heap.size+1),Pt (W.heap.size+2),Pt W.heap.size])/\
      w'=((W.alloc (aN #[.map (aV B)] 98)).alloc (aN #[aH (aV tb) (aB L) (d-1)] 134)).alloc (aN #[St x.1.a0,St x.1.a1,St x.1.a2,St x.1.a3,St x.1.a4,St x.1.a5] 176)):=λW=>wk B _ x.1 W _ _ _ rfl
    have cr:Hid ((d=1/\tb=⟨g,aa,aW⟩)\/(d≠1/\tb=⟨g,aa+2,aW⟩)):=by
     show _\/_;unfold oD at al;by_cases aj:d=1;{rw[if_pos aj] at al;injection al with h;cases h;exact aQ ⟨aj,rfl⟩};{rw[if_neg aj] at al;injection al with h;cases h;exact aR ⟨aj,rfl⟩}
    have bi:V.heap[l']?=aV (.loop rc):=cf;clear al
    gi_wp2
    refine wpIn_mono (Q:=λe a' w'=>e=Exit.normal/\a'={tmps:=#[.func (.yield l) #[] #[],Pt Bs,Pt C,Pt Bm,Pt NB,Pt Bx,undef,aH (aV ⟨g,aa,aW⟩) (aB L+1) d,Ii (aB L+1),aK false,undef,undef,undef,.map (aV B),aH (aV ⟨g,aa,aW⟩) (aB L+1) d,.pointer (aV ⟨g,aa,aW⟩),aJ #[St a.rel,aH fa (aB a.args) fc],aJ #[St put.a0,St put.a1,St put.a2,St put.a3,St put.a4,St put.a5],.func (.func 156) #[] #[Pt (NB+1),Pt (NB+1+1),Pt (NB+1+2)],aJ #[St x.1.a0,St x.1.a1,St x.1.a2,St x.1.a3,St x.1.a4,St x.1.a5],.map (aV B),aH (aV ⟨g,aa,aW⟩) (aB L+1) d,aH (aV tb) (aB L) (d-1),aJ #[St x.1.a0,St x.1.a1,St x.1.a2,St x.1.a3,St x.1.a4,St x.1.a5],.func (.func 260) #[] #[Pt (V.heap.size+1),Pt (V.heap.size+2),Pt V.heap.size],undef,undef,undef,undef,undef],defers:=[]}/\w'=(((V.alloc (aN #[.map (aV B)] 98)).alloc (aN #[aH (aV tb) (aB L) (d-1)] 134)).alloc (aN #[St x.1.a0,St x.1.a1,St x.1.a2,St x.1.a3,St x.1.a4,St x.1.a5] 176)).drew) ?reg ?rest
    case reg=>
     rcases cr.o with⟨rfl,rfl⟩|⟨aj,rfl⟩
     .obtain rfl:L=[]:=bC (by omega)
      first|(gi_region_with (refine⟨trivial,?_⟩;(try refine⟨λh=>(by cases h),?_⟩);refine (CallsIn.inRound l' (cO.2 (Qhk.o _))).mono ?_;rintro e w' ⟨rfl,rfl⟩))|fail
      all_goals exact⟨rfl,rfl,rfl⟩
     .first|(gi_region_with (refine⟨trivial,?_⟩;(try refine⟨λh=>(by cases h),?_⟩);refine (CallsIn.inRound l' (cO.2 (Qhk.o _))).mono ?_;rintro e w' ⟨rfl,rfl⟩))|fail
      all_goals exact⟨rfl,rfl,rfl⟩
    case rest=>
     rintro e a' w' ⟨rfl,rfl,rfl⟩
     gi_wp2
     obtain⟨G,aq⟩:∃G,V.heap.size=G:=⟨_,rfl⟩;obtain⟨W5,am⟩:∃W5,(((V.alloc (aN #[.map (aV B)] 98)).alloc (aN #[aH (aV tb) (aB L) (d-1)] 134)).alloc (aN #[St x.1.a0,St x.1.a1,St x.1.a2,St x.1.a3,St x.1.a4,St x.1.a5] 176)).drew=W5:=⟨_,rfl⟩;have ax:Below V.heap.size V W5:=by{rw[<-am];exact ((((bB _ V).alloc zl _).alloc (by simp) _).alloc (by simp;omega) _).drew};have c0:W5.heap.size=G+3:=by{rw[<-am,<-aq];show (aS _ _).heap.size=_;simp};have eM:W5.heap[G]?=cC #[.map (aV B)] 98:=by{rw[<-am,<-aq];exact (aX _ _ _ (by simp;omega)).trans ((aX _ _ _ (by simp)).trans (zn V _))};have eS:W5.heap[G+1]?=cC #[aH (aV tb) (aB L) (d-1)] 134:=by{rw[<-am,<-aq];refine (aX _ _ _ (by simp)).trans ?_;have:=zn (V.alloc (aN #[.map (aV B)] 98)) (aN #[aH (aV tb) (aB L) (d-1)] 134);rw[aY] at this;exact this};have eP:W5.heap[G+2]?=aV (aN x.1.c 176):=by{rw[<-am,<-aq];have:=zn ((V.alloc (aN #[.map (aV B)] 98)).alloc (aN #[aH (aV tb) (aB L) (d-1)] 134)) (aN #[St x.1.a0,St x.1.a1,St x.1.a2,St x.1.a3,St x.1.a4,St x.1.a5] 176);rw[aY,aY] at this;exact this};have au:∀m',qr m' V W5:=λm'=>qr.ofBelow ax;have ce:eW W5 af ae (aH (aV tb) (aB L) (d-1)) L:=by{rw[<-b6.o];exact eW.kept cn.o (λk c _ hc=>(au 0).cells k c _ (by unfold eF;decide) hc) (λk c _ hc=>(au 0).cells k c _ (by unfold eF;decide) hc)};have cd:pz G (G+1) (G+2) B nn af ae M L (aH (aV tb) (aB L) (d-1)) x.1 W5:=⟨eM,eS,eP,ce,(ck.o).md.mk (au 0)⟩;have c9:W0.heap.size<=V.heap.size:=h4.from'.size;have cq:W5.heap[l']?=aV (.loop rc):=(ax.block l' (zg bi).1).trans bi;have cp:J (z++[]) W5:=by{rw[List.append_nil];exact HJ.o _ _ _ aW h1 (qg ax) (λr e=>by cases e)};have ih:=BU L (n-1-1-1) G (G+1) (G+2) B nn af ae M (aH (aV tb) (aB L) (d-1)) x.1 W5 cd ⟨λb hb=>hbo.args b (by simp[hb]),λb hb=>hbo.nums b (by simp[hb]),λb hb=>hbo.rels b (by simp[hb])⟩ (by omega) x.2 (W5.heap.size+1);simp only[aq];rw[am];clear am
     refine JK (n:=n-1-1) (gf:=260) (lb:=#[Pt (G+1),Pt (G+2),Pt G]) cq rfl (enters_of Tryz.func260 (by kernel_rfl) rfl)
      ih qr.tr (λV' da o' ho=>qr.put V' _ _ o' (by omega) ho rfl (λ_ _ h=>by cases h)) (λ_=>rfl)
      (λac V2=>J (z++ac) V2/\qr m W0 V2/\KeepsFrom W0.heap.size V V2/\qr (W0.heap.size+2) V V2)
      (λc ac V2=>c=.ret/\(∃zs,Jx zs V2)/\KeepsFrom W0.heap.size V V2)
      ?hI2 ?hIx2 ⟨cp,h4.tr (au m),KeepsFrom.ofBelow ax,au _⟩
      (λA a' V2=>∃By,V2.heap[By]?=aV (aN A.1.c 176)/\a'={tmps:=#[.func (.yield l) #[] #[],Pt Bs,Pt C,Pt Bm,Pt NB,Pt Bx,Pt By,aH (aV ⟨g,aa,aW⟩) (aB L+1) d,Ii (aB L+1),aK false,undef,undef,undef,.map (aV B),aH (aV ⟨g,aa,aW⟩) (aB L+1) d,.pointer (aV ⟨g,aa,aW⟩),aJ #[St a.rel,aH fa (aB a.args) fc],aJ #[St put.a0,St put.a1,St put.a2,St put.a3,St put.a4,St put.a5],.func (.func 156) #[] #[Pt (NB+1),Pt (NB+1+1),Pt (NB+1+2)],aJ #[St x.1.a0,St x.1.a1,St x.1.a2,St x.1.a3,St x.1.a4,St x.1.a5],.map (aV B),aH (aV ⟨g,aa,aW⟩) (aB L+1) d,aH (aV tb) (aB L) (d-1),aJ #[St x.1.a0,St x.1.a1,St x.1.a2,St x.1.a3,St x.1.a4,St x.1.a5],.func (.func 260) #[] #[Pt (G+1),Pt (G+2),Pt G],aJ #[St A.1.a0,St A.1.a1,St A.1.a2,St A.1.a3,St A.1.a4,St A.1.a5],undef,undef,undef,undef],defers:=[]})
      ?hAx2 ?assign2 ?body2 ?done2 ?stop2
     case hI2=>rintro ac X X' row ⟨j1,j2,j3,j4⟩ Z E;exact⟨HJ.o _ _ _ row j1 Z (λr e=>⟨by have:=(E r e).1;omega,(E r e).2⟩),j2.own Z (λr e=>by have:=(E r e).1;omega),ownFrom_keepsFrom (β:=Unit) (B':=W5.heap.size) (by omega) () X X' row j3 Z E,j4.own Z (λr e=>by have:=(E r e).1;omega)⟩
     case hIx2=>rintro c ac X X' row ⟨rfl,⟨zs,j1⟩,j3⟩ Z E;exact⟨rfl,⟨zs,HJx.o _ _ _ row j1 Z (λr e=>⟨by have:=(E r e).1;omega,(E r e).2⟩)⟩,ownFrom_keepsFrom (β:=Unit) (B':=W5.heap.size) (by omega) () X X' row j3 Z E⟩
     case hAx2=>rintro A a' _ X X' row ⟨By,k2,k3⟩ Z E;exact⟨By,qm Z (λr e=>(E r e).2) _ _ _ _ k2,k3⟩
     case assign2=>
      rintro l2 ac A X K ch bn ⟨j1,j2,j3,j4⟩ hK;have HK:=aA hK;clear hK;unfold dF.v dF.c
      gi_wp2
      have ah:Below X.heap.size X (X.alloc (aN #[St A.1.a0,St A.1.a1,St A.1.a2,St A.1.a3,St A.1.a4,St A.1.a5] 176)):=(bB _ X).alloc zl _;exact HK.o _ _ (KeepsFrom.ofBelow ah) (qr.ofBelow ah) ⟨HJ.o _ _ _ aW j1 (qg ah) (λr e=>by cases e),j2.tr (qr.ofBelow ah),KeepsFrom.tr j3 (KeepsFrom.ofBelow ah),j4.tr (qr.ofBelow ah)⟩ ⟨X.heap.size,zn X _,rfl⟩
     case done2=>
      rintro xs X ⟨s1,s2⟩ ⟨j1,j2,j3,j4⟩
      have be:Hid ((∀p,p∈(z++xs).map (·.1)↔∃q∈(pre++[x]).map (·.1),lE M L q p)/\aB (z++xs)<=aB (pre++[x])*nn ^ aB L):=by
       refine⟨λp=>?_,?_⟩
       .rw[bX,bZ,h2,s1,bX];constructor
        .rintro (⟨q,hq,hj⟩|hj);{exact⟨q,List.mem_append_left _ hq,hj⟩};{exact⟨x.1,List.mem_append_right _ (by show x.1∈[x.1];simp),hj⟩}
        .rintro⟨q,hq,hj⟩;rcases bZ.1 hq with hq|hq
         .exact aQ ⟨q,hq,hj⟩
         .have:q=x.1:=by{have cl:q∈[x.1]:=hq;simpa using cl};subst this;exact aR hj
       .rw[bD,bD];show aB z+aB xs<=(aB pre+1)*nn ^ aB L;rw[cH,cI];omega
      clear b8 h2 h3
      gi_wp2
      exact⟨j3,j4,z++xs,j1,λp=>by simpa only[List.mem_map] using be.o.1 p,by simpa using be.o.2,j2⟩
     case stop2=>
      rintro c ac X _ ⟨rfl,hx,j3⟩
      gi_wp2
      exact⟨j3,rfl,hx⟩
     case body2=>
      rintro l2 ac A a' X ch ⟨cz,bq⟩ ⟨j1,j2,j3,j4⟩ ⟨By,cc,rfl⟩ c5;have b5:aB (z++ac)<nn ^ aB (a::L):=by{rw[bD,aZ,cE,cF];have e1:aB pre+1<=nn:=b7;have e2:=bI (nn ^ aB L) e1;rw[cH,cI] at e2;omega};have⟨fn,tmps,assign,body,hy,hR⟩:=HY.o (z++ac) A X j1 b5;unfold dF.v dF.c at hy;have bd:=j2.cells _ _ _ (by unfold eF;decide) bY;have cy:aC X (Ad NB 0)=aV (.func (.yield l) #[] #[]):=zc bd;have az:=cc;unfold dF.c at az;have r0:∀j,aC X (Ad By j)=([St A.1.a0,St A.1.a1,St A.1.a2,St A.1.a3,St A.1.a4,St A.1.a5]:List Vq)[j]?:=λj=>by{simp[aC,az]};have c6:m<=W0.heap.size:=ca;have c8:=aA h2;clear az bd h2 h3
      gi_wp2
      refine (qK hR).mono ?_;rintro e X' (⟨rfl,cg,ai⟩|⟨rfl,a7,ai⟩)
      .clear hy hR
       gi_wp2
       exact⟨KeepsFrom.up ai.from' (by omega),ai.up (by omega),by rw[<-List.append_assoc];exact cg,j2.tr ai,KeepsFrom.tr j3 (KeepsFrom.up ai.from' (by omega)),j4.tr (ai.up (by omega))⟩
      .clear hy hR
       gi_wp2
       exact⟨KeepsFrom.up ai (by omega),rfl,⟨_,a7⟩,KeepsFrom.tr j3 (KeepsFrom.up ai (by omega))⟩
