/- A part -/
import Derived.Test.YtjajnhemgphefaaGreatDoorJMoG
import Derived.Shelf.Slices.In.SortNone
set_option linter.all false
set_option maxRecDepth 100000
set_option maxHeartbeats 4000000
open List renaming length->aB,append_toArray->bE,size_toArray->bG,push_toArray->bH,length_cons->bI,cons_append->bJ,length_nil->bL,nil_append->bO,map_append->bQ
open Go.World renaming cell?->aC,frozen?->aD,ownsRow->aE,size_alloc->aX
open Go.Value renaming ownBlock->aF,slice->aH,string->aI,agg->aJ,bool->aK,tuple->aL,oneCell'->bF
open Go.Obj renaming cells->aN
open Go.Ending renaming returned->aO
open Or renaming inl->aQ,inr->aR
open Option renaming some->aV,none->aW
open Go.RowKit.Below renaming refl->aY,heap_alloc->aZ,trans->bZ,drew->cA
open Nat renaming le_trans->bB,reduceAdd->bT,reduceSub->bU,le_refl->bX
open Array renaming replicate_succ->bC,replicate_zero->bD
open Go.AllReadyIn renaming cons->cD,nil->cE
open Go renaming wpAnyIn_ready->cF,callsIn_wide->cI,callsIn_of_wp_marks->cM,cell_later->cP,cell_one_new->cQ,results_none->cR,run_takeDeferred->cS,wpAnyIn_done->cT,grownBy_putObj'->cW,KeepsFrom->cZ,Boxed->dB
open Go.RowKit renaming Below->cG
open Go.BigFrame renaming allReadyIn_want->cH
open Go.Proofs.Tryz renaming underlying22->cJ
open Go.CallsIn renaming inRound->cL
open Go.Sort renaming putRow->cO,ahead->cX,grow->dA
open Go.Oper renaming semAt_some->cU
namespace Go.Proofs.YtjajnhemgphefaaGreatDoor
open Go renaming World->Wq,Value->Vq
open Go.RowKit Go.Shelf Go.Maps
attribute [local go_sem] cU
variable {p:dF} {a:Am}
theorem yB(B:Nat)(a:Am)(d:Vq)(w:Wq)(A:Option Addr)(E C:Nat)(z:d=aH A E C):Cs 51 #[.map (aV B),aJ #[St a.rel,d]] w λe w'=>e=aO (.func (.func 93) #[] #[Pt w.heap.size,Pt (w.heap.size+1)])/\
   w'=(w.alloc (aN #[.map (aV B)] 98)).alloc (aN #[St a.rel,d] 92):=by
 subst z;go_enter Tryz.func51,Tryz.ntmps51;go_wp2;go_ret;exact⟨rfl,rfl⟩
def tL:={g:Gd // jl g}
def oA(g:Gd)(h:jl g):tL:=⟨g,h⟩
theorem F1(C:∀k,(p.get k).size<=maxLen)(z:a.rel.size<=maxLen)(E:∀t∈a.args,t.name.size<=maxLen):jl (qb p a):=by
 have A:∀t∈a.args,(dI p t).size<=maxLen:=by grind [dI]
 have d:(⟨#[]⟩:ByteArray).size<=maxLen:=by show 0<=maxLen;exact zz
 refine⟨z,?_,?_⟩
 .show (fM p a.args).size<=maxLen;unfold fM;split;{exact d};{grind}
 .show (fK p a.args).size<=maxLen;unfold fK;split;{grind};{exact d}
structure pK(g:Gd):Prop where
 rel:g.rel.size<=2000
 x:g.x.size<=2000
 y:g.y.size<=2000
theorem pK.ok{g:Gd}(h:pK g):jl g:=⟨bB h.rel (by unfold maxLen;decide),bB h.x (by unfold maxLen;decide),bB h.y (by unfold maxLen;decide)⟩
def lU:={g:Gd // pK g}
def I6(g:Gd)(h:pK g):lU:=⟨g,h⟩
theorem G4(C:∀k,(p.get k).size<=2000)(z:a.rel.size<=2000)(E:∀t∈a.args,t.name.size<=2000):pK (qb p a):=by
 have A:∀t∈a.args,(dI p t).size<=2000:=by grind [dI]
 have d:(⟨#[]⟩:ByteArray).size<=2000:=by show 0<=2000;exact zz
 refine⟨z,?_,?_⟩
 .show (fM p a.args).size<=2000;unfold fM;split;{exact d};{grind}
 .show (fK p a.args).size<=2000;unfold fK;split;{grind};{exact d}
theorem Az(n0:Nat)(Bm G B nn av:Nat)(M:Gd->Option Int)(a:Am)(va:Vq)(w:Wq)(hm:w.heap[Bm]?=cC #[.map (aV B)] 98)(ha:w.heap[G]?=cC #[St a.rel,va] 92)(hM:eT w B nn M)(hS:Qh w av va a.args)(az:aB a.args<=2)(de:∀t∈a.args,t.num<6)(hrel:a.rel.size<=2000)(dx:∀t∈a.args,t.name.size<=2000)(eu:∀x y,(M ⟨a.rel,x,y⟩).isSome=true->x.size<=2000/\y.size<=2000)(m:Nat):fW m n0 93 #[Pt Bm,Pt G] (λg:lU=>#[g.1.v]) (qr m)
   (λgs=>∃ks:List (ByteArray×ByteArray),ks.Nodup/\(∀x y,(x,y)∈ks↔(x.size<=maxLen/\y.size<=maxLen/\(M ⟨a.rel,x,y⟩).isSome=true))/\aB ks<=nn/\gs.map (·.1)=(ks.filterMap (λk=>Q6 Qs a k.1 k.2)).map (λp=>qb p a)) (λ_=>True) nn w:=by
 obtain⟨n,hn⟩:∃n,12<=n:=⟨12,bX _⟩;refine fW.any (n:=n) ?_ n0;have n1:1<=n:=by omega
 have n2:1<=n-1:=by omega
 have n3:1<=n-1-1:=by omega
 intro l J Jx W hW b5 hJ bb hY h0;have a8:qr m w W:=qr.ofBelow hW;have b7:=a8.cells _ _ _ (by unfold eF;decide) hm;have bc:=a8.cells _ _ _ (by unfold eF;decide) ha;have co:=hM.mk a8;have ck:=hS.mk a8;clear hm ha hM hS a8 hW;have⟨fa,fc,a9⟩:=ck.form;subst a9;have bk:∀O,cG W.heap.size W (W.alloc O):=λO=>(aY _ W).alloc zl O;have c0:∀O,aC (W.alloc O) (Ad Bm 0)=aV (.map (aV B)):=λO=>cP (bk O) (by simp[aC,b7]);have c1:∀O,aC (W.alloc O) (Ad G 0)=aV (St a.rel):=λO=>cP (bk O) (by simp[aC,bc]);have c2:∀O,aC (W.alloc O) (Ad G 1)=aV (aH fa (aB a.args) fc):=λO=>cP (bk O) (by simp[aC,bc]);have e0:aC W (Ad Bm 0)=aV (.map (aV B)):=zc b7;have e1:∀j,aC W (Ad G j)=([St a.rel,aH fa (aB a.args) fc]:List Vq)[j]?:=λj=>by simp[aC,bc]
 have b3:Hid (∀W,Cs 94 #[.map (aV B),aJ #[St a.rel,aH fa (aB a.args) fc],aJ #[St ⟨#[]⟩,St ⟨#[]⟩,St ⟨#[]⟩,St ⟨#[]⟩,St ⟨#[]⟩,St ⟨#[]⟩]] W λe w'=>e=aO (.func (.func 156) #[] #[Pt W.heap.size,Pt (W.heap.size+1),Pt (W.heap.size+2)])/\
   w'=((W.alloc (aN #[.map (aV B)] 98)).alloc (aN #[St a.rel,aH fa (aB a.args) fc] 92)).alloc (aN #[St ⟨#[]⟩,St ⟨#[]⟩,St ⟨#[]⟩,St ⟨#[]⟩,St ⟨#[]⟩,St ⟨#[]⟩] 176)):=λW=>xw B a _ Qs W _ _ _ rfl
 have HY:=aA hY;have HJ:=aA hJ;have HJx:=aA bb;have H0:=aA h0;clear hY hJ bb h0 bk;refine cM Tryz.func93 rfl trivial ?_ rfl;simp only[Tryz.ntmps93,bG,bI,bL,bT,bU,bC,bD,bH,bE,bO,bJ]
 gi_wp2_with (refine⟨trivial,?_⟩;gi_at_call 94;refine (cI.2 (b3.o _)).mono ?_;rintro e w' ⟨rfl,rfl⟩)
 obtain⟨NB,ax⟩:∃NB,W.heap.size=NB:=⟨_,rfl⟩;obtain⟨W0,Z⟩:∃W0,(((W.alloc (aN #[.func (.yield l) #[] #[]] 181)).alloc (aN #[.map (aV B)] 98)).alloc (aN #[St a.rel,aH fa (aB a.args) fc] 92)).alloc (aN #[St ⟨#[]⟩,St ⟨#[]⟩,St ⟨#[]⟩,St ⟨#[]⟩,St ⟨#[]⟩,St ⟨#[]⟩] 176)=W0:=⟨_,rfl⟩;have ao:cG W.heap.size W W0:=by rw[<-Z];exact ((((aY _ W).alloc zl _).alloc (by simp) _).alloc (by simp;omega) _).alloc (by simp;omega) _
 have d4:W0.heap.size=NB+4:=by rw[<-Z,<-ax];simp
 have bY:W0.heap[NB]?=cC #[.func (.yield l) #[] #[]] 181:=by rw[<-Z,<-ax];exact (aZ _ _ _ (by simp;omega)).trans ((aZ _ _ _ (by simp;omega)).trans ((aZ _ _ _ (by simp)).trans (zn W _)))
 have bM:W0.heap[NB+1]?=cC #[.map (aV B)] 98:=by rw[<-Z,<-ax];refine (aZ _ _ _ (by simp)).trans ((aZ _ _ _ (by simp)).trans ?_);have:=zn (W.alloc (aN #[.func (.yield l) #[] #[]] 181)) (aN #[.map (aV B)] 98);rw[aX] at this;exact this
 have bA:W0.heap[NB+1+1]?=cC #[St a.rel,aH fa (aB a.args) fc] 92:=by rw[<-Z,<-ax];refine (aZ _ _ _ (by simp)).trans ?_;have:=zn ((W.alloc (aN #[.func (.yield l) #[] #[]] 181)).alloc (aN #[.map (aV B)] 98)) (aN #[St a.rel,aH fa (aB a.args) fc] 92);rw[aX,aX] at this;exact this
 have bP:W0.heap[NB+1+2]?=aV (aN Qs.c 176):=by rw[<-Z,<-ax];have:=zn (((W.alloc (aN #[.func (.yield l) #[] #[]] 181)).alloc (aN #[.map (aV B)] 98)).alloc (aN #[St a.rel,aH fa (aB a.args) fc] 92)) (aN #[St ⟨#[]⟩,St ⟨#[]⟩,St ⟨#[]⟩,St ⟨#[]⟩,St ⟨#[]⟩,St ⟨#[]⟩] 176);rw[aX,aX,aX] at this;exact this
 have ca:qr m W W0:=qr.ofBelow ao;have dt:J [] W0:=HJ.o _ _ _ aW H0.o (qg ao) (λr e=>by cases e);have d9:=co.mk ca;have c5:=ck.mk ca;have en:=ca.cells _ _ _ (by unfold eF;decide) bc;have ew:m<=W0.heap.size:=by have:=ao.size;omega
 have hz:∀k,(Qs.get k).size<=2000:=by
  intro k;have:(Qs.get k)=⟨#[]⟩:=by{unfold Qs dF.get;split<;>rfl};rw[this];exact zz
 simp only[ax];rw[Z];clear Z co ck b7 bc
 refine nz (n:=n) (gf:=156) (lb:=#[Pt (NB+1),Pt (NB+1+1),Pt (NB+1+2)]) rfl (enters_of Tryz.func156 (by kernel_rfl) rfl)
  (yA 2000 (n-1) (NB+1) (NB+1+1) (NB+1+2) B nn av M a (aH fa (aB a.args) fc) Qs W0 bM bA bP d9 c5 az de (bB hrel (by unfold maxLen;decide)) hz (λx y _ _ h=>eu x y h) (W0.heap.size+2)) qr.tr (λV rc o' ho=>qr.put V _ _ o' (by omega) ho rfl (λ_ _ h=>by cases h)) (λ_=>rfl)
  (λpre V=>∃gs:List lU,J gs V/\gs.map (·.1)=(pre.map (·.1)).map (λp=>qb p a)/\qr m W0 V)
  (λc pre V=>c=.ret/\∃gs,Jx gs V)
  ?hI ?hIx ⟨[],dt,rfl,qr.ofBelow zr⟩
  (λx a' V=>∃Bx,V.heap[Bx]?=aV (aN x.1.c 176)/\a'={tmps:=#[.func (.yield l) #[] #[],Pt Bm,Pt G,Pt NB,Pt Bx,.map (aV B),aJ #[St a.rel,aH fa (aB a.args) fc],aJ #[St ⟨#[]⟩,St ⟨#[]⟩,St ⟨#[]⟩,St ⟨#[]⟩,St ⟨#[]⟩,St ⟨#[]⟩],.func (.func 156) #[] #[Pt (NB+1),Pt (NB+1+1),Pt (NB+1+2)],aJ #[St x.1.a0,St x.1.a1,St x.1.a2,St x.1.a3,St x.1.a4,St x.1.a5],undef,undef,undef,undef,undef,undef],defers:=[]})
  ?hAx ?assign ?body ?done ?stop
 case hI=>rintro pre V V' row ⟨gs,A,d,C⟩ hg hr;exact⟨gs,HJ.o _ _ _ row A hg (λr e=>⟨by have:=(hr r e).1;omega,(hr r e).2⟩),d,C.own hg (λr e=>(hr r e).1)⟩
 case hIx=>rintro c pre V V' row ⟨rfl,gs,A⟩ hg hr;exact⟨rfl,gs,HJx.o _ _ _ row A hg (λr e=>⟨by have:=(hr r e).1;omega,(hr r e).2⟩)⟩
 case hAx=>rintro x a' _ V V' row ⟨Bx,d,h3⟩ hg hr;exact⟨Bx,qm hg (λr e=>(hr r e).2) _ _ _ _ d,h3⟩
 case assign=>
  rintro l' pre x V K hl dw ⟨gs,A,d,C⟩ hK;have HK:=aA hK;clear hK;unfold dF.v dF.c
  gi_wp2
  have al:cG V.heap.size V (V.alloc (aN #[St x.1.a0,St x.1.a1,St x.1.a2,St x.1.a3,St x.1.a4,St x.1.a5] 176)):=(aY _ V).alloc zl _;exact HK.o _ _ (KeepsFrom.ofBelow al) (qr.ofBelow al) ⟨gs,HJ.o _ _ _ aW A (qg al) (λr e=>by cases e),d,C.tr (qr.ofBelow al)⟩ ⟨V.heap.size,zn V _,rfl⟩
 case done=>
  rintro D xs V hD ⟨ks,E,z,k3,k4⟩ ⟨gs,A,d,C⟩ hK
  have Qf:Hid (∃ks:List (ByteArray×ByteArray),ks.Nodup/\(∀x y,(x,y)∈ks↔(x.size<=maxLen/\y.size<=maxLen/\(M ⟨a.rel,x,y⟩).isSome=true))/\aB ks<=nn/\gs.map (·.1)=(ks.filterMap (λk=>Q6 Qs a k.1 k.2)).map (λp=>qb p a)):=
   ⟨ks,E,z,k3,by rw[d,k4]⟩
  clear d z k4
  gi_wp2
  refine⟨by simp,aQ ⟨_,_,rfl,cS hK,?_⟩⟩;refine⟨_,cR rfl _ _ _,⟨_,rfl⟩,aQ ⟨gs,Qf.o,?_⟩⟩;exact HJ.o _ _ _ (aV D) A (cW V D (.deferred aW)) (λr e=>by cases e;exact⟨by omega,_,hK,rfl⟩)
 case stop=>
  rintro D c pre V hD _ ⟨rfl,gs,A⟩ hK
  gi_wp2
  refine⟨by simp,aQ ⟨_,_,rfl,cS hK,?_⟩⟩;refine⟨_,cR rfl _ _ _,⟨_,rfl⟩,aR ⟨gs,trivial,?_⟩⟩;exact HJx.o _ _ _ (aV D) A (cW V D (.deferred aW)) (λr e=>by cases e;exact⟨by omega,_,hK,rfl⟩)
 case body=>
  rintro l' pre x a' V eo ⟨rc,ey⟩ ⟨gs,A,d,C⟩ ⟨Bx,b9,rfl⟩ ak;have dq:=C.cells _ _ _ (by unfold eF;decide) bY;have dp:=C.cells _ _ _ (by unfold eF;decide) en;have c6:=c5.mk C;have cy:aC V (Ad NB 0)=aV (.func (.yield l) #[] #[]):=zc dq;have z1:∀j,aC V (Ad G j)=([St a.rel,aH fa (aB a.args) fc]:List Vq)[j]?:=λj=>by{simp[aC,dp]};have ai:=b9;unfold dF.c at ai;have q0:∀j,aC V (Ad Bx j)=([St x.1.a0,St x.1.a1,St x.1.a2,St x.1.a3,St x.1.a4,St x.1.a5]:List Vq)[j]?:=λj=>by{simp[aC,ai]};have d7:Hid (∀W1,cG V.heap.size V W1->aC W1 (Ad NB 0)=aV (.func (.yield l) #[] #[])):=λW1 hb=>cP hb cy;have aw:pK (qb x.1 a):=G4 x.2 hrel dx;have an:aB gs<nn:=by{have:=congrArg aB d;simp at this;omega};have ep:Hid (∀W,(∀(k:Nat) (c:Array Vq),V.heap[k]?=cC c 166->W.heap[k]?=cC c 166)->Cs 89 #[aJ #[St x.1.a0,St x.1.a1,St x.1.a2,St x.1.a3,St x.1.a4,St x.1.a5],aJ #[St a.rel,aH fa (aB a.args) fc]] W λe w'=>e=aO (aJ #[St (qb x.1 a).rel,St (qb x.1 a).x,St (qb x.1 a).y])/\cG W.heap.size W w'):=λW hk=>vF x.1 a _ av W (c6.kept (λk c _ hc=>hk k c hc)) az de
  have cj:Hid (∀W1,cG V.heap.size V W1->YieldAt Fence.wide (n-1) Tryz.prog l #[aJ #[St (qb x.1 a).rel,St (qb x.1 a).x,St (qb x.1 a).y]] W1 λe W'=>∃b:Bool,e=aO (aK b)/\((b=true/\J (gs++[⟨qb x.1 a,aw⟩]) W'/\qr m V W')\/(b=false/\Jx (gs++[⟨qb x.1 a,aw⟩]) W'/\cZ m V W'))):=by
   intro W1 hb;have⟨fn,tmps,assign,body,hy,hR⟩:=HY.o gs ⟨qb x.1 a,aw⟩ W1 (HJ.o _ _ _ aW A (qg hb) (λr e=>by cases e)) an;refine⟨fn,tmps,assign,body,hy,hR.mono ?_⟩;rintro e W' (⟨rfl,E,z⟩|⟨rfl,E,z⟩);{exact⟨true,rfl,aQ ⟨rfl,E,(qr.ofBelow hb).tr z⟩⟩};{exact⟨false,rfl,aR ⟨rfl,E,KeepsFrom.tr (KeepsFrom.ofBelow hb) z⟩⟩}
  have ed:Hid ((gs++[I6 (qb x.1 a) aw]).map (·.1)=((pre++[x]).map (·.1)).map (λp=>qb p a)):=by{show _=_;rw[bQ,bQ,bQ,d];rfl};generalize hGr:(qb x.1 a).rel=gr at *;generalize hGx:(qb x.1 a).x=gx at *;generalize hGy:(qb x.1 a).y=gy at *;clear hGr hGx hGy ai c6 d
  gi_wp2
  refine wpIn_mono (Q:=λe a' w'=>e=Exit.normal/\∃b:Bool,a'={tmps:=#[.func (.yield l) #[] #[],Pt Bm,Pt G,Pt NB,Pt Bx,.map (aV B),aJ #[St a.rel,aH fa (aB a.args) fc],aJ #[St ⟨#[]⟩,St ⟨#[]⟩,St ⟨#[]⟩,St ⟨#[]⟩,St ⟨#[]⟩,St ⟨#[]⟩],.func (.func 156) #[] #[Pt (NB+1),Pt (NB+1+1),Pt (NB+1+2)],aJ #[St x.1.a0,St x.1.a1,St x.1.a2,St x.1.a3,St x.1.a4,St x.1.a5],.func (.yield l) #[] #[],aJ #[St x.1.a0,St x.1.a1,St x.1.a2,St x.1.a3,St x.1.a4,St x.1.a5],aJ #[St a.rel,aH fa (aB a.args) fc],aJ #[St gr,St gx,St gy],aK b,aK (!b)],defers:=[]}/\((b=true/\J (gs++[⟨qb x.1 a,aw⟩]) w'/\qr m V w')\/(b=false/\Jx (gs++[⟨qb x.1 a,aw⟩]) w'/\cZ m V w'))) ?reg ?rest
  case reg=>
   gi_region_with (first|(refine⟨trivial,?_⟩;(try refine⟨λh=>(by cases h),?_⟩);refine (cL l' (cI.2 (ep.o V.drew (λ_ _ h=>h)))).mono ?_;rintro e W1 ⟨rfl,ae⟩;have⟨e6,dk,assign2,body2,ev,eb⟩:=cj.o W1 (bZ (cA (aY V.heap.size V)) ae);have ez:=d7.o W1 (bZ (cA (aY V.heap.size V)) ae))|(refine (qK eb).mono ?_;rintro e W2 ⟨b,rfl,ah⟩))
   all_goals exact⟨rfl,b,rfl,ah⟩
  case rest=>
   rintro e a' X' ⟨rfl,b,rfl,ah⟩;rcases ah with⟨rfl,E,z⟩|⟨rfl,E,z⟩
   .gi_wp2
    exact⟨KeepsFrom.up z.from' (by omega),z.up (by omega),_,E,ed.o,C.tr z⟩
   .gi_wp2
    exact⟨KeepsFrom.up z (by omega),rfl,_,E⟩
attribute [local go_sem] cU
theorem Ar(a:Am)(E:Vq)(b:Nat)(w:Wq)(z:Qh w b E a.args)(hl:aB a.args<=2)(C:∀t∈a.args,t.num<6):Cs 48 #[aJ #[St a.rel,E]] w λe w'=>e=aO (qb Qs a).v/\cG w.heap.size w w':=by
 have⟨ta,tc,dn⟩:=z.form;subst dn;have hg:Hid (∀W,cG w.heap.size w W->Cs 89 #[aJ #[St ⟨#[]⟩,St ⟨#[]⟩,St ⟨#[]⟩,St ⟨#[]⟩,St ⟨#[]⟩,St ⟨#[]⟩],aJ #[St a.rel,aH ta (aB a.args) tc]] W λe w'=>e=aO (aJ #[St (qb Qs a).rel,St (qb Qs a).x,St (qb Qs a).y])/\cG W.heap.size W w'):=λW hk=>vF Qs a _ b W (z.kept (λk c _ A=>(hk.block k (zg A).1).trans A)) hl C;clear z C;unfold Gd.v Gd.c;generalize hGr:(qb Qs a).rel=gr at *;generalize hGx:(qb Qs a).x=gx at *;generalize hGy:(qb Qs a).y=gy at *;clear hGr hGx hGy;have Z:Hid (∀W1,cG ((w.alloc (aN #[St a.rel,aH ta (aB a.args) tc] 92)).alloc (aN #[St ⟨#[]⟩,St ⟨#[]⟩,St ⟨#[]⟩] 111)).heap.size ((w.alloc (aN #[St a.rel,aH ta (aB a.args) tc] 92)).alloc (aN #[St ⟨#[]⟩,St ⟨#[]⟩,St ⟨#[]⟩] 111)) W1->W1.heap[w.heap.size+1]?=cC #[St ⟨#[]⟩,St ⟨#[]⟩,St ⟨#[]⟩] 111):=by intro W1 hb;refine (hb.block _ (by simp)).trans ?_;have:=zn (w.alloc (aN #[St a.rel,aH ta (aB a.args) tc] 92)) (aN #[St ⟨#[]⟩,St ⟨#[]⟩,St ⟨#[]⟩] 111);rw[aX] at this;exact this
 go_enter Tryz.func48,Tryz.ntmps48
 go_wp2_with (go_at_call 89;refine (hg.o _ (((aY _ w).alloc zl _).alloc (by simp) _)).mono ?_;rintro e W1 ⟨rfl,ae⟩;have d:=Z.o W1 ae;have G:aC W1 (Ad (w.heap.size+1) 0)=aV (St ⟨#[]⟩):=(by simp[aC,d]);have M:aC W1 (Ad (w.heap.size+1) 1)=aV (St ⟨#[]⟩):=(by simp[aC,d]);have O:aC W1 (Ad (w.heap.size+1) 2)=aV (St ⟨#[]⟩):=(by simp[aC,d]);have f0:aD W1 (Ad (w.heap.size+1) 0)=false:=(by simp[aD,d]);have f1:aD W1 (Ad (w.heap.size+1) 1)=false:=(by simp[aD,d]);have f2:aD W1 (Ad (w.heap.size+1) 2)=false:=(by simp[aD,d]))
 refine bodyPost_ret (v:=aJ #[St gr,St gx,St gy]) (by simp[results,Tryz.results48,go_sem,G,M,O]) rfl ?_;exact⟨rfl,((((((aY _ w).alloc zl _).alloc (by simp) _).trans (ae.mono (by simp;omega))).setCell (p:=⟨w.heap.size+1,0,aW⟩) (by simp) _).setCell (p:=⟨w.heap.size+1,1,aW⟩) (by simp) _).setCell (p:=⟨w.heap.size+1,2,aW⟩) (by simp) _⟩
theorem DZ(v:Vq)(w:Wq)(z:Option Addr)(C A:Nat)(d:v=aH z C A):Cs 135 #[v] w λe w'=>e=aO (.func (.func 188) #[] #[Pt w.heap.size])/\w'=w.alloc (aN #[v] 75):=by subst d;go_enter Tryz.func135,Tryz.ntmps135;go_wp2;go_ret;exact⟨rfl,rfl⟩
def Qx(R:List Rl):List (Gd×Int):=R.filterMap (λr=>if r.body=[] then aV (qb Qs r.head,2000000) else aW)
theorem Gt{R:List Rl}{k:Nat}(h:k<aB R):Qx (R.take (k+1))=Qx (R.take k)++(if (R[k]).body=[] then [(qb Qs (R[k]).head,2000000)] else []):=by grind [Qx,R,List.take_succ_eq_append_getElem]
def Iy(r:Rl):Prop:=aB r.head.args<=2/\∀t∈r.head.args,t.num<6
theorem JS(ac C rb dr av:Nat)(v:Vq)(R:List Rl)(w:Wq)(cc:w.heap[C]?=cC #[v] 75)(d:Qn w rb dr av v R)(cu:∀r∈R,Iy r)(h8:aB R<=8)(m n0:Nat):fW m n0 188 #[Pt C] (λx:Gd×Int=>#[aJ (qx x).toArray]) (ib w.heap.size ac m) (λys=>ys=Qx R) (λ_=>True) (aB R) w:=by
 obtain⟨n,hn⟩:∃n,12<=n:=⟨12,bX _⟩;refine fW.any (n:=n) ?_ n0;have n1:1<=n:=by omega
 intro l J Jx W hW b5 hJ bb hY h0;have el:=(hW.block C (zg cc).1).trans cc;obtain⟨va,vc,rfl⟩:=d.form;have c0:aC W (Ad C 0)=aV (aH va (aB R) vc):=zc el;have HY:=aA hY;have HJ:=aA hJ;have HJx:=aA bb;have HR:=aA d;have HW:=aA hW;clear hY hJ bb d hW cc;refine cM Tryz.func188 rfl trivial ?_ rfl;simp only[Tryz.ntmps188,bG,bI,bL,bT,bU,bC,bD,bH,bE,bO,bJ]
 gi_wp2
 refine wpIn_loop (λA V=>∃(k:Nat) (u4 u8 u9 cz dh cx c7 dg c9 cp dc cq cw c3 di ct cr c8:Vq),A={tmps:=#[.func (.yield l) #[] #[],Pt C,undef,undef,u4,aH va (aB R) vc,Ii (aB R),Ii k,u8,u9,cz,dh,cx,c7,dg,c9,cp,dc,cq,cw,c3,di,ct,cr,c8],defers:=[]}/\k<=aB R/\J (Qx (R.take k)) V/\ib w.heap.size ac m W V) (λA _=>aB R-(intOf (A.tmps.getD 7 undef)).toNat) ⟨0,_,_,_,_,_,_,_,_,_,_,_,_,_,_,_,_,_,_,rfl,zz,by simpa [Qx] using h0,ib.ofBelow zr⟩ ?_;rintro A V ⟨k,u4,u8,u9,cz,dh,cx,c7,dg,c9,cp,dc,cq,cw,c3,di,ct,cr,c8,rfl,hk,G,cl⟩;by_cases ak:k<aB R
 .have cn:qf w V:=λi c t ht hi=>by{have dj:=(zg hi).1;refine cl.block i _ dj ((HW.o.block i dj).trans hi) (aR (λc' fz e=>?_));cases e;rcases ht with h|h|h<;>revert h<;>decide};have⟨g,c,v0,vb,e0,x0,x1,x2,b8,da⟩:=n9 (Qn.rk HR.o cn) ak;cases e0;have⟨fa,fc,ek⟩:=b8.form;have⟨ga,gc,ef⟩:=eW.form da;subst ek ef;have az:∀O,cG V.heap.size V (V.alloc O):=λO=>(aY _ V).alloc zl O;have cf:Hid (∀W1,cG V.heap.size V W1->Cs 48 #[aJ #[St (R[k]).head.rel,aH fa (aB (R[k]).head.args) fc]] W1 λe w'=>e=aO (aJ #[St (qb Qs (R[k]).head).rel,St (qb Qs (R[k]).head).x,St (qb Qs (R[k]).head).y])/\cG W1.heap.size W1 w'):=λW1 Z=>Ar (R[k]).head _ av W1 (b8.kept (λi c _ hc=>(Z.block i (zg hc).1).trans hc)) (cu _ (zm ak)).1 (cu _ (zm ak)).2;have b6:=Gt ak;have an:aB (Qx (R.take k))<=k:=by refine bB (List.length_filterMap_le _ _) ?_;simp;omega
  have cj:Hid (∀W1,cG V.heap.size V W1->YieldAt Fence.wide (n-1) Tryz.prog l #[aJ #[St (qb Qs (R[k]).head).rel,St (qb Qs (R[k]).head).x,St (qb Qs (R[k]).head).y,Ii 2000000]] W1 λe W'=>∃b:Bool,e=aO (aK b)/\((b=true/\J (Qx (R.take k)++[(qb Qs (R[k]).head,2000000)]) W'/\ib w.heap.size ac m V W')\/(b=false/\Jx (Qx (R.take k)++[(qb Qs (R[k]).head,2000000)]) W'))):=by
   intro W1 Z;have⟨fn,tmps,assign,body,hy,d⟩:=HY.o (Qx (R.take k)) (qb Qs (R[k]).head,2000000) W1 (HJ.o _ _ _ aW G (qg Z) (λr e=>by cases e)) (by omega);refine⟨fn,tmps,assign,body,hy,d.mono ?_⟩;rintro e W' (⟨rfl,k1,k2⟩|⟨rfl,k1,k2⟩);{exact⟨true,rfl,aQ ⟨rfl,k1,(ib.ofBelow Z).tr k2⟩⟩};{exact⟨false,rfl,aR ⟨rfl,k1⟩⟩}
  generalize hxk:R[k]=rk at *;have dd:=aA cl;have M:=aA b6;have E:=aA az;clear az cl hxk cn b8 da b6
  cases hbd:rk.body with
  |nil=>
   have z:Hid (Qx (R.take (k+1))=Qx (R.take k)++[(qb Qs rk.head,2000000)]):=by{show _=_;rw[M.o,if_pos hbd]};rw[hbd] at x2;clear hbd M;generalize hGr:(qb Qs rk.head).rel=gr at *;generalize hGx:(qb Qs rk.head).x=gx at *;generalize hGy:(qb Qs rk.head).y=gy at *;clear hGr hGx hGy
   gi_wp2_with (first|(refine⟨trivial,?_⟩;gi_at_call 48;refine (cI.2 (cf.o _ (E.o _))).mono ?_;rintro e W1 ⟨rfl,ae⟩;have⟨fn,tmps,assign,body,hy,d⟩:=cj.o W1 ((E.o _).trans (ae.mono (by simp)))))
   refine d.mono ?_;rintro e W2 ⟨b,rfl,⟨rfl,d5,d0⟩|⟨rfl,cg⟩⟩
   .clear hy d
    gi_wp2
    refine⟨⟨k+1,_,_,_,_,_,_,_,_,_,_,_,_,_,_,_,_,_,_,rfl,by omega,by rw[z.o];exact d5,dd.o.tr d0⟩,?_⟩;simp[intOf];omega
   .clear hy d
    gi_wp2
    exact⟨_,cR rfl _ _ _,⟨_,rfl⟩,aR ⟨_,trivial,cg⟩⟩
  |cons a0 at2=>
   have z:Hid (Qx (R.take (k+1))=Qx (R.take k)):=by{show _=_;rw[M.o,if_neg (by rw[hbd];simp),List.append_nil]};rw[hbd] at x2;clear hbd M;have hz:((aB at2:Int)+1 == 0)=false:=by simp;omega
   gi_wp2
   refine⟨trivial,?_⟩
   gi_wp2
   refine⟨λf h=>(by cases h),?_⟩
   gi_wp2
   refine⟨⟨k+1,_,_,_,_,_,_,_,_,_,_,_,_,_,_,_,_,_,_,rfl,by omega,by rw[z.o];exact HJ.o _ _ _ aW G (qg (E.o _)) (λr e=>by cases e),dd.o.tr (ib.ofBelow (E.o _))⟩,?_⟩;simp[intOf];omega
 .have eh:k=aB R:=by{omega};subst eh;rw[List.take_length] at G
  gi_wp2
  exact⟨_,cR rfl _ _ _,⟨_,rfl⟩,aQ ⟨_,rfl,G⟩⟩
theorem tK{F:Fence}{nF:Nat}{P:Program}(w:Wq){o:Oper}{a:Act}{K:Act->Wq->Prop}{Q:Exit->Act->Wq->Prop}(s x:Operand)(t:TypeId)(G:o.op=.call {callee:=.builtin .append,args:=#[s,x],argTypes:=#[t,t]})(E:Nat)(e:TypeId)(i:TypeInfo)(z:Vq)(size d:Nat)(ht:P.underlying t=aV (.slice e))(hi:P.info? e=aV i)(hz:i.zero=aV z)(M:i.size=size)(d8:i.bytes=d)(dv:z.cells.size=size)(Z:0<size)(v:Vq)(n:Nat)(xs:List Vq)(hs:a.eval s=v)(qt:aE w E e size v n xs)(ad:Addr)(m c:Nat)(A:List Vq)(hx:a.eval x=aH (aV ad) m c)(hl:aB A=m*size)(du:∀j u,A[j]?=aV u->aC w (ad.add j)=aV u)(h1:∀u∈A,u.oneCell'=true)(ec:n+m<=maxLen)(O:(n+m)*d<=140737488355328)(d1:E<=w.heap.size)(h:∀C w',aE w' E e size C (n+m) (xs++A)->w.grownBy w' (aF v)->(aF C=aF v\/aF C=aV w.heap.size)->K (a.put o.dst C) w'):Oper.wpIn F nF P o a w K Q:=by have⟨C,w',hr,h2,h3,h4,h5⟩:=run_append_own_at (P:=P) w E t o.type e i z size d ht hi hz M d8 dv Z v n xs qt ad m c A hl du h1 ec O d1;unfold Oper.wpIn;refine⟨by simp[Oper.about,G,resolve,Target.leads,Sem.run_pure],?_⟩;rw[Oper.semAt_plain F _ _ (by rw[G];intro c d6;cases d6)];simp[execOp,G,resolve,invoke,builtin,hs,hx,hr,Result.andThen];exact h _ _ h2 h3 h5
attribute [local go_sem] cU
def fO(l:List (List UInt8)):List (List UInt8):=l.mergeSort λx y=>decide (x<=y)
def jw(l:List UInt8):Vq:=aI ⟨l.toArray⟩
theorem Fa(v:Vq)(l:List (List UInt8))(b:Nat)(w:Wq)(qt:aE w b 9 1 v (aB l) (l.map jw))(hl:aB l<=2000000):Cs 92 #[v] w λe w'=>e=aO (aL #[])/\aE w' b 9 1 v (aB l) ((fO l).map jw)/\dD w w' (λk=>aV k=aF v):=by
 have dy:=qt;obtain⟨an,⟨E,hn⟩|⟨g,d,A,E,hb,C,O,Z,h3,h4⟩⟩:=qt
 .subst E;have:l=[]:=List.eq_nil_of_length_eq_zero hn;subst this;refine (Any.slices_Sort_string_none Tryz.lays190 aW 0 w).mono ?_;rintro e w' ⟨rfl,rfl⟩;have e0:fO []=[]:=by{simp[fO]};rw[e0];exact⟨rfl,dy,dD.refl _ _⟩
 .subst E;have ak:=(zg C).1
  have hH:Sort.Holds encStr w g 0 l.toArray:=by
   intro j hj;have em:j<aB l:=by{simpa using hj};refine⟨?_,by simp[aD,C]⟩;have M:A.toList[j]?=(l.map jw)[j]?:=by{grind};have e2:A[j]?=aV (jw l[j]):=by{grind};simp only[aC,C];have e3:l.toArray[j]! = l[j]:=by{simp[em]};rw[e3];have e4:A[0+j]?=aV (jw l[j]):=by{grind};exact e4
  refine (Tryz.slices_Sort_string g 0 d l w hH ak (by omega)).mono ?_;rintro e w' ⟨rfl,n,z,rfl⟩;have G:aB (fO l)=aB l:=(List.mergeSort_perm l _).length_eq;have hF:((fO l).toArray.map encStr).size<=A.size:=by grind
  have d2:dA (cO encStr (cX w n) g 0 (fO l).toArray) z=dA (cO id (cX w n) g 0 ((fO l).toArray.map encStr)) z:=by
   unfold cO;congr 2;funext c;unfold Sort.putCells;refine Array.ext (by simp) (λi O Z=>?_);simp only[Array.getElem_mapIdx,Array.size_map];by_cases hi:0<=i/\i<0+(fO l).toArray.size;{grind};{grind}
  have⟨s1,s2,s3,s4⟩:=uO (n:=n) ((fO l).toArray.map encStr) z C hF;show _/\aE (dA (cO encStr (cX w n) g 0 (fO l).toArray) z) _ _ _ _ _ _/\dD w (dA (cO encStr (cX w n) g 0 (fO l).toArray) z) _;rw[d2];refine⟨rfl,⟨by simp[G],aR ⟨g,d,_,rfl,hb,s1,O,Z,s3.trans h3,?_⟩⟩,⟨rfl,rfl,rfl,?_,λk hk hx=>s2 k hk (λe=>hx (by rw[e];rfl))⟩⟩
  .have M:aB l*1=((fO l).toArray.map encStr).size:=by{simp[G]};rw[M,s4];simp[jw]
  .grind
theorem Fm{gf:Nat}{lb:Array Vq}{S Sp:List lU->Prop}{N:Nat}(w:Wq)(e5:N<=1000000)(eg:∀args w,(callFunc gf args).run Tryz.prog w=.ok (.enter gf args) w)(ch:∀m n,fW m n gf lb (λg:lU=>#[g.1.v]) (qr m) S Sp N w):Cs 50 #[.func (.func gf) #[] lb] w λe w'=>∃v gs,e=aO v/\S gs/\aE w' w.heap.size 9 1 v (aB gs) ((fO (gs.map (λg=>(dY g.1).data.toList))).map jw)/\cG w.heap.size w w'/\aB gs<=N:=by
 obtain⟨NB,hN⟩:∃N,w.heap.size=N:=⟨_,rfl⟩;obtain⟨i0,hi,bj,b0,bq⟩:=info_parts Tryz.info9;refine (cI (n:=8)).1 ?_;refine cM Tryz.func50 rfl trivial ?_ rfl;simp only[Tryz.ntmps50,bG,bI,bL,bT,bU,bC,bD,bH,bE,bO,bJ]
 gi_wp2
 obtain⟨W0,af⟩:∃W0,w.alloc (aN #[aH aW 0 0] 22)=W0:=⟨_,rfl⟩;have ao:cG w.heap.size w W0:=by rw[<-af];exact (aY _ w).alloc zl _
 have d4:W0.heap.size=NB+1:=by rw[<-af,<-hN];simp
 have bV:dB W0 NB 22 (aH aW 0 0):=by have:=Boxed.new w 22 (aH aW 0 0);rw[hN,af] at this;exact this
 (try simp only[hN])
 rw[af];clear af
 refine nz (n:=8) (gf:=gf) (lb:=lb) rfl eg ((ch _ _).later ao) qr.tr (λV rc o' M=>qr.put V _ _ o' (by omega) M rfl (λ_ _ h=>by cases h)) (λ_=>rfl)
  (λpre V=>∃v,dB V NB 22 v/\aE V NB 9 1 v (aB pre) (pre.map (λg=>aI (dY g.1)))/\cG NB w V/\NB<V.heap.size/\aB pre<=N)
  (λ_ _ _=>False)
  ?hI (λ_ _ _ _ _ h _ _=>h) ⟨_,bV,⟨rfl,aQ ⟨rfl,rfl⟩⟩,by rw[hN] at ao;exact ao,by omega,zz⟩
  (λx a' V=>∃Bx,V.heap[Bx]?=aV (aN x.1.c 111)/\a'={tmps:=#[.func (.func gf) #[] lb,undef,aH aW 0 0,.pointer (aV ⟨NB,0,aW⟩),.pointer (aV ⟨Bx,0,aW⟩),.func (.func gf) #[] lb,aJ #[aI x.1.rel,aI x.1.x,aI x.1.y],undef,undef,undef,undef,undef,undef,undef,undef],defers:=[]})
  ?hAx ?assign ?body ?done (λ_ _ _ _ _ _ h _=>h.elim)
 case hI=>rintro pre V V' row ⟨v,Z,G,h3,h4,h5⟩ hg hr;have hk:=qm hg (λr e=>(hr r e).2);exact⟨v,hk _ _ _ _ Z,Qc G (λg c _ C=>hk g c _ _ C),h3.grown hg (by omega) (λk e=>by have:=(hr k e).1;omega),by have:=hg.size;omega,h5⟩
 case hAx=>rintro x a' _ V V' row ⟨Bx,G,h5⟩ hg hr;exact⟨Bx,qm hg (λr e=>(hr r e).2) _ _ _ _ G,h5⟩
 case assign=>
  rintro l' pre t V K hl dw ⟨v,Z,G,h3,h4,h5⟩ d;have HK:Hid _:=d;clear d;unfold Gd.v Gd.c
  gi_wp2
  have al:cG V.heap.size V (V.alloc (aN #[aI t.1.rel,aI t.1.x,aI t.1.y] 111)):=(aY _ V).alloc zl _;exact HK.o _ _ (KeepsFrom.ofBelow al) (qr.ofBelow al) ⟨v,Z.alloc _,G.alloc _,h3.trans (al.mono (by omega)),by simp;omega,h5⟩ ⟨V.heap.size,zn V _,rfl⟩
 case done=>
  rintro D gs V hD hS ⟨v,Z,G,h3,h4,h5⟩ d;have c1:=Z.cell;obtain⟨z,A,rfl⟩:=qq G;have b6:aB gs<=2000000:=by omega
  have d3:Hid (Cs 92 #[aH z (aB gs) A] V λe w'=>e=aO (aL #[])/\aE w' NB 9 1 (aH z (aB gs) A) (aB gs) ((fO (gs.map (λg=>(dY g.1).data.toList))).map jw)/\cG NB w w'/\dB w' NB 22 (aH z (aB gs) A)/\w'.heap[D]?=aV (.deferred (aV []))/\NB<w'.heap.size):=by
   have dz:gs.map (λg=>aI (dY g.1))=(gs.map (λg=>(dY g.1).data.toList)).map jw:=by rw[List.map_map];refine List.map_congr_left (λg _=>?_);show aI (dY g.1)=jw (dY g.1).data.toList;unfold jw;rw[Array.toArray_toList]
   have db:aB (gs.map (λg=>(dY g.1).data.toList))=aB gs:=by simp
   have df:=G;rw[dz] at df;have ee:=Fa (aH z (aB gs) A) (gs.map (λg=>(dY g.1).data.toList)) NB V (by rw[db];exact df) (by omega);refine ee.mono ?_;rintro e w' ⟨rfl,M,C⟩;rw[db] at M;refine⟨rfl,M,h3.trans ⟨C.os,C.tape,C.output,C.size,λk hk=>C.block k (by omega) (λe=>?_)⟩,(C.block _ Z.lt (λe=>Qe G Z (by decide) _ e.symm rfl)).trans Z,(C.block _ (zg d).1 (λe=>?_)).trans d,by have:=C.size;omega⟩
   .have:=(qd G e.symm).1;omega
   .obtain⟨_,c,ei⟩:=qd G e.symm;rw[ei] at d;cases d
  gi_wp2_with (refine⟨trivial,?_⟩;gi_at_call 92;refine (cI.2 d3.o).mono ?_;rintro e W2 ⟨rfl,k1,k2,k3,k4,k5⟩;have kc:=k3.cell)
  refine⟨by simp,aQ ⟨_,_,rfl,cS k4,?_⟩⟩;have hk:=qm (cW W2 D (.deferred aW)) (λr e=>by cases e;exact⟨_,k4,rfl⟩);refine⟨_,results_tmp rfl _ _ _,aH z (aB gs) A,gs,rfl,hS,?_,?_,h5⟩
  .rw[hN];exact Qc k1 (λg c _ C=>hk g c _ _ C)
  .rw[hN];exact pQ k2 (by omega) (by omega)
 case body=>
  rintro l' pre t a' V eo ⟨r,hr⟩ ⟨v,Z,G,h3,h4,h5⟩ ⟨Bx,b9,rfl⟩ ak;obtain⟨z,A,rfl⟩:=qq G;have ai:=b9;unfold Gd.c at ai;have c0:aC V (Ad Bx 0)=aV (aI t.1.rel):=zc ai;have c1:aC V (Ad Bx 1)=aV (aI t.1.x):=zc ai;have c2:aC V (Ad Bx 2)=aV (aI t.1.y):=zc ai;have cb:=Z.cell;have bn:aB pre+1<=maxLen:=by unfold maxLen;omega
  have bi:(aB pre+1)*16<=140737488355328:=by omega
  have b4:Hid (Cs 91 #[aJ #[aI t.1.rel,aI t.1.x,aI t.1.y]] V.drew λe w'=>e=aO (aI (dY t.1))/\cG V.heap.size V w'):=(Gh t.1 V.drew t.2.rel t.2.x t.2.y).mono (λe w' h=>⟨h.1,((aY _ V).drew).trans h.2⟩);have au:Hid (∀V1,cG V.heap.size V V1->aC V1 (Ad NB 0)=aV (aH z (aB pre) A)):=λV1 hb=>cP hb cb;have bv:Hid (∀V1,cG V.heap.size V V1->aE (V1.alloc (aN #[aI (dY t.1)] 9)) NB 9 1 (aH z (aB pre) A) (aB pre) (pre.map (λg=>aI (dY g.1)))):=λV1 hb=>(qj G hb).alloc _;have bu:Hid (∀V1,cG V.heap.size V V1->NB<=(V1.alloc (aN #[aI (dY t.1)] 9)).heap.size):=λV1 hb=>by have:=hb.size;show NB<=_;simp;omega
  have Qf:Hid (∀V1 E w1,cG V.heap.size V V1->aE w1 NB 9 1 E (aB pre+1) (pre.map (λg=>aI (dY g.1))++[aI (dY t.1)])->(V1.alloc (aN #[aI (dY t.1)] 9)).grownBy w1 (aF (aH z (aB pre) A))->∃g' ab,E=aH (aV ⟨g',0,aW⟩) (aB pre+1) ab/\(∃cv,aC w1 (Ad NB 0)=aV cv)/\aD w1 (Ad NB 0)=false/\
    (cZ W0.heap.size V (w1.setCell (Ad NB 0) E)/\qr (W0.heap.size+2) V (w1.setCell (Ad NB 0) E)/\∃v,dB (w1.setCell (Ad NB 0) E) NB 22 v/\aE (w1.setCell (Ad NB 0) E) NB 9 1 v (aB (pre++[t])) ((pre++[t]).map (λg=>aI (dY g.1)))/\cG NB w (w1.setCell (Ad NB 0) E)/\NB<(w1.setCell (Ad NB 0) E).heap.size/\aB (pre++[t])<=N)):=by
   intro V1 E w1 ae M hg;obtain⟨g',ab,ej⟩:=ownsRow_succ M;subst ej;have k1:dB V1 NB 22 (aH z (aB pre) A):=(ae.block _ Z.lt).trans Z;have k2:=qj G ae;have C:dD V1 w1 (λj=>aV j=aF (aH z (aB pre) A)):=((dD.refl V1 _).alloc _).grown hg (λk e _=>e.symm);have bh:dB w1 NB 22 (aH z (aB pre) A):=(C.block _ k1.lt (λe=>Qe k2 k1 (by decide) _ e.symm rfl)).trans k1;have aj:dD V1 (w1.setCell (Ad NB 0) (aH (aV ⟨g',0,aW⟩) (aB pre+1) ab)) (λj=>j=NB\/aV j=aF (aH z (aB pre) A)):=(C.mono (λ_ _ e=>aR e)).setCell (Ad NB 0) _ (λ_=>aQ rfl)
   have dl:∀m',cZ m' V1 (w1.setCell (Ad NB 0) (aH (aV ⟨g',0,aW⟩) (aB pre+1) ab)):=λm'=>uA aj (λj hj hx=>by
    rcases hx with rfl|hx
    .exact⟨_,_,k1⟩
    .obtain⟨_,c,C⟩:=qd k2 hx.symm;exact⟨c,_,C⟩)
   have b3:∀(k:Nat) (o:Obj),V1.heap[k]?=aV o->(∀c fz,o≠aN c 9 fz)->(∀c fz,o≠aN c 22 fz)->(w1.setCell (Ad NB 0) (aH (aV ⟨g',0,aW⟩) (aB pre+1) ab)).heap[k]?=aV o:=λk o aq dm et=>by
    refine (aj.block k (zg aq).1 (λe=>?_)).trans aq;rcases e with e|e
    .rw[e] at aq;have hj:=k1;unfold dB at hj;rw[hj] at aq;cases aq;exact et _ _ rfl
    .obtain⟨_,c,C⟩:=qd k2 e.symm;rw[C] at aq;cases aq;exact dm _ _ rfl
   have ea:∀m',qr m' V1 (w1.setCell (Ad NB 0) (aH (aV ⟨g',0,aW⟩) (aB pre+1) ab)):=λm'=>⟨λk c t ht hk=>b3 k _ hk (λc' fz e=>by cases e;exact ht.1 rfl) (λc' fz e=>by cases e;exact ht.2.1 rfl),λk es c hk=>b3 k _ hk (λ_ _ e=>by cases e) (λ_ _ e=>by cases e),dl m'⟩;refine⟨g',ab,rfl,⟨_,bh.cell⟩,bh.frozen,KeepsFrom.tr (KeepsFrom.ofBelow ae) (dl _),(qr.ofBelow ae).tr (ea _),_,lh bh _,?_,?_,?_,by simp;omega⟩
   .have:=Qk M ⟨NB,0,aW⟩ (aH (aV ⟨g',0,aW⟩) (aB pre+1) ab) (Qe M bh (by decide));simpa using this
   .refine (h3.trans (ae.mono (by omega))).trans ⟨aj.os,aj.tape,aj.output,aj.size,λk hk=>?_⟩;refine aj.block k (by have:=ae.size;omega) (λe=>?_);rcases e with rfl|e
    .omega
    .have:=(qd k2 e.symm).1;omega
   .have:=aj.size;have:=ae.size;omega
  have Qkx:Tryz.prog.follows .mixedOrders=true:=by kernel_rfl
  clear ai Z G
  gi_wp2
  generalize dY t.1=tx at *;refine wpIn_region_any Qkx ?_
  (try (change wpAnyIn _ _ _ _ _ _ _ _ _ (World.drew _)))
  refine cF (rs:=[0,1]) (by kernel_rfl) (by simp) (cD rfl (λK d=>?_) (cD rfl (λK d=>?_) cE))
  .go_simp
   refine d _ _ ?_;clear d K;refine cF (rs:=[1]) (by kernel_rfl) (by simp) (cD rfl (λK d=>?_) cE)
   go_simp
   refine d _ _ ?_;clear d K;refine cF (rs:=[2]) (by kernel_rfl) (by simp) (cD rfl (λK d=>?_) cE)
   go_simp
   refine⟨trivial,?_⟩;refine (cL l' (cI.2 b4.o)).mono ?_;rintro e V1 ⟨rfl,aa⟩;have ay:=au.o V1 aa;have a6:∀O,aC (V1.alloc O) (Ad NB 0)=aV (aH z (aB pre) A):=λO=>au.o _ (aa.alloc aa.size O);refine d _ _ ?_;clear d K;refine cF (rs:=[3]) (by kernel_rfl) (by simp) (cD rfl (λK d=>?_) cE)
   go_simp
   refine d _ _ ?_;clear d K;refine cF (rs:=[4]) (by kernel_rfl) (by simp) (cH rfl rfl (λK d=>?_) cE);refine tK _ (.tmp 7) (.tmp 10) 22 rfl NB 9 i0 (aI ⟨#[]⟩) 1 16 cJ hi bj b0 bq rfl (by decide) (aH z (aB pre) A) _ _ rfl (bv.o V1 aa) ⟨V1.heap.size,0,aW⟩ 1 1 [aI tx] rfl rfl (cQ _ _ _) (by simp[bF]) bn bi (bu.o V1 aa) ?_;intro E w1 M am ci;obtain⟨g',ab,rfl,⟨cv,cd⟩,ce,ah⟩:=Qf.o V1 E w1 aa M am;refine d _ _ ?_;clear d K;refine cF (rs:=[5]) (by kernel_rfl) (by simp) (cD rfl (λK d=>?_) cE)
   go_simp
   refine d _ _ ?_;clear d K;refine cT (by kernel_rfl) ?_ _;exact ah
  .go_simp
   refine d _ _ ?_;clear d K;refine cF (rs:=[0,2]) (by kernel_rfl) (by simp) (cD rfl (λK d=>?_) (cD rfl (λK d=>?_) cE))
   .go_simp
    refine d _ _ ?_;clear d K;refine cF (rs:=[2]) (by kernel_rfl) (by simp) (cD rfl (λK d=>?_) cE)
    go_simp
    refine⟨trivial,?_⟩;refine (cL l' (cI.2 b4.o)).mono ?_;rintro e V1 ⟨rfl,aa⟩;have ay:=au.o V1 aa;have a6:∀O,aC (V1.alloc O) (Ad NB 0)=aV (aH z (aB pre) A):=λO=>au.o _ (aa.alloc aa.size O);refine d _ _ ?_;clear d K;refine cF (rs:=[3]) (by kernel_rfl) (by simp) (cD rfl (λK d=>?_) cE)
    go_simp
    refine d _ _ ?_;clear d K;refine cF (rs:=[4]) (by kernel_rfl) (by simp) (cH rfl rfl (λK d=>?_) cE);refine tK _ (.tmp 7) (.tmp 10) 22 rfl NB 9 i0 (aI ⟨#[]⟩) 1 16 cJ hi bj b0 bq rfl (by decide) (aH z (aB pre) A) _ _ rfl (bv.o V1 aa) ⟨V1.heap.size,0,aW⟩ 1 1 [aI tx] rfl rfl (cQ _ _ _) (by simp[bF]) bn bi (bu.o V1 aa) ?_;intro E w1 M am ci;obtain⟨g',ab,rfl,⟨cv,cd⟩,ce,ah⟩:=Qf.o V1 E w1 aa M am;refine d _ _ ?_;clear d K;refine cF (rs:=[5]) (by kernel_rfl) (by simp) (cD rfl (λK d=>?_) cE)
    go_simp
    refine d _ _ ?_;clear d K;refine cT (by kernel_rfl) ?_ _;exact ah
   .go_simp
    refine⟨trivial,?_⟩;refine (cL l' (cI.2 b4.o)).mono ?_;rintro e V1 ⟨rfl,aa⟩;have ay:=au.o V1 aa;have a6:∀O,aC (V1.alloc O) (Ad NB 0)=aV (aH z (aB pre) A):=λO=>au.o _ (aa.alloc aa.size O);refine d _ _ ?_;clear d K;refine cF (rs:=[0,3]) (by kernel_rfl) (by simp) (cD rfl (λK d=>?_) (cD rfl (λK d=>?_) cE))
    .go_simp
     refine d _ _ ?_;clear d K;refine cF (rs:=[3]) (by kernel_rfl) (by simp) (cD rfl (λK d=>?_) cE)
     go_simp
     refine d _ _ ?_;clear d K;refine cF (rs:=[4]) (by kernel_rfl) (by simp) (cH rfl rfl (λK d=>?_) cE);refine tK _ (.tmp 7) (.tmp 10) 22 rfl NB 9 i0 (aI ⟨#[]⟩) 1 16 cJ hi bj b0 bq rfl (by decide) (aH z (aB pre) A) _ _ rfl (bv.o V1 aa) ⟨V1.heap.size,0,aW⟩ 1 1 [aI tx] rfl rfl (cQ _ _ _) (by simp[bF]) bn bi (bu.o V1 aa) ?_;intro E w1 M am ci;obtain⟨g',ab,rfl,⟨cv,cd⟩,ce,ah⟩:=Qf.o V1 E w1 aa M am;refine d _ _ ?_;clear d K;refine cF (rs:=[5]) (by kernel_rfl) (by simp) (cD rfl (λK d=>?_) cE)
     go_simp
     refine d _ _ ?_;clear d K;refine cT (by kernel_rfl) ?_ _;exact ah
    .go_simp
     refine d _ _ ?_;clear d K;refine cF (rs:=[0]) (by kernel_rfl) (by simp) (cD rfl (λK d=>?_) cE)
     go_simp
     refine d _ _ ?_;clear d K;refine cF (rs:=[4]) (by kernel_rfl) (by simp) (cH rfl rfl (λK d=>?_) cE);refine tK _ (.tmp 7) (.tmp 10) 22 rfl NB 9 i0 (aI ⟨#[]⟩) 1 16 cJ hi bj b0 bq rfl (by decide) (aH z (aB pre) A) _ _ rfl (bv.o V1 aa) ⟨V1.heap.size,0,aW⟩ 1 1 [aI tx] rfl rfl (cQ _ _ _) (by simp[bF]) bn bi (bu.o V1 aa) ?_;intro E w1 M am ci;obtain⟨g',ab,rfl,⟨cv,cd⟩,ce,ah⟩:=Qf.o V1 E w1 aa M am;refine d _ _ ?_;clear d K;refine cF (rs:=[5]) (by kernel_rfl) (by simp) (cD rfl (λK d=>?_) cE)
     go_simp
     refine d _ _ ?_;clear d K;refine cT (by kernel_rfl) ?_ _;exact ah
