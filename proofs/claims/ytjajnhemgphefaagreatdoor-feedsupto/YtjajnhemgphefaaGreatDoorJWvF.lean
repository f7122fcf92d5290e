/- A part -/
import Derived.Test.YtjajnhemgphefaaGreatDoorJWvE
set_option linter.all false
set_option maxRecDepth 100000
set_option maxHeartbeats 4000000
open List renaming length->aB,eq_nil_of_length_eq_zero->aY,length_map->bB,length_filter_le->bD,mem_of_getElem?->bE
open Go.World renaming cell?->aC,frozen?->aD,ownsRow->aE,cell?_of_block->bC
open Go.Value renaming ownBlock->aF,slice->aH,string->aI,agg->aJ,bool->aK,tuple->aL,int->aM
open Go.Obj renaming cells->aN
open Go.Ending renaming returned->aO
open Go.IntKind renaming i64->aP
open Or renaming inl->aQ,inr->aR
open Option renaming some->aV,none->aW
open Go.RowKit.Below renaming heap_setCell->aX,refl->aZ,heap_alloc->bF
open Go.RowKit renaming Below->bG
open Go.Proofs.Tryz renaming results73->bH,ntmps73->bI,func73->bL
open Go renaming bodyPost_ret->bJ
open Go.Exit renaming normal->bO
namespace Go.Proofs.YtjajnhemgphefaaGreatDoor
open Go renaming World->Wq,Value->Vq
open Go.RowKit Go.Shelf
variable {P:Program} {Q:Exit->Act->Wq->Prop} {a:Act} {W:Wq}
def oY(T:Nat->Prop)(b:Nat)(y:Er)(i:Int)(W:Wq)(e:Ending)(w':Wq):Prop:=
 (¬(0<=i/\i<aB y.feeds)/\e=aO (aL #[aJ #[aM aP 0,aM aP 0,aI ⟨#[]⟩,aM aP 0],aM aP 6])/\bG W.heap.size W w')\/
 ∃(k:Nat) (f:Fr),i=k/\y.feeds[k]?=aV f/\e=aO (aL #[(lP y.mark y.state f).1.v,aM aP 0])/\Qu T b {y with feeds:=y.feeds.set k (lP y.mark y.state f).2} W w'
theorem ov{c:Code}{w:Wq}{A:Act}(hreg:Code.wp P c (λe' d w'=>match e' with|bO=>d=A/\w'=W|_=>False) a w)(hQ:Q bO A W):Code.wp P c Q a w:=by
 refine Code.wp_mono (λe' d w' z=>?_) hreg
 cases e'<;>first|exact z.elim|(obtain⟨rfl,rfl⟩:=z;exact hQ)
theorem Fy{c:Code}{w:Wq}{A:Nat->Nat->Act}{R:Wq->Nat->Nat->Prop}(hreg:Code.wp P c (λe' d w'=>match e' with|bO=>∃x y,d=A x y/\R w' x y|_=>False) a w)(hQ:∀w' x y,R w' x y->Q bO (A x y) w'):Code.wp P c Q a w:=by
 refine Code.wp_mono (λe' d w' z=>?_) hreg
 cases e'<;>first|exact z.elim|(obtain⟨x,y,rfl,C⟩:=z;exact hQ w' x y C)
theorem dJ.cut{gs ab c:Nat}{r:Rc}{l:List Rc}(h:dJ W (aH (aV ⟨gs,ab,aW⟩) (aB l+1) c) (r::l)):(c=1->dJ W (aH (aV ⟨gs,ab,aW⟩) (aB l) 0) l)/\(c≠1->dJ W (aH (aV ⟨gs,ab+4,aW⟩) (aB l) (c-1)) l)/\aC W (Ad gs ab)=aV (Ii r.kind)/\aC W (Ad gs (ab+1))=aV (Ii r.seq)/\aC W (Ad gs (ab+2))=aV (St r.text)/\aC W (Ad gs (ab+3))=aV (Ii r.time)/\gs<W.heap.size/\aB l+1<=c:=by
 rcases h with⟨e,_⟩|⟨g',M,E,ak,e,d,z,Z,h5,h6⟩
 .cases e
 .cases e;have A:∀j,j<(aB l+1)*4->ak[ab+j]?=((r::l).flatMap Rc.c)[j]?:=λj hj=>by grind
  have O:aB (l.flatMap Rc.c)=aB l*4:=pP l;refine⟨λe=>?_,λe=>?_,?_,?_,?_,?_,(zg d).1,z⟩;{have:l=[]:=aY (by simp at z;omega);subst this;exact aR ⟨gs,ab,0,ak,rfl,d,zz,zz,by omega,by simp⟩}
  .refine aR ⟨gs,ab+4,c-1,ak,rfl,d,by simp at z;omega,by omega,by simp at z;omega,?_⟩;have G:(ak.toList.drop ab).take (4+aB l*4)=r.c++l.flatMap Rc.c:=by{grind};have C:=congrArg (List.drop 4) G;rw[List.drop_take,List.drop_drop,show 4+aB l*4-4=aB l*4 by omega] at C;rw[C];rfl
  .simp only[aC,d];rw[show ak[ab]?=ak[ab+0]? from rfl,A 0 (by omega)];rfl
  .simp only[aC,d];rw[A 1 (by omega)];rfl
  .simp only[aC,d];rw[A 2 (by omega)];rfl
  .simp only[aC,d];rw[A 3 (by omega)];rfl
structure yq(f:Fr):Prop where
 snap:aB f.snap<=100000
 que:aB f.que<=50
 next:f.next<=1000000000000
 rel:f.rel.size<=2000
def tR(st:List Gr):Prop:=aB st<=2048/\∀g∈st,BN g
def Aj(T:Nat->Prop)(b:Nat)(y:Er)(W:Wq)(N g k:Nat)(nx:Int)(F:List Vq)(r:Rc)(X:Wq):Prop:=
 ∃Z V,(X.setCells g (k*5) F).drew=Z/\(((Z.setCell ⟨N,0,aW⟩ (aM aP r.kind)).setCell ⟨N,1,aW⟩ (aM aP nx)).setCell ⟨N,2,aW⟩ (aI r.text)).setCell ⟨N,3,aW⟩ (aM aP r.time)=V/\(∀j,aC X ⟨N+1,j,aW⟩=F[j]?)/\(∀j,aC Z ⟨N+1+1,j,aW⟩=[aM aP r.kind,aM aP nx,aI r.text,aM aP r.time][j]?)/\(∀j,aC Z ⟨N,j,aW⟩=[aM aP 0,aM aP 0,aI ⟨#[]⟩,aM aP 0][j]?)/\(∀j,aD Z ⟨N,j,aW⟩=false)/\(∀j,aC V ⟨N,j,aW⟩=[aM aP r.kind,aM aP nx,aI r.text,aM aP r.time][j]?)/\Hid (oY T b y k W (aO (aL #[aJ #[aM aP r.kind,aM aP nx,aI r.text,aM aP r.time],aM aP 0])) V)
theorem JM{T:Nat->Prop}{b:Nat}{y:Er}{vr vf vn vs vd:Vq}{qs:List (Rl×Vq×Vq)}{fs:List ((Gr×Int×Bool)×Vq)}{ss:List (Gr×Vq)}{ds:List (Fr×Vq×Vq)}(h:eI W T b y vr vf vn vs vd qs fs ss ds)(h3:aB y.feeds<=3)(hz:∀f∈y.feeds,yq f)(cz:tR y.state)(i:Int):Cs 73 #[Pt b,Ii i] W (oY T b y i W):=by
 have⟨da,dc,d7⟩:=qe h.feeds;have⟨sa,sc,dr⟩:=qe h.state.row;subst d7 dr;have c6:aB y.feeds=aB ds:=by rw[<-h.feedsm,bB]
 rw[c6] at h3;have HH:=aA h;obtain⟨N,hN⟩:∃N,W.heap.size=N:=⟨_,rfl⟩;obtain⟨W0,co⟩:∃W0,W.alloc (aN #[Ii 0,Ii 0,St ⟨#[]⟩,Ii 0] 71)=W0:=⟨_,rfl⟩;have ae:bG W.heap.size W W0:=by rw[<-co];exact (aZ _ W).alloc zl _
 have bk:W0.heap[N]?=cC #[Ii 0,Ii 0,St ⟨#[]⟩,Ii 0] 71:=by rw[<-co,<-hN];exact zn W _
 have HC:Hid (∀Y,bG W.heap.size W Y->aC Y (Ad b 5)=aV (Ii y.mark)/\aC Y (Ad b 8)=aV (aH sa (aB ss) sc)/\aC Y (Ad b 9)=aV (aH da (aB ds) dc)):=λY hY=>by have:=(h.below hY).box;exact⟨zc this,zc this,zc this⟩
 have⟨c5,c8,c9⟩:=HC.o W0 ae;have r0:∀j,aC W0 (Ad N j)=(#[Ii 0,Ii 0,St ⟨#[]⟩,Ii 0]:Array Vq)[j]?:=λj=>by simp[aC,bk]
 have u0:∀j,aD W0 (Ad N j)=false:=λj=>by simp[aD,bk]
 by_cases hi:0<=i/\i<(aB ds:Int)
 .obtain⟨k,rfl⟩:∃k:Nat,i=k:=⟨i.toNat,by omega⟩;have hk:k<aB ds:=by{omega};have⟨g,cap,e1,_,em,_,hc⟩:=iI (h.below ae).feeds (λ_=>rfl) (by omega);cases e1;obtain⟨p,hp⟩:∃p,ds[k]=p:=⟨_,rfl⟩;have bn:ds[k]?=aV p:=by{rw[List.getElem?_eq_getElem hk,hp]};have b0:p∈ds:=bE bn;have⟨⟨rel,bh,sn,qu,nx⟩,v2,v3⟩:=p;have b7:y.feeds[k]?=aV ⟨rel,bh,sn,qu,nx⟩:=by{rw[<-h.feedsm,List.getElem?_map,bn];rfl};have⟨bc,bu⟩:=h.feede _ b0;simp only at bc bu;have⟨z1,z2,z3,z4⟩:=hz _ (bE b7);simp only at z1 z2 z3 z4;have k0:aC W0 (Ad g (k*5))=aV (St rel):=by{have:=hc k 0 hk _ (by decide) rfl;rw[hp] at this;exact this};have k1:aC W0 (Ad g (k*5+1))=aV (aK bh):=by{have:=hc k 1 hk _ (by decide) rfl;rw[hp] at this;exact this};have k2:aC W0 (Ad g (k*5+2))=aV v2:=by{have:=hc k 2 hk _ (by decide) rfl;rw[hp] at this;exact this};have k3:aC W0 (Ad g (k*5+3))=aV v3:=by{have:=hc k 3 hk _ (by decide) rfl;rw[hp] at this;exact this};have k4:aC W0 (Ad g (k*5+4))=aV (Ii nx):=by{have:=hc k 4 hk _ (by decide) rfl;rw[hp] at this;exact this};have c0:∀{v:Vq} {l:List Rc},dJ W v l->∃a c,v=aH a (aB l) c:=λhr=>by{rcases hr with⟨rfl,rfl⟩|⟨g',ab,ao,ak,rfl,_⟩<;>exact⟨_,_,rfl⟩};obtain⟨n2,c2,rfl⟩:=c0 bc.1;obtain⟨n3,c3,rfl⟩:=c0 bu.1;have x1:¬(k:Int)<0:=by{omega};have x2:¬(aB ds:Int)<=(k:Int):=by{omega};have e4:g<W.heap.size:=h.lt g (h.feedsT g rfl);have ck:W0.heap.size=N+1:=by{rw[<-co,<-hN];simp};have cp:=(h.below ae).feeds
  have Qfx:Hid (∀(X V:Wq) (p':Fr×Vq×Vq) (G:Rc),bG W0.heap.size W0 X->jb (X.setCells g (k*5) (jf p')).drew N G=V->dJ X p'.2.1 p'.1.snap->dJ X p'.2.2 p'.1.que->(∀j,aF p'.2.1=aV j->aF (aH n2 (aB sn) c2)=aV j\/W0.heap.size<=j)->(∀j,aF p'.2.2=aV j->aF (aH n3 (aB qu) c3)=aV j\/W0.heap.size<=j)->(∀j,aF p'.2.2=aV j->aF p'.2.1≠aV j)->lP y.mark y.state ⟨rel,bh,sn,qu,nx⟩=(G,p'.1)->oY T b y k W (aO (aL #[G.v,Ii 0])) V):=λX Y p' G E dn q1 q2 q3 q4 q5 an=>by
   have⟨f1,f2,f3,f4,f5⟩:=qG g (jf p') (k*5) X;have hY:dD (X.setCells g (k*5) (jf p')) Y (λj=>j=N):=by{rw[<-dn];exact ((((dD.ofBelow (λj=>j=N) (aZ _ (X.setCells g (k*5) (jf p'))).drew).setCell (Ad N 0) _ (λ_=>rfl)).setCell (Ad N 1) _ (λ_=>rfl)).setCell (Ad N 2) _ (λ_=>rfl)).setCell (Ad N 3) _ (λ_=>rfl)};have ey:=E.size;have es:=hY.size;have d6:∀j,aF (aH n2 (aB sn) c2)=aV j->j<N:=λj C=>by{rw[<-hN];exact h.lt j (bc.2 j C)};have dy:∀j,aF (aH n3 (aB qu) c3)=aV j->j<N:=λj C=>by{rw[<-hN];exact h.lt j (bu.2 j C)};have ea:∃c,X.heap[g]?=cC c 246:=qh (qj cp E) rfl
   have cw:∀{v:Vq} {l:List Rc},dJ X v l->(∀j,aF v=aV j->j≠N)->dJ Y v l:=λ{v l} hr hne=>hr.keep (λj C=>by
    have⟨c,u,hc,hu⟩:=hr.ty C
    have ct:j≠g:=λe=>by
     have⟨c',dv⟩:=ea;rcases hr with⟨rfl,_⟩|⟨g',ab,cap,ak,rfl,h2,_⟩
     .cases C
     .cases C;have e':g'=g:=e;rw[e',dv] at h2;cases h2
    rw[hY.block j (by rw[f4];exact (zg hc).1) (hne j C),f5 j ct])
   have hP:=(h.putFeed bn (W':=Y) (p':=p') ⟨hY.os.trans (f1.trans (E.os.trans ae.os)),hY.tape.trans (f2.trans (E.tape.trans ae.tape)),hY.output.trans (f3.trans (E.output.trans ae.output)),by omega,λj C hn=>?_⟩ ?_ (cw q1 (λj C e=>?_)) (cw q2 (λj C e=>?_)) (λj C=>(q3 j C).imp id (λh=>by omega)) (λj C=>(q4 j C).imp id (λh=>by omega)) q5).1
   .refine aR ⟨k,_,rfl,b7,?_,?_⟩;{rw[an]};{rw[an];exact hP}
   .have ct:j≠g:=λe=>hn (aQ (by rw[e];rfl));rw[hY.block j (by omega) (λe=>by omega),f5 j ct,E.block j (by omega),ae.block j C]
   .have:=AE (qj cp E) (λ_=>rfl) hk p'
    exact qn this (λj C _=>by
     have e':g=j:=by{simpa [aF] using C};subst e'
     exact hY.block g (by omega) (λe=>by omega))
   .subst e;rcases q3 j C with h1|h1
    .have:=d6 j h1;omega
    .omega
   .subst e;rcases q4 j C with h1|h1
    .have:=dy j h1;omega
    .omega
  have d9:Hid (∀j,aF (aH n3 (aB qu) c3)=aV j->aF (aH n2 (aB sn) c2)≠aV j):=λj C=>(h.sepQ k k _ _ j bn bn C).2;have⟨cg,cx⟩:=qh (qj (h.below ae).feeds (aZ W0.heap.size W0)) (g:=g) rfl
  have a9:Hid (∀X,bG W0.heap.size W0 X->aC X (Ad b 9)=aV (Sc g (aB ds) dc)/\(aC X (Ad g (k*5))=aV (St rel)/\aC X (Ad g (k*5+1))=aV (aK bh)/\aC X (Ad g (k*5+2))=aV (aH n2 (aB sn) c2)/\aC X (Ad g (k*5+3))=aV (aH n3 (aB qu) c3)/\aC X (Ad g (k*5+4))=aV (Ii nx))/\(∀o,aD X (Ad g o)=false)/\X.heap[N]?=cC #[Ii 0,Ii 0,St ⟨#[]⟩,Ii 0] 71):=λX E=>by
   have a7:g<W0.heap.size:=by{omega};have bi:b<W0.heap.size:=by{have:=h.lt b h.own;omega};have hf:∀o,aD X (Ad g o)=false:=λo=>by{have:=(E.block g a7).trans cx;simp[aD,this]};exact⟨(E.cell (p:=⟨b,9,aW⟩) bi).trans c9,⟨(E.cell (p:=⟨g,k*5,aW⟩) a7).trans k0,(E.cell (p:=⟨g,k*5+1,aW⟩) a7).trans k1,(E.cell (p:=⟨g,k*5+2,aW⟩) a7).trans k2,(E.cell (p:=⟨g,k*5+3,aW⟩) a7).trans k3,(E.cell (p:=⟨g,k*5+4,aW⟩) a7).trans k4⟩,hf,(E.block N (by omega)).trans bk⟩
  have dx:Hid (∀X vs,bG W0.heap.size W0 X->(X.setCells g (k*5) vs).heap[N]?=cC #[Ii 0,Ii 0,St ⟨#[]⟩,Ii 0] 71):=λX vs E=>by{rw[(qG g vs (k*5) X).2.2.2.2 N (by omega)];exact (E.block N (by omega)).trans bk};have b6:Hid (dJ W0 (aH n2 (aB sn) c2) sn):=(((h.below ae).feede _ b0).1).1;have az:Hid (dJ W0 (aH n3 (aB qu) c3) qu):=(((h.below ae).feede _ b0).2).1
  have aw:Hid (∀(ah:Bool) (a2 a3:Option Addr) (l2 ad l3 af:Nat) (s2 s3:List Rc) (G:Rc) (X:Wq),bG W0.heap.size W0 X/\X.heap[N+1]?=cC #[St rel,aK ah,aH a2 l2 ad,aH a3 l3 af,Ii (nx+1)] 246/\X.heap[N+1+1]?=cC #[Ii G.kind,Ii nx,St G.text,Ii G.time] 71->dJ X (aH a2 l2 ad) s2->dJ X (aH a3 l3 af) s3->(∀j,aF (aH a2 l2 ad)=aV j->aF (aH n2 (aB sn) c2)=aV j\/W0.heap.size<=j)->(∀j,aF (aH a3 l3 af)=aV j->aF (aH n3 (aB qu) c3)=aV j)->lP y.mark y.state ⟨rel,bh,sn,qu,nx⟩=(⟨G.kind,nx,G.text,G.time⟩,⟨rel,ah,s2,s3,nx+1⟩)->Aj T b y W N g k nx [St rel,aK ah,aH a2 l2 ad,aH a3 l3 af,Ii (nx+1)] G X):=λah a2 a3 l2 ad l3 af s2 s3 G X E h2 h3 q2 q3 an=>by
   have⟨M,hF,eg⟩:=E;obtain⟨Z,hZ⟩:∃Z,(X.setCells g (k*5) [St rel,aK ah,aH a2 l2 ad,aH a3 l3 af,Ii (nx+1)]).drew=Z:=⟨_,rfl⟩;have hR:Z.heap[N+1+1]?=cC #[Ii G.kind,Ii nx,St G.text,Ii G.time] 71:=by{rw[<-hZ];exact ((qG g _ (k*5) X).2.2.2.2 (N+1+1) (by omega)).trans eg};have cr:Z.heap[N]?=cC #[Ii 0,Ii 0,St ⟨#[]⟩,Ii 0] 71:=by rw[<-hZ];exact dx.o X _ M
   have bf:=ui Z N ⟨G.kind,nx,G.text,G.time⟩ cr;obtain⟨V,hV⟩:∃V,jb Z N ⟨G.kind,nx,G.text,G.time⟩=V:=⟨_,rfl⟩;rw[hV] at bf;refine⟨Z,V,hZ,hV,λj=>by simp[aC,hF],λj=>by simp[aC,hR],λj=>by simp[aC,cr],λj=>by simp[aD,cr],λj=>by simp[aC,bf],Qfx.o X V (⟨rel,ah,s2,s3,nx+1⟩,aH a2 l2 ad,aH a3 l3 af) ⟨G.kind,nx,G.text,G.time⟩ M (by rw[<-hV,<-hZ];rfl) h2 h3 q2 (λj C=>aQ (q3 j C)) (λj C e=>?_) an⟩;rcases q2 j e with h1|h1
   .exact d9.o j (q3 j C) h1
   .have:=HH.o.lt j ((HH.o.feede _ b0).2.2 j (q3 j C));omega
  have au:Hid (∀(A B:Array Vq) (X:Wq),(W0.alloc (aN A 246)).alloc (aN B 71)=X->(bG W0.heap.size W0 X/\X.heap[N+1]?=cC A 246/\X.heap[N+1+1]?=cC B 71)/\∀(v:Vq) (l:List Rc),dJ W0 v l->dJ X v l):=λA B X E=>by
   have M:bG W0.heap.size W0 X:=by{rw[<-E];exact ((aZ _ W0).alloc zl _).alloc (by simp) _};refine⟨⟨M,?_,?_⟩,λv l hr=>hr.keep (λj C=>?_)⟩;{rw[<-E,<-ck];exact (bF _ _ _ (by simp)).trans (zn W0 _)};{rw[<-E];have:=zn (W0.alloc (aN A 246)) (aN B 71);rw[World.size_alloc,ck] at this;exact this};{have⟨c,u,hc,_⟩:=hr.ty C;exact M.block j (zg hc).1}
  have al:Hid (∀(ah:Bool) (a2 a3:Option Addr) (l2 ad l3 af:Nat) (s2 s3:List Rc) (G:Rc),dJ W0 (aH a2 l2 ad) s2->dJ W0 (aH a3 l3 af) s3->(∀j,aF (aH a2 l2 ad)=aV j->aF (aH n2 (aB sn) c2)=aV j\/W0.heap.size<=j)->(∀j,aF (aH a3 l3 af)=aV j->aF (aH n3 (aB qu) c3)=aV j)->lP y.mark y.state ⟨rel,bh,sn,qu,nx⟩=(⟨G.kind,nx,G.text,G.time⟩,⟨rel,ah,s2,s3,nx+1⟩)->∃X,(W0.alloc (aN #[St rel,aK ah,aH a2 l2 ad,aH a3 l3 af,Ii (nx+1)] 246)).alloc (aN #[Ii G.kind,Ii nx,St G.text,Ii G.time] 71)=X/\bG W0.heap.size W0 X/\Aj T b y W N g k nx [St rel,aK ah,aH a2 l2 ad,aH a3 l3 af,Ii (nx+1)] G X):=λah a2 a3 l2 ad l3 af s2 s3 G h2 h3 q2 q3 an=>by{have⟨M,hA⟩:=au.o #[St rel,aK ah,aH a2 l2 ad,aH a3 l3 af,Ii (nx+1)] #[Ii G.kind,Ii nx,St G.text,Ii G.time] _ rfl;exact⟨_,rfl,M.1,aw.o ah a2 a3 l2 ad l3 af s2 s3 G _ M (hA _ _ h2) (hA _ _ h3) q2 q3 an⟩};have ek:g≠N:=by{omega};clear h hc hi cx cp bc bu
  cases sn with
  |cons r l=>
   rcases b6.o with⟨e0,_⟩|⟨gs,ab,ao,ak,e0,_⟩
   .cases e0
   cases e0;have⟨t1,t2,s0,s1,s2,s3,ap,dz⟩:=b6.o.cut;have dq:(0:Int)<(aB (r::l):Int):=by simp
   have T1:=aA t1;have T2:=aA t2;have du:∀A B,aC ((W0.alloc A).alloc B) (Ad gs ab)=aV (Ii r.kind)/\aC ((W0.alloc A).alloc B) (Ad gs (ab+1))=aV (Ii r.seq)/\aC ((W0.alloc A).alloc B) (Ad gs (ab+2))=aV (St r.text)/\aC ((W0.alloc A).alloc B) (Ad gs (ab+3))=aV (Ii r.time):=λA B=>by{have M:bG W0.heap.size W0 ((W0.alloc A).alloc B):=((aZ _ W0).alloc zl _).alloc (by simp) _;exact⟨(M.cell (p:=⟨gs,ab,aW⟩) ap).trans s0,(M.cell (p:=⟨gs,ab+1,aW⟩) ap).trans s1,(M.cell (p:=⟨gs,ab+2,aW⟩) ap).trans s2,(M.cell (p:=⟨gs,ab+3,aW⟩) ap).trans s3⟩};clear t1 t2;by_cases bq:c2=1
   .subst bq;have ce:l=[]:=aY (by omega);subst ce;have⟨X,E,M,Z,V,hZ,hV,p,m,d,w,j,ai⟩:=al.o bh (aV ⟨gs,ab,aW⟩) n3 0 0 (aB qu) c3 [] qu r (T1.o rfl) az.o (λ_ C=>aQ C) (λ_ C=>C) rfl;have⟨e9,⟨f0,f1,f2,f3,f4⟩,g0,_⟩:=a9.o X M;clear aw al au M;go_enter bL,bI;go_wp2_with fail;apply ov (W:=Z)
    case hreg=>
     go_region_with (fail)
     all_goals exact⟨rfl,hZ⟩
    case hQ=>go_wp2;refine bJ (v:=aL #[aJ #[Ii r.kind,Ii nx,St r.text,Ii r.time],Ii 0]) (by simp[results,bH,go_sem,j]) rfl ?_;exact ai.o
   .have dl:0<c2-1:=by{omega};have⟨X,E,M,Z,V,hZ,hV,p,m,d,w,j,ai⟩:=al.o bh (aV ⟨gs,ab+4,aW⟩) n3 (aB l) (c2-1) (aB qu) c3 l qu r (T2.o bq) az.o (λ_ C=>aQ C) (λ_ C=>C) rfl;have⟨e9,⟨f0,f1,f2,f3,f4⟩,g0,_⟩:=a9.o X M;clear aw al au M;go_enter bL,bI;go_wp2_with fail;apply ov (W:=Z)
    case hreg=>
     go_region_with (fail)
     all_goals exact⟨rfl,hZ⟩
    case hQ=>go_wp2;refine bJ (v:=aL #[aJ #[Ii r.kind,Ii nx,St r.text,Ii r.time],Ii 0]) (by simp[results,bH,go_sem,j]) rfl ?_;exact ai.o
  |nil=>
   cases bh with
   |true=>
    clear al;obtain⟨W2,c7⟩:∃W2,(W0.alloc (aN #[St rel,aK false,aH n2 0 c2,aH n3 (aB qu) c3,Ii nx] 246)).alloc (aN #[Ii 1,Ii 0,St ⟨#[]⟩,Ii 0] 71)=W2:=⟨_,rfl⟩;have⟨⟨be,hF,hR⟩,_⟩:=au.o _ _ W2 c7;have bc:W2.heap.size=N+1+1+1:=by{rw[<-c7];simp[ck]};clear au;have Qgs:bG W.heap.size W W2:=ae.trans (be.mono ae.size);have cb:Hid (∀Y,bG W2.heap.size W2 Y->bG W.heap.size W Y/\gM Y (aH sa (aB ss) sc) ss/\aC Y (Ad b 5)=aV (Ii y.mark)/\aC Y (Ad b 8)=aV (aH sa (aB ss) sc)/\aC Y (Ad (N+1) 0)=aV (St rel)):=λY hY=>by{have h1:bG W.heap.size W Y:=Qgs.trans (hY.mono Qgs.size);have⟨q1,q2,_⟩:=HC.o Y h1;have q3:=(hY.block (N+1) (by omega)).trans hF;exact⟨h1,(HH.o.below h1).state,q1,q2,zc q3⟩};obtain⟨am,aq⟩:∃l,iU y.state rel=l:=⟨_,rfl⟩
    have de:Hid (Cs 127 #[aH sa (aB ss) sc,St rel] W2.drew λe w'=>∃ta tc,e=aO (aH ta (aB am) tc)/\(aC w' (Ad b 8)=aV (aH sa (aB ss) sc)/\aC w' (Ad (N+1) 0)=aV (St rel))/\Hid (qv w' (aH ta (aB am) tc) am/\bG W2.heap.size W2 w')):=by
     have cl:=cz;rw[<-HH.o.statem] at cl;refine (wb (aH sa (aB ss) sc) ss rel W2.drew (cb.o W2.drew zr.drew).2.1 (by have:=cl.1;rw[bB] at this;omega) (λp hp=>cl.2 p.1 (List.mem_map.2 ⟨p,hp,rfl⟩))).mono ?_;rintro e w' ⟨v',k1,k2,k3⟩;have e1:jy [] (lQ (ss.map (·.1)) rel)=am:=by{rw[HH.o.statem];exact aq};rw[e1] at k2;obtain⟨ta,tc,rfl⟩:=qe k2;have k4:bG W2.heap.size W2 w':=(aZ _ W2).drew.trans k3;have⟨_,_,_,q8,q0⟩:=cb.o w' k4;exact⟨ta,tc,k1,⟨q8,q0⟩,Qj k2 zz,k4⟩
    have⟨_,_,_,q8,q0⟩:=cb.o W2.drew zr.drew;go_enter bL,bI;go_wp2_with fail
    first|(go_region_held3 (λw'=>aC w' (Ad b 8)=aV (aH sa (aB ss) sc)/\aC w' (Ad (N+1) 0)=aV (St rel)) (first|with_reducible exact⟨q8,q0⟩|with_reducible assumption) (first|(go_at_call 127;refine Calls.mono de.o ?_;rintro e' W3 ⟨ta,tc,rfl,ee,bd⟩)|go_simp))|fail
    obtain⟨aa,ag⟩:∃l,Q1 2 am []=l:=⟨_,rfl⟩;have ec:aB am<=2048:=by{rw[<-aq];have hp:=(rX ((y.state.filter (lJ rel)).map j8) [] List.Pairwise.nil).2;rw[List.append_nil] at hp;have e1:aB (iU y.state rel)=_:=hp.length_eq;rw[e1,bB];exact Nat.le_trans (bD _ _) cz.1};have ep:aB aa<=2048:=by{rw[<-ag];unfold Q1;rw[bB];exact Nat.le_trans (bD _ _) ec};have ei:Hid (Cs 128 #[Ii 2,aH ta (aB am) tc,aH aW 0 0] W3 λe w'=>∃ca cc,e=aO (aH ca (aB aa) cc)/\(aC w' (Ad (N+1) 2)=aV (aH n2 0 c2)/\aD w' (Ad (N+1) 2)=false)/\Hid (aE w' W3.heap.size 71 4 (aH ca (aB aa) cc) (aB aa) (aa.flatMap Rc.c)/\bG W2.heap.size W2 w'/\W3.heap.size<=w'.heap.size)):=by{refine (uJ 2 (aH ta (aB am) tc) (aH aW 0 0) am [] W3 bd.o.1 zo (by omega) (by simp)).mono ?_;rintro e w' ⟨v',k1,k2,k3⟩;rw[ag] at k2;obtain⟨ca,cc,rfl⟩:=qe k2;have k4:bG W2.heap.size W2 w':=bd.o.2.trans (k3.mono bd.o.2.size);have q3:=(k4.block (N+1) (by omega)).trans hF;exact⟨ca,cc,k1,⟨zc q3,by simp[aD,q3]⟩,k2,k4,k3.size⟩};clear ee q8 q0 de
    go_wp2_with (go_at_call 128;refine Calls.mono ei.o ?_;rintro e' W4 ⟨ca,cc,rfl,⟨z2,zf⟩,aj⟩;obtain⟨W5,a8⟩:∃W5,W4.setCell (Ad (N+1) 2) (aH ca (aB aa) cc)=W5:=⟨_,rfl⟩)
    have⟨i0,eh,dt,cq,d8⟩:=info_parts Tryz.infoRec;obtain⟨O,hO⟩:∃O,aN #[Ii 4,Ii 0,St ⟨#[]⟩,Ii y.mark] 71 (0,0)=O:=⟨_,rfl⟩;have ch:W4.heap[N+1]?=cC #[St rel,aK false,aH n2 0 c2,aH n3 (aB qu) c3,Ii nx] 246:=(aj.o.2.1.block (N+1) (by omega)).trans hF;have bb:W5.heap[N+1]?=cC #[St rel,aK false,aH ca (aB aa) cc,aH n3 (aB qu) c3,Ii nx] 246:=by{rw[<-a8];exact qw ch 2 _};have bj:∀j,j≠N+1->W5.heap[j]?=W4.heap[j]?:=λj C=>by{rw[<-a8];exact aX W4 ⟨N+1,2,aW⟩ _ j C};have eo:W5.heap.size=W4.heap.size:=by{rw[<-a8];simp};have ez:=aj.o.2.1.size;have Qms:=aj.o.2.2;have el:=bd.o.2.size
    have ci:aE W5 W3.heap.size 71 4 (aH ca (aB aa) cc) (aB aa) (aa.flatMap Rc.c):=qn aj.o.1 (λj C _=>bj j (λe=>by
     have⟨c,hc⟩:=qh aj.o.1 C
     rw[e,ch] at hc;cases hc))
    have b9:aC W5 (Ad b 5)=aV (Ii y.mark):=by
     have q5:=(cb.o W4 aj.o.2.1).2.2.1;have d0:b≠N+1:=λe=>by{have:=HH.o.lt b HH.o.own;omega};rw[<-q5];exact bC (w:=W4) (a:=⟨b,5,aW⟩) (bj b d0)
    have s2:aC W5.drew (Ad (N+1) 2)=aV (aH ca (aB aa) cc):=by{show aC W5 _=_;simp[aC,bb]};have s5:aC W5.drew (Ad b 5)=aV (Ii y.mark):=b9;have b8:∀j,j<W5.heap.size->(W5.alloc O).heap[j]?=W5.heap[j]?:=λj C=>bF W5 O j C;have ej:b<W5.heap.size:=by{have:=HH.o.lt b HH.o.own;omega};have ed:aC (W5.alloc O).drew (Ad (N+1) 2)=aV (aH ca (aB aa) cc)/\aC (W5.alloc O).drew (Ad b 5)=aV (Ii y.mark):=by{have q:=(b8 (N+1) (by omega)).trans bb;refine⟨by show aC (W5.alloc O) _=_;simp[aC,q],?_⟩;rw[<-b9];exact bC (w:=W5) (a:=⟨b,5,aW⟩) (b8 b ej)};have cv:Hid (aE (W5.alloc O) 0 71 4 (aH ca (aB aa) cc) (aB aa) (aa.flatMap Rc.c)):=(Qj ci zz).alloc O;have df:Hid (∀(j:Nat) (u:Vq),[aM aP 4,Ii 0,St ⟨#[]⟩,Ii y.mark][j]?=aV u->aC (W5.alloc O) ((⟨W5.heap.size,0,aW⟩:Addr).add j)=aV u):=by{rw[<-hO];exact yg _ [_,_,_,_] _};have dh:∀j,aF (aH ca (aB aa) cc)=aV j->W3.heap.size<=j:=λj C=>(qd ci C).1;obtain⟨R6,dd⟩:∃R:Wq->Nat->Nat->Prop,R=λw' x z=>∃w1,w'=w1.setCell (Ad (N+1) 2) (Sc x (aB aa+1) z)/\aE w1 0 71 4 (Sc x (aB aa+1) z) (aB aa+1) (aa.flatMap Rc.c++[Ii 4,Ii 0,St ⟨#[]⟩,Ii y.mark])/\W3.heap.size<=x/\bG W3.heap.size W5 w1:=⟨_,rfl⟩
    have Qf:Hid (∀(w1:Wq) (x z:Nat),aE w1 0 71 4 (Sc x (aB aa+1) z) (aB aa+1) (aa.flatMap Rc.c++[Ii 4,Ii 0,St ⟨#[]⟩,Ii y.mark])->(W5.alloc O).grownBy w1 (aF (aH ca (aB aa) cc))->(aF (aH (aV ⟨x,0,aW⟩) (aB aa+1) z)=aF (aH ca (aB aa) cc)\/aF (aH (aV ⟨x,0,aW⟩) (aB aa+1) z)=aV (W5.alloc O).heap.size)->aC w1 (Ad (N+1) 2)=aV (aH ca (aB aa) cc)/\aD w1 (Ad (N+1) 2)=false/\aC w1 (Ad b 5)=aV (Ii y.mark)/\Hid (R6 (w1.setCell (Ad (N+1) 2) (Sc x (aB aa+1) z)) x z)):=λw1 x z ho hg eb=>by
     have cq:W5.heap.size<=w1.heap.size:=by{have:=hg.size;simp at this;omega};have bi:∀j,j<W3.heap.size->w1.heap[j]?=W5.heap[j]?:=λj C=>(hg.block j (by simp;omega) (λe=>by have:=dh j e.symm;omega)).trans (b8 j (by omega));have q1:=(bi (N+1) (by omega)).trans bb;have q2:aC w1 (Ad b 5)=aV (Ii y.mark):=by rw[<-b9];exact bC (w:=W5) (a:=⟨b,5,aW⟩) (bi b (by have:=HH.o.lt b HH.o.own;omega))
     refine⟨zc q1,by simp[aD,q1],q2,?_⟩;show R6 _ x z;rw[dd];refine⟨w1,rfl,ho,?_,⟨hg.os,hg.tape,hg.output,cq,bi⟩⟩;rcases eb with e|e
     .exact dh x e.symm
     .simp[aF] at e;omega
    have d5:aB aa+1<=maxLen:=by{unfold maxLen;omega};have dp:(aB aa+1)*40<=140737488355328:=by{omega};have⟨t2,t5⟩:=ed;clear b9 b8;apply Fy (R:=R6)
    case hreg=>
     (go_region_law (first|(refine tV rfl (.tmp 58) (.tmp 64) 196 rfl 0 71 i0 (aJ #[Ii 0,Ii 0,St ⟨#[]⟩,Ii 0]) 4 40 Tryz.underlying196 eh dt cq d8 rfl (by decide) (aH ca (aB aa) cc) (aB aa) (aa.flatMap Rc.c) (by simp[Act.eval,Act.put]) cv.o ⟨W5.heap.size,0,aW⟩ 1 1 [Ii 4,Ii 0,St ⟨#[]⟩,Ii y.mark] (by simp[Act.eval,Act.put]) rfl df.o (by simp[Value.oneCell']) d5 dp zz ?_;intro v' w1 av ac cf;have⟨g',ao,ef⟩:=ownsRow_succ av;subst ef;have⟨f6,y6,f5,d4⟩:=Qf.o w1 _ _ av ⟨ac.os,ac.tape,ac.output,ac.size,ac.block⟩ cf)|go_simp))
     all_goals exact⟨g',ao,rfl,d4.o⟩
    case hQ=>
     clear t2 t5 s2 s5 cv df Qf z2 zf;rintro w6 x6 z6 c1;rw[dd] at c1;obtain⟨w1,rfl,dg,eu,ax⟩:=c1;have en:=ax.size;have db:w1.heap[N+1]?=cC #[St rel,aK false,aH ca (aB aa) cc,aH n3 (aB qu) c3,Ii nx] 246:=(ax.block (N+1) (by omega)).trans bb;have di:w1.heap[N+1+1]?=cC #[Ii 1,Ii 0,St ⟨#[]⟩,Ii 0] 71:=((ax.block (N+1+1) (by omega)).trans (bj (N+1+1) (by omega))).trans ((aj.o.2.1.block (N+1+1) (by omega)).trans hR);obtain⟨W7,a6⟩:∃W7,w1.setCell (Ad (N+1) 2) (Sc x6 (aB aa+1) z6)=W7:=⟨_,rfl⟩;have b3:W7.heap[N+1]?=cC #[St rel,aK false,Sc x6 (aB aa+1) z6,aH n3 (aB qu) c3,Ii nx] 246:=by{rw[<-a6];exact qw db 2 _};have bv:∀j,j≠N+1->W7.heap[j]?=w1.heap[j]?:=λj C=>by{rw[<-a6];exact aX w1 ⟨N+1,2,aW⟩ _ j C};have cd:=(bv (N+1+1) (by omega)).trans di;have et:W7.heap.size=w1.heap.size:=by{rw[<-a6];simp};obtain⟨X,E⟩:∃X,(W7.setCell (Ad (N+1+1) 1) (Ii nx)).setCell (Ad (N+1) 4) (Ii (nx+1))=X:=⟨_,rfl⟩;have cj:∀j,j≠N+1->j≠N+1+1->X.heap[j]?=W7.heap[j]?:=λj h1 h2=>by{rw[<-E];exact (aX _ ⟨N+1,4,aW⟩ _ j h1).trans (aX W7 ⟨N+1+1,1,aW⟩ _ j h2)};have ew:X.heap.size=W7.heap.size:=by{rw[<-E];simp};have cu:X.heap[N+1]?=cC #[St rel,aK false,Sc x6 (aB aa+1) z6,aH n3 (aB qu) c3,Ii (nx+1)] 246:=by{rw[<-E];exact qw ((aX W7 ⟨N+1+1,1,aW⟩ _ (N+1) (by show N+1≠N+1+1;omega)).trans b3) 4 _};have dj:X.heap[N+1+1]?=cC #[Ii 1,Ii nx,St ⟨#[]⟩,Ii 0] 71:=by{rw[<-E];exact (aX _ ⟨N+1,4,aW⟩ _ (N+1+1) (by show N+1+1≠N+1;omega)).trans (qw cd 1 _)};have ay:∀j,j<N+1->X.heap[j]?=W0.heap[j]?:=λj C=>by rw[cj j (by omega) (by omega),bv j (by omega),ax.block j (by omega),bj j (by omega),aj.o.2.1.block j (by omega),be.block j (by omega)]
     have cn:bG W0.heap.size W0 X:=by
      have e1:=ax.os;have e2:=ax.tape;have e3:=ax.output;have d1:=aj.o.2.1.os;have d2:=aj.o.2.1.tape;have d3:=aj.o.2.1.output;refine⟨?_,?_,?_,by omega,λj C=>ay j (by omega)⟩;{rw[<-E,<-a6];exact e1.trans (by rw[<-a8];exact d1.trans be.os)};{rw[<-E,<-a6];exact e2.trans (by rw[<-a8];exact d2.trans be.tape)};{rw[<-E,<-a6];exact e3.trans (by rw[<-a8];exact d3.trans be.output)}
     have c4:(aa++[(⟨4,0,⟨#[]⟩,y.mark⟩:Rc)]).flatMap Rc.c=aa.flatMap Rc.c++[Ii 4,Ii 0,St ⟨#[]⟩,Ii y.mark]:=by rw[List.flatMap_append];rfl
     have dk:dJ X (Sc x6 (aB aa+1) z6) (aa++[⟨4,0,⟨#[]⟩,y.mark⟩]):=by
      refine dJ.own (b:=0) ?_;rw[c4,List.length_append];refine qn dg (λj C _=>?_);have e:x6=j:=by{simpa [aF] using C};subst e;rw[cj x6 (by omega) (by omega),bv x6 (by omega)]
     have cy:dJ X (aH n3 (aB qu) c3) qu:=az.o.keep (λj C=>by
      have⟨c,u,hc,_⟩:=az.o.ty C
      exact ay j (by have:=(zg hc).1;omega))
     have an:lP y.mark y.state ⟨rel,true,[],qu,nx⟩=(⟨1,nx,⟨#[]⟩,0⟩,⟨rel,false,aa++[⟨4,0,⟨#[]⟩,y.mark⟩],qu,nx+1⟩):=by unfold lP;simp only;rw[if_pos trivial,aq,ag]
     have Qlm:∀j,aF (aH (aV ⟨x6,0,aW⟩) (aB aa+1) z6)=aV j->aF (aH n2 (aB ([]:List Rc)) c2)=aV j\/W0.heap.size<=j:=λj C=>by
      have e:x6=j:=by{simpa [aF] using C};right;omega
     have⟨Z,V,hZ,hV,p,m,d,w,j,ai⟩:=aw.o false (aV ⟨x6,0,aW⟩) n3 (aB aa+1) z6 (aB qu) c3 (aa++[⟨4,0,⟨#[]⟩,y.mark⟩]) qu ⟨1,0,⟨#[]⟩,0⟩ X ⟨cn,cu,dj⟩ dk cy Qlm (λ_ C=>C) an;dsimp only at hV m j ai;have⟨e9,⟨f0,f1,f2,f3,f4⟩,g0,_⟩:=a9.o X cn;have a4:aC W7 (Ad (N+1) 4)=aV (Ii nx):=zc b3;have b4:aD W7 (Ad (N+1) 4)=false:=by{simp[aD,b3]};have a1:aC W7 (Ad (N+1+1) 1)=aV (Ii 0):=zc cd;have b1:aD W7 (Ad (N+1+1) 1)=false:=by{simp[aD,cd]};clear c4 an dk cy ay cn dj cu cj cd bv b3 di db dg ax ci bj bb ch aj bd hF hR aw ag aq;go_wp2_with fail;apply ov (W:=Z)
     case hreg=>
      go_region_with (fail)
      all_goals exact⟨rfl,hZ⟩
     case hQ=>go_wp2;refine bJ (v:=aL #[aJ #[Ii 1,Ii nx,St ⟨#[]⟩,Ii 0],Ii 0]) (by simp[results,bH,go_sem,j]) rfl ?_;exact ai.o
   |false=>
    cases qu with
    |nil=>
     have HD:Hid (∀V,bG W.heap.size W V->oY T b y k W (aO (aL #[aJ #[Ii 0,Ii 0,St ⟨#[]⟩,Ii 0],Ii 0])) V):=λV hV=>by
      refine aR ⟨k,_,rfl,b7,rfl,?_⟩;have dw:y.feeds.set k (⟨rel,false,[],[],nx⟩:Fr)=y.feeds:=by{have⟨h1,h2⟩:=List.getElem?_eq_some_iff.1 b7;rw[<-h2,List.set_getElem_self]};show Qu T b {y with feeds:=y.feeds.set k (⟨rel,false,[],[],nx⟩:Fr)} W V;rw[dw];exact Qu.same ⟨_,_,_,_,_,_,_,_,_,HH.o⟩ hV
     clear aw Qfx;obtain⟨X,E⟩:∃X,(W0.alloc (aN #[St rel,aK false,aH n2 0 c2,aH n3 0 c3,Ii nx] 246)).alloc (aN #[Ii 0,Ii 0,St ⟨#[]⟩,Ii 0] 71)=X:=⟨_,rfl⟩;have⟨⟨M,hF,hR⟩,_⟩:=au.o _ _ X E;clear al au;have⟨_,_,_,b5⟩:=a9.o X M;obtain⟨V,hV⟩:∃V,(((X.setCell (Ad N 0) (Ii 0)).setCell (Ad N 1) (Ii 0)).setCell (Ad N 2) (St ⟨#[]⟩)).setCell (Ad N 3) (Ii 0)=V:=⟨_,rfl⟩;have bf:V.heap[N]?=cC #[Ii 0,Ii 0,St ⟨#[]⟩,Ii 0] 71:=by rw[<-hV];exact ui X N ⟨0,0,⟨#[]⟩,0⟩ b5
     have ai:Hid _:=HD.o V (by
      rw[<-hV];have h1:bG W.heap.size W X:=ae.trans (M.mono ae.size)
      exact (((h1.setCell (p:=⟨N,0,aW⟩) (by show _<=N;omega) _).setCell (p:=⟨N,1,aW⟩) (by show _<=N;omega) _).setCell (p:=⟨N,2,aW⟩) (by show _<=N;omega) _).setCell (p:=⟨N,3,aW⟩) (by show _<=N;omega) _)
     have d:∀j,aC X (Ad N j)=[aM aP 0,Ii 0,St ⟨#[]⟩,Ii 0][j]?:=λj=>by{simp[aC,b5]};have w:∀j,aD X (Ad N j)=false:=λj=>by{simp[aD,b5]};have p:∀j,aC X (Ad (N+1) j)=[aI rel,aK false,aH n2 0 c2,aH n3 0 c3,Ii nx][j]?:=λj=>by{simp[aC,hF]};have m:∀j,aC X (Ad (N+1+1) j)=[aM aP 0,Ii 0,St ⟨#[]⟩,Ii 0][j]?:=λj=>by{simp[aC,hR]};have j:∀j,aC V (Ad N j)=[aM aP 0,Ii 0,St ⟨#[]⟩,Ii 0][j]?:=λj=>by{simp[aC,bf]};clear b5 bf hF hR HD;go_enter bL,bI;go_wp2;refine bJ (v:=aL #[aJ #[Ii 0,Ii 0,St ⟨#[]⟩,Ii 0],Ii 0]) (by simp[results,bH,go_sem,j]) rfl ?_;exact ai.o
    |cons r l=>
     rcases az.o with⟨e0,_⟩|⟨gs,ab,ao,ak,e0,_⟩
     .cases e0
     cases e0;have⟨t1,t2,s0,s1,s2,s3,ap,dz⟩:=az.o.cut;have dq:(0:Int)<(aB (r::l):Int):=by simp
     have T1:=aA t1;have T2:=aA t2;have du:∀A B,aC ((W0.alloc A).alloc B) (Ad gs ab)=aV (Ii r.kind)/\aC ((W0.alloc A).alloc B) (Ad gs (ab+1))=aV (Ii r.seq)/\aC ((W0.alloc A).alloc B) (Ad gs (ab+2))=aV (St r.text)/\aC ((W0.alloc A).alloc B) (Ad gs (ab+3))=aV (Ii r.time):=λA B=>by{have M:bG W0.heap.size W0 ((W0.alloc A).alloc B):=((aZ _ W0).alloc zl _).alloc (by simp) _;exact⟨(M.cell (p:=⟨gs,ab,aW⟩) ap).trans s0,(M.cell (p:=⟨gs,ab+1,aW⟩) ap).trans s1,(M.cell (p:=⟨gs,ab+2,aW⟩) ap).trans s2,(M.cell (p:=⟨gs,ab+3,aW⟩) ap).trans s3⟩};clear t1 t2;by_cases bq:c3=1
     .subst bq;have ce:l=[]:=aY (by omega);subst ce;have⟨X,E,M,Z,V,hZ,hV,p,m,d,w,j,ai⟩:=al.o false n2 (aV ⟨gs,ab,aW⟩) 0 c2 0 0 [] [] r b6.o (T1.o rfl) (λ_ C=>aQ C) (λ_ C=>C) rfl;have⟨e9,⟨f0,f1,f2,f3,f4⟩,g0,_⟩:=a9.o X M;clear aw al au M;go_enter bL,bI;go_wp2_with fail;apply ov (W:=Z)
      case hreg=>
       go_region_with (fail)
       all_goals exact⟨rfl,hZ⟩
      case hQ=>go_wp2;refine bJ (v:=aL #[aJ #[Ii r.kind,Ii nx,St r.text,Ii r.time],Ii 0]) (by simp[results,bH,go_sem,j]) rfl ?_;exact ai.o
     .have dl:0<c3-1:=by{omega};have⟨X,E,M,Z,V,hZ,hV,p,m,d,w,j,ai⟩:=al.o false n2 (aV ⟨gs,ab+4,aW⟩) 0 c2 (aB l) (c3-1) [] l r b6.o (T2.o bq) (λ_ C=>aQ C) (λ_ C=>C) rfl;have⟨e9,⟨f0,f1,f2,f3,f4⟩,g0,_⟩:=a9.o X M;clear aw al au M;go_enter bL,bI;go_wp2_with fail;apply ov (W:=Z)
      case hreg=>
       go_region_with (fail)
       all_goals exact⟨rfl,hZ⟩
      case hQ=>go_wp2;refine bJ (v:=aL #[aJ #[Ii r.kind,Ii nx,St r.text,Ii r.time],Ii 0]) (by simp[results,bH,go_sem,j]) rfl ?_;exact ai.o
 .have hP:Hid (∀e,e=aO (aL #[aJ #[Ii 0,Ii 0,St ⟨#[]⟩,Ii 0],Ii 6])->oY T b y i W e (jb W0 N ⟨0,0,⟨#[]⟩,0⟩)):=λe he=>aQ ⟨by rw[c6];exact hi,he,(((ae.setCell (p:=⟨N,0,aW⟩) (by show _<=N;omega) _).setCell (p:=⟨N,1,aW⟩) (by show _<=N;omega) _).setCell (p:=⟨N,2,aW⟩) (by show _<=N;omega) _).setCell (p:=⟨N,3,aW⟩) (by show _<=N;omega) _⟩;have q:∀j,aC W0 (Ad N j)=(#[Ii 0,Ii 0,St ⟨#[]⟩,Ii 0]:Array Vq)[j]?:=λj=>by{simp[aC,bk]};by_cases h0:i<0;{clear hi;go_enter bL,bI;go_wp2;refine bJ (v:=aL #[aJ #[Ii 0,Ii 0,St ⟨#[]⟩,Ii 0],Ii 6]) (by simp[results,bH,go_sem,q]) rfl ?_;exact hP.o _ rfl}
  .have h1:(aB ds:Int)<=i:=by{omega};clear hi;go_enter bL,bI;go_wp2;refine bJ (v:=aL #[aJ #[Ii 0,Ii 0,St ⟨#[]⟩,Ii 0],Ii 6]) (by simp[results,bH,go_sem,q]) rfl ?_;exact hP.o _ rfl
