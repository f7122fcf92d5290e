/- A part -/
import Derived.Test.YtjajnhemgphefaaGreatDoorQWyT
import Derived.Test.YtjajnhemgphefaaGreatDoorQEgV
import Derived.Test.YtjajnhemgphefaaGreatDoorCards
import Derived.Test.YtjajnhemgphefaaGreatDoorTie
import Derived.ProofKit
import Derived.OpenShut
import Derived.Carry
import Derived.Deep.DeepHandedRow
import Derived.Lib.LaidU8T
import Derived.SevenTiedAt
import Derived.Deep.Slices
import Derived.Deep.AppendSrc
set_option linter.all false
set_option maxRecDepth 100000
set_option maxHeartbeats 4000000
open List renaming length->aD,mem_of_getElem?->bB,mem_map->bD,length_append->bE,getElem?_eq_getElem->bF,getElem?_eq_some_iff->bG,mem_append->bH,append_assoc->bI,mem_singleton->bJ,range->bL,mem_cons->bO,take_of_length_le->bQ,getElem_of_mem->bU,length_map->bX,mem_flatMap->cE,take_succ_eq_append_getElem->cF,length_cons->cG,length_set->cH,mem_filter->cI,mem_range->cJ,getElem?_append_right->cL,flatMap_cons->cM,getElem?_append_left->cO,not_mem_nil->cP,take_append->cR,append_cancel_left->cS,map_congr_left->cW,takeWhile_cons->cX,cons->dA,length_range->dC,filter_congr->dD,any_eq_true->dG,drop_append->dH,filter_map->dI,take_left'->dJ,drop_take->dL,Pairwise->dM,map_map->dO
open Go.World renaming cell?->aE,frozen?->aF,ownsRow->aH
open Go.Value renaming ownBlock->aI,slice->aJ,string->aK,agg->aL,bool->aM,tuple->aN,int->aO,oneCell'->dK
open Go.Obj renaming cells->aP
open Go.Ending renaming returned->aQ
open Go.IntKind renaming i64->aR
open Or renaming inl->aS,inr->aU
open Option renaming some->aX,none->aY,isSome_iff_exists->cQ
open Go.Calls renaming mono->bC
open Go.RowKit.Below renaming heap_alloc->bT,refl->cA,heap_setCell->dB
open Nat renaming lt_of_lt_of_le->bZ,add_assoc->cD,mul_le_mul_right->cU,le_trans->cZ,le_refl->dE,add_mul->dF
open ByteArray renaming data_extract->cT,size_append->dP
open Go.RowKit renaming Below->dQ
open Go.Lib renaming Utf8Tabs->dR
open Go.Proofs renaming Utf8Tabs_below->dS
open Go.Proofs.Tryz renaming underlying3->dT,prog->dU
open Go.DataW renaming trod_int->dV
open Go.Utf8 renaming decode->dW
open Go.Builtin renaming append_->dX
open Bool renaming eq_iff_iff->dY
namespace Go.Proofs.YtjajnhemgphefaaGreatDoor
open Go renaming World->Wq,Value->Vq
open Go.RowKit Go.Shelf
variable {rs:List Rl} {e:Eg} {y:Er} {ds:List Dk} {W W' W1 W2:Wq} {k n':Nat} {F:Nat->Eg->Er->Prop} {Q:Nat->Prop} {vl:Vq}
def Ar(h:nN rs):sK (fG rs) rs:=by
 refine⟨λr C a z=>?_,λr C v E=>?_⟩
 .have A:a∈rs.flatMap Qa:=cE.2 ⟨r,C,z⟩;exact⟨⟨(h.c a A).2,h.f a A⟩,(h.c a A).1⟩
 have⟨t,ht,h1,h2⟩:=E;have⟨a,z,u,hu,h3,h4⟩:=h.j r C t ht ((lN _).1 h1);exact⟨a,z,u,hu,(lN _).2 h3,h4.t h2⟩
def OP(h:fP e)(E:eB∉e.c):oL e.z e.c:=by
 refine⟨λr z=>⟨(h.z.d r z).n,λa G=>?_,(Ar h.z).j r z⟩,h.A,E,λr z t A M=>h.v r z t A (λe=>?_),?_⟩
 .have C:a∈e.z.flatMap Qa:=cE.2 ⟨r,z,G⟩;exact⟨by have:=(h.z.c a C).2;lia,λt A=>by have:=h.z.f a C t A;lia⟩
 .grind [qj,eB,pB]
 have:=Au e.z (λr z=>(h.z.d r z).n);have:=h.z.o;lia
def KH(h:fP e){g:Gd}(G:g∈jG (jK e.z) e.c)(M:gN (fG e.z) g):mJ e.z e.c (fM g):=by
 have⟨hr,hx,hy⟩:=qY.1 G;unfold jK at hr;have⟨a,ha,hrel⟩:=bD.1 hr;have E:=(h.z.c a ha).1;rw[hrel] at E;obtain⟨j4,⟨O,A⟩|⟨O,A⟩⟩:=M
 .have C:fM g=⟨g.j,[g.x]⟩:=by{unfold fM;rw[if_pos (by exact (lN _).2 A)]};rw[C];exact⟨⟨a,ha,hrel.s,by simp;lia⟩,λx z=>by simp at z;rwa[z]⟩
 have C:fM g=⟨g.j,[g.x,g.y]⟩:=by unfold fM;rw[if_neg (by intro e;exact A ((lN _).1 e))]
 rw[C];refine⟨⟨a,ha,hrel.s,by simp;lia⟩,λx z=>?_⟩;simp at z;obtain rfl|rfl:=z
 .exact hx
 grind
def jM.a(h:jM e y ds)(ab:fP e):Aq y:=by
 have C:oL y.z y.c:=by have:=OP ab (h.c▸h.q);rwa[h.z,h.c] at this
 refine⟨C,λf z=>?_,h.i⟩;have hs:=h.v;unfold oK at hs;rw[hs] at z;obtain⟨d,hd,rfl⟩:=bD.1 z;have A:=ab.o (d.1,d.2.1) (h.o▸bD.2 ⟨d,hd,rfl⟩);have:=KH ab A.1 A.2.1;rwa[h.z,h.c] at this
def jM.B(h:jM e y ds)(ab:fP e)(C:aD y.a<=3):wJ y:=by
 have z:=h.a ab;have M:aD y.v=aD e.o:=by rw[h.o,h.v];simp
 refine⟨h.z▸ab.z.o,λr G=>(ab.z.d r (h.z▸G)).n,h.j▸ab.j,h.u▸ab.u,h.w▸ab.w,h.h▸ab.h,h.r.2,by have:=ab.m;lia,λf A=>⟨B0 z.a (z.c f A),?_⟩,h.c▸ab.A,?_,C⟩
 .have hs:=h.v;unfold oK at hs;rw[hs] at A;obtain⟨d,hd,rfl⟩:=bD.1 A;exact (ab.o (d.1,d.2.1) (h.o▸bD.2 ⟨d,hd,rfl⟩)).2.2
 exact cZ (xK y.n _ h.s (λg E=>GS z.a (h.i g E))) (Du z.a)
def jM.C(h:jM e y ds)(ab:fP e):∀d∈ds,rY (fG e.z) d.1:=λd hd=>zP.1 (ab.o (d.1,d.2.1) (h.o▸bD.2 ⟨d,hd,rfl⟩)).2.1
def jM.p(h:jM e y ds)(ab:fP e)(g:Gd):(e.M g).isSome=true↔fM g∈y.n:=by rw[h.n,<-h.z,<-h.j,<-h.h];exact Jr (Ar ab.z) h.v (h.C ab) h.f (by have:=ab.h;lia) h.t g
theorem LS(h:jM e y ds)(ab:fP e)(s:ByteArray){r:Int×Int}(z:sO y s r):pW e s=r:=by
 unfold sO at z;rw[yN] at z;unfold pW;cases ha:jN s with
 |none=>rw[ha] at z;exact z.s
 |some a=>
  rw[ha] at z;simp only at z ⊢;rw[DD] at z;cases hg:kB a with
  |false=>rw[hg] at z;simp only[Bool.false_eq_true,if_false] at z;rw[if_pos rfl];exact z.s
  |true=>
   rw[hg] at z;simp only[if_true,G5,<-h.z] at z;rw[if_neg (by lia)];by_cases A:gR e.z a=0
   .rw[if_pos A];rw[if_neg (by simpa using A)] at z;have O:=Gu hg (GQ ab A);rw[<-O] at z;have E:=h.p ab (qb Ql a);cases hm:e.M (qb Ql a) with
    |none=>grind [lV,fM,qb,Ql,BR]
    |some u=>
     rw[hm] at E;have G:=(BR _ _).2 (E.1 rfl);rw[G,if_neg (by lia)] at z;obtain⟨P,C,rfl⟩:=z;have hw:=ab.j;have:=Lc (m:=e.h) (Ar ab.z) h.v (h.C ab) h.f (λd hd _=>by
      have:=(ab.o (d.1,d.2.1) (h.o▸bD.2 ⟨d,hd,rfl⟩)).2.2;simp only at this
      lia) (qb Ql a) hm P (by rw[h.j,h.z];rwa[h.z] at C)
     rw[h.j] at this;rw[this];rfl
   grind
def Im{s:ByteArray}(A:zk s rs){win z que:Int}(E:mM win z que){M:Gd->Option Int}(C:kD rs (Qx rs) M){st:List Gr}(hs:tD rs [] (fF [] (Q3 (fK rs))) st):jM (uA rs win z que M) (tT rs win z que st) []:=by have⟨h1,h2,h3⟩:=E;refine⟨rfl,rfl,rfl,rfl,rfl,⟨by show (0:Int)-z<=0;lia,by show (0:Int)<=0;lia,by show (0:Int)<=1000000;lia⟩,A.c,?_,rfl,rfl,C,λd hd=>(by cases hd),hs.1.s,hs.1.o,hs.2⟩;show eB∉fF [] (Q3 (fK rs));rw[<-A.c];exact A.q
structure Pr where
 d:Nat
 a:Nat
 e:Eg
 y:Er
 c:List Dk
 S:Nat->Prop
 T:Nat->Prop
def Pr.U(p:Pr)(k:Nat):Prop:=p.S k\/p.T k
def kO(W:Wq)(k:Nat):Prop:=kX W k\/kJ W k
def kJ.lt(h:kJ W k):k<W.heap.size:=by have⟨c,t,h1,_⟩:=h;exact (zg h1).1
def kO.lt(h:kO W k):k<W.heap.size:=h.elim kX.lt kJ.lt
def kJ.n(h:kJ W k):pY W k:=by have⟨c,t,h1,h2⟩:=h;exact⟨c,t,h1,by obtain rfl|rfl|rfl|rfl|rfl|rfl:=h2<;>decide⟩
def kO.n(h:kO W k):pY W k:=h.elim kX.n kJ.n
theorem kO.c{c:Array Vq}{t:TypeId}(h:W.heap[k]?=cC c t)(z:t≠101/\t≠161/\t≠120/\t≠198/\t≠71/\t≠9)(C:t≠222/\t≠233/\t≠226/\t≠246):¬kO W k:=by
 rintro (A|⟨c',M,E,G⟩)
 .exact kX.c h z A
 grind
def jD.a{S:Nat->Prop}{z:Nat}(h:jD W S z e):∀k,S k->kX W k:=by have⟨vr,vn,vk,vf,bm,rb,j3,kj,kn,Sf,hv⟩:=h;exact hv.w
structure kV(W:Wq)(p:Pr):Prop where
 x:jD W p.S p.d p.e
 y:oA W p.T p.a p.y
 i:∀k,p.T k->kJ W k
 r:∀k,p.S k->¬p.T k
def kV.a{p:Pr}(h:kV W p):∀k,p.U k->kO W k:=λk A=>A.elim (λz=>aS (h.x.a k z)) (λz=>aU (h.i k z))
def Ec{ex:Nat->Prop}(C:fC W W' ex)(E:∀k,k<W.heap.size->ex k->kO W k):tC W W':=λk c t G A=>by
 have z:=(zg A).1;refine C.h k z (λe=>kO.c A ?_ ?_ (E k z e))
 .grind
 .grind
def oA.E{T:Nat->Prop}{b:Nat}(h:oA W T b y)(C:W.heap.size<=W'.heap.size)(z:∀k,T k->W'.heap[k]?=W.heap[k]?)(A:tC W W'):oA W' T b y:=by have⟨vr,vf,vn,vs,vd,qs,fs,ss,ds,hv⟩:=h;exact⟨vr,vf,vn,vs,vd,qs,fs,ss,ds,hv.E C z A⟩
def kV.E{p:Pr}(h:kV W p){ex:Nat->Prop}(A:fC W W' ex)(C:∀k,p.U k->¬ex k)(E:∀k,k<W.heap.size->ex k->kO W k):kV W' p:=by have z:=λk z=>A.h k (h.a k z).lt (C k z);exact⟨h.x.v A (λk z=>C k (aS z)) (λk G M=>(E k G M).n),h.y.E A.size (λk af=>z k (aU af)) (Ec A E),λk af=>(h.i k af).u (z k (aU af)),h.r⟩
def Q4(p:Pr)(W:Wq)(p':Pr)(W':Wq):Prop:=kV W' p'/\p'.d=p.d/\p'.a=p.a/\(∀k,p'.U k->p.U k\/W.heap.size<=k)/\fC W W' p.U
def Q4.u{p:Pr}(h:kV W p)(z:dQ W.heap.size W W'):Q4 p W p W':=
 ⟨h.E (fC.d (λ_=>False) z) (λ_ _=>id) (λ_ _=>False.elim),rfl,rfl,λk A=>aS A,fC.d _ z⟩
def Q4.trans{p A C:Pr}(h:Q4 p W A W1)(k:Q4 A W1 C W2):Q4 p W C W2:=by
 have⟨h1,h2,h3,h4,h5⟩:=h;have⟨k1,k2,k3,k4,k5⟩:=k;have M:=h5.size;refine⟨k1,k2.t h2,k3.t h3,λj G=>?_,⟨k5.os.t h5.os,k5.tape.t h5.tape,k5.output.t h5.output,cZ h5.size k5.size,λi z E=>(k5.h i (bZ z h5.size) (λe=>?_)).t (h5.h i z E)⟩⟩
 .grind
 grind
def kV.d{p:Pr}(h:kV W p){e':Eg}(G:Qn p.S p.d e' W W')(E:List Dk):∃S',Q4 p W {p with e:=e',S:=S',c:=E} W':=by
 have⟨S',h1,h2,h3⟩:=G;have C:=λk z=>h3.h k (h.i k z).lt (λe=>h.r k e z);refine⟨S',⟨h1,h.y.E h3.size C (Ec h3 (λk _ e=>aS (h.x.a k e))),λk z=>(h.i k z).u (C k z),λk z af=>?_⟩,rfl,rfl,λk z=>?_,h3.mono (λk _ z=>aS z)⟩
 .obtain A|A:=h2 k z;{exact h.r k A af};have:=(h.i k af).lt;lia
 obtain z|z:=z
 .exact (h2 k z).imp aS id
 exact aS (aU z)
def kV.f{p:Pr}(h:kV W p){A:Er}(M:Q0 p.T p.a A W W')(C:List Dk):∃T',Q4 p W {p with y:=A,T:=T',c:=C} W':=by
 have⟨⟨T',h1,h2⟩,h3⟩:=M;have G:=h.r;refine⟨λk=>T' k/\kJ W' k,⟨h.x.v h3 G (λk _ e=>(h.i k e).n),h1.K,λk z=>z.2,λk z af=>?_⟩,rfl,rfl,λk z=>?_,h3.mono (λk _ z=>aU z)⟩
 .obtain E|E:=h2 k af.1;{grind};have:=(h.x.a k z).lt;lia
 obtain z|z:=z
 .exact aS (aS z)
 exact (h2 k z.1).imp aU id
structure nJ(F:Nat->Eg->Er->Prop)(n:Nat)(p:Pr):Prop where
 o:fP p.e
 j:jM p.e p.y p.c
 c:aD p.y.a<=3
 a:F n p.e p.y
def qS(p:Pr):List Vq:=[.pointer (aX ⟨p.d,0,aY⟩),.pointer (aX ⟨p.a,0,aY⟩)]
structure qM(F:Nat->Eg->Er->Prop)(n:Nat)(w:Wq)(Q:Nat->Prop)(vl:Vq)(ps:List Pr)(W:Wq):Prop where
 h:aH W w.heap.size 81 2 vl (aD ps) (ps.flatMap qS)
 z:∀p∈ps,kV W p/\nJ F n p
 v:∀p∈ps,∀k,p.U k->w.heap.size<=k/\¬Q k
 r:∀(i j:Nat) (p q:Pr),ps[i]?=aX p->ps[j]?=aX q->i≠j->∀k,p.U k->¬q.U k
 f:dQ w.heap.size w W
 q:∀k,Q k->k<W.heap.size
def qM.c{n:Nat}{w:Wq}{ps:List Pr}(h:qM F n w Q vl ps W)(hF:∀e y,F n e y->F n' e y){i:Nat}{p p':Pr}(M:ps[i]?=aX p)(hp:Q4 p W p' W')(ab:nJ F n' p'):qM F n' w Q vl (ps.set i p') W':=by
 have⟨h1,h2,h3,h4,h5⟩:=hp;have aq:=bB M;have bn:∀k,k<W.heap.size->p.U k->kO W k:=λk _ z=>(h.z p aq).1.a k z;have ax:=(bG.1 M).1;have kh:ps[i]=p:=(bG.1 M).2;have ik:(ps.set i p').flatMap qS=ps.flatMap qS:=by
  have he:qS p'=qS p:=by{grind [qS]};clear h h1 h4 h5 bn aq;induction ps generalizing i with
  |nil=>rfl
  |cons q ps ih=>
   cases i with
   |zero=>grind
   |succ i=>grind
 have O:∀(j:Nat)(q:Pr),(ps.set i p')[j]?=aX q->(j=i/\q=p')\/(j≠i/\ps[j]?=aX q):=λj q A=>by grind
 have Qh3:=λj q C A=>(h.z q (bB A)).1.E h5 (λk z=>h.r j i q p A M C k z) bn;have Qp0:∀(j:Nat)(q:Pr),j≠i->ps[j]?=aX q->∀k,q.U k->¬p'.U k:=λj q C A k z af=>by obtain G|G:=h4 k af;{exact h.r j i q p A M C k z G};have:=((h.z q (bB A)).1.a k z).lt;lia
 refine⟨?_,λq A=>?_,λq A k z=>?_,λj l q r A hr g9 k z af=>?_,?_,λk z=>bZ (h.q k z) h5.size⟩
 .rw[cH,ik];refine qm h.h (λg hg hl=>h5.h g hl (λe=>?_));have⟨c,hc⟩:=qg h.h hg;exact kO.c hc (by lia) (by lia) (bn g hl e)
 .obtain⟨j,C,rfl⟩:=bU A;obtain⟨_,e⟩|⟨e,E⟩:=O j _ (bF C);{grind};have:=(h.z _ (bB E)).2;exact⟨Qh3 j _ e E,⟨this.o,this.j,this.c,hF _ _ this.a⟩⟩
 .obtain⟨j,C,rfl⟩:=bU A;obtain⟨_,e⟩|⟨e,E⟩:=O j _ (bF C);{rw[e] at z;obtain G|G:=h4 k z;{exact h.v p aq k G};have:=h.f.s;refine⟨by lia,λhQ=>?_⟩;have:=h.q k hQ;lia};exact h.v _ (bB E) k z
 .obtain⟨rfl,rfl⟩|⟨e,E⟩:=O j q A;{grind};obtain⟨rfl,rfl⟩|⟨e',ay⟩:=O l r hr;{grind};exact h.r j l q r E ay g9 k z af
 exact h.f.t (h5.f h.f.s (λk z=>(h.v p aq k z).1))
def qM.u{n:Nat}{w:Wq}{ps:List Pr}(h:qM F n w Q vl ps W)(C:∀e y,F n e y->F n' e y)(A:dQ W.heap.size W W'):qM F n' w Q vl ps W':=
 ⟨qh h.h A,λp z=>⟨(Q4.u (h.z p z).1 A).1,⟨(h.z p z).2.o,(h.z p z).2.j,(h.z p z).2.c,C _ _ (h.z p z).2.a⟩⟩,h.v,h.r,h.f.t (A.m h.f.s),λk E=>bZ (h.q k E) A.s⟩
structure iO where
 d:Int
 e:Int
 s:ByteArray
 a:Int
 b:Int
 c:Int
def iO.v(o:iO):Vq:=aL #[aO aR o.d,aO aR o.e,aK o.s,aO aR o.a,aO aR o.b,aO aR o.c]
def Pr.v(p:Pr):Vq:=aL #[.pointer (aX ⟨p.d,0,aY⟩),.pointer (aX ⟨p.a,0,aY⟩)]
structure pV(F:Nat->Eg->Er->Prop):Prop where
 mono:∀n e y,F n e y->F (n+1) e y
 h:∀n e y s t,F n e y->F n (lR e s t).2 (lI y s t).2
 a:∀n e y ds c e' y' r r',fP e->jM e y ds->F n e y->uL e c e' r->sQ y c y' r'->F n e' y'/\aD y'.a<=3
 d:∀n s rs win lat que M st,zk s rs->F n (uA rs win lat que M) (tT rs win lat que st)
 j:∀n e y,fP e->F n e y->yI e
 l:∀b n e y ds,fP e->jM e y ds->F n e y->∀i f,y.a[i]?=aX f->∀m st,aD st<=2048->(∀g∈st,mJ y.z y.c g)->BD b i f y.n y.w m st
def wV(s:ByteArray):∀a,jN s=aX a->lO a/\∀t∈a.d,t.d<6:=by
 intro a z;rw[<-yN] at z;have M:=z;unfold jW at z;split at z
 .cases z
 rename_i O;split at z
 .cases z
 rename_i E;have⟨t,p,us,L,j1,k,e1,e2,e3,e4,e5⟩:=Fm (Q7 s) (wP s) (by simpa [oC] using E);have C:=zX s (by lia);rw[e1] at z C;unfold uU at z;simp only[e2] at z;injection z with z;subst z;refine⟨⟨C t (by simp),e3,λu A=>⟨xC 1200 us _ _ _ _ (λv G=>C v (by simp[G])) e2 u A,by have:=e5 u A;lia⟩⟩,λu A=>by have:=e5 u A;lia⟩
def Cc(y:Er)(s:ByteArray)(t:Int):(lI y s t).2.a=y.a:=by grind [lI]
def Hf(hF:pV F){n:Nat}{p:Pr}{W:Wq}(h:kV W p)(ab:nJ F n p)(o:iO)(hk:o.d=3\/o.d=4)(hs:o.s.size<=1048576)(hT:dR 0 1 W):Cs 35 #[p.v,o.v] W λen W'=>en=aQ (aM true)/\∃p',Q4 p W p' W'/\nJ F n p':=by
 unfold Pr.v iO.v;have HP:=aA h;have z:=aA ab;have i6:Hid (∀Y,dQ W.heap.size W Y->dR 0 1 Y):=λY C=>dS hT C;clear h ab hT;have⟨kd,ke,s,a,b,c⟩:=o;simp only at hk hs ⊢;obtain⟨N,hN⟩:=aC W.heap.size;obtain⟨W0,an⟩:=aC ((W.alloc (aP #[Pt p.d,Pt p.a] 81)).alloc (aP #[Ii kd,Ii ke,St s,Ii a,Ii b,Ii c] 34));have ai:dQ W.heap.size W W0:=an▸((cA _ W).l zl _).l (by simp) _
 have av:W0.heap[N]?=cC #[Pt p.d,Pt p.a] 81:=by rw[<-an,<-hN];exact (bT _ _ _ (by simp)).t (zn W _)
 have ae:W0.heap[N+1]?=cC #[Ii kd,Ii ke,St s,Ii a,Ii b,Ii c] 34:=by rw[<-an,<-hN];have:=zn (W.alloc (aP #[Pt p.d,Pt p.a] 81)) (aP #[Ii kd,Ii ke,St s,Ii a,Ii b,Ii c] 34);simpa using this
 have du:=Q4.u HP.o ai;have fh:=aA du;have bq:=i6.o W0 ai;have HC:Hid (∀p1 Y,Q4 p W0 p1 Y->aE Y (Ad N 1)=aX (Pt p.a)/\aE Y (Ad (N+1) 2)=aX (St s)/\aE Y (Ad (N+1) 3)=aX (Ii a)):=λp1 Y C=>by have bn:=du.1.a;have h1:=(C.2.2.2.2.h N (zg av).1 (λe=>kO.c av (by decide) (by decide) (bn N e))).t av;have h2:=(C.2.2.2.2.h (N+1) (zg ae).1 (λe=>kO.c ae (by decide) (by decide) (bn (N+1) e))).t ae;exact⟨zc h1,zc h2,zc h2⟩
 have c0:aE W0 (Ad N 0)=aX (Pt p.d):=zc av;have c1:=cZz ae;have O:=du.1;clear ai av ae du;obtain rfl|rfl:=hk
 .have⟨cj,az,ce⟩:=Ns z.o.j z.o.o s a;have d7:Hid (Cs 20 #[Pt p.d,St s,Ii a] W0 λe w'=>e=aQ (Ii (lI p.y s a).1)/\∃A,Q4 p W0 {p with e:=(lR p.e s a).2,S:=A,c:=az} w'):=by{refine (KZ p.S p.d p.e s a W0 O.x z.o.o (by omega) bq (λu hu=>(wV s u hu).2)).m ?_;rintro e w' ⟨E,G⟩;rw[cj] at E;exact⟨E,O.d G az⟩};have aw:=z.o.j.B z.o.o z.o.c;have cz:Hid (∀A Y,Q4 p W0 {p with e:=(lR p.e s a).2,S:=A,c:=az} Y->Cs 67 #[Pt p.a,St s,Ii a] Y λe w'=>e=aQ (Ii (lI p.y s a).1)/\∃p',Q4 p W p' w'/\nJ F n p'):=λA Y C=>by{have⟨vr,vf,vn,vs,vd,qs,fs,ss,fj,hv⟩:=C.1.y;refine (G8 hv aw s hs a).m ?_;rintro e w' ⟨E,G⟩;have⟨T',k3⟩:=C.1.f G az;refine⟨E,_,fh.o.trans (C.trans k3),⟨MQ z.o.o s (λu hu=>(wV s u hu).1) a,ce,?_,hF.h n _ _ s a z.o.a⟩⟩;show aD (lI p.y s a).2.a<=3;rw[Cc];exact z.o.c};clear cj ce aw O bq;go_enter Tryz.func35,Tryz.ntmps35;go_wp2_with fail;refine bC d7.o ?_;clear d7;rintro e' W1 ⟨rfl,A,M⟩;have⟨d1,d2,d3⟩:=HC.o _ W1 M;have hy:=cz.o A W1 M;clear M c0 c1;go_wp2_with fail;refine bC hy ?_;clear hy cz;rintro e' W2 ⟨rfl,dm⟩;have ei:=aA dm;clear dm d1 d2 d3;go_wp2;go_ret;exact⟨by simp,ei.o⟩
 have fe:Hid (Cs 22 #[Pt p.d,Ii a] W0 λe w'=>∃(r:Int)(f:Int)(e':Eg),e=aQ (aN #[Ii r,Ii f])/\uL p.e a e' (r,f)/\∃A,Q4 p W0 {p with e:=e',S:=A} w'):=by{refine (KT p.S p.d p.e a W0 O.x z.o.o (hF.j n p.e p.y z.o.o z.o.a)).m ?_;rintro e w' ⟨e',r,E,G,k3⟩;exact⟨r.1,r.2,e',G,E,O.d k3 p.c⟩};have aw:=z.o.j.B z.o.o z.o.c;have dy:=z.o.j.a z.o.o;have bn:Hid (∀A e' r f Y,uL p.e a e' (r,f)->Q4 p W0 {p with e:=e',S:=A} Y->Cs 68 #[Pt p.a,Ii a] Y λe w'=>e=aQ (aN #[Ii r,Ii f])/\∃p',Q4 p W p' w'/\nJ F n p'):=λA e' r f Y cq C=>by{have⟨vr,vf,vn,vs,vd,qs,fs,ss,fj,hv⟩:=C.1.y;refine (LW hv aw dy a (hF.l p.a n p.e p.y p.c z.o.o z.o.j z.o.a)).m ?_;rintro e w' ⟨y',r',E,G,k3⟩;have⟨h1,az,h2⟩:=C5 z.o.j z.o.o cq E;have⟨h3,h4⟩:=hF.a n _ _ _ _ _ _ _ _ z.o.o z.o.j z.o.a cq E;have⟨T',k4⟩:=C.1.f k3 az;rw[<-h1] at G;exact⟨G,_,fh.o.trans (C.trans k4),⟨Cj z.o.o cq,h2,h4,h3⟩⟩};clear aw dy O bq;go_enter Tryz.func35,Tryz.ntmps35;go_wp2_with fail;refine bC fe.o ?_;clear fe;rintro e' W1 ⟨r,f,e1,rfl,cq,A,M⟩;have⟨d1,d2,d3⟩:=HC.o _ W1 M;have hy:=bn.o A e1 r f W1 cq M;clear M cq c0 c1;go_wp2_with fail;refine bC hy ?_;clear hy bn;rintro e' W2 ⟨rfl,dm⟩;have ei:=aA dm;clear dm d1 d2 d3;go_wp2;go_ret;exact⟨by simp,ei.o⟩
def L0{n:Nat}{p:Pr}(bw:Nat)(h:kV W p)(ab:nJ F n p)(o:iO)(hk:o.d=6)(hs:o.s.size<=1048576)(hT:dR 0 1 W):Cs 36 #[Pt bw,p.v,o.v] W λen W'=>en=aQ (aM true)/\dQ W.heap.size W W':=by
 unfold Pr.v iO.v;have⟨kd,ke,s,a,b,c⟩:=o;simp only at hk hs ⊢;subst hk;obtain⟨N,O⟩:=aC W.heap.size;obtain⟨W0,G⟩:=aC ((W.alloc (aP #[Pt p.d,Pt p.a] 81)).alloc (aP #[Ii 6,Ii ke,St s,Ii a,Ii b,Ii c] 34));have ai:dQ W.heap.size W W0:=G▸((cA _ W).l zl _).l (by simp) _
 have z:W0.heap[N]?=cC #[Pt p.d,Pt p.a] 81:=by rw[<-G,<-O];exact (bT _ _ _ (by simp)).t (zn W _)
 have ae:W0.heap[N+1]?=cC #[Ii 6,Ii ke,St s,Ii a,Ii b,Ii c] 34:=by rw[<-G,<-O];have:=zn (W.alloc (aP #[Pt p.d,Pt p.a] 81)) (aP #[Ii 6,Ii ke,St s,Ii a,Ii b,Ii c] 34);simpa using this
 have M:=(Q4.u h ai).1;have bq:=dS hT ai;have HC:Hid (∀Y,dQ W0.heap.size W0 Y->aE Y (Ad N 1)=aX (Pt p.a)/\aE Y (Ad (N+1) 2)=aX (St s)):=λY E=>by have C:=(E.b N (zg z).1).t z;have h2:=(E.b (N+1) (zg ae).1).t ae;exact⟨zc C,zc h2⟩
 have c0:aE W0 (Ad N 0)=aX (Pt p.d):=zc z;have c1:=cZz ae;have f9:=aA (KP p.S p.d p.e s W0 M.x ab.o (by omega) bq (λu hu=>(wV s u hu).2));have fl:Hid (∀Y,dQ W0.heap.size W0 Y->Cs 69 #[Pt p.a,St s] Y λe w'=>e=aQ (aN #[Ii (pW p.e s).1,Ii (pW p.e s).2])/\dQ Y.heap.size Y w'):=λY E=>by have⟨vr,vf,vn,vs,vd,qs,fs,ss,fj,hv⟩:=(Q4.u M E).1.y;refine (NU hv (ab.j.B ab.o ab.c) (ab.j.a ab.o) s hs).m ?_;rintro e w' ⟨⟨r,k1,k2⟩,k3⟩;rw[LS ab.j ab.o s k1];exact⟨k2,k3⟩
 have A:=aA ai;clear ai z ae M bq h ab hT;generalize (pW p.e s).1=r1 at *;generalize (pW p.e s).2=r2 at *;go_enter Tryz.func36,Tryz.ntmps36;go_wp2_with fail;refine bC f9.o ?_;clear f9;rintro e' W1 ⟨rfl,al⟩;have⟨d1,d2⟩:=HC.o W1 al;have hy:=fl.o W1 al;have b9:=aA al;clear c0 c1 al;go_wp2_with fail;refine bC hy ?_;clear hy fl;rintro e' W2 ⟨rfl,ag⟩;have au:=aA ag;clear ag d1 d2;go_wp2;go_ret;have C:=b9.o.t (au.o.m b9.o.s);exact⟨by simp,by first|exact A.o.t (C.m A.o.s)|(rw[<-O];exact A.o.trans (C.mono A.o.size))⟩
def J4(c:Int)(n:Nat)(w:Wq)(M:1<=n)(kr:n<=10000000)(G : -9223372036854775808<=c/\c<=9223372036854775807):Cs 34 #[Ii c,Ii n] w λe w'=>∃r:Nat,r<n/\e=aQ (Ii r)/\w=w':=by
 have O:((n:Int) == 0)=false:=by simp;omega
 have C:=O5 c n (by omega);have A:=Int.toNat_of_nonneg C.1;have z:Hid (∀x:Int,x=sH c n->∃r:Nat,r<n/\aQ (Ii x)=aQ (Ii r)):=λx E=>⟨(sH c n).toNat,by omega,by rw[A,E]⟩;clear C A;by_cases h:c<0
 .go_enter Tryz.func34,Tryz.ntmps34;go_wp2;go_ret;have⟨r,h1,h2⟩:=z.o _ (Ol c n (by omega));exact⟨r,h1,h2,rfl⟩
 go_enter Tryz.func34,Tryz.ntmps34;go_wp2;go_ret;have⟨r,h1,h2⟩:=z.o (c % n) (by unfold sH;rw[if_neg (by omega)]);exact⟨r,h1,h2,rfl⟩
def kV.c{p:Pr}(h:kV W p){ex:Nat->Prop}(A:fC W W' ex)(C:∀k,p.U k->¬ex k)(E:∀k,k<W.heap.size->ex k->pY W k)(G:tC W W'):kV W' p:=by have z:=λk z=>A.h k (h.a k z).lt (C k z);exact⟨h.x.v A (λk z=>C k (aS z)) E,h.y.E A.size (λk af=>z k (aU af)) G,λk af=>(h.i k af).u (z k (aU af)),h.r⟩
def qM.l{n:Nat}{w:Wq}{E ad ac:Vq}{ps:List Pr}{z:Nat}(h:qM F n w Q vl ps W)(bh:w.heap.size<=z)(Qy:W.heap[z]?=cC #[vl,ad,ac] 31)(hb:dQ W.heap.size W W1){p:Pr}(hp:kV W1 p)(ab:nJ F n p)(hU:∀k,p.U k->W.heap.size<=k){O:Obj}(hg:(W1.alloc O).grownBy W2 (aI vl))(ho:aH W2 w.heap.size 81 2 E (aD ps+1) (ps.flatMap qS++qS p)):aE W2 (Ad z 0)=aX vl/\aF W2 (Ad z 0)=false/\(W2.setCell (Ad z 0) E).heap[z]?=cC #[E,ad,ac] 31/\qM F n w Q E (ps++[p]) (W2.setCell (Ad z 0) E)/\fC W (W2.setCell (Ad z 0) E) (λk=>k=z\/aI vl=aX k):=by
 have ep:=(zg Qy).1;have ci:aI vl≠aX z:=λe=>by have⟨c,hc⟩:=qg h.h e;rw[Qy] at hc;cases hc
 have dz:=hb.s;have kq:(W1.alloc O).heap.size=W1.heap.size+1:=by simp
 have co:=hg.size;have h1:=(hb.b z ep).t Qy;have h2:=((hg.b z (by lia) (λe=>ci e.s)).t (bT W1 O z (by lia))).t h1;have G:=h.u (λ_ _=>id) hb;have M:fC W1 (W2.setCell (Ad z 0) E) (λk=>k=z\/aI vl=aX k):=by refine fC.i ?_ ⟨z,0,aY⟩ E (λ_=>aS rfl);exact ((fC.j W1 (λk=>k=z\/aI vl=aX k)).alloc O).o hg (λk A _=>aU A)
 have hN:∀k,k<W1.heap.size->(k=z\/aI vl=aX k)->pY W1 k:=λk A he=>by
  obtain rfl|he:=he
  .exact⟨_,_,h1,by lia⟩
  .have⟨c,hc⟩:=qg G.h he;exact⟨_,_,hc,by lia⟩
 have hR:tC W1 (W2.setCell (Ad z 0) E):=λk c t ht A=>by
  refine M.h k (zg A).1 (λe=>?_);obtain rfl|e:=e
  .grind
  .have⟨c',ak⟩:=qg G.h e;rw[A] at ak;cases ak;obtain ht|ht|ht:=ht<;>cases ht
 have hX:∀k,kO W1 k->¬(k=z\/aI vl=aX k):=λk A e=>by
  obtain rfl|e:=e
  .grind [kO.c]
  .have⟨c',ak⟩:=qg G.h e;exact kO.c ak (by lia) (by lia) A
 refine⟨zc h2,by simp[aF,h2],qw h2 0 E,⟨?_,λq C=>?_,λq C k A=>?_,λi j q r C hr ir k A af=>?_,?_,λk A=>?_⟩,?_⟩
 .grind [Qj,qg]
 .obtain C|C:=bH.1 C
  .exact⟨(G.z q C).1.c M (λk A=>hX k ((G.z q C).1.a k A)) hN hR,(h.z q C).2⟩
  .simp only[bO,cP,or_false] at C;subst C;exact⟨hp.c M (λk A=>hX k (hp.a k A)) hN hR,ab⟩
 .obtain C|C:=bH.1 C
  .exact h.v q C k A
  .simp only[bO,cP,or_false] at C;subst C;have h5:=hU k A;have:=h.f.s;exact⟨by lia,λhQ=>by have:=h.q k hQ;lia⟩
 .have ct:∀(i:Nat)(q:Pr),(ps++[p])[i]?=aX q->(ps[i]?=aX q/\i<aD ps)\/(i=aD ps/\q=p):=λi q C=>by
   by_cases hi:i<aD ps;{grind};{grind}
  obtain⟨gi,hi⟩|⟨hi,e1⟩:=ct i q C
  .obtain⟨cj,hj⟩|⟨hj,e2⟩:=ct j r hr
   .exact h.r i j q r gi cj ir k A af
   .have:=((h.z q (bB gi)).1.a k A).lt;have:=hU k (e2 ▸ af);lia
  .obtain⟨cj,hj⟩|⟨hj,e2⟩:=ct j r hr
   .have:=((h.z r (bB cj)).1.a k af).lt;have:=hU k (e1 ▸ A);lia
   .grind
 .exact G.f.t (M.f G.f.s (λk A=>by
   obtain rfl|A:=A
   .exact bh
   .exact (qe h.h A).1))
 .have:=h.q k A;have:=M.size;lia
 .have:=(fC.d (λk=>k=z\/aI vl=aX k) hb).trans M;exact this
def A7(F:Nat->Eg->Er->Prop)(n:Nat)(w:Wq)(Q:Nat->Prop)(bw:Nat)(vl ad ac:Vq)(ps:List Pr)(G:Prop)(W W':Wq):Prop:=
 ∃aj bi,W'.heap[bw]?=aX (aP #[aj,ad,ac] 31)/\qM F n w Q aj bi W'/\aD ps<=aD bi/\aD bi<=aD ps+1/\(G->aD bi=aD ps+1)/\fC W W' (λk=>k=bw\/aI vl=aX k)
def Tryz.m:(Tryz.prog.info? 81).map (λi=>(i.zero,i.size,i.bytes))=aX (aX (aL #[.pointer aY,.pointer aY]),2,16):=by kernel_rfl
theorem EV(hF:pV F){n:Nat}{w:Wq}{Q:Nat->Prop}{vl ad ac:Vq}{ps:List Pr}{W:Wq}{bw:Nat}(h:qM F n w Q vl ps W)(bh:w.heap.size<=bw)(Qy:W.heap[bw]?=some (Obj.cells #[vl,ad,ac] 31))(ki:ps.length<=10000000)(o:iO)(hs:o.s.size<=1048576)(hT:Lib.Utf8Tabs 0 1 W) :
  Calls Tryz.prog 33 #[.pointer (some ⟨bw,0,none⟩),o.v] W λen W'=>en=.returned (.bool true)/\A7 F n w Q bw vl ad ac ps ((∃rs,iT o.s=.ok rs)/\mM o.a o.b o.c) W W':=by
 unfold iO.v;obtain⟨kd,ke,s,a,b,c⟩:=o;simp only at hs ⊢;obtain⟨N,hN⟩:∃N,W.heap.size=N:=⟨_,rfl⟩;obtain⟨W0,an⟩:∃W0,W.alloc (.cells #[.int .i64 kd,.int .i64 ke,.string s,.int .i64 a,.int .i64 b,.int .i64 c] 34)=W0:=⟨_,rfl⟩;have ai:Below W.heap.size W W0:=by rw[<- an];exact (Below.refl _ W).l zl _
 have ae:W0.heap[N]?=some (Obj.cells #[.int .i64 kd,.int .i64 ke,.string s,.int .i64 a,.int .i64 b,.int .i64 c] 34):=by rw[<- an,<- hN];exact zn W _
 have bq:=Utf8Tabs_below hT ai
 have HC:Hid (∀Y,Below W0.heap.size W0 Y->Y.cell? ⟨N,2,none⟩=some (.string s)/\Y.cell? ⟨N,3,none⟩=some (.int .i64 a)/\Y.cell? ⟨N,4,none⟩=some (.int .i64 b)/\Y.cell? ⟨N,5,none⟩=some (.int .i64 c)):=λY hY=>by
  have h2:=(hY.b N (zg ae).1).t ae;exact⟨by simp[World.cell?,h2],by simp[World.cell?,h2],by simp[World.cell?,h2],by simp[World.cell?,h2]⟩
 obtain⟨c2,c3,c4,c5⟩:=HC.o W0 zr;have bf:=aA ai;have HI:=aA h;have c8:=aA λY=>Iq s a b c Y hs;have de:=aA (J8 s a b c W0 hs bq);have cx:=aA Qy;have gl:Hid (∀Y,Below W.heap.size W Y->(¬((∃rs,iT s=.ok rs)/\mM a b c))->A7 F n w Q bw vl ad ac ps ((∃rs,iT s=.ok rs)/\mM a b c) W Y):=λY hY hG=>⟨vl,ps,(hY.b bw (zg cx.o).1).t cx.o,HI.o.u (λ_ _=>id) hY,Nat.le_refl _,Nat.le_succ _,λg=>absurd g hG,fC.d _ hY⟩;obtain⟨la,lc,e7⟩:=qq h.h;subst e7;obtain⟨i0,hi,dr,dz,co⟩:=info_parts Tryz.m;clear ai ae bq h hT Qy;by_cases hG:(∃rs,iT s=.ok rs)/\mM a b c
 .obtain⟨⟨rs,hp⟩,ha⟩:=hG;have fy:=Cx s rs hp
  have Qaf:Hid (Calls Tryz.prog 39 #[.string s,.int .i64 a,.int .i64 b,.int .i64 c] W0 (xY rs a b c W0)):=by
   refine Calls.m de.o ?_;intro e w' hh;unfold sp at hh;rw[hp] at hh;obtain⟨_,hh⟩ | ⟨h5,_⟩:=hh
   .exact hh
   .exact absurd ha h5
  have Qag:Hid (∀Y,Calls Tryz.prog 66 #[.string s,.int .i64 a,.int .i64 b,.int .i64 c] Y λe w'=>Below Y.heap.size Y w'/\∃(b':Nat)(T:Nat->Prop)(st:List Gr),e=.returned (.tuple #[.pointer (some ⟨b',0,none⟩),.int .i64 0])/\tD rs [] (fF [] (Q3 (fK rs))) st/\oA w' T b' (tT rs a b c st)/\∀k,T k->Y.heap.size<=k):=λY=>by
   refine Calls.m (c8.o Y) ?_;intro e w' hh;unfold tq at hh;rw[hp] at hh;obtain⟨h0,⟨_,hh⟩ | ⟨h5,_⟩⟩:=hh
   .exact⟨h0,hh⟩
   .exact absurd ha h5
  have HGd:=aA fy;have HA:=aA ha;clear de c8 gl fy ha hp;go_enter Tryz.func33,Tryz.ntmps33;go_wp2_with fail;refine Calls.m Qaf.o ?_;rintro e' W1 ⟨be,S,M,rfl,hM,hE,hS,al⟩;obtain⟨d2,d3,d4,d5⟩:=HC.o W1 al;have b9:=aA al;have HE:Hid (jD W1 S be (uA rs a b c M)/\(∀k,S k->W0.heap.size<=k)/\kD rs (Qx rs) M):=⟨hE,hS,hM⟩;clear c2 c3 c4 c5 Qaf hE hS hM al;go_wp2_with fail;refine Calls.m (Qag.o W1) ?_;rintro e' W2 ⟨ag,bz,T,st,rfl,gz,gh,ee⟩;clear d2 d3 d4 d5 Qag;obtain⟨p,cf⟩:∃p:Pr,⟨be,bz,uA rs a b c M,tT rs a b c st,[],S,λk=>T k/\kJ W2 k⟩=p:=⟨_,rfl⟩;have Qmm:=bf.o.s;have Qpl:=b9.o.s;have dh:=(bf.o.t (b9.o.m Qmm)).t (ag.m (by omega))
  have fc:kV W2 p/\nJ F n p/\∀k,p.U k->W.heap.size<=k:=by
   rw[<- cf];refine⟨⟨HE.o.1.f ag,gh.K,λk hk=>hk.2,λk hk af=>?_⟩,⟨Ks HGd.o.d HA.o.1 HA.o.2.1 HA.o.2.2 HE.o.2.2,Im HGd.o HA.o HE.o.2.2 gz,by simp[tT],hF.d n _ rs a b c M st HGd.o⟩,λk hk=>?_⟩
   .have h5:=(HE.o.1.a k hk).lt;have:=ee k af.1;omega
   .obtain hk | hk:=hk
    .have:=HE.o.2.1 k hk;omega
    .have:=ee k hk.1;omega
  have fb:Hid _:=fc;have Qlz:qS p=[.pointer (some ⟨be,0,none⟩),.pointer (some ⟨bz,0,none⟩)]:=by rw[<- cf];rfl
  have je:Hid _:=Qlz
  have h8:Hid (∀(O:Obj)(w1:Wq)(aj:Vq),(W2.alloc O).grownBy w1 (Value.slice la ps.length lc).ownBlock->w1.ownsRow w.heap.size 81 2 aj (ps.length+1) (ps.flatMap qS++[.pointer (some ⟨be,0,none⟩),.pointer (some ⟨bz,0,none⟩)])->w1.cell? ⟨bw,0,none⟩=some (.slice la ps.length lc)/\w1.frozen? ⟨bw,0,none⟩=false/\Hid (A7 F n w Q bw (.slice la ps.length lc) ad ac ps ((∃rs,iT s=.ok rs)/\mM a b c) W (w1.setCell ⟨bw,0,none⟩ aj))):=λO w1 aj hg ho=>by
   rw[<- je.o] at ho;obtain⟨k1,k2,k3,k4,k5⟩:=HI.o.l bh cx.o dh fb.o.1 fb.o.2.1 fb.o.2.2 hg ho;exact⟨k1,k2,aj,ps++[p],k3,k4,by simp,by simp,λ_=>by simp,k5⟩
  have ia:=aA (qh HI.o.h dh);have gy:=(dh.b bw (zg cx.o).1).t cx.o;have l0:W2.cell? ⟨bw,0,none⟩=some (.slice la ps.length lc):=by simp[World.cell?,gy]
  have jt:Hid (∀O,w.heap.size<=(W2.alloc O).heap.size):=λO=>by have:=dh.s;have:=HI.o.f.s;simp;omega
  clear fc Qlz gz gh ee ag dh gy Qmm Qpl cf
  go_wp2_with (at_builtin;refine wpList_append_own _ rfl _ _ 27 rfl w.heap.size 81 i0 _ 2 16 Tryz.underlying27 hi dr dz co rfl (by decide) _ ps.length (ps.flatMap qS) rfl (ia.o.l _) ⟨W2.heap.size,0,none⟩ 1 _ [.pointer (some ⟨be,0,none⟩),.pointer (some ⟨bz,0,none⟩)] rfl rfl (rx _ _ _ _) (by simp[Value.oneCell']) (by unfold maxLen;omega) (by omega) (jt.o _) ?_;intro j2 w1 ey ft _;obtain⟨g',bu,e9⟩:=ownsRow_succ ey;subst e9;obtain⟨s0,y0,Qd⟩:=h8.o _ _ _ ft ey;clear ey ft)
  go_ret;exact⟨rfl,Qd.o⟩
 .obtain⟨cd,jq,Qaf,Qag⟩:∃cd:Int,cd≠0/\Hid (Calls Tryz.prog 39 #[.string s,.int .i64 a,.int .i64 b,.int .i64 c] W0 λe w'=>e=.returned (.tuple #[.pointer none,.int .i64 cd])/\Below W0.heap.size W0 w')/\Hid (∀Y,Calls Tryz.prog 66 #[.string s,.int .i64 a,.int .i64 b,.int .i64 c] Y λe w'=>e=.returned (.tuple #[.pointer none,.int .i64 cd])/\Below Y.heap.size Y w'):=by
   cases hp:iT s with
   | error cp=>
    obtain⟨cd,pl⟩:=cp;refine⟨cd,xO s cd pl hp,?_,λY=>?_⟩
    .refine Calls.m de.o ?_;intro e w' hh;unfold sp at hh;rwa[hp] at hh
    .refine Calls.m (c8.o Y) ?_;intro e w' hh;unfold tq at hh;rw[hp] at hh;exact⟨hh.2,hh.1⟩
   | ok rs=>
    have fk:¬mM a b c:=λha=>hG ⟨⟨rs,hp⟩,ha⟩;refine⟨6,by decide,?_,λY=>?_⟩
    .refine Calls.m de.o ?_;intro e w' hh;unfold sp at hh;rw[hp] at hh;obtain⟨h5,_⟩ | ⟨_,hh⟩:=hh
     .exact absurd h5 fk
     .exact hh
    .refine Calls.m (c8.o Y) ?_;intro e w' hh;unfold tq at hh;rw[hp] at hh;obtain⟨h0,⟨h5,_⟩ | ⟨_,hh⟩⟩:=hh
     .exact absurd h5 fk
     .exact⟨hh,h0⟩
  have Qpt:(cd != 0)=true:=by simpa using jq
  have HG:Hid _:=hG;clear de c8 hG;go_enter Tryz.func33,Tryz.ntmps33;go_wp2_with fail;refine Calls.m Qaf.o ?_;rintro e' W1 ⟨rfl,al⟩;obtain⟨d2,d3,d4,d5⟩:=HC.o W1 al;have b9:=aA al;clear c2 c3 c4 c5 Qaf al;go_wp2_with fail;refine Calls.m (Qag.o W1) ?_;rintro e' W2 ⟨rfl,ag⟩;have jf:=aA ((bf.o.t (b9.o.m bf.o.s)).t (ag.m (by have:=bf.o.s;have:=b9.o.s;omega)));clear d2 d3 d4 d5 Qag ag;go_wp2;go_ret;exact⟨rfl,gl.o _ jf.o HG.o⟩
abbrev pL:=Nat->Nat->Wq->Vq->Vq->(Nat->Prop)->Prop
structure sT(LL:pL):Prop where
 E:∀B n W W' ad ac Q ex,LL B n W ad ac Q->fC W W' ex->(∀k,Q k->¬ex k)->LL B n W' ad ac Q
 a:∀B n W ad ac Q,LL B n W ad ac Q->LL B (n+1) W ad ac Q
 i:∀B n W ad ac Q,LL B n W ad ac Q->∀k,Q k->∃c t,W.heap[k]?=cC c t/\t≠31/\t≠81
structure rr(F:Nat->Eg->Er->Prop)(LL:pL)(n:Nat)(w:Wq)(bw:Nat)(W:Wq)(vl ad ac:Vq)(ps:List Pr)(Q:Nat->Prop):Prop where
 A:W.heap[bw]?=cC #[vl,ad,ac] 31
 d:qM F n w Q vl ps W
 g:1<=aD ps
 I:aD ps<=n
 h:LL w.heap.size n W ad ac Q
def nD(F:Nat->Eg->Er->Prop)(LL:pL)(n:Nat)(w:Wq)(bw:Nat)(W:Wq):Prop:=∃vl ad ac ps Q,rr F LL n w bw W vl ad ac ps Q
def yS(F:Nat->Eg->Er->Prop)(LL:pL)(TT:Wq->Prop)(o:iO):Prop:=∀n w bw W,nD F LL n w bw W->w.heap.size<=bw->n<=2000000->TT w->
  Calls dU 15 #[.pointer (aX ⟨bw,0,aY⟩),o.v] W λen W'=>en=aQ (aM true)/\nD F LL (n+1) w bw W'
def rr.f{LL:pL}(G:pV F)(E:sT LL){n:Nat}{w:Wq}{z:Nat}{W W':Wq}{vl C ac:Vq}{ps:List Pr}{Q:Nat->Prop}(h:rr F LL n w z W vl C ac ps Q)(A:dQ W.heap.size W W'):rr F LL n w z W' vl C ac ps Q:=
 ⟨(A.b z (zg h.A).1).t h.A,h.d.u (λ_ _=>id) A,h.g,h.I,E.E _ _ _ _ _ _ _ (λ_=>False) h.h (fC.d _ A) (λ_ _=>id)⟩
def rr.a{LL:pL}(C:pV F)(E:sT LL){n:Nat}{w:Wq}{A:Nat}{W:Wq}{vl z ac:Vq}{ps:List Pr}{Q:Nat->Prop}(h:rr F LL n w A W vl z ac ps Q):rr F LL (n+1) w A W vl z ac ps Q:=
 ⟨h.A,h.d.u (C.mono n) zr,h.g,by have:=h.I;lia,E.a _ _ _ _ _ _ h.h⟩
def rr.c{LL:pL}(hF:pV F)(M:sT LL){n:Nat}{w:Wq}{z:Nat}{W W':Wq}{vl C ac:Vq}{ps:List Pr}{Q:Nat->Prop}(h:rr F LL n w z W vl C ac ps Q){i:Nat}{p p':Pr}(G:ps[i]?=aX p)(A:Q4 p W p' W')(ab:nJ F n p'):rr F LL n w z W' vl C ac (ps.set i p') Q:=by have E:=bB G;refine⟨(A.2.2.2.2.h z (zg h.A).1 (λe=>kO.c h.A (by lia) (by lia) ((h.d.z p E).1.a z e))).t h.A,h.d.c (λ_ _=>id) G A ab,by rw[cH];exact h.g,by rw[cH];exact h.I,M.E _ _ _ _ _ _ _ p.U h.h A.2.2.2.2 (λk O hu=>(h.d.v p E k hu).2 O)⟩
def CC{B:Nat}{v:Vq}{ps:List Pr}(h:aH W B 81 2 v (aD ps) (ps.flatMap qS)){k:Nat}(A:k<aD ps):∃g z,v=Sc g (aD ps) z/\aE W (Ad g (k*2))=aX (Pt (ps[k].d))/\aE W (Ad g (k*2+1))=aX (Pt (ps[k].a))/\g<W.heap.size:=by have⟨g,z,e1,_,h2,_,hc⟩:=lH h (λ_=>rfl) (by lia);exact⟨g,z,e1,hc k 0 A _ (by lia) rfl,hc k 1 A _ (by lia) rfl,h2⟩
def JL{LL:pL}(E:pV F)(z:sT LL){TT:Wq->Prop}(df:∀w,TT w->dR 0 1 w)(o:iO)(C:o.d=2)(hs:o.s.size<=1048576):yS F LL TT o:=by
 rintro n w O W ⟨vl,ad,ac,ps,Q,h⟩ bh hn A;replace A:=df w A;have⟨kd,ke,s,a,b,c⟩:=o;simp only at C hs;subst C;obtain⟨N,hN⟩:=aC W.heap.size;obtain⟨W0,G⟩:=aC (W.alloc (aP #[Ii 2,Ii ke,St s,Ii a,Ii b,Ii c] 34));have ai:dQ W.heap.size W W0:=G▸(cA _ W).l zl _
 have ae:W0.heap[N]?=cC #[Ii 2,Ii ke,St s,Ii a,Ii b,Ii c] 34:=by rw[<-G,<-hN];exact zn W _
 have h0:=h.f E z ai;have di:Hid (Cs 33 #[Pt O,aL #[Ii 2,Ii ke,St s,Ii a,Ii b,Ii c]] W0 λen W'=>en=aQ (aM true)/\nD F LL (n+1) w O W'):=by refine (EV E h0.d bh h0.A (by have:=h0.I;omega) ⟨2,ke,s,a,b,c⟩ hs (dS A h0.d.f)).m ?_;rintro en W' ⟨k1,aj,bi,k2,k3,k4,k5,k6,k7⟩;refine⟨k1,aj,ad,ac,bi,Q,k2,k3.u (E.mono n) zr,by have:=h0.g;omega,by have:=h0.I;omega,z.E _ _ _ _ _ _ _ _ (z.a _ _ _ _ _ _ h0.h) k7 (λk C e=>?_)⟩;have⟨cc,t,hc,h1,h2⟩:=z.i _ _ _ _ _ _ h0.h k C;obtain rfl|e:=e;{rw[h0.A] at hc;cases hc;exact h1 rfl};have⟨c',ak⟩:=qg h0.d.h e;rw[hc] at ak;cases ak;exact h2 rfl
 have c0:=cZz ae;unfold iO.v;clear h h0 ai ae A;go_enter Tryz.func15,Tryz.ntmps15;go_wp2_with fail;refine bC di.o ?_;rintro e' W1 ⟨rfl,M⟩;have i7:=aA M;clear di M c0;go_wp2;go_ret;exact⟨rfl,i7.o⟩
def Ag(F:Nat->Eg->Er->Prop)(LL:pL)(TT:Wq->Prop)(o:iO):Prop:=∀n w bw W vl ad ac ps Q (i:Nat) (p:Pr),rr F LL n w bw W vl ad ac ps Q->ps[i]?=aX p->w.heap.size<=bw->n<=2000000->TT w->
  Calls dU 36 #[.pointer (aX ⟨bw,0,aY⟩),p.v,o.v] W λen W'=>en=aQ (aM true)/\nD F LL (n+1) w bw W'
def F5(F:Nat->Eg->Er->Prop)(o:iO):Prop:=o.d=7\/o.d=8->∀n p W,kV W p->nJ F n p->n<=2000000->dR 0 1 W->
  Calls dU 37 #[p.v,o.v] W λen W'=>en=aQ (aM true)/\∃p',Q4 p W p' W'/\nJ F (n+1) p'
def Fj(F:Nat->Eg->Er->Prop)(LL:pL)(TT:Wq->Prop)(o:iO):Prop:=o.d=5\/o.d=6->Ag F LL TT o
def wC{LL:pL}(G:pV F)(hL:sT LL){TT:Wq->Prop}(df:∀w,TT w->dR 0 1 w)(o:iO)(E:o.d=3\/o.d=4\/o.d=5\/o.d=6\/o.d=7\/o.d=8)(dd:Fj F LL TT o)(ck:F5 F o)(hs:o.s.size<=1048576)(he : -9223372036854775808<=o.e/\o.e<=9223372036854775807):yS F LL TT o:=by
 rintro n w z W ⟨vl,ad,ac,ps,Q,h⟩ bh hn hT;have ip:=aA hT;replace hT:=df w hT;have⟨kd,ke,s,a,b,c⟩:=o;simp only at E hs he;have Qm0:=aA dd;have jd:=aA ck;clear dd ck;obtain⟨N,hN⟩:=aC W.heap.size;obtain⟨W0,an⟩:=aC (W.alloc (aP #[Ii kd,Ii ke,St s,Ii a,Ii b,Ii c] 34));have ai:dQ W.heap.size W W0:=an▸(cA _ W).l zl _
 have ae:W0.heap[N]?=cC #[Ii kd,Ii ke,St s,Ii a,Ii b,Ii c] 34:=by rw[<-an,<-hN];exact zn W _
 have h0:=h.f G hL ai;have⟨la,lc,e7⟩:=qq h.d.h;subst e7;have H0:=aA h0;have HC:Hid (∀Y,dQ W0.heap.size W0 Y->aE Y (Ad N 0)=aX (Ii kd)/\aE Y (Ad N 1)=aX (Ii ke)/\aE Y (Ad N 2)=aX (St s)/\aE Y (Ad N 3)=aX (Ii a)/\aE Y (Ad N 4)=aX (Ii b)/\aE Y (Ad N 5)=aX (Ii c)/\aE Y (Ad z 0)=aX (aJ la (aD ps) lc)):=λY hY=>by have h2:=(hY.b N (zg ae).1).t ae;have h3:=(hY.b z (zg h0.A).1).t h0.A;exact⟨zc h2,zc h2,zc h2,zc h2,zc h2,zc h2,zc h3⟩
 have⟨c0,c1,c2,c3,c4,c5,cb⟩:=HC.o W0 zr;have gw:=aA λY=>J4 ke (aD ps) Y h0.g (by have:=h0.I;omega) he;have j9:=h0.g;have HT:=aA hT;unfold iO.v;clear h h0 ai ae hT;have⟨g,iz,e1,_,_,ig⟩:=CC H0.o.d.h (k:=0) (by omega);cases e1;have cy:Hid (∀Y,dQ W0.heap.size W0 Y->aE Y (Ad z 0)=aX (Sc g (aD ps) lc)/\aE Y (Ad N 1)=aX (Ii ke)/\(∀(r:Nat)(A:r<aD ps),aE Y (Ad g (r*2))=aX (Pt (ps[r].d)))/\∀(r:Nat)(A:r<aD ps),aE Y (Ad g (r*2+1))=aX (Pt (ps[r].a))):=λY hY=>by have⟨_,d1,_,_,_,_,db⟩:=HC.o Y hY;refine⟨db,d1,λr A=>?_,λr A=>?_⟩;{have⟨g',bu,e1,e2,e3,_⟩:=CC (qh H0.o.d.h hY) A;cases e1;exact e2};have⟨g',bu,e1,e2,e3,_⟩:=CC (qh H0.o.d.h hY) A;cases e1;exact e3
 have fr:=cy.o W0.drew zr.drew;have gu:=aA λO=>cy.o (W0.alloc O) (zr.l zl O);have gc:=aA λO v=>cy.o ((W0.alloc O).setCell (Ad W0.heap.size 0) v) ((zr.l zl O).c (p:=⟨W0.heap.size,0,aY⟩) zl v);have fg:=aA λO v u=>cy.o (((W0.alloc O).setCell (Ad W0.heap.size 0) v).setCell (Ad W0.heap.size 1) u) (((zr.l zl O).c (p:=⟨W0.heap.size,0,aY⟩) zl v).c (p:=⟨W0.heap.size,1,aY⟩) zl u);obtain rfl|rfl|rfl|rfl|rfl|rfl:=E;all_goals go_enter Tryz.func15,Tryz.ntmps15
 all_goals go_wp2_with fail
 all_goals (go_region_held3 (λw'=>aE w' (Ad z 0)=aX (Sc g (aD ps) lc)/\aE w' (Ad N 1)=aX (Ii ke)/\(∀(r:Nat)(A:r<aD ps),aE w' (Ad g (r*2))=aX (Pt (ps[r].d)))/\∀(r:Nat)(A:r<aD ps),aE w' (Ad g (r*2+1))=aX (Pt (ps[r].a))) (first|with_reducible exact fr|with_reducible assumption|exact gu.o _|exact gc.o _ _|exact fg.o _ _ _) (first|(go_at_call 34;refine bC (gw.o _) ?_;rintro e' w' ⟨r,A,rfl,il⟩;subst il)|go_simp))
 all_goals (
   obtain⟨p,cf⟩:=aC (ps[r]);have hi:ps[r]?=aX p:=by{rw[bF A,cf]};rw[cf];obtain⟨W1,fz⟩:=aC ((W0.alloc (aP #[Pt p.d,Pt p.a] 81)).drew);obtain⟨NP,jy⟩:=aC W0.heap.size;have al:dQ W0.heap.size W0 W1:=fz▸(zr.l zl _).drew;have av:W1.heap[NP]?=cC #[Pt p.d,Pt p.a] 81:=by{rw[<-fz,<-jy];exact zn W0 _};have⟨d0,d1,d2,d3,d4,d5,db⟩:=HC.o W1 al;have q0:=cZz av;have M:=H0.o.f G hL al;have fa:=dS HT.o M.d.f;have dk:=M.d.z p (bB hi);have gm:Hid (∀k:Int,k=3\/k=4->Cs 35 #[aL #[Pt p.d,Pt p.a],aL #[Ii k,Ii ke,St s,Ii a,Ii b,Ii c]] W1 λen W'=>en=aQ (aM true)/\nD F LL (n+1) w z W'):=λk E=>by{refine (Hf G dk.1 dk.2 ⟨k,ke,s,a,b,c⟩ E hs fa).m ?_;rintro en W' ⟨k1,p',k2,k3⟩;exact⟨k1,_,_,_,_,_,(M.c G hL hi k2 k3).a G hL⟩};have gv:Hid (∀k:Int,Fj F LL TT ⟨k,ke,s,a,b,c⟩->(k=5\/k=6)->Cs 36 #[Pt z,aL #[Pt p.d,Pt p.a],aL #[Ii k,Ii ke,St s,Ii a,Ii b,Ii c]] W1 λen W'=>en=aQ (aM true)/\nD F LL (n+1) w z W'):=λk ha E=>ha E n w z W1 _ _ _ ps Q r p M hi bh hn ip.o;have gp:Hid (∀k:Int,F5 F ⟨k,ke,s,a,b,c⟩->(k=7\/k=8)->Cs 37 #[aL #[Pt p.d,Pt p.a],aL #[Ii k,Ii ke,St s,Ii a,Ii b,Ii c]] W1 λen W'=>en=aQ (aM true)/\nD F LL (n+1) w z W'):=λk hf E=>by{refine (hf E n p W1 dk.1 dk.2 hn fa).m ?_;rintro en W' ⟨k1,p',k2,k3⟩;exact⟨k1,_,_,_,_,_,(M.a G hL).c G hL hi k2 k3⟩};clear cf fr gu gc fg cy gw al av M fa dk c0 c1 c2 c3 c4 c5 cb
   go_wp2_with (first|(go_at_call 35;refine bC (gm.o _ (by simp)) ?_;rintro e' W2 ⟨rfl,C⟩;have ew:=aA C;clear C gm)|(go_at_call 36;refine bC (gv.o _ Qm0.o (by simp)) ?_;rintro e' W2 ⟨rfl,C⟩;have ew:=aA C;clear C gv)|(go_at_call 37;refine bC (gp.o _ jd.o (by simp)) ?_;rintro e' W2 ⟨rfl,C⟩;have ew:=aA C;clear C gp))
   go_ret
   exact⟨rfl,ew.o⟩)
def uF(W:Wq)(v:Vq)(os:List iO):Prop:=∃a c,v=aJ a (aD os) c/\∀(i:Nat) (h:i<aD os),∃g aa,a=aX ⟨g,aa,aY⟩/\g<W.heap.size/\
 aE W ⟨g,aa+i*6,aY⟩=aX (aO aR os[i].d)/\aE W ⟨g,aa+i*6+1,aY⟩=aX (aO aR os[i].e)/\aE W ⟨g,aa+i*6+2,aY⟩=aX (aK os[i].s)/\aE W ⟨g,aa+i*6+3,aY⟩=aX (aO aR os[i].a)/\aE W ⟨g,aa+i*6+4,aY⟩=aX (aO aR os[i].b)/\aE W ⟨g,aa+i*6+5,aY⟩=aX (aO aR os[i].c)
def Ed(F:Nat->Eg->Er->Prop)(LL:pL)(TT:Wq->Prop):Prop:=∀n w bw W,nD F LL n w bw W->n<=3000000->TT w->Calls dU 38 #[.pointer (aX ⟨bw,0,aY⟩)] W λen W'=>en=aQ (aM true)/\dQ W.heap.size W W'
theorem MR(l:List Int):l.flatMap (λx=>[aO aR x])=l.map (aO aR):=by
 induction l with
 |nil=>rfl
 |cons x l ih=>rw[cM,ih];rfl
theorem JF:∃rs,iT ve=.ok rs:=by
 cases hp:iT ve with
 |ok rs=>exact⟨rs,rfl⟩
 |error cp=>have⟨c,p⟩:=cp;have h:=FI hp;rw[LV.u] at h;exact absurd h.s (xO ve c p hp)
def uF.f{v:Vq}{A:List iO}(h:uF W v A)(z:dQ W.heap.size W W'):uF W' v A:=by have⟨a,c,h1,h2⟩:=h;refine⟨a,c,h1,λi C=>?_⟩;have⟨g,aa,e,hg,c0,c1,c2,c3,c4,c5⟩:=h2 i C;exact⟨g,aa,e,bZ hg z.s,(z.cell (p:=⟨g,aa+i*6,aY⟩) hg).t c0,(z.cell (p:=⟨g,aa+i*6+1,aY⟩) hg).t c1,(z.cell (p:=⟨g,aa+i*6+2,aY⟩) hg).t c2,(z.cell (p:=⟨g,aa+i*6+3,aY⟩) hg).t c3,(z.cell (p:=⟨g,aa+i*6+4,aY⟩) hg).t c4,(z.cell (p:=⟨g,aa+i*6+5,aY⟩) hg).t c5⟩
theorem IM{LL:pL}(hF:pV F)(hL:sT LL){TT:Wq->Prop}(df:∀w,TT w->dR 0 1 w)(ii:∀B W,LL B 1 W (aJ aY 0 0) (aJ aY 0 0) (λ_=>False))(dj:Ed F LL TT)(A:List iO)(ks:List Int)(ek gb:Vq)(W:Wq)(dq:uF W ek A)(ed:aH W 0 3 1 gb (aD ks) (ks.map (aO aR)))(j6:aD A<=1048576)(ko:aD ks<=100)(fp:∀o∈A,o.d∈ks->yS F LL TT o)(hT:TT W):Cs 16 #[ek,gb] W λen W'=>en=aQ (aM true)/\dQ W.heap.size W W':=by
 have jv:Hid (∀Y,dQ W.heap.size W Y->uF Y ek A):=λY E=>dq.f E;obtain⟨sa,sc,rfl,dq⟩:=dq;have⟨ka,kc,jc⟩:=qd ed;subst jc;obtain⟨z,bh⟩:=aC W.heap.size;obtain⟨W0,an⟩:=aC (W.alloc (aP #[aJ aY 0 0,aJ aY 0 0,aJ aY 0 0] 31));have ai:dQ W.heap.size W W0:=an▸(cA _ W).l zl _
 have Qy:W0.heap[z]?=cC #[aJ aY 0 0,aJ aY 0 0,aJ aY 0 0] 31:=by rw[<-an,<-bh];exact zn W _
 have fv:qM F 1 W (λ_=>False) (aJ aY 0 0) [] W0:=⟨zo,λp hp=>(by cases hp),λp hp=>(by cases hp),λi j p q hp=>(by simp at hp),ai,λk hk=>hk.elim⟩;have di:Hid (Cs 33 #[Pt z,aL #[Ii 2,Ii 0,St ⟨#[112,97,116,104,40,88,44,89,41,58,45,101,100,103,101,40,88,44,89,41,46,32,112,97,116,104,40,88,44,90,41,58,45,112,97,116,104,40,88,44,89,41,44,101,100,103,101,40,89,44,90,41,46]⟩,Ii 10,Ii 2,Ii 20]] W0 λen W'=>en=aQ (aM true)/\∃(la:Option Addr)(lc:Nat),aE W' (Ad z 0)=aX (aJ la 1 lc)/\Hid (nD F LL 1 W z W')):=by refine (EV hF fv (by omega) Qy (by simp) ⟨2,0,ve,10,2,20⟩ (by decide) (dS (df W hT) ai)).m ?_;rintro en W' ⟨k1,aj,bi,k2,k3,k4,k5,k6,k7⟩;have hl:aD bi=1:=k6 ⟨JF,by unfold mM;decide⟩;have⟨la,lc,hf⟩:=qq k3.h;subst hf;rw[hl] at k2;refine⟨k1,la,lc,zc k2,aJ la (aD bi) lc,_,_,bi,_,hl▸k2,k3,by omega,by omega,ii _ _⟩
 have it:Hid (∀Y,dQ W.heap.size W Y->∀(k:Nat)(hk:k<aD ks),∃g,ka=aX ⟨g,0,aY⟩/\aE Y (Ad g k)=aX (Ii ks[k])):=λY E k hk=>by have ho:=qh ed E;have i4:aH Y 0 3 1 (aJ ka (aD ks) kc) (aD ks) (ks.flatMap (λx=>[aO aR x])):=by{rw[MR];exact ho};have⟨g,cap,e1,_,_,_,hc⟩:=lH i4 (λ_=>rfl) (by omega);simp only[aJ.injEq] at e1;exact⟨g,e1.1,by simpa using hc k 0 hk _ (by decide) rfl⟩
 have j0:=aA fp;have HT:Hid _:=hT;have jw:Hid (W.heap.size<=z):=by show _<=_;omega
 have fw:Hid (∀n Y,nD F LL n W z Y->dQ W.heap.size W Y):=λn Y hh=>by have⟨_,_,_,_,_,hv⟩:=hh;exact hv.d.f
 clear dq ed hT ai Qy fv fp;go_enter Tryz.func16,Tryz.ntmps16;go_wp2_with fail;refine bC di.o ?_;rintro e' W1 ⟨rfl,la,lc,l0,G⟩;clear di;go_wp2_with fail;go_loopw [7] (λp wr=>∃i:Nat,p=aO aR i/\i<=aD A/\Hid (nD F LL (i+1) W z wr)) (λp _=>aD A-(intOf p).toNat)
 case atStart=>exact⟨0,rfl,zz,G⟩
 clear G l0;obtain⟨i,rfl,em,G⟩:=hrel;by_cases ax:i<aD A
 .have i1:(i:Int)<(aD A:Int):=by{omega};have⟨kk,j5,e0,Qi⟩:=jv.o wr (fw.o _ _ G.o);cases e0;have⟨g,aa,e1,hg,c0,c1,c2,c3,c4,c5⟩:=Qi i ax;cases e1;have el:Hid (∀Y,dQ wr.heap.size wr Y->dQ W.heap.size W Y/\nD F LL (i+1) W z Y):=λY E=>by{have⟨vl,ad,ac,ps,Q,hv⟩:=G.o;exact⟨hv.d.f.t (E.m hv.d.f.s),vl,ad,ac,ps,Q,hv.f hF hL E⟩};obtain⟨o,ho⟩:=aC (A[i]);rw[ho] at c0 c1 c2 c3 c4 c5;have jb:Hid (o∈A):=ho▸List.getElem_mem ax;have i9:Hid (∀Y,dQ wr.heap.size wr Y->aE Y (Ad g (aa+i*6))=aX (Ii o.d)/\aE Y (Ad g (aa+i*6+1))=aX (Ii o.e)/\aE Y (Ad g (aa+i*6+2))=aX (St o.s)/\aE Y (Ad g (aa+i*6+3))=aX (Ii o.a)/\aE Y (Ad g (aa+i*6+4))=aX (Ii o.b)/\aE Y (Ad g (aa+i*6+5))=aX (Ii o.c)):=λY O=>⟨(O.cell (p:=⟨g,aa+i*6,aY⟩) hg).t c0,(O.cell (p:=⟨g,aa+i*6+1,aY⟩) hg).t c1,(O.cell (p:=⟨g,aa+i*6+2,aY⟩) hg).t c2,(O.cell (p:=⟨g,aa+i*6+3,aY⟩) hg).t c3,(O.cell (p:=⟨g,aa+i*6+4,aY⟩) hg).t c4,(O.cell (p:=⟨g,aa+i*6+5,aY⟩) hg).t c5⟩;clear Qi ho c0 c1 c2 c3 c4 c5 G;have Qkh:Hid (dQ wr.heap.size wr wr):=zr;go_wp2_with fail;go_loopw [8,9] (λq p jh=>∃(k:Nat)(M:Bool),q=aM M/\p=aO aR k/\k<=aD ks/\Hid (M=(ks.take k).any (λx=>o.d == x))/\Hid (dQ wr.heap.size wr jh)) (λ_ p _=>aD ks-(intOf p).toNat)
  case atStart=>exact⟨0,false,rfl,rfl,zz,rfl,Qkh⟩
  clear Qkh;obtain⟨k,M,rfl,rfl,kl,d8,C⟩:=hrel;have⟨c0,c1,c2,c3,c4,c5⟩:=i9.o _ C.o;by_cases fm:k<aD ks
  .have k1:(k:Int)<(aD ks:Int):=by{omega};have⟨gk,e1,ej⟩:=it.o _ (el.o _ C.o).1 k fm;cases e1;have b0:(ks.take (k+1)).any (λx=>o.d == x)=(M || (o.d == ks[k])):=by{rw[cF fm,List.any_append,<-d8.o];simp};have cv:Hid _:=b0;clear b0;cases M with
   |true=>go_wp2_with fail;(try go_quiet (fail));go_wp2;refine⟨⟨k+1,true,rfl,by go_num,by omega,by rw[cv.o];rfl,by first|exact C|exact qx C.o⟩,by simp[intOf];omega⟩
   |false=>by_cases ev:o.d=ks[k];{rw[show (false || (o.d == ks[k]))=true by simp[ev]] at cv;go_wp2_with fail;(try go_quiet (fail));go_wp2;refine⟨⟨k+1,true,by simp,by go_num,by omega,by rw[cv.o];rfl,by first|exact C|exact qx C.o⟩,by simp[intOf];omega⟩};rw[show (false || (o.d == ks[k]))=false by simp[ev]] at cv;go_wp2_with fail;(try go_quiet (fail));go_wp2;refine⟨⟨k+1,false,by simp[ev],by go_num,by omega,by rw[cv.o];rfl,by first|exact C|exact qx C.o⟩,by simp[intOf];omega⟩
  have k1:¬(k:Int)<(aD ks:Int):=by{omega};have Qkn:Hid (M=ks.any (λx=>o.d == x)):=by{rwa[bQ (by omega)] at d8};have⟨gx,eb⟩:=el.o _ C.o;have Qf2:Hid (nD F LL (i+1+1) W z wr):=by{have⟨vl,ad,ac,ps,Q,hv⟩:=eb;exact⟨vl,ad,ac,ps,Q,hv.a hF hL⟩};clear d8;cases M with
  |false=>clear gx eb;go_wp2;refine⟨⟨i+1,by go_num,by omega,Qf2⟩,by simp[intOf];omega⟩
  |true=>have aq:o.d∈ks:=by{have:=Qkn.o.s;rw[dG] at this;have⟨x,hx,he⟩:=this;have:o.d=x:=by{simpa using he};rwa[this]};have ez:Hid _:=j0.o o jb.o aq (i+1) W z wr eb jw.o (by omega) HT.o;have eg:Hid (∀Y,nD F LL (i+1+1) W z Y->Cs 38 #[Pt z] Y λen W'=>en=aQ (aM true)/\Hid (nD F LL (i+1+1) W z W')):=λY E=>by{refine (dj (i+1+1) W z Y E (by omega) HT.o).m ?_;rintro en W' ⟨q1,q2⟩;have⟨vl,ad,ac,ps,Q,hv⟩:=E;exact⟨q1,vl,ad,ac,ps,Q,hv.f hF hL q2⟩};unfold iO.v at ez;clear gx eb Qf2 aq Qkn;go_wp2_with fail;refine bC ez.o ?_;rintro e' W5 ⟨rfl,fx⟩;have gq:=eg.o W5 fx;clear ez eg fx c0 c1 c2 c3 c4 c5;go_wp2_with fail;refine bC gq ?_;rintro e' W6 ⟨rfl,g7⟩;clear gq;go_wp2;refine⟨⟨i+1,by go_num,by omega,g7⟩,by simp[intOf];omega⟩
 have i1:¬(i:Int)<(aD A:Int):=by omega
 have hB:=aA (fw.o _ _ G.o);clear G;go_wp2;go_ret;exact⟨rfl,by first|exact hB.o|(have:=hB.o;rwa[bh] at this)⟩
end Go.Proofs.YtjajnhemgphefaaGreatDoor
namespace Go.Proofs.YtjajnhemgphefaaGreatDoor
open Go renaming World->Wq,Value->Vq
open Go.ChangeShapes Go.WideShapes Go.ChangeAt Go.RowKit Go.Shelf
variable {b aa:Nat} {W:Wq} {H:Type}
def own:ownKnob Tryz.prog.godebug=none:=by kernel_rfl
def Hr:laidOutB dU=true:=by kernel_rfl
def LB:Tryz.prog.cellsOf 3=1:=by kernel_rfl
def Ig:Tryz.prog.cellsOf 9=1:=by kernel_rfl
def JP:Tryz.prog.cellsOf 34=6:=by kernel_rfl
def IW{k:Nat}:(⟨b,aa,aY⟩:Addr).add k=⟨b,aa+k,aY⟩:=by
 unfold Addr.add;split
 .rename_i h;subst h;rfl
 rfl
theorem IC{v:Vq}(h:aE W (Ad b aa)=aX v):b<W.heap.size:=by
 cases hh:W.heap[b]? with
 |none=>simp[aE,hh] at h
 |some o=>exact (zg hh).1
theorem BA:∀(l:List (DataW H)) (d:DataW H),d∈l->Rows.uptoBulk d<=Rows.uptoBulkAll l
 |[],d,h=>by cases h
 |x::l,d,h=>by
  have e:Rows.uptoBulkAll (x::l)=Rows.uptoBulk x+Rows.uptoBulkAll l:=by simp only[Rows.uptoBulkAll]
  rw[e];obtain rfl|h:=bO.1 h
  .omega
  .have:=BA l d h;lia
theorem Ez:∀(l:List (DataW H)),(∀d∈l,1<=Rows.uptoBulk d)->aD l<=Rows.uptoBulkAll l
 |[],_=>zz
 |x::l,h=>by
  have e:Rows.uptoBulkAll (x::l)=Rows.uptoBulk x+Rows.uptoBulkAll l:=by{simp only[Rows.uptoBulkAll]};have z:=h x zs;have A:=Ez l (λd hd=>h d (zt hd));rw[e,cG];lia
def EI(z:Int):Prop:=-9223372036854775808<=z/\z<=9223372036854775807
theorem Nb{H:Type}{enc:TypeId×Vq->H}{eu:Nat}{dg:Nat->Bool}{held:Bool}{eh:Nat}{a0:Option Addr}{len cap:Nat}{x:DataW H×List MemPlace}(h:DataW.trod enc Tryz.prog W eu dg held eh 36 [.slice a0 len cap]=some x):∃l:List iO,uF W (.slice a0 len cap) l/\(∀o∈l,EI o.e)/\(Rows.uptoBulk x.1<=1048576->l.length<=1048576/\∀o∈l,o.s.size<=1048576):=by
 obtain⟨cl,_⟩|⟨a,h9,bu,m,n,D,Pl,cl,_,hl,hm,ju,io,hx⟩:=Go.Deep.open_slice Tryz.underlying36 h
 .simp only[dA.injEq,Value.slice.injEq,and_true] at cl;obtain⟨rfl,rfl,rfl⟩:=cl;exact⟨[],⟨none,0,rfl,λi hi=>absurd hi (Nat.not_lt_zero _)⟩,λy hy=>(by cases hy),λ_=>⟨by simp,λy hy=>(by cases hy)⟩⟩
 simp only[dA.injEq,Value.slice.injEq,and_true] at cl;obtain⟨rfl,rfl,rfl⟩:=cl;have j8:len<=m:=by rw[ju];split<;>lia
 have each:∀i,i<len->∃z:iO,W.cell? (a.add (i*6))=some (.int .i64 z.d)/\W.cell? (a.add (i*6+1))=some (.int .i64 z.e)/\W.cell? (a.add (i*6+2))=some (.string z.s)/\W.cell? (a.add (i*6+3))=some (.int .i64 z.a)/\W.cell? (a.add (i*6+4))=some (.int .i64 z.b)/\W.cell? (a.add (i*6+5))=some (.int .i64 z.c)/\EI z.e/\z.s.size+1<=Rows.uptoBulk (D i):=by
  intro i hi;obtain⟨ib,h1,h2⟩:=hx i (by lia);rw[JP] at h1;obtain⟨_,ef,Qi⟩:=World.cells?_some h1;obtain⟨xs,k,_,g6,_,im,hf⟩:=DataW.trod_struct Tryz.underlying34 h2;have Qpi:xs.length=6:=im;match xs,Qpi,ib,ef with
  |[y0,y1,y2,y3,y4,y5],_,[v0,v1,v2,v3,v4,v5],_=>have g0:=hf 0 _ rfl;have g1:=hf 1 _ rfl;have g2:=hf 2 _ rfl;have g3:=hf 3 _ rfl;have g4:=hf 4 _ rfl;have g5:=hf 5 _ rfl;simp[LB,Ig] at g0 g1 g2 g3 g4 g5;obtain⟨n0,e0,_,w0⟩:=DataW.trod_int Tryz.underlying3 g0;obtain⟨n1,e1,_,w1⟩:=DataW.trod_int Tryz.underlying3 g1;obtain⟨s2,e2,t2,_⟩:=DataW.trod_string Tryz.underlying9 g2;obtain⟨n3,e3,_,w3⟩:=DataW.trod_int Tryz.underlying3 g3;obtain⟨n4,e4,_,w4⟩:=DataW.trod_int Tryz.underlying3 g4;obtain⟨n5,e5,_,w5⟩:=DataW.trod_int Tryz.underlying3 g5;simp only[dA.injEq,and_true] at e0 e1 e2 e3 e4 e5;subst e0 e1 e2 e3 e4 e5;have c0:=Qi 0 (by lia);have c1:=Qi 1 (by lia);have c2:=Qi 2 (by lia);have c3:=Qi 3 (by lia);have c4:=Qi 4 (by lia);have c5:=Qi 5 (by lia);rw[Go.Deep.add_add] at c0 c1 c2 c3 c4 c5;refine⟨⟨n0,n1,s2,n3,n4,n5⟩,c0,c1,c2,c3,c4,c5,bounds_i64 w1,?_⟩;have hd:D i=.agg [y0.1,y1.1,y2.1,y3.1,y4.1,y5.1]:=by{have:=(Prod.ext_iff.1 g6).1;simpa using this};rw[hd];have e1:Rows.uptoBulk (DataW.agg [y0.1,y1.1,y2.1,y3.1,y4.1,y5.1])=Rows.uptoBulkAll [y0.1,y1.1,y2.1,y3.1,y4.1,y5.1]+1:=by{simp only[Rows.uptoBulk]};have e2:=BA [y0.1,y1.1,y2.1,y3.1,y4.1,y5.1] y2.1 (by simp);have e3:Rows.uptoBulk y2.1=s2.data.toList.length+1:=by{rw[t2];simp only[Rows.uptoBulk]};have e4:s2.data.toList.length=s2.size:=by{simp};show s2.size+1<=_;lia
 haveI:Inhabited iO:=⟨⟨0,0,⟨#[]⟩,0,0,0⟩⟩;obtain⟨f,hf⟩:=Go.Deep.choose_lt each;have ea:0<len->∃b aa,a=⟨b,aa,none⟩:=λh0=>by
  obtain⟨b,aa,pr⟩:=a;cases pr with
  |none=>exact⟨b,aa,rfl⟩
  |some q=>exfalso;have dl:=(hf 0 h0).1;have e0:(⟨b,aa,some q⟩:Addr).add (0*6)=⟨b,aa,some q⟩:=by{simp[Addr.add]};rw[e0] at dl;simp only[World.cell?] at dl;split at dl;{simp at dl};cases dl
 refine⟨(bL len).map f,⟨some a,cap,by simp,λi hi=>?_⟩,λy hy=>?_,λhb=>?_⟩
 .have g8:i<len:=by{simpa using hi};obtain⟨c0,c1,c2,c3,c4,c5,_⟩:=hf i g8;obtain⟨b,aa,rfl⟩:=ea (by lia);rw[IW] at c0 c1 c2 c3 c4 c5;refine⟨b,aa,rfl,IC c0,?_,?_,?_,?_,?_,?_⟩;{simpa using c0};{simpa [cD] using c1};{simpa [cD] using c2};{simpa [cD] using c3};{simpa [cD] using c4};simpa [cD] using c5
 .obtain⟨i,hi,rfl⟩:=bD.1 hy;exact (hf i (cJ.1 hi)).2.2.2.2.2.2.1
 rw[io] at hb;have e1:Rows.uptoBulk (DataW.slice ((bL len).map D) ((bL (m-len)).map λj=>D (len+j)))=Rows.uptoBulkAll ((bL len).map D)+Rows.uptoBulkAll ((bL (m-len)).map λj=>D (len+j))+1:=by simp only[Rows.uptoBulk]
 have kf:Rows.uptoBulkAll ((bL len).map D)<=1048576:=by have:Rows.uptoBulk (DataW.slice ((bL len).map D) ((bL (m-len)).map λj=>D (len+j)))<=1048576:=hb;lia
 have em:=Ez ((bL len).map D) (λd hd=>by
  obtain⟨i,hi,rfl⟩:=bD.1 hd;have:=(hf i (cJ.1 hi)).2.2.2.2.2.2.2
  lia)
 rw[bX,dC] at em;refine⟨by rw[bX,dC];lia,λo ho=>?_⟩;obtain⟨i,hi,rfl⟩:=bD.1 ho;have h5:=(hf i (cJ.1 hi)).2.2.2.2.2.2.2;have h6:=BA ((bL len).map D) (D i) (bD.2 ⟨i,hi,rfl⟩);lia
def Fy:Ren:=
 {f:=λn=>n
  t:=fun
   |5=>5
   |119=>355
   |138=>357
   |139=>358
   |n=>n
  g:=fun
   |3=>0
   |4=>1
   |n=>n}
def Jt:U8Types dU Fy:={
 t5:=by kernel_rfl
 t119:=by kernel_rfl
 t138:=by kernel_rfl
 t139:=by kernel_rfl}
def LD:U8Extra dU Fy:={
 n3:=by kernel_rfl
 n4:=by kernel_rfl
 y3:=by kernel_rfl
 y4:=by kernel_rfl
 c5:=by kernel_rfl
 c119:=by kernel_rfl
 c138:=by kernel_rfl}
def J0:Rows.laid_unicode_utf8_first=Lib.firstData:=by kernel_rfl
def I1:(Rows.laid_unicode_utf8_acceptRanges:DataW Unit)=Lib.acceptData:=by kernel_rfl
def C9:DataW Unit->Vq
 |.lit (.int k z)=>.int k z
 |_=>.int .u8 0
def yM:DataW Unit->Array Vq
 |.agg ds=>(ds.map C9).toArray
 |_=>#[]
def Ma:DataW Unit->List Vq
 |.agg es=>es.map C9
 |_=>[]
def M7:DataW Unit->Array Vq
 |.agg ds=>(ds.flatMap Ma).toArray
 |_=>#[]
def xW(h:Array Obj)(g:Nat)(c:Array Vq):Array Obj:=h.modify g fun
 |aP _ t frozen=>aP c t frozen
 |o=>o
def AG(w:Wq):Wq:=
 {w with heap:=xW (xW (xW (xW (xW w.heap 0 (yM Rows.laid_unicode_utf8_first)) 1 (M7 Rows.laid_unicode_utf8_acceptRanges)) 2 (yM Rows.laid_internal_strconv_uint64pow10)) 4 (yM Rows.laid_math_bits_deBruijn32tab)) 5 (yM Rows.laid_math_bits_deBruijn64tab)}
end Go.Proofs.YtjajnhemgphefaaGreatDoor
namespace Go.Proofs.YtjajnhemgphefaaGreatDoor
open Go renaming World->Wq,Value->Vq
open Go.RowKit Go.Shelf
variable {s x rel:ByteArray} {k b:Nat} {ar:ByteArray->Nat} {M:Gd->Option Int} {hs:List Gr} {e:Eg} {y:Er} {ds:List Dk} {rs:List Rl} {T:Nat->Prop} {α:Type} {W:Wq} {vr vf vn vs vd:Vq} {qs:List (Rl×Vq×Vq)} {fs:List ((Gr×Int×Bool)×Vq)} {ss:List (Gr×Vq)}
def oH(x:ByteArray):Prop:=(44:UInt8)∉x.data.toList
def Oz:oH ⟨#[]⟩:=by unfold oH;simp
def N4{i:Nat}(h:∀j,i<=j->j<k->fE s j≠44):oH (s.extract i k):=by
 intro e;have⟨n,hn,e⟩:=bU e;have E:=hn;rw[Array.length_toList,cT,Array.size_extract] at E;rw[Array.getElem_toList] at e;simp only[cT,Array.getElem_extract] at e;have A:i+n<s.size:=by show i+n<s.data.size;lia
 have z:=vH s (i+n) A;have C:s[i+n]=44:=e;rw[C] at z;exact h (i+n) (by lia) (by lia) z.s
theorem NC(s:ByteArray)(i:Nat)(h:nQ (dW s i).1=true):∀j,i<=j->j<i+(dW s i).2->fE s j≠44:=by
 rw[Ae,<-FB,decide_eq_true_eq] at h;rw[wX];intro j C z e;unfold nW at h;split at h
 .rename_i A;rw[A] at z;have:j=i:=by{lia};subst this;rw[e] at h;revert h;decide
 grind [gO,kI,lP]
theorem Fq(s:ByteArray):∀(f z m j:Nat),z<=j->j<(fX s f z m).1->fE s j≠44
 |0,z,m,j,h1,h2=>by grind [fX]
 |f+1,z,m,j,h1,h2=>by
  unfold fX at h2;split at h2
  .split at h2
   .rename_i C;by_cases A:j<z+(dW s z).2;{grind [NC]};{exact Fq s f _ _ j (by lia) h2}
   .grind
  .grind
theorem yE:∀(f:Nat) (s:ByteArray) (p:Nat),∀x∈gD f s p,x.d=1->oH x.f
 |0,s,p,x,z,_=>by simp[gD] at z
 |f+1,s,p,x,z,hk=>by
  unfold gD at z;split at z;{simp at z};split at z;{exact yE f _ _ x z hk};split at z
  .obtain rfl|z:=bO.1 z
   .simp only at hk ⊢;refine N4 (λj C A=>?_);unfold gT at hk A;split at A;{grind}
    .split at A;{exact Fq s _ _ _ j C A};{grind [sD]}
   .exact yE f _ _ x z hk
  .simp at z
def wI(a:Am):Prop:=∀t∈a.d,oH t.c
structure xu(s:fT):Prop where
 u:∀r∈s.u,∀a∈Qa r,wI a
 f:∀a∈s.f,wI a
def Hz{l:List Am}{x:Tm}(h:∀a∈l,wI a)(E:oH x.c):∀a∈pO l x,wI a:=by
 unfold pO;split
 .rename_i b C;intro a z;obtain z|z:=bH.1 z;{grind [List.dropLast_sublist]};rw[bJ] at z;subst z;intro t A;obtain A|A:=bH.1 A;{exact h b (List.mem_of_getLast? C) t A};grind
 exact h
theorem LJ{s:fT}(h:xu s)(k:Int)(t:ByteArray)(M:k=1->oH t):xu (fS s k t):=by
 unfold fS;split
 .unfold oQ;split;{refine⟨h.u,Hz h.f ?_⟩;unfold jH;split;{grind};{exact Oz}};refine⟨h.u,λa z=>?_⟩;obtain z|z:=bH.1 z;{exact h.f a z};rw[bJ] at z;subst z;intro u G;cases G
 split
 .exact⟨h.u,h.f⟩
 split
 .exact⟨h.u,h.f⟩
 split
 .exact⟨h.u,h.f⟩
 split
 .exact⟨h.u,h.f⟩
 split
 .unfold mV;split;{rename_i a l E;refine⟨λr A=>?_,λa z=>by cases z⟩;obtain A|A:=bH.1 A;{exact h.u r A};rw[bJ] at A;subst A;intro b C;exact h.f b (E▸C)};exact h
 exact h
theorem Cp:∀(l:List gF) (s z:fT) (o:Option (Int×Nat)),xu s->(∀x∈l,x.d=1->oH x.f)->fO s l=(z,o)->xu z
 |[],s,z,o,h,_,e=>by grind [fO]
 |x::l,s,z,o,h,hl,e=>by
  unfold fO at e;split at e
  .rename_i h0;refine Cp l _ z o ?_ (λy A=>hl y (zt A)) e;unfold gA at h0 ⊢;split at h0;{cases h0};{grind [LJ]}
  .grind
def E8:xu iG:=⟨λr A=>(by cases A),λa z=>(by cases z)⟩
def Mg(s:ByteArray){a:Am}(h:jN s=aX a):wI a:=by
 unfold jN at h;split at h
 .cases h
 cases hf:fO iG (gD s.size s 0) with
 |mk st o=>
  rw[hf] at h;have z:=Cp _ _ _ _ E8 (yE _ _ _) hf;cases o with
  |some q=>cases h
  |none=>simp only at h;split at h;{exact z.f a (List.mem_of_head? h)};{cases h}
theorem K4(s:ByteArray){rs:List Rl}(h:nE s=.ok rs):∀r∈rs,∀a∈Qa r,wI a:=by
 unfold nE at h;cases hf:fO iG (gD s.size s 0) with
 |mk st o=>
  rw[hf] at h;have z:=Cp _ _ _ _ E8 (yE _ _ _) hf;cases o with
  |some q=>cases h
  |none=>simp only at h;split at h;{injection h with h;subst h;exact z.u};{cases h}
theorem CP:∀{x A y z:List UInt8},(44:UInt8)∉x->(44:UInt8)∉A->x++44::y=A++44::z->x=A/\y=z
 |[],[],y,z,_,_,e=>by simpa using e
 |[],b::A,y,z,_,h',e=>by grind
 |a::x,[],y,z,h,_,e=>by grind
 |a::x,b::A,y,z,h,h',e=>by simp only[List.cons_append,dA.injEq] at e;obtain⟨rfl,e⟩:=e;obtain⟨rfl,rfl⟩:=CP (λm=>h (zt m)) (λm=>h' (zt m)) e;exact⟨rfl,rfl⟩
def J1{g g':Gd}(hr:g.j=g'.j)(E:gN ar g)(A:gN ar g')(G:oH g.x)(M:oH g'.x)(e:fU g=fU g'):g=g':=by
 have⟨r,x,y⟩:=g;have⟨r',x',y'⟩:=g';simp only at hr G M;subst hr;have C:=congrArg (λb:ByteArray=>b.data.toList) e;unfold fU sZ rz at C;simp only[Ke,bI] at C;have z:=List.append_cancel_right (by simpa using cS (cS C):_++[(41:UInt8)]=_++[(41:UInt8)]);unfold gN at E A;simp only at E A;obtain⟨_,⟨a1,rfl⟩|⟨a1,hy⟩⟩:=E
 .obtain⟨_,⟨a2,rfl⟩|⟨a2,O⟩⟩:=A;{have hE:eB.toList=[]:=by{simpa using (lN eB).2 rfl};rw[if_pos hE,if_pos hE] at z;have:x=x':=uE (by simpa [Lib.join] using z);rw[this]};lia
 obtain⟨_,⟨a2,rfl⟩|⟨a2,O⟩⟩:=A;{lia};rw[if_neg (λh=>hy ((lN _).1 (by simpa using h))),if_neg (λh=>O ((lN _).1 (by simpa using h)))] at z;have e4:x.data.toList++44::y.data.toList=x'.data.toList++44::y'.data.toList:=by{simpa [Lib.join] using z};have⟨e5,e6⟩:=CP G M e4;rw[uE e5,uE e6]
structure qN(ar:ByteArray->Nat)(M:Gd->Option Int)(hs:List Gr):Prop where
 a:∀g,(M g).isSome=true↔fM g∈hs
 j:hs.Nodup
 c:∀h∈hs,∃g,fM g=h
 o:∀g,(M g).isSome=true->gN ar g/\g.x.size<=2000/\g.y.size<=2000
 f:∀g,(M g).isSome=true->oH g.x
def Ee(h:ar rel=1\/ar rel=2):oF ar (iP rel (ar rel)):=by refine⟨wQ _ _,λt A=>?_⟩;obtain⟨k,z,rfl⟩:=bD.1 A;have:=cJ.1 z;show k<6;lia
def KI{n:Nat}(M:n=1\/n=2){h:Gr}(G:h.j=rel->aD h.d=n):(gM (iP rel n) h iF).isSome=qX rel h:=by
 rw[dY];have O:qX rel h=true↔h.j=rel:=by grind [qX,oT,uE]
 rw[O];constructor
 .intro E;have⟨c,hc⟩:=cQ.1 E;exact (wg hc).1.s
 intro C;have A:=G C;have⟨r,args⟩:=h;simp only at C A;subst C;unfold gM;rw[if_pos ⟨(uf _ _).2 rfl,by rw[wQ];exact A.s⟩];have z:qj (⟨#[]⟩:ByteArray)=true:=pB;obtain rfl|rfl:=M
 .match args,A with
  |[x],_=>show (jR [⟨⟨#[]⟩,0⟩] [x] iF).isSome=true;unfold jR;rw[if_neg (by rw[z];decide),if_pos (by exact z)];rfl
 match args,A with
 |[x,y],_=>show (jR [⟨⟨#[]⟩,0⟩,⟨⟨#[]⟩,1⟩] [x,y] iF).isSome=true;unfold jR;rw[if_neg (by rw[z];decide),if_pos (by exact z)];unfold jR;rw[if_neg (by rw[z];decide),if_pos (by exact z)];rfl
def qN.l(h:qN ar M hs){g:Gr}(C:g∈hs):aD g.d=ar g.j:=by
 obtain⟨d,rfl⟩:=h.c g C;have:=(h.o d ((h.a d).2 C)).1;unfold gN at this;unfold fM;obtain⟨_,⟨z,A⟩|⟨z,A⟩⟩:=this
 .rw[if_pos (A▸pB)];simp[z]
 rw[if_neg (λe=>A ((sS _).1 e))];simp[z]
def qN.d(h:qN ar M hs){rel:ByteArray}(A:ar rel=1\/ar rel=2):hs.filter (λg=>(gM (iP rel (ar rel)) g iF).isSome)=hs.filter (qX rel):=
 dD (λg z=>KI A (λe=>by rw[h.l z,e]))
def Fd(h:qN ar M hs){rel:ByteArray}(z:ar rel=1\/ar rel=2){gs:List Gd}(A:rj M (iP rel (ar rel)) gs):oO gs=(mP hs rel).map (λx=>x.data.toList):=by have:=Eu h.a h.j h.c h.o (Ee z) A;rwa[h.d z] at this
def Ki(h:qN ar M hs){rel:ByteArray}(E:ar rel=1\/ar rel=2){gs:List Gd}(z:rj M (iP rel (ar rel)) gs):∀g∈gs,(M g).isSome=true/\g.j=rel:=by intro g A;have C:=Gt h.a h.j h.c h.o (Ee E) z;have:=(C.mem_iff (a:=fM g)).1 (bD.2 ⟨g,A,rfl⟩);have⟨h1,h2⟩:=cI.1 this;have⟨c,hc⟩:=cQ.1 h2;exact⟨(h.a g).2 h1,(wg hc).1.s⟩
def Hm(q:List UInt8->Bool)(l:List (List UInt8)):iL (l.filter q)=(iL l).filter q:=by rw[Bc ((List.mergeSort_perm l (λx y=>decide (x<=y))).filter q).symm];refine List.mergeSort_of_pairwise (dM.filter _ ?_);exact List.pairwise_mergeSort (le:=λx y=>decide (x<=y)) (λa b c z A=>by simp only[decide_eq_true_eq] at *;exact List.le_trans z A) (λa b=>by simp only[Bool.or_eq_true,decide_eq_true_eq];exact List.le_total a b) l
def JO:mQ (mP hs rel) x=true↔∃h∈hs,qX rel h=true/\lJ h=x:=by
 unfold mQ mP;rw[dG];have z:=(xF ((hs.filter (qX rel)).map lJ) [] dM.nil).2;rw[List.append_nil] at z;constructor
 .rintro⟨y,G,e⟩;rw[yY] at e;subst e;have⟨h,hh,e⟩:=bD.1 ((z.mem_iff).1 G);exact⟨h,(cI.1 hh).1,(cI.1 hh).2,e⟩
 rintro⟨h,A,C,E⟩;exact⟨x,(z.mem_iff).2 (bD.2 ⟨h,cI.2 ⟨A,C⟩,E⟩),(yY _ _).2 rfl⟩
def F0{g:Gr}:qX rel g=true↔g.j=rel:=by grind [qX,oT,uE]
def CT{C:Gd->Option Int}{E:List Gr}(h:qN ar M hs)(A:qN ar C E){rel:ByteArray}(hr:ar rel=1\/ar rel=2){gs:List Gd}(hb:rO M C (iP rel (ar rel)) gs)(z:Int):Qt z gs=Q6 z (mP hs rel) (mP E rel):=by
 obtain⟨G,hf,rfl⟩:=hb;have O:=Fd h hr hf;have hm:=Ki h hr hf;unfold oO at O;have h2:(G.filter (λg=>(C g).isNone)).map (λg=>(fU g).data.toList)=(G.map (λg=>(fU g).data.toList)).filter (λt=>!mQ (mP E rel) ⟨t.toArray⟩):=by rw[dI];congr 1;refine dD (λg hg=>?_);have⟨m1,m2⟩:=hm g hg;show (C g).isNone=!mQ (mP E rel) ⟨(fU g).data.toList.toArray⟩;have e0:(⟨(fU g).data.toList.toArray⟩:ByteArray)=fU g:=by{simp};rw[e0,<-Option.not_isSome];congr 1;rw[dY,JO];constructor;{intro jo;exact⟨fM g,(A.a g).1 jo,F0.2 m2,Cz g⟩};{rintro⟨k,k1,k2,k3⟩;obtain⟨d,rfl⟩:=A.c k k1;have hd:=(A.a d).2 k1;rw[Cz] at k3;have hrel:d.j=rel:=F0.1 k2;have:=J1 (by rw[hrel,m2]) (A.o d hd).1 (h.o g m1).1 (A.f d hd) (h.f g m1) k3;rwa[<-this]}
 unfold Qt Q6 mH;rw[h2,Hm,O,dI,dO];refine cW (λx _=>?_);simp
def OA(h:qN ar M hs){rel:ByteArray}(E:ar rel=1\/ar rel=2){gs:List Gd}(C:rj M (iP rel (ar rel)) gs)(z:Int):Qt z gs=Q6 z (mP hs rel) []:=by have A:=Fd h E C;unfold oO at A;unfold Qt Q6 mH;rw[A,dO,List.filter_eq_self.2 (λx _=>by rfl)];refine cW (λx _=>?_);simp
structure xB(rs:List Rl)(n:Nat)(f:Fs)(d:Fr):Prop where
 c:f.c=iP d.j (fG rs d.j)
 i:fG rs d.j≠0
 a:f.a=d.a
 g:f.g=d.g
 w:f.w=d.w
 h:f.h=d.o
 o:d.o<=n
 j:∀r∈d.g,r.d≠0
 l:∀r∈d.w,r.d≠0
def FF(n:Nat)(e:Eg)(y:Er):Prop:=(∀x∈e.c,oH x)/\aD e.l=aD y.a/\∀(i:Nat) (f:Fs) (d:Fr),e.l[i]?=aX f->y.a[i]?=aX d->xB e.z n f d
def jM.A(h:jM e y ds)(ab:fP e)(G:∀x∈e.c,oH x):qN (fG e.z) e.M y.n:=by
 have O:=λg A=>(qY.1 (ab.C g A).2).2.1;refine⟨h.p ab,h.s,λg A=>?_,λg A=>?_,λg A=>G _ (O g A)⟩
 .have⟨⟨a,ha,h1,h2⟩,h3⟩:=h.i g A;have C:=(ab.z.c a (h.z▸ha)).2;have⟨r,args⟩:=g;simp only at h1 h2 h3;obtain C|C:=C
  .match args,h2.t C with
   |[x],_=>refine⟨⟨r,x,eB⟩,?_⟩;unfold fM;rw[if_pos (by exact pB)]
  match args,h2.t C with
  |[x,z],_=>refine⟨⟨r,x,z⟩,?_⟩;unfold fM;have E:=h3 z (by simp);rw[if_neg (λq=>by rw[(sS z).1 q] at E;exact h.q E)]
 have:=xH ab g.j g.x g.y A;exact⟨(ab.C g A).1,this⟩
def Ev(ab:fP e){x:ByteArray}(h:fG e.z x≠0):fG e.z x=1\/fG e.z x=2:=by
 obtain z|z|z:=tV ab.z x
 .exact aS z
 .exact aU z
 grind
theorem FV{z:Int}{l A:List ByteArray}{r:Rc}(h:r∈Q6 z l A):r.d=z:=by grind [Q6]
def Lm(ap:ar=fG rs){M G:Gd->Option Int}{hs C:List Gr}(h:qN ar M hs)(h':qN ar G C){m q:Int}{n:Nat}{f f':Fs}{d:Fr}(A:ar d.j=1\/ar d.j=2)(z:xB rs n f d)(hm:BC M G m q f f'):xB rs n f' (mD q m hs C d):=by
 subst ap;obtain⟨E,rfl⟩|⟨E,g1,g2,O,b2,hc⟩:=hm
 .have hd:d.a=true:=z.a▸E;unfold mD;rwa[if_pos hd]
 have hd:¬d.a=true:=by{rw[<-z.a,E];decide};rw[z.c] at O b2;have e1:=CT h h' A O 3;have e2:=CT h' h A b2 2;have hl:(aD (f.w++Qt 3 g1++Qt 2 g2):Int)+1=((aD d.w+aD (sy hs C d.j m):Nat):Int):=by rw[z.w,e1,e2];unfold sy;simp only[bE,cG,List.length_nil];lia
 unfold mD;rw[if_neg hd];obtain⟨hq,rfl⟩|⟨hq,rfl⟩:=hc
 .rw[if_pos (by lia)];exact⟨z.c,z.i,rfl,rfl,rfl,z.h,z.o,λr A=>(by cases A),λr A=>(by cases A)⟩
 rw[if_neg (by lia)];refine⟨z.c,z.i,z.a,z.g,?_,z.h,z.o,z.j,λr A=>?_⟩;{show f.w++Qt 3 g1++Qt 2 g2++_=d.w++sy hs C d.j m;rw[z.w,e1,e2];unfold sy;simp only[bI]};unfold sy at A;obtain A|A:=bH.1 A
 .exact z.l r A
 grind [FV]
theorem Nd(e:Eg)(s:ByteArray)(t:Int)(z:∀x∈e.c,oH x):∀x∈(lR e s t).2.c,oH x:=by
 unfold lR;cases ha:jN s with
 |none=>exact z
 |some a=>simp only;split;{exact z};split;{exact z};split;{exact z};split;{exact z};unfold ru;split;{exact z};split;{exact z};split;{exact z};intro x E;rcases (wZ _ _ _).1 E with A|⟨u,C,_,rfl⟩;{exact z x A};exact Mg s ha u C
def LC(e:Eg)(s:ByteArray)(t:Int):(lR e s t).2.z=e.z/\(lR e s t).2.l=e.l:=by grind [lR,ru]
def FF.h{n:Nat}(s:ByteArray)(t:Int)(h:FF n e y):FF n (lR e s t).2 (lI y s t).2:=by have⟨h1,h2,h3⟩:=h;have⟨k1,k2⟩:=LC e s t;refine⟨Nd e s t h1,by rwa[k2,Cc],λi f d z hd=>?_⟩;rw[k2] at z;rw[Cc] at hd;rw[k1];exact h3 i f d z hd
def FF.a{n:Nat}{c:Int}{e':Eg}{y':Er}{r r':Int×Int}(ab:fP e)(A:jM e y ds)(h:FF n e y)(C:uL e c e' r)(z:sQ y c y' r'):FF n e' y':=by
 have⟨_,az,ay⟩:=C5 A ab C z;have M:=Cj ab C;have⟨f1,f2,f3⟩:=h;have Qab:=ay.h;obtain⟨hc,rfl,rfl⟩|⟨hc,_,C⟩:=C
 .obtain⟨_,rfl,rfl⟩|⟨ak,_⟩:=z;{exact⟨f1,f2,f3⟩};grind
 obtain⟨ak,_⟩|⟨_,z⟩:=z
 .grind
 have jj:=A.u;have j7:=A.h;have kt:=A.r;have Qln:jA y c-y.u<=y.h↔c-e.u<=e.h:=by grind [jA]
 obtain⟨em,rfl⟩|⟨ax,G⟩:=C
 .obtain⟨i8,rfl,rfl⟩|⟨jr,_⟩:=z;{exact⟨f1,f2,f3⟩};grind
 obtain⟨i8,_⟩|⟨jr,_,st,el,rfl⟩:=z
 .grind
 obtain⟨M',O,hM,hl,ck,rfl⟩:=G;have hT:=A.A ab f1;have jn:=ay.A M f1;have ej:jA y c=c:=by{grind};refine⟨f1,by show aD O=aD (y.a.map _);rw[hl,bX,f2],λi f d hf hd=>?_⟩;have a9:O[i]?=aX f:=hf;have E:(y.a.map (mD y.w (jA y c-y.u) y.n st))[i]?=aX d:=hd;rw[List.getElem?_map] at E;have⟨hi,dy⟩:=bG.1 a9;have fi:i<aD e.l:=by{lia};have cz:i<aD y.a:=by{lia};rw[bF cz] at E;simp only[Option.map_some,Option.some.injEq] at E;have G:=ck i fi hi;rw[dy] at G;have hR:=f3 i _ _ (bF fi) (bF cz);have:=Lm rfl hT jn (Ev ab hR.i) hR G;rw[A.w,show c-e.u=jA y c-y.u by rw[ej,jj]] at this;rwa[<-E]
def FF.d{n:Nat}(win z que:Int)(M:Gd->Option Int)(st:List Gr)(h:zk s rs):FF n (uA rs win z que M) (tT rs win z que st):=by
 refine⟨λx O=>?_,rfl,λi f d E _=>?_⟩
 .have A:x∈jJ [] rs:=O;rw[h.c] at A;rcases (wZ _ _ _).1 A with C|⟨u,G,_,rfl⟩;{cases C};have⟨a,ha,iv⟩:=cE.1 G;have⟨r,hr,jz⟩:=cE.1 ha;exact K4 s h.d.a r hr a jz u iv
 have:([]:List Fs)[i]?=aX f:=E;simp at this
def LK(L:List Vq)(o n:Nat)(v:Vq)(h:o<aD L):(L.set o v).take (o+1)=L.take o++[v]/\(L.set o v).drop (o+1+n)=L.drop (o+1+n):=by refine⟨?_,by rw[List.drop_set_of_lt (by lia)]⟩;rw[cF (by simpa using h),List.take_set_of_le zl,List.getElem_set_self]
theorem AN{T:TypeId}:∀(vs:List Vq) (o:Nat) (w:Wq) (z:Array Vq),w.heap[b]?=cC z T->o+aD vs<=z.size->∃A,(w.setCells b o vs).heap[b]?=cC A T/\A.size=z.size/\A.toList=z.toList.take o++vs++z.toList.drop (o+aD vs)
 |[],o,w,z,h,_=>⟨z,h,rfl,by simp⟩
 |v::vs,o,w,z,h,hl=>by simp only[cG] at hl;have⟨A,h1,h2,h3⟩:=AN vs (o+1) (w.setCell (Ad b o) v) _ (qw h o v) (by simp;lia);refine⟨A,h1,by simpa using h2,?_⟩;have⟨e1,e2⟩:=LK z.toList o (aD vs) v (by grind);rw[h3,Array.toList_setIfInBounds,e1,e2,bI,bI,bI,cG,show o+(aD vs+1)=o+1+aD vs by lia];rfl
theorem vZ(b:Nat):∀(vs:List Vq) (o:Nat) (w:Wq),(w.setCells b o vs).os=w.os/\(w.setCells b o vs).tape=w.tape/\(w.setCells b o vs).output=w.output/\(w.setCells b o vs).heap.size=w.heap.size/\∀k,k≠b->(w.setCells b o vs).heap[k]?=w.heap[k]?
 |[],o,w=>⟨rfl,rfl,rfl,rfl,λ_ _=>rfl⟩
 |v::vs,o,w=>by have⟨h1,h2,h3,h4,h5⟩:=vZ b vs (o+1) (w.setCell (Ad b o) v);exact⟨h1,h2,h3,h4.t (by simp),λk z=>(h5 k z).t (dB w ⟨b,o,aY⟩ v k z)⟩
theorem BP(f:α->List Vq)(k:Nat)(z:∀x,aD (f x)=k):∀(l:List α) (i:Nat) (x:α),i<aD l->(l.set i x).flatMap f=(l.flatMap f).take (i*k)++f x++(l.flatMap f).drop (i*k+k)
 |a::l,0,x,_=>by grind
 |a::l,i+1,x,h=>by
  have E:=BP f k z l i x (by simpa using h);have G:=z a;have A:((f a)++l.flatMap f).take ((i+1)*k)=f a++(l.flatMap f).take (i*k):=by{grind [cR,bQ,dF]};have C:((f a)++l.flatMap f).drop ((i+1)*k+k)=(l.flatMap f).drop (i*k+k):=by{grind [dH,List.drop_eq_nil_of_le,dF]};rw[List.set_cons_succ,cM,E,cM,A,C];simp only[bI]
def EE{B T:Nat}{f:α->List Vq}{l:List α}{g c:Nat}(h:aH W B T k (Sc g (aD l) c) (aD l) (l.flatMap f))(z:∀x,aD (f x)=k){i:Nat}(A:i<aD l)(x:α):aH (W.setCells g (i*k) (f x)) B T k (Sc g (aD l) c) (aD l) ((l.set i x).flatMap f):=by
 obtain⟨hx,⟨C,_⟩|⟨g',M,E,C,hb,hh,G,h2,h3,h4⟩⟩:=h
 .cases C
 cases C;have eg:i*k+k<=aD l*k:=by rw[<-Nat.succ_mul];exact cU _ A
 have ej:aD l*k<=c*k:=cU _ G;have⟨am,e1,e2,e3⟩:=AN (f x) (i*k) W E hh (by grind);have O:aD ((l.set i x).flatMap f)=aD l*k:=by{rw[BP f k z l i x A];simp only[bE,List.length_take,List.length_drop,hx,z];lia};refine⟨O,aU ⟨g,c,am,rfl,hb,e1,G,h2,by lia,?_⟩⟩;rw[e3,BP f k z l i x A,<-h4,z,List.take_take,Nat.min_eq_left (by lia)];have hz:aD (E.toList.take (i*k))=i*k:=by{simp;lia};rw[cR,bQ (by grind)];congr 1;rw[bE,hz,z,dL]
def Mp{P:Program}(w:Wq)(t ty e:TypeId)(he:e=71)(i:TypeInfo)(z:Vq)(ht:P.underlying t=aX (.slice e))(hi:P.info? e=aX i)(hz:i.zero=aX z)(h4:i.size=4)(h5:i.bytes=40)(ie:z.cells.size=4){v:Vq}{l A:List Rc}(h:fI w v l){x:Vq}(hs:Src P 4 t x (aD A) (A.flatMap Rc.c) w)(hl:aD l+aD A<=100000):∃E w',(dX #[t,t] ty #[v,x]).run P w=.ok E w'/\fI w' E (l++A)/\w.grownBy w' (aI v)/\(aI E=aI v\/aI E=aX w.heap.size):=by
 subst he;have jl:=wh l;have G:=wh A;have jg:(l++A).flatMap Rc.c=l.flatMap Rc.c++A.flatMap Rc.c:=List.flatMap_append;have grow:∀(bs:Option Addr)(sc:Nat),v=aJ bs (aD l) sc->sc<aD l+aD A->(Builtin.firstCells i.size (aD l) (aJ bs (aD l) sc)).run P w.drew=.ok (l.flatMap Rc.c).toArray w.drew->∃E w',(dX #[t,t] ty #[v,x]).run P w=.ok E w'/\fI w' E (l++A)/\w.grownBy w' (aI v)/\(aI E=aI v\/aI E=aX w.heap.size):=by rintro bs sc rfl hg b3;have ec:=run_append_grow_src (P:=P) w t t ty 71 i z ht hi hz bs (aD l) sc (l.flatMap Rc.c) b3 x (aD A) (A.flatMap Rc.c) (by grind) hg (by lia) (h5▸growslice_fits hg (by omega));have a8:=grownCap_ge w (aD l+aD A) sc 71;have et:=grownCap_le_maxLen w (aD l+aD A) sc 71 (by unfold maxLen;lia);refine⟨_,_,ec,aU ⟨w.heap.size,0,_,_,by rw[bE],zn w.drew _,bE▸a8,et,?_,?_⟩,⟨rfl,rfl,rfl,by simp,λk M _=>bT w.drew _ k M⟩,aU rfl⟩;{simp only[Array.size_append,List.size_toArray,bE,jl,G,size_zeroCells,ie];lia};{grind [Array.toList_append,bE,dJ]}
 obtain⟨rfl,rfl⟩|⟨g,aa,C,O,rfl,hh,kb,et,cl,b0⟩:=h
 .by_cases h0:aD A=0;{have:A=[]:=List.eq_nil_of_length_eq_zero h0;subst this;have hc:(Builtin.firstCells 4 0 x).run P w=.ok (#[]:Array Vq) w:=hs.cells;have M:(dX #[t,t] ty #[aJ aY 0 0,x]).run P w=.ok (aJ aY 0 0) w:=by{obtain⟨e',M⟩|M:=hs.kind<;>simp[dX,run_underlying ht,sizeOf,typeInfo,hi,hs.len,h4,hc]};exact⟨_,_,M,aS ⟨rfl,rfl⟩,⟨rfl,rfl,rfl,dE _,λ_ _ _=>rfl⟩,aS rfl⟩};exact grow aY 0 rfl (by simp;lia) (run_firstCells_none w.drew i.size 0 0 0)
 by_cases b5:aD l+aD A<=C
 .have jp:aa+aD l*4+aD (A.flatMap Rc.c)<=O.size:=by{rw[G];lia};have ec:=run_append_room_src (P:=P) w t t ty 71 i ht hi g aa (aD l) C x (aD A) (A.flatMap Rc.c) (by grind) b5 (λj hj=>by rw[h4];simp only[aE,hh];rw[Array.getElem?_eq_getElem (by lia)];rfl) (λj hj=>by simp[aF,hh]);rw[h4] at ec;have⟨am,e1,e2,e3⟩:=AN (A.flatMap Rc.c) (aa+aD l*4) w O hh jp;have⟨f1,f2,f3,f4,f5⟩:=vZ g (A.flatMap Rc.c) (aa+aD l*4) w;refine⟨_,_,ec,aU ⟨g,aa,C,am,by rw[bE],e1,bE▸b5,et,by lia,?_⟩,⟨f1,f2,f3,by lia,λk M hn=>f5 k (λe=>hn (by rw[e];rfl))⟩,aS rfl⟩;rw[e3,jg,bE,dF,<-b0];have hz:aD (O.toList.take (aa+aD l*4))=aa+aD l*4:=by{simp;lia};rw[bI,dH,cR,hz,show aa-(aa+aD l*4)=0 by lia,List.drop_zero,dL];have co:aD ((O.toList.drop aa).take (aa+aD l*4-aa))=aD l*4:=by{simp;lia};rw[co,bQ (l:=(O.toList.drop aa).take (aa+aD l*4-aa)) (by lia),show aa+aD l*4-aa=aD l*4 by lia,show aD l*4+aD A*4-aD l*4=aD A*4 by lia];congr 1;exact dJ G
 refine grow (aX ⟨g,aa,aY⟩) C rfl (by lia) (run_firstCells_some w.drew i.size (aD l) ⟨g,aa,aY⟩ (aD l) C _ (by grind) (λj u hu=>?_));have hj:=(bG.1 hu).1;rw[<-b0,List.getElem?_take,if_pos (by lia),List.getElem?_drop] at hu;rw[Addr.add_lit];show aE w (Ad g (aa+j))=aX u;simpa [aE,hh] using hu
def fV.L{W':Wq}{ds:List (Fr×Vq×Vq)}(h:fV W T b y vr vf vn vs vd qs fs ss ds){i:Nat}{p p':Fr×Vq×Vq}(M:ds[i]?=aX p)(hc:fC W W' (λk=>aI vd=aX k\/aI p.2.2=aX k))(row:aH W' 0 246 5 vd (aD ds) ((ds.set i p').flatMap mT))(hs:fI W' p'.2.1 p'.1.g)(hq:fI W' p'.2.2 p'.1.w)(ls:∀g,aI p'.2.1=aX g->aI p.2.1=aX g\/W.heap.size<=g)(lq:∀g,aI p'.2.2=aX g->aI p.2.2=aX g\/W.heap.size<=g)(hd:∀g,aI p'.2.2=aX g->aI p'.2.1≠aX g):Q0 T b {y with a:=y.a.set i p'.1} W W'/\wE W W':=by
 have aq:=bB M;have ax:=(bG.1 M).1;have Ql2:∀{v:Vq}{l:List Rc},fI W v l->∀{g:Nat},aI v=aX g->∃c,W.heap[g]?=cC c 71:=λ{v l} E {g} z=>by obtain⟨rfl,_⟩|⟨g',aa,cap,ah,rfl,A,_⟩:=E;{cases z};cases z;exact⟨ah,A⟩
 have ca:wE W W':=λk c t C A hk=>hc.h k (zg hk).1 (λe=>by
  obtain e|e:=e
  .have⟨c',ak⟩:=qg h.a e;rw[hk] at ak;cases ak;exact C rfl
  .have⟨c',ak⟩:=Ql2 (h.o p aq).2.1 e
   rw[hk] at ak;cases ak;exact A rfl)
 have Qv:∀{B U m n:Nat}{u:Vq}{xs:List Vq},U≠246->U≠71->aH W B U m u n xs->aH W' B U m u n xs:=λC A ho=>qm ho (λg z _=>by
  have⟨c,cr⟩:=qg ho z
  exact ca g c _ C A cr)
 have Ql3:∀{v:Vq}{l:List Rc},fI W v l->(∀g,aI p.2.2=aX g->aI v≠aX g)->fI W' v l:=λ{v l} E ci=>E.E (λg z=>by
  have⟨c,cr⟩:=Ql2 E z;refine hc.h g (zg cr).1 (λe=>?_);obtain e|e:=e
  .have⟨c',ak⟩:=qg h.a e;rw[cr] at ak;cases ak
  .exact ci g e z)
 have a8:∀(j:Nat)(q:Fr×Vq×Vq),(ds.set i p')[j]?=aX q->(j=i/\q=p')\/(j≠i/\ds[j]?=aX q):=λj q hq=>by grind
 have eo:∀{v:Vq}{l:List Rc},fI W' v l->∀g,aI v=aX g->g<W'.heap.size:=λ{v l} E g z=>by obtain⟨rfl,_⟩|⟨g',aa,cap,ah,rfl,A,_⟩:=E;{cases z};cases z;exact (zg A).1
 have gg:∀(u o:Vq)(l:List Rc),fI W' u l->(∀g,aI o=aX g->T g)->(∀g,aI u=aX g->aI o=aX g\/W.heap.size<=g)->∀g,aI u=aX g->jZ T W W' g:=λu o l E ho hl g z=>by obtain C|C:=hl g z;{exact aS (ho g C)};exact aU ⟨C,eo E g z⟩
 have b3:∀{q:Fr×Vq×Vq},q∈ds->(∀g,aI q.2.1=aX g->g<W.heap.size)/\∀g,aI q.2.2=aX g->g<W.heap.size:=λ{q} hq=>⟨λg z=>h.lt g ((h.o q hq).1.2 g z),λg z=>h.lt g ((h.o q hq).2.2 g z)⟩;have hT:fC W W' T:=hc.mono (λk _ e=>by
  obtain e|e:=e
  .exact h.x k e
  .exact (h.o p aq).2.2 k e)
 refine⟨jZ.a ⟨vr,vf,vn,vs,vd,qs,fs,ss,ds.set i p',⟨(ca b _ _ (by lia) (by lia) h.A).t h.A,aS h.z,jZ.lt h.lt hc.size,h.u.E (λk c u ht hk=>ca k c u (by grind) (by grind) hk),h.G,Qv (by lia) (by lia) h.v,λg z=>aS (h.C g z),h.s,λp O=>⟨Qv (by lia) (by lia) (h.r p O).1,λg z=>aS ((h.r p O).2 g z)⟩,Qv (by lia) (by lia) h.c,λg z=>aS (h.B g z),⟨Qv (by lia) (by lia) h.n.h,λp O=>Qv (by lia) (by lia) (h.n.z p O)⟩,λg z=>aS (h.F g z),h.t,λp O g z=>aS (h.D p O g z),by rw[cH];exact row,λg z=>aS (h.x g z),by rw[List.map_set,h.w],λq ao=>?_,h.I,λj k q r g ao ay z=>?_⟩⟩ hT,ca⟩
 .obtain⟨j,hj,rfl⟩:=bU ao;obtain⟨_,e⟩|⟨e,G⟩:=a8 j _ (bF hj);{rw[e];exact⟨⟨hs,gg _ p.2.1 _ hs (h.o p aq).1.2 ls⟩,hq,gg _ p.2.2 _ hq (h.o p aq).2.2 lq⟩};have ix:=bB G;have A:=h.o _ ix;exact⟨⟨Ql3 A.1.1 (λg z=>(h.J i j p _ g M G z).2),λg z=>aS (A.1.2 g z)⟩,Ql3 A.2.1 (λg z=>(h.J i j p _ g M G z).1 (Ne.symm e)),λg z=>aS (A.2.2 g z)⟩
 obtain⟨rfl,rfl⟩|⟨e,G⟩:=a8 j q ao
 .obtain⟨rfl,rfl⟩|⟨e',ce⟩:=a8 k r ay;{grind};have hl:=b3 (bB ce);obtain C|C:=lq g z;{have:=h.J j k p r g M ce C;exact⟨this.1,this.2⟩};grind
 have hl:=(b3 (bB G)).2 g z;obtain⟨rfl,rfl⟩|⟨e',ce⟩:=a8 k r ay
 .have:=h.J j k q p g G M z;refine⟨λci e2=>?_,λe2=>?_⟩;{grind};{grind}
 exact h.J j k q r g G ce z
def fV.O{W1:Wq}{ds:List (Fr×Vq×Vq)}(h:fV W T b y vr vf vn vs vd qs fs ss ds){O:Obj}{A:Vq}(r:ByteArray)(z:(W.alloc O).grownBy W1 (aI vd))(ho:aH W1 0 246 5 A (aD ds+1) (ds.flatMap mT++mT (⟨r,true,[],[],0⟩,aJ aY 0 0,aJ aY 0 0)))(e8:aI A=aI vd\/aI A=aX (W.alloc O).heap.size):aE W1 (Ad b 9)=aX vd/\aF W1 (Ad b 9)=false/\Q0 T b {y with a:=y.a++[⟨r,true,[],[],0⟩]} W (W1.setCell (Ad b 9) A):=by
 have dr:(W.alloc O).heap.size=W.heap.size+1:=by simp
 have gj:∀k,k<W.heap.size->aI vd≠aX k->W1.heap[k]?=W.heap[k]?:=λk E hv=>(z.b k (by lia) (λe=>hv e.s)).t (bT _ _ k E);have ij:aI vd≠aX b:=λe=>by have⟨c,hc⟩:=qg h.a e;rw[h.A] at hc;cases hc
 have ep:=h.lt b h.z;have d6:=(gj b ep ij).t h.A;have Qkp:=qw d6 9 A
 have ca:∀(k:Nat)(c:Array Vq)(t:TypeId),t≠246->t≠222->W.heap[k]?=cC c t->(W1.setCell (Ad b 9) A).heap[k]?=W.heap[k]?:=λk c t M C E=>(dB W1 ⟨b,9,aY⟩ A k (λe=>by
  have e':k=b:=e
  rw[e',h.A] at E;cases E;exact C rfl)).t (gj k (zg E).1 (λe=>by
  have⟨c',ak⟩:=qg h.a e
  rw[E] at ak;cases ak;exact M rfl))
 have Qv:∀{B U m n:Nat}{u:Vq}{xs:List Vq},U≠246->U≠222->aH W B U m u n xs->aH (W1.setCell (Ad b 9) A) B U m u n xs:=λM C ho=>qm ho (λg z _=>by
  have⟨c,cr⟩:=qg ho z
  exact ca g c _ M C cr)
 have f8:∀{v:Vq}{l:List Rc},fI W v l->fI (W1.setCell (Ad b 9) A) v l:=λ{v l} hr=>by
  refine hr.E (λg dt=>?_);obtain⟨rfl,_⟩|⟨g',aa,cap,ah,rfl,C,_⟩:=hr
  .cases dt
  .cases dt;exact ca g' ah _ (by lia) (by lia) C
 have fq:=(((fC.d T (cA W.heap.size W)).alloc O).o z (λk E _=>h.x k E)).i (Ad b 9) A (λ_=>h.z)
 have ja:aH (W1.setCell (Ad b 9) A) 0 246 5 A (aD ds+1) (ds.flatMap mT++mT (⟨r,true,[],[],0⟩,aJ aY 0 0,aJ aY 0 0)):=Qj ho ⟨b,9,aY⟩ A (λg' dt e=>by
  have⟨c,hc⟩:=qg ho dt;have e':g'=b:=e
  rw[e',d6] at hc;cases hc)
 refine⟨zc d6,by simp[aF,d6],jZ.a ⟨vr,vf,vn,vs,A,qs,fs,ss,ds++[(⟨r,true,[],[],0⟩,aJ aY 0 0,aJ aY 0 0)],⟨Qkp,aS h.z,jZ.lt h.lt fq.size,h.u.E (λk c u ht E=>ca k c u (by grind) (by grind) E),h.G,Qv (by lia) (by lia) h.v,λg z=>aS (h.C g z),h.s,λp hp=>⟨Qv (by lia) (by lia) (h.r p hp).1,λg z=>aS ((h.r p hp).2 g z)⟩,Qv (by lia) (by lia) h.c,λg z=>aS (h.B g z),⟨Qv (by lia) (by lia) h.n.h,λp hp=>Qv (by lia) (by lia) (h.n.z p hp)⟩,λg z=>aS (h.F g z),h.t,λp hp g z=>aS (h.D p hp g z),?_,λg z=>?_,by rw[List.map_append,h.w];rfl,λq G=>?_,h.I,λj k q u g G ay z=>?_⟩⟩ fq⟩
 .grind
 .obtain e|e:=e8
  .rw[e] at z;exact aS (h.x g z)
  .have⟨c,hc⟩:=qg ja z;rw[e] at z;cases z;exact aU ⟨by lia,(zg hc).1⟩
 .obtain G|G:=bH.1 G
  .have C:=h.o q G;exact⟨⟨f8 C.1.1,λg z=>aS (C.1.2 g z)⟩,f8 C.2.1,λg z=>aS (C.2.2 g z)⟩
  .rw[bJ] at G;subst G;exact⟨⟨aS ⟨rfl,rfl⟩,λg z=>(by cases z)⟩,aS ⟨rfl,rfl⟩,λg z=>(by cases z)⟩
 .have ct:∀(j:Nat)(q:Fr×Vq×Vq),(ds++[(⟨r,true,[],[],0⟩,aJ aY 0 0,aJ aY 0 0)])[j]?=aX q->ds[j]?=aX q\/(aI q.2.1=aY/\aI q.2.2=aY):=λj q hq=>by
   by_cases hj:j<aD ds;{grind};{rw[cL (by lia)] at hq;have:=bB hq;rw[bJ] at this;subst this;exact aU ⟨rfl,rfl⟩}
  obtain M|M:=ct j q G
  .obtain C|C:=ct k u ay
   .exact h.J j k q u g M C z
   .grind
  .grind
def Tryz.n:(Tryz.prog.info? 246).map (λi=>(i.zero,i.size,i.bytes))=aX (aX (aL #[St ⟨#[]⟩,aM false,aJ aY 0 0,aJ aY 0 0,Ii 0]),5,80):=by kernel_rfl
def Dh(w:Wq)(c:List Vq)(t:TypeId):∀j q,c[j]?=aX q->aE (w.alloc (aP c.toArray t)) ((⟨w.heap.size,0,aY⟩:Addr).add j)=aX q:=by intro j q z;rw[Addr.add_lit];have:=zn w (aP c.toArray t);simp only[aE,this];simpa using z
def ux(s:ByteArray):Bool:=match Q7 s with
 |[t,_]=>decide (t.d=1) && (decide (t.a<=8) && (t.f.toList == s.toList))
 |_=>false
def pK(y:Er)(s:ByteArray):Int×Int×Er:=
 if ux s=false then (0,2,y) else if gX (fK y.z) s=0 then (0,7,y) else if 3<=aD y.a then (0,10,y)
 else (aD y.a,0,{y with a:=y.a++[⟨s,true,[],[],0⟩]})
def Hy{ds:List (Fr×Vq×Vq)}(h:fV W T b y vr vf vn vs vd qs fs ss ds)(hz:wJ y)(s:ByteArray)(hs:s.size<=1048576):Cs 72 #[Pt b,St s] W λe w'=>e=aQ (aN #[Ii (pK y s).1,Ii (pK y s).2.1])/\Q0 T b (pK y s).2.2 W w':=by
 have⟨va,vc,iw⟩:=qd h.u.h;have⟨da,dc,ji⟩:=qd h.a;subst iw ji;have b0:Hid _:=Bj s W hs (cZ (Cw s) hs);have hq:aD qs<=1000:=by have:=hz.o;rw[<-h.G,bX] at this;omega
 have ge:∀q∈qs,aD q.1.n<=900:=λq hq=>by have:=hz.n q.1 (h.G▸bD.2 ⟨q,hq,rfl⟩);omega
 have ff:fK y.z=Q9 qs:=by rw[<-h.G];unfold fK Q9;rw[List.flatMap_map]
 have dv:aD y.a=aD ds:=by rw[<-h.w,bX]
 have h3:aD ds<=3:=by have:=hz.c;omega
 have HX:Hid (∀Y,dQ W.heap.size W Y->fV Y T b y (aJ va (aD qs) vc) vf vn vs (aJ da (aD ds) dc) qs fs ss ds):=λY hY=>h.f hY;have HC:Hid (∀Y,dQ W.heap.size W Y->aE Y (Ad b 0)=aX (aJ va (aD qs) vc)/\aE Y (Ad b 9)=aX (aJ da (aD ds) dc)/\aF Y (Ad b 9)=false):=λY hY=>by have:=(h.f hY).A;exact⟨zc this,zc this,by simp[aF,this]⟩
 obtain⟨ar,ap⟩:=aC (gX (fK y.z) s);have gt:Hid (∀Y,dQ W.heap.size W Y->Cs 117 #[aJ va (aD qs) vc,St s] Y λe w'=>e=aQ (Ii (ar:Int))/\dQ W.heap.size W w'):=λY hY=>by rw[<-ap,ff];refine (xL _ qs s Y (h.f hY).u hq ge).m ?_;rintro e w' ⟨k1,k2⟩;exact⟨k1,hY.t (k2.m hY.s)⟩
 have HS:Hid (∀Y,dQ W.heap.size W Y->Q0 T b y W Y):=λY hY=>Q0.u ⟨_,_,_,_,_,_,_,_,_,h⟩ hY;have z:Hid (pK y s=if ux s=false then (0,2,y) else if ar=0 then (0,7,y) else if 3<=aD ds then (0,10,y) else ((aD ds:Int),0,{y with a:=y.a++[⟨s,true,[],[],0⟩]})):=by show _=_;unfold pK;rw[ap,dv]
 have C:Hid (ux s=match Q7 s with
  |[t,_]=>decide (t.d=1) && (decide (t.a<=8) && (t.f.toList == s.toList))
  |_=>false):=rfl
 obtain⟨L,hL⟩:=aC (Q7 s);rw[hL] at b0 C;clear h hz hs hq ge ff dv ap hL;generalize ux s=nb at *;generalize pK y s=sd at *;go_enter Tryz.func72,Tryz.ntmps72;go_wp2_with fail;refine bC b0.o ?_;clear b0;rintro e' W1 ⟨v1,rfl,Qv,al⟩;have⟨ta,tc,iq⟩:=qd Qv;subst iq;have G:=gt.o W1 al;have⟨c0,c9,z9⟩:=HC.o W1 al;clear al gt;by_cases ga:aD L=2
 .obtain⟨t,u,rfl⟩:∃t u,L=[t,u]:=by
   match L,ga with
   |[t,u],_=>exact⟨t,u,rfl⟩
  have⟨g,cap,e1,_,ig,_,hc⟩:=lH Qv (λ_=>rfl) (by simp);cases e1;have k0:aE W1 (Ad g 0)=aX (Ii t.d):=hc 0 0 (by simp) _ (by decide) rfl;have k1:aE W1 (Ad g 1)=aX (St t.f):=hc 0 1 (by simp) _ (by decide) rfl;have k3:aE W1 (Ad g 3)=aX (Ii t.a):=hc 0 3 (by simp) _ (by decide) rfl;simp only at C;have⟨kd,tx,pl,rn⟩:=t;simp only at k0 k1 k3 C;clear hc Qv;by_cases hk:kd=1
  .subst hk;by_cases hr:rn<=8
   .have ay:(rn:Int)<=8:=by omega
    cases he:(tx.toList == s.toList) with
    |true=>
     have M:nb=true:=by{rw[C.o,he];simp[hr]};subst M;rw[if_neg (by decide)] at z;clear C;go_wp2_with fail;refine bC G ?_;rintro e' W2 ⟨rfl,A⟩;have E:=aA A;have⟨c0,c9,z9⟩:=HC.o W2 A;clear G A k0 k1 k3;by_cases h0:ar=0;{rw[if_pos h0] at z;subst h0;go_wp2;go_ret2;rw[z.o];exact⟨rfl,HS.o _ E.o⟩}
     .rw[if_neg h0] at z;have km:((ar:Int) == 0)=false:=by{simp;omega};by_cases hf:3<=aD ds
      .rw[if_pos hf] at z;have a9:(3:Int)<=(aD ds:Int):=by{omega};go_wp2;go_ret2;rw[z.o];exact⟨rfl,HS.o _ E.o⟩
      .rw[if_neg hf] at z;have a9:¬(3:Int)<=(aD ds:Int):=by{omega};have⟨i0,d7,dr,dz,co⟩:=info_parts Tryz.n;obtain⟨O,hO⟩:=aC (aP #[St s,aM true,aJ aY 0 0,aJ aY 0 0,Ii 0] 246 (0,0));have dw:=HX.o W2 E.o;have jm:=aA (dw.a.l O);have jk:Hid (∀(j:Nat)(u:Vq),[aK s,aM true,aJ aY 0 0,aJ aY 0 0,Ii 0][j]?=aX u->aE (W2.alloc O) ((⟨W2.heap.size,0,aY⟩:Addr).add j)=aX u):=hO▸Dh _ [_,_,_,_,_] _;have Qd:Hid (∀(w1:Wq)(v':Vq),aH w1 0 246 5 v' (aD ds+1) (ds.flatMap mT++[St s,aM true,aJ aY 0 0,aJ aY 0 0,Ii 0])->(W2.alloc O).grownBy w1 (aI (aJ da (aD ds) dc))->(aI v'=aI (aJ da (aD ds) dc)\/aI v'=aX (W2.alloc O).heap.size)->aE w1 (Ad b 9)=aX (aJ da (aD ds) dc)/\aF w1 (Ad b 9)=false/\Hid (Q0 T b {y with a:=y.a++[⟨s,true,[],[],0⟩]} W (w1.setCell (Ad b 9) v'))):=λw1 v' ho hg e8=>by{have⟨k1,k2,k3⟩:=dw.O s hg ho e8;exact⟨k1,k2,Q0.a ⟨⟨⟨_,_,_,_,_,_,_,_,_,dw⟩,λk hk=>aS hk⟩,fC.d T E.o⟩ k3⟩};have ic:aD ds+1<=maxLen:=by{unfold maxLen;omega};have iu:(aD ds+1)*80<=140737488355328:=by{omega};clear dw
       go_wp2_with (at_builtin;refine yP _ rfl (.tmp 59) (.tmp 62) 220 rfl 0 246 i0 (aL #[St ⟨#[]⟩,aM false,aJ aY 0 0,aJ aY 0 0,Ii 0]) 5 80 Tryz.underlying220 d7 dr dz co rfl (by decide) _ (aD ds) (ds.flatMap mT) rfl jm.o ⟨W2.heap.size,0,aY⟩ 1 1 [St s,aM true,aJ aY 0 0,aJ aY 0 0,Ii 0] rfl rfl jk.o (by simp[dK]) ic iu zz ?_;intro v' w1 a7 c7 a6 cw;have⟨g',bu,e9⟩:=ownsRow_succ a7;subst e9;have⟨f6,y6,js⟩:=Qd.o w1 _ a7 a6 cw;clear a7 c7 a6 cw)
       go_ret2;rw[z.o];exact⟨by simp,js.o⟩
    |false=>
     have M:nb=false:=by{rw[C.o];simp[he]};subst M;rw[if_pos rfl] at z;clear C;go_wp2_with fail;refine bC G ?_;rintro e' W2 ⟨rfl,A⟩;have E:=aA A;clear G A c0 c9 z9;go_wp2;go_ret2;rw[z.o];exact⟨rfl,HS.o _ E.o⟩
   .have ay:¬(rn:Int)<=8:=by{omega};have M:nb=false:=by{rw[C.o];simp[hr]};subst M;rw[if_pos rfl] at z;clear C;go_wp2_with fail;refine bC G ?_;rintro e' W2 ⟨rfl,A⟩;have E:=aA A;clear G A c0 c9 z9;go_wp2;go_ret2;rw[z.o];exact⟨rfl,HS.o _ E.o⟩
  .have af:(kd == 1)=false:=by{simpa using hk};have M:nb=false:=by{rw[C.o];simp[hk]};subst M;rw[if_pos rfl] at z;clear C;go_wp2_with fail;refine bC G ?_;rintro e' W2 ⟨rfl,A⟩;have E:=aA A;clear G A c0 c9 z9;go_wp2;go_ret2;rw[z.o];exact⟨rfl,HS.o _ E.o⟩
 .have dn:((aD L:Int) == 2)=false:=by simp;omega
  have M:nb=false:=by rw[C.o];(match L,ga with
   |[],_=>rfl
   |[a],_=>rfl
   |[a,c],h=>exact absurd rfl h
   |a::c::d::l,_=>rfl)
  subst M;rw[if_pos rfl] at z;clear C;go_wp2_with fail;refine bC G ?_;rintro e' W2 ⟨rfl,A⟩;have E:=aA A;clear G A c0 c9 z9;go_wp2;go_ret2;rw[z.o];exact⟨rfl,HS.o _ E.o⟩
theorem Aa:∀l:List Rn,(kC l).size=gE l
 |[]=>rfl
 |x::l=>by unfold kC gE;rw[dP,Aa l]
theorem wU:∀(l:List Rn) (k:Nat),gE (l.drop k)<=gE l
 |[],k=>by simp
 |x::l,0=>by simp
 |x::l,k+1=>by have:=wU l k;have z:gE (x::l)=x.f.size+gE l:=rfl;rw[List.drop_succ_cons];lia
theorem C4(s:ByteArray):∀(f i:Nat),s.size<=i+f->i<=s.size->i+gE (R s i)=s.size
 |0,i,h,hi=>by rw[qF s i (by lia)];show i+0=_;lia
 |f+1,i,h,hi=>by
  by_cases z:i<s.size
  .have A:=oU s i z;have E:=tE s i;have G:=C4 s f (i+(dW s i).2) (by lia) A;rw[qC s i z];unfold gE;have C:(s.extract i (i+(dW s i).2)).size=(dW s i).2:=by{simp;lia};simp only[C];lia
  .rw[qF s i z];show i+0=_;lia
theorem vI:∀(f:Nat) (l:List Rn) (i:Nat),∀t∈fL f l i,t.f.size<=gE l
 |0,l,i,t,z=>by simp[fL] at z
 |f+1,[],i,t,z=>by simp[fL] at z
 |f+1,r::l,i,t,z=>by
  have G:=vI f (l.drop (aD (tw l))) (i+(1+aD (tw l))) t;have M:=vI f l (i+1) t;have O:=vI f (l.drop 1) (i+2) t;have A:=wU l (aD (tw l));have C:=wU l 1;have E:gE (r::l)=r.f.size+gE l:=rfl
  have kp:gE (tw l)<=gE l:=by
   clear G M O A C z E
   induction l with
   |nil=>exact dE _
   |cons x l ih=>
    unfold tw;rw[cX];split;{grind [gE,tw]};{exact zz}
  unfold fL at z;split at z;{grind [kC,tw,Aa]};split at z;{grind};split at z
  .obtain rfl|z:=bO.1 z
   .exact zz
   .grind
  split at z;{grind};{grind}
theorem Eh:∀{l:List Rn},(∀r∈l,1<=r.f.size)->gE l=0->l=[]
 |[],_,_=>rfl
 |r::l,h,e=>by grind [gE]
theorem Gv:∀{l:List Rn},(∀r∈l,1<=r.f.size)->gE (tw l)=gE l->tw l=l
 |[],_,_=>rfl
 |x::l,h,e=>by
  have M:=h x zs;unfold tw at e ⊢;rw[cX] at e ⊢;split at e;{rename_i z;rw[if_pos z];have C:gE (x::tw l)=x.f.size+gE (tw l):=rfl;have E:gE (x::l)=x.f.size+gE l:=rfl;have G:gE (x::tw l)=gE (x::l):=e;have:=Gv (λr A=>h r (zt A)) (by lia);show x::tw l=x::l;rw[this]};{grind [gE]}
theorem GH:∀(f:Nat) (l:List Rn) (i:Nat),(∀r∈l,1<=r.f.size)->∀t∈fL f l i,t.f.size=gE l->fL f l i=[t]/\t.a=aD l
 |0,l,i,_,t,z,_=>by simp[fL] at z
 |f+1,[],i,_,t,z,_=>by simp[fL] at z
 |f+1,r::l,i,h,t,z,he=>by
  have h1:=h r zs;have hl:=λx O=>h x (zt O);have i1:=vI f (l.drop (aD (tw l))) (i+(1+aD (tw l))) t;have i2:=vI f l (i+1) t;have i3:=vI f (l.drop 1) (i+2) t;have d1:=wU l (aD (tw l));have d2:=wU l 1;have hw:gE (r::l)=r.f.size+gE l:=rfl;have A:∀j,fL f [] j=[]:=λj=>by{cases f<;>rfl};unfold fL at z ⊢;split at z;{grind [gE,tw,kC,Aa,Gv]};rename_i C;rw[if_neg C];split at z;{grind [Eh]};rename_i E;rw[if_neg E];split at z
  .obtain e|z:=bO.1 z
   .have hz:t.f.size=0:=by{rw[e];rfl};lia
   .grind
  rename_i G;rw[if_neg G];split at z;{grind}
  rename_i M;rw[if_neg M];obtain e|z:=bO.1 z
  .grind [Eh]
  .grind
theorem toList_eq{y:ByteArray}:(x.toList == y.toList)=true↔x=y:=by grind [oT,uE]
theorem I0(s:ByteArray):oG s=ux s:=by
 have O:∀r∈R s 0,1<=r.f.size:=λr A=>(zb s s.size 0 (by lia) r A).1;have M:=C4 s s.size 0 (by lia) zz;rw[Nat.zero_add] at M
 have hD:ux s=true↔∃t,fL (aD (R s 0)) (R s 0) 0=[t]/\t.d=1/\t.a<=8/\t.f=s:=by
  unfold ux Q7;constructor
  .intro h
   match A:fL (aD (R s 0)) (R s 0) 0 with
   |[]=>rw[A] at h;simp at h
   |[t]=>grind [toList_eq]
   |t::u::l=>rw[A] at h;cases l<;>simp at h
  .grind
 have hB:oG s=true↔Lib.runeCount s<=8/\∃x∈gD s.size s 0,x.d=1/\x.f=s:=by grind [oG,qD,toList_eq]
 have hT:s.size<=1200->(gD s.size s 0).map Qu=fL (aD (R s 0)) (R s 0) 0:=λh=>by grind [uH,uC,Cw]
 rw[dY,hB,hD];constructor
 .rintro⟨z,x,hx,C,h3⟩;have E:=sr s;have G:Qu x∈fL (aD (R s 0)) (R s 0) 0:=by grind
  have ht:(Qu x).f=s:=by grind [Qu]
  obtain⟨e1,e2⟩:=GH _ _ _ O _ G (by rw[ht,M]);refine⟨_,e1,by unfold Qu gZ;simp[C],?_,ht⟩;rw[e2,rK];exact z
 .rintro⟨t,z,C,h3,E⟩;obtain⟨_,e2⟩:=GH _ _ _ O t (by rw[z];exact zs) (by rw[E,M]);have hc:Lib.runeCount s<=8:=by grind [rK]
  have h5:=sr s;have G:=hT (by lia);rw[z] at G;have:t∈(gD s.size s 0).map Qu:=by grind
  obtain⟨x,hx,rfl⟩:=bD.1 this
  have hk:x.d=1:=by
   have h6:gZ x.d=1:=C;unfold gZ at h6
   revert h6
   repeat' split
   all_goals first|(intro _;assumption)|(intro h;exact absurd h (by lia))
  refine⟨hc,x,hx,hk,?_⟩;have h7:(Qu x).f=x.f:=by grind [Qu]
  rw[<-h7];exact E
def OK{n:Nat}(h:jM e y ds)(ab:fP e)(hf:FF n e y)(h3:aD y.a<=3)(s:ByteArray):(lW e s).1=(pK y s).1/\(lW e s).2.1=(pK y s).2.1/\jM (lW e s).2.2 (pK y s).2.2 ds/\FF (n+1) (lW e s).2.2 (pK y s).2.2/\aD (pK y s).2.2.a<=3:=by
 have⟨f1,f2,f3⟩:=hf;have hm:FF (n+1) e y:=⟨f1,f2,λi f d C E=>by
  have⟨q1,q2,q3,q4,q5,q6,q7,q8,q9⟩:=f3 i f d C E
  exact⟨q1,q2,q3,q4,q5,q6,by lia,q8,q9⟩⟩
 unfold lW pK;rw[I0,xR,show fG y.z s=fG e.z s by rw[h.z]];split
 .grind
 split
 .grind
 rename_i ap;split
 .grind
 rename_i h4;rw[if_neg (by lia)];refine⟨by rw[f2],rfl,⟨h.z,h.j,h.u,h.w,h.h,h.r,h.c,h.q,h.o,h.v,h.f,h.t,h.s,h.i,h.n⟩,⟨f1,by simp[f2],λi f d C E=>?_⟩,by simp;lia⟩;have z:(e.l++[⟨iP s (fG e.z s),true,[],[],0⟩])[i]?=aX f:=C;have A:(y.a++[⟨s,true,[],[],0⟩])[i]?=aX d:=E;by_cases hi:i<aD e.l;{rw[cO hi] at z;rw[cO (by lia)] at A;exact hm.2.2 i f d z A};{rw[cL (by lia)] at z A;have M:=bB z;have O:=bB A;rw[bJ] at M O;subst M O;exact⟨rfl,ap,rfl,rfl,rfl,rfl,zz,λr G=>(by cases G),λr G=>(by cases G)⟩}
def r7(m:Int)(st:List Gr)(f:Fr):Rc×Fr:=
 match f.g with
 |r::l=>({r with h:=f.o},{f with g:=l,o:=f.o+1})
 |[]=>if f.a=true then (⟨1,f.o,⟨#[]⟩,0⟩,{f with a:=false,g:=Q6 2 (mP st f.j) []++[⟨4,0,⟨#[]⟩,m⟩],o:=f.o+1})
  else match f.w with
   |r::l=>({r with h:=f.o},{f with w:=l,o:=f.o+1})
   |[]=>(⟨0,0,⟨#[]⟩,0⟩,f)
def JZ(h:qN (fG rs) M hs){m:Int}{n:Nat}{f f':Fs}{d:Fr}{r:Rc}(A:fG rs d.j=1\/fG rs d.j=2)(hf:xB rs n f d)(hp:sP M m f r f'):r=(r7 m hs d).1/\xB rs (n+1) f' (r7 m hs d).2:=by
 have⟨q1,q2,q3,q4,q5,q6,q7,q8,q9⟩:=hf;have⟨r0,f0,hn,hc⟩:=hp;unfold r7;obtain⟨l,z,rfl⟩|⟨z,G,rfl,gs,O,rfl⟩|⟨z,G,l,e3,rfl⟩|⟨z,G,e3,rfl,rfl⟩:=hn
 .have hs:d.g=r0::l:=q4▸z;rw[hs];have hk:=q8 r0 (by grind);obtain⟨h0,_⟩|⟨_,rfl,rfl⟩:=hc;{grind};refine⟨by rw[q6],q1,q2,q3,rfl,q5,by show f.h+1=d.o+1;rw[q6],by show d.o+1<=n+1;lia,λr A=>q8 r (by grind),q9⟩
 .have hs:d.g=[]:=q4▸z;have C:d.a=true:=by{grind};rw[hs];simp only;rw[if_pos C];obtain⟨h0,_⟩|⟨_,rfl,rfl⟩:=hc;{cases h0};rw[q1] at O;have ht:=OA h A O 2;unfold Qt at ht;refine⟨by rw[q6],q1,q2,rfl,?_,q5,by show f.h+1=d.o+1;rw[q6],by show d.o+1<=n+1;lia,λr A=>?_,q9⟩;{grind};{grind [FV]}
 .have hs:d.g=[]:=q4▸z;have C:¬d.a=true:=by{grind};have E:d.w=r0::l:=by{grind};rw[hs];simp only;rw[if_neg C,E];have hk:=q9 r0 (by grind);obtain⟨h0,_⟩|⟨_,rfl,rfl⟩:=hc;{grind};refine⟨by rw[q6],q1,q2,q3,q4.t hs,rfl,by show f.h+1=d.o+1;rw[q6],by show d.o+1<=n+1;lia,λr A=>(cP (show r∈([]:List Rc) from A)).elim,λr A=>q9 r (by grind)⟩
 have hs:d.g=[]:=q4▸z;have C:¬d.a=true:=by{grind};have E:d.w=[]:=by grind
 rw[hs];simp only;rw[if_neg C,E];obtain⟨_,rfl,rfl⟩|⟨h0,_⟩:=hc
 .exact⟨rfl,q1,q2,q3,q4,q5,q6,by show d.o<=n+1;lia,q8,q9⟩
 grind
