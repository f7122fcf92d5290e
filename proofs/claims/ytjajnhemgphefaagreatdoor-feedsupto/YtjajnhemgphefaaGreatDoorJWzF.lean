/- A part -/
import Derived.Test.YtjajnhemgphefaaGreatDoorJWyT
set_option linter.all false
set_option maxRecDepth 100000
set_option maxHeartbeats 2000000
open List renaming length->aB,mem_of_getElem?->aX,mem_map->aY,getElem?_eq_some_iff->bB,getElem?_eq_getElem->bC,getElem_of_mem->bE,mem_flatMap->bF
open Go.World renaming cell?->aC,ownsRow->aE
open Go.Value renaming string->aI,agg->aJ,bool->aK,tuple->aL,int->aM
open Go.Obj renaming cells->aN
open Go.Ending renaming returned->aO
open Go.IntKind renaming i64->aP
open Or renaming inl->aQ,inr->aR
open Option renaming some->aV,none->aW
open Nat renaming lt_of_lt_of_le->aZ,le_trans->bG
open Go.Calls renaming mono->bD
namespace Go.Proofs.YtjajnhemgphefaaGreatDoor
open Go renaming World->Wq,Value->Vq
open Go.RowKit Go.Shelf
variable {rs:List Rl} {e:Eg} {y:Er} {ds:List Dk} {W W':Wq} {k n':Nat} {F:Nat->Eg->Er->Prop} {Q:Nat->Prop} {vl:Vq}
theorem xW(h:jv rs):mH (dH rs) rs:=by
 refine⟨λr A a d=>?_,λr A v C=>?_⟩
 .have z:a∈rs.flatMap qz:=bF.2 ⟨r,A,d⟩;exact⟨⟨(h.arity a z).2,h.nums a z⟩,(h.arity a z).1⟩
 .have⟨t,ht,h1,h2⟩:=C;have⟨a,d,u,hu,h3,h4⟩:=h.safe r A t ht ((iz _).1 h1);exact⟨a,d,u,hu,(iz _).2 h3,h4.trans h2⟩
theorem GW(h:dV e)(C:eB∉e.names):jM e.rs e.names:=by
 refine⟨λr d=>⟨(h.rs.rok r d).body,λa E=>?_,(xW h.rs).safe r d⟩,h.n8,C,λr d t z G=>h.nrs r d t z (λe=>?_),?_⟩
 .have A:a∈e.rs.flatMap qz:=bF.2 ⟨r,d,E⟩;exact⟨by have:=(h.rs.arity a A).2;omega,λt z=>by have:=h.rs.nums a A t z;omega⟩
 .grind [qi,eB,kH]
 .have:=vt e.rs (λr d=>(h.rs.rok r d).body);have:=h.rs.r8;omega
theorem C7(h:dV e){g:Gd}(C:g∈gD (gF e.rs) e.names)(E:eO (dH e.rs) g):ja e.rs e.names (dR g):=by
 have⟨hr,hx,hy⟩:=lF.1 C;unfold gF at hr;have⟨a,ha,hrel⟩:=aY.1 hr;have A:=(h.rs.arity a ha).1;rw[hrel] at A;obtain⟨M,⟨G,d⟩|⟨G,d⟩⟩:=E
 .have z:dR g=⟨g.rel,[g.x]⟩:=by{unfold dR;rw[if_pos (by exact (iz _).2 d)]};rw[z];exact⟨⟨a,ha,hrel.symm,by simp;omega⟩,λx al=>by simp at al;rw[al];exact hx⟩
 .have z:dR g=⟨g.rel,[g.x,g.y]⟩:=by unfold dR;rw[if_neg (by intro e;exact d ((iz _).1 e))]
  rw[z];refine⟨⟨a,ha,hrel.symm,by simp;omega⟩,λx al=>?_⟩;simp at al;rcases al with rfl|rfl
  .exact hx
  .grind
theorem ic.fine(h:ic e y ds)(aa:dV e):yG y:=by
 have C:jM y.rs y.names:=by have:=GW aa (by rw[h.names];exact h.ne);rw[h.rs,h.names] at this;exact this
 refine⟨C,λf z=>?_,h.sok⟩;have hs:=h.facts;unfold kK at hs;rw[hs] at z;obtain⟨d,hd,rfl⟩:=aY.1 z;have A:=aa.kept (d.1,d.2.1) (by rw[h.kept];exact aY.2 ⟨d,hd,rfl⟩);have:=C7 aa A.1 A.2.1;rw[h.rs,h.names] at this;exact this
theorem ic.sz(h:ic e y ds)(aa:dV e)(C:aB y.feeds<=3):sV y:=by
 have z:=h.fine aa;have M:aB y.facts=aB e.kept:=by rw[h.kept,h.facts];simp
 refine⟨by rw[<-h.rs];exact aa.rs.r8,λr G=>(aa.rs.rok r (by rw[h.rs];exact G)).body,by rw[<-h.win];exact aa.win,by rw[<-h.lat];exact aa.lat,by rw[<-h.que];exact aa.que,by rw[<-h.mark];exact aa.mark,h.clk.2,by have:=aa.k24;omega,λf A=>⟨FL z.fine (z.gr f A),?_⟩,by rw[<-h.names];exact aa.n8,?_,C⟩
 .have hs:=h.facts;unfold kK at hs;rw[hs] at A;obtain⟨d,hd,rfl⟩:=aY.1 A;exact (aa.kept (d.1,d.2.1) (by rw[h.kept];exact aY.2 ⟨d,hd,rfl⟩)).2.2
 .exact bG (rq y.state _ h.nodup (λg E=>xu z.fine (h.sok g E))) (AL z.fine)
theorem ic.are(h:ic e y ds)(aa:dV e):∀d∈ds,mC (dH e.rs) d.1:=λd hd=>uI.1 (aa.kept (d.1,d.2.1) (by rw[h.kept];exact aY.2 ⟨d,hd,rfl⟩)).2.1
theorem ic.holds(h:ic e y ds)(aa:dV e)(g:Gd):(e.M g).isSome=true↔dR g∈y.state:=by rw[h.state,<-h.rs,<-h.win,<-h.mark];exact G2 (xW aa.rs) h.facts (h.are aa) h.least (by have:=aa.mark;omega) h.beg g
theorem CB{s:ByteArray}(A:tO s rs){win z que:Int}(E:iY win z que){M:Gd->Option Int}(C:ia rs (Qx rs) M){st:List Gr}(hs:nE rs [] (dG [] (Q0 (dM rs))) st):ic (oZ rs win z que M) (nM rs win z que st) []:=by have⟨h1,h2,h3⟩:=E;refine⟨rfl,rfl,rfl,rfl,rfl,⟨by show (0:Int)-z<=0;omega,by show (0:Int)<=0;omega,by show (0:Int)<=1000000;omega⟩,A.names,?_,rfl,rfl,C,λd hd=>(by cases hd),hs.1.nodup,hs.1.ok,hs.2⟩;show eB∉dG [] (Q0 (dM rs));rw[<-A.names];exact A.ne
structure Pr where
 bx:Nat
 bz:Nat
 e:Eg
 y:Er
 ds:List Dk
 S:Nat->Prop
 T:Nat->Prop
def Pr.U(p:Pr)(k:Nat):Prop:=p.S k\/p.T k
def io(W:Wq)(k:Nat):Prop:=ik W k\/gX W k
theorem gX.lt(h:gX W k):k<W.heap.size:=by have⟨c,t,h1,_⟩:=h;exact (zg h1).1
theorem io.lt(h:io W k):k<W.heap.size:=h.elim ik.lt gX.lt
theorem gX.n(h:gX W k):kM W k:=by have⟨c,t,h1,h2⟩:=h;exact⟨c,t,h1,by rcases h2 with rfl|rfl|rfl|rfl|rfl|rfl<;>decide⟩
theorem io.n(h:io W k):kM W k:=h.elim ik.n gX.n
theorem io.not{c:Array Vq}{t:TypeId}(h:W.heap[k]?=cC c t)(d:t≠101/\t≠161/\t≠120/\t≠198/\t≠71/\t≠9)(A:t≠222/\t≠233/\t≠226/\t≠246):¬io W k:=by
 rintro (z|⟨c',G,C,E⟩)
 .exact ik.not h d z
 .grind
theorem gN.tyW{S:Nat->Prop}{d:Nat}(h:gN W S d e):∀k,S k->ik W k:=by have⟨vr,vn,vk,vf,bm,rb,b5,b4,bv,Sf,hv⟩:=h;exact hv.typ
structure iw(W:Wq)(p:Pr):Prop where
 x:gN W p.S p.bx p.e
 y:jF W p.T p.bz p.y
 ty:∀k,p.T k->gX W k
 sep:∀k,p.S k->¬p.T k
theorem iw.uty{p:Pr}(h:iw W p):∀k,p.U k->io W k:=λk z=>z.elim (λd=>aQ (h.x.tyW k d)) (λd=>aR (h.ty k d))
theorem Cn{ex:Nat->Prop}(A:dD W W' ex)(C:∀k,k<W.heap.size->ex k->io W k):mV W W':=λk c t E z=>by
 have d:=(zg z).1;refine A.block k d (λe=>io.not z ?_ ?_ (C k d e))
 .grind
 .grind
theorem jF.keep{T:Nat->Prop}{b:Nat}(h:jF W T b y)(A:W.heap.size<=W'.heap.size)(d:∀k,T k->W'.heap[k]?=W.heap[k]?)(z:mV W W'):jF W' T b y:=by have⟨vr,vf,vn,vs,vd,qs,fs,ss,ds,hv⟩:=h;exact⟨vr,vf,vn,vs,vd,qs,fs,ss,ds,hv.keep A d z⟩
theorem iw.keep{p:Pr}(h:iw W p){ex:Nat->Prop}(z:dD W W' ex)(A:∀k,p.U k->¬ex k)(C:∀k,k<W.heap.size->ex k->io W k):iw W' p:=by have d:∀k,p.U k->W'.heap[k]?=W.heap[k]?:=λk d=>z.block k (h.uty k d).lt (A k d);exact⟨h.x.keepN z (λk d=>A k (aQ d)) (λk E G=>(C k E G).n),h.y.keep z.size (λk ab=>d k (aR ab)) (Cn z C),λk ab=>(h.ty k ab).same (d k (aR ab)),h.sep⟩
def Q7(p:Pr)(W:Wq)(p':Pr)(W':Wq):Prop:=iw W' p'/\p'.bx=p.bx/\p'.bz=p.bz/\(∀k,p'.U k->p.U k\/W.heap.size<=k)/\dD W W' p.U
theorem Q7.same{p:Pr}(h:iw W p)(d:Below W.heap.size W W'):Q7 p W p W':=
 ⟨h.keep (dD.ofBelow (λ_=>False) d) (λ_ _=>id) (λ_ _=>False.elim),rfl,rfl,λk z=>aQ z,dD.ofBelow _ d⟩
theorem Q7.trans{p z A:Pr}{W1 W2:Wq}(h:Q7 p W z W1)(k:Q7 z W1 A W2):Q7 p W A W2:=by
 have⟨h1,h2,h3,h4,h5⟩:=h;have⟨k1,k2,k3,k4,k5⟩:=k;have G:=h5.size;refine⟨k1,k2.trans h2,k3.trans h3,λj E=>?_,⟨k5.os.trans h5.os,k5.tape.trans h5.tape,k5.output.trans h5.output,bG h5.size k5.size,λi d C=>(k5.block i (aZ d h5.size) (λe=>?_)).trans (h5.block i d C)⟩⟩
 .grind
 .grind
theorem iw.runX{p:Pr}(h:iw W p){e':Eg}(E:Qm p.S p.bx e' W W')(C:List Dk):∃S',Q7 p W {p with e:=e',S:=S',ds:=C} W':=by
 have⟨S',h1,h2,h3⟩:=E;have A:∀k,p.T k->W'.heap[k]?=W.heap[k]?:=λk d=>h3.block k (h.ty k d).lt (λe=>h.sep k e d);refine⟨S',⟨h1,h.y.keep h3.size A (Cn h3 (λk _ e=>aQ (h.x.tyW k e))),λk d=>(h.ty k d).same (A k d),λk d ab=>?_⟩,rfl,rfl,λk d=>?_,h3.mono (λk _ d=>aQ d)⟩
 .rcases h2 k d with z|z
  .exact h.sep k z ab
  .have:=(h.ty k ab).lt;omega
 .rcases d with d|d
  .exact (h2 k d).imp aQ id
  .exact aQ (aR d)
theorem iw.runY{p:Pr}(h:iw W p){z:Er}(G:Qu p.T p.bz z W W')(A:List Dk):∃T',Q7 p W {p with y:=z,T:=T',ds:=A} W':=by
 have⟨⟨T',h1,h2⟩,h3⟩:=G;have E:∀k,p.S k->¬p.T k:=h.sep;refine⟨λk=>T' k/\gX W' k,⟨h.x.keepN h3 E (λk _ e=>(h.ty k e).n),h1.narrow,λk d=>d.2,λk d ab=>?_⟩,rfl,rfl,λk d=>?_,h3.mono (λk _ d=>aR d)⟩
 .rcases h2 k ab.1 with C|C
  .grind
  .have:=(h.x.tyW k d).lt;omega
 .rcases d with d|d
  .exact aQ (aQ d)
  .exact (h2 k d.1).imp aR id
structure js(F:Nat->Eg->Er->Prop)(n:Nat)(p:Pr):Prop where
 ok:dV p.e
 rel:ic p.e p.y p.ds
 f3:aB p.y.feeds<=3
 fd:F n p.e p.y
def lk(p:Pr):List Vq:=[.pointer (aV ⟨p.bx,0,aW⟩),.pointer (aV ⟨p.bz,0,aW⟩)]
structure kV(F:Nat->Eg->Er->Prop)(n:Nat)(w:Wq)(Q:Nat->Prop)(vl:Vq)(ps:List Pr)(W:Wq):Prop where
 row:aE W w.heap.size 81 2 vl (aB ps) (ps.flatMap lk)
 each:∀p∈ps,iw W p/\js F n p
 low:∀p∈ps,∀k,p.U k->w.heap.size<=k/\¬Q k
 sep:∀(i j:Nat) (p q:Pr),ps[i]?=aV p->ps[j]?=aV q->i≠j->∀k,p.U k->¬q.U k
 below:Below w.heap.size w W
 q:∀k,Q k->k<W.heap.size
theorem kV.change{n:Nat}{w:Wq}{ps:List Pr}(h:kV F n w Q vl ps W)(hF:∀e y,F n e y->F n' e y){i:Nat}{p p':Pr}(E:ps[i]?=aV p)(hp:Q7 p W p' W')(aa:js F n' p'):kV F n' w Q vl (ps.set i p') W':=by
 have⟨h1,h2,h3,h4,h5⟩:=hp;have aq:p∈ps:=aX E;have ae:∀k,k<W.heap.size->p.U k->io W k:=λk _ d=>(h.each p aq).1.uty k d;have au:i<aB ps:=(bB.1 E).1;have b0:ps[i]=p:=(bB.1 E).2
 have bu:(ps.set i p').flatMap lk=ps.flatMap lk:=by
  have he:lk p'=lk p:=by{grind [lk]};clear h h1 h4 h5 ae aq
  induction ps generalizing i with
  |nil=>rfl
  |cons q ps ih=>
   cases i with
   |zero=>grind
   |succ i=>grind
 have G:∀(j:Nat) (q:Pr),(ps.set i p')[j]?=aV q->(j=i/\q=p')\/(j≠i/\ps[j]?=aV q):=λj q z=>by grind
 have M:∀(j:Nat) (q:Pr),j≠i->ps[j]?=aV q->iw W' q:=λj q A z=>(h.each q (aX z)).1.keep h5 (λk d=>h.sep j i q p z E A k d) ae
 have Z:∀(j:Nat) (q:Pr),j≠i->ps[j]?=aV q->∀k,q.U k->¬p'.U k:=λj q A z k d ab=>by
  rcases h4 k ab with C|C
  .exact h.sep j i q p z E A k d C
  .have:=((h.each q (aX z)).1.uty k d).lt;omega
 refine⟨?_,λq z=>?_,λq z k d=>?_,λj l q r z hr bj k d ab=>?_,?_,λk d=>aZ (h.q k d) h5.size⟩
 .rw[List.length_set,bu];refine qn h.row (λg hg O=>h5.block g O (λe=>?_));have⟨c,hc⟩:=qh h.row hg;exact io.not hc (by decide) (by decide) (ae g O e)
 .obtain⟨j,A,rfl⟩:=bE z;rcases G j _ (bC A) with⟨_,e⟩|⟨e,ak⟩
  .grind
  .have:=(h.each _ (aX ak)).2;exact⟨M j _ e ak,⟨this.ok,this.rel,this.f3,hF _ _ this.fd⟩⟩
 .obtain⟨j,A,rfl⟩:=bE z;rcases G j _ (bC A) with⟨_,e⟩|⟨e,ak⟩
  .rw[e] at d;rcases h4 k d with C|C
   .exact h.low p aq k C
   .have:=h.below.size;refine⟨by omega,λhQ=>?_⟩;have:=h.q k hQ;omega
  .exact h.low _ (aX ak) k d
 .rcases G j q z with⟨rfl,rfl⟩|⟨e,ak⟩
  .grind
  .rcases G l r hr with⟨rfl,rfl⟩|⟨e',bh⟩
   .grind
   .exact h.sep j l q r ak bh bj k d ab
 .exact h.below.trans (h5.below h.below.size (λk d=>(h.low p aq k d).1))
theorem kV.same{n:Nat}{w:Wq}{ps:List Pr}(h:kV F n w Q vl ps W)(A:∀e y,F n e y->F n' e y)(z:Below W.heap.size W W'):kV F n' w Q vl ps W':=
 ⟨qj h.row z,λp d=>⟨(Q7.same (h.each p d).1 z).1,⟨(h.each p d).2.ok,(h.each p d).2.rel,(h.each p d).2.f3,A _ _ (h.each p d).2.fd⟩⟩,h.low,h.sep,h.below.trans (z.mono h.below.size),λk C=>aZ (h.q k C) z.size⟩
structure gU where
 kind:Int
 e:Int
 s:ByteArray
 a:Int
 b:Int
 c:Int
def gU.v(o:gU):Vq:=aJ #[aM aP o.kind,aM aP o.e,aI o.s,aM aP o.a,aM aP o.b,aM aP o.c]
def Pr.v(p:Pr):Vq:=aJ #[.pointer (aV ⟨p.bx,0,aW⟩),.pointer (aV ⟨p.bz,0,aW⟩)]
structure ng(F:Nat->Eg->Er->Prop):Prop where
 mono:∀n e y,F n e y->F (n+1) e y
 ins:∀n e y s t,F n e y->F n (iM e s t).2 (iv y s t).2
 tick:∀n e y ds c e' y' r r',dV e->ic e y ds->F n e y->oF e c e' r->mU y c y' r'->F n e' y'/\aB y'.feeds<=3
 new:∀n s rs win lat que M st,tO s rs->F n (oZ rs win lat que M) (nM rs win lat que st)
 mvx:∀n e y,dV e->F n e y->tM e
 mv:∀b n e y ds,dV e->ic e y ds->F n e y->∀i f,y.feeds[i]?=aV f->∀m st,aB st<=2048->(∀g∈st,ja y.rs y.names g)->wy b i f y.state y.que m st
theorem A6(s:ByteArray):∀a,iX s=aV a->kC a/\∀t∈a.args,t.num<6:=by
 intro a d;rw[<-yX] at d;have E:=d;unfold lw at d;split at d
 .cases d
 rename_i G;split at d
 .cases d
 rename_i A;have⟨t,p,us,L,b3,k,e1,e2,e3,e4,e5⟩:=AZ (Q3 s) (sj s) (by simpa [jG] using A);have ad:=uM s (by omega);rw[e1] at d ad;unfold oQ at d;simp only[e2] at d;injection d with d;subst d;refine⟨⟨ad t (by simp),e3,λu z=>⟨sp 1200 us _ _ _ _ (λv C=>ad v (by simp[C])) e2 u z,by have:=e5 u z;omega⟩⟩,λu z=>by have:=e5 u z;omega⟩
theorem vD(y:Er)(s:ByteArray)(t:Int):(iv y s t).2.feeds=y.feeds:=by grind [iv]
theorem Fb(hF:ng F){n:Nat}{p:Pr}{W:Wq}(h:iw W p)(aa:js F n p)(o:gU)(hk:o.kind=3\/o.kind=4)(hs:o.s.size<=1048576)(hT:Lib.Utf8Tabs 0 1 W):Cs 35 #[p.v,o.v] W λen W'=>en=aO (aK true)/\∃p',Q7 p W p' W'/\js F n p':=by
 unfold Pr.v gU.v;have HP:=aA h;have d:=aA aa;have bk:Hid (∀Y,Below W.heap.size W Y->Lib.Utf8Tabs 0 1 Y):=λY A=>Utf8Tabs_below hT A;clear h aa hT;have⟨kd,ke,s,a,b,c⟩:=o;simp only at hk hs ⊢;obtain⟨N,hN⟩:∃N,W.heap.size=N:=⟨_,rfl⟩;obtain⟨W0,av⟩:∃W0,(W.alloc (aN #[Pt p.bx,Pt p.bz] 81)).alloc (aN #[Ii kd,Ii ke,St s,Ii a,Ii b,Ii c] 34)=W0:=⟨_,rfl⟩;have aw:Below W.heap.size W W0:=by rw[<-av];exact ((Below.refl _ W).alloc zl _).alloc (by simp) _
 have an:W0.heap[N]?=cC #[Pt p.bx,Pt p.bz] 81:=by rw[<-av,<-hN];exact (Below.heap_alloc _ _ _ (by simp)).trans (zn W _)
 have G:W0.heap[N+1]?=cC #[Ii kd,Ii ke,St s,Ii a,Ii b,Ii c] 34:=by rw[<-av,<-hN];have:=zn (W.alloc (aN #[Pt p.bx,Pt p.bz] 81)) (aN #[Ii kd,Ii ke,St s,Ii a,Ii b,Ii c] 34);simpa using this
 have ap:Q7 p W p W0:=Q7.same HP.o aw;have bc:=aA ap;have ax:=bk.o W0 aw;have HC:Hid (∀p1 Y,Q7 p W0 p1 Y->aC Y (Ad N 1)=aV (Pt p.bz)/\aC Y (Ad (N+1) 2)=aV (St s)/\aC Y (Ad (N+1) 3)=aV (Ii a)):=λp1 Y A=>by have ae:∀k,p.U k->io W0 k:=ap.1.uty;have h1:=(A.2.2.2.2.block N (zg an).1 (λe=>io.not an (by decide) (by decide) (ae N e))).trans an;have h2:=(A.2.2.2.2.block (N+1) (zg G).1 (λe=>io.not G (by decide) (by decide) (ae (N+1) e))).trans G;exact⟨zc h1,zc h2,zc h2⟩
 have c0:aC W0 (Ad N 0)=aV (Pt p.bx):=zc an;have c1:aC W0 (Ad (N+1) 0)=aV (Ii kd):=zc G;have c2:aC W0 (Ad (N+1) 2)=aV (St s):=zc G;have c3:aC W0 (Ad (N+1) 3)=aV (Ii a):=zc G;have O:=ap.1;clear aw an G ap;rcases hk with rfl|rfl
 .have⟨a9,ac,az⟩:=Jl d.o.rel d.o.ok s a;have a8:Hid (Cs 20 #[Pt p.bx,St s,Ii a] W0 λe w'=>e=aO (Ii (iv p.y s a).1)/\∃z,Q7 p W0 {p with e:=(iM p.e s a).2,S:=z,ds:=ac} w'):=by{refine (EO p.S p.bx p.e s a W0 O.x d.o.ok (by omega) ax (λu hu=>(A6 s u hu).2)).mono ?_;rintro e w' ⟨C,E⟩;rw[a9] at C;exact⟨C,O.runX E ac⟩};have ad:=d.o.rel.sz d.o.ok d.o.f3;have a6:Hid (∀z Y,Q7 p W0 {p with e:=(iM p.e s a).2,S:=z,ds:=ac} Y->Cs 67 #[Pt p.bz,St s,Ii a] Y λe w'=>e=aO (Ii (iv p.y s a).1)/\∃p',Q7 p W p' w'/\js F n p'):=λz Y A=>by{have⟨vr,vf,vn,vs,vd,qs,fs,ss,bn,hv⟩:=A.1.y;refine (Ja hv ad s hs a).mono ?_;rintro e w' ⟨C,E⟩;have⟨T',k3⟩:=A.1.runY E ac;refine⟨C,_,bc.o.trans (A.trans k3),⟨Gq d.o.ok s (λu hu=>(A6 s u hu).1) a,az,?_,hF.ins n _ _ s a d.o.fd⟩⟩;show aB (iv p.y s a).2.feeds<=3;rw[vD];exact d.o.f3};clear a9 az ad O ax;go_enter Tryz.func35,Tryz.ntmps35;go_wp2_with fail;refine bD a8.o ?_;clear a8;rintro e' W1 ⟨rfl,z,M⟩;have⟨d1,d2,d3⟩:=HC.o _ W1 M;have hy:=a6.o z W1 M;clear M c0 c1 c2 c3;go_wp2_with fail;refine bD hy ?_;clear hy a6;rintro e' W2 ⟨rfl,am⟩;have ay:=aA am;clear am d1 d2 d3;go_wp2;go_ret;exact⟨by simp,ay.o⟩
 .have a7:Hid (Cs 22 #[Pt p.bx,Ii a] W0 λe w'=>∃(r:Int) (f:Int) (e':Eg),e=aO (aL #[Ii r,Ii f])/\oF p.e a e' (r,f)/\∃z,Q7 p W0 {p with e:=e',S:=z} w'):=by{refine (DD p.S p.bx p.e a W0 O.x d.o.ok (hF.mvx n p.e p.y d.o.ok d.o.fd)).mono ?_;rintro e w' ⟨e',r,C,E,k3⟩;exact⟨r.1,r.2,e',E,C,O.runX k3 p.ds⟩};have ad:=d.o.rel.sz d.o.ok d.o.f3;have bd:=d.o.rel.fine d.o.ok;have ae:Hid (∀z e' r f Y,oF p.e a e' (r,f)->Q7 p W0 {p with e:=e',S:=z} Y->Cs 68 #[Pt p.bz,Ii a] Y λe w'=>e=aO (aL #[Ii r,Ii f])/\∃p',Q7 p W p' w'/\js F n p'):=λz e' r f Y Z A=>by{have⟨vr,vf,vn,vs,vd,qs,fs,ss,bn,hv⟩:=A.1.y;refine (Jq hv ad bd a (hF.mv p.bz n p.e p.y p.ds d.o.ok d.o.rel d.o.fd)).mono ?_;rintro e w' ⟨y',r',C,E,k3⟩;have⟨h1,ac,h2⟩:=xG d.o.rel d.o.ok Z C;have⟨h3,h4⟩:=hF.tick n _ _ _ _ _ _ _ _ d.o.ok d.o.rel d.o.fd Z C;have⟨T',k4⟩:=A.1.runY k3 ac;rw[<-h1] at E;exact⟨E,_,bc.o.trans (A.trans k4),⟨ws d.o.ok Z,h2,h4,h3⟩⟩};clear ad bd O ax;go_enter Tryz.func35,Tryz.ntmps35;go_wp2_with fail;refine bD a7.o ?_;clear a7;rintro e' W1 ⟨r,f,e1,rfl,Z,z,M⟩;have⟨d1,d2,d3⟩:=HC.o _ W1 M;have hy:=ae.o z e1 r f W1 Z M;clear M Z c0 c1 c2 c3;go_wp2_with fail;refine bD hy ?_;clear hy ae;rintro e' W2 ⟨rfl,am⟩;have ay:=aA am;clear am d1 d2 d3;go_wp2;go_ret;exact⟨by simp,ay.o⟩
theorem GI(c:Int)(n:Nat)(w:Wq)(O:1<=n)(E:n<=10000000)(M : -9223372036854775808<=c/\c<=9223372036854775807):Cs 34 #[Ii c,Ii n] w λe w'=>∃r:Nat,r<n/\e=aO (Ii r)/\w=w':=by
 have G:((n:Int) == 0)=false:=by simp;omega
 have A:=JN c n (by omega);have z:((mt c n).toNat:Int)=mt c n:=Int.toNat_of_nonneg A.1;have d:Hid (∀x:Int,x=mt c n->∃r:Nat,r<n/\aO (Ii x)=aO (Ii r)):=λx C=>⟨(mt c n).toNat,by omega,by rw[z,C]⟩;clear A z;by_cases h:c<0
 .go_enter Tryz.func34,Tryz.ntmps34;go_wp2;go_ret;have⟨r,h1,h2⟩:=d.o _ (Jf c n (by omega));exact⟨r,h1,h2,rfl⟩
 .go_enter Tryz.func34,Tryz.ntmps34;go_wp2;go_ret;have⟨r,h1,h2⟩:=d.o (c % n) (by unfold mt;rw[if_neg (by omega)]);exact⟨r,h1,h2,rfl⟩
