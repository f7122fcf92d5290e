/- A part -/
import Derived.Test.YtjajnhemgphefaaGreatDoorJMoI
set_option linter.all false
set_option maxRecDepth 100000
set_option maxHeartbeats 16000000
open List renaming length->aB,pairwise_append->aZ,length_map->bC,length_append->bD,mem_cons->bE,mem_map->bG,nodup_cons->bH,map_append->bI,length_filter_le->bJ,getElem_of_mem->bL,length_cons->bU,mem_append->bX
open Go.World renaming cell?->aC,size_alloc->aY
open Go.Value renaming slice->aH,agg->aJ,bool->aK
open Go.Obj renaming cells->aN
open Go.Ending renaming returned->aO
open Or renaming inl->aQ,inr->aR
open Option renaming some->aV,none->aW,isSome_iff_exists->bB
open Go.RowKit.Below renaming heap_alloc->aX,refl->bF
open Int renaming lt_of_lt_of_le->bO
open Nat renaming add_mul->bQ,one_mul->bT
open Go.RowKit renaming Below->bZ
open Go renaming cell_later->cA,callsIn_wide->cE
open Go.CallsIn renaming inRound->cD
namespace Go.Proofs.YtjajnhemgphefaaGreatDoor
open Go renaming World->Wq,Value->Vq
open Go.RowKit Go.Shelf Go.Maps
variable {x:ByteArray} {a:Am} {t:Tm} {m:dF} {ar:ByteArray->Nat} {M:Gd->Option Int} {L:List Am} {r:Rl} {F q F':List (Gd×Int)} {e:Int} {g h:Gd} {α:Type} {rels NS:List ByteArray}
def eB:ByteArray:=⟨#[]⟩
theorem iz(x:ByteArray):x.toList.isEmpty=true↔x=eB:=by
 rw[jQ,List.isEmpty_iff];constructor
 .intro h;exact nJ h
 .rintro rfl;rfl
theorem IH{y:ByteArray}(h:x.toList=y.toList):x=y:=by grind [jQ,nJ]
def gG(n m:dF):Prop:=∀k,n.get k≠eB->m.get k=n.get k
theorem gG.refl(n:dF):gG n n:=λ_ _=>rfl
theorem gG.trans{a b c:dF}(h:gG a b)(k:gG b c):gG a c:=λi z=>by have d:=h i z;rw[k i (by grind),d]
theorem Je(p:dF):gG Qs p:=λk d=>absurd (by unfold Qs dF.get;split<;>rfl) d
theorem om(h:t.name=eB)(n:dF):dI n t=n.get t.num:=by grind [dI,iz]
theorem mi(h:t.name≠eB)(n:dF):dI n t=t.name:=by grind [dI,iz]
theorem uz{n:dF}(h:gG n m)(z:dI n t≠eB):dI m t=dI n t:=by
 by_cases d:t.name=eB
 .rw[om d] at z;rw[om d,om d,h _ z]
 .grind [mi]
theorem Eq{n:dF}(d:t.num<6):gG n (jL n t x):=by
 intro k z;unfold jL;split
 .grind [dF.get_set,iz]
 .rfl
theorem IR{n:dF}(d:t.num<6)(h:il n t x=aV m):gG n m/\dI m t=x:=by grind [il,Eq,IH]
theorem Hb{n p:dF}(A:t.num<6)(O:x≠eB)(z:gG n p)(E:dI p t=x):∃m,il n t x=aV m/\gG m p:=by
 have M:dI (jL n t x) t=x:=by
  by_cases G:t.name=eB
  .rw[om G] at E;rw[om G];unfold jL;by_cases C:n.get t.num=eB;{grind [iz,dF.get_set]};{rw[if_neg (λh=>C ((iz _).1 h.2)),<-z _ C,E]}
  .grind [mi]
 refine⟨jL n t x,by unfold il;rw[if_pos (by rw[M])],?_⟩;intro k d;unfold jL at d ⊢;split
 .rename_i h;rw[if_pos h,dF.get_set _ _ _ _ A] at d;rw[dF.get_set _ _ _ _ A];split;{grind [om,iz]};{rename_i e;rw[if_neg e] at d;exact z _ d}
 .rename_i h;rw[if_neg h] at d;exact z _ d
theorem uG:∀(l:List (Tm×ByteArray)) (n m:dF),(∀q∈l,q.1.num<6/\q.2≠eB)->fX n l=aV m->gG n m/\∀q∈l,dI m q.1=q.2
 |[],n,m,_,h=>by grind [fX,gG.refl]
 |q::l,n,m,hl,h=>by
  simp only[fX] at h
  cases hq:il n q.1 q.2 with
  |none=>rw[hq] at h;cases h
  |some m'=>
   rw[hq] at h;have⟨h1,h2⟩:=IR (hl q (by simp)).1 hq;have⟨h3,h4⟩:=uG l m' m (λr d=>hl r (by simp[d])) h;refine⟨h1.trans h3,λr d=>?_⟩;rcases bE.1 d with rfl|d
   .grind [uz]
   .exact h4 r d
theorem xg:∀(l:List (Tm×ByteArray)) (n p:dF),(∀q∈l,q.1.num<6/\q.2≠eB)->gG n p->(∀q∈l,dI p q.1=q.2)->∃m,fX n l=aV m/\gG m p
 |[],n,p,_,he,_=>⟨n,rfl,he⟩
 |q::l,n,p,hl,he,hp=>by have⟨m,h1,h2⟩:=Hb (hl q (by simp)).1 (hl q (by simp)).2 he (hp q (by simp));have⟨m',h3,h4⟩:=xg l m p (λr d=>hl r (by simp[d])) h2 (λr d=>hp r (by simp[d]));exact⟨m',by simp only[fX,h1];exact h3,h4⟩
def eO(ar:ByteArray->Nat)(g:Gd):Prop:=g.x≠eB/\((ar g.rel=1/\g.y=eB)\/(ar g.rel=2/\g.y≠eB))
def jO(ar:ByteArray->Nat)(a:Am):Prop:=aB a.args=ar a.rel/\∀t∈a.args,t.num<6
theorem rD(C:jO ar a){x y:ByteArray}(G:eO ar ⟨a.rel,x,y⟩):(∃t,a.args=[t]/\y=eB/\x≠eB)\/∃t u,a.args=[t,u]/\x≠eB/\y≠eB:=by
 obtain⟨E,⟨d,z⟩|⟨d,z⟩⟩:=G
 .have A:aB a.args=1:=C.1.trans d
  match ha':a.args,A with
  |[t],_=>exact aQ ⟨t,rfl,z,E⟩
 .have A:aB a.args=2:=C.1.trans d
  match ha':a.args,A with
  |[t,u],_=>exact aR ⟨t,u,rfl,E,z⟩
theorem tj(A:jO ar a){x y:ByteArray}(G:eO ar ⟨a.rel,x,y⟩){n m:dF}(h:Q6 n a x y=aV m):gG n m/\qb m a=⟨a.rel,x,y⟩:=by
 unfold Q6 at h;rcases rD A G with⟨t,d,C,E⟩|⟨t,u,d,C,E⟩
 .rw[d] at h
  have⟨h1,h2⟩:=uG _ _ _ (by
   intro q z;simp at z;subst z
   exact⟨A.2 t (by rw[d];simp),E⟩) h
  refine⟨h1,?_⟩;unfold qb fM fK;rw[d];simp only;rw[h2 (t,x) (by simp),C];rfl
 .rw[d] at h
  have⟨h1,h2⟩:=uG _ _ _ (by
   intro q z;simp at z;rcases z with rfl|rfl
   .exact⟨A.2 t (by rw[d];simp),C⟩
   .exact⟨A.2 u (by rw[d];simp),E⟩) h
  refine⟨h1,?_⟩;unfold qb fM fK;rw[d];simp only;rw[h2 (t,x) (by simp),h2 (u,y) (by simp)]
theorem wY(A:jO ar a){n p:dF}(M:eO ar (qb p a))(G:gG n p):∃m,Q6 n a (qb p a).x (qb p a).y=aV m/\gG m p:=by
 unfold Q6;rcases rD A (x:=(qb p a).x) (y:=(qb p a).y) M with⟨t,z,E,C⟩|⟨t,u,z,E,C⟩
 .refine xg _ _ _ (λq d=>?_) G (λq d=>?_);{rw[z] at d;simp at d;subst d;exact⟨A.2 t (by rw[z];simp),C⟩};{rw[z] at d;simp at d;subst d;simp[qb,z,fM]}
 .refine xg _ _ _ (λq d=>?_) G (λq d=>?_)
  .rw[z] at d;simp at d;rcases d with rfl|rfl
   .exact⟨A.2 t (by rw[z];simp),E⟩
   .exact⟨A.2 u (by rw[z];simp),C⟩
  .rw[z] at d;simp at d;rcases d with rfl|rfl
   .simp[qb,z,fM]
   .simp[qb,z,fK]
theorem xZ(d:jO ar a){n p:dF}(A:eO ar (qb n a))(z:gG n p):qb p a=qb n a:=by grind [rD,qb,fM,fK,uz]
def oW(ar:ByteArray->Nat)(M:Gd->Option Int):Prop:=∀g,(M g).isSome=true->eO ar g/\jl g
theorem A3(z:oW ar M):∀(L:List Am) (n p:dF),(∀a∈L,jO ar a)->lE M L n p->gG n p/\∀a∈L,(M (qb p a)).isSome=true
 |[],n,p,_,h=>by have A:p=n:=h;subst A;exact⟨gG.refl _,by simp⟩
 |a::L,n,p,hL,h=>by
  have⟨x,y,q,_,_,h1,h2,h3⟩:=h;have⟨k1,k2⟩:=tj (hL a (by simp)) (z _ h1).1 h2;have⟨k3,k4⟩:=A3 z L q p (λb d=>hL b (by simp[d])) h3;refine⟨k1.trans k3,λb d=>?_⟩;rcases bE.1 d with rfl|d
  .rw[xZ (hL b (by simp)) (by rw[k2];exact (z _ h1).1) k3,k2];exact h1
  .exact k4 b d
theorem yy(z:oW ar M):∀(L:List Am) (n p:dF),(∀a∈L,jO ar a)->gG n p->(∀a∈L,(M (qb p a)).isSome=true)->∃q,lE M L n q/\gG q p
 |[],n,p,_,he,_=>⟨n,rfl,he⟩
 |a::L,n,p,hL,he,h=>by have d:=h a (by simp);have⟨m,k1,k2⟩:=wY (hL a (by simp)) (z _ d).1 he;have⟨q,k3,k4⟩:=yy z L m p (λb A=>hL b (by simp[A])) k2 (λb A=>h b (by simp[A]));exact⟨q,⟨_,_,m,(z _ d).2.x,(z _ d).2.y,d,k1,k3⟩,k4⟩
theorem sJ{i:Nat}(h:i<aB L){a:Am}:a∈L↔a=L[i]\/a∈L.take i++L.drop (i+1):=by grind [List.take_append_drop,List.drop_eq_getElem_cons]
theorem y9(A:oW ar M){L:List Am}(z:∀a∈L,jO ar a){g:Gd}(E:(M g).isSome=true){p:dF}(h:ob M L g p):L≠[]/\∀a∈L,(M (qb p a)).isSome=true:=by
 have⟨i,hi,h1,put,h2,h3⟩:=h;have d:(⟨(L[i]).rel,g.x,g.y⟩:Gd)=g:=by rw[h1]
 have⟨k1,k2⟩:=tj (z _ (zm hi)) (by rw[d];exact (A _ E).1) h2;have⟨k3,k4⟩:=A3 A _ _ _ (λb G=>z b ((sJ hi).2 (aR G))) h3;refine⟨λe=>by rw[e] at hi;simp at hi,λa C=>?_⟩;rcases (sJ hi).1 C with rfl|C
 .rw[xZ (z _ (zm hi)) (by rw[k2,d];exact (A _ E).1) k3,k2,d];exact E
 .exact k4 a C
theorem Hw(E:oW ar M){L:List Am}(C:∀a∈L,jO ar a){p:dF}{a:Am}(d:a∈L)(h:∀a∈L,(M (qb p a)).isSome=true):∃q,ob M L (qb p a) q/\gG q p:=by obtain⟨i,A,rfl⟩:=bL d;have⟨m,k1,k2⟩:=wY (C _ d) (E _ (h _ d)).1 (Je p);have⟨q,k3,k4⟩:=yy E (L.take i++L.drop (i+1)) m p (λb z=>C b ((sJ A).2 (aR z))) k2 (λb z=>h b ((sJ A).2 (aR z)));exact⟨q,⟨i,A,rfl,m,k1,k3⟩,k4⟩
structure oV(ar:ByteArray->Nat)(r:Rl):Prop where
 head:jO ar r.head
 body:∀a∈r.body,jO ar a
 safe:∀t∈r.head.args,t.name=eB->∃a∈r.body,∃u∈a.args,u.name=eB/\u.num=t.num
theorem En(d:jO ar a){p:dF}(z:eO ar (qb p a)){u:Tm}(A:u∈a.args):dI p u≠eB/\(dI p u=(qb p a).x\/dI p u=(qb p a).y):=by grind [rD,qb,dI,fM,fK]
theorem rr(d:oV ar r){p:dF}(z:∀a∈r.body,eO ar (qb p a)){t:Tm}(C:t∈r.head.args):dI p t≠eB/\((t.name≠eB/\dI p t=t.name)\/∃a∈r.body,dI p t=(qb p a).x\/dI p t=(qb p a).y):=by
 by_cases h:t.name=eB
 .have⟨a,ha,u,hu,e1,e2⟩:=d.safe t C h;have⟨k1,k2⟩:=En (d.body a ha) (z a ha) hu;have A:dI p t=dI p u:=by{grind [om]};rw[A];exact⟨k1,aR ⟨a,ha,k2⟩⟩
 .grind [mi]
theorem xh(C:∀r,ar r=1\/ar r=2\/ar r=0){r:Rl}(z:oV ar r)(h0:r.head.args≠[]){p:dF}(A:∀a∈r.body,eO ar (qb p a)):eO ar (qb p r.head):=by
 have d:=z.head.1
 match ha:r.head.args,d with
 |[],_=>exact absurd ha h0
 |[t],d=>refine⟨?_,aQ ⟨by show ar r.head.rel=1;rw[<-d];rfl,by show fK p r.head.args=eB;rw[ha];rfl⟩⟩;show fM p r.head.args≠eB;rw[ha];exact (rr z A (t:=t) (by rw[ha];simp)).1
 |[t,u],d=>
  refine⟨?_,aR ⟨by show ar r.head.rel=2;rw[<-d];rfl,?_⟩⟩;{show fM p r.head.args≠eB;rw[ha];exact (rr z A (t:=t) (by rw[ha];simp)).1};{show fK p r.head.args≠eB;rw[ha];exact (rr z A (t:=u) (by rw[ha];simp)).1}
 |t::u::v::l,d=>grind
theorem Ip(A:oV ar r){q p:dF}(z:gG q p)(d:∀a∈r.body,eO ar (qb q a)):qb p r.head=qb q r.head:=by
 have h:∀t∈r.head.args,dI p t=dI q t:=λt C=>uz z (rr A d C).1;unfold qb
 have E:fM p r.head.args=fM q r.head.args:=by
  unfold fM;split;{rfl};{grind}
 have G:fK p r.head.args=fK q r.head.args:=by
  unfold fK;split;{grind};{rfl}
 rw[E,G]
def gq(R:List Rl)(F:List (Gd×Int))(e:Int)(g:Gd):Prop:=
 ∀S:Gd->Prop,(∀x∈F,e<x.2->S x.1)->(∀r∈R,r.body≠[]->∀p:dF,(∀a∈r.body,S (qb p a))->S (qb p r.head))->S g
theorem gq.fact{R:List Rl}{x:Gd×Int}(A:x∈F)(z:e<x.2):gq R F e x.1:=λS d _=>d x A z
theorem gq.rule{R:List Rl}(C:r∈R)(h0:r.body≠[]){p:dF}(h:∀a∈r.body,gq R F e (qb p a)):gq R F e (qb p r.head):=λS z d=>d r C h0 p (λa A=>h a A S z d)
structure lA(ar:ByteArray->Nat)(R:List Rl)(F:List (Gd×Int))(U:List Gd)(M:Gd->Option Int)(q:List (Gd×Int)):Prop where
 sorted:q.Pairwise (λa b=>a.2<=b.2)
 top:∀x∈q,∀g t,M g=aV t->x.2<=t
 okM:oW ar M
 okQ:∀x∈q,eO ar x.1/\jl x.1
 soundM:∀g t,M g=aV t->∀e,e<t->gq R F e g
 soundQ:∀x∈q,∀e,e<x.2->gq R F e x.1
 facts:∀x∈F,x∈q\/∃t,M x.1=aV t/\x.2<=t
 closed:∀r∈R,r.body≠[]->∀(p:dF) (e:Int),(∀a∈r.body,∃t,M (qb p a)=aV t/\e<t)->(∃t,M (qb p r.head)=aV t/\e<t)\/∃x∈q,x.1=qb p r.head/\e<x.2
 keys:∃ks:List Gd,ks.Nodup/\(∀g,(M g).isSome=true↔g∈ks)/\∀g∈ks,g∈U
 inU:∀x∈q,x.1∈U
theorem lA.first{R:List Rl}{U:List Gd}(hs:q.Pairwise (λa b=>a.2<=b.2))(z:∀x,x∈q↔x∈F)(A:∀x∈F,eO ar x.1/\jl x.1)(C:∀x∈F,x.1∈U):lA ar R F U (λ_=>aW) q:=
 ⟨hs,λ_ _ _ _ h=>(by cases h),λ_ h=>(by cases h),λx d=>A x ((z x).1 d),λ_ _ h=>(by cases h),λx d e E=>gq.fact ((z x).1 d) E,λx d=>aQ ((z x).2 d),λr _ h0 p e h=>(by
  have⟨a,ha⟩:=List.exists_mem_of_ne_nil _ h0;have⟨t,ht,_⟩:=h a ha
  cases ht),⟨[],List.nodup_nil,λg=>by simp,by simp⟩,λx d=>C x ((z x).1 d)⟩
theorem lA.skip{R:List Rl}{U:List Gd}{x:Gd×Int}(h:lA ar R F U M (q++[x]))(E:(M x.1).isSome=true):lA ar R F U M q:=by
 have⟨t,ht⟩:=bB.1 E;have G:=h.top x (by simp) _ _ ht;refine⟨(aZ.1 h.sorted).1,λy d=>h.top y (by simp[d]),h.okM,λy d=>h.okQ y (by simp[d]),h.soundM,λy d=>h.soundQ y (by simp[d]),λy d=>?_,λr C h0 p e A=>?_,h.keys,λy d=>h.inU y (by simp[d])⟩
 .rcases h.facts y d with z|z
  .grind
  .exact aR z
 .rcases h.closed r C h0 p e A with z|⟨y,d,z,O⟩
  .exact aQ z
  .grind
theorem Ae(d:h.rel=g.rel/\h.x=g.x/\h.y=g.y):h=g:=by cases g;cases h;simp at d ⊢;exact d
theorem pG(M:Gd->Option Int)(g:Gd)(e:Int):fJ M g e g=aV e:=by grind [fJ]
theorem sf(d:h≠g):fJ M g e h=M h:=by grind [fJ,Ae]
theorem wG{t:Int}(d:fJ M g e h=aV t):(h=g/\t=e)\/M h=aV t:=by grind [fJ,Ae]
def sQ(R:List Rl)(M:Gd->Option Int)(g:Gd)(h:Gd):Prop:=∃r∈R,∃p,ob M r.body g p/\h=qb p r.head/\M h=aW
theorem lA.add(cc:∀r,ar r=1\/ar r=2\/ar r=0){R:List Rl}(O:∀r∈R,oV ar r/\r.head.args≠[]){F q:List (Gd×Int)}{U:List Gd}(hU:∀r∈R,r.body≠[]->∀p:dF,(∀a∈r.body,qb p a∈U/\eO ar (qb p a))->qb p r.head∈U)(d3:∀g∈U,jl g){M:Gd->Option Int}{x:Gd×Int}(h:lA ar R F U M (q++[x]))(hx:M x.1=aW){hs:List Gd}(ci:∀g,g∈hs↔sQ R (fJ M x.1 x.2) x.1 g):lA ar R F U (fJ M x.1 x.2) (q++hs.map (λg=>(g,x.2))):=by
 have Qml:∀y∈q,y.2<=x.2:=λy d=>(aZ.1 h.sorted).2.2 y d x (by simp);have Qk5:=h.okQ x (by simp)
 have Qik:∀g t,fJ M x.1 x.2 g=aV t->x.2<=t:=by
  intro g t A;rcases wG A with⟨_,rfl⟩|A
  .grind
  .exact h.top x (by simp) _ _ A
 have G:oW ar (fJ M x.1 x.2):=by
  intro g E;have⟨t,ht⟩:=bB.1 E;rcases wG ht with⟨rfl,_⟩|A
  .exact Qk5
  .exact h.okM g (by rw[A];rfl)
 have Qhm:∃ks:List Gd,ks.Nodup/\(∀g,(fJ M x.1 x.2 g).isSome=true↔g∈ks)/\∀g∈ks,g∈U:=by
  have⟨ks,k1,k2,k3⟩:=h.keys;refine⟨x.1::ks,bH.2 ⟨λhm=>(by grind),k1⟩,λg=>?_,λg E=>?_⟩
  .by_cases e:g=x.1;{grind [pG]};{grind [sf]}
  .rcases bE.1 E with rfl|E
   .exact h.inU x (by simp)
   .exact k3 g E
 have Qkr:∀g,(fJ M x.1 x.2 g).isSome=true->g∈U:=λg E=>by grind
 have cu:∀g t,fJ M x.1 x.2 g=aV t->∀e,e<t->gq R F e g:=by
  intro g t A e Z;rcases wG A with⟨rfl,rfl⟩|A
  .exact h.soundQ x (by simp) e Z
  .exact h.soundM g t A e Z
 have ch:(fJ M x.1 x.2 x.1).isSome=true:=by rw[pG];rfl
 have Qkq:∀g∈hs,eO ar g/\g∈U/\∀e,e<x.2->gq R F e g:=by intro g E;obtain⟨r,C,p,h1,rfl,h2⟩:=(ci g).1 E;have⟨u1,u2⟩:=y9 G (O r C).1.body ch h1;refine⟨xh cc (O r C).1 (O r C).2 (λa z=>(G _ (u2 a z)).1),hU r C u1 p (λa z=>⟨Qkr _ (u2 a z),(G _ (u2 a z)).1⟩),λe Z=>gq.rule C u1 (λa z=>?_)⟩;have⟨t,ht⟩:=bB.1 (u2 a z);exact cu _ _ ht e (bO Z (Qik _ _ ht))
 have bn:∀y,y∈q++hs.map (λg=>(g,x.2))->y∈q\/(y.1∈hs/\y.2=x.2):=by grind
 refine⟨?_,?_,G,?_,cu,?_,?_,?_,Qhm,?_⟩
 .refine aZ.2 ⟨(aZ.1 h.sorted).1,?_,λa z b hb=>?_⟩;{rw[List.pairwise_map];exact List.pairwise_of_forall (λ_ _=>Int.le_refl _)};{grind}
 .grind
 .intro y d;rcases bn y d with d|⟨d,_⟩
  .exact h.okQ y (by simp[d])
  .grind
 .intro y d e Z;rcases bn y d with d|⟨d,h2⟩
  .exact h.soundQ y (by simp[d]) e Z
  .grind
 .intro y d;rcases h.facts y d with h1|⟨t,h1,h2⟩
  .grind [pG]
  .grind [sf]
 .intro r C h0 p e hb;by_cases c1:∃a∈r.body,qb p a=x.1
  .have⟨a,z,de⟩:=c1;have c8:∀a∈r.body,(fJ M x.1 x.2 (qb p a)).isSome=true:=λa z=>by{grind};have c3:e<x.2:=by{grind [pG]};have⟨pq,A,Qki⟩:=Hw G (O r C).1.body z c8;rw[de] at A;have⟨_,u2⟩:=y9 G (O r C).1.body ch A;have c9:=Ip (O r C).1 Qki (λa z=>(G _ (u2 a z)).1)
   cases hM:fJ M x.1 x.2 (qb p r.head) with
   |some t=>exact aQ ⟨t,rfl,bO c3 (Qik _ _ hM)⟩
   |none=>refine aR ⟨(qb p r.head,x.2),List.mem_append_right _ (bG.2 ⟨_,(ci _).2 ⟨r,C,pq,A,c9,hM⟩,rfl⟩),rfl,c3⟩
  .have dd:∀a∈r.body,∃t,M (qb p a)=aV t/\e<t:=λa z=>by have⟨t,ht,aw⟩:=hb a z;rw[sf (λe=>c1 ⟨a,z,e⟩)] at ht;exact⟨t,ht,aw⟩
   rcases h.closed r C h0 p e dd with⟨t,h1,h2⟩|⟨y,d,h1,h2⟩
   .grind [qb,sf]
   .grind [pG]
 .intro y d;rcases bn y d with d|⟨d,_⟩
  .exact h.inU y (by simp[d])
  .grind
structure ia(R:List Rl)(F:List (Gd×Int))(M:Gd->Option Int):Prop where
 sound:∀g t,M g=aV t->∀e,e<t->gq R F e g
 complete:∀e g,gq R F e g->∃t,M g=aV t/\e<t
theorem lA.done{R:List Rl}{U:List Gd}(h:lA ar R F U M []):ia R F M:=by
 refine⟨h.soundM,λe g hd=>?_⟩;refine hd (λg=>∃t,M g=aV t/\e<t) (λx C O=>?_) (λr A h0 p z=>?_)
 .rcases h.facts x C with d|⟨t,d,G⟩
  .cases d
  .grind
 .rcases h.closed r A h0 p e z with d|⟨y,E,_⟩
  .exact d
  .cases E
theorem ia.eq{R:List Rl}{d:Gd->Option Int}(h:ia R F M)(A:ia R F' d)(C:∀e g,gq R F e g↔gq R F' e g):M=d:=by
 funext g;have G:∀{F F':List (Gd×Int)} {M d:Gd->Option Int},ia R F M->ia R F' d->(∀e g,gq R F e g↔gq R F' e g)->∀t,M g=aV t->∃z,d g=aV z/\t<=z:=by intro F F' M d h A C t E;have⟨z,h1,h2⟩:=A.complete (t-1) g ((C _ _).1 (h.sound g t E (t-1) (by omega)));exact⟨z,h1,by omega⟩
 cases hm:M g with
 |none=>
  cases hm':d g with
  |none=>rfl
  |some z=>grind
 |some t=>grind
theorem wE:∀(ks U:List α),ks.Nodup->(∀g∈ks,g∈U)->aB ks<=aB U
 |[],U,_,_=>zz
 |k::ks,U,h,hs=>by
  obtain⟨A,B,rfl⟩:=List.append_of_mem (hs k (by simp))
  have:=wE ks (A++B) (bH.1 h).2 (λg z=>by
   have d:=hs g (by simp[z]);have C:g≠k:=λe=>(bH.1 h).1 (e ▸ z);simp only[bX,bE] at d ⊢;rcases d with d|d|d
   .exact aQ d
   .grind
   .exact aR d)
  simp at this ⊢;omega
def gD(rels NS:List ByteArray):List Gd:=rels.flatMap λr=>NS.flatMap λx=>(eB::NS).map λy=>⟨r,x,y⟩
theorem lF:g∈gD rels NS↔g.rel∈rels/\g.x∈NS/\(g.y=eB\/g.y∈NS):=by grind [gD]
theorem xY{β:Type}(f:α->List β)(k:Nat):∀l:List α,(∀a∈l,aB (f a)=k)->aB (l.flatMap f)=aB l*k
 |[],_=>by simp
 |a::l,h=>by rw[List.flatMap_cons,bD,h a (by simp),xY f k l (λb d=>h b (by simp[d])),bU,bQ,bT,Nat.add_comm]
theorem Em(rels NS:List ByteArray):aB (gD rels NS)=aB rels*(aB NS*(aB NS+1)):=by grind [gD,xY]
theorem Ah{R:List Rl}(E:∀r∈R,oV ar r/\r.head.args≠[])(hrel:∀r∈R,r.head.rel∈rels)(O:∀r∈R,∀t∈r.head.args,t.name≠eB->t.name∈NS):∀r∈R,r.body≠[]->∀p:dF,(∀a∈r.body,qb p a∈gD rels NS/\eO ar (qb p a))->qb p r.head∈gD rels NS:=by
 intro r C _ p G
 have d:∀t∈r.head.args,dI p t∈NS:=by
  intro t M;obtain⟨Z,⟨z,h3⟩|⟨a,A,z⟩⟩:=rr (E r C).1 (λa A=>(G a A).2) M;{grind}
  .have⟨k1,k2,k3⟩:=lF.1 (G a A).1;rcases z with z|z
   .grind
   .grind
 rw[lF];refine⟨hrel r C,?_,?_⟩
 .show fM p r.head.args∈NS;have h0:=(E r C).2
  revert d h0
  cases r.head.args with
  |nil=>intro _ h;exact absurd rfl h
  |cons t l=>intro h _;exact h t (by simp)
 .show fK p r.head.args=eB\/fK p r.head.args∈NS
  revert d
  cases r.head.args with
  |nil=>intro _;exact aQ rfl
  |cons t l=>
   intro h
   cases l with
   |nil=>exact aQ rfl
   |cons u l=>exact aR (h u (by simp))
theorem FA(z:∀r∈rels,r.size<=maxLen)(A:∀x∈NS,x.size<=maxLen):∀g∈gD rels NS,jl g:=by
 intro g C;have⟨k1,k2,d⟩:=lF.1 C;refine⟨z _ k1,A _ k2,?_⟩;rcases d with d|d
 .rw[d];exact zz
 .grind
theorem gq.later{R:List Rl}(h:∀x,e<x.2->(x∈F↔x∈F'))(g:Gd):gq R F e g↔gq R F' e g:=
 ⟨λhd S z A=>hd S (λx C d=>z x ((h x d).1 C) d) A,λhd S z A=>hd S (λx C d=>z x ((h x d).2 C) d) A⟩
theorem ia.end_mem{R:List Rl}(h:ia R F M){g:Gd}{t:Int}(A:M g=aV t):∃x∈F,x.2=t:=by
 refine Classical.byContradiction λE=>?_
 have hd:gq R F t g:=(gq.later (R:=R) (F:=F) (F':=F) (e:=t) (λx _=>Iff.rfl) g).1 (λS d z=>h.sound g t A (t-1) (by omega) S (λx C G=>d x C (by
  have:x.2≠t:=λe=>E ⟨x,C,e⟩
  omega)) z)
 have⟨t',d,z⟩:=h.complete t g hd;rw[A] at d;cases d;omega
attribute [local go_sem] Oper.semAt_some
theorem DI(B:Nat)(v:Vq)(g:Gd)(w:Wq)(d:Option Addr)(A z:Nat)(di:v=aH d A z):Cs 138 #[.map (aV B),v,g.v] w λe w'=>e=aO (.func (.func 189) #[] #[Pt (w.heap.size+1),Pt w.heap.size,Pt (w.heap.size+2)])/\
   w'=((w.alloc (aN #[.map (aV B)] 98)).alloc (aN #[v] 75)).alloc (aN g.c 111):=by
 subst di;unfold Gd.v Gd.c;go_enter Tryz.func138,Tryz.ntmps138;go_wp2;go_ret;exact⟨rfl,rfl⟩
def pM(R:List Rl)(M:Gd->Option Int)(g:Gd)(k:Nat)(h:Gd):Prop:=∃i,∃hi:i<aB R,i<k/\∃p,ob M (R[i]).body g p/\h=qb p (R[i]).head/\M h=aW
theorem G7(R:List Rl)(M:Gd->Option Int)(g h:Gd):pM R M g (aB R) h↔sQ R M g h:=by
 constructor
 .rintro⟨i,d,_,p,z⟩;exact⟨_,List.getElem_mem d,p,z⟩
 .rintro⟨r,A,p,z⟩;obtain⟨i,d,rfl⟩:=bL A;exact⟨i,d,d,p,z⟩
theorem CS{R:List Rl}{k:Nat}(C:k<aB R):pM R M g (k+1) h↔pM R M g k h\/∃p,ob M (R[k]).body g p/\h=qb p (R[k]).head/\M h=none:=by
 constructor
 .rintro⟨i,z,A,d⟩;by_cases e:i=k;{grind};{exact aQ ⟨i,z,by omega,d⟩}
 .rintro (⟨i,z,A,d⟩|d);{exact⟨i,z,by omega,d⟩};{exact⟨k,C,by omega,d⟩}
structure rU(Bl Bm Bg B nn rb ah ac:Nat)(M:Gd->Option Int)(v:Vq)(R:List Rl)(g:Gd)(W:Wq):Prop where
 bl:W.heap[Bl]?=cC #[v] 75
 bm:W.heap[Bm]?=cC #[.map (aV B)] 98
 bg:W.heap[Bg]?=aV (aN g.c 111)
 rules:Qn W rb ah ac v R
 md:eT W B nn M
theorem rU.mk'{m A C z B O Z G E:Nat}{v:Vq}{R:List Rl}{W W':Wq}(h:rU A C z B O Z G E M v R g W)(d:qr m W W'):rU A C z B O Z G E M v R g W':=
 ⟨d.cells _ _ _ (by grind [eF]) h.bl,d.cells _ _ _ (by grind [eF]) h.bm,d.cells _ _ _ (by grind [eF]) h.bg,h.rules.keep (λk c t ht hc=>d.cells k c t (by grind [eF]) hc),h.md.mk d⟩
structure wN(r:Rl):Prop where
 body:vM r.body
 few:aB r.body<=3
 args:aB r.head.args<=2
 nums:∀t∈r.head.args,t.num<6
 rel:r.head.rel.size<=maxLen
 names:∀t∈r.head.args,t.name.size<=maxLen
def jp(nn:Nat):Nat:=3*(nn+1) ^ 2
theorem D9(A:aB L<=3)(d:Nat):aB L*d ^ (aB L-1)<=jp d:=by
 unfold jp;have z:aB L=0\/aB L=1\/aB L=2\/aB L=3:=by omega
 rcases z with h|h|h|h<;>rw[h]
 .simp
 .grind
 .grind
 .grind
theorem Cu(n0 Bl Bm Bg B nn rb ah ac:Nat)(M:Gd->Option Int)(v:Vq)(R:List Rl)(g:Gd)(w:Wq)(cl:rU Bl Bm Bg B nn rb ah ac M v R g w)(bk:∀r∈R,wN r)(h8:aB R<=8)(G:jl g)(m:Nat):fW m n0 189 #[Pt Bl,Pt Bm,Pt Bg] (λx:tL=>#[x.1.v]) (qr m)
   (λhs=>(∀h,h∈hs.map (·.1)↔sQ R M g h)/\aB hs<=aB R*jp nn) (λ_=>True) (aB R*jp nn) w:=by
 obtain⟨n,hn⟩:∃n,12<=n:=⟨12,Nat.le_refl _⟩;refine fW.any (n:=n) ?_ n0;have n1:1<=n:=by omega
 have n2:1<=n-1:=by omega
 have n3:1<=n-1-1:=by omega
 intro l J Jx W hW c7 hJ c0 hY h0;have a9:=cl.mk' (qr.ofBelow (m:=m) hW);clear cl hW;have⟨va,vc,hv⟩:=a9.rules.form;subst hv;have av:=aA a9;have HY:=aA hY;have HJ:=aA hJ;have HJx:=aA c0;have H0:=aA h0;have ai:∀O,bZ W.heap.size W (W.alloc O):=λO=>(bF _ W).alloc zl O;have e1:∀O,aC (W.alloc O) (Ad Bl 0)=aV (aH va (aB R) vc):=λO=>cA (ai O) (by have:=a9.bl;simp[aC,this]);clear hY hJ c0 h0 a9 ai;refine callsIn_of_wp_marks Tryz.func189 rfl trivial ?_ rfl;simp only[Tryz.ntmps189,List.size_toArray,bU,List.length_nil,Nat.reduceAdd,Nat.reduceSub,Array.replicate_succ,Array.replicate_zero,List.push_toArray,List.append_toArray,List.nil_append,List.cons_append]
 gi_wp2
 obtain⟨N,hN⟩:∃N,W.heap.size=N:=⟨_,rfl⟩;obtain⟨W1,ax⟩:∃W1,W.alloc (aN #[.func (.yield l) #[] #[]] 181)=W1:=⟨_,rfl⟩;have b9:bZ W.heap.size W W1:=by rw[<-ax];exact (bF _ W).alloc zl _
 have d4:W1.heap.size=N+1:=by rw[<-ax,<-hN];simp
 have bY:W1.heap[N]?=cC #[.func (.yield l) #[] #[]] 181:=by rw[<-ax,<-hN];exact zn W _
 have cb:=(av.o).mk' (qr.ofBelow (m:=m) b9);have cy:J [] W1:=HJ.o _ _ _ aW H0.o (qg b9) (λr e=>by cases e);have d6:m<=N:=by omega
 rw[hN] at HJ HJx;simp only[hN];rw[ax];clear ax e1 av H0 b9 hN c7;have av:=aA cb;have dc:=aA bY;clear cb bY;refine wpIn_loop (λA V=>∃(k:Nat) (ds:List Nat) (E:List tL) (u6 cj co cw cq ce cv cg b4:Vq),A={tmps:=#[.func (.yield l) #[] #[],Pt Bl,Pt Bm,Pt Bg,Pt N,undef,u6,undef,undef,aH va (aB R) vc,Ii (aB R),Ii k,cj,co,cw,cq,ce,cv,cg,undef,undef,undef,undef,undef,undef,undef,undef,undef,undef,undef,undef,undef,undef,undef,b4],defers:=jr ds}/\k<=aB R/\J E V/\fV (N+1) ds V/\qr m W1 V/\Hid ((∀h,h∈E.map (·.1)↔pM R M g k h)/\aB E<=k*jp nn)) (λA _=>aB R-(intOf (A.tmps.getD 11 undef)).toNat) ⟨0,[],[],_,_,_,_,_,_,_,_,_,rfl,zz,cy,fV.nil _ _,qr.ofBelow zr,⟨λh=>by simp[pM],by simp⟩⟩ ?_;rintro A V ⟨k,ds,E,u6,cj,co,cw,cq,ce,cv,cg,b4,rfl,hk,cd,a8,ct,Q9⟩;clear cy;have au:=(av.o).mk' ct;by_cases aw:k<aB R
 .have⟨gb,c,v0,vb,e0,x0,x1,x2,b3,b6⟩:=n9 au.rules aw;cases e0;have⟨fa,fc,dt⟩:=b3.form;have⟨ga,gc,dp⟩:=eW.form b6;subst dt dp;have ca:=bk _ (zm aw);have Qcs:=λh=>CS (M:=M) (g:=g) (h:=h) aw;generalize hxk:R[k]=rk at *;have ai:∀O,bZ V.heap.size V (V.alloc O):=λO=>(bF _ V).alloc zl O;have ay:=au.bg;unfold Gd.c at ay;have z0:∀O,aC (V.alloc O) (Ad Bg 0)=aV (St g.rel):=λO=>cA (ai O) (by simp[aC,ay]);have z1:∀O,aC (V.alloc O) (Ad Bg 1)=aV (St g.x):=λO=>cA (ai O) (by simp[aC,ay]);have z2:∀O,aC (V.alloc O) (Ad Bg 2)=aV (St g.y):=λO=>cA (ai O) (by simp[aC,ay]);have zm:∀O,aC (V.alloc O) (Ad Bm 0)=aV (.map (aV B)):=λO=>cA (ai O) (by have:=au.bm;simp[aC,this])
  have cz:Hid (∀W,Cs 190 #[.map (aV B),aJ #[St rk.head.rel,aH fa (aB rk.head.args) fc,aH ga (aB rk.body) gc],aJ #[St g.rel,St g.x,St g.y]] W λe w'=>e=aO (.func (.func 229) #[] #[Pt (W.heap.size+1),Pt (W.heap.size+2),Pt W.heap.size])/\
   w'=((W.alloc (aN #[.map (aV B)] 98)).alloc (aN #[St rk.head.rel,aH fa (aB rk.head.args) fc,aH ga (aB rk.body) gc] 136)).alloc (aN #[St g.rel,St g.x,St g.y] 111)):=λW=>Cw B _ _ _ g W _ _ _ rfl _ _ _ rfl
  have dj:=aA au;have dm:=aA b3;have dh:=aA b6;have db:=aA Qcs;have ao:=aA ca;clear ai ay au b3 b6 Qcs ca hxk
  gi_wp2_with (refine⟨trivial,?_⟩;gi_at_call 190;refine (cE.2 (cz.o _)).mono ?_;rintro e w' ⟨rfl,rfl⟩)
  obtain⟨C,ap⟩:∃C,V.heap.size=C:=⟨_,rfl⟩;obtain⟨W5,aj⟩:∃W5,(((V.alloc (aN #[St rk.head.rel,aH fa (aB rk.head.args) fc,aH ga (aB rk.body) gc] 136)).alloc (aN #[.map (aV B)] 98)).alloc (aN #[St rk.head.rel,aH fa (aB rk.head.args) fc,aH ga (aB rk.body) gc] 136)).alloc (aN #[St g.rel,St g.x,St g.y] 111)=W5:=⟨_,rfl⟩;have bf:bZ V.heap.size V W5:=by{rw[<-aj];exact ((((bF _ V).alloc zl _).alloc (by simp) _).alloc (by simp;omega) _).alloc (by simp;omega) _};have dz:W5.heap.size=C+4:=by{rw[<-aj,<-ap];simp};have eR:W5.heap[C]?=cC #[St rk.head.rel,aH fa (aB rk.head.args) fc,aH ga (aB rk.body) gc] 136:=by{rw[<-aj,<-ap];exact (aX _ _ _ (by simp;omega)).trans ((aX _ _ _ (by simp;omega)).trans ((aX _ _ _ (by simp)).trans (zn V _)))};have eM:W5.heap[C+1]?=cC #[.map (aV B)] 98:=by{rw[<-aj,<-ap];refine (aX _ _ _ (by simp)).trans ((aX _ _ _ (by simp)).trans ?_);have:=zn (V.alloc (aN #[St rk.head.rel,aH fa (aB rk.head.args) fc,aH ga (aB rk.body) gc] 136)) (aN #[.map (aV B)] 98);rw[aY] at this;exact this};have eS:W5.heap[C+1+1]?=cC #[St rk.head.rel,aH fa (aB rk.head.args) fc,aH ga (aB rk.body) gc] 136:=by{rw[<-aj,<-ap];refine (aX _ _ _ (by simp)).trans ?_;have:=zn ((V.alloc (aN #[St rk.head.rel,aH fa (aB rk.head.args) fc,aH ga (aB rk.body) gc] 136)).alloc (aN #[.map (aV B)] 98)) (aN #[St rk.head.rel,aH fa (aB rk.head.args) fc,aH ga (aB rk.body) gc] 136);rw[aY,aY] at this;exact this};have eG:W5.heap[C+1+2]?=aV (aN g.c 111):=by{rw[<-aj,<-ap];have:=zn (((V.alloc (aN #[St rk.head.rel,aH fa (aB rk.head.args) fc,aH ga (aB rk.body) gc] 136)).alloc (aN #[.map (aV B)] 98)).alloc (aN #[St rk.head.rel,aH fa (aB rk.head.args) fc,aH ga (aB rk.body) gc] 136)) (aN #[St g.rel,St g.x,St g.y] 111);rw[aY,aY,aY] at this;exact this};have bc:∀m',qr m' V W5:=λm'=>qr.ofBelow bf;have du:=(dj.o).mk' (bc m);have dn:rh (C+1) (C+1+1) (C+1+2) B nn ah ac M rk.head.rel (aH fa (aB rk.head.args) fc) (aH ga (aB rk.body) gc) rk.body g W5:=⟨eM,eS,eG,eW.kept dh.o (λk c _ hc=>(bc 0).cells k c _ (by unfold eF;decide) hc) (λk c _ hc=>(bc 0).cells k c _ (by unfold eF;decide) hc),du.md⟩;have Qjz:Qh W5 ac (aH fa (aB rk.head.args) fc) rk.head.args:=Qh.mk dm.o (bc 0);have dr:J (E++[]) W5:=by{rw[List.append_nil];exact HJ.o _ _ _ aW cd (qg bf) (λr e=>by cases e)};have ih:=H7 (n-1) (C+1) (C+1+1) (C+1+2) B nn ah ac M rk.head.rel (aH fa (aB rk.head.args) fc) (aH ga (aB rk.body) gc) rk.body g W5 dn ao.o.body ao.o.few G (W5.heap.size+2);have cx:qr m W1 W5:=ct.tr (qr.ofBelow bf);have ck:fV (N+1) ds W5:=a8.below bf;have a7:∀d∈ds,d<W5.heap.size:=ck.lt;have dv:N+1<=W5.heap.size:=by{have:=cx.from'.size;omega};have Qat:=D9 ao.o.few nn;simp only[ap];rw[aj];clear aj cz z0 z1 z2 zm x0 x1 x2
  refine nz (n:=n) (gf:=229) (lb:=#[Pt (C+1+1),Pt (C+1+2),Pt (C+1)]) rfl (enters_of Tryz.func229 (by kernel_rfl) rfl)
   ih qr.tr (λV' d5 o' ho=>qr.put V' _ _ o' (by omega) ho rfl (λ_ _ h=>by cases h)) (λ_=>rfl)
   (λpre V2=>∃aa:List tL,J (E++aa) V2/\aa.map (·.1)=(pre.map (λp=>qb p.1 rk.head)).filter (λh=>(M h).isNone)/\qr m W1 V2/\fV (N+1) ds V2/\qr (W5.heap.size+2) W5 V2)
   (λc pre V2=>c=.ret/\(∃zs,Jx zs V2)/\fV (N+1) ds V2)
   ?hI2 ?hIx2 ⟨[],dr,rfl,cx,ck,qr.ofBelow zr⟩
   (λx a' V2=>∃Bx,V2.heap[Bx]?=aV (aN x.1.c 176)/\a'={tmps:=#[.func (.yield l) #[] #[],Pt Bl,Pt Bm,Pt Bg,Pt N,undef,Pt C,Pt Bx,undef,Sc gb (aB R) vc,Ii (aB R),Ii k,aK true,.pointer (aV ⟨gb,k*3,aW⟩),aJ #[St rk.head.rel,aH fa (aB rk.head.args) fc,aH ga (aB rk.body) gc],.map (aV B),aJ #[St rk.head.rel,aH fa (aB rk.head.args) fc,aH ga (aB rk.body) gc],aJ #[St g.rel,St g.x,St g.y],.func (.func 229) #[] #[Pt (C+1+1),Pt (C+1+2),Pt (C+1)],aJ #[St x.1.a0,St x.1.a1,St x.1.a2,St x.1.a3,St x.1.a4,St x.1.a5],undef,undef,undef,undef,undef,undef,undef,undef,undef,undef,undef,undef,undef,undef,b4],defers:=[]})
   ?hAx2 ?assign2 ?body2 ?done2 ?stop2
  case hI2=>rintro ab X X' row ⟨aa,j1,j0,j2,j3,j4⟩ G Z;exact⟨aa,HJ.o _ _ _ row j1 G (λr e=>⟨by have:=(Z r e).1;omega,(Z r e).2⟩),j0,j2.own G (λr e=>by have:=(Z r e).1;omega),j3.grown G (λr e=>(Z r e).1) a7,j4.own G (λr e=>(Z r e).1)⟩
  case hIx2=>rintro c ab X X' row ⟨rfl,⟨zs,j1⟩,j3⟩ G Z;exact⟨rfl,⟨zs,HJx.o _ _ _ row j1 G (λr e=>⟨by have:=(Z r e).1;omega,(Z r e).2⟩)⟩,j3.grown G (λr e=>(Z r e).1) a7⟩
  case hAx2=>rintro x2 a' _ X X' row ⟨Bx,q2,q3⟩ G Z;exact⟨Bx,qm G (λr e=>(Z r e).2) _ _ _ _ q2,q3⟩
  case assign2=>
   rintro l2 ab x2 X K dg c5 ⟨aa,j1,j0,j2,j3,j4⟩ hK;have HK:=aA hK;clear hK;unfold dF.v dF.c
   gi_wp2
   have aq:bZ X.heap.size X (X.alloc (aN #[St x2.1.a0,St x2.1.a1,St x2.1.a2,St x2.1.a3,St x2.1.a4,St x2.1.a5] 176)):=(bF _ X).alloc zl _;exact HK.o _ _ (KeepsFrom.ofBelow aq) (qr.ofBelow aq) ⟨aa,HJ.o _ _ _ aW j1 (qg aq) (λr e=>by cases e),j0,j2.tr (qr.ofBelow aq),j3.below aq,j4.tr (qr.ofBelow aq)⟩ ⟨X.heap.size,zn X _,rfl⟩
  case done2=>
   rintro D xs X hD ⟨s1,s2⟩ ⟨aa,j1,j0,j2,j3,j4⟩ hK
   have dl:Hid ((∀h,h∈(E++aa).map (·.1)↔pM R M g (k+1) h)/\aB (E++aa)<=(k+1)*jp nn):=by
    refine⟨λh=>?_,?_⟩
    .rw[bI,bX,Q9.o.1,db.o,j0,List.mem_filter,bG];constructor
     .rintro (h1|⟨⟨p,hp,rfl⟩,h2⟩);{exact aQ h1};{exact aR ⟨p.1,(s1 p.1).1 (bG.2 ⟨p,hp,rfl⟩),rfl,by simpa using h2⟩}
     .rintro (h1|⟨p,h1,rfl,h2⟩);{exact aQ h1};{obtain⟨q,hq,rfl⟩:=bG.1 ((s1 p).2 h1);exact aR ⟨⟨q,hq,rfl⟩,by simpa using h2⟩}
    .have e1:=congrArg aB j0;rw[bC] at e1;have e2:=bJ (λh=>(M h).isNone) (xs.map (λp=>qb p.1 rk.head));rw[bC] at e2;have e3:=Q9.o.2;rw[bD,bQ,bT];omega
   have bh:D∉ds:=λh=>by{have:=a7 D h;omega};have az:Hid _:=j3.cons (D:=D) (by omega) hK bh;clear Q9 s1 s2 j0
   gi_wp2
   refine⟨⟨k+1,D::ds,E++aa,_,_,_,_,_,_,_,_,_,rfl,by omega,j1,az.o,j2,dl.o⟩,?_⟩;simp[intOf];omega
  case stop2=>
   rintro D c pre X hD _ ⟨rfl,hz,j3⟩ hK;have bh:D∉ds:=λh=>by{have:=a7 D h;omega};have az:Hid _:=j3.cons (D:=D) (by omega) hK bh;have HZ:=aA hz;clear Q9 hz
   gi_wp2
   show LeavesInM Fence.wide n Tryz.prog _ _ _ (jr (D::ds)) .returning X;refine rH (X:=λV=>∃zs,Jx zs V) (B:=N) (λ_ A B row hs G Z=>by have⟨zs,hz⟩:=hs;exact⟨zs,HJx.o zs A B row hz G Z⟩) (D::ds) X az.o.nodup (λD' c4=>⟨by have:=(az.o.at' D' c4).1;omega,(az.o.at' D' c4).2⟩) HZ.o (λW' hx=>?_);have⟨zs,hz⟩:=hx;exact⟨_,results_none rfl _ _ _,⟨_,rfl⟩,aR ⟨zs,trivial,hz⟩⟩
  case body2=>
   rintro l2 ab x a' X dg ⟨dy,c6⟩ ⟨aa,j1,j0,j2,j3,j4⟩ ⟨Bx,da,rfl⟩ d1;have bd:=j4.cells _ _ _ (by unfold eF;decide) eR;have bv:=(av.o.mk' j2).bm;have Qee:=(av.o.mk' j2).md;have bi:=j2.cells _ _ _ (by unfold eF;decide) dc.o;have bq:Qh X ac (aH fa (aB rk.head.args) fc) rk.head.args:=Qh.mk Qjz j4;have d7:aC X (Ad C 0)=aV (St rk.head.rel):=zc bd;have d2:aC X (Ad C 1)=aV (aH fa (aB rk.head.args) fc):=zc bd;have ae:=da;unfold dF.c at ae;have q0:aC X (Ad Bx 0)=aV (St x.1.a0):=zc ae;have q1:aC X (Ad Bx 1)=aV (St x.1.a1):=zc ae;have q2:aC X (Ad Bx 2)=aV (St x.1.a2):=zc ae;have q3:aC X (Ad Bx 3)=aV (St x.1.a3):=zc ae;have q4:aC X (Ad Bx 4)=aV (St x.1.a4):=zc ae;have q5:aC X (Ad Bx 5)=aV (St x.1.a5):=zc ae;have ak:jl (qb x.1 rk.head):=F1 x.2 ao.o.rel ao.o.names;have c2:Hid (Cs 89 #[aJ #[St x.1.a0,St x.1.a1,St x.1.a2,St x.1.a3,St x.1.a4,St x.1.a5],aJ #[St rk.head.rel,aH fa (aB rk.head.args) fc]] X λe w'=>e=aO (aJ #[St (qb x.1 rk.head).rel,St (qb x.1 rk.head).x,St (qb x.1 rk.head).y])/\bZ X.heap.size X w'):=vF x.1 rk.head _ ac X bq ao.o.args ao.o.nums;have bj:Hid (∀(z:Wq) (O:Obj),bZ X.heap.size X z->bZ X.heap.size X (z.alloc O)):=λz O hb=>hb.alloc hb.size O;have cr:Hid (∀z O,bZ X.heap.size X z->aC (z.alloc O) (Ad Bm 0)=aV (.map (aV B))):=λz O hb=>cA (bj.o z O hb) (by simp[aC,bv]);have be:Hid (∀z O,bZ X.heap.size X z->Cs 136 #[.map (aV B),aJ #[St (qb x.1 rk.head).rel,St (qb x.1 rk.head).x,St (qb x.1 rk.head).y]] (z.alloc O) λe w'=>e=aO (aK (M (qb x.1 rk.head)).isSome)/\bZ (z.alloc O).heap.size (z.alloc O) w'):=λz O hb=>wt B nn M (qb x.1 rk.head) ak (z.alloc O) (Qee.mk (qr.ofBelow (m:=m) (bj.o z O hb)));have bu:aB (E++aa)<aB R*jp nn:=by have e1:=congrArg aB j0;rw[bC] at e1;have e2:=bJ (λh=>(M h).isNone) (ab.map (λp=>qb p.1 rk.head));rw[bC] at e2;have e3:=Q9.o.2;have e4:(k+1)*jp nn<=aB R*jp nn:=Nat.mul_le_mul_right _ (by omega);rw[bQ,bT] at e4;rw[bD];omega
   have b8:Hid (∀X3,bZ X.heap.size X X3->YieldAt Fence.wide (n-1) Tryz.prog l #[aJ #[St (qb x.1 rk.head).rel,St (qb x.1 rk.head).x,St (qb x.1 rk.head).y]] X3 λe W'=>∃b:Bool,e=aO (aK b)/\((b=true/\J ((E++aa)++[oA (qb x.1 rk.head) ak]) W'/\qr m X W')\/(b=false/\Jx ((E++aa)++[oA (qb x.1 rk.head) ak]) W'/\KeepsFrom m X W'))):=by
    intro X3 hb;have⟨fn,tmps,assign,body,hy,hR⟩:=HY.o (E++aa) (oA (qb x.1 rk.head) ak) X3 (HJ.o _ _ _ aW j1 (qg hb) (λr e=>by cases e)) bu;refine⟨fn,tmps,assign,body,hy,hR.mono ?_⟩;rintro e W' (⟨rfl,k1,k2⟩|⟨rfl,k1,k2⟩);{exact⟨true,rfl,aQ ⟨rfl,k1,(qr.ofBelow hb).tr k2⟩⟩};{exact⟨false,rfl,aR ⟨rfl,k1,KeepsFrom.tr (KeepsFrom.ofBelow hb) k2⟩⟩}
   have bb:Hid (((ab++[x]).map (λp=>qb p.1 rk.head)).filter (λh=>(M h).isNone)=aa.map (·.1)++(if (M (qb x.1 rk.head)).isNone=true then [qb x.1 rk.head] else [])):=by{show _=_;rw[bI,List.filter_append,j0];congr 1;show List.filter _ [qb x.1 rk.head]=_;rw[List.filter_cons,List.filter_nil]};have cn:Hid (∀X3,bZ X.heap.size X X3->aC X3 (Ad N 0)=aV (.func (.yield l) #[] #[])):=λX3 hb=>cA hb (by simp[aC,bi]);have cf:Hid (∀(z X3:Wq),bZ (z.alloc (aN #[St (qb x.1 rk.head).rel,St (qb x.1 rk.head).x,St (qb x.1 rk.head).y] 111)).heap.size (z.alloc (aN #[St (qb x.1 rk.head).rel,St (qb x.1 rk.head).x,St (qb x.1 rk.head).y] 111)) X3->aC X3 (Ad z.heap.size 0)=aV (St (qb x.1 rk.head).rel)/\aC X3 (Ad z.heap.size 1)=aV (St (qb x.1 rk.head).x)/\aC X3 (Ad z.heap.size 2)=aV (St (qb x.1 rk.head).y)):=by{intro z X3 hb;have hh:=(hb.block z.heap.size (by simp)).trans (zn z _);refine⟨?_,?_,?_⟩<;>simp[aC,hh]};have cp:Hid (∀(z:Wq) (O:Obj) (X3:Wq),bZ X.heap.size X z->bZ (z.alloc O).heap.size (z.alloc O) X3->bZ X.heap.size X X3):=λz O X3 h1 h2=>(bj.o z O h1).trans (h2.mono (by have:=h1.size;simp;omega))
   cases hMh:M (qb x.1 rk.head) with
   |some t=>
    have b7:Hid (((ab++[x]).map (λp=>qb p.1 rk.head)).filter (λh=>(M h).isNone)=aa.map (·.1)):=by{show _=_;rw[bb.o,hMh];simp};rw[hMh] at be;clear hMh bb b8 cn cf bu ae bd bv Qee bi bq j0 Q9;generalize hGr:(qb x.1 rk.head).rel=gr at *;generalize hGx:(qb x.1 rk.head).x=gx at *;generalize hGy:(qb x.1 rk.head).y=gy at *;clear hGr hGx hGy
    gi_wp2_with (first|(refine⟨trivial,?_⟩;gi_at_call 89;refine (cD l2 (cE.2 c2.o)).mono ?_;rintro e z ⟨rfl,al⟩;have km:=λO=>cr.o z O al)|(refine⟨trivial,?_⟩;gi_at_call 136;refine (cD l2 (cE.2 (be.o z _ al))).mono ?_;rintro e X3 ⟨rfl,af⟩))
    refine⟨λf h=>(by cases h),?_⟩
    gi_wp2
    have ad:=cp.o z _ X3 al af;exact⟨KeepsFrom.ofBelow ad,qr.ofBelow ad,aa,HJ.o _ _ _ aW j1 (qg ad) (λr e=>by cases e),b7.o.symm,j2.tr (qr.ofBelow ad),j3.below ad,j4.tr (qr.ofBelow ad)⟩
   |none=>
    have b7:Hid (((ab++[x]).map (λp=>qb p.1 rk.head)).filter (λh=>(M h).isNone)=(aa++[oA (qb x.1 rk.head) ak]).map (·.1)):=by{show _=_;rw[bb.o,hMh,bI];rfl};rw[hMh] at be;have Qlo:Hid (∀X3,bZ X.heap.size X X3->YieldAt Fence.wide (n-1) Tryz.prog l #[aJ #[St (qb x.1 rk.head).rel,St (qb x.1 rk.head).x,St (qb x.1 rk.head).y]] X3 λe W'=>∃b:Bool,e=aO (aK b)/\((b=true/\J (E++(aa++[oA (qb x.1 rk.head) ak])) W'/\qr m X W')\/(b=false/\Jx (E++(aa++[oA (qb x.1 rk.head) ak])) W'/\KeepsFrom m X W'))):=by{have:=b8.o;rw[List.append_assoc] at this;exact this};generalize aa++[oA (qb x.1 rk.head) ak]=hs3 at *;clear hMh bb b8 bu ae bd bv Qee bi bq j0 Q9;generalize hGr:(qb x.1 rk.head).rel=gr at *;generalize hGx:(qb x.1 rk.head).x=gx at *;generalize hGy:(qb x.1 rk.head).y=gy at *;clear hGr hGx hGy
    gi_wp2_with (first|(refine⟨trivial,?_⟩;gi_at_call 89;refine (cD l2 (cE.2 c2.o)).mono ?_;rintro e z ⟨rfl,al⟩;have km:=λO=>cr.o z O al)|(refine⟨trivial,?_⟩;gi_at_call 136;refine (cD l2 (cE.2 (be.o z _ al))).mono ?_;rintro e X3 ⟨rfl,af⟩;have ad:=cp.o z _ X3 al af;have dx:=cn.o X3 ad;have⟨g0,g1,g2⟩:=cf.o z X3 af;have⟨fn,tmps,assign,body,hy,hR⟩:=Qlo.o X3 ad))
    refine (qK hR).mono ?_;rintro e X' ⟨b,rfl,⟨rfl,df,ag⟩|⟨rfl,b5,ag⟩⟩
    .clear hy hR
     gi_wp2
     exact⟨KeepsFrom.up ag.from' (by omega),ag.up (by omega),hs3,df,b7.o.symm,j2.tr ag,j3.keeps ag.from' (by omega),j4.tr (ag.up (by omega))⟩
    .clear hy hR
     gi_wp2
     exact⟨KeepsFrom.up ag (by omega),rfl,⟨_,b5⟩,j3.keeps ag (by omega)⟩
 .have dq:k=aB R:=by{omega};subst dq;have Qf:Hid ((∀h,h∈E.map (·.1)↔sQ R M g h)/\aB E<=aB R*jp nn):=⟨λh=>(Q9.o.1 h).trans (G7 R M g h),Q9.o.2⟩;clear Q9 au
  gi_wp2
  show LeavesInM Fence.wide n Tryz.prog _ _ _ (jr ds) .returning V;refine rH (X:=J E) (B:=N) (λ_ A B row hs G Z=>HJ.o E A B row hs G Z) ds V a8.nodup (λD hD=>⟨by have:=(a8.at' D hD).1;omega,(a8.at' D hD).2⟩) cd (λW' hx=>?_);exact⟨_,results_none rfl _ _ _,⟨_,rfl⟩,aQ ⟨E,Qf.o,hx⟩⟩
