/- The least model in plain data: what matching and joining -/
import Derived.Test.YtjajnhemgphefaaGreatDoorJMoI
set_option linter.unusedVariables false
set_option linter.unusedSimpArgs false
namespace Go.Proofs.YtjajnhemgphefaaGreatDoor
open Go renaming World->Wq,Value->Vq
open Go.RowKit Go.Shelf Go.Maps
variable {x:ByteArray} {a:Am} {t:Tm} {m:Nms} {ar:ByteArray->Nat} {M:Gd->Option Int} {r:Rl} {F q F':List (Gd×Int)} {e:Int} {g h:Gd} {α:Type} {rels NS:List ByteArray}
def eB:ByteArray:=⟨#[]⟩
theorem Q8(x:ByteArray):x.toList.isEmpty=true↔x=eB:=by
 rw[qdq,List.isEmpty_iff];constructor
 ·intro h;exact qik h
 ·rintro rfl;rfl
theorem q4g{y:ByteArray}(h:x.toList=y.toList):x=y:=by
 rw[qdq,qdq] at h;exact qik h
def Ext(n m:Nms):Prop:=∀k,n.get k≠eB->m.get k=n.get k
theorem Ext.refl(n:Nms):Ext n n:=λ_ _=>rfl
theorem Ext.trans{a b c:Nms}(h:Ext a b)(k:Ext b c):Ext a c:=λi hi=>by
 have h1:=h i hi;rw[k i (by rw[h1];exact hi),h1]
theorem q2t(p:Nms):Ext Qg p:=λk hk=>absurd (by unfold Qg Nms.get;split <;> rfl) hk
theorem qgc(h:t.name=eB)(n:Nms):ofT n t=n.get t.num:=by
 unfold ofT;rw[if_pos ((Q8 _).2 h)]
theorem qcn(h:t.name≠eB)(n:Nms):ofT n t=t.name:=by
 unfold ofT;rw[if_neg (λh'=>h ((Q8 _).1 h'))]
theorem qlw{n:Nms}(h:Ext n m)(hne:ofT n t≠eB):ofT m t=ofT n t:=by
 by_cases ht:t.name=eB
 ·rw[qgc ht] at hne;rw[qgc ht,qgc ht,h _ hne]
 ·rw[qcn ht,qcn ht]
theorem q4w{n:Nms}(h6:t.num < 6):Ext n (qks n t x):=by
 intro k hk;unfold qks;split
 ·rename_i h;rw[Nms.get_set _ _ _ _ h6];split
  ·rename_i e;subst e;exact absurd ((Q8 _).1 h.2) hk
  ·rfl
 ·rfl
theorem qya{n:Nms}(h6:t.num < 6)(h:Qx n t x=some m):Ext n m/\ofT m t=x:=by
 unfold Qx at h;split at h
 ·rename_i hx;cases h;exact⟨q4w h6,q4g hx⟩
 ·cases h
theorem qq2{n p:Nms}(h6:t.num < 6)(hx:x≠eB)(he:Ext n p)(hp:ofT p t=x):∃m,Qx n t x=some m/\Ext m p:=by
 have hof:ofT (qks n t x) t=x:=by
  by_cases ht:t.name=eB
  ·rw[qgc ht] at hp;rw[qgc ht];unfold qks;by_cases hn:n.get t.num=eB
   ·rw[if_pos ⟨(Q8 _).2 ht,(Q8 _).2 hn⟩,Nms.get_set _ _ _ _ h6,if_pos rfl]
   ·rw[if_neg (λh=>hn ((Q8 _).1 h.2)),<- he _ hn,hp]
  ·rw[qcn ht];rwa [qcn ht] at hp
 refine⟨qks n t x,by unfold Qx;rw[if_pos (by rw[hof])],?_⟩;intro k hk;unfold qks at hk ⊢;split
 ·rename_i h;rw[if_pos h,Nms.get_set _ _ _ _ h6] at hk;rw[Nms.get_set _ _ _ _ h6];split
  ·rename_i e;subst e
   rwa [qgc ((Q8 _).1 h.1)] at hp
  ·rename_i e;rw[if_neg e] at hk;exact he _ hk
 ·rename_i h;rw[if_neg h] at hk;exact he _ hk
theorem qhu:∀(l:List (Tm×ByteArray)) (n m:Nms),(∀q∈l,q.1.num < 6/\q.2≠eB)->qaw n l=some m->Ext n m/\∀q∈l,ofT m q.1=q.2
 | [],n,m,_,h=>by
  simp only[qaw,Option.some.injEq] at h;subst h;exact⟨Ext.refl _,by simp⟩
 | q::l,n,m,hl,h=>by
  simp only[qaw] at h
  cases hq:Qx n q.1 q.2 with
  | none=>rw[hq] at h;cases h
  | some m'=>
   rw[hq] at h;obtain⟨h1,h2⟩:=qya (hl q (by simp)).1 hq;obtain⟨h3,h4⟩:=qhu l m' m (λr hr=>hl r (by simp[hr])) h;refine⟨h1.trans h3,λr hr=>?_⟩;rcases List.mem_cons.1 hr with rfl | hr
   ·rw[qlw h3 (by rw[h2];exact (hl r (by simp)).2),h2]
   ·exact h4 r hr
theorem qey:∀(l:List (Tm×ByteArray)) (n p:Nms),(∀q∈l,q.1.num < 6/\q.2≠eB)->Ext n p->(∀q∈l,ofT p q.1=q.2)->∃m,qaw n l=some m/\Ext m p
 | [],n,p,_,he,_=>⟨n,rfl,he⟩
 | q::l,n,p,hl,he,hp=>by
  obtain⟨m,h1,h2⟩:=qq2 (hl q (by simp)).1 (hl q (by simp)).2 he (hp q (by simp));obtain⟨m',h3,h4⟩:=qey l m p (λr hr=>hl r (by simp[hr])) h2 (λr hr=>hp r (by simp[hr]));exact⟨m',by simp only[qaw,h1];exact h3,h4⟩
def qdy(ar:ByteArray->Nat)(g:Gd):Prop:=g.x≠eB/\((ar g.rel=1/\g.y=eB)\/(ar g.rel=2/\g.y≠eB))
def qoi(ar:ByteArray->Nat)(a:Am):Prop:=a.args.length=ar a.rel/\∀t∈a.args,t.num < 6
theorem qk8(ha:qoi ar a){x y:ByteArray}(hg:qdy ar ⟨a.rel,x,y⟩):(∃t,a.args=[t]/\y=eB/\x≠eB)\/∃t u,a.args=[t,u]/\x≠eB/\y≠eB:=by
 obtain⟨hx,⟨h1,h2⟩ | ⟨h1,h2⟩⟩:=hg
 ·have hl:a.args.length=1:=ha.1.trans h1
  match ha':a.args,hl with
  | [t],_=>exact .inl ⟨t,rfl,h2,hx⟩
 ·have hl:a.args.length=2:=ha.1.trans h1
  match ha':a.args,hl with
  | [t,u],_=>exact .inr ⟨t,u,rfl,hx,h2⟩
theorem qlu(ha:qoi ar a){x y:ByteArray}(hg:qdy ar ⟨a.rel,x,y⟩){n m:Nms}(h:qaj n a x y=some m):Ext n m/\qb m a=⟨a.rel,x,y⟩:=by
 unfold qaj at h;rcases qk8 ha hg with⟨t,e1,e2,e3⟩ | ⟨t,u,e1,e2,e3⟩
 ·rw[e1] at h
  obtain⟨h1,h2⟩:=qhu _ _ _ (by
   intro q hq;simp at hq;subst hq
   exact⟨ha.2 t (by rw[e1];simp),e3⟩) h
  refine⟨h1,?_⟩;unfold qb xOf yOf;rw[e1];simp only;rw[h2 (t,x) (by simp),e2];rfl
 ·rw[e1] at h
  obtain⟨h1,h2⟩:=qhu _ _ _ (by
   intro q hq;simp at hq;rcases hq with rfl | rfl
   ·exact⟨ha.2 t (by rw[e1];simp),e2⟩
   ·exact⟨ha.2 u (by rw[e1];simp),e3⟩) h
  refine⟨h1,?_⟩;unfold qb xOf yOf;rw[e1];simp only;rw[h2 (t,x) (by simp),h2 (u,y) (by simp)]
theorem qh5(ha:qoi ar a){n p:Nms}(hg:qdy ar (qb p a))(he:Ext n p):∃m,qaj n a (qb p a).x (qb p a).y=some m/\Ext m p:=by
 unfold qaj;rcases qk8 ha (x:=(qb p a).x) (y:=(qb p a).y) hg with⟨t,e1,e2,e3⟩ | ⟨t,u,e1,e2,e3⟩
 ·refine qey _ _ _ (λq hq=>?_) he (λq hq=>?_)
  ·rw[e1] at hq;simp at hq;subst hq;exact⟨ha.2 t (by rw[e1];simp),e3⟩
  ·rw[e1] at hq;simp at hq;subst hq;simp[qb,e1,xOf]
 ·refine qey _ _ _ (λq hq=>?_) he (λq hq=>?_)
  ·rw[e1] at hq;simp at hq;rcases hq with rfl | rfl
   ·exact⟨ha.2 t (by rw[e1];simp),e2⟩
   ·exact⟨ha.2 u (by rw[e1];simp),e3⟩
  ·rw[e1] at hq;simp at hq;rcases hq with rfl | rfl
   ·simp[qb,e1,xOf]
   ·simp[qb,e1,yOf]
theorem qoz(ha:qoi ar a){n p:Nms}(hg:qdy ar (qb n a))(he:Ext n p):qb p a=qb n a:=by
 rcases qk8 ha (x:=(qb n a).x) (y:=(qb n a).y) hg with⟨t,e1,e2,e3⟩ | ⟨t,u,e1,e2,e3⟩
 ·unfold qb xOf at e3;rw[e1] at e3;simp only at e3;unfold qb xOf yOf;rw[e1];simp only;rw[qlw he e3]
 ·unfold qb xOf at e2;rw[e1] at e2;simp only at e2;unfold qb yOf at e3;rw[e1] at e3;simp only at e3;unfold qb xOf yOf;rw[e1];simp only;rw[qlw he e2,qlw he e3]
def qxx(ar:ByteArray->Nat)(M:Gd->Option Int):Prop:=∀g,(M g).isSome=true->qdy ar g/\qgw g
theorem qnh(hM:qxx ar M):∀(L:List Am) (n p:Nms),(∀a∈L,qoi ar a)->qh3 M L n p->Ext n p/\∀a∈L,(M (qb p a)).isSome=true
 | [],n,p,_,h=>by
  have h':p=n:=h;subst h';exact⟨Ext.refl _,by simp⟩
 | a::L,n,p,hL,h=>by
  obtain⟨x,y,q,_,_,h1,h2,h3⟩:=h;obtain⟨k1,k2⟩:=qlu (hL a (by simp)) (hM _ h1).1 h2;obtain⟨k3,k4⟩:=qnh hM L q p (λb hb=>hL b (by simp[hb])) h3;refine⟨k1.trans k3,λb hb=>?_⟩;rcases List.mem_cons.1 hb with rfl | hb
  ·rw[qoz (hL b (by simp)) (by rw[k2];exact (hM _ h1).1) k3,k2];exact h1
  ·exact k4 b hb
theorem qiy(hM:qxx ar M):∀(L:List Am) (n p:Nms),(∀a∈L,qoi ar a)->Ext n p->(∀a∈L,(M (qb p a)).isSome=true)->∃q,qh3 M L n q/\Ext q p
 | [],n,p,_,he,_=>⟨n,rfl,he⟩
 | a::L,n,p,hL,he,h=>by
  have h1:=h a (by simp);obtain⟨m,k1,k2⟩:=qh5 (hL a (by simp)) (hM _ h1).1 he;obtain⟨q,k3,k4⟩:=qiy hM L m p (λb hb=>hL b (by simp[hb])) k2 (λb hb=>h b (by simp[hb]));exact⟨q,⟨_,_,m,(hM _ h1).2.x,(hM _ h1).2.y,h1,k1,k3⟩,k4⟩
theorem qjk{L:List Am}{i:Nat}(h:i < L.length){a:Am}:a∈L↔a=L[i]\/a∈L.take i++L.drop (i+1):=by
 conv=>lhs;rw[<- List.take_append_drop i L,List.drop_eq_getElem_cons h]
 simp only[List.mem_append,List.mem_cons];constructor
 ·rintro (h | h | h)
  ·exact .inr (.inl h)
  ·exact .inl h
  ·exact .inr (.inr h)
 ·rintro (h | h | h)
  ·exact .inr (.inl h)
  ·exact .inl h
  ·exact .inr (.inr h)
theorem qnt(hM:qxx ar M){L:List Am}(hL:∀a∈L,qoi ar a){g:Gd}(hg:(M g).isSome=true){p:Nms}(h:qns M L g p):L≠[]/\∀a∈L,(M (qb p a)).isSome=true:=by
 obtain⟨i,hi,h1,put,h2,h3⟩:=h;have hgi:(⟨(L[i]).rel,g.x,g.y⟩:Gd)=g:=by rw[h1]
 obtain⟨k1,k2⟩:=qlu (hL _ (List.getElem_mem hi)) (by rw[hgi];exact (hM _ hg).1) h2;obtain⟨k3,k4⟩:=qnh hM _ _ _ (λb hb=>hL b ((qjk hi).2 (.inr hb))) h3;refine⟨λe=>by rw[e] at hi;simp at hi,λa ha=>?_⟩;rcases (qjk hi).1 ha with rfl | ha
 ·rw[qoz (hL _ (List.getElem_mem hi)) (by rw[k2,hgi];exact (hM _ hg).1) k3,k2,hgi];exact hg
 ·exact k4 a ha
theorem qqj(hM:qxx ar M){L:List Am}(hL:∀a∈L,qoi ar a){p:Nms}{a:Am}(ha:a∈L)(h:∀a∈L,(M (qb p a)).isSome=true):∃q,qns M L (qb p a) q/\Ext q p:=by
 obtain⟨i,hi,rfl⟩:=List.getElem_of_mem ha;obtain⟨m,k1,k2⟩:=qh5 (hL _ ha) (hM _ (h _ ha)).1 (q2t p);obtain⟨q,k3,k4⟩:=qiy hM (L.take i++L.drop (i+1)) m p (λb hb=>hL b ((qjk hi).2 (.inr hb))) k2 (λb hb=>h b ((qjk hi).2 (.inr hb)));exact⟨q,⟨i,hi,rfl,m,k1,k3⟩,k4⟩
structure qwh(ar:ByteArray->Nat)(r:Rl):Prop where
 head:qoi ar r.head
 body:∀a∈r.body,qoi ar a
 safe:∀t∈r.head.args,t.name=eB->∃a∈r.body,∃u∈a.args,u.name=eB/\u.num=t.num
theorem qw4(ha:qoi ar a){p:Nms}(hg:qdy ar (qb p a)){u:Tm}(hu:u∈a.args):ofT p u≠eB/\(ofT p u=(qb p a).x\/ofT p u=(qb p a).y):=by
 rcases qk8 ha (x:=(qb p a).x) (y:=(qb p a).y) hg with⟨t,e1,e2,e3⟩ | ⟨t,v,e1,e2,e3⟩
 ·rw[e1] at hu;simp at hu;subst hu;have:(qb p a).x=ofT p u:=by simp[qb,e1,xOf]
  exact⟨by rw[<- this];exact e3,.inl this.symm⟩
 ·rw[e1] at hu;simp at hu;rcases hu with rfl | rfl
  ·have:(qb p a).x=ofT p u:=by simp[qb,e1,xOf]
   exact⟨by rw[<- this];exact e2,.inl this.symm⟩
  ·have:(qb p a).y=ofT p u:=by simp[qb,e1,yOf]
   exact⟨by rw[<- this];exact e3,.inr this.symm⟩
theorem qis(hr:qwh ar r){p:Nms}(hb:∀a∈r.body,qdy ar (qb p a)){t:Tm}(ht:t∈r.head.args):ofT p t≠eB/\((t.name≠eB/\ofT p t=t.name)\/∃a∈r.body,ofT p t=(qb p a).x\/ofT p t=(qb p a).y):=by
 by_cases h:t.name=eB
 ·obtain⟨a,ha,u,hu,e1,e2⟩:=hr.safe t ht h;obtain⟨k1,k2⟩:=qw4 (hr.body a ha) (hb a ha) hu;have he:ofT p t=ofT p u:=by rw[qgc h,qgc e1,e2]
  rw[he];exact⟨k1,.inr ⟨a,ha,k2⟩⟩
 ·rw[qcn h];exact⟨h,.inl ⟨h,rfl⟩⟩
theorem qsx(har:∀r,ar r=1\/ar r=2\/ar r=0){r:Rl}(hr:qwh ar r)(h0:r.head.args≠[]){p:Nms}(hb:∀a∈r.body,qdy ar (qb p a)):qdy ar (qb p r.head):=by
 have hl:=hr.head.1
 match ha:r.head.args,hl with
 | [],_=>exact absurd ha h0
 | [t],hl=>
  refine⟨?_,.inl ⟨by show ar r.head.rel=1;rw[<- hl];rfl,by show yOf p r.head.args=eB;rw[ha];rfl⟩⟩;show xOf p r.head.args≠eB;rw[ha];exact (qis hr hb (t:=t) (by rw[ha];simp)).1
 | [t,u],hl=>
  refine⟨?_,.inr ⟨by show ar r.head.rel=2;rw[<- hl];rfl,?_⟩⟩
  ·show xOf p r.head.args≠eB;rw[ha];exact (qis hr hb (t:=t) (by rw[ha];simp)).1
  ·show yOf p r.head.args≠eB;rw[ha];exact (qis hr hb (t:=u) (by rw[ha];simp)).1
 | t::u::v::l,hl=>
  exfalso;simp at hl;rcases har r.head.rel with h | h | h <;> omega
theorem q0f(hr:qwh ar r){q p:Nms}(he:Ext q p)(hb:∀a∈r.body,qdy ar (qb q a)):qb p r.head=qb q r.head:=by
 have h:∀t∈r.head.args,ofT p t=ofT q t:=λt ht=>qlw he (qis hr hb ht).1;unfold qb
 have hx:xOf p r.head.args=xOf q r.head.args:=by
  unfold xOf;split
  ·rfl
  ·rename_i t l e;exact h t (by rw[e];simp)
 have hy:yOf p r.head.args=yOf q r.head.args:=by
  unfold yOf;split
  ·rename_i t u l e;exact h u (by rw[e];simp)
  ·rfl
 rw[hx,hy]
def Der(R:List Rl)(F:List (Gd×Int))(e:Int)(g:Gd):Prop:=
 ∀S:Gd->Prop,(∀x∈F,e < x.2->S x.1)->(∀r∈R,r.body≠[]->∀p:Nms,(∀a∈r.body,S (qb p a))->S (qb p r.head))->S g
theorem Der.fact{R:List Rl}{x:Gd×Int}(hx:x∈F)(he:e < x.2):Der R F e x.1:=λS h1 _=>h1 x hx he
theorem Der.rule{R:List Rl}(hr:r∈R)(h0:r.body≠[]){p:Nms}(h:∀a∈r.body,Der R F e (qb p a)):Der R F e (qb p r.head):=λS h1 h2=>h2 r hr h0 p (λa ha=>h a ha S h1 h2)
structure qh1(ar:ByteArray->Nat)(R:List Rl)(F:List (Gd×Int))(U:List Gd)(M:Gd->Option Int)(q:List (Gd×Int)):Prop where
 sorted:q.Pairwise (λa b=>a.2<=b.2)
 top:∀x∈q,∀g t,M g=some t->x.2<=t
 okM:qxx ar M
 okQ:∀x∈q,qdy ar x.1/\qgw x.1
 soundM:∀g t,M g=some t->∀e,e < t->Der R F e g
 soundQ:∀x∈q,∀e,e < x.2->Der R F e x.1
 facts:∀x∈F,x∈q\/∃t,M x.1=some t/\x.2<=t
 closed:∀r∈R,r.body≠[]->∀(p:Nms) (e:Int),(∀a∈r.body,∃t,M (qb p a)=some t/\e < t)->(∃t,M (qb p r.head)=some t/\e < t)\/∃x∈q,x.1=qb p r.head/\e < x.2
 keys:∃ks:List Gd,ks.Nodup/\(∀g,(M g).isSome=true↔g∈ks)/\∀g∈ks,g∈U
 inU:∀x∈q,x.1∈U
theorem qh1.first{R:List Rl}{U:List Gd}(hs:q.Pairwise (λa b=>a.2<=b.2))(hq:∀x,x∈q↔x∈F)(hok:∀x∈F,qdy ar x.1/\qgw x.1)(hU:∀x∈F,x.1∈U):qh1 ar R F U (λ_=>none) q:=
 ⟨hs,λ_ _ _ _ h=>(by cases h),λ_ h=>(by cases h),λx hx=>hok x ((hq x).1 hx),λ_ _ h=>(by cases h),λx hx e he=>Der.fact ((hq x).1 hx) he,λx hx=>.inl ((hq x).2 hx),λr _ h0 p e h=>(by
  obtain⟨a,ha⟩:=List.exists_mem_of_ne_nil _ h0;obtain⟨t,ht,_⟩:=h a ha
  cases ht),⟨[],List.nodup_nil,λg=>by simp,by simp⟩,λx hx=>hU x ((hq x).1 hx)⟩
theorem qh1.skip{R:List Rl}{U:List Gd}{x:Gd×Int}(h:qh1 ar R F U M (q++[x]))(hx:(M x.1).isSome=true):qh1 ar R F U M q:=by
 obtain⟨t,ht⟩:=Option.isSome_iff_exists.1 hx;have hle:=h.top x (by simp) _ _ ht;refine⟨(List.pairwise_append.1 h.sorted).1,λy hy=>h.top y (by simp[hy]),h.okM,λy hy=>h.okQ y (by simp[hy]),h.soundM,λy hy=>h.soundQ y (by simp[hy]),λy hy=>?_,λr hr h0 p e hb=>?_,h.keys,λy hy=>h.inU y (by simp[hy])⟩
 ·rcases h.facts y hy with h1 | h1
  ·rcases List.mem_append.1 h1 with h1 | h1
   ·exact .inl h1
   ·simp at h1;subst h1;exact .inr ⟨t,ht,hle⟩
  ·exact .inr h1
 ·rcases h.closed r hr h0 p e hb with h1 | ⟨y,hy,h1,h2⟩
  ·exact .inl h1
  ·rcases List.mem_append.1 hy with hy | hy
   ·exact .inr ⟨y,hy,h1,h2⟩
   ·simp at hy;subst hy;rw[<- h1];exact .inl ⟨t,ht,by omega⟩
theorem q7t(h1:h.rel=g.rel/\h.x=g.x/\h.y=g.y):h=g:=by
 cases g;cases h;simp at h1 ⊢;exact h1
theorem qfd(M:Gd->Option Int)(g:Gd)(e:Int):qdi M g e g=some e:=by unfold qdi;rw[if_pos ⟨rfl,rfl,rfl⟩]
theorem ql7(hne:h≠g):qdi M g e h=M h:=by unfold qdi;rw[if_neg (λh'=>hne (q7t h'))]
theorem qk0{t:Int}(hu:qdi M g e h=some t):(h=g/\t=e)\/M h=some t:=by
 unfold qdi at hu;split at hu
 ·rename_i h';cases hu;exact .inl ⟨q7t h',rfl⟩
 ·exact .inr hu
def qn7(R:List Rl)(M:Gd->Option Int)(g:Gd)(h:Gd):Prop:=∃r∈R,∃p,qns M r.body g p/\h=qb p r.head/\M h=none
theorem qh1.add(har:∀r,ar r=1\/ar r=2\/ar r=0){R:List Rl}(hR:∀r∈R,qwh ar r/\r.head.args≠[]){F q:List (Gd×Int)}{U:List Gd}(hU:∀r∈R,r.body≠[]->∀p:Nms,(∀a∈r.body,qb p a∈U/\qdy ar (qb p a))->qb p r.head∈U)(hUk:∀g∈U,qgw g){M:Gd->Option Int}{x:Gd×Int}(h:qh1 ar R F U M (q++[x]))(hx:M x.1=none){hs:List Gd}(hhs:∀g,g∈hs↔qn7 R (qdi M x.1 x.2) x.1 g):qh1 ar R F U (qdi M x.1 x.2) (q++hs.map (λg=>(g,x.2))):=by
 have Qcp:∀y∈q,y.2<=x.2:=λy hy=>(List.pairwise_append.1 h.sorted).2.2 y hy x (by simp);have Qfs:=h.okQ x (by simp)
 have q6n:∀g t,qdi M x.1 x.2 g=some t->x.2<=t:=by
  intro g t hu;rcases qk0 hu with⟨_,rfl⟩ | hu
  ·exact Int.le_refl _
  ·exact h.top x (by simp) _ _ hu
 have qqv:qxx ar (qdi M x.1 x.2):=by
  intro g hg;obtain⟨t,ht⟩:=Option.isSome_iff_exists.1 hg;rcases qk0 ht with⟨rfl,_⟩ | hu
  ·exact Qfs
  ·exact h.okM g (by rw[hu];rfl)
 have q70:∃ks:List Gd,ks.Nodup/\(∀g,(qdi M x.1 x.2 g).isSome=true↔g∈ks)/\∀g∈ks,g∈U:=by
  obtain⟨ks,k1,k2,k3⟩:=h.keys;refine⟨x.1::ks,List.nodup_cons.2 ⟨λhm=>(by have:=(k2 _).2 hm;rw[hx] at this;cases this),k1⟩,λg=>?_,λg hg=>?_⟩
  ·by_cases e:g=x.1
   ·subst e;rw[qfd];simp
   ·rw[ql7 e,k2];simp[e]
  ·rcases List.mem_cons.1 hg with rfl | hg
   ·exact h.inU x (by simp)
   ·exact k3 g hg
 have Qfh:∀g,(qdi M x.1 x.2 g).isSome=true->g∈U:=λg hg=>by
  obtain⟨ks,k1,k2,k3⟩:=q70;exact k3 g ((k2 g).1 hg)
 have qy1:∀g t,qdi M x.1 x.2 g=some t->∀e,e < t->Der R F e g:=by
  intro g t hu e he;rcases qk0 hu with⟨rfl,rfl⟩ | hu
  ·exact h.soundQ x (by simp) e he
  ·exact h.soundM g t hu e he
 have hgx:(qdi M x.1 x.2 x.1).isSome=true:=by rw[qfd];rfl
 have qsy:∀g∈hs,qdy ar g/\g∈U/\∀e,e < x.2->Der R F e g:=by
  intro g hg;obtain⟨r,hr,p,h1,rfl,h2⟩:=(hhs g).1 hg;obtain⟨u1,u2⟩:=qnt qqv (hR r hr).1.body hgx h1;refine⟨qsx har (hR r hr).1 (hR r hr).2 (λa ha=>(qqv _ (u2 a ha)).1),hU r hr u1 p (λa ha=>⟨Qfh _ (u2 a ha),(qqv _ (u2 a ha)).1⟩),λe he=>Der.rule hr u1 (λa ha=>?_)⟩;obtain⟨t,ht⟩:=Option.isSome_iff_exists.1 (u2 a ha);exact qy1 _ _ ht e (Int.lt_of_lt_of_le he (q6n _ _ ht))
 have qde:∀y,y∈q++hs.map (λg=>(g,x.2))->y∈q\/(y.1∈hs/\y.2=x.2):=by
  intro y hy;rcases List.mem_append.1 hy with hy | hy
  ·exact .inl hy
  ·obtain⟨g,hg,rfl⟩:=List.mem_map.1 hy;exact .inr ⟨hg,rfl⟩
 refine⟨?_,?_,qqv,?_,qy1,?_,?_,?_,q70,?_⟩
 ·refine List.pairwise_append.2 ⟨(List.pairwise_append.1 h.sorted).1,?_,λa ha b hb=>?_⟩
  ·rw[List.pairwise_map];exact List.pairwise_of_forall (λ_ _=>Int.le_refl _)
  ·obtain⟨g,hg,rfl⟩:=List.mem_map.1 hb;exact Qcp a ha
 ·intro y hy g t hu;rcases qde y hy with hy | ⟨_,he⟩
  ·exact Int.le_trans (Qcp y hy) (q6n g t hu)
  ·rw[he];exact q6n g t hu
 ·intro y hy;rcases qde y hy with hy | ⟨hy,_⟩
  ·exact h.okQ y (by simp[hy])
  ·exact⟨(qsy _ hy).1,hUk _ (qsy _ hy).2.1⟩
 ·intro y hy e he;rcases qde y hy with hy | ⟨hy,h2⟩
  ·exact h.soundQ y (by simp[hy]) e he
  ·rw[h2] at he;exact (qsy _ hy).2.2 e he
 ·intro y hy;rcases h.facts y hy with h1 | ⟨t,h1,h2⟩
  ·rcases List.mem_append.1 h1 with h1 | h1
   ·exact .inl (List.mem_append_left _ h1)
   ·simp at h1;subst h1;exact .inr ⟨_,qfd _ _ _,Int.le_refl _⟩
  ·by_cases e:y.1=x.1
   ·rw[e,hx] at h1;cases h1
   ·exact .inr ⟨t,by rw[ql7 e];exact h1,h2⟩
 ·intro r hr h0 p e hb;by_cases hin:∃a∈r.body,qb p a=x.1
  ·obtain⟨a,ha,hax⟩:=hin
   have qny:∀a∈r.body,(qdi M x.1 x.2 (qb p a)).isSome=true:=λa ha=>by
    obtain⟨t,ht,_⟩:=hb a ha;rw[ht];rfl
   have hex:e < x.2:=by
    obtain⟨t,ht,hlt⟩:=hb a ha;rw[hax,qfd] at ht;cases ht;exact hlt
   obtain⟨pq,hu,Qe7⟩:=qqj qqv (hR r hr).1.body ha qny;rw[hax] at hu;obtain⟨_,u2⟩:=qnt qqv (hR r hr).1.body hgx hu;have qj7:=q0f (hR r hr).1 Qe7 (λa ha=>(qqv _ (u2 a ha)).1)
   cases hM:qdi M x.1 x.2 (qb p r.head) with
   | some t=>exact .inl ⟨t,rfl,Int.lt_of_lt_of_le hex (q6n _ _ hM)⟩
   | none=>
    refine .inr ⟨(qb p r.head,x.2),List.mem_append_right _ (List.mem_map.2 ⟨_,(hhs _).2 ⟨r,hr,pq,hu,qj7,hM⟩,rfl⟩),rfl,hex⟩
  ·have hb':∀a∈r.body,∃t,M (qb p a)=some t/\e < t:=λa ha=>by
    obtain⟨t,ht,hlt⟩:=hb a ha;rw[ql7 (λe=>hin ⟨a,ha,e⟩)] at ht;exact⟨t,ht,hlt⟩
   rcases h.closed r hr h0 p e hb' with⟨t,h1,h2⟩ | ⟨y,hy,h1,h2⟩
   ·by_cases e':qb p r.head=x.1
    ·rw[e',hx] at h1;cases h1
    ·exact .inl ⟨t,by rw[ql7 e'];exact h1,h2⟩
   ·rcases List.mem_append.1 hy with hy | hy
    ·exact .inr ⟨y,List.mem_append_left _ hy,h1,h2⟩
    ·simp at hy;subst hy;exact .inl ⟨_,by rw[<- h1];exact qfd _ _ _,h2⟩
 ·intro y hy;rcases qde y hy with hy | ⟨hy,_⟩
  ·exact h.inU y (by simp[hy])
  ·exact (qsy _ hy).2.1
structure qbf(R:List Rl)(F:List (Gd×Int))(M:Gd->Option Int):Prop where
 sound:∀g t,M g=some t->∀e,e < t->Der R F e g
 complete:∀e g,Der R F e g->∃t,M g=some t/\e < t
theorem qh1.done{R:List Rl}{U:List Gd}(h:qh1 ar R F U M []):qbf R F M:=by
 refine⟨h.soundM,λe g hd=>?_⟩;refine hd (λg=>∃t,M g=some t/\e < t) (λx hx he=>?_) (λr hr h0 p hb=>?_)
 ·rcases h.facts x hx with h1 | ⟨t,h1,h2⟩
  ·cases h1
  ·exact⟨t,h1,by omega⟩
 ·rcases h.closed r hr h0 p e hb with h1 | ⟨y,hy,_⟩
  ·exact h1
  ·cases hy
theorem qbf.eq{R:List Rl}{M':Gd->Option Int}(h:qbf R F M)(h':qbf R F' M')(hD:∀e g,Der R F e g↔Der R F' e g):M=M':=by
 funext g
 have key:∀{F F':List (Gd×Int)} {M M':Gd->Option Int},qbf R F M->qbf R F' M'->(∀e g,Der R F e g↔Der R F' e g)->∀t,M g=some t->∃t',M' g=some t'/\t<=t':=by
  intro F F' M M' h h' hD t ht;obtain⟨t',h1,h2⟩:=h'.complete (t - 1) g ((hD _ _).1 (h.sound g t ht (t - 1) (by omega)));exact⟨t',h1,by omega⟩
 cases hm:M g with
 | none=>
  cases hm':M' g with
  | none=>rfl
  | some t'=>
   obtain⟨t,h1,_⟩:=key h' h (λe g=>(hD e g).symm) t' hm';rw[hm] at h1;cases h1
 | some t=>
  obtain⟨t',h1,h2⟩:=key h h' hD t hm;obtain⟨t'',h3,h4⟩:=key h' h (λe g=>(hD e g).symm) t' h1;rw[hm] at h3;cases h3;rw[h1];congr 1;omega
theorem qpp:∀(ks U:List α),ks.Nodup->(∀g∈ks,g∈U)->ks.length<=U.length
 | [],U,_,_=>Nat.zero_le _
 | k::ks,U,h,hs=>by
  obtain⟨A,B,rfl⟩:=List.append_of_mem (hs k (by simp))
  have:=qpp ks (A++B) (List.nodup_cons.1 h).2 (λg hg=>by
   have h1:=hs g (by simp[hg]);have hne:g≠k:=λe=>(List.nodup_cons.1 h).1 (e ▸ hg);simp only[List.mem_append,List.mem_cons] at h1 ⊢;rcases h1 with h1 | h1 | h1
   ·exact .inl h1
   ·exact absurd h1 hne
   ·exact .inr h1)
  simp at this ⊢;omega
def uni(rels NS:List ByteArray):List Gd:=rels.flatMap λr=>NS.flatMap λx=>(eB::NS).map λy=>⟨r,x,y⟩
theorem qe7:g∈uni rels NS↔g.rel∈rels/\g.x∈NS/\(g.y=eB\/g.y∈NS):=by
 unfold uni;simp only[List.mem_flatMap,List.mem_map,List.mem_cons];constructor
 ·rintro⟨r,hr,x,hx,y,hy,rfl⟩;exact⟨hr,hx,hy⟩
 ·rintro⟨h1,h2,h3⟩;exact⟨_,h1,_,h2,_,h3,rfl⟩
theorem qml{β:Type}(f:α->List β)(k:Nat):∀l:List α,(∀a∈l,(f a).length=k)->(l.flatMap f).length=l.length*k
 | [],_=>by simp
 | a::l,h=>by
  rw[List.flatMap_cons,List.length_append,h a (by simp),qml f k l (λb hb=>h b (by simp[hb])),List.length_cons,Nat.add_mul,Nat.one_mul,Nat.add_comm]
theorem q7j(rels NS:List ByteArray):(uni rels NS).length=rels.length*(NS.length*(NS.length+1)):=by
 unfold uni;refine qml _ _ _ (λr _=>qml _ _ _ (λx _=>by simp))
theorem qqg{R:List Rl}(hR:∀r∈R,qwh ar r/\r.head.args≠[])(hrel:∀r∈R,r.head.rel∈rels)(hnm:∀r∈R,∀t∈r.head.args,t.name≠eB->t.name∈NS) :
  ∀r∈R,r.body≠[]->∀p:Nms,(∀a∈r.body,qb p a∈uni rels NS/\qdy ar (qb p a))->qb p r.head∈uni rels NS:=by
 intro r hr _ p hb
 have Qbt:∀t∈r.head.args,ofT p t∈NS:=by
  intro t ht;obtain⟨h1,⟨h2,h3⟩ | ⟨a,ha,h2⟩⟩:=qis (hR r hr).1 (λa ha=>(hb a ha).2) ht
  ·rw[h3];exact hnm r hr t ht h2
  ·obtain⟨k1,k2,k3⟩:=qe7.1 (hb a ha).1;rcases h2 with h2 | h2
   ·rw[h2];exact k2
   ·rcases k3 with k3 | k3
    ·rw[h2,k3] at h1;exact absurd rfl h1
    ·rw[h2];exact k3
 rw[qe7];refine⟨hrel r hr,?_,?_⟩
 ·show xOf p r.head.args∈NS;have h0:=(hR r hr).2
  revert Qbt h0
  cases r.head.args with
  | nil=>intro _ h;exact absurd rfl h
  | cons t l=>intro h _;exact h t (by simp)
 ·show yOf p r.head.args=eB\/yOf p r.head.args∈NS
  revert Qbt
  cases r.head.args with
  | nil=>intro _;exact .inl rfl
  | cons t l=>
   intro h
   cases l with
   | nil=>exact .inl rfl
   | cons u l=>exact .inr (h u (by simp))
theorem Qar(h1:∀r∈rels,r.size<=maxLen)(h2:∀x∈NS,x.size<=maxLen):∀g∈uni rels NS,qgw g:=by
 intro g hg;obtain⟨k1,k2,k3⟩:=qe7.1 hg;refine⟨h1 _ k1,h2 _ k2,?_⟩;rcases k3 with k3 | k3
 ·rw[k3];exact Nat.zero_le _
 ·exact h2 _ k3
theorem Der.later{R:List Rl}(h:∀x,e < x.2->(x∈F↔x∈F'))(g:Gd):Der R F e g↔Der R F' e g:=
 ⟨λhd S h1 h2=>hd S (λx hx he=>h1 x ((h x he).1 hx) he) h2,λhd S h1 h2=>hd S (λx hx he=>h1 x ((h x he).2 hx) he) h2⟩
theorem qbf.end_mem{R:List Rl}(h:qbf R F M){g:Gd}{t:Int}(hg:M g=some t):∃x∈F,x.2=t:=by
 refine Classical.byContradiction λhn=>?_
 have hd:Der R F t g:=(Der.later (R:=R) (F:=F) (F':=F) (e:=t) (λx _=>Iff.rfl) g).1 (λS h1 h2=>h.sound g t hg (t - 1) (by omega) S (λx hx hl=>h1 x hx (by
  have:x.2≠t:=λe=>hn ⟨x,hx,e⟩
  omega)) h2)
 obtain⟨t',h1,h2⟩:=h.complete t g hd;rw[hg] at h1;cases h1;omega
