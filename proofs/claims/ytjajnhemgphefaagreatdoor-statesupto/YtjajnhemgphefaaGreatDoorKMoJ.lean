/- A part -/
import Derived.Test.YtjajnhemgphefaaGreatDoorKMoI
set_option linter.all false
set_option maxRecDepth 100000
set_option maxHeartbeats 16000000
namespace Go.Proofs.YtjajnhemgphefaaGreatDoor
open Go renaming World->Wq,Value->Vq
open Go.RowKit Go.Shelf Go.Maps
variable {x:By} {a:Am} {t:Tm} {m:Nms} {ar:By->Nat} {M:Gd->Option Int} {L:List Am} {r:Rl} {F q:List (Gd×Int)} {e:Int} {g h:Gd} {α:Type} {rels NS:List By}
def eB:By:=⟨#[]⟩
theorem Q9(x:By):x.toList.isEmpty=true↔x=eB:=by
 rw[qcy,List.isEmpty_iff];constructor
 .intro h;exact qiw h
 .rintro rfl;rfl
theorem q5i{y:By}(h:x.toList=y.toList):x=y:=by
 rw[qcy,qcy] at h;exact qiw h
def Ext(n m:Nms):Prop:=∀k,n.get k≠eB->m.get k=n.get k
theorem Ext.refl(n:Nms):Ext n n:=λ_ _=>rfl
theorem Ext.trans{a b c:Nms}(h:Ext a b)(k:Ext b c):Ext a c:=λi hi=>by
 have h1:=h i hi;rw[k i (by rw[h1];exact hi),h1]
theorem q3q(p:Nms):Ext Qm p:=λk hk=>absurd (by unfold Qm Nms.get;split <;> rfl) hk
theorem qgo(h:t.name=eB)(n:Nms):ofT n t=n.get t.num:=by
 unfold ofT;rw[if_pos ((Q9 _).2 h)]
theorem qcp(h:t.name≠eB)(n:Nms):ofT n t=t.name:=by
 unfold ofT;rw[if_neg (λh'=>h ((Q9 _).1 h'))]
theorem qma{n:Nms}(h:Ext n m)(av:ofT n t≠eB):ofT m t=ofT n t:=by
 by_cases ht:t.name=eB
 .rw[qgo ht] at av;rw[qgo ht,qgo ht,h _ av]
 .rw[qcp ht,qcp ht]
theorem q5y{n:Nms}(h6:t.num < 6):Ext n (qk7 n t x):=by
 intro k hk;unfold qk7;split
 .rename_i h;rw[Nms.get_set _ _ _ _ h6];split
  .rename_i e;subst e;exact absurd ((Q9 _).1 h.2) hk
  .rfl
 .rfl
theorem qyy{n:Nms}(h6:t.num < 6)(h:Qy n t x=some m):Ext n m/\ofT m t=x:=by
 unfold Qy at h;split at h
 .rename_i hx;cases h;exact⟨q5y h6,q5i hx⟩
 .cases h
theorem qrs{n p:Nms}(h6:t.num < 6)(hx:x≠eB)(he:Ext n p)(hp:ofT p t=x):∃m,Qy n t x=some m/\Ext m p:=by
 have dt:ofT (qk7 n t x) t=x:=by
  by_cases ht:t.name=eB
  .rw[qgo ht] at hp;rw[qgo ht];unfold qk7;by_cases hn:n.get t.num=eB
   .rw[if_pos ⟨(Q9 _).2 ht,(Q9 _).2 hn⟩,Nms.get_set _ _ _ _ h6,if_pos rfl]
   .rw[if_neg (λh=>hn ((Q9 _).1 h.2)),<- he _ hn,hp]
  .rw[qcp ht];rwa [qcp ht] at hp
 refine⟨qk7 n t x,by unfold Qy;rw[if_pos (by rw[dt])],?_⟩;intro k hk;unfold qk7 at hk ⊢;split
 .rename_i h;rw[if_pos h,Nms.get_set _ _ _ _ h6] at hk;rw[Nms.get_set _ _ _ _ h6];split
  .rename_i e;subst e
   rwa [qgo ((Q9 _).1 h.1)] at hp
  .rename_i e;rw[if_neg e] at hk;exact he _ hk
 .rename_i h;rw[if_neg h] at hk;exact he _ hk
theorem qh2:∀(l:List (Tm×By)) (n m:Nms),(∀q∈l,q.1.num < 6/\q.2≠eB)->qav n l=some m->Ext n m/\∀q∈l,ofT m q.1=q.2
 | [],n,m,_,h=>by
  simp only[qav,Option.some.injEq] at h;subst h;exact⟨Ext.refl _,by simp⟩
 | q::l,n,m,hl,h=>by
  simp only[qav] at h
  cases hq:Qy n q.1 q.2 with
  | none=>rw[hq] at h;cases h
  | some m'=>
   rw[hq] at h;obtain⟨h1,h2⟩:=qyy (hl q (by simp)).1 hq;obtain⟨h3,h4⟩:=qh2 l m' m (λr hr=>hl r (by simp[hr])) h;refine⟨h1.trans h3,λr hr=>?_⟩;rcases List.mem_cons.1 hr with rfl | hr
   .rw[qma h3 (by rw[h2];exact (hl r (by simp)).2),h2]
   .exact h4 r hr
theorem qe9:∀(l:List (Tm×By)) (n p:Nms),(∀q∈l,q.1.num < 6/\q.2≠eB)->Ext n p->(∀q∈l,ofT p q.1=q.2)->∃m,qav n l=some m/\Ext m p
 | [],n,p,_,he,_=>⟨n,rfl,he⟩
 | q::l,n,p,hl,he,hp=>by
  obtain⟨m,h1,h2⟩:=qrs (hl q (by simp)).1 (hl q (by simp)).2 he (hp q (by simp));obtain⟨m',h3,h4⟩:=qe9 l m p (λr hr=>hl r (by simp[hr])) h2 (λr hr=>hp r (by simp[hr]));exact⟨m',by simp only[qav,h1];exact h3,h4⟩
def qc6(ar:By->Nat)(g:Gd):Prop:=g.x≠eB/\((ar g.rel=1/\g.y=eB)\/(ar g.rel=2/\g.y≠eB))
def qln(ar:By->Nat)(a:Am):Prop:=a.args.length=ar a.rel/\∀t∈a.args,t.num < 6
theorem qiq(ha:qln ar a){x y:By}(hg:qc6 ar ⟨a.rel,x,y⟩):(∃t,a.args=[t]/\y=eB/\x≠eB)\/∃t u,a.args=[t,u]/\x≠eB/\y≠eB:=by
 obtain⟨hx,⟨h1,h2⟩ | ⟨h1,h2⟩⟩:=hg
 .have hl:a.args.length=1:=ha.1.trans h1
  match ha':a.args,hl with
  | [t],_=>exact .inl ⟨t,rfl,h2,hx⟩
 .have hl:a.args.length=2:=ha.1.trans h1
  match ha':a.args,hl with
  | [t,u],_=>exact .inr ⟨t,u,rfl,hx,h2⟩
theorem qfj(ha:qln ar a){x y:By}(hg:qc6 ar ⟨a.rel,x,y⟩){n m:Nms}(h:Q3 n a x y=some m):Ext n m/\qb m a=⟨a.rel,x,y⟩:=by
 unfold Q3 at h;rcases qiq ha hg with⟨t,e1,e2,e3⟩ | ⟨t,u,e1,e2,e3⟩
 .rw[e1] at h
  obtain⟨h1,h2⟩:=qh2 _ _ _ (by
   intro q hq;simp at hq;subst hq
   exact⟨ha.2 t (by rw[e1];simp),e3⟩) h
  refine⟨h1,?_⟩;unfold qb xOf yOf;rw[e1];simp only;rw[h2 (t,x) (by simp),e2];rfl
 .rw[e1] at h
  obtain⟨h1,h2⟩:=qh2 _ _ _ (by
   intro q hq;simp at hq;rcases hq with rfl | rfl
   .exact⟨ha.2 t (by rw[e1];simp),e2⟩
   .exact⟨ha.2 u (by rw[e1];simp),e3⟩) h
  refine⟨h1,?_⟩;unfold qb xOf yOf;rw[e1];simp only;rw[h2 (t,x) (by simp),h2 (u,y) (by simp)]
theorem qe8(ha:qln ar a){n p:Nms}(hg:qc6 ar (qb p a))(he:Ext n p):∃m,Q3 n a (qb p a).x (qb p a).y=some m/\Ext m p:=by
 unfold Q3;rcases qiq ha (x:=(qb p a).x) (y:=(qb p a).y) hg with⟨t,e1,e2,e3⟩ | ⟨t,u,e1,e2,e3⟩
 .refine qe9 _ _ _ (λq hq=>?_) he (λq hq=>?_)
  .rw[e1] at hq;simp at hq;subst hq;exact⟨ha.2 t (by rw[e1];simp),e3⟩
  .rw[e1] at hq;simp at hq;subst hq;simp[qb,e1,xOf]
 .refine qe9 _ _ _ (λq hq=>?_) he (λq hq=>?_)
  .rw[e1] at hq;simp at hq;rcases hq with rfl | rfl
   .exact⟨ha.2 t (by rw[e1];simp),e2⟩
   .exact⟨ha.2 u (by rw[e1];simp),e3⟩
  .rw[e1] at hq;simp at hq;rcases hq with rfl | rfl
   .simp[qb,e1,xOf]
   .simp[qb,e1,yOf]
theorem qpk(ha:qln ar a){n p:Nms}(hg:qc6 ar (qb n a))(he:Ext n p):qb p a=qb n a:=by
 rcases qiq ha (x:=(qb n a).x) (y:=(qb n a).y) hg with⟨t,e1,e2,e3⟩ | ⟨t,u,e1,e2,e3⟩
 .unfold qb xOf at e3;rw[e1] at e3;simp only at e3;unfold qb xOf yOf;rw[e1];simp only;rw[qma he e3]
 .unfold qb xOf at e2;rw[e1] at e2;simp only at e2;unfold qb yOf at e3;rw[e1] at e3;simp only at e3;unfold qb xOf yOf;rw[e1];simp only;rw[qma he e2,qma he e3]
def qyj(ar:By->Nat)(M:Gd->Option Int):Prop:=∀g,(M g).isSome=true->qc6 ar g/\qik g
theorem qn5(hM:qyj ar M):∀(L:List Am) (n p:Nms),(∀a∈L,qln ar a)->qid M L n p->Ext n p/\∀a∈L,(M (qb p a)).isSome=true
 | [],n,p,_,h=>by
  have h':p=n:=h;subst h';exact⟨Ext.refl _,by simp⟩
 | a::L,n,p,hL,h=>by
  obtain⟨x,y,q,_,_,h1,h2,h3⟩:=h;obtain⟨k1,k2⟩:=qfj (hL a (by simp)) (hM _ h1).1 h2;obtain⟨k3,k4⟩:=qn5 hM L q p (λb hb=>hL b (by simp[hb])) h3;refine⟨k1.trans k3,λb hb=>?_⟩;rcases List.mem_cons.1 hb with rfl | hb
  .rw[qpk (hL b (by simp)) (by rw[k2];exact (hM _ h1).1) k3,k2];exact h1
  .exact k4 b hb
theorem qja(hM:qyj ar M):∀(L:List Am) (n p:Nms),(∀a∈L,qln ar a)->Ext n p->(∀a∈L,(M (qb p a)).isSome=true)->∃q,qid M L n q/\Ext q p
 | [],n,p,_,he,_=>⟨n,rfl,he⟩
 | a::L,n,p,hL,he,h=>by
  have h1:=h a (by simp);obtain⟨m,k1,k2⟩:=qe8 (hL a (by simp)) (hM _ h1).1 he;obtain⟨q,k3,k4⟩:=qja hM L m p (λb hb=>hL b (by simp[hb])) k2 (λb hb=>h b (by simp[hb]));exact⟨q,⟨_,_,m,(hM _ h1).2.x,(hM _ h1).2.y,h1,k1,k3⟩,k4⟩
theorem qjz{i:Nat}(h:i < L.length){a:Am}:a∈L↔a=L[i]\/a∈L.take i++L.drop (i+1):=by
 conv=>lhs;rw[<- List.take_append_drop i L,List.drop_eq_getElem_cons h]
 simp only[List.mem_append,List.mem_cons];constructor
 .rintro (h | h | h)
  .exact .inr (.inl h)
  .exact .inl h
  .exact .inr (.inr h)
 .rintro (h | h | h)
  .exact .inr (.inl h)
  .exact .inl h
  .exact .inr (.inr h)
theorem qoi(hM:qyj ar M){L:List Am}(hL:∀a∈L,qln ar a){g:Gd}(hg:(M g).isSome=true){p:Nms}(h:qoh M L g p):L≠[]/\∀a∈L,(M (qb p a)).isSome=true:=by
 obtain⟨i,hi,h1,put,h2,h3⟩:=h;have bo:(⟨(L[i]).rel,g.x,g.y⟩:Gd)=g:=by rw[h1]
 obtain⟨k1,k2⟩:=qfj (hL _ (zm hi)) (by rw[bo];exact (hM _ hg).1) h2;obtain⟨k3,k4⟩:=qn5 hM _ _ _ (λb hb=>hL b ((qjz hi).2 (.inr hb))) h3;refine⟨λe=>by rw[e] at hi;simp at hi,λa ha=>?_⟩;rcases (qjz hi).1 ha with rfl | ha
 .rw[qpk (hL _ (zm hi)) (by rw[k2,bo];exact (hM _ hg).1) k3,k2,bo];exact hg
 .exact k4 a ha
theorem qq5(hM:qyj ar M){L:List Am}(hL:∀a∈L,qln ar a){p:Nms}{a:Am}(ha:a∈L)(h:∀a∈L,(M (qb p a)).isSome=true):∃q,qoh M L (qb p a) q/\Ext q p:=by
 obtain⟨i,hi,rfl⟩:=List.getElem_of_mem ha;obtain⟨m,k1,k2⟩:=qe8 (hL _ ha) (hM _ (h _ ha)).1 (q3q p);obtain⟨q,k3,k4⟩:=qja hM (L.take i++L.drop (i+1)) m p (λb hb=>hL b ((qjz hi).2 (.inr hb))) k2 (λb hb=>h b ((qjz hi).2 (.inr hb)));exact⟨q,⟨i,hi,rfl,m,k1,k3⟩,k4⟩
structure qw3(ar:By->Nat)(r:Rl):Prop where
 head:qln ar r.head
 body:∀a∈r.body,qln ar a
 safe:∀t∈r.head.args,t.name=eB->∃a∈r.body,∃u∈a.args,u.name=eB/\u.num=t.num
theorem qxp(ha:qln ar a){p:Nms}(hg:qc6 ar (qb p a)){u:Tm}(hu:u∈a.args):ofT p u≠eB/\(ofT p u=(qb p a).x\/ofT p u=(qb p a).y):=by
 rcases qiq ha (x:=(qb p a).x) (y:=(qb p a).y) hg with⟨t,e1,e2,e3⟩ | ⟨t,v,e1,e2,e3⟩
 .rw[e1] at hu;simp at hu;subst hu;have:(qb p a).x=ofT p u:=by simp[qb,e1,xOf]
  exact⟨by rw[<- this];exact e3,.inl this.symm⟩
 .rw[e1] at hu;simp at hu;rcases hu with rfl | rfl
  .have:(qb p a).x=ofT p u:=by simp[qb,e1,xOf]
   exact⟨by rw[<- this];exact e2,.inl this.symm⟩
  .have:(qb p a).y=ofT p u:=by simp[qb,e1,yOf]
   exact⟨by rw[<- this];exact e3,.inr this.symm⟩
theorem qi5(hr:qw3 ar r){p:Nms}(hb:∀a∈r.body,qc6 ar (qb p a)){t:Tm}(ht:t∈r.head.args):ofT p t≠eB/\((t.name≠eB/\ofT p t=t.name)\/∃a∈r.body,ofT p t=(qb p a).x\/ofT p t=(qb p a).y):=by
 by_cases h:t.name=eB
 .obtain⟨a,ha,u,hu,e1,e2⟩:=hr.safe t ht h;obtain⟨k1,k2⟩:=qxp (hr.body a ha) (hb a ha) hu;have he:ofT p t=ofT p u:=by rw[qgo h,qgo e1,e2]
  rw[he];exact⟨k1,.inr ⟨a,ha,k2⟩⟩
 .rw[qcp h];exact⟨h,.inl ⟨h,rfl⟩⟩
theorem qto(b4:∀r,ar r=1\/ar r=2\/ar r=0){r:Rl}(hr:qw3 ar r)(h0:r.head.args≠[]){p:Nms}(hb:∀a∈r.body,qc6 ar (qb p a)):qc6 ar (qb p r.head):=by
 have hl:=hr.head.1
 match ha:r.head.args,hl with
 | [],_=>exact absurd ha h0
 | [t],hl=>
  refine⟨?_,.inl ⟨by show ar r.head.rel=1;rw[<- hl];rfl,by show yOf p r.head.args=eB;rw[ha];rfl⟩⟩;show xOf p r.head.args≠eB;rw[ha];exact (qi5 hr hb (t:=t) (by rw[ha];simp)).1
 | [t,u],hl=>
  refine⟨?_,.inr ⟨by show ar r.head.rel=2;rw[<- hl];rfl,?_⟩⟩
  .show xOf p r.head.args≠eB;rw[ha];exact (qi5 hr hb (t:=t) (by rw[ha];simp)).1
  .show yOf p r.head.args≠eB;rw[ha];exact (qi5 hr hb (t:=u) (by rw[ha];simp)).1
 | t::u::v::l,hl=>
  exfalso;simp at hl;rcases b4 r.head.rel with h | h | h <;> omega
theorem q07(hr:qw3 ar r){q p:Nms}(he:Ext q p)(hb:∀a∈r.body,qc6 ar (qb q a)):qb p r.head=qb q r.head:=by
 have h:∀t∈r.head.args,ofT p t=ofT q t:=λt ht=>qma he (qi5 hr hb ht).1;unfold qb
 have hx:xOf p r.head.args=xOf q r.head.args:=by
  unfold xOf;split
  .rfl
  .rename_i t l e;exact h t (by rw[e];simp)
 have hy:yOf p r.head.args=yOf q r.head.args:=by
  unfold yOf;split
  .rename_i t u l e;exact h u (by rw[e];simp)
  .rfl
 rw[hx,hy]
def Der(R:List Rl)(F:List (Gd×Int))(e:Int)(g:Gd):Prop:=
 ∀S:Gd->Prop,(∀x∈F,e < x.2->S x.1)->(∀r∈R,r.body≠[]->∀p:Nms,(∀a∈r.body,S (qb p a))->S (qb p r.head))->S g
theorem Der.fact{R:List Rl}{x:Gd×Int}(hx:x∈F)(he:e < x.2):Der R F e x.1:=λS h1 _=>h1 x hx he
theorem Der.rule{R:List Rl}(hr:r∈R)(h0:r.body≠[]){p:Nms}(h:∀a∈r.body,Der R F e (qb p a)):Der R F e (qb p r.head):=λS h1 h2=>h2 r hr h0 p (λa ha=>h a ha S h1 h2)
structure qia(ar:By->Nat)(R:List Rl)(F:List (Gd×Int))(U:List Gd)(M:Gd->Option Int)(q:List (Gd×Int)):Prop where
 sorted:q.Pairwise (λa b=>a.2<=b.2)
 top:∀x∈q,∀g t,M g=some t->x.2<=t
 okM:qyj ar M
 okQ:∀x∈q,qc6 ar x.1/\qik x.1
 soundM:∀g t,M g=some t->∀e,e < t->Der R F e g
 soundQ:∀x∈q,∀e,e < x.2->Der R F e x.1
 facts:∀x∈F,x∈q\/∃t,M x.1=some t/\x.2<=t
 closed:∀r∈R,r.body≠[]->∀(p:Nms) (e:Int),(∀a∈r.body,∃t,M (qb p a)=some t/\e < t)->(∃t,M (qb p r.head)=some t/\e < t)\/∃x∈q,x.1=qb p r.head/\e < x.2
 keys:∃ks:List Gd,ks.Nodup/\(∀g,(M g).isSome=true↔g∈ks)/\∀g∈ks,g∈U
 inU:∀x∈q,x.1∈U
theorem qia.first{R:List Rl}{U:List Gd}(hs:q.Pairwise (λa b=>a.2<=b.2))(hq:∀x,x∈q↔x∈F)(bk:∀x∈F,qc6 ar x.1/\qik x.1)(hU:∀x∈F,x.1∈U):qia ar R F U (λ_=>none) q:=
 ⟨hs,λ_ _ _ _ h=>(by cases h),λ_ h=>(by cases h),λx hx=>bk x ((hq x).1 hx),λ_ _ h=>(by cases h),λx hx e he=>Der.fact ((hq x).1 hx) he,λx hx=>.inl ((hq x).2 hx),λr _ h0 p e h=>(by
  obtain⟨a,ha⟩:=List.exists_mem_of_ne_nil _ h0;obtain⟨t,ht,_⟩:=h a ha
  cases ht),⟨[],List.nodup_nil,λg=>by simp,by simp⟩,λx hx=>hU x ((hq x).1 hx)⟩
theorem qia.skip{R:List Rl}{U:List Gd}{x:Gd×Int}(h:qia ar R F U M (q++[x]))(hx:(M x.1).isSome=true):qia ar R F U M q:=by
 obtain⟨t,ht⟩:=Option.isSome_iff_exists.1 hx;have dg:=h.top x (by simp) _ _ ht;refine⟨(List.pairwise_append.1 h.sorted).1,λy hy=>h.top y (by simp[hy]),h.okM,λy hy=>h.okQ y (by simp[hy]),h.soundM,λy hy=>h.soundQ y (by simp[hy]),λy hy=>?_,λr hr h0 p e hb=>?_,h.keys,λy hy=>h.inU y (by simp[hy])⟩
 .rcases h.facts y hy with h1 | h1
  .rcases List.mem_append.1 h1 with h1 | h1
   .exact .inl h1
   .simp at h1;subst h1;exact .inr ⟨t,ht,dg⟩
  .exact .inr h1
 .rcases h.closed r hr h0 p e hb with h1 | ⟨y,hy,h1,h2⟩
  .exact .inl h1
  .rcases List.mem_append.1 hy with hy | hy
   .exact .inr ⟨y,hy,h1,h2⟩
   .simp at hy;subst hy;rw[<- h1];exact .inl ⟨t,ht,by omega⟩
theorem q89(h1:h.rel=g.rel/\h.x=g.x/\h.y=g.y):h=g:=by
 cases g;cases h;simp at h1 ⊢;exact h1
theorem qfo(M:Gd->Option Int)(g:Gd)(e:Int):qdn M g e g=some e:=by unfold qdn;rw[if_pos ⟨rfl,rfl,rfl⟩]
theorem qmn(av:h≠g):qdn M g e h=M h:=by unfold qdn;rw[if_neg (λh'=>av (q89 h'))]
theorem qlf{t:Int}(hu:qdn M g e h=some t):(h=g/\t=e)\/M h=some t:=by
 unfold qdn at hu;split at hu
 .rename_i h';cases hu;exact .inl ⟨q89 h',rfl⟩
 .exact .inr hu
def qox(R:List Rl)(M:Gd->Option Int)(g:Gd)(h:Gd):Prop:=∃r∈R,∃p,qoh M r.body g p/\h=qb p r.head/\M h=none
theorem qia.add(b4:∀r,ar r=1\/ar r=2\/ar r=0){R:List Rl}(hR:∀r∈R,qw3 ar r/\r.head.args≠[]){F q:List (Gd×Int)}{U:List Gd}(hU:∀r∈R,r.body≠[]->∀p:Nms,(∀a∈r.body,qb p a∈U/\qc6 ar (qb p a))->qb p r.head∈U)(de:∀g∈U,qik g){M:Gd->Option Int}{x:Gd×Int}(h:qia ar R F U M (q++[x]))(hx:M x.1=none){hs:List Gd}(cl:∀g,g∈hs↔qox R (qdn M x.1 x.2) x.1 g):qia ar R F U (qdn M x.1 x.2) (q++hs.map (λg=>(g,x.2))):=by
 have Qd3:∀y∈q,y.2<=x.2:=λy hy=>(List.pairwise_append.1 h.sorted).2.2 y hy x (by simp);have Qgz:=h.okQ x (by simp)
 have bd:∀g t,qdn M x.1 x.2 g=some t->x.2<=t:=by
  intro g t hu;rcases qlf hu with⟨_,rfl⟩ | hu
  .exact Int.le_refl _
  .exact h.top x (by simp) _ _ hu
 have am:qyj ar (qdn M x.1 x.2):=by
  intro g hg;obtain⟨t,ht⟩:=Option.isSome_iff_exists.1 hg;rcases qlf ht with⟨rfl,_⟩ | hu
  .exact Qgz
  .exact h.okM g (by rw[hu];rfl)
 have cm:∃ks:List Gd,ks.Nodup/\(∀g,(qdn M x.1 x.2 g).isSome=true↔g∈ks)/\∀g∈ks,g∈U:=by
  obtain⟨ks,k1,k2,k3⟩:=h.keys;refine⟨x.1::ks,List.nodup_cons.2 ⟨λhm=>(by have:=(k2 _).2 hm;rw[hx] at this;cases this),k1⟩,λg=>?_,λg hg=>?_⟩
  .by_cases e:g=x.1
   .subst e;rw[qfo];simp
   .rw[qmn e,k2];simp[e]
  .rcases List.mem_cons.1 hg with rfl | hg
   .exact h.inU x (by simp)
   .exact k3 g hg
 have Qgn:∀g,(qdn M x.1 x.2 g).isSome=true->g∈U:=λg hg=>by
  obtain⟨ks,k1,k2,k3⟩:=cm;exact k3 g ((k2 g).1 hg)
 have cv:∀g t,qdn M x.1 x.2 g=some t->∀e,e < t->Der R F e g:=by
  intro g t hu e he;rcases qlf hu with⟨rfl,rfl⟩ | hu
  .exact h.soundQ x (by simp) e he
  .exact h.soundM g t hu e he
 have cg:(qdn M x.1 x.2 x.1).isSome=true:=by rw[qfo];rfl
 have bj:∀g∈hs,qc6 ar g/\g∈U/\∀e,e < x.2->Der R F e g:=by
  intro g hg;obtain⟨r,hr,p,h1,rfl,h2⟩:=(cl g).1 hg;obtain⟨u1,u2⟩:=qoi am (hR r hr).1.body cg h1;refine⟨qto b4 (hR r hr).1 (hR r hr).2 (λa ha=>(am _ (u2 a ha)).1),hU r hr u1 p (λa ha=>⟨Qgn _ (u2 a ha),(am _ (u2 a ha)).1⟩),λe he=>Der.rule hr u1 (λa ha=>?_)⟩;obtain⟨t,ht⟩:=Option.isSome_iff_exists.1 (u2 a ha);exact cv _ _ ht e (Int.lt_of_lt_of_le he (bd _ _ ht))
 have bb:∀y,y∈q++hs.map (λg=>(g,x.2))->y∈q\/(y.1∈hs/\y.2=x.2):=by
  intro y hy;rcases List.mem_append.1 hy with hy | hy
  .exact .inl hy
  .obtain⟨g,hg,rfl⟩:=List.mem_map.1 hy;exact .inr ⟨hg,rfl⟩
 refine⟨?_,?_,am,?_,cv,?_,?_,?_,cm,?_⟩
 .refine List.pairwise_append.2 ⟨(List.pairwise_append.1 h.sorted).1,?_,λa ha b hb=>?_⟩
  .rw[List.pairwise_map];exact List.pairwise_of_forall (λ_ _=>Int.le_refl _)
  .obtain⟨g,hg,rfl⟩:=List.mem_map.1 hb;exact Qd3 a ha
 .intro y hy g t hu;rcases bb y hy with hy | ⟨_,he⟩
  .exact Int.le_trans (Qd3 y hy) (bd g t hu)
  .rw[he];exact bd g t hu
 .intro y hy;rcases bb y hy with hy | ⟨hy,_⟩
  .exact h.okQ y (by simp[hy])
  .exact⟨(bj _ hy).1,de _ (bj _ hy).2.1⟩
 .intro y hy e he;rcases bb y hy with hy | ⟨hy,h2⟩
  .exact h.soundQ y (by simp[hy]) e he
  .rw[h2] at he;exact (bj _ hy).2.2 e he
 .intro y hy;rcases h.facts y hy with h1 | ⟨t,h1,h2⟩
  .rcases List.mem_append.1 h1 with h1 | h1
   .exact .inl (List.mem_append_left _ h1)
   .simp at h1;subst h1;exact .inr ⟨_,qfo _ _ _,Int.le_refl _⟩
  .by_cases e:y.1=x.1
   .rw[e,hx] at h1;cases h1
   .exact .inr ⟨t,by rw[qmn e];exact h1,h2⟩
 .intro r hr h0 p e hb;by_cases cj:∃a∈r.body,qb p a=x.1
  .obtain⟨a,ha,cb⟩:=cj
   have dv:∀a∈r.body,(qdn M x.1 x.2 (qb p a)).isSome=true:=λa ha=>by
    obtain⟨t,ht,_⟩:=hb a ha;rw[ht];rfl
   have cp:e < x.2:=by
    obtain⟨t,ht,ao⟩:=hb a ha;rw[cb,qfo] at ht;cases ht;exact ao
   obtain⟨pq,hu,Qgf⟩:=qq5 am (hR r hr).1.body ha dv;rw[cb] at hu;obtain⟨_,u2⟩:=qoi am (hR r hr).1.body cg hu;have c9:=q07 (hR r hr).1 Qgf (λa ha=>(am _ (u2 a ha)).1)
   cases hM:qdn M x.1 x.2 (qb p r.head) with
   | some t=>exact .inl ⟨t,rfl,Int.lt_of_lt_of_le cp (bd _ _ hM)⟩
   | none=>
    refine .inr ⟨(qb p r.head,x.2),List.mem_append_right _ (List.mem_map.2 ⟨_,(cl _).2 ⟨r,hr,pq,hu,c9,hM⟩,rfl⟩),rfl,cp⟩
  .have dw:∀a∈r.body,∃t,M (qb p a)=some t/\e < t:=λa ha=>by
    obtain⟨t,ht,ao⟩:=hb a ha;rw[qmn (λe=>cj ⟨a,ha,e⟩)] at ht;exact⟨t,ht,ao⟩
   rcases h.closed r hr h0 p e dw with⟨t,h1,h2⟩ | ⟨y,hy,h1,h2⟩
   .by_cases e':qb p r.head=x.1
    .rw[e',hx] at h1;cases h1
    .exact .inl ⟨t,by rw[qmn e'];exact h1,h2⟩
   .rcases List.mem_append.1 hy with hy | hy
    .exact .inr ⟨y,List.mem_append_left _ hy,h1,h2⟩
    .simp at hy;subst hy;exact .inl ⟨_,by rw[<- h1];exact qfo _ _ _,h2⟩
 .intro y hy;rcases bb y hy with hy | ⟨hy,_⟩
  .exact h.inU y (by simp[hy])
  .exact (bj _ hy).2.1
structure qcv(R:List Rl)(F:List (Gd×Int))(M:Gd->Option Int):Prop where
 sound:∀g t,M g=some t->∀e,e < t->Der R F e g
 complete:∀e g,Der R F e g->∃t,M g=some t/\e < t
theorem qia.done{R:List Rl}{U:List Gd}(h:qia ar R F U M []):qcv R F M:=by
 refine⟨h.soundM,λe g hd=>?_⟩;refine hd (λg=>∃t,M g=some t/\e < t) (λx hx he=>?_) (λr hr h0 p hb=>?_)
 .rcases h.facts x hx with h1 | ⟨t,h1,h2⟩
  .cases h1
  .exact⟨t,h1,by omega⟩
 .rcases h.closed r hr h0 p e hb with h1 | ⟨y,hy,_⟩
  .exact h1
  .cases hy
theorem qqa:∀(ks U:List α),ks.Nodup->(∀g∈ks,g∈U)->ks.length<=U.length
 | [],U,_,_=>zz
 | k::ks,U,h,hs=>by
  obtain⟨A,B,rfl⟩:=List.append_of_mem (hs k (by simp))
  have:=qqa ks (A++B) (List.nodup_cons.1 h).2 (λg hg=>by
   have h1:=hs g (by simp[hg]);have av:g≠k:=λe=>(List.nodup_cons.1 h).1 (e ▸ hg);simp only[List.mem_append,List.mem_cons] at h1 ⊢;rcases h1 with h1 | h1 | h1
   .exact .inl h1
   .exact absurd h1 av
   .exact .inr h1)
  simp at this ⊢;omega
def uni(rels NS:List By):List Gd:=rels.flatMap λr=>NS.flatMap λx=>(eB::NS).map λy=>⟨r,x,y⟩
theorem qes:g∈uni rels NS↔g.rel∈rels/\g.x∈NS/\(g.y=eB\/g.y∈NS):=by
 unfold uni;simp only[List.mem_flatMap,List.mem_map,List.mem_cons];constructor
 .rintro⟨r,hr,x,hx,y,hy,rfl⟩;exact⟨hr,hx,hy⟩
 .rintro⟨h1,h2,h3⟩;exact⟨_,h1,_,h2,_,h3,rfl⟩
theorem qm2{β:Type}(f:α->List β)(k:Nat):∀l:List α,(∀a∈l,(f a).length=k)->(l.flatMap f).length=l.length*k
 | [],_=>by simp
 | a::l,h=>by
  rw[List.flatMap_cons,List.length_append,h a (by simp),qm2 f k l (λb hb=>h b (by simp[hb])),List.length_cons,Nat.add_mul,Nat.one_mul,Nat.add_comm]
theorem q8y(rels NS:List By):(uni rels NS).length=rels.length*(NS.length*(NS.length+1)):=by
 unfold uni;refine qm2 _ _ _ (λr _=>qm2 _ _ _ (λx _=>by simp))
theorem qq2{R:List Rl}(hR:∀r∈R,qw3 ar r/\r.head.args≠[])(hrel:∀r∈R,r.head.rel∈rels)(df:∀r∈R,∀t∈r.head.args,t.name≠eB->t.name∈NS) :
  ∀r∈R,r.body≠[]->∀p:Nms,(∀a∈r.body,qb p a∈uni rels NS/\qc6 ar (qb p a))->qb p r.head∈uni rels NS:=by
 intro r hr _ p hb
 have Qdc:∀t∈r.head.args,ofT p t∈NS:=by
  intro t ht;obtain⟨h1,⟨h2,h3⟩ | ⟨a,ha,h2⟩⟩:=qi5 (hR r hr).1 (λa ha=>(hb a ha).2) ht
  .rw[h3];exact df r hr t ht h2
  .obtain⟨k1,k2,k3⟩:=qes.1 (hb a ha).1;rcases h2 with h2 | h2
   .rw[h2];exact k2
   .rcases k3 with k3 | k3
    .rw[h2,k3] at h1;exact absurd rfl h1
    .rw[h2];exact k3
 rw[qes];refine⟨hrel r hr,?_,?_⟩
 .show xOf p r.head.args∈NS;have h0:=(hR r hr).2
  revert Qdc h0
  cases r.head.args with
  | nil=>intro _ h;exact absurd rfl h
  | cons t l=>intro h _;exact h t (by simp)
 .show yOf p r.head.args=eB\/yOf p r.head.args∈NS
  revert Qdc
  cases r.head.args with
  | nil=>intro _;exact .inl rfl
  | cons t l=>
   intro h
   cases l with
   | nil=>exact .inl rfl
   | cons u l=>exact .inr (h u (by simp))
theorem Qcd(h1:∀r∈rels,r.size<=maxLen)(h2:∀x∈NS,x.size<=maxLen):∀g∈uni rels NS,qik g:=by
 intro g hg;obtain⟨k1,k2,k3⟩:=qes.1 hg;refine⟨h1 _ k1,h2 _ k2,?_⟩;rcases k3 with k3 | k3
 .rw[k3];exact zz
 .exact h2 _ k3
theorem Der.later{R:List Rl}{F':List (Gd×Int)}(h:∀x,e < x.2->(x∈F↔x∈F'))(g:Gd):Der R F e g↔Der R F' e g:=
 ⟨λhd S h1 h2=>hd S (λx hx he=>h1 x ((h x he).1 hx) he) h2,λhd S h1 h2=>hd S (λx hx he=>h1 x ((h x he).2 hx) he) h2⟩
theorem qcv.end_mem{R:List Rl}(h:qcv R F M){g:Gd}{t:Int}(hg:M g=some t):∃x∈F,x.2=t:=by
 refine Classical.byContradiction λhn=>?_
 have hd:Der R F t g:=(Der.later (R:=R) (F:=F) (F':=F) (e:=t) (λx _=>Iff.rfl) g).1 (λS h1 h2=>h.sound g t hg (t - 1) (by omega) S (λx hx hl=>h1 x hx (by
  have:x.2≠t:=λe=>hn ⟨x,hx,e⟩
  omega)) h2)
 obtain⟨t',h1,h2⟩:=h.complete t g hd;rw[hg] at h1;cases h1;omega
attribute [local go_sem] Oper.semAt_some
theorem qxn(B:Nat)(v:Vq)(g:Gd)(w:Wq)(ta:Option Addr)(tn tc:Nat)(dr:v=.slice ta tn tc) :
  Cs 138 #[.map (some B),v,g.v] w λe w'=>e=.returned (.func (.func 189) #[] #[Pt (w.heap.size+1),Pt w.heap.size,Pt (w.heap.size+2)])/\
   w'=((w.alloc (.cells #[.map (some B)] 98)).alloc (.cells #[v] 75)).alloc (.cells g.c 111):=by
 subst dr;unfold Gd.v Gd.c;go_enter Tryz.func138,Tryz.ntmps138;go_wp2;go_ret;exact⟨rfl,rfl⟩
def qju(R:List Rl)(M:Gd->Option Int)(g:Gd)(k:Nat)(h:Gd):Prop:=∃i,∃hi:i < R.length,i < k/\∃p,qoh M (R[i]).body g p/\h=qb p (R[i]).head/\M h=none
theorem qva(R:List Rl)(M:Gd->Option Int)(g h:Gd):qju R M g R.length h↔qox R M g h:=by
 constructor
 .rintro⟨i,hi,_,p,h1⟩;exact⟨_,List.getElem_mem hi,p,h1⟩
 .rintro⟨r,hr,p,h1⟩;obtain⟨i,hi,rfl⟩:=List.getElem_of_mem hr;exact⟨i,hi,hi,p,h1⟩
theorem qtl{R:List Rl}{k:Nat}(hk:k < R.length):qju R M g (k+1) h↔qju R M g k h\/∃p,qoh M (R[k]).body g p/\h=qb p (R[k]).head/\M h=none:=by
 constructor
 .rintro⟨i,hi,h1,h2⟩;by_cases e:i=k
  .subst e;exact .inr h2
  .exact .inl ⟨i,hi,by omega,h2⟩
 .rintro (⟨i,hi,h1,h2⟩ | h2)
  .exact⟨i,hi,by omega,h2⟩
  .exact⟨k,hk,by omega,h2⟩
structure q2t(Bl Bm Bg B nn rb ag ac:Nat)(M:Gd->Option Int)(v:Vq)(R:List Rl)(g:Gd)(W:Wq):Prop where
 bl:W.heap[Bl]?=cC #[v] 75
 bm:W.heap[Bm]?=cC #[.map (some B)] 98
 bg:W.heap[Bg]?=some (Obj.cells g.c 111)
 rules:Qb W rb ag ac v R
 md:qd4 W B nn M
theorem q2t.mk'{m Bl Bm Bg B nn rb ag ac:Nat}{v:Vq}{R:List Rl}{W W':Wq}(h:q2t Bl Bm Bg B nn rb ag ac M v R g W)(hk:qn m W W'):q2t Bl Bm Bg B nn rb ag ac M v R g W':=
 ⟨hk.cells _ _ _ (by unfold qcc;decide) h.bl,hk.cells _ _ _ (by unfold qcc;decide) h.bm,hk.cells _ _ _ (by unfold qcc;decide) h.bg,h.rules.keep (λk c t ht hc=>hk.cells k c t (by rcases ht with rfl | rfl | rfl <;> (unfold qcc;decide)) hc),h.md.mk hk⟩
structure q26(r:Rl):Prop where
 body:qwx r.body
 few:r.body.length<=3
 args:r.head.args.length<=2
 nums:∀t∈r.head.args,t.num < 6
 rel:r.head.rel.size<=maxLen
 names:∀t∈r.head.args,t.name.size<=maxLen
def foN(nn:Nat):Nat:=3*(nn+1) ^ 2
theorem q8z(h3:L.length<=3)(nn:Nat):L.length*nn ^ (L.length - 1)<=foN nn:=by
 unfold foN;have hc:L.length=0\/L.length=1\/L.length=2\/L.length=3:=by omega
 rcases hc with h | h | h | h <;> rw[h]
 .simp
 .have:0 < (nn+1) ^ 2:=Nat.pow_pos (by omega);simp;omega
 .have:nn<=(nn+1) ^ 2:=by rw[Nat.pow_two];have:=Nat.mul_le_mul (show 1<=nn+1 by omega) (show nn<=nn+1 by omega);omega
  simp;omega
 .have:nn ^ 2<=(nn+1) ^ 2:=Nat.pow_le_pow_left (by omega) 2;simp;omega
theorem qxo(n0 Bl Bm Bg B nn rb ag ac:Nat)(M:Gd->Option Int)(v:Vq)(R:List Rl)(g:Gd)(w:Wq)(cn:q2t Bl Bm Bg B nn rb ag ac M v R g w)(bk:∀r∈R,q26 r)(h8:R.length<=8)(hg:qik g)(m:Nat) :
  qey m n0 189 #[Pt Bl,Pt Bm,Pt Bg] (λx:GdX=>#[x.1.v]) (qn m)
   (λhs=>(∀h,h∈hs.map (·.1)↔qox R M g h)/\hs.length<=R.length*foN nn) (λ_=>True) (R.length*foN nn) w:=by
 obtain⟨n,hn⟩:∃n,12<=n:=⟨12,Nat.le_refl _⟩;refine qey.any (n:=n) ?_ n0;have n1:1<=n:=by omega
 have n2:1<=n - 1:=by omega
 have n3:1<=n - 1 - 1:=by omega
 intro l J Jx W hW c8 hJ c5 hY h0;have bc:=cn.mk' (qn.ofBelow (m:=m) hW);clear cn hW;obtain⟨va,vc,hv⟩:=bc.rules.form;subst hv;have au:Hid _:=bc;have HY:Hid _:=hY;have HJ:Hid (OwnFrom W.heap.size J):=hJ;have HJx:Hid (OwnFrom W.heap.size Jx):=c5;have H0:Hid _:=h0;have ai:∀O,Below W.heap.size W (W.alloc O):=λO=>(Below.refl _ W).alloc zl O;have e1:∀O,(W.alloc O).cell? (Ad Bl 0)=some (.slice va R.length vc):=λO=>cell_later (ai O) (by have:=bc.bl;simp[World.cell?,this]);clear hY hJ c5 h0 bc ai;refine callsIn_of_wp_marks Tryz.func189 rfl trivial ?_ rfl;simp only[Tryz.ntmps189,List.size_toArray,List.length_cons,List.length_nil,Nat.reduceAdd,Nat.reduceSub,Array.replicate_succ,Array.replicate_zero,List.push_toArray,List.append_toArray,List.nil_append,List.cons_append]
 gi_wp2
 obtain⟨N,hN⟩:∃N,W.heap.size=N:=⟨_,rfl⟩;obtain⟨W1,ay⟩:∃W1,W.alloc (.cells #[.func (.yield l) #[] #[]] 181)=W1:=⟨_,rfl⟩;have bu:Below W.heap.size W W1:=by rw[<- ay];exact (Below.refl _ W).alloc zl _
 have d0:W1.heap.size=N+1:=by rw[<- ay,<- hN];simp
 have bY:W1.heap[N]?=cC #[.func (.yield l) #[] #[]] 181:=by rw[<- ay,<- hN];exact zn W _
 have cu:=(au.out).mk' (qn.ofBelow (m:=m) bu);have co:J [] W1:=HJ.out _ _ _ none H0.out (qi bu) (λr e=>by cases e);have d8:m<=N:=by omega
 rw[hN] at HJ HJx;simp only[hN];rw[ay];clear ay e1 au H0 bu hN c8;have au:Hid _:=cu;have dk:Hid _:=bY;clear cu bY;refine wpIn_loop (λA V=>∃(k:Nat) (ds:List Nat) (ys:List GdX) (u6 c2 ca ck cf cw c0 cd bn:Vq),A={tmps:=#[.func (.yield l) #[] #[],Pt Bl,Pt Bm,Pt Bg,Pt N,undef,u6,undef,undef,.slice va R.length vc,Ii R.length,Ii k,c2,ca,ck,cf,cw,c0,cd,undef,undef,undef,undef,undef,undef,undef,undef,undef,undef,undef,undef,undef,undef,undef,bn],defers:=qe1 ds}/\k<=R.length/\J ys V/\qd5 (N+1) ds V/\qn m W1 V/\Hid ((∀h,h∈ys.map (·.1)↔qju R M g k h)/\ys.length<=k*foN nn)) (λA _=>R.length - (intOf (A.tmps.getD 11 undef)).toNat) ⟨0,[],[],_,_,_,_,_,_,_,_,_,rfl,zz,co,qd5.nil _ _,qn.ofBelow zr,⟨λh=>by simp[qju],by simp⟩⟩ ?_;rintro A V ⟨k,ds,ys,u6,c2,ca,ck,cf,cw,c0,cd,bn,rfl,hk,ch,be,cx,Q7⟩;clear co;have aw:=(au.out).mk' cx;by_cases ao:k < R.length
 .obtain⟨gb,c,v0,vb,e0,x0,x1,x2,b5,b9⟩:=qdb aw.rules ao;cases e0;obtain⟨fa,fc,di⟩:=b5.form;obtain⟨ga,gc,du⟩:=qar.form b9;subst di du;have ci:=bk _ (zm ao);have cz:=λh=>qtl (M:=M) (g:=g) (h:=h) ao;generalize hxk:R[k]=rk at *;have ai:∀O,Below V.heap.size V (V.alloc O):=λO=>(Below.refl _ V).alloc zl O;have az:=aw.bg;unfold Gd.c at az;have z0:∀O,(V.alloc O).cell? (Ad Bg 0)=some (St g.rel):=λO=>cell_later (ai O) (by simp[World.cell?,az]);have z1:∀O,(V.alloc O).cell? (Ad Bg 1)=some (St g.x):=λO=>cell_later (ai O) (by simp[World.cell?,az]);have z2:∀O,(V.alloc O).cell? (Ad Bg 2)=some (St g.y):=λO=>cell_later (ai O) (by simp[World.cell?,az]);have zm:∀O,(V.alloc O).cell? (Ad Bm 0)=some (.map (some B)):=λO=>cell_later (ai O) (by have:=aw.bm;simp[World.cell?,this])
  have cr:Hid (∀W,Cs 190 #[.map (some B),.agg #[St rk.head.rel,.slice fa rk.head.args.length fc,.slice ga rk.body.length gc],.agg #[St g.rel,St g.x,St g.y]] W λe w'=>e=.returned (.func (.func 229) #[] #[Pt (W.heap.size+1),Pt (W.heap.size+2),Pt W.heap.size])/\
   w'=((W.alloc (.cells #[.map (some B)] 98)).alloc (.cells #[St rk.head.rel,.slice fa rk.head.args.length fc,.slice ga rk.body.length gc] 136)).alloc (.cells #[St g.rel,St g.x,St g.y] 111)):=λW=>q6o B _ _ _ g W _ _ _ rfl _ _ _ rfl
  have dx:Hid _:=aw;have dc:Hid _:=b5;have dm:Hid _:=b9;have da:Hid _:=cz;have al:Hid _:=ci;clear ai az aw b5 b9 cz ci hxk
  gi_wp2_with (refine⟨trivial,?_⟩;gi_at_call 190;refine (callsIn_wide.2 (cr.out _)).mono ?_;rintro e w' ⟨rfl,rfl⟩)
  obtain⟨VN,ax⟩:∃VN,V.heap.size=VN:=⟨_,rfl⟩;obtain⟨W5,aj⟩:∃W5,(((V.alloc (.cells #[St rk.head.rel,.slice fa rk.head.args.length fc,.slice ga rk.body.length gc] 136)).alloc (.cells #[.map (some B)] 98)).alloc (.cells #[St rk.head.rel,.slice fa rk.head.args.length fc,.slice ga rk.body.length gc] 136)).alloc (.cells #[St g.rel,St g.x,St g.y] 111)=W5:=⟨_,rfl⟩;have bi:Below V.heap.size V W5:=by rw[<- aj];exact ((((Below.refl _ V).alloc zl _).alloc (by simp) _).alloc (by simp;omega) _).alloc (by simp;omega) _
  have d2:W5.heap.size=VN+4:=by rw[<- aj,<- ax];simp
  have eR:W5.heap[VN]?=cC #[St rk.head.rel,.slice fa rk.head.args.length fc,.slice ga rk.body.length gc] 136:=by
   rw[<- aj,<- ax];exact (Below.heap_alloc _ _ _ (by simp;omega)).trans ((Below.heap_alloc _ _ _ (by simp;omega)).trans ((Below.heap_alloc _ _ _ (by simp)).trans (zn V _)))
  have eM:W5.heap[VN+1]?=cC #[.map (some B)] 98:=by
   rw[<- aj,<- ax];refine (Below.heap_alloc _ _ _ (by simp)).trans ((Below.heap_alloc _ _ _ (by simp)).trans ?_);have:=zn (V.alloc (.cells #[St rk.head.rel,.slice fa rk.head.args.length fc,.slice ga rk.body.length gc] 136)) (.cells #[.map (some B)] 98);rw[World.size_alloc] at this;exact this
  have eS:W5.heap[VN+1+1]?=cC #[St rk.head.rel,.slice fa rk.head.args.length fc,.slice ga rk.body.length gc] 136:=by
   rw[<- aj,<- ax];refine (Below.heap_alloc _ _ _ (by simp)).trans ?_;have:=zn ((V.alloc (.cells #[St rk.head.rel,.slice fa rk.head.args.length fc,.slice ga rk.body.length gc] 136)).alloc (.cells #[.map (some B)] 98)) (.cells #[St rk.head.rel,.slice fa rk.head.args.length fc,.slice ga rk.body.length gc] 136);rw[World.size_alloc,World.size_alloc] at this;exact this
  have eG:W5.heap[VN+1+2]?=some (Obj.cells g.c 111):=by
   rw[<- aj,<- ax];have:=zn (((V.alloc (.cells #[St rk.head.rel,.slice fa rk.head.args.length fc,.slice ga rk.body.length gc] 136)).alloc (.cells #[.map (some B)] 98)).alloc (.cells #[St rk.head.rel,.slice fa rk.head.args.length fc,.slice ga rk.body.length gc] 136)) (.cells #[St g.rel,St g.x,St g.y] 111);rw[World.size_alloc,World.size_alloc,World.size_alloc] at this;exact this
  have a8:∀m',qn m' V W5:=λm'=>qn.ofBelow bi;have dh:=(dx.out).mk' (a8 m);have dj:q25 (VN+1) (VN+1+1) (VN+1+2) B nn ag ac M rk.head.rel (.slice fa rk.head.args.length fc) (.slice ga rk.body.length gc) rk.body g W5:=⟨eM,eS,eG,qar.kept dm.out (λk c _ hc=>(a8 0).cells k c _ (by unfold qcc;decide) hc) (λk c _ hc=>(a8 0).cells k c _ (by unfold qcc;decide) hc),dh.md⟩;have Qfz:Qi W5 ac (.slice fa rk.head.args.length fc) rk.head.args:=Qi.mk dc.out (a8 0);have c7:J (ys++[]) W5:=by rw[List.append_nil];exact HJ.out _ _ _ none ch (qi bi) (λr e=>by cases e)
  have ih:=q6p (n - 1) (VN+1) (VN+1+1) (VN+1+2) B nn ag ac M rk.head.rel (.slice fa rk.head.args.length fc) (.slice ga rk.body.length gc) rk.body g W5 dj al.out.body al.out.few hg (W5.heap.size+2);have cq:qn m W1 W5:=cx.tr (qn.ofBelow bi);have ce:qd5 (N+1) ds W5:=be.below bi;have bh:∀d∈ds,d < W5.heap.size:=ce.lt;have dz:N+1<=W5.heap.size:=by have:=cq.from'.size;omega
  have d7:=q8z al.out.few nn;simp only[ax];rw[aj];clear aj cr z0 z1 z2 zm x0 x1 x2
  refine qd1 (n:=n) (gf:=229) (lb:=#[Pt (VN+1+1),Pt (VN+1+2),Pt (VN+1)]) rfl (enters_of Tryz.func229 (by kernel_rfl) rfl)
   ih qn.tr (λV' d3 o' ho=>qn.put V' _ _ o' (by omega) ho rfl (λ_ _ h=>by cases h)) (λ_=>rfl)
   (λpre V2=>∃aa:List GdX,J (ys++aa) V2/\aa.map (·.1)=(pre.map (λp=>qb p.1 rk.head)).filter (λh=>(M h).isNone)/\qn m W1 V2/\qd5 (N+1) ds V2/\qn (W5.heap.size+2) W5 V2)
   (λc pre V2=>c=.ret/\(∃zs,Jx zs V2)/\qd5 (N+1) ds V2)
   ?hI2 ?hIx2 ⟨[],c7,rfl,cq,ce,qn.ofBelow zr⟩
   (λx a' V2=>∃Bx,V2.heap[Bx]?=some (Obj.cells x.1.c 176)/\a'={tmps:=#[.func (.yield l) #[] #[],Pt Bl,Pt Bm,Pt Bg,Pt N,undef,Pt VN,Pt Bx,undef,Sc gb R.length vc,Ii R.length,Ii k,.bool true,.pointer (some ⟨gb,k*3,none⟩),.agg #[St rk.head.rel,.slice fa rk.head.args.length fc,.slice ga rk.body.length gc],.map (some B),.agg #[St rk.head.rel,.slice fa rk.head.args.length fc,.slice ga rk.body.length gc],.agg #[St g.rel,St g.x,St g.y],.func (.func 229) #[] #[Pt (VN+1+1),Pt (VN+1+2),Pt (VN+1)],.agg #[St x.1.a0,St x.1.a1,St x.1.a2,St x.1.a3,St x.1.a4,St x.1.a5],undef,undef,undef,undef,undef,undef,undef,undef,undef,undef,undef,undef,undef,undef,bn],defers:=[]})
   ?hAx2 ?assign2 ?body2 ?done2 ?stop2
  case hI2=>
   rintro ab X X' row ⟨aa,j1,j0,j2,j3,j4⟩ hg hr;exact⟨aa,HJ.out _ _ _ row j1 hg (λr e=>⟨by have:=(hr r e).1;omega,(hr r e).2⟩),j0,j2.own hg (λr e=>by have:=(hr r e).1;omega),j3.grown hg (λr e=>(hr r e).1) bh,j4.own hg (λr e=>(hr r e).1)⟩
  case hIx2=>
   rintro c ab X X' row ⟨rfl,⟨zs,j1⟩,j3⟩ hg hr;exact⟨rfl,⟨zs,HJx.out _ _ _ row j1 hg (λr e=>⟨by have:=(hr r e).1;omega,(hr r e).2⟩)⟩,j3.grown hg (λr e=>(hr r e).1) bh⟩
  case hAx2=>
   rintro x2 a' _ X X' row ⟨Bx,q2,q3⟩ hg hr;exact⟨Bx,qj hg (λr e=>(hr r e).2) _ _ _ _ q2,q3⟩
  case assign2=>
   rintro l2 ab x2 X K dq dl ⟨aa,j1,j0,j2,j3,j4⟩ hK;have HK:Hid _:=hK;clear hK;unfold Nms.v Nms.c
   gi_wp2
   have aq:Below X.heap.size X (X.alloc (.cells #[St x2.1.a0,St x2.1.a1,St x2.1.a2,St x2.1.a3,St x2.1.a4,St x2.1.a5] 176)):=(Below.refl _ X).alloc zl _;exact HK.out _ _ (KeepsFrom.ofBelow aq) (qn.ofBelow aq) ⟨aa,HJ.out _ _ _ none j1 (qi aq) (λr e=>by cases e),j0,j2.tr (qn.ofBelow aq),j3.below aq,j4.tr (qn.ofBelow aq)⟩ ⟨X.heap.size,zn X _,rfl⟩
  case done2=>
   rintro D xs X hD ⟨s1,s2⟩ ⟨aa,j1,j0,j2,j3,j4⟩ hK
   have db:Hid ((∀h,h∈(ys++aa).map (·.1)↔qju R M g (k+1) h)/\(ys++aa).length<=(k+1)*foN nn):=by
    refine⟨λh=>?_,?_⟩
    .rw[List.map_append,List.mem_append,Q7.out.1,da.out,j0,List.mem_filter,List.mem_map];constructor
     .rintro (h1 | ⟨⟨p,hp,rfl⟩,h2⟩)
      .exact .inl h1
      .exact .inr ⟨p.1,(s1 p.1).1 (List.mem_map.2 ⟨p,hp,rfl⟩),rfl,by simpa using h2⟩
     .rintro (h1 | ⟨p,h1,rfl,h2⟩)
      .exact .inl h1
      .obtain⟨q,hq,rfl⟩:=List.mem_map.1 ((s1 p).2 h1);exact .inr ⟨⟨q,hq,rfl⟩,by simpa using h2⟩
    .have e1:=congrArg List.length j0;rw[List.length_map] at e1;have e2:=List.length_filter_le (λh=>(M h).isNone) (xs.map (λp=>qb p.1 rk.head));rw[List.length_map] at e2;have e3:=Q7.out.2;rw[List.length_append,Nat.add_mul,Nat.one_mul];omega
   have bq:D∉ds:=λh=>by have:=bh D h;omega
   have a6:Hid _:=j3.cons (D:=D) (by omega) hK bq;clear Q7 s1 s2 j0
   gi_wp2
   refine⟨⟨k+1,D::ds,ys++aa,_,_,_,_,_,_,_,_,_,rfl,by omega,j1,a6.out,j2,db.out⟩,?_⟩;simp[intOf];omega
  case stop2=>
   rintro D c pre X hD _ ⟨rfl,hz,j3⟩ hK;have bq:D∉ds:=λh=>by have:=bh D h;omega
   have a6:Hid _:=j3.cons (D:=D) (by omega) hK bq;have HZ:Hid _:=hz;clear Q7 hz
   gi_wp2
   show LeavesInM Fence.wide n Tryz.prog _ _ _ (qe1 (D::ds)) .returning X;refine qf7 (X:=λV=>∃zs,Jx zs V) (B:=N) (λ_ A B row hs hg hr=>by obtain⟨zs,hz⟩:=hs;exact⟨zs,HJx.out zs A B row hz hg hr⟩) (D::ds) X a6.out.nodup (λD' cy=>⟨by have:=(a6.out.at' D' cy).1;omega,(a6.out.at' D' cy).2⟩) HZ.out (λW' hx=>?_);obtain⟨zs,hz⟩:=hx;exact⟨_,results_none rfl _ _ _,⟨_,rfl⟩,.inr ⟨zs,trivial,hz⟩⟩
  case body2=>
   rintro l2 ab x a' X dq ⟨dy,dn⟩ ⟨aa,j1,j0,j2,j3,j4⟩ ⟨Bx,dp,rfl⟩ d6;have a7:=j4.cells _ _ _ (by unfold qcc;decide) eR;have bt:=(au.out.mk' j2).bm;have Qa9:=(au.out.mk' j2).md;have b8:=j2.cells _ _ _ (by unfold qcc;decide) dk.out;have b0:Qi X ac (.slice fa rk.head.args.length fc) rk.head.args:=Qi.mk Qfz j4;have d5:X.cell? (Ad VN 0)=some (St rk.head.rel):=zc a7
   have d1:X.cell? (Ad VN 1)=some (.slice fa rk.head.args.length fc):=zc a7
   have ae:=dp;unfold Nms.c at ae;have q0:X.cell? (Ad Bx 0)=some (St x.1.a0):=zc ae
   have q1:X.cell? (Ad Bx 1)=some (St x.1.a1):=zc ae
   have q2:X.cell? (Ad Bx 2)=some (St x.1.a2):=zc ae
   have q3:X.cell? (Ad Bx 3)=some (St x.1.a3):=zc ae
   have q4:X.cell? (Ad Bx 4)=some (St x.1.a4):=zc ae
   have q5:X.cell? (Ad Bx 5)=some (St x.1.a5):=zc ae
   have ah:qik (qb x.1 rk.head):=q04 x.2 al.out.rel al.out.names;have c3:Hid (Cs 89 #[.agg #[St x.1.a0,St x.1.a1,St x.1.a2,St x.1.a3,St x.1.a4,St x.1.a5],.agg #[St rk.head.rel,.slice fa rk.head.args.length fc]] X λe w'=>e=.returned (.agg #[St (qb x.1 rk.head).rel,St (qb x.1 rk.head).x,St (qb x.1 rk.head).y])/\Below X.heap.size X w'):=qkw x.1 rk.head _ ac X b0 al.out.args al.out.nums;have b3:Hid (∀(X1:Wq) (O:Obj),Below X.heap.size X X1->Below X.heap.size X (X1.alloc O)):=λX1 O hb=>hb.alloc hb.size O;have ct:Hid (∀X1 O,Below X.heap.size X X1->(X1.alloc O).cell? (Ad Bm 0)=some (.map (some B))):=λX1 O hb=>cell_later (b3.out X1 O hb) (by simp[World.cell?,bt]);have bf:Hid (∀X1 O,Below X.heap.size X X1->Cs 136 #[.map (some B),.agg #[St (qb x.1 rk.head).rel,St (qb x.1 rk.head).x,St (qb x.1 rk.head).y]] (X1.alloc O) λe w'=>e=.returned (.bool (M (qb x.1 rk.head)).isSome)/\Below (X1.alloc O).heap.size (X1.alloc O) w'):=λX1 O hb=>qzj B nn M (qb x.1 rk.head) ah (X1.alloc O) (Qa9.mk (qn.ofBelow (m:=m) (b3.out X1 O hb)))
   have b6:(ys++aa).length < R.length*foN nn:=by
    have e1:=congrArg List.length j0;rw[List.length_map] at e1;have e2:=List.length_filter_le (λh=>(M h).isNone) (ab.map (λp=>qb p.1 rk.head));rw[List.length_map] at e2;have e3:=Q7.out.2;have e4:(k+1)*foN nn<=R.length*foN nn:=Nat.mul_le_mul_right _ (by omega);rw[Nat.add_mul,Nat.one_mul] at e4;rw[List.length_append];omega
   have b7:Hid (∀X3,Below X.heap.size X X3->YieldAt Fence.wide (n - 1) Tryz.prog l #[.agg #[St (qb x.1 rk.head).rel,St (qb x.1 rk.head).x,St (qb x.1 rk.head).y]] X3 λe W'=>∃b:Bool,e=.returned (.bool b)/\((b=true/\J ((ys++aa)++[gdX (qb x.1 rk.head) ah]) W'/\qn m X W')\/(b=false/\Jx ((ys++aa)++[gdX (qb x.1 rk.head) ah]) W'/\KeepsFrom m X W'))):=by
    intro X3 hb;obtain⟨fn,tmps,assign,body,hy,hR⟩:=HY.out (ys++aa) (gdX (qb x.1 rk.head) ah) X3 (HJ.out _ _ _ none j1 (qi hb) (λr e=>by cases e)) b6;refine⟨fn,tmps,assign,body,hy,hR.mono ?_⟩;rintro e W' (⟨rfl,k1,k2⟩ | ⟨rfl,k1,k2⟩)
    .exact⟨true,rfl,.inl ⟨rfl,k1,(qn.ofBelow hb).tr k2⟩⟩
    .exact⟨false,rfl,.inr ⟨rfl,k1,KeepsFrom.tr (KeepsFrom.ofBelow hb) k2⟩⟩
   have a9:Hid (((ab++[x]).map (λp=>qb p.1 rk.head)).filter (λh=>(M h).isNone)=aa.map (·.1)++(if (M (qb x.1 rk.head)).isNone=true then [qb x.1 rk.head] else [])):=by
    show _=_;rw[List.map_append,List.filter_append,j0];congr 1;show List.filter _ [qb x.1 rk.head]=_;rw[List.filter_cons,List.filter_nil]
   have cc:Hid (∀X3,Below X.heap.size X X3->X3.cell? (Ad N 0)=some (.func (.yield l) #[] #[])):=λX3 hb=>cell_later hb (by simp[World.cell?,b8])
   have c1:Hid (∀(X1 X3:Wq),Below (X1.alloc (.cells #[St (qb x.1 rk.head).rel,St (qb x.1 rk.head).x,St (qb x.1 rk.head).y] 111)).heap.size (X1.alloc (.cells #[St (qb x.1 rk.head).rel,St (qb x.1 rk.head).x,St (qb x.1 rk.head).y] 111)) X3->X3.cell? (Ad X1.heap.size 0)=some (St (qb x.1 rk.head).rel)/\X3.cell? (Ad X1.heap.size 1)=some (St (qb x.1 rk.head).x)/\X3.cell? (Ad X1.heap.size 2)=some (St (qb x.1 rk.head).y)):=by
    intro X1 X3 hb;have hh:=(hb.block X1.heap.size (by simp)).trans (zn X1 _);refine⟨?_,?_,?_⟩ <;> simp[World.cell?,hh]
   have c4:Hid (∀(X1:Wq) (O:Obj) (X3:Wq),Below X.heap.size X X1->Below (X1.alloc O).heap.size (X1.alloc O) X3->Below X.heap.size X X3):=λX1 O X3 h1 h2=>(b3.out X1 O h1).trans (h2.mono (by have:=h1.size;simp;omega))
   cases hMh:M (qb x.1 rk.head) with
   | some t=>
    have Qaz:Hid (((ab++[x]).map (λp=>qb p.1 rk.head)).filter (λh=>(M h).isNone)=aa.map (·.1)):=by show _=_;rw[a9.out,hMh];simp
    rw[hMh] at bf;clear hMh a9 b7 cc c1 b6 ae a7 bt Qa9 b8 b0 j0 Q7;generalize hGr:(qb x.1 rk.head).rel=gr at *;generalize hGx:(qb x.1 rk.head).x=gx at *;generalize hGy:(qb x.1 rk.head).y=gy at *;clear hGr hGx hGy
    gi_wp2_with (first | (refine⟨trivial,?_⟩;gi_at_call 89;refine (CallsIn.inRound l2 (callsIn_wide.2 c3.out)).mono ?_;rintro e X1 ⟨rfl,ap⟩;have km:=λO=>ct.out X1 O ap) | (refine⟨trivial,?_⟩;gi_at_call 136;refine (CallsIn.inRound l2 (callsIn_wide.2 (bf.out X1 _ ap))).mono ?_;rintro e X3 ⟨rfl,af⟩))
    refine⟨λf h=>(by cases h),?_⟩
    gi_wp2
    have ad:=c4.out X1 _ X3 ap af;exact⟨KeepsFrom.ofBelow ad,qn.ofBelow ad,aa,HJ.out _ _ _ none j1 (qi ad) (λr e=>by cases e),Qaz.out.symm,j2.tr (qn.ofBelow ad),j3.below ad,j4.tr (qn.ofBelow ad)⟩
   | none=>
    have Qaz:Hid (((ab++[x]).map (λp=>qb p.1 rk.head)).filter (λh=>(M h).isNone)=(aa++[gdX (qb x.1 rk.head) ah]).map (·.1)):=by
     show _=_;rw[a9.out,hMh,List.map_append];rfl
    rw[hMh] at bf
    have Qhf:Hid (∀X3,Below X.heap.size X X3->YieldAt Fence.wide (n - 1) Tryz.prog l #[.agg #[St (qb x.1 rk.head).rel,St (qb x.1 rk.head).x,St (qb x.1 rk.head).y]] X3 λe W'=>∃b:Bool,e=.returned (.bool b)/\((b=true/\J (ys++(aa++[gdX (qb x.1 rk.head) ah])) W'/\qn m X W')\/(b=false/\Jx (ys++(aa++[gdX (qb x.1 rk.head) ah])) W'/\KeepsFrom m X W'))):=by
     have:=b7.out;rw[List.append_assoc] at this;exact this
    generalize aa++[gdX (qb x.1 rk.head) ah]=hs3 at *;clear hMh a9 b7 b6 ae a7 bt Qa9 b8 b0 j0 Q7;generalize hGr:(qb x.1 rk.head).rel=gr at *;generalize hGx:(qb x.1 rk.head).x=gx at *;generalize hGy:(qb x.1 rk.head).y=gy at *;clear hGr hGx hGy
    gi_wp2_with (first | (refine⟨trivial,?_⟩;gi_at_call 89;refine (CallsIn.inRound l2 (callsIn_wide.2 c3.out)).mono ?_;rintro e X1 ⟨rfl,ap⟩;have km:=λO=>ct.out X1 O ap) | (refine⟨trivial,?_⟩;gi_at_call 136;refine (CallsIn.inRound l2 (callsIn_wide.2 (bf.out X1 _ ap))).mono ?_;rintro e X3 ⟨rfl,af⟩;have ad:=c4.out X1 _ X3 ap af;have d4:=cc.out X3 ad;obtain⟨g0,g1,g2⟩:=c1.out X1 X3 af;obtain⟨fn,tmps,assign,body,hy,hR⟩:=Qhf.out X3 ad))
    refine (qe3 hR).mono ?_;rintro e X' ⟨b,rfl,⟨rfl,c6,ak⟩ | ⟨rfl,bv,ak⟩⟩
    .clear hy hR
     gi_wp2
     exact⟨KeepsFrom.up ak.from' (by omega),ak.up (by omega),hs3,c6,Qaz.out.symm,j2.tr ak,j3.keeps ak.from' (by omega),j4.tr (ak.up (by omega))⟩
    .clear hy hR
     gi_wp2
     exact⟨KeepsFrom.up ak (by omega),rfl,⟨_,bv⟩,j3.keeps ak (by omega)⟩
 .have dd:k=R.length:=by omega
  subst dd;have q7:Hid ((∀h,h∈ys.map (·.1)↔qox R M g h)/\ys.length<=R.length*foN nn):=⟨λh=>(Q7.out.1 h).trans (qva R M g h),Q7.out.2⟩;clear Q7 aw
  gi_wp2
  show LeavesInM Fence.wide n Tryz.prog _ _ _ (qe1 ds) .returning V;refine qf7 (X:=J ys) (B:=N) (λ_ A B row hs hg hr=>HJ.out ys A B row hs hg hr) ds V be.nodup (λD hD=>⟨by have:=(be.at' D hD).1;omega,(be.at' D hD).2⟩) ch (λW' hx=>?_);exact⟨_,results_none rfl _ _ _,⟨_,rfl⟩,.inl ⟨ys,q7.out,hx⟩⟩
