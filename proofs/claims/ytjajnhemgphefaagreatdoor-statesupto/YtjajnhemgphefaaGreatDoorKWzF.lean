/- A part -/
import Derived.Test.YtjajnhemgphefaaGreatDoorKWyT
set_option linter.all false
set_option maxRecDepth 100000
set_option maxHeartbeats 2000000
namespace Go.Proofs.YtjajnhemgphefaaGreatDoor
open Go renaming World->Wq,Value->Vq
open Go.RowKit Go.Shelf
variable {rs:List Rl} {e:Eg} {y:Er} {ds:List Dk} {W W':Wq} {k n':Nat} {F:Nat->Eg->Er->Prop} {Q:Nat->Prop} {vl:Vq}
theorem qss(h:qim rs):qd8 (arR rs) rs:=by
 refine⟨λr hr a ha=>?_,λr hr v hv=>?_⟩
 .have hm:a∈rs.flatMap qx:=List.mem_flatMap.2 ⟨r,hr,ha⟩;exact⟨⟨(h.arity a hm).2,h.nums a hm⟩,(h.arity a hm).1⟩
 .obtain⟨t,ht,h1,h2⟩:=hv;obtain⟨a,ha,u,hu,h3,h4⟩:=h.safe r hr t ht ((Q9 _).1 h1);exact⟨a,ha,u,hu,(Q9 _).2 h3,h4.trans h2⟩
theorem q8n(h:qde e)(bo:eB∉e.names):qdy e.rs e.names:=by
 refine⟨λr hr=>⟨(h.rs.rok r hr).body,λa ha=>?_,(qss h.rs).safe r hr⟩,h.n8,bo,λr hr t ht he=>h.nrs r hr t ht (λe=>?_),?_⟩
 .have hm:a∈e.rs.flatMap qx:=List.mem_flatMap.2 ⟨r,hr,ha⟩;exact⟨by have:=(h.rs.arity a hm).2;omega,λt ht=>by have:=h.rs.nums a hm t ht;omega⟩
 .rw[e] at he;rw[show qg eB=true from qcn] at he;cases he
 .have:=qxm e.rs (λr hr=>(h.rs.rok r hr).body);have:=h.rs.r8;omega
theorem Qcy(h:qde e){g:Gd}(h1:g∈uni (qcz e.rs) e.names)(h2:qc6 (arR e.rs) g):qj7 e.rs e.names (qbr g):=by
 obtain⟨hr,hx,hy⟩:=qes.1 h1;unfold qcz at hr;obtain⟨a,ha,hrel⟩:=List.mem_map.1 hr;have bt:=(h.rs.arity a ha).1;rw[hrel] at bt;obtain⟨b8,⟨h3,h4⟩ | ⟨h3,h4⟩⟩:=h2
 .have hg:qbr g=⟨g.rel,[g.x]⟩:=by unfold qbr;rw[if_pos (by exact (Q9 _).2 h4)]
  rw[hg];exact⟨⟨a,ha,hrel.symm,by simp;omega⟩,λx al=>by simp at al;rw[al];exact hx⟩
 .have hg:qbr g=⟨g.rel,[g.x,g.y]⟩:=by unfold qbr;rw[if_neg (by intro e;exact h4 ((Q9 _).1 e))]
  rw[hg];refine⟨⟨a,ha,hrel.symm,by simp;omega⟩,λx al=>?_⟩;simp at al;rcases al with rfl | rfl
  .exact hx
  .rcases hy with hy | hy
   .exact absurd hy h4
   .exact hy
theorem qhq.fine(h:qhq e y ds)(aa:qde e):qwy y:=by
 have hf:qdy y.rs y.names:=by
  have:=q8n aa (by rw[h.names];exact h.ne);rw[h.rs,h.names] at this;exact this
 refine⟨hf,λf aj=>?_,h.sok⟩;have hs:=h.facts;unfold qgj at hs;rw[hs] at aj;obtain⟨d,hd,rfl⟩:=List.mem_map.1 aj;have hk:=aa.kept (d.1,d.2.1) (by rw[h.kept];exact List.mem_map.2 ⟨d,hd,rfl⟩);have:=Qcy aa hk.1 hk.2.1;rw[h.rs,h.names] at this;exact this
theorem qhq.sz(h:qhq e y ds)(aa:qde e)(bk:y.feeds.length<=3):qz4 y:=by
 have hf:=h.fine aa;have hl:y.facts.length=e.kept.length:=by rw[h.kept,h.facts];simp
 refine⟨by rw[<- h.rs];exact aa.rs.r8,λr hr=>(aa.rs.rok r (by rw[h.rs];exact hr)).body,by rw[<- h.win];exact aa.win,by rw[<- h.lat];exact aa.lat,by rw[<- h.que];exact aa.que,by rw[<- h.mark];exact aa.mark,h.clk.2,by have:=aa.k24;omega,λf aj=>⟨Qao hf.fine (hf.gr f aj),?_⟩,by rw[<- h.names];exact aa.n8,?_,bk⟩
 .have hs:=h.facts;unfold qgj at hs;rw[hs] at aj;obtain⟨d,hd,rfl⟩:=List.mem_map.1 aj;exact (aa.kept (d.1,d.2.1) (by rw[h.kept];exact List.mem_map.2 ⟨d,hd,rfl⟩)).2.2
 .exact Nat.le_trans (qlq y.state _ h.nodup (λg hg=>q43 hf.fine (h.sok g hg))) (qz1 hf.fine)
theorem qhq.are(h:qhq e y ds)(aa:qde e):∀d∈ds,ArE (arR e.rs) d.1:=λd hd=>qxb.1 (aa.kept (d.1,d.2.1) (by rw[h.kept];exact List.mem_map.2 ⟨d,hd,rfl⟩)).2.1
theorem qhq.holds(h:qhq e y ds)(aa:qde e)(g:Gd):(e.M g).isSome=true↔qbr g∈y.state:=by
 rw[h.state,<- h.rs,<- h.win,<- h.mark];exact q2c (qss aa.rs) h.facts (h.are aa) h.least (by have:=aa.mark;omega) h.beg g
theorem q78{s:By}(hg:qw4 s rs){win lat que:Int}(ha:qbm win lat que){M:Gd->Option Int}(hM:qcv rs (Qo rs) M){st:List Gr}(hs:qfc rs [] (nmL [] (Qp (qap rs))) st):qhq (q1p rs win lat que M) (qp7 rs win lat que st) []:=by
 obtain⟨h1,h2,h3⟩:=ha;refine⟨rfl,rfl,rfl,rfl,rfl,⟨by show (0:Int) - lat<=0;omega,by show (0:Int)<=0;omega,by show (0:Int)<=1000000;omega⟩,hg.names,?_,rfl,rfl,hM,λd hd=>(by cases hd),hs.1.nodup,hs.1.ok,hs.2⟩;show eB∉nmL [] (Qp (qap rs));rw[<- hg.names];exact hg.ne
structure Pr where
 bx:Nat
 bz:Nat
 e:Eg
 y:Er
 ds:List Dk
 S:Nat->Prop
 T:Nat->Prop
def Pr.U(p:Pr)(k:Nat):Prop:=p.S k\/p.T k
def XTy(W:Wq)(k:Nat):Prop:=WTy W k\/RTy W k
theorem RTy.lt(h:RTy W k):k < W.heap.size:=by
 obtain⟨c,t,h1,_⟩:=h;exact (zg h1).1
theorem XTy.lt(h:XTy W k):k < W.heap.size:=h.elim WTy.lt RTy.lt
theorem RTy.n(h:RTy W k):NTy W k:=by
 obtain⟨c,t,h1,h2⟩:=h;exact⟨c,t,h1,by rcases h2 with rfl | rfl | rfl | rfl | rfl | rfl <;> decide⟩
theorem XTy.n(h:XTy W k):NTy W k:=h.elim WTy.n RTy.n
theorem XTy.not{c:Array Vq}{t:TypeId}(h:W.heap[k]?=cC c t)(h1:t≠101/\t≠161/\t≠120/\t≠198/\t≠71/\t≠9)(h2:t≠222/\t≠233/\t≠226/\t≠246):¬XTy W k:=by
 rintro (hw | ⟨c',t',h3,h4⟩)
 .exact WTy.not h h1 hw
 .rw[h] at h3;cases h3;rcases h4 with h4 | h4 | h4 | h4 | h4 | h4
  .exact h2.1 h4
  .exact h2.2.1 h4
  .exact h1.2.2.2.2.2 h4
  .exact h2.2.2.1 h4
  .exact h2.2.2.2 h4
  .exact h1.2.2.2.2.1 h4
theorem qb4.tyW{S:Nat->Prop}{be:Nat}(h:qb4 W S be e):∀k,S k->WTy W k:=by
 obtain⟨vr,vn,vk,vf,bm,rb,bv,b7,b4,Sf,hv⟩:=h;exact hv.typ
structure qg1(W:Wq)(p:Pr):Prop where
 x:qb4 W p.S p.bx p.e
 y:ErM W p.T p.bz p.y
 ty:∀k,p.T k->RTy W k
 sep:∀k,p.S k->¬p.T k
theorem qg1.uty{p:Pr}(h:qg1 W p):∀k,p.U k->XTy W k:=λk hk=>hk.elim (λh1=>.inl (h.x.tyW k h1)) (λh1=>.inr (h.ty k h1))
theorem qvt{ex:Nat->Prop}(hc:Chg W W' ex)(hx:∀k,k < W.heap.size->ex k->XTy W k):qli W W':=λk c t ht hk=>by
 have aq:=(zg hk).1;refine hc.block k aq (λe=>XTy.not hk ?_ ?_ (hx k aq e))
 .rcases ht with rfl | rfl | rfl <;> decide
 .rcases ht with rfl | rfl | rfl <;> decide
theorem ErM.keep{T:Nat->Prop}{b:Nat}(h:ErM W T b y)(hz:W.heap.size<=W'.heap.size)(hk:∀k,T k->W'.heap[k]?=W.heap[k]?)(hr:qli W W'):ErM W' T b y:=by
 obtain⟨vr,vf,vn,vs,vd,qs,fs,ss,ds,hv⟩:=h;exact⟨vr,vf,vn,vs,vd,qs,fs,ss,ds,hv.keep hz hk hr⟩
theorem qg1.keep{p:Pr}(h:qg1 W p){ex:Nat->Prop}(hc:Chg W W' ex)(hU:∀k,p.U k->¬ex k)(hx:∀k,k < W.heap.size->ex k->XTy W k):qg1 W' p:=by
 have hk:∀k,p.U k->W'.heap[k]?=W.heap[k]?:=λk hk=>hc.block k (h.uty k hk).lt (hU k hk);exact⟨h.x.keepN hc (λk hk=>hU k (.inl hk)) (λk h1 h2=>(hx k h1 h2).n),h.y.keep hc.size (λk ab=>hk k (.inr ab)) (qvt hc hx),λk ab=>(h.ty k ab).same (hk k (.inr ab)),h.sep⟩
def qbf(p:Pr)(W:Wq)(p':Pr)(W':Wq):Prop:=qg1 W' p'/\p'.bx=p.bx/\p'.bz=p.bz/\(∀k,p'.U k->p.U k\/W.heap.size<=k)/\Chg W W' p.U
theorem qbf.same{p:Pr}(h:qg1 W p)(hb:Below W.heap.size W W'):qbf p W p W':=
 ⟨h.keep (Chg.ofBelow (λ_=>False) hb) (λ_ _=>id) (λ_ _=>False.elim),rfl,rfl,λk hk=>.inl hk,Chg.ofBelow _ hb⟩
theorem qbf.trans{p p1 p2:Pr}{W1 W2:Wq}(h:qbf p W p1 W1)(k:qbf p1 W1 p2 W2):qbf p W p2 W2:=by
 obtain⟨h1,h2,h3,h4,h5⟩:=h;obtain⟨k1,k2,k3,k4,k5⟩:=k;have hz:=h5.size;refine⟨k1,k2.trans h2,k3.trans h3,λj hj=>?_,⟨k5.os.trans h5.os,k5.tape.trans h5.tape,k5.output.trans h5.output,Nat.le_trans h5.size k5.size,λi hi hn=>(k5.block i (Nat.lt_of_lt_of_le hi h5.size) (λe=>?_)).trans (h5.block i hi hn)⟩⟩
 .rcases k4 j hj with h6 | h6
  .exact h4 j h6
  .right;omega
 .rcases h4 i e with h6 | h6
  .exact hn h6
  .omega
theorem qg1.runX{p:Pr}(h:qg1 W p){e':Eg}(hp:Q0 p.S p.bx e' W W')(ac:List Dk):∃S',qbf p W {p with e:=e',S:=S',ds:=ac} W':=by
 obtain⟨S',h1,h2,h3⟩:=hp;have hT:∀k,p.T k->W'.heap[k]?=W.heap[k]?:=λk hk=>h3.block k (h.ty k hk).lt (λe=>h.sep k e hk);refine⟨S',⟨h1,h.y.keep h3.size hT (qvt h3 (λk _ e=>.inl (h.x.tyW k e))),λk hk=>(h.ty k hk).same (hT k hk),λk hk ab=>?_⟩,rfl,rfl,λk hk=>?_,h3.mono (λk _ hk=>.inl hk)⟩
 .rcases h2 k hk with h4 | h4
  .exact h.sep k h4 ab
  .have:=(h.ty k ab).lt;omega
 .rcases hk with hk | hk
  .exact (h2 k hk).imp .inl id
  .exact .inl (.inr hk)
theorem qg1.runY{p:Pr}(h:qg1 W p){y':Er}(hp:qan p.T p.bz y' W W')(ac:List Dk):∃T',qbf p W {p with y:=y',T:=T',ds:=ac} W':=by
 obtain⟨⟨T',h1,h2⟩,h3⟩:=hp;have hS:∀k,p.S k->¬p.T k:=h.sep;refine⟨λk=>T' k/\RTy W' k,⟨h.x.keepN h3 hS (λk _ e=>(h.ty k e).n),h1.narrow,λk hk=>hk.2,λk hk ab=>?_⟩,rfl,rfl,λk hk=>?_,h3.mono (λk _ hk=>.inr hk)⟩
 .rcases h2 k ab.1 with h4 | h4
  .exact h.sep k hk h4
  .have:=(h.x.tyW k hk).lt;omega
 .rcases hk with hk | hk
  .exact .inl (.inl hk)
  .exact (h2 k hk.1).imp .inr id
structure qq9(F:Nat->Eg->Er->Prop)(n:Nat)(p:Pr):Prop where
 ok:qde p.e
 rel:qhq p.e p.y p.ds
 f3:p.y.feeds.length<=3
 fd:F n p.e p.y
def prC(p:Pr):List Vq:=[Pt p.bx,Pt p.bz]
structure LwI(F:Nat->Eg->Er->Prop)(n:Nat)(w:Wq)(Q:Nat->Prop)(vl:Vq)(ps:List Pr)(W:Wq):Prop where
 row:W.ownsRow w.heap.size 81 2 vl ps.length (ps.flatMap prC)
 each:∀p∈ps,qg1 W p/\qq9 F n p
 low:∀p∈ps,∀k,p.U k->w.heap.size<=k/\¬Q k
 sep:∀(i j:Nat) (p q:Pr),ps[i]?=some p->ps[j]?=some q->i≠j->∀k,p.U k->¬q.U k
 below:Below w.heap.size w W
 q:∀k,Q k->k < W.heap.size
theorem LwI.change{n:Nat}{w:Wq}{ps:List Pr}(h:LwI F n w Q vl ps W)(hF:∀e y,F n e y->F n' e y){i:Nat}{p p':Pr}(hi:ps[i]?=some p)(hp:qbf p W p' W')(aa:qq9 F n' p'):LwI F n' w Q vl (ps.set i p') W':=by
 obtain⟨h1,h2,h3,h4,h5⟩:=hp;have ap:p∈ps:=List.mem_of_getElem? hi;have ae:∀k,k < W.heap.size->p.U k->XTy W k:=λk _ hk=>(h.each p ap).1.uty k hk;have aq:i < ps.length:=(List.getElem?_eq_some_iff.1 hi).1;have b3:ps[i]=p:=(List.getElem?_eq_some_iff.1 hi).2
 have bj:(ps.set i p').flatMap prC=ps.flatMap prC:=by
  have he:prC p'=prC p:=by unfold prC;rw[h2,h3]
  clear h h1 h4 h5 ae ap
  induction ps generalizing i with
  | nil=>rfl
  | cons q ps ih=>
   cases i with
   | zero=>
    have:q=p:=by simpa using hi
    subst this;simp[he]
   | succ i=>
    have a6:ps[i]?=some p:=by simpa using hi
    have bq:i < ps.length:=(List.getElem?_eq_some_iff.1 a6).1;simp only[List.set_cons_succ,List.flatMap_cons];rw[ih a6 bq (List.getElem?_eq_some_iff.1 a6).2]
 have an:∀(j:Nat) (q:Pr),(ps.set i p')[j]?=some q->(j=i/\q=p')\/(j≠i/\ps[j]?=some q):=λj q hq=>by
  by_cases e:j=i
  .subst e;rw[List.getElem?_set_self aq] at hq;exact .inl ⟨rfl,by simpa using hq.symm⟩
  .rw[List.getElem?_set_ne (Ne.symm e)] at hq;exact .inr ⟨e,hq⟩
 have Qbc:∀(j:Nat) (q:Pr),j≠i->ps[j]?=some q->qg1 W' q:=λj q hj hq=>(h.each q (List.mem_of_getElem? hq)).1.keep h5 (λk hk=>h.sep j i q p hq hi hj k hk) ae
 have Qdm:∀(j:Nat) (q:Pr),j≠i->ps[j]?=some q->∀k,q.U k->¬p'.U k:=λj q hj hq k hk ab=>by
  rcases h4 k ab with h6 | h6
  .exact h.sep j i q p hq hi hj k hk h6
  .have:=((h.each q (List.mem_of_getElem? hq)).1.uty k hk).lt;omega
 refine⟨?_,λq hq=>?_,λq hq k hk=>?_,λj l q r hq hr a8 k hk ab=>?_,?_,λk hk=>Nat.lt_of_lt_of_le (h.q k hk) h5.size⟩
 .rw[List.length_set,bj];refine qm h.row (λg hg hl=>h5.block g hl (λe=>?_));obtain⟨c,hc⟩:=qh h.row hg;exact XTy.not hc (by decide) (by decide) (ae g hl e)
 .obtain⟨j,hj,rfl⟩:=List.getElem_of_mem hq;rcases an j _ (List.getElem?_eq_getElem hj) with⟨_,e⟩ | ⟨e,ah⟩
  .rw[e];exact⟨h1,aa⟩
  .have:=(h.each _ (List.mem_of_getElem? ah)).2;exact⟨Qbc j _ e ah,⟨this.ok,this.rel,this.f3,hF _ _ this.fd⟩⟩
 .obtain⟨j,hj,rfl⟩:=List.getElem_of_mem hq;rcases an j _ (List.getElem?_eq_getElem hj) with⟨_,e⟩ | ⟨e,ah⟩
  .rw[e] at hk;rcases h4 k hk with h6 | h6
   .exact h.low p ap k h6
   .have:=h.below.size;refine⟨by omega,λhQ=>?_⟩;have:=h.q k hQ;omega
  .exact h.low _ (List.mem_of_getElem? ah) k hk
 .rcases an j q hq with⟨rfl,rfl⟩ | ⟨e,ah⟩
  .rcases an l r hr with⟨rfl,rfl⟩ | ⟨e',az⟩
   .exact a8 rfl
   .exact Qdm l r e' az k ab hk
  .rcases an l r hr with⟨rfl,rfl⟩ | ⟨e',az⟩
   .exact Qdm j q e ah k hk ab
   .exact h.sep j l q r ah az a8 k hk ab
 .exact h.below.trans (h5.below h.below.size (λk hk=>(h.low p ap k hk).1))
theorem LwI.same{n:Nat}{w:Wq}{ps:List Pr}(h:LwI F n w Q vl ps W)(hF:∀e y,F n e y->F n' e y)(hb:Below W.heap.size W W'):LwI F n' w Q vl ps W':=
 ⟨qk h.row hb,λp hp=>⟨(qbf.same (h.each p hp).1 hb).1,⟨(h.each p hp).2.ok,(h.each p hp).2.rel,(h.each p hp).2.f3,hF _ _ (h.each p hp).2.fd⟩⟩,h.low,h.sep,h.below.trans (hb.mono h.below.size),λk hk=>Nat.lt_of_lt_of_le (h.q k hk) hb.size⟩
structure Stp where
 kind:Int
 e:Int
 s:By
 a:Int
 b:Int
 c:Int
def Stp.v(o:Stp):Vq:=.agg #[Ii o.kind,Ii o.e,St o.s,Ii o.a,Ii o.b,Ii o.c]
def Pr.v(p:Pr):Vq:=.agg #[Pt p.bx,Pt p.bz]
structure FOk(F:Nat->Eg->Er->Prop):Prop where
 mono:∀n e y,F n e y->F (n+1) e y
 ins:∀n e y s t,F n e y->F n (qkd e s t).2 (qf4 y s t).2
 tick:∀n e y ds c e' y' r r',qde e->qhq e y ds->F n e y->qru e c e' r->qnt y c y' r'->F n e' y'/\y'.feeds.length<=3
 new:∀n rs win lat que M st,F n (q1p rs win lat que M) (qp7 rs win lat que st)
 mvx:∀n e y,qde e->F n e y->q21 e
 mv:∀b n e y ds,qde e->qhq e y ds->F n e y->∀i,i < y.feeds.length->∀m st,qw0 b i y.state y.que m st
theorem qlo(s:By):∀a,qcx s=some a->qkr a/\∀t∈a.args,t.num < 6:=by
 intro a ha;rw[<- qqd] at ha;have h1:=ha;unfold qgh at ha;split at ha
 .cases ha
 rename_i hL;split at ha
 .cases ha
 rename_i ho;obtain⟨t,p,us,L,b6,k,e1,e2,e3,e4,e5⟩:=qv7 (Q6 s) (qe2 s) (by simpa [okO] using ho);have ad:=qh4 s (by omega);rw[e1] at ha ad;unfold qqc at ha;simp only[e2] at ha;injection ha with ha;subst ha;refine⟨⟨ad t (by simp),e3,λu hu=>⟨qiu 1200 us _ _ _ _ (λv hv=>ad v (by simp[hv])) e2 u hu,by have:=e5 u hu;omega⟩⟩,λu hu=>by have:=e5 u hu;omega⟩
theorem qpw(y:Er)(s:By)(t:Int):(qf4 y s t).2.feeds=y.feeds:=by
 unfold qf4
 repeat' split
 all_goals rfl
theorem q1m(hF:FOk F){n:Nat}{p:Pr}{W:Wq}(h:qg1 W p)(aa:qq9 F n p)(o:Stp)(hk:o.kind=3\/o.kind=4)(hs:o.s.size<=1048576)(hT:Lib.Utf8Tabs 0 1 W) :
  Cs 35 #[p.v,o.v] W λen W'=>en=.returned (.bool true)/\∃p',qbf p W p' W'/\qq9 F n p':=by
 unfold Pr.v Stp.v;have HP:Hid (qg1 W p):=h;have HO:Hid (qq9 F n p):=aa;have bn:Hid (∀Y,Below W.heap.size W Y->Lib.Utf8Tabs 0 1 Y):=λY hY=>Utf8Tabs_below hT hY;clear h aa hT;obtain⟨kd,ke,s,a,b,c⟩:=o;simp only at hk hs ⊢;obtain⟨N,hN⟩:∃N,W.heap.size=N:=⟨_,rfl⟩;obtain⟨W0,aw⟩:∃W0,(W.alloc (.cells #[Pt p.bx,Pt p.bz] 81)).alloc (.cells #[Ii kd,Ii ke,St s,Ii a,Ii b,Ii c] 34)=W0:=⟨_,rfl⟩;have ax:Below W.heap.size W W0:=by rw[<- aw];exact ((Below.refl _ W).alloc zl _).alloc (by simp) _
 have ao:W0.heap[N]?=cC #[Pt p.bx,Pt p.bz] 81:=by
  rw[<- aw,<- hN];exact (Below.heap_alloc _ _ _ (by simp)).trans (zn W _)
 have ag:W0.heap[N+1]?=cC #[Ii kd,Ii ke,St s,Ii a,Ii b,Ii c] 34:=by
  rw[<- aw,<- hN];have:=zn (W.alloc (.cells #[Pt p.bx,Pt p.bz] 81)) (.cells #[Ii kd,Ii ke,St s,Ii a,Ii b,Ii c] 34);simpa using this
 have au:qbf p W p W0:=qbf.same HP.out ax;have a9:Hid (qbf p W p W0):=au;have av:=bn.out W0 ax
 have HC:Hid (∀p1 Y,qbf p W0 p1 Y->Y.cell? (Ad N 1)=some (Pt p.bz)/\Y.cell? (Ad (N+1) 2)=some (St s)/\Y.cell? (Ad (N+1) 3)=some (Ii a)):=λp1 Y hY=>by
  have ae:∀k,p.U k->XTy W0 k:=au.1.uty;have h1:=(hY.2.2.2.2.block N (zg ao).1 (λe=>XTy.not ao (by decide) (by decide) (ae N e))).trans ao;have h2:=(hY.2.2.2.2.block (N+1) (zg ag).1 (λe=>XTy.not ag (by decide) (by decide) (ae (N+1) e))).trans ag;exact⟨zc h1,zc h2,zc h2⟩
 have c0:W0.cell? (Ad N 0)=some (Pt p.bx):=zc ao
 have c1:W0.cell? (Ad (N+1) 0)=some (Ii kd):=zc ag
 have c2:W0.cell? (Ad (N+1) 2)=some (St s):=zc ag
 have c3:W0.cell? (Ad (N+1) 3)=some (Ii a):=zc ag
 have ak:=au.1;clear ax ao ag au;rcases hk with rfl | rfl
 .obtain⟨a7,ac,bc⟩:=q7z HO.out.rel HO.out.ok s a
  have bf:Hid (Cs 20 #[Pt p.bx,St s,Ii a] W0 λe w'=>e=.returned (Ii (qf4 p.y s a).1)/\∃S1,qbf p W0 {p with e:=(qkd p.e s a).2,S:=S1,ds:=ac} w'):=by
   refine (qyc p.S p.bx p.e s a W0 ak.x HO.out.ok (by omega) av (λu hu=>(qlo s u hu).2)).mono ?_;rintro e w' ⟨k1,k2⟩;rw[a7] at k1;exact⟨k1,ak.runX k2 ac⟩
  have ad:=HO.out.rel.sz HO.out.ok HO.out.f3
  have bi:Hid (∀S1 Y,qbf p W0 {p with e:=(qkd p.e s a).2,S:=S1,ds:=ac} Y->Cs 67 #[Pt p.bz,St s,Ii a] Y λe w'=>e=.returned (Ii (qf4 p.y s a).1)/\∃p',qbf p W p' w'/\qq9 F n p'):=λS1 Y hY=>by
   obtain⟨vr,vf,vn,vs,vd,qs,fs,ss,bu,hv⟩:=hY.1.y;refine (qvq hv ad s hs a).mono ?_;rintro e w' ⟨k1,k2⟩;obtain⟨T',k3⟩:=hY.1.runY k2 ac;refine⟨k1,_,a9.out.trans (hY.trans k3),⟨Qby HO.out.ok s (λu hu=>(qlo s u hu).1) a,bc,?_,hF.ins n _ _ s a HO.out.fd⟩⟩;show (qf4 p.y s a).2.feeds.length<=3;rw[qpw];exact HO.out.f3
  clear a7 bc ad ak av;go_enter Tryz.func35,Tryz.ntmps35;go_wp2_with fail;refine Calls.mono bf.out ?_;clear bf;rintro e' W1 ⟨rfl,S1,af⟩;obtain⟨d1,d2,d3⟩:=HC.out _ W1 af;have hy:=bi.out S1 W1 af;clear af c0 c1 c2 c3;go_wp2_with fail;refine Calls.mono hy ?_;clear hy bi;rintro e' W2 ⟨rfl,am⟩;have ay:Hid _:=am;clear am d1 d2 d3;go_wp2;go_ret;exact⟨by simp,ay.out⟩
 .have bd:Hid (Cs 22 #[Pt p.bx,Ii a] W0 λe w'=>∃(r:Int) (f:Int) (e':Eg),e=.returned (.tuple #[Ii r,Ii f])/\qru p.e a e' (r,f)/\∃S1,qbf p W0 {p with e:=e',S:=S1} w'):=by
   refine (q2j p.S p.bx p.e a W0 ak.x HO.out.ok (hF.mvx n p.e p.y HO.out.ok HO.out.fd)).mono ?_;rintro e w' ⟨e',r,k1,k2,k3⟩;exact⟨r.1,r.2,e',k2,k1,ak.runX k3 p.ds⟩
  have ad:=HO.out.rel.sz HO.out.ok HO.out.f3;have bb:=HO.out.rel.fine HO.out.ok
  have ae:Hid (∀S1 e' r f Y,qru p.e a e' (r,f)->qbf p W0 {p with e:=e',S:=S1} Y->Cs 68 #[Pt p.bz,Ii a] Y λe w'=>e=.returned (.tuple #[Ii r,Ii f])/\∃p',qbf p W p' w'/\qq9 F n p'):=λS1 e' r f Y ai hY=>by
   obtain⟨vr,vf,vn,vs,vd,qs,fs,ss,bu,hv⟩:=hY.1.y;refine (q2i hv ad bb a (hF.mv p.bz n p.e p.y p.ds HO.out.ok HO.out.rel HO.out.fd)).mono ?_;rintro e w' ⟨y',r',k1,k2,k3⟩;obtain⟨h1,ac,h2⟩:=q6i HO.out.rel HO.out.ok ai k1;obtain⟨h3,h4⟩:=hF.tick n _ _ _ _ _ _ _ _ HO.out.ok HO.out.rel HO.out.fd ai k1;obtain⟨T',k4⟩:=hY.1.runY k3 ac;rw[<- h1] at k2;exact⟨k2,_,a9.out.trans (hY.trans k4),⟨q8s HO.out.ok ai,h2,h4,h3⟩⟩
  clear ad bb ak av;go_enter Tryz.func35,Tryz.ntmps35;go_wp2_with fail;refine Calls.mono bd.out ?_;clear bd;rintro e' W1 ⟨r,f,e1,rfl,ai,S1,af⟩;obtain⟨d1,d2,d3⟩:=HC.out _ W1 af;have hy:=ae.out S1 e1 r f W1 ai af;clear af ai c0 c1 c2 c3;go_wp2_with fail;refine Calls.mono hy ?_;clear hy ae;rintro e' W2 ⟨rfl,am⟩;have ay:Hid _:=am;clear am d1 d2 d3;go_wp2;go_ret;exact⟨by simp,ay.out⟩
theorem q1f(c:Int)(n:Nat)(w:Wq)(hn:1<=n)(b5:n<=10000000)(hc : -9223372036854775808<=c/\c<=9223372036854775807) :
  Cs 34 #[Ii c,Ii n] w λe w'=>∃r:Nat,r < n/\e=.returned (Ii r)/\w=w':=by
 have b0:((n:Int) == 0)=false:=by simp;omega
 have hp:=qt0 c n (by omega);have bh:((qkn c n).toNat:Int)=qkn c n:=Int.toNat_of_nonneg hp.1;have HR:Hid (∀x:Int,x=qkn c n->∃r:Nat,r < n/\Ending.returned (Ii x)=.returned (Ii r)):=λx hx=>⟨(qkn c n).toNat,by omega,by rw[bh,hx]⟩;clear hp bh;by_cases h:c < 0
 .go_enter Tryz.func34,Tryz.ntmps34;go_wp2;go_ret;obtain⟨r,h1,h2⟩:=HR.out _ (q5v c n (by omega));exact⟨r,h1,h2,rfl⟩
 .go_enter Tryz.func34,Tryz.ntmps34;go_wp2;go_ret;obtain⟨r,h1,h2⟩:=HR.out (c % n) (by unfold qkn;rw[if_neg (by omega)]);exact⟨r,h1,h2,rfl⟩
