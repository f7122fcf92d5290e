/- A pair more: both make an engine, or both refuse. -/
import Derived.Test.YtjajnhemgphefaaGreatDoorJWyT
set_option linter.unusedVariables false
set_option linter.unusedSimpArgs false
set_option maxRecDepth 100000
set_option maxHeartbeats 2000000
namespace Go.Proofs.YtjajnhemgphefaaGreatDoor
open Go renaming World->Wq,Value->Vq
open Go.RowKit Go.Shelf
variable {rs:List Rl} {e:Eg} {y:Er} {ds:List Dk} {W W' W1 W2:Wq} {k n':Nat} {F:Nat->Eg->Er->Prop} {Q:Nat->Prop} {vl:Vq}
theorem qmz(h:qic rs):qdj (arR rs) rs:=by
 refine⟨λr hr a ha=>?_,λr hr v hv=>?_⟩
 ·have hm:a∈rs.flatMap qy:=List.mem_flatMap.2 ⟨r,hr,ha⟩;exact⟨⟨(h.arity a hm).2,h.nums a hm⟩,(h.arity a hm).1⟩
 ·obtain⟨t,ht,h1,h2⟩:=hv;obtain⟨a,ha,u,hu,h3,h4⟩:=h.safe r hr t ht ((Q8 _).1 h1);exact⟨a,ha,u,hu,(Q8 _).2 h3,h4.trans h2⟩
theorem q68(h:qci e)(hne:eB∉e.names):qds e.rs e.names:=by
 refine⟨λr hr=>⟨(h.rs.rok r hr).body,λa ha=>?_,(qmz h.rs).safe r hr⟩,h.n8,hne,λr hr t ht he=>h.nrs r hr t ht (λe=>?_),?_⟩
 ·have hm:a∈e.rs.flatMap qy:=List.mem_flatMap.2 ⟨r,hr,ha⟩;exact⟨by have:=(h.rs.arity a hm).2;omega,λt ht=>by have:=h.rs.nums a hm t ht;omega⟩
 ·rw[e] at he;rw[show qg eB=true from qck] at he;cases he
 ·have:=qw0 e.rs (λr hr=>(h.rs.rok r hr).body);have:=h.rs.r8;omega
theorem Qbe(h:qci e){g:Gd}(h1:g∈uni (qc9 e.rs) e.names)(h2:qdy (arR e.rs) g):qjt e.rs e.names (qdh g):=by
 obtain⟨hr,hx,hy⟩:=qe7.1 h1;unfold qc9 at hr;obtain⟨a,ha,hrel⟩:=List.mem_map.1 hr;have har:=(h.rs.arity a ha).1;rw[hrel] at har;obtain⟨hx0,⟨h3,h4⟩ | ⟨h3,h4⟩⟩:=h2
 ·have hg:qdh g=⟨g.rel,[g.x]⟩:=by unfold qdh;rw[if_pos (by exact (Q8 _).2 h4)]
  rw[hg];exact⟨⟨a,ha,hrel.symm,by simp;omega⟩,λx hx'=>by simp at hx';rw[hx'];exact hx⟩
 ·have hg:qdh g=⟨g.rel,[g.x,g.y]⟩:=by unfold qdh;rw[if_neg (by intro e;exact h4 ((Q8 _).1 e))]
  rw[hg];refine⟨⟨a,ha,hrel.symm,by simp;omega⟩,λx hx'=>?_⟩;simp at hx';rcases hx' with rfl | rfl
  ·exact hx
  ·rcases hy with hy | hy
   ·exact absurd hy h4
   ·exact hy
theorem qib.fine(h:qib e y ds)(hok:qci e):qoc y:=by
 have hf:qds y.rs y.names:=by
  have:=q68 hok (by rw[h.names];exact h.ne);rw[h.rs,h.names] at this;exact this
 refine⟨hf,λf hf'=>?_,h.sok⟩;have hs:=h.facts;unfold qff at hs;rw[hs] at hf';obtain⟨d,hd,rfl⟩:=List.mem_map.1 hf';have hk:=hok.kept (d.1,d.2.1) (by rw[h.kept];exact List.mem_map.2 ⟨d,hd,rfl⟩);have:=Qbe hok hk.1 hk.2.1;rw[h.rs,h.names] at this;exact this
theorem qib.sz(h:qib e y ds)(hok:qci e)(hfd:y.feeds.length<=3):qwc y:=by
 have hf:=h.fine hok;have hl:y.facts.length=e.kept.length:=by rw[h.kept,h.facts];simp
 refine⟨by rw[<- h.rs];exact hok.rs.r8,λr hr=>(hok.rs.rok r (by rw[h.rs];exact hr)).body,by rw[<- h.win];exact hok.win,by rw[<- h.lat];exact hok.lat,by rw[<- h.que];exact hok.que,by rw[<- h.mark];exact hok.mark,h.clk.2,by have:=hok.k24;omega,λf hf'=>⟨qw3 hf.fine (hf.gr f hf'),?_⟩,by rw[<- h.names];exact hok.n8,?_,hfd⟩
 ·have hs:=h.facts;unfold qff at hs;rw[hs] at hf';obtain⟨d,hd,rfl⟩:=List.mem_map.1 hf';exact (hok.kept (d.1,d.2.1) (by rw[h.kept];exact List.mem_map.2 ⟨d,hd,rfl⟩)).2.2
 ·exact Nat.le_trans (qla y.state _ h.nodup (λg hg=>q32 hf.fine (h.sok g hg))) (qze hf.fine)
theorem qib.are(h:qib e y ds)(hok:qci e):∀d∈ds,ArE (arR e.rs) d.1:=λd hd=>q81.1 (hok.kept (d.1,d.2.1) (by rw[h.kept];exact List.mem_map.2 ⟨d,hd,rfl⟩)).2.1
theorem qib.holds(h:qib e y ds)(hok:qci e)(g:Gd):(e.M g).isSome=true↔qdh g∈y.state:=by
 rw[h.state,<- h.rs,<- h.win,<- h.mark];exact q1i (qmz hok.rs) h.facts (h.are hok) h.least (by have:=hok.mark;omega) h.beg g
theorem q1s(h:qib e y ds)(hok:qci e)(s:ByteArray){r:Int×Int}(hu:qqm y s r):qee e s=r:=by
 unfold qqm at hu;rw[qps] at hu;unfold qee
 cases ha:qc7 s with
 | none=>rw[ha] at hu;exact hu.symm
 | some a=>
  rw[ha] at hu;simp only at hu ⊢;rw[qrj] at hu
  cases hg:qaq a with
  | false=>rw[hg] at hu;simp only[Bool.false_eq_true,if_false] at hu;rw[if_pos rfl];exact hu.symm
  | true=>
   rw[hg] at hu;simp only[if_true,qzt,<- h.rs] at hu;rw[if_neg (by decide)];by_cases hc:ckR e.rs a=0
   ·rw[if_pos hc];rw[if_neg (by simpa using hc)] at hu;have hgr:=qro hg (q2k hok hc);rw[<- hgr] at hu;have hh:=h.holds hok (qb Qg a)
    cases hm:e.M (qb Qg a) with
    | none=>
     rw[hm] at hh
     have hn:inG y.state (qdh (qb Qg a))=false:=by
      rw[Bool.eq_false_iff];intro hi;have:=hh.2 ((qs8 _ _).1 hi);cases this
     rw[if_pos hn] at hu;rw[hu];rfl
    | some u=>
     rw[hm] at hh;have hn:inG y.state (qdh (qb Qg a))=true:=(qs8 _ _).2 (hh.1 rfl);rw[hn,if_neg (by decide)] at hu;obtain⟨P,hP,rfl⟩:=hu;have hw:=hok.win
     have:=q1r (qmz hok.rs) h.facts (h.are hok) h.least (λd hd _=>by
      have:=(hok.kept (d.1,d.2.1) (by rw[h.kept];exact List.mem_map.2 ⟨d,hd,rfl⟩)).2.2;simp only at this
      omega) (qb Qg a) hm P (by rw[h.win,h.rs];rw[h.rs] at hP;exact hP)
     rw[h.win] at this;rw[this];rfl
   ·rw[if_neg hc];rw[if_pos (by simpa using hc)] at hu;exact hu.symm
theorem q6x{s:ByteArray}(hg:qwi s rs){win lat que:Int}(ha:qbm win lat que){M:Gd->Option Int}(hM:qbf rs (Qk rs) M){st:List Gr}(hs:qe0 rs [] (nmL [] (Qp (qap rs))) st):qib (q0v rs win lat que M) (qpm rs win lat que st) []:=by
 obtain⟨h1,h2,h3⟩:=ha;refine⟨rfl,rfl,rfl,rfl,rfl,⟨by show (0:Int) - lat<=0;omega,by show (0:Int)<=0;omega,by show (0:Int)<=1000000;omega⟩,hg.names,?_,rfl,rfl,hM,λd hd=>(by cases hd),hs.1.nodup,hs.1.ok,hs.2⟩;show eB∉nmL [] (Qp (qap rs));rw[<- hg.names];exact hg.ne
structure Pr where
 bx:Nat
 bz:Nat
 e:Eg
 y:Er
 ds:List Dk
 S:Nat->Prop
 T:Nat->Prop
def Pr.U(p:Pr)(k:Nat):Prop:=p.S k\/p.T k
def XTy(W:Wq)(k:Nat):Prop:=WTy W k\/RTy W k
theorem RTy.lt(h:RTy W k):k < W.heap.size:=by
 obtain⟨c,t,h1,_⟩:=h;exact (zg h1).1
theorem XTy.lt(h:XTy W k):k < W.heap.size:=h.elim WTy.lt RTy.lt
theorem RTy.n(h:RTy W k):NTy W k:=by
 obtain⟨c,t,h1,h2⟩:=h;exact⟨c,t,h1,by rcases h2 with rfl | rfl | rfl | rfl | rfl | rfl <;> decide⟩
theorem XTy.n(h:XTy W k):NTy W k:=h.elim WTy.n RTy.n
theorem XTy.not{c:Array Vq}{t:TypeId}(h:W.heap[k]?=some (Obj.cells c t (0,0)))(h1:t≠101/\t≠161/\t≠120/\t≠198/\t≠71/\t≠9)(h2:t≠222/\t≠233/\t≠226/\t≠246):¬XTy W k:=by
 rintro (hw | ⟨c',t',h3,h4⟩)
 ·exact WTy.not h h1 hw
 ·rw[h] at h3;cases h3;rcases h4 with h4 | h4 | h4 | h4 | h4 | h4
  ·exact h2.1 h4
  ·exact h2.2.1 h4
  ·exact h1.2.2.2.2.2 h4
  ·exact h2.2.2.1 h4
  ·exact h2.2.2.2 h4
  ·exact h1.2.2.2.2.1 h4
theorem qb1.tyW{S:Nat->Prop}{be:Nat}(h:qb1 W S be e):∀k,S k->WTy W k:=by
 obtain⟨vr,vn,vk,vf,bm,rb,b45,b87,bfs,Sf,hv⟩:=h;exact hv.typ
structure qgk(W:Wq)(p:Pr):Prop where
 x:qb1 W p.S p.bx p.e
 y:ErM W p.T p.bz p.y
 ty:∀k,p.T k->RTy W k
 sep:∀k,p.S k->¬p.T k
theorem qgk.uty{p:Pr}(h:qgk W p):∀k,p.U k->XTy W k:=λk hk=>hk.elim (λh1=>.inl (h.x.tyW k h1)) (λh1=>.inr (h.ty k h1))
theorem qu7{ex:Nat->Prop}(hc:Chg W W' ex)(hx:∀k,k < W.heap.size->ex k->XTy W k):qk3 W W':=λk c t ht hk=>by
 have hlt:=(zg hk).1;refine hc.block k hlt (λe=>XTy.not hk ?_ ?_ (hx k hlt e))
 ·rcases ht with rfl | rfl | rfl <;> decide
 ·rcases ht with rfl | rfl | rfl <;> decide
theorem ErM.keep{T:Nat->Prop}{b:Nat}(h:ErM W T b y)(hz:W.heap.size<=W'.heap.size)(hk:∀k,T k->W'.heap[k]?=W.heap[k]?)(hr:qk3 W W'):ErM W' T b y:=by
 obtain⟨vr,vf,vn,vs,vd,qs,fs,ss,ds,hv⟩:=h;exact⟨vr,vf,vn,vs,vd,qs,fs,ss,ds,hv.keep hz hk hr⟩
theorem qgk.keep{p:Pr}(h:qgk W p){ex:Nat->Prop}(hc:Chg W W' ex)(hU:∀k,p.U k->¬ex k)(hx:∀k,k < W.heap.size->ex k->XTy W k):qgk W' p:=by
 have hk:∀k,p.U k->W'.heap[k]?=W.heap[k]?:=λk hk=>hc.block k (h.uty k hk).lt (hU k hk);exact⟨h.x.keepN hc (λk hk=>hU k (.inl hk)) (λk h1 h2=>(hx k h1 h2).n),h.y.keep hc.size (λk hk'=>hk k (.inr hk')) (qu7 hc hx),λk hk'=>(h.ty k hk').same (hk k (.inr hk')),h.sep⟩
def qbg(p:Pr)(W:Wq)(p':Pr)(W':Wq):Prop:=qgk W' p'/\p'.bx=p.bx/\p'.bz=p.bz/\(∀k,p'.U k->p.U k\/W.heap.size<=k)/\Chg W W' p.U
theorem qbg.same{p:Pr}(h:qgk W p)(hb:Below W.heap.size W W'):qbg p W p W':=
 ⟨h.keep (Chg.ofBelow (λ_=>False) hb) (λ_ _=>id) (λ_ _=>False.elim),rfl,rfl,λk hk=>.inl hk,Chg.ofBelow _ hb⟩
theorem qbg.trans{p p1 p2:Pr}(h:qbg p W p1 W1)(k:qbg p1 W1 p2 W2):qbg p W p2 W2:=by
 obtain⟨h1,h2,h3,h4,h5⟩:=h;obtain⟨k1,k2,k3,k4,k5⟩:=k;have hz:=h5.size;refine⟨k1,k2.trans h2,k3.trans h3,λj hj=>?_,⟨k5.os.trans h5.os,k5.tape.trans h5.tape,k5.output.trans h5.output,Nat.le_trans h5.size k5.size,λi hi hn=>(k5.block i (Nat.lt_of_lt_of_le hi h5.size) (λe=>?_)).trans (h5.block i hi hn)⟩⟩
 ·rcases k4 j hj with h6 | h6
  ·exact h4 j h6
  ·right;omega
 ·rcases h4 i e with h6 | h6
  ·exact hn h6
  ·omega
theorem qgk.runX{p:Pr}(h:qgk W p){e':Eg}(hp:Qs p.S p.bx e' W W')(ds':List Dk):∃S',qbg p W {p with e:=e',S:=S',ds:=ds'} W':=by
 obtain⟨S',h1,h2,h3⟩:=hp;have hT:∀k,p.T k->W'.heap[k]?=W.heap[k]?:=λk hk=>h3.block k (h.ty k hk).lt (λe=>h.sep k e hk);refine⟨S',⟨h1,h.y.keep h3.size hT (qu7 h3 (λk _ e=>.inl (h.x.tyW k e))),λk hk=>(h.ty k hk).same (hT k hk),λk hk hk'=>?_⟩,rfl,rfl,λk hk=>?_,h3.mono (λk _ hk=>.inl hk)⟩
 ·rcases h2 k hk with h4 | h4
  ·exact h.sep k h4 hk'
  ·have:=(h.ty k hk').lt;omega
 ·rcases hk with hk | hk
  ·exact (h2 k hk).imp .inl id
  ·exact .inl (.inr hk)
theorem qgk.runY{p:Pr}(h:qgk W p){y':Er}(hp:qao p.T p.bz y' W W')(ds':List Dk):∃T',qbg p W {p with y:=y',T:=T',ds:=ds'} W':=by
 obtain⟨⟨T',h1,h2⟩,h3⟩:=hp;have hS:∀k,p.S k->¬p.T k:=h.sep;refine⟨λk=>T' k/\RTy W' k,⟨h.x.keepN h3 hS (λk _ e=>(h.ty k e).n),h1.narrow,λk hk=>hk.2,λk hk hk'=>?_⟩,rfl,rfl,λk hk=>?_,h3.mono (λk _ hk=>.inr hk)⟩
 ·rcases h2 k hk'.1 with h4 | h4
  ·exact h.sep k hk h4
  ·have:=(h.x.tyW k hk).lt;omega
 ·rcases hk with hk | hk
  ·exact .inl (.inl hk)
  ·exact (h2 k hk.1).imp .inr id
structure qoe(F:Nat->Eg->Er->Prop)(n:Nat)(p:Pr):Prop where
 ok:qci p.e
 rel:qib p.e p.y p.ds
 f3:p.y.feeds.length<=3
 fd:F n p.e p.y
def prC(p:Pr):List Vq:=[.pointer (some ⟨p.bx,0,none⟩),.pointer (some ⟨p.bz,0,none⟩)]
structure LwI(F:Nat->Eg->Er->Prop)(n:Nat)(w:Wq)(Q:Nat->Prop)(vl:Vq)(ps:List Pr)(W:Wq):Prop where
 row:W.ownsRow w.heap.size 81 2 vl ps.length (ps.flatMap prC)
 each:∀p∈ps,qgk W p/\qoe F n p
 low:∀p∈ps,∀k,p.U k->w.heap.size<=k/\¬Q k
 sep:∀(i j:Nat) (p q:Pr),ps[i]?=some p->ps[j]?=some q->i≠j->∀k,p.U k->¬q.U k
 below:Below w.heap.size w W
 q:∀k,Q k->k < W.heap.size
theorem LwI.change{n:Nat}{w:Wq}{ps:List Pr}(h:LwI F n w Q vl ps W)(hF:∀e y,F n e y->F n' e y){i:Nat}{p p':Pr}(hi:ps[i]?=some p)(hp:qbg p W p' W')(hok:qoe F n' p'):LwI F n' w Q vl (ps.set i p') W':=by
 obtain⟨h1,h2,h3,h4,h5⟩:=hp;have qde:p∈ps:=List.mem_of_getElem? hi;have hty:∀k,k < W.heap.size->p.U k->XTy W k:=λk _ hk=>(h.each p qde).1.uty k hk;have hlt:i < ps.length:=(List.getElem?_eq_some_iff.1 hi).1;have hpi:ps[i]=p:=(List.getElem?_eq_some_iff.1 hi).2
 have qqu:(ps.set i p').flatMap prC=ps.flatMap prC:=by
  have he:prC p'=prC p:=by unfold prC;rw[h2,h3]
  clear h h1 h4 h5 hty qde
  induction ps generalizing i with
  | nil=>rfl
  | cons q ps ih=>
   cases i with
   | zero=>
    have:q=p:=by simpa using hi
    subst this;simp[he]
   | succ i=>
    have hi':ps[i]?=some p:=by simpa using hi
    have hl':i < ps.length:=(List.getElem?_eq_some_iff.1 hi').1;simp only[List.set_cons_succ,List.flatMap_cons];rw[ih hi' hl' (List.getElem?_eq_some_iff.1 hi').2]
 have hge:∀(j:Nat) (q:Pr),(ps.set i p')[j]?=some q->(j=i/\q=p')\/(j≠i/\ps[j]?=some q):=λj q hq=>by
  by_cases e:j=i
  ·subst e;rw[List.getElem?_set_self hlt] at hq;exact .inl ⟨rfl,by simpa using hq.symm⟩
  ·rw[List.getElem?_set_ne (Ne.symm e)] at hq;exact .inr ⟨e,hq⟩
 have q9t:∀(j:Nat) (q:Pr),j≠i->ps[j]?=some q->qgk W' q:=λj q hj hq=>(h.each q (List.mem_of_getElem? hq)).1.keep h5 (λk hk=>h.sep j i q p hq hi hj k hk) hty
 have Qb5:∀(j:Nat) (q:Pr),j≠i->ps[j]?=some q->∀k,q.U k->¬p'.U k:=λj q hj hq k hk hk'=>by
  rcases h4 k hk' with h6 | h6
  ·exact h.sep j i q p hq hi hj k hk h6
  ·have:=((h.each q (List.mem_of_getElem? hq)).1.uty k hk).lt;omega
 refine⟨?_,λq hq=>?_,λq hq k hk=>?_,λj l q r hq hr hjl k hk hk'=>?_,?_,λk hk=>Nat.lt_of_lt_of_le (h.q k hk) h5.size⟩
 ·rw[List.length_set,qqu];refine qm h.row (λg hg hl=>h5.block g hl (λe=>?_));obtain⟨c,hc⟩:=qi h.row hg;exact XTy.not hc (by decide) (by decide) (hty g hl e)
 ·obtain⟨j,hj,rfl⟩:=List.getElem_of_mem hq;rcases hge j _ (List.getElem?_eq_getElem hj) with⟨_,e⟩ | ⟨e,hq'⟩
  ·rw[e];exact⟨h1,hok⟩
  ·have:=(h.each _ (List.mem_of_getElem? hq')).2;exact⟨q9t j _ e hq',⟨this.ok,this.rel,this.f3,hF _ _ this.fd⟩⟩
 ·obtain⟨j,hj,rfl⟩:=List.getElem_of_mem hq;rcases hge j _ (List.getElem?_eq_getElem hj) with⟨_,e⟩ | ⟨e,hq'⟩
  ·rw[e] at hk;rcases h4 k hk with h6 | h6
   ·exact h.low p qde k h6
   ·have:=h.below.size;refine⟨by omega,λhQ=>?_⟩;have:=h.q k hQ;omega
  ·exact h.low _ (List.mem_of_getElem? hq') k hk
 ·rcases hge j q hq with⟨rfl,rfl⟩ | ⟨e,hq'⟩
  ·rcases hge l r hr with⟨rfl,rfl⟩ | ⟨e',hr'⟩
   ·exact hjl rfl
   ·exact Qb5 l r e' hr' k hk' hk
  ·rcases hge l r hr with⟨rfl,rfl⟩ | ⟨e',hr'⟩
   ·exact Qb5 j q e hq' k hk hk'
   ·exact h.sep j l q r hq' hr' hjl k hk hk'
 ·exact h.below.trans (h5.below h.below.size (λk hk=>(h.low p qde k hk).1))
theorem LwI.same{n:Nat}{w:Wq}{ps:List Pr}(h:LwI F n w Q vl ps W)(hF:∀e y,F n e y->F n' e y)(hb:Below W.heap.size W W'):LwI F n' w Q vl ps W':=
 ⟨qk h.row hb,λp hp=>⟨(qbg.same (h.each p hp).1 hb).1,⟨(h.each p hp).2.ok,(h.each p hp).2.rel,(h.each p hp).2.f3,hF _ _ (h.each p hp).2.fd⟩⟩,h.low,h.sep,h.below.trans (hb.mono h.below.size),λk hk=>Nat.lt_of_lt_of_le (h.q k hk) hb.size⟩
structure Stp where
 kind:Int
 e:Int
 s:ByteArray
 a:Int
 b:Int
 c:Int
def Stp.v(o:Stp):Vq:=.agg #[.int .i64 o.kind,.int .i64 o.e,.string o.s,.int .i64 o.a,.int .i64 o.b,.int .i64 o.c]
def Pr.v(p:Pr):Vq:=.agg #[.pointer (some ⟨p.bx,0,none⟩),.pointer (some ⟨p.bz,0,none⟩)]
structure FOk(F:Nat->Eg->Er->Prop):Prop where
 mono:∀n e y,F n e y->F (n+1) e y
 ins:∀n e y s t,F n e y->F n (qjx e s t).2 (qfs y s t).2
 tick:∀n e y ds c e' y' r r',qci e->qib e y ds->F n e y->qq4 e c e' r->qm8 y c y' r'->F n e' y'/\y'.feeds.length<=3
 new:∀n rs win lat que M st,F n (q0v rs win lat que M) (qpm rs win lat que st)
 mvx:∀n e y,qci e->F n e y->q16 e
 mv:∀b n e y ds,qci e->qib e y ds->F n e y->∀i,i < y.feeds.length->∀m st,qwe b i y.state y.que m st
theorem qol(s:ByteArray):∀a,qc7 s=some a->qjs a/\∀t∈a.args,t.num < 6:=by
 intro a ha;rw[<- qps] at ha;have h1:=ha;unfold qgq at ha;split at ha
 ·cases ha
 rename_i hL;split at ha
 ·cases ha
 rename_i ho;obtain⟨t,p,us,L,vsF,k,e1,e2,e3,e4,e5⟩:=qvl (Q3 s) (qet s) (by simpa [okO] using ho);have hsz:=qhw s (by omega);rw[e1] at ha hsz;unfold qpr at ha;simp only[e2] at ha;injection ha with ha;subst ha;refine⟨⟨hsz t (by simp),e3,λu hu=>⟨qii 1200 us _ _ _ _ (λv hv=>hsz v (by simp[hv])) e2 u hu,by have:=e5 u hu;omega⟩⟩,λu hu=>by have:=e5 u hu;omega⟩
theorem qpb(y:Er)(s:ByteArray)(t:Int):(qfs y s t).2.feeds=y.feeds:=by
 unfold qfs
 repeat' split
 all_goals rfl
theorem q0r(hF:FOk F){n:Nat}{p:Pr}{W:Wq}(h:qgk W p)(hok:qoe F n p)(o:Stp)(hk:o.kind=3\/o.kind=4)(hs:o.s.size<=1048576)(hT:Lib.Utf8Tabs 0 1 W) :
  Calls Tryz.prog 35 #[p.v,o.v] W λen W'=>en=.returned (.bool true)/\∃p',qbg p W p' W'/\qoe F n p':=by
 unfold Pr.v Stp.v;have HP:Hid (qgk W p):=h;have HO:Hid (qoe F n p):=hok;have HTT:Hid (∀Y,Below W.heap.size W Y->Lib.Utf8Tabs 0 1 Y):=λY hY=>Utf8Tabs_below hT hY;clear h hok hT;obtain⟨kd,ke,s,a,b,c⟩:=o;simp only at hk hs ⊢;obtain⟨N,hN⟩:∃N,W.heap.size=N:=⟨_,rfl⟩;obtain⟨W0,hW0⟩:∃W0,(W.alloc (.cells #[.pointer (some ⟨p.bx,0,none⟩),.pointer (some ⟨p.bz,0,none⟩)] 81)).alloc (.cells #[.int .i64 kd,.int .i64 ke,.string s,.int .i64 a,.int .i64 b,.int .i64 c] 34)=W0:=⟨_,rfl⟩;have hb0:Below W.heap.size W W0:=by rw[<- hW0];exact ((Below.refl _ W).alloc zl _).alloc (by simp) _
 have hbp:W0.heap[N]?=some (Obj.cells #[.pointer (some ⟨p.bx,0,none⟩),.pointer (some ⟨p.bz,0,none⟩)] 81):=by
  rw[<- hW0,<- hN];exact (Below.heap_alloc _ _ _ (by simp)).trans (World.alloc_heap_new W _)
 have hbo:W0.heap[N+1]?=some (Obj.cells #[.int .i64 kd,.int .i64 ke,.string s,.int .i64 a,.int .i64 b,.int .i64 c] 34):=by
  rw[<- hW0,<- hN];have:=World.alloc_heap_new (W.alloc (.cells #[.pointer (some ⟨p.bx,0,none⟩),.pointer (some ⟨p.bz,0,none⟩)] 81)) (.cells #[.int .i64 kd,.int .i64 ke,.string s,.int .i64 a,.int .i64 b,.int .i64 c] 34);simpa using this
 have hP0:qbg p W p W0:=qbg.same HP.out hb0;have HP0:Hid (qbg p W p W0):=hP0;have hT0:=HTT.out W0 hb0
 have HC:Hid (∀p1 Y,qbg p W0 p1 Y->Y.cell? ⟨N,1,none⟩=some (.pointer (some ⟨p.bz,0,none⟩))/\Y.cell? ⟨N+1,2,none⟩=some (.string s)/\Y.cell? ⟨N+1,3,none⟩=some (.int .i64 a)):=λp1 Y hY=>by
  have hty:∀k,p.U k->XTy W0 k:=hP0.1.uty;have h1:=(hY.2.2.2.2.block N (zg hbp).1 (λe=>XTy.not hbp (by decide) (by decide) (hty N e))).trans hbp;have h2:=(hY.2.2.2.2.block (N+1) (zg hbo).1 (λe=>XTy.not hbo (by decide) (by decide) (hty (N+1) e))).trans hbo;exact⟨by simp[World.cell?,h1],by simp[World.cell?,h2],by simp[World.cell?,h2]⟩
 have c0:W0.cell? ⟨N,0,none⟩=some (.pointer (some ⟨p.bx,0,none⟩)):=by simp[World.cell?,hbp]
 have c1:W0.cell? ⟨N+1,0,none⟩=some (.int .i64 kd):=by simp[World.cell?,hbo]
 have c2:W0.cell? ⟨N+1,2,none⟩=some (.string s):=by simp[World.cell?,hbo]
 have c3:W0.cell? ⟨N+1,3,none⟩=some (.int .i64 a):=by simp[World.cell?,hbo]
 have hA0:=hP0.1;clear hb0 hbp hbo hP0;rcases hk with rfl | rfl
 ·obtain⟨hr1,ds',hr2⟩:=q6r HO.out.rel HO.out.ok s a
  have hin:Hid (Calls Tryz.prog 20 #[.pointer (some ⟨p.bx,0,none⟩),.string s,.int .i64 a] W0 λe w'=>e=.returned (.int .i64 (qfs p.y s a).1)/\∃S1,qbg p W0 {p with e:=(qjx p.e s a).2,S:=S1,ds:=ds'} w'):=by
   refine (qxp p.S p.bx p.e s a W0 hA0.x HO.out.ok (by omega) hT0 (λu hu=>(qol s u hu).2)).mono ?_;rintro e w' ⟨k1,k2⟩;rw[hr1] at k1;exact⟨k1,hA0.runX k2 ds'⟩
  have hsz:=HO.out.rel.sz HO.out.ok HO.out.f3
  have hiy:Hid (∀S1 Y,qbg p W0 {p with e:=(qjx p.e s a).2,S:=S1,ds:=ds'} Y->Calls Tryz.prog 67 #[.pointer (some ⟨p.bz,0,none⟩),.string s,.int .i64 a] Y λe w'=>e=.returned (.int .i64 (qfs p.y s a).1)/\∃p',qbg p W p' w'/\qoe F n p'):=λS1 Y hY=>by
   obtain⟨vr,vf,vn,vs,vd,qs,fs,ss,ds2,hv⟩:=hY.1.y;refine (qu4 hv hsz s hs a).mono ?_;rintro e w' ⟨k1,k2⟩;obtain⟨T',k3⟩:=hY.1.runY k2 ds';refine⟨k1,_,HP0.out.trans (hY.trans k3),⟨Qab HO.out.ok s (λu hu=>(qol s u hu).1) a,hr2,?_,hF.ins n _ _ s a HO.out.fd⟩⟩;show (qfs p.y s a).2.feeds.length<=3;rw[qpb];exact HO.out.f3
  clear hr1 hr2 hsz hA0 hT0;go_enter Tryz.func35,Tryz.ntmps35;go_wp2_with fail;refine Calls.mono hin.out ?_;clear hin;rintro e' W1 ⟨rfl,S1,hP1⟩;obtain⟨d1,d2,d3⟩:=HC.out _ W1 hP1;have hy:=hiy.out S1 W1 hP1;clear hP1 c0 c1 c2 c3;go_wp2_with fail;refine Calls.mono hy ?_;clear hy hiy;rintro e' W2 ⟨rfl,hP2⟩;have HP2:Hid _:=hP2;clear hP2 d1 d2 d3;go_wp2;go_ret;exact⟨by simp,HP2.out⟩
 ·have htx:Hid (Calls Tryz.prog 22 #[.pointer (some ⟨p.bx,0,none⟩),.int .i64 a] W0 λe w'=>∃(r:Int) (f:Int) (e':Eg),e=.returned (.tuple #[.int .i64 r,.int .i64 f])/\qq4 p.e a e' (r,f)/\∃S1,qbg p W0 {p with e:=e',S:=S1} w'):=by
   refine (q1n p.S p.bx p.e a W0 hA0.x HO.out.ok (hF.mvx n p.e p.y HO.out.ok HO.out.fd)).mono ?_;rintro e w' ⟨e',r,k1,k2,k3⟩;exact⟨r.1,r.2,e',k2,k1,hA0.runX k3 p.ds⟩
  have hsz:=HO.out.rel.sz HO.out.ok HO.out.f3;have hfi:=HO.out.rel.fine HO.out.ok
  have hty:Hid (∀S1 e' r f Y,qq4 p.e a e' (r,f)->qbg p W0 {p with e:=e',S:=S1} Y->Calls Tryz.prog 68 #[.pointer (some ⟨p.bz,0,none⟩),.int .i64 a] Y λe w'=>e=.returned (.tuple #[.int .i64 r,.int .i64 f])/\∃p',qbg p W p' w'/\qoe F n p'):=λS1 e' r f Y hTe hY=>by
   obtain⟨vr,vf,vn,vs,vd,qs,fs,ss,ds2,hv⟩:=hY.1.y;refine (q1m hv hsz hfi a (hF.mv p.bz n p.e p.y p.ds HO.out.ok HO.out.rel HO.out.fd)).mono ?_;rintro e w' ⟨y',r',k1,k2,k3⟩;obtain⟨h1,ds',h2⟩:=q5f HO.out.rel HO.out.ok hTe k1;obtain⟨h3,h4⟩:=hF.tick n _ _ _ _ _ _ _ _ HO.out.ok HO.out.rel HO.out.fd hTe k1;obtain⟨T',k4⟩:=hY.1.runY k3 ds';rw[<- h1] at k2;exact⟨k2,_,HP0.out.trans (hY.trans k4),⟨q7d HO.out.ok hTe,h2,h4,h3⟩⟩
  clear hsz hfi hA0 hT0;go_enter Tryz.func35,Tryz.ntmps35;go_wp2_with fail;refine Calls.mono htx.out ?_;clear htx;rintro e' W1 ⟨r,f,e1,rfl,hTe,S1,hP1⟩;obtain⟨d1,d2,d3⟩:=HC.out _ W1 hP1;have hy:=hty.out S1 e1 r f W1 hTe hP1;clear hP1 hTe c0 c1 c2 c3;go_wp2_with fail;refine Calls.mono hy ?_;clear hy hty;rintro e' W2 ⟨rfl,hP2⟩;have HP2:Hid _:=hP2;clear hP2 d1 d2 d3;go_wp2;go_ret;exact⟨by simp,HP2.out⟩
theorem qzu{n:Nat}{p:Pr}(bw:Nat)(h:qgk W p)(hok:qoe F n p)(o:Stp)(hk:o.kind=6)(hs:o.s.size<=1048576)(hT:Lib.Utf8Tabs 0 1 W) :
  Calls Tryz.prog 36 #[.pointer (some ⟨bw,0,none⟩),p.v,o.v] W λen W'=>en=.returned (.bool true)/\Below W.heap.size W W':=by
 unfold Pr.v Stp.v;obtain⟨kd,ke,s,a,b,c⟩:=o;simp only at hk hs ⊢;subst hk;obtain⟨N,hN⟩:∃N,W.heap.size=N:=⟨_,rfl⟩;obtain⟨W0,hW0⟩:∃W0,(W.alloc (.cells #[.pointer (some ⟨p.bx,0,none⟩),.pointer (some ⟨p.bz,0,none⟩)] 81)).alloc (.cells #[.int .i64 6,.int .i64 ke,.string s,.int .i64 a,.int .i64 b,.int .i64 c] 34)=W0:=⟨_,rfl⟩;have hb0:Below W.heap.size W W0:=by rw[<- hW0];exact ((Below.refl _ W).alloc zl _).alloc (by simp) _
 have hbp:W0.heap[N]?=some (Obj.cells #[.pointer (some ⟨p.bx,0,none⟩),.pointer (some ⟨p.bz,0,none⟩)] 81):=by
  rw[<- hW0,<- hN];exact (Below.heap_alloc _ _ _ (by simp)).trans (World.alloc_heap_new W _)
 have hbo:W0.heap[N+1]?=some (Obj.cells #[.int .i64 6,.int .i64 ke,.string s,.int .i64 a,.int .i64 b,.int .i64 c] 34):=by
  rw[<- hW0,<- hN];have:=World.alloc_heap_new (W.alloc (.cells #[.pointer (some ⟨p.bx,0,none⟩),.pointer (some ⟨p.bz,0,none⟩)] 81)) (.cells #[.int .i64 6,.int .i64 ke,.string s,.int .i64 a,.int .i64 b,.int .i64 c] 34);simpa using this
 have hA0:=(qbg.same h hb0).1;have hT0:=Utf8Tabs_below hT hb0
 have HC:Hid (∀Y,Below W0.heap.size W0 Y->Y.cell? ⟨N,1,none⟩=some (.pointer (some ⟨p.bz,0,none⟩))/\Y.cell? ⟨N+1,2,none⟩=some (.string s)):=λY hY=>by
  have h1:=(hY.block N (zg hbp).1).trans hbp;have h2:=(hY.block (N+1) (zg hbo).1).trans hbo;exact⟨by simp[World.cell?,h1],by simp[World.cell?,h2]⟩
 have c0:W0.cell? ⟨N,0,none⟩=some (.pointer (some ⟨p.bx,0,none⟩)):=by simp[World.cell?,hbp]
 have c1:W0.cell? ⟨N+1,0,none⟩=some (.int .i64 6):=by simp[World.cell?,hbo]
 have c2:W0.cell? ⟨N+1,2,none⟩=some (.string s):=by simp[World.cell?,hbo]
 have hux:Hid (Calls Tryz.prog 24 #[.pointer (some ⟨p.bx,0,none⟩),.string s] W0 λe w'=>e=.returned (.tuple #[.int .i64 (qee p.e s).1,.int .i64 (qee p.e s).2])/\Below W0.heap.size W0 w'):=q1q p.S p.bx p.e s W0 hA0.x hok.ok (by omega) hT0 (λu hu=>(qol s u hu).2)
 have huy:Hid (∀Y,Below W0.heap.size W0 Y->Calls Tryz.prog 69 #[.pointer (some ⟨p.bz,0,none⟩),.string s] Y λe w'=>e=.returned (.tuple #[.int .i64 (qee p.e s).1,.int .i64 (qee p.e s).2])/\Below Y.heap.size Y w'):=λY hY=>by
  obtain⟨vr,vf,vn,vs,vd,qs,fs,ss,ds2,hv⟩:=(qbg.same hA0 hY).1.y;refine (qyd hv (hok.rel.sz hok.ok hok.f3) (hok.rel.fine hok.ok) s hs).mono ?_;rintro e w' ⟨⟨r,k1,k2⟩,k3⟩;rw[q1s hok.rel hok.ok s k1];exact⟨k2,k3⟩
 have HB0:Hid (Below W.heap.size W W0):=hb0;clear hb0 hbp hbo hA0 hT0 h hok hT;generalize (qee p.e s).1=r1 at *;generalize (qee p.e s).2=r2 at *;go_enter Tryz.func36,Tryz.ntmps36;go_wp2_with fail;refine Calls.mono hux.out ?_;clear hux;rintro e' W1 ⟨rfl,hb1⟩;obtain⟨d1,d2⟩:=HC.out W1 hb1;have hy:=huy.out W1 hb1;have HB1:Hid (Below W0.heap.size W0 W1):=hb1;clear c0 c1 c2 hb1;go_wp2_with fail;refine Calls.mono hy ?_;clear hy huy;rintro e' W2 ⟨rfl,hb2⟩;have HB2:Hid (Below W1.heap.size W1 W2):=hb2;clear hb2 d1 d2;go_wp2;go_ret;have h1:=HB1.out.trans (HB2.out.mono HB1.out.size);exact⟨by simp,by first | exact HB0.out.trans (h1.mono HB0.out.size) | (rw[<- hN];exact HB0.out.trans (h1.mono HB0.out.size))⟩
theorem q0m(c:Int)(n:Nat)(w:Wq)(hn:1<=n)(hn2:n<=10000000)(hc : -9223372036854775808<=c/\c<=9223372036854775807) :
  Calls Tryz.prog 34 #[.int .i64 c,.int .i64 n] w λe w'=>∃r:Nat,r < n/\e=.returned (.int .i64 r)/\w=w':=by
 have hn0:((n:Int) == 0)=false:=by simp;omega
 have hp:=qte c n (by omega);have hpn:((qj9 c n).toNat:Int)=qj9 c n:=Int.toNat_of_nonneg hp.1;have HR:Hid (∀x:Int,x=qj9 c n->∃r:Nat,r < n/\Ending.returned (.int .i64 x)=.returned (.int .i64 r)):=λx hx=>⟨(qj9 c n).toNat,by omega,by rw[hpn,hx]⟩;clear hp hpn;by_cases h:c < 0
 ·go_enter Tryz.func34,Tryz.ntmps34;go_wp2;go_ret;obtain⟨r,h1,h2⟩:=HR.out _ (q4u c n (by omega));exact⟨r,h1,h2,rfl⟩
 ·go_enter Tryz.func34,Tryz.ntmps34;go_wp2;go_ret;obtain⟨r,h1,h2⟩:=HR.out (c % n) (by unfold qj9;rw[if_neg (by omega)]);exact⟨r,h1,h2,rfl⟩
theorem qgk.keep2{p:Pr}(h:qgk W p){ex:Nat->Prop}(hc:Chg W W' ex)(hU:∀k,p.U k->¬ex k)(hn:∀k,k < W.heap.size->ex k->NTy W k)(hr:qk3 W W'):qgk W' p:=by
 have hk:∀k,p.U k->W'.heap[k]?=W.heap[k]?:=λk hk=>hc.block k (h.uty k hk).lt (hU k hk);exact⟨h.x.keepN hc (λk hk=>hU k (.inl hk)) hn,h.y.keep hc.size (λk hk'=>hk k (.inr hk')) hr,λk hk'=>(h.ty k hk').same (hk k (.inr hk')),h.sep⟩
theorem LwI.add{n:Nat}{w:Wq}{vl' vls vks:Vq}{ps:List Pr}{bw:Nat}(h:LwI F n w Q vl ps W)(hbw:w.heap.size<=bw)(qae:W.heap[bw]?=some (Obj.cells #[vl,vls,vks] 31))(hb:Below W.heap.size W W1){p:Pr}(hp:qgk W1 p)(hok:qoe F n p)(hU:∀k,p.U k->W.heap.size<=k){O:Obj}(hg:(W1.alloc O).grownBy W2 vl.ownBlock)(ho:W2.ownsRow w.heap.size 81 2 vl' (ps.length+1) (ps.flatMap prC++prC p)) :
  W2.cell? ⟨bw,0,none⟩=some vl/\W2.frozen? ⟨bw,0,none⟩=false/\(W2.setCell ⟨bw,0,none⟩ vl').heap[bw]?=some (Obj.cells #[vl',vls,vks] 31)/\LwI F n w Q vl' (ps++[p]) (W2.setCell ⟨bw,0,none⟩ vl')/\Chg W (W2.setCell ⟨bw,0,none⟩ vl') (λk=>k=bw\/vl.ownBlock=some k):=by
 have hbl:bw < W.heap.size:=(zg qae).1
 have hne:vl.ownBlock≠some bw:=λe=>by
  obtain⟨c,hc⟩:=qi h.row e;rw[qae] at hc;cases hc
 have hz1:=hb.size;have hzA:(W1.alloc O).heap.size=W1.heap.size+1:=by simp
 have hz2:=hg.size;have h1:W1.heap[bw]?=some (Obj.cells #[vl,vls,vks] 31):=(hb.block bw hbl).trans qae;have h2:W2.heap[bw]?=some (Obj.cells #[vl,vls,vks] 31):=((hg.block bw (by omega) (λe=>hne e.symm)).trans (Below.heap_alloc W1 O bw (by omega))).trans h1;have hL1:=h.same (λ_ _=>id) hb
 have hc1:Chg W1 (W2.setCell ⟨bw,0,none⟩ vl') (λk=>k=bw\/vl.ownBlock=some k):=by
  refine Chg.setCell ?_ ⟨bw,0,none⟩ vl' (λ_=>.inl rfl);exact ((Chg.refl W1 (λk=>k=bw\/vl.ownBlock=some k)).alloc O).grown hg (λk hk _=>.inr hk)
 have hN:∀k,k < W1.heap.size->(k=bw\/vl.ownBlock=some k)->NTy W1 k:=λk hk he=>by
  rcases he with rfl | he
  ·exact⟨_,_,h1,by decide⟩
  ·obtain⟨c,hc⟩:=qi hL1.row he;exact⟨_,_,hc,by decide⟩
 have hR:qk3 W1 (W2.setCell ⟨bw,0,none⟩ vl'):=λk c t ht hk=>by
  refine hc1.block k (zg hk).1 (λe=>?_);rcases e with rfl | e
  ·rw[h1] at hk;cases hk;rcases ht with ht | ht | ht <;> cases ht
  ·obtain⟨c',hc'⟩:=qi hL1.row e;rw[hk] at hc';cases hc';rcases ht with ht | ht | ht <;> cases ht
 have hX:∀k,XTy W1 k->¬(k=bw\/vl.ownBlock=some k):=λk hk e=>by
  rcases e with rfl | e
  ·exact XTy.not h1 (by decide) (by decide) hk
  ·obtain⟨c',hc'⟩:=qi hL1.row e;exact XTy.not hc' (by decide) (by decide) hk
 refine⟨by simp[World.cell?,h2],by simp[World.frozen?,h2],Qi h2 0 vl',⟨?_,λq hq=>?_,λq hq k hk=>?_,λi j q r hq hr hij k hk hk'=>?_,?_,λk hk=>?_⟩,?_⟩
 ·rw[List.length_append,List.flatMap_append]
  have:=Qn ho ⟨bw,0,none⟩ vl' (λg hg' e=>by
   obtain⟨c,hc⟩:=qi ho hg';have e':g=bw:=e
   rw[e',h2] at hc;cases hc)
  simpa using this
 ·rcases List.mem_append.1 hq with hq | hq
  ·exact⟨(hL1.each q hq).1.keep2 hc1 (λk hk=>hX k ((hL1.each q hq).1.uty k hk)) hN hR,(h.each q hq).2⟩
  ·simp only[List.mem_cons,List.not_mem_nil,or_false] at hq;subst hq;exact⟨hp.keep2 hc1 (λk hk=>hX k (hp.uty k hk)) hN hR,hok⟩
 ·rcases List.mem_append.1 hq with hq | hq
  ·exact h.low q hq k hk
  ·simp only[List.mem_cons,List.not_mem_nil,or_false] at hq;subst hq;have h5:=hU k hk;have:=h.below.size;exact⟨by omega,λhQ=>by have:=h.q k hQ;omega⟩
 ·have qo2:∀(i:Nat) (q:Pr),(ps++[p])[i]?=some q->(ps[i]?=some q/\i < ps.length)\/(i=ps.length/\q=p):=λi q hq=>by
   by_cases hi:i < ps.length
   ·rw[List.getElem?_append_left hi] at hq;exact .inl ⟨hq,hi⟩
   ·rw[List.getElem?_append_right (by omega)] at hq;have hlt:=(List.getElem?_eq_some_iff.1 hq).1;simp at hlt;have e:i=ps.length:=by omega
    subst e;simp at hq;exact .inr ⟨rfl,hq.symm⟩
  rcases qo2 i q hq with⟨hq1,hi⟩ | ⟨hi,e1⟩
  ·rcases qo2 j r hr with⟨hr1,hj⟩ | ⟨hj,e2⟩
   ·exact h.sep i j q r hq1 hr1 hij k hk hk'
   ·have:=((h.each q (List.mem_of_getElem? hq1)).1.uty k hk).lt;have:=hU k (e2 ▸ hk');omega
  ·rcases qo2 j r hr with⟨hr1,hj⟩ | ⟨hj,e2⟩
   ·have:=((h.each r (List.mem_of_getElem? hr1)).1.uty k hk').lt;have:=hU k (e1 ▸ hk);omega
   ·exact hij (hi.trans hj.symm)
 ·exact hL1.below.trans (hc1.below hL1.below.size (λk hk=>by
   rcases hk with rfl | hk
   ·exact hbw
   ·exact (qe h.row hk).1))
 ·have:=h.q k hk;have:=hc1.size;omega
 ·have:=(Chg.ofBelow (λk=>k=bw\/vl.ownBlock=some k) hb).trans hc1;exact this
def q8p(F:Nat->Eg->Er->Prop)(n:Nat)(w:Wq)(Q:Nat->Prop)(bw:Nat)(vl vls vks:Vq)(ps:List Pr)(G:Prop)(W W':Wq):Prop:=
 ∃vl' ps',W'.heap[bw]?=some (Obj.cells #[vl',vls,vks] 31)/\LwI F n w Q vl' ps' W'/\ps.length<=ps'.length/\ps'.length<=ps.length+1/\(G->ps'.length=ps.length+1)/\Chg W W' (λk=>k=bw\/vl.ownBlock=some k)
theorem Tryz.infoPair:(Tryz.prog.info? 81).map (λi=>(i.zero,i.size,i.bytes))=some (some (.agg #[.pointer none,.pointer none]),2,16):=by kernel_rfl
theorem qon(hF:FOk F){n:Nat}{w:Wq}{Q:Nat->Prop}{vl vls vks:Vq}{ps:List Pr}{W:Wq}{bw:Nat}(h:LwI F n w Q vl ps W)(hbw:w.heap.size<=bw)(qae:W.heap[bw]?=some (Obj.cells #[vl,vls,vks] 31))(hpl:ps.length<=10000000)(o:Stp)(hs:o.s.size<=1048576)(hT:Lib.Utf8Tabs 0 1 W) :
  Calls Tryz.prog 33 #[.pointer (some ⟨bw,0,none⟩),o.v] W λen W'=>en=.returned (.bool true)/\q8p F n w Q bw vl vls vks ps ((∃rs,qaz o.s=.ok rs)/\qbm o.a o.b o.c) W W':=by
 unfold Stp.v;obtain⟨kd,ke,s,a,b,c⟩:=o;simp only at hs ⊢;obtain⟨N,hN⟩:∃N,W.heap.size=N:=⟨_,rfl⟩;obtain⟨W0,hW0⟩:∃W0,W.alloc (.cells #[.int .i64 kd,.int .i64 ke,.string s,.int .i64 a,.int .i64 b,.int .i64 c] 34)=W0:=⟨_,rfl⟩;have hb0:Below W.heap.size W W0:=by rw[<- hW0];exact (Below.refl _ W).alloc zl _
 have hbo:W0.heap[N]?=some (Obj.cells #[.int .i64 kd,.int .i64 ke,.string s,.int .i64 a,.int .i64 b,.int .i64 c] 34):=by rw[<- hW0,<- hN];exact World.alloc_heap_new W _
 have hT0:=Utf8Tabs_below hT hb0
 have HC:Hid (∀Y,Below W0.heap.size W0 Y->Y.cell? ⟨N,2,none⟩=some (.string s)/\Y.cell? ⟨N,3,none⟩=some (.int .i64 a)/\Y.cell? ⟨N,4,none⟩=some (.int .i64 b)/\Y.cell? ⟨N,5,none⟩=some (.int .i64 c)):=λY hY=>by
  have h2:=(hY.block N (zg hbo).1).trans hbo;exact⟨by simp[World.cell?,h2],by simp[World.cell?,h2],by simp[World.cell?,h2],by simp[World.cell?,h2]⟩
 obtain⟨c2,c3,c4,c5⟩:=HC.out W0 (Below.refl _ _);have HB0:Hid (Below W.heap.size W W0):=hb0;have HI:Hid (LwI F n w Q vl ps W):=h;have hny:Hid (∀Y,Calls Tryz.prog 66 #[.string s,.int .i64 a,.int .i64 b,.int .i64 c] Y (qsc s a b c Y)):=λY=>q4l s a b c Y hs;have hnx:Hid (Calls Tryz.prog 39 #[.string s,.int .i64 a,.int .i64 b,.int .i64 c] W0 (qql s a b c W0)):=q4k s a b c W0 hs hT0;have q10:Hid (W.heap[bw]?=some (Obj.cells #[vl,vls,vks] 31)):=qae;have qj7:Hid (∀Y,Below W.heap.size W Y->(¬((∃rs,qaz s=.ok rs)/\qbm a b c))->q8p F n w Q bw vl vls vks ps ((∃rs,qaz s=.ok rs)/\qbm a b c) W Y):=λY hY hG=>⟨vl,ps,(hY.block bw (zg q10.out).1).trans q10.out,HI.out.same (λ_ _=>id) hY,Nat.le_refl _,Nat.le_succ _,λg=>absurd g hG,Chg.ofBelow _ hY⟩;obtain⟨la,lc,hvl⟩:=qn h.row;subst hvl;obtain⟨i0,hi,hz0,hz1,hz2⟩:=info_parts Tryz.infoPair;clear hb0 hbo hT0 h hT qae;by_cases hG:(∃rs,qaz s=.ok rs)/\qbm a b c
 ·obtain⟨⟨rs,hp⟩,ha⟩:=hG;have qfq:=qkr s rs hp
  have q3i:Hid (Calls Tryz.prog 39 #[.string s,.int .i64 a,.int .i64 b,.int .i64 c] W0 (qk5 rs a b c W0)):=by
   refine Calls.mono hnx.out ?_;intro e w' hh;unfold qql at hh;rw[hp] at hh;rcases hh with⟨_,hh⟩ | ⟨h5,_⟩
   ·exact hh
   ·exact absurd ha h5
  have q3j:Hid (∀Y,Calls Tryz.prog 66 #[.string s,.int .i64 a,.int .i64 b,.int .i64 c] Y λe w'=>Below Y.heap.size Y w'/\∃(b':Nat) (T:Nat->Prop) (st:List Gr),e=.returned (.tuple #[.pointer (some ⟨b',0,none⟩),.int .i64 0])/\qe0 rs [] (nmL [] (Qp (qap rs))) st/\ErM w' T b' (qpm rs a b c st)/\∀k,T k->Y.heap.size<=k):=λY=>by
   refine Calls.mono (hny.out Y) ?_;intro e w' hh;unfold qsc at hh;rw[hp] at hh;rcases hh with⟨h0,⟨_,hh⟩ | ⟨h5,_⟩⟩
   ·exact⟨h0,hh⟩
   ·exact absurd ha h5
  have HGd:Hid (qwi s rs):=qfq;have HA:Hid (qbm a b c):=ha;clear hnx hny qj7 qfq ha hp;go_enter Tryz.func33,Tryz.ntmps33;go_wp2_with fail;refine Calls.mono q3i.out ?_;rintro e' W1 ⟨be,S,M,rfl,hM,hE,hS,hb1⟩;obtain⟨d2,d3,d4,d5⟩:=HC.out W1 hb1;have HB1:Hid (Below W0.heap.size W0 W1):=hb1;have HE:Hid (qb1 W1 S be (q0v rs a b c M)/\(∀k,S k->W0.heap.size<=k)/\qbf rs (Qk rs) M):=⟨hE,hS,hM⟩;clear c2 c3 c4 c5 q3i hE hS hM hb1;go_wp2_with fail;refine Calls.mono (q3j.out W1) ?_;rintro e' W2 ⟨hb2,bz,T,st,rfl,hLe,hEr,hTl⟩;clear d2 d3 d4 d5 q3j;obtain⟨p,hpd⟩:∃p:Pr,⟨be,bz,q0v rs a b c M,qpm rs a b c st,[],S,λk=>T k/\RTy W2 k⟩=p:=⟨_,rfl⟩;have Qdi:=HB0.out.size;have Qgd:=HB1.out.size;have qmp:Below W.heap.size W W2:=(HB0.out.trans (HB1.out.mono Qdi)).trans (hb2.mono (by omega))
  have hPA:qgk W2 p/\qoe F n p/\∀k,p.U k->W.heap.size<=k:=by
   rw[<- hpd];refine⟨⟨HE.out.1.below hb2,hEr.narrow,λk hk=>hk.2,λk hk hk'=>?_⟩,⟨Qah HGd.out.new HA.out.1 HA.out.2.1 HA.out.2.2 HE.out.2.2,q6x HGd.out HA.out HE.out.2.2 hLe,by simp[qpm],hF.new n rs a b c M st⟩,λk hk=>?_⟩
   ·have h5:=(HE.out.1.tyW k hk).lt;have:=hTl k hk'.1;omega
   ·rcases hk with hk | hk
    ·have:=HE.out.2.1 k hk;omega
    ·have:=hTl k hk.1;omega
  have HPA:Hid _:=hPA;have Qc0:prC p=[.pointer (some ⟨be,0,none⟩),.pointer (some ⟨bz,0,none⟩)]:=by rw[<- hpd];rfl
  have HPC:Hid _:=Qc0
  have qcv:Hid (∀(O:Obj) (w1:Wq) (vl':Vq),(W2.alloc O).grownBy w1 (Value.slice la ps.length lc).ownBlock->w1.ownsRow w.heap.size 81 2 vl' (ps.length+1) (ps.flatMap prC++[.pointer (some ⟨be,0,none⟩),.pointer (some ⟨bz,0,none⟩)])->w1.cell? ⟨bw,0,none⟩=some (.slice la ps.length lc)/\w1.frozen? ⟨bw,0,none⟩=false/\Hid (q8p F n w Q bw (.slice la ps.length lc) vls vks ps ((∃rs,qaz s=.ok rs)/\qbm a b c) W (w1.setCell ⟨bw,0,none⟩ vl'))):=λO w1 vl' hg ho=>by
   rw[<- HPC.out] at ho;obtain⟨k1,k2,k3,k4,k5⟩:=HI.out.add hbw q10.out qmp HPA.out.1 HPA.out.2.1 HPA.out.2.2 hg ho;exact⟨k1,k2,vl',ps++[p],k3,k4,by simp,by simp,λ_=>by simp,k5⟩
  have qrq:Hid (W2.ownsRow w.heap.size 81 2 (.slice la ps.length lc) ps.length (ps.flatMap prC)):=qk HI.out.row qmp;have qkl:W2.heap[bw]?=some (Obj.cells #[.slice la ps.length lc,vls,vks] 31):=(qmp.block bw (zg q10.out).1).trans q10.out;have l0:W2.cell? ⟨bw,0,none⟩=some (.slice la ps.length lc):=by simp[World.cell?,qkl]
  have qg6:Hid (∀O,w.heap.size<=(W2.alloc O).heap.size):=λO=>by have:=qmp.size;have:=HI.out.below.size;simp;omega
  clear hPA Qc0 hLe hEr hTl hb2 qmp qkl Qdi Qgd hpd
  go_wp2_with (at_builtin;refine wpList_append_own _ rfl _ _ 27 rfl w.heap.size 81 i0 _ 2 16 Tryz.underlying27 hi hz0 hz1 hz2 rfl (by decide) _ ps.length (ps.flatMap prC) rfl (qrq.out.alloc _) ⟨W2.heap.size,0,none⟩ 1 _ [.pointer (some ⟨be,0,none⟩),.pointer (some ⟨bz,0,none⟩)] rfl rfl (qed _ _ _ _) (by simp[Value.oneCell']) (by unfold maxLen;omega) (by omega) (qg6.out _) ?_;intro vx' w1 ho1 hg1 _;obtain⟨g',cap',hv'⟩:=ownsRow_succ ho1;subst hv';obtain⟨s0,y0,q9⟩:=qcv.out _ _ _ hg1 ho1;clear ho1 hg1)
  go_ret;exact⟨rfl,q9.out⟩
 ·obtain⟨cd,hcd,q3i,q3j⟩:∃cd:Int,cd≠0/\Hid (Calls Tryz.prog 39 #[.string s,.int .i64 a,.int .i64 b,.int .i64 c] W0 λe w'=>e=.returned (.tuple #[.pointer none,.int .i64 cd])/\Below W0.heap.size W0 w')/\Hid (∀Y,Calls Tryz.prog 66 #[.string s,.int .i64 a,.int .i64 b,.int .i64 c] Y λe w'=>e=.returned (.tuple #[.pointer none,.int .i64 cd])/\Below Y.heap.size Y w'):=by
   cases hp:qaz s with
   | error cp=>
    obtain⟨cd,pl⟩:=cp;refine⟨cd,qhv s cd pl hp,?_,λY=>?_⟩
    ·refine Calls.mono hnx.out ?_;intro e w' hh;unfold qql at hh;rw[hp] at hh;exact hh
    ·refine Calls.mono (hny.out Y) ?_;intro e w' hh;unfold qsc at hh;rw[hp] at hh;exact⟨hh.2,hh.1⟩
   | ok rs=>
    have hna:¬qbm a b c:=λha=>hG ⟨⟨rs,hp⟩,ha⟩;refine⟨6,by decide,?_,λY=>?_⟩
    ·refine Calls.mono hnx.out ?_;intro e w' hh;unfold qql at hh;rw[hp] at hh;rcases hh with⟨h5,_⟩ | ⟨_,hh⟩
     ·exact absurd h5 hna
     ·exact hh
    ·refine Calls.mono (hny.out Y) ?_;intro e w' hh;unfold qsc at hh;rw[hp] at hh;rcases hh with⟨h0,⟨h5,_⟩ | ⟨_,hh⟩⟩
     ·exact absurd h5 hna
     ·exact⟨hh,h0⟩
  have hcb:(cd == 0)=false:=by simpa using hcd
  have Qgo:(cd != 0)=true:=by simpa using hcd
  have HG:Hid _:=hG;clear hnx hny hG;go_enter Tryz.func33,Tryz.ntmps33;go_wp2_with fail;refine Calls.mono q3i.out ?_;rintro e' W1 ⟨rfl,hb1⟩;obtain⟨d2,d3,d4,d5⟩:=HC.out W1 hb1;have HB1:Hid (Below W0.heap.size W0 W1):=hb1;clear c2 c3 c4 c5 q3i hb1;go_wp2_with fail;refine Calls.mono (q3j.out W1) ?_;rintro e' W2 ⟨rfl,hb2⟩;have HBF:Hid (Below W.heap.size W W2):=(HB0.out.trans (HB1.out.mono HB0.out.size)).trans (hb2.mono (by have:=HB0.out.size;have:=HB1.out.size;omega));clear d2 d3 d4 d5 q3j hb2;go_wp2;go_ret;exact⟨rfl,qj7.out _ HBF.out HG.out⟩
