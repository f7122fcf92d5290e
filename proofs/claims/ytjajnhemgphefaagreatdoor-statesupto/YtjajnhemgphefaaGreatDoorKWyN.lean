/- A part -/
import Derived.Test.YtjajnhemgphefaaGreatDoorKEgI
import Derived.Maps.AppendAt
import Derived.Test.YtjajnhemgphefaaGreatDoorKWyD
import Derived.Deep.RegionHeld3
set_option linter.all false
set_option maxRecDepth 100000
set_option maxHeartbeats 4000000
namespace Go.Proofs.YtjajnhemgphefaaGreatDoor
open Go renaming World->Wq,Value->Vq
open Go.RowKit Go.Shelf
variable {P:Program} {W W' X X':Wq} {l:List Rc} {qs:List (Rl×Vq×Vq)} {T:Nat->Prop} {b:Nat} {vr vf vn vs vd v':Vq} {fs:List ((Gr×Int×Bool)×Vq)} {ss:List (Gr×Vq)} {ag:List By}
def Qad(l:List By)(x:By):Bool:=l.any (Q5 x)
def qzc(kind:Int)(bh bf:List By):List Rc:=(bh.filter (λx=>!Qad bf x)).map (λx=>⟨kind,0,x,0⟩)
theorem qo4(w:Wq)(ac:Nat)(t ty e:TypeId)(i:TypeInfo)(z:Vq)(ht:P.underlying t=some (.slice e))(hi:P.info? e=some i)(hz:i.zero=some z)(v:Vq)(n:Nat)(xs:List Vq)(qq:w.ownsRow ac e i.size v n xs)(a:Addr)(m c:Nat)(aa:List Vq)(hl:aa.length=m*i.size)(am:∀j u,aa[j]?=some u->w.cell? (a.add j)=some u)(h1:∀u∈aa,u.oneCell'=true)(di:n+m<=maxLen)(au:(n+m)*i.bytes<=140737488355328){v':Vq}{w':Wq}(av:(Builtin.append_ #[t,t] ty #[v,.slice (some a) m c]).run P w=.ok v' w'):w'.ownsRow ac e i.size v n xs:=by
 have Qbn:n+m<=9223372036854775807:=by simp only[maxLen] at di;omega
 have dn:=qq;obtain⟨hx,⟨rfl,rfl⟩ | ⟨g,cap,ae,rfl,co,hg,cg,cv,cw,cl⟩⟩:=qq
 .exact⟨hx,.inl ⟨rfl,rfl⟩⟩
 .by_cases ao:n+m<=cap
  .have c5:n*i.size+aa.length<=ae.size:=by rw[hl,cw,<- Nat.add_mul];exact Nat.mul_le_mul_right _ ao
   rw[run_append_room (P:=P) w t ty e i ht hi g n cap ae hg a m c aa hl am h1 ao c5] at av;cases av;refine⟨hx,.inr ⟨g,cap,_,rfl,co,setRow_heap w g ae _ e _ hg,cg,cv,?_,?_⟩⟩
   .simp only[List.size_toArray,List.length_append,List.length_take,List.length_drop,Array.length_toList];omega
   .rw[cl,List.append_assoc,<- hx];exact List.take_left
  .have holds:∀j u,xs[j]?=some u->w.cell? ((⟨g,0,none⟩:Addr).add j)=some u:=dn.cells (g:=g) rfl;rw[run_append_grow (P:=P) w t ty e i z ht hi hz ⟨g,0,none⟩ n cap xs hx holds a m c aa hl am (by omega) (by omega) (growslice_fits (by omega) au)] at av;cases av;refine⟨hx,.inr ⟨g,cap,ae,rfl,co,?_,cg,cv,cw,cl⟩⟩;exact (Below.heap_alloc w.drew _ g (zg hg).1).trans hg
theorem qjm{P:Program}(w:Wq){ct:Array Oper}{rest:List Oper}{o:Oper}{a:Act}{Q:Exit->Act->Wq->Prop}(dk:o.guard=none)(s x:Operand)(t:TypeId)(ho:o.op=.call {callee:=.builtin .append,args:=#[s,x],argTypes:=#[t,t]})(ac:Nat)(e:TypeId)(i:TypeInfo)(z:Vq)(size bytes:Nat)(h1:P.underlying t=some (.slice e))(h2:P.info? e=some i)(h3:i.zero=some z)(h4:i.size=size)(h5:i.bytes=bytes)(h6:z.cells.size=size)(h7:0 < size)(v:Vq)(n:Nat)(xs:List Vq)(hs:a.eval s=v)(qq:w.ownsRow ac e size v n xs)(ad:Addr)(m c:Nat)(aa:List Vq)(hx:a.eval x=.slice (some ad) m c)(hn:aa.length=m*size)(hc:∀j u,aa[j]?=some u->w.cell? (ad.add j)=some u)(bv:∀u∈aa,u.oneCell'=true)(b1:n+m<=maxLen)(b2:(n+m)*bytes<=140737488355328)(da:ac<=w.heap.size)(h:∀v' w',w'.ownsRow ac e size v' (n+m) (xs++aa)->w'.ownsRow ac e size v n xs->w.grownBy w' v.ownBlock->(v'.ownBlock=v.ownBlock\/v'.ownBlock=some w.heap.size)->wpList P ct Q rest (a.put o.dst v') w'):wpList P ct Q (o::rest) a w:=by
 refine wpList_plain dk λK du=>?_;obtain⟨v',w',av,r1,r2,_,r3⟩:=run_append_own_at (P:=P) w ac t o.type e i z size bytes h1 h2 h3 h4 h5 h6 h7 v n xs qq ad m c aa hn hc bv b1 b2 da;subst h4 h5;have r4:=qo4 w ac t o.type e i z h1 h2 h3 v n xs qq ad m c aa hn hc bv b1 b2 av;unfold Oper.wp;simp[execOp,ho,resolve,invoke,builtin,hs,hx,av,Result.andThen];exact du _ _ (h v' w' r1 r4 r2 r3)
theorem qw9(B:Nat)(v:Vq)(vs:List By)(x:By)(w:Wq)(hB:B<=w.heap.size)(hl:vs.length<=1000000)(qq:w.ownsRow B 9 1 v vs.length (vs.map Value.string)) :
  Cs 119 #[v,.string x] w λe w'=>∃v',e=.returned v'/\w'.ownsRow B 9 1 v' (Qh vs x).length ((Qh vs x).map Value.string)/\w'.ownsRow B 9 1 v vs.length (vs.map Value.string)/\w.grownBy w' v.ownBlock/\(v'.ownBlock=v.ownBlock\/∀g,v'.ownBlock=some g->w.heap.size<=g):=by
 obtain⟨i0,hi,dq,ci,ce⟩:=info_parts Tryz.infoStr;obtain⟨a,c,hv⟩:=qd qq
 have ai:∀(j:Nat) (hj:j < vs.length),∃g,a=some ⟨g,0,none⟩/\w.cell? (Ad g j)=some (.string vs[j]):=by
  intro j hj;have h2:=qq;rw[qj3] at h2;obtain⟨g,cap,e1,e2,e3,e4,e5⟩:=qb0 h2 qmk (by omega);rw[hv] at e1;cases e1;have:=e5 j 0 hj (.string vs[j]) (by decide) rfl;rw[Nat.mul_one,Nat.add_zero] at this;exact⟨g,rfl,this⟩
 subst hv;have HO:Hid (w.ownsRow B 9 1 (.slice a vs.length c) vs.length (vs.map Value.string)):=qq;have HC:Hid _:=ai;clear qq ai;go_enter Tryz.func119,Tryz.ntmps119;go_wp2
 go_loopw [5] (λp wr=>∃i:Nat,p=.int .i64 i/\i<=vs.length/\wr=w/\Hid (∀(j:Nat) (hj:j < vs.length),j < i->Q5 x vs[j]=false)) (λp _=>vs.length - (intOf p).toNat)
 case atStart=>exact⟨0,rfl,zz,rfl,λj hj h=>by omega⟩
 case round=>
  obtain⟨i,rfl,dc,rfl,b6⟩:=hrel;by_cases aj:i < vs.length
  .obtain⟨g,rfl,Qj⟩:=HC.out i aj;obtain⟨y,hy⟩:∃y,vs[i]=y:=⟨_,rfl⟩;rw[hy] at Qj;have HY:Hid (vs[i]=y):=hy;clear hy;by_cases hs:Q5 x y=true
   .have hN:=qj2 vs x i aj (by rw[HY.out];exact hs) b6.out;have HN:Hid _:=hN;clear hN;unfold Q5 at hs;go_wp2;go_ret;have hL:Qh vs x=vs:=by unfold Qh;rw[if_pos (by rw[HN.out];exact aj)]
    rw[hL];exact⟨_,rfl,HO.out,HO.out,World.grownBy.refl _ _,.inl rfl⟩
   .have cr:Q5 x y=false:=by simpa using hs
    have de:Hid (∀(j:Nat) (hj:j < vs.length),j < i+1->Q5 x vs[j]=false):=by
     intro j hj d0;by_cases e:j=i
     .subst e;rw[HY.out];exact cr
     .exact b6.out j hj (by omega)
    unfold Q5 at cr;clear hs;go_wp2
    go_roundw
    case rel=>exact⟨i+1,by go_num,by omega,by trivial,de⟩
    case measure=>simp[intOf];omega
  .have hN:=qle vs x (λj hj=>b6.out j hj (by omega));have hL:Qh vs x=vs++[x]:=by unfold Qh;rw[if_neg (by omega)]
   have HL:Hid (Qh vs x=vs++[x]):=hL;have c6:vs.length+1<=maxLen:=by unfold maxLen;omega
   have c4:(vs.length+1)*16<=140737488355328:=by omega
   have dv:Hid (∀O,B<=(wr.alloc O).heap.size):=λO=>by simp;omega
   have bv:∀u∈[Value.string x],u.oneCell'=true:=by simp[Value.oneCell']
   clear hN hL
   go_wp2_with (at_builtin;refine qjm _ rfl (.tmp 19) (.tmp 21) 22 rfl B 9 i0 (.string ⟨#[]⟩) 1 16 Tryz.underlying22 hi dq ci ce rfl (by decide) _ _ _ rfl (HO.out.alloc _) ⟨wr.heap.size,0,none⟩ 1 1 [.string x] rfl rfl (qcl _ _ _) bv c6 c4 (dv.out _) ?_;intro v' w1 bi bk ab b7)
   go_ret;rw[HL.out];refine⟨v',rfl,?_,bk,?_,?_⟩
   .simpa using bi
   .exact⟨ab.os,ab.tape,ab.output,by have:=ab.size;simp at this;omega,λk hk hn=>(ab.block k (by simp;omega) hn).trans (Below.heap_alloc _ _ _ hk)⟩
   .rcases b7 with h | h
    .exact .inl h
    .exact .inr (λg hg=>by rw[h] at hg;cases hg;simp)
structure Fr where
 rel:By
 behind:Bool
 snap:List Rc
 que:List Rc
 next:Nat
structure Er where
 rs:List Rl
 win:Int
 lat:Int
 que:Int
 clock:Int
 mark:Int
 facts:List (Gr×Int×Bool)
 names:List By
 state:List Gr
 feeds:List Fr
def fcC(p:(Gr×Int×Bool)×Vq):List Vq:=[.string p.1.1.rel,p.2,.int .i64 p.1.2.1,.bool p.1.2.2]
def frC(p:Fr×Vq×Vq):List Vq:=[.string p.1.rel,.bool p.1.behind,p.2.1,p.2.2,.int .i64 (p.1.next:Int)]
def qmr(W:Wq)(v:Vq)(l:List Rc):Prop:=(v=.slice none 0 0/\l=[])\/
 ∃g ap cap ae,v=.slice (some ⟨g,ap,none⟩) l.length cap/\W.heap[g]?=cC ae 71/\l.length<=cap/\cap<=maxLen/\ap+cap*4<=ae.size/\(ae.toList.drop ap).take (l.length*4)=l.flatMap Rc.c
theorem qmr.keep{v:Vq}(h:qmr W v l)(hk:∀g,v.ownBlock=some g->W'.heap[g]?=W.heap[g]?):qmr W' v l:=by
 rcases h with h | ⟨g,ap,cap,ae,rfl,h2,h3⟩
 .exact .inl h
 .exact .inr ⟨g,ap,cap,ae,rfl,(hk g rfl).trans h2,h3⟩
def qli(W W':Wq):Prop:=∀(k:Nat) (c:Array Vq) (t:TypeId),(t=148\/t=145\/t=215)->W.heap[k]?=cC c t->W'.heap[k]?=W.heap[k]?
theorem qag.keep{v:Vq}(h:qag W v qs)(hk:qli W W'):qag W' v qs:=by
 have Qv:∀{B T m n:Nat} {v:Vq} {xs:List Vq},(T=148\/T=145\/T=215)->W.ownsRow B T m v n xs->W'.ownsRow B T m v n xs:=λhT ho=>qm ho (λg hg _=>by
  obtain⟨c,hc⟩:=qh ho hg
  exact hk g c _ hT hc)
 refine⟨Qv (.inl rfl) h.row,λq hq=>?_⟩;obtain⟨h1,ps,h2,h3⟩:=h.each q hq;exact⟨Qv (.inr (.inr rfl)) h1,ps,h2,⟨Qv (.inr (.inl rfl)) h3.row,λp hp=>Qv (.inr (.inr rfl)) (h3.each p hp)⟩⟩
structure qcm(W:Wq)(T:Nat->Prop)(b:Nat)(y:Er)(vr vf vn vs vd:Vq)(qs:List (Rl×Vq×Vq))(fs:List ((Gr×Int×Bool)×Vq))(ss:List (Gr×Vq))(ds:List (Fr×Vq×Vq)):Prop where
 box:W.heap[b]?=cC #[vr,.int .i64 y.win,.int .i64 y.lat,.int .i64 y.que,.int .i64 y.clock,.int .i64 y.mark,vf,vn,vs,vd] 222
 own:T b
 lt:∀k,T k->k < W.heap.size
 rules:qag W vr qs
 rsm:qs.map (·.1)=y.rs
 facts:W.ownsRow 0 233 4 vf fs.length (fs.flatMap fcC)
 factsT:∀g,vf.ownBlock=some g->T g
 factsm:fs.map (·.1)=y.facts
 facte:∀p∈fs,qt W p.2 p.1.1.args/\∀g,p.2.ownBlock=some g->T g
 names:qt W vn y.names
 namesT:∀g,vn.ownBlock=some g->T g
 state:qc3 W vs ss
 stateT:∀g,vs.ownBlock=some g->T g
 statem:ss.map (·.1)=y.state
 statee:∀p∈ss,∀g,p.2.ownBlock=some g->T g
 feeds:W.ownsRow 0 246 5 vd ds.length (ds.flatMap frC)
 feedsT:∀g,vd.ownBlock=some g->T g
 feedsm:ds.map (·.1)=y.feeds
 feede:∀p∈ds,(qmr W p.2.1 p.1.snap/\∀g,p.2.1.ownBlock=some g->T g)/\qmr W p.2.2 p.1.que/\∀g,p.2.2.ownBlock=some g->T g
 sepN:∀g,vn.ownBlock=some g->(∀p∈fs,p.2.ownBlock≠some g)/\∀p∈ss,p.2.ownBlock≠some g
 sepQ:∀(i j:Nat) (p q:Fr×Vq×Vq) (g:Nat),ds[i]?=some p->ds[j]?=some q->p.2.2.ownBlock=some g->(i≠j->q.2.2.ownBlock≠some g)/\q.2.1.ownBlock≠some g
def ErM(W:Wq)(T:Nat->Prop)(b:Nat)(y:Er):Prop:=∃vr vf vn vs vd qs fs ss ds,qcm W T b y vr vf vn vs vd qs fs ss ds
theorem qcm.keep{y:Er}{ds:List (Fr×Vq×Vq)}(h:qcm W T b y vr vf vn vs vd qs fs ss ds)(hz:W.heap.size<=W'.heap.size)(hk:∀k,T k->W'.heap[k]?=W.heap[k]?)(hr:qli W W'):qcm W' T b y vr vf vn vs vd qs fs ss ds:=by
 have Qv:∀{B U m n:Nat} {v:Vq} {xs:List Vq},(∀g,v.ownBlock=some g->T g)->W.ownsRow B U m v n xs->W'.ownsRow B U m v n xs:=λhT ho=>qm ho (λg hg _=>hk g (hT g hg));exact⟨(hk b h.own).trans h.box,h.own,λk cd=>Nat.lt_of_lt_of_le (h.lt k cd) hz,h.rules.keep hr,h.rsm,Qv h.factsT h.facts,h.factsT,h.factsm,λp hp=>⟨Qv (h.facte p hp).2 (h.facte p hp).1,(h.facte p hp).2⟩,Qv h.namesT h.names,h.namesT,⟨Qv h.stateT h.state.row,λp hp=>Qv (h.statee p hp) (h.state.each p hp)⟩,h.stateT,h.statem,h.statee,Qv h.feedsT h.feeds,h.feedsT,h.feedsm,λp hp=>⟨⟨(h.feede p hp).1.1.keep (λg hg=>hk g ((h.feede p hp).1.2 g hg)),(h.feede p hp).1.2⟩,(h.feede p hp).2.1.keep (λg hg=>hk g ((h.feede p hp).2.2 g hg)),(h.feede p hp).2.2⟩,h.sepN,h.sepQ⟩
theorem qli.below(hb:Below W.heap.size W W'):qli W W':=λk c t _ hc=>hb.block k (zg hc).1
theorem qcm.below{y:Er}{ds:List (Fr×Vq×Vq)}(h:qcm W T b y vr vf vn vs vd qs fs ss ds)(hb:Below W.heap.size W W'):qcm W' T b y vr vf vn vs vd qs fs ss ds:=
 h.keep hb.size (λk hk=>hb.block k (h.lt k hk)) (qli.below hb)
def qk2(rel:By)(r:Rl):Bool:=r.head.rel.toList == rel.toList
def qfs(rs:List Rl)(rel:By):Bool:=!(rs.any (qk2 rel)) && decide (0 < qac (qap rs) rel)
theorem q0l{y:Er}{ds:List (Fr×Vq×Vq)}(h:qcm W T b y vr vf vn vs vd qs fs ss ds)(hq:qs.length<=1000)(hb:∀q∈qs,q.1.body.length<=900)(rel:By) :
  Cs 116 #[Pt b,.string rel] W λe w'=>e=.returned (.bool (qfs y.rs rel))/\Below W.heap.size W w':=by
 obtain⟨va,vc,an⟩:=qd h.rules.row;have c0:W.cell? (Ad b 0)=some (.slice va qs.length vc):=by simp[World.cell?,h.box,an]
 have a8:b < W.heap.size:=h.lt b h.own;have ax:Hid _:=qhu vr qs rel W h.rules hq hb;rw[an] at ax;have HR:Hid (∀X,Below W.heap.size W X->qag X (.slice va qs.length vc) qs/\X.cell? (Ad b 0)=some (.slice va qs.length vc)):=λX hX=>⟨by rw[<- an];exact h.rules.below hX,(hX.cell (p:=⟨b,0,none⟩) a8).trans c0⟩
 have hD:Hid (∀n:Nat,qac (Qt qs) rel=n->qfs y.rs rel=(!((qs.drop 0).any (λq=>qk2 rel q.1)) && decide (0 < n))):=λn hn=>by
  unfold qfs;rw[<- h.rsm,List.any_map,<- hn];have:qap (qs.map (·.1))=Qt qs:=by unfold qap Qt;rw[List.flatMap_map]
  rw[this];rfl
 clear h an hb a8;obtain⟨n,hn⟩:∃n,qac (Qt qs) rel=n:=⟨_,rfl⟩;have cy:Hid (qfs y.rs rel=(!((qs.drop 0).any (λq=>qk2 rel q.1)) && decide (0 < n))):=hD.out n hn;rw[hn] at ax;clear hn hD;generalize qfs y.rs rel=bb at *;go_enter Tryz.func116,Tryz.ntmps116;go_wp2_with fail;refine Calls.mono ax.out ?_;rintro e' W1 ⟨rfl,a6⟩;have a9:Hid (Below W.heap.size W W1):=a6;clear ax a6 c0;go_wp2_with fail
 go_loopw [6] (λp wr=>∃i:Nat,p=.int .i64 i/\i<=qs.length/\W1=wr/\Hid (bb=(!((qs.drop i).any (λq=>qk2 rel q.1)) && decide (0 < n)))) (λp _=>qs.length - (intOf p).toNat)
 case atStart=>exact⟨0,rfl,zz,rfl,cy⟩
 case round=>
  clear cy;obtain⟨i,rfl,dc,rfl,ak⟩:=hrel;obtain⟨b4,c0⟩:=HR.out W1 a9.out;by_cases aj:i < qs.length
  .have i1:(i:Int) < (qs.length:Int):=by omega
   obtain⟨g,cap,e0,hg,s0,s1,s2,_,_⟩:=b4.cell i aj;cases e0;have cp:=List.drop_eq_getElem_cons aj;rw[cp,List.any_cons] at ak;clear cp b4 s1 s2
   cases hs:qk2 rel qs[i].1 with
   | true=>
    rw[hs] at ak;have hf:Hid (bb=false):=ak.out;unfold qk2 at hs;clear ak;go_wp2;go_ret;exact⟨by rw[hf.out];rfl,a9.out⟩
   | false=>
    rw[hs,Bool.false_or] at ak;unfold qk2 at hs;go_wp2;refine⟨⟨i+1,by go_num,by omega,by trivial,ak⟩,by simp[intOf];omega⟩
  .have i1:¬(i:Int) < (qs.length:Int):=by omega
   rw[List.drop_eq_nil_of_le (by omega)] at ak;have hf:Hid (bb=decide (0 < n)):=ak.out;clear ak b4;go_wp2;go_ret;refine⟨?_,a9.out⟩;rw[hf.out];simp
def qfr(rs:List Rl)(a:Am):Int:=if qac (qap rs) a.rel=0 then 7 else if qac (qap rs) a.rel=a.args.length then 0 else 4
def qgz(rs:List Rl)(s:By)(N:Nat)(e:Ending)(w':Wq):Prop:=
 match qgh s with
 | none=>e=.returned (.tuple #[.agg #[.string ⟨#[]⟩,.slice none 0 0],.int .i64 2])
 | some a=>∃va,e=.returned (.tuple #[.agg #[.string a.rel,va],.int .i64 (qfr rs a)])/\w'.ownsRow N 215 2 va a.args.length (a.args.flatMap tmC)/\a.args.length<=2/\1<=a.args.length/\(∀t∈a.args,t.num<=2)/\q2r 1200 a
theorem qxc{y:Er}{ds:List (Fr×Vq×Vq)}(h:qcm W T b y vr vf vn vs vd qs fs ss ds)(hq:qs.length<=1000)(hb:∀q∈qs,q.1.body.length<=900)(s:By)(hs:s.size<=1048576) :
  Cs 121 #[Pt b,.string s] W λe w'=>qgz y.rs s W.heap.size e w'/\Below W.heap.size W w':=by
 obtain⟨va,vc,an⟩:=qd h.rules.row;have c0:W.cell? (Ad b 0)=some (.slice va qs.length vc):=by simp[World.cell?,h.box,an]
 have a8:b < W.heap.size:=h.lt b h.own;obtain⟨N,hN⟩:∃N,N=W.heap.size:=⟨_,rfl⟩;have ck:=hN.symm;obtain⟨W0,b5⟩:∃W0,W.alloc (.cells #[.string ⟨#[]⟩,.slice none 0 0] 145)=W0:=⟨_,rfl⟩;have cj:Below W.heap.size W W0:=by rw[<- b5];exact (Below.refl _ W).alloc zl _
 have ch:W0.heap[N]?=cC #[.string ⟨#[]⟩,.slice none 0 0] 145:=by rw[<- b5,hN];exact zn W _
 have cu:W0.heap.size=N+1:=by rw[<- b5,hN];simp
 have c1:Hid (Cs 114 #[.string s] W0 λe w'=>qen s W0.heap.size e w'/\Below W0.heap.size W0 w'):=qzt s W0 hs;have cn:qap y.rs=Qt qs:=by rw[<- h.rsm];unfold qap Qt;rw[List.flatMap_map]
 have HR:Hid (∀X rel,Below W.heap.size W X->X.cell? (Ad b 0)=some (.slice va qs.length vc)/\Cs 117 #[.slice va qs.length vc,.string rel] X λe w'=>e=.returned (.int .i64 (qac (qap y.rs) rel:Int))/\Below X.heap.size X w'):=λX rel hX=>⟨(hX.cell (p:=⟨b,0,none⟩) a8).trans c0,by rw[cn,<- an];exact qhu vr qs rel X (h.rules.below hX) hq hb⟩;have c7:Hid (b < W.heap.size):=a8;have az:Hid (Below W.heap.size W W0/\W0.heap[N]?=cC #[.string ⟨#[]⟩,.slice none 0 0] 145/\W0.heap.size=N+1):=⟨cj,ch,cu⟩;rw[ck] at az HR c7 ⊢;have bu:Hid (W.heap.size=N):=ck;clear h an hb a8 cn c0 cj ch cu hN;go_enter Tryz.func121,Tryz.ntmps121;go_wp2_with fail;refine Calls.mono c1.out ?_;rintro e' W1 ⟨h1,a6⟩;clear c1;have ay:W1.heap[N]?=cC #[.string ⟨#[]⟩,.slice none 0 0] 145:=(a6.block N (by rw[az.out.2.2];omega)).trans az.out.2.1;have cb:Below N W W1:=az.out.1.trans (a6.mono (by rw[az.out.2.2];omega));have q0:W1.cell? (Ad N 0)=some (.string ⟨#[]⟩):=zc ay
 have q1:W1.cell? (Ad N 1)=some (.slice none 0 0):=zc ay
 have f0:W1.frozen? (Ad N 0)=false:=by simp[World.frozen?,ay]
 have f1:W1.frozen? (Ad N 1)=false:=by simp[World.frozen?,ay]
 have dm:Hid (∀(r v:Vq),Below N W ((W1.setCell (Ad N 0) r).setCell (Ad N 1) v)/\((W1.setCell (Ad N 0) r).setCell (Ad N 1) v).heap[N]?=cC #[r,v] 145):=λr v=>⟨(cb.setCell (p:=⟨N,0,none⟩) zl r).setCell (p:=⟨N,1,none⟩) zl v,qzb ay r v⟩;have Qc1:Hid (qen s W0.heap.size e' W1):=h1;have c2:Hid (W1.heap[N]?=cC #[.string ⟨#[]⟩,.slice none 0 0] 145):=ay;have a9:Hid (Below N W W1):=cb;clear h1 ay a6 cb
 obtain⟨rel,oa,al,oc,bo,he,q7⟩:∃(rel:By) (oa:Option Addr) (al oc:Nat) (bo:Bool),e'=.returned (.tuple #[.agg #[.string rel,.slice oa al oc],.bool bo])/\Hid (∀w',Below W1.heap.size W1 w'\/True->∀(c:Int),(c=if bo=false then 2 else if qac (qap y.rs) rel=0 then 7 else if qac (qap y.rs) rel=al then 0 else 4)->(∀va,(Value.slice oa al oc)=va->∀a,qgh s=some a->w'.ownsRow N 215 2 va a.args.length (a.args.flatMap tmC))->qgz y.rs s N (.returned (.tuple #[.agg #[.string rel,.slice oa al oc],.int .i64 c])) w'):=by
  have h2:=Qc1.out;unfold qen at h2
  cases ho:qgh s with
  | none=>
   rw[ho] at h2;refine⟨⟨#[]⟩,none,0,0,false,h2,λw' _ c hc _=>?_⟩;unfold qgz;rw[ho,hc];rfl
  | some a=>
   rw[ho] at h2;obtain⟨va,k1,k2,k3,k4,k5,k6⟩:=h2;obtain⟨oa,oc,rfl⟩:=qd k2;refine⟨a.rel,oa,a.args.length,oc,true,k1,λw' _ c hc hr=>?_⟩;unfold qgz;rw[ho];refine⟨_,?_,hr _ rfl a rfl,k3,k4,k5,k6⟩;rw[hc];unfold qfr;simp
 subst he
 have Qv:Hid (∀a,qgh s=some a->W1.ownsRow W0.heap.size 215 2 (.slice oa al oc) a.args.length (a.args.flatMap tmC)):=λa ho=>by
  have h2:=Qc1.out;unfold qen at h2;rw[ho] at h2;obtain⟨va,k1,k2,_⟩:=h2;simp only[Ending.returned.injEq,Value.tuple.injEq,Array.mk.injEq,List.cons.injEq,Value.agg.injEq,and_true,true_and] at k1;rw[k1.1.2];exact k2
 obtain⟨V,hV⟩:∃V,W1.alloc (.cells #[.string rel,.slice oa al oc] 145)=V:=⟨_,rfl⟩;have dh:N<=W1.heap.size:=by have:=a9.out.size;have:=bu.out;omega
 have bq:Below N W V:=by rw[<- hV];exact a9.out.alloc dh _
 have dx:N<=V.heap.size:=by have:=bq.size;have:=bu.out;omega
 have bc:V.heap[W1.heap.size]?=cC #[.string rel,.slice oa al oc] 145:=by rw[<- hV];exact zn W1 _
 have c3:V.heap[N]?=cC #[.string ⟨#[]⟩,.slice none 0 0] 145:=by rw[<- hV];exact (Below.heap_alloc _ _ _ (zg c2.out).1).trans c2.out
 obtain⟨c0,hA⟩:=HR.out V.drew rel bq.drew
 have cx:Hid (Cs 117 #[.slice va qs.length vc,.string rel] V.drew λe w'=>e=.returned (.int .i64 (qac (qap y.rs) rel:Int))/\(w'.cell? (Ad b 0)=some (.slice va qs.length vc)/\w'.cell? (Ad W1.heap.size 0)=some (.string rel))/\Hid (Below V.heap.size V w')):=by
  refine hA.mono ?_;rintro e w' ⟨k1,k2⟩;have k3:Below V.heap.size V w':=(Below.refl _ V).drew.trans k2;exact⟨k1,⟨(HR.out w' rel (bq.trans (k3.mono dx))).1,by rw[k3.cell (p:=⟨W1.heap.size,0,none⟩) (zg bc).1];simp[World.cell?,bc]⟩,k3⟩
 have z0:V.drew.cell? (Ad W1.heap.size 0)=some (.string rel):=by show V.cell? _=_;simp[World.cell?,bc]
 have HV:Hid (Below N W V/\V.heap[W1.heap.size]?=cC #[.string rel,.slice oa al oc] 145/\V.heap[N]?=cC #[.string ⟨#[]⟩,.slice none 0 0] 145):=⟨bq,bc,c3⟩;clear hA bq bc c3 q0 q1 f0 f1 dm;go_wp2_with fail
 first | (go_region_held3 (λw'=>w'.cell? (Ad b 0)=some (.slice va qs.length vc)/\w'.cell? (Ad W1.heap.size 0)=some (.string rel)) (first | with_reducible exact⟨c0,z0⟩ | with_reducible assumption) (first | (go_at_call 117;refine Calls.mono cx.out ?_;rintro e' W3 ⟨rfl,c8,b3⟩) | go_simp)) | fail
 have cm:Below N W W3:=HV.out.1.trans (b3.out.mono (by have:=HV.out.1.size;have:=bu.out;omega));have ca:W3.heap[W1.heap.size]?=cC #[.string rel,.slice oa al oc] 145:=(b3.out.block _ (zg HV.out.2.1).1).trans HV.out.2.1;have aw:W3.heap[N]?=cC #[.string ⟨#[]⟩,.slice none 0 0] 145:=(b3.out.block _ (zg HV.out.2.2).1).trans HV.out.2.2;have m0:W3.cell? (Ad W1.heap.size 0)=some (.string rel):=zc ca
 have m1:W3.cell? (Ad W1.heap.size 1)=some (.slice oa al oc):=zc ca
 have n0:W3.cell? (Ad N 0)=some (.string ⟨#[]⟩):=zc aw
 have n1:W3.cell? (Ad N 1)=some (.slice none 0 0):=zc aw
 have g0:W3.frozen? (Ad N 0)=false:=by simp[World.frozen?,aw]
 have g1:W3.frozen? (Ad N 1)=false:=by simp[World.frozen?,aw]
 have d4:W.heap.size=N:=bu.out;obtain⟨ar,ax⟩:∃ar,qac (qap y.rs) rel=ar:=⟨_,rfl⟩;rw[ax] at q7 ⊢;have Qdi:=qtc (a:=.string rel) (b:=.slice oa al oc) aw;have bt:Hid _:=Qdi
 have HE:Hid (∀c:Int,(c=if bo=false then 2 else if ar=0 then 7 else if ar=al then 0 else 4)->qgz y.rs s N (.returned (.tuple #[.agg #[.string rel,.slice oa al oc],.int .i64 c])) ((W3.setCell (Ad N 0) (.string rel)).setCell (Ad N 1) (.slice oa al oc))/\Below N W ((W3.setCell (Ad N 0) (.string rel)).setCell (Ad N 1) (.slice oa al oc))):=λc hc=>by
  refine⟨q7.out _ (.inr trivial) c hc (λva dr a ho=>?_),(cm.setCell (p:=⟨N,0,none⟩) zl _).setCell (p:=⟨N,1,none⟩) zl _⟩;subst dr;have r1:=Qv.out a ho;have r2:V.ownsRow W0.heap.size 215 2 (.slice oa al oc) a.args.length (a.args.flatMap tmC):=by rw[<- hV];exact r1.alloc _
  have r3:=qk r2 b3.out;refine Qa (B:=W0.heap.size) (qm r3 (λg hg _=>?_)) (by rw[az.out.2.2];omega);obtain⟨cc,ah⟩:=qh r3 hg;have a7:g≠N:=λe=>by subst e;rw[aw] at ah;cases ah
  exact (Below.heap_setCell _ _ _ _ a7).trans (Below.heap_setCell _ _ _ _ a7)
 clear c8 c0 z0 cx cm ca aw ax Qdi q7 Qv
 cases bo with
 | false=>
  go_wp2;obtain⟨q1,q2⟩:=bt.out;refine bodyPost_ret (v:=.tuple #[.agg #[.string rel,.slice oa al oc],.int .i64 2]) (by simp[results,Tryz.results121,go_sem,q1,q2]) rfl ?_;exact HE.out 2 rfl
 | true=>
  by_cases h0:ar=0
  .subst h0;go_wp2;obtain⟨q1,q2⟩:=bt.out;refine bodyPost_ret (v:=.tuple #[.agg #[.string rel,.slice oa al oc],.int .i64 7]) (by simp[results,Tryz.results121,go_sem,q1,q2]) rfl ?_;exact HE.out 7 (by simp)
  .have d3:((ar:Int) == 0)=false:=by simp;omega
   by_cases h1:ar=al
   .subst h1;go_wp2;obtain⟨q1,q2⟩:=bt.out;refine bodyPost_ret (v:=.tuple #[.agg #[.string rel,.slice oa ar oc],.int .i64 0]) (by simp[results,Tryz.results121,go_sem,q1,q2]) rfl ?_;exact HE.out 0 (by simp[h0])
   .have d1:((ar:Int) == (al:Int))=false:=by simp;omega
    go_wp2;obtain⟨q1,q2⟩:=bt.out;refine bodyPost_ret (v:=.tuple #[.agg #[.string rel,.slice oa al oc],.int .i64 4]) (by simp[results,Tryz.results121,go_sem,q1,q2]) rfl ?_;exact HE.out 4 (by simp[h0,h1])
def qan(T:Nat->Prop)(b:Nat)(y':Er)(W W':Wq):Prop:=(∃T',ErM W' T' b y'/\∀k,T' k->T k\/W.heap.size<=k)/\Chg W W' T
theorem qan.same{y:Er}(h:ErM W T b y)(hb:Below W.heap.size W W'):qan T b y W W':=by
 obtain⟨vr,vf,vn,vs,vd,qs,fs,ss,ds,hv⟩:=h;exact⟨⟨T,⟨vr,vf,vn,vs,vd,qs,fs,ss,ds,hv.below hb⟩,λk hk=>.inl hk⟩,Chg.ofBelow _ hb⟩
def RTy(W:Wq)(k:Nat):Prop:=∃c t,W.heap[k]?=cC c t/\(t=222\/t=233\/t=9\/t=226\/t=246\/t=71)
theorem RTy.same{k:Nat}(h:RTy W k)(hk:W'.heap[k]?=W.heap[k]?):RTy W' k:=by
 obtain⟨c,t,h1,h2⟩:=h;exact⟨c,t,hk.trans h1,h2⟩
theorem RTy.row{B U m n:Nat}{v:Vq}{xs:List Vq}(h:W.ownsRow B U m v n xs)(hU:U=222\/U=233\/U=9\/U=226\/U=246\/U=71){g:Nat}(hg:v.ownBlock=some g):RTy W g:=by
 obtain⟨c,hc⟩:=qh h hg;exact⟨c,U,hc,hU⟩
theorem qmr.ty{v:Vq}(h:qmr W v l){g:Nat}(hg:v.ownBlock=some g):RTy W g:=by
 rcases h with⟨rfl,_⟩ | ⟨g',ap,cap,ae,rfl,h2,_⟩
 .cases hg
 .cases hg;exact⟨ae,_,h2,by simp⟩
theorem qcm.narrow{y:Er}{ds:List (Fr×Vq×Vq)}(h:qcm W T b y vr vf vn vs vd qs fs ss ds):qcm W (λk=>T k/\RTy W k) b y vr vf vn vs vd qs fs ss ds:=
 ⟨h.box,⟨h.own,_,_,h.box,by simp⟩,λk hk=>h.lt k hk.1,h.rules,h.rsm,h.facts,λg hg=>⟨h.factsT g hg,RTy.row h.facts (by simp) hg⟩,h.factsm,λp hp=>⟨(h.facte p hp).1,λg hg=>⟨(h.facte p hp).2 g hg,RTy.row (h.facte p hp).1 (by simp) hg⟩⟩,h.names,λg hg=>⟨h.namesT g hg,RTy.row h.names (by simp) hg⟩,h.state,λg hg=>⟨h.stateT g hg,RTy.row h.state.row (by simp) hg⟩,h.statem,λp hp g hg=>⟨h.statee p hp g hg,RTy.row (h.state.each p hp) (by simp) hg⟩,h.feeds,λg hg=>⟨h.feedsT g hg,RTy.row h.feeds (by simp) hg⟩,h.feedsm,λp hp=>⟨⟨(h.feede p hp).1.1,λg hg=>⟨(h.feede p hp).1.2 g hg,(h.feede p hp).1.1.ty hg⟩⟩,(h.feede p hp).2.1,λg hg=>⟨(h.feede p hp).2.2 g hg,(h.feede p hp).2.1.ty hg⟩⟩,h.sepN,h.sepQ⟩
theorem ErM.narrow{y:Er}(h:ErM W T b y):ErM W (λk=>T k/\RTy W k) b y:=by
 obtain⟨vr,vf,vn,vs,vd,qs,fs,ss,ds,hv⟩:=h;exact⟨vr,vf,vn,vs,vd,qs,fs,ss,ds,hv.narrow⟩
def qhs(T:Nat->Prop)(W W':Wq):Nat->Prop:=λk=>T k\/(W.heap.size<=k/\k < W'.heap.size)
theorem qhs.lt(hT:∀k,T k->k < W.heap.size)(hz:W.heap.size<=W'.heap.size):∀k,qhs T W W' k->k < W'.heap.size:=λk hk=>hk.elim (λh=>Nat.lt_of_lt_of_le (hT k h) hz) (·.2)
theorem qhs.post{y':Er}(h:ErM W' (qhs T W W') b y')(hc:Chg W W' T):qan T b y' W W':=⟨⟨_,h,λk hk=>hk.imp id (·.1)⟩,hc⟩
theorem q6d{Y:Wq}{v:Vq}{l l2:List By}(h:qt X v l)(h':qt X v' (l++l2))(hs:v'.ownBlock=v.ownBlock)(hY:qt Y v' (l++l2)):qt Y v l:=by
 obtain⟨hl,⟨rfl,hn⟩ | ⟨g,cap,ae,rfl,h1,h2,h3,h4,h5,h6⟩⟩:=h
 .have:l=[]:=List.eq_nil_of_length_eq_zero hn;subst this;exact zo
 .obtain⟨_,⟨rfl,hn⟩ | ⟨g',be,dg,rfl,k1,k2,k3,k4,k5,k6⟩⟩:=h'
  .cases hs
  .have hg:g'=g:=by simpa [Value.ownBlock] using hs
   subst hg;rw[h2] at k2;cases k2;have b9:be=cap:=by omega
   subst b9;obtain⟨_,⟨hv,hn⟩ | ⟨g2,dp,bd,hv,m1,m2,m3,m4,m5,m6⟩⟩:=hY
   .cases hv
   .simp only[Value.slice.injEq,Option.some.injEq,Addr.mk.injEq,and_true,true_and] at hv;obtain⟨rfl,_,rfl⟩:=hv;refine⟨by simp,.inr ⟨g',be,bd,rfl,h1,m2,h3,h4,m5,?_⟩⟩;have:(bd.toList.take ((l++l2).length*1)).take (l.length*1)=(((l++l2).map Value.string)).take (l.length*1):=by rw[m6]
    rw[List.take_take,List.map_append,Nat.mul_one,Nat.mul_one,List.length_append,Nat.min_eq_left (by omega),List.take_left' (by simp)] at this;rw[Nat.mul_one];exact this
theorem qcm.grownN{y:Er}{ds:List (Fr×Vq×Vq)}(h:qcm W T b y vr vf vn vs vd qs fs ss ds)(hg:W.grownBy W' vn.ownBlock)(hn:qt W' vn y.names):qcm W' T b y vr vf vn vs vd qs fs ss ds:=by
 have hk:∀k,k < W.heap.size->vn.ownBlock≠some k->W'.heap[k]?=W.heap[k]?:=λk h1 h2=>hg.block k h1 (λe=>h2 e.symm)
 have aq:∀(k:Nat) (c:Array Vq) (t:TypeId),t≠9->W.heap[k]?=cC c t->W'.heap[k]?=W.heap[k]?:=λk c t ht hc=>hk k (zg hc).1 (λe=>by
  obtain⟨c',ah⟩:=qh h.names e
  rw[hc] at ah;cases ah;exact ht rfl)
 have Qv:∀{B U m n:Nat} {v:Vq} {xs:List Vq},U≠9->W.ownsRow B U m v n xs->W'.ownsRow B U m v n xs:=λhU ho=>qm ho (λg af _=>by
  obtain⟨c,hc⟩:=qh ho af
  exact aq g c _ hU hc)
 have cq:∀{v:Vq} {l:List By},(∀g,vn.ownBlock=some g->v.ownBlock≠some g)->qt W v l->qt W' v l:=λa7 ho=>qm ho (λg af aj=>hk g aj (λe=>a7 g e af))
 have bn:∀{v:Vq} {l:List Rc},qmr W v l->qmr W' v l:=λ{v l} hr=>by
  refine hr.keep (λg af=>?_);rcases hr with⟨rfl,_⟩ | ⟨g',ap,cap,ae,rfl,h2,_⟩
  .cases af
  .cases af
   exact aq g' ae _ (by decide) h2
 exact⟨(aq b _ _ (by decide) h.box).trans h.box,h.own,λk cd=>Nat.lt_of_lt_of_le (h.lt k cd) hg.size,h.rules.keep (λk c t ht hc=>aq k c t (by rcases ht with rfl | rfl | rfl <;> decide) hc),h.rsm,Qv (by decide) h.facts,h.factsT,h.factsm,λp hp=>⟨cq (λg af=>(h.sepN g af).1 p hp) (h.facte p hp).1,(h.facte p hp).2⟩,hn,h.namesT,⟨Qv (by decide) h.state.row,λp hp=>cq (λg af=>(h.sepN g af).2 p hp) (h.state.each p hp)⟩,h.stateT,h.statem,h.statee,Qv (by decide) h.feeds,h.feedsT,h.feedsm,λp hp=>⟨⟨bn (h.feede p hp).1.1,(h.feede p hp).1.2⟩,bn (h.feede p hp).2.1,(h.feede p hp).2.2⟩,h.sepN,h.sepQ⟩
structure qoz(W:Wq)(T:Nat->Prop)(b:Nat)(y:Er)(vr vf vn vs vd:Vq)(qs:List (Rl×Vq×Vq))(fs:List ((Gr×Int×Bool)×Vq))(ss:List (Gr×Vq))(ds:List (Fr×Vq×Vq))(X:Wq)(v:Vq)(ag:List By):Prop where
 chg:Chg W X T
 er:qcm X T b y vr vf vn vs vd qs fs ss ds
 row:qt X v ag
 pre:∃l2,ag=y.names++l2
 loc:v.ownBlock=vn.ownBlock\/∀k,v.ownBlock=some k->W.heap.size<=k
theorem qoz.step{y:Er}{ds:List (Fr×Vq×Vq)}{v:Vq}(h:qoz W T b y vr vf vn vs vd qs fs ss ds X v ag)(hT:∀k,T k->k < W.heap.size)(x:By)(r1:X'.ownsRow 0 9 1 v' (Qh ag x).length ((Qh ag x).map Value.string))(r2:X'.ownsRow 0 9 1 v ag.length (ag.map Value.string))(hg:X.grownBy X' v.ownBlock)(hv:v'.ownBlock=v.ownBlock\/∀g,v'.ownBlock=some g->X.heap.size<=g):qoz W T b y vr vf vn vs vd qs fs ss ds X' v' (Qh ag x):=by
 obtain⟨l2,b0⟩:=h.pre;refine⟨h.chg.grown hg (λk hk aj=>?_),?_,r1,?_,?_⟩
 .rcases h.loc with hl | hl
  .rw[hl] at hk;exact h.er.namesT k hk
  .have:=hl k hk;omega
 .rcases h.loc with hl | hl
  .refine h.er.grownN (hl ▸ hg) ?_;have h1:=h.row;rw[b0] at h1;have h2:qt X' v ag:=r2;rw[b0] at h2;exact q6d h.er.names h1 hl h2
  .refine h.er.keep hg.size (λk hk=>hg.block k (h.er.lt k hk) (λe=>?_)) (λk c t ht hc=>hg.block k (zg hc).1 (λe=>?_))
   .have:=hl k e.symm;have:=hT k hk;omega
   .obtain⟨c',ah⟩:=qh h.row e.symm;rw[hc] at ah;cases ah;rcases ht with ht | ht | ht <;> cases ht
 .unfold Qh;split
  .exact⟨l2,b0⟩
  .exact⟨l2++[x],by rw[b0,List.append_assoc]⟩
 .have hz:=h.chg.size;rcases hv with hv | hv
  .rw[hv];exact h.loc
  .right;intro k hk;have:=hv k hk;omega
theorem qoz.keep{y:Er}{ds:List (Fr×Vq×Vq)}{v:Vq}(h:qoz W T b y vr vf vn vs vd qs fs ss ds X v ag)(hb:Below X.heap.size X X'):qoz W T b y vr vf vn vs vd qs fs ss ds X' v ag:=
 ⟨h.chg.trans (Chg.ofBelow _ hb),h.er.below hb,h.row.below hb,h.pre,h.loc⟩
theorem qoz.inserted{y:Er}{ds:List (Fr×Vq×Vq)}{X3:Wq}{v vg v2:Vq}(h:qoz W T b y vr vf vn vs vd qs fs ss ds X v ag)(hT:∀k,T k->k < W.heap.size)(g:Gr)(t:Int)(dt:qt X vg g.args)(dl:∀k,vg.ownBlock=some k->W.heap.size<=k)(a7:∀k,v.ownBlock=some k->vg.ownBlock≠some k)(O:Obj)(hg:((X.setCell (Ad b 7) v).alloc O).grownBy X3 vf.ownBlock)(ho:X3.ownsRow 0 233 4 v2 (fs.length+1) (fs.flatMap fcC++fcC ((g,t,false),vg)))(dj:v2.ownBlock=vf.ownBlock\/v2.ownBlock=some ((X.setCell (Ad b 7) v).alloc O).heap.size) :
  X3.cell? (Ad b 6)=some vf/\X3.frozen? (Ad b 6)=false/\qan T b {y with names:=ag,facts:=y.facts++[(g,t,false)]} W (X3.setCell (Ad b 6) v2):=by
 have hE:=h.er;have d5:=hE.lt b hE.own
 have db:vf.ownBlock≠some b:=λe=>by
  obtain⟨c,hc⟩:=qh hE.facts e;rw[hE.box] at hc;cases hc
 have ci:(X.setCell (Ad b 7) v).heap.size=X.heap.size:=by simp
 have ce:((X.setCell (Ad b 7) v).alloc O).heap.size=X.heap.size+1:=by simp
 have d6:=hg.size;have h1:(X.setCell (Ad b 7) v).heap[b]?=cC #[vr,.int .i64 y.win,.int .i64 y.lat,.int .i64 y.que,.int .i64 y.clock,.int .i64 y.mark,vf,v,vs,vd] 222:=Qd hE.box 7 v
 have h3:X3.heap[b]?=cC #[vr,.int .i64 y.win,.int .i64 y.lat,.int .i64 y.que,.int .i64 y.clock,.int .i64 y.mark,vf,v,vs,vd] 222:=
  ((hg.block b (by omega) (λe=>db e.symm)).trans (Below.heap_alloc _ _ b (by omega))).trans h1
 have df:∀k,k < X.heap.size->k≠b->vf.ownBlock≠some k->X3.heap[k]?=X.heap[k]?:=λk hk hb hf=>
  ((hg.block k (by omega) (λe=>hf e.symm)).trans (Below.heap_alloc _ _ k (by omega))).trans (Below.heap_setCell X ⟨b,7,none⟩ v k hb)
 have dz:(X3.setCell (Ad b 6) v2).heap.size=X3.heap.size:=by simp
 have c9:∀k,k < X.heap.size->k≠b->vf.ownBlock≠some k->(X3.setCell (Ad b 6) v2).heap[k]?=X.heap[k]?:=λk hk hb hf=>(Below.heap_setCell X3 ⟨b,6,none⟩ v2 k hb).trans (df k hk hb hf)
 have aq:∀(k:Nat) (c:Array Vq) (u:TypeId),u≠233->u≠222->X.heap[k]?=cC c u->(X3.setCell (Ad b 6) v2).heap[k]?=X.heap[k]?:=λk c u dy dw hc=>c9 k (zg hc).1 (λe=>by subst e;rw[hE.box] at hc;cases hc;exact dw rfl) (λe=>by
  obtain⟨c',ah⟩:=qh hE.facts e
  rw[hc] at ah;cases ah;exact dy rfl)
 have Qv:∀{B U m n:Nat} {u:Vq} {xs:List Vq},U≠233->U≠222->X.ownsRow B U m u n xs->(X3.setCell (Ad b 6) v2).ownsRow B U m u n xs:=λhU dd ho=>qm ho (λg af _=>by
  obtain⟨c,hc⟩:=qh ho af
  exact aq g c _ hU dd hc)
 have bn:∀{v:Vq} {l:List Rc},qmr X v l->qmr (X3.setCell (Ad b 6) v2) v l:=λ{v l} hr=>by
  refine hr.keep (λg af=>?_);rcases hr with⟨rfl,_⟩ | ⟨g',ap,cap,ae,rfl,h2,_⟩
  .cases af
  .cases af
   exact aq g' ae _ (by decide) (by decide) h2
 have d2:=h.chg.size;have h4:(X3.setCell (Ad b 6) v2).heap[b]?=cC #[vr,.int .i64 y.win,.int .i64 y.lat,.int .i64 y.que,.int .i64 y.clock,.int .i64 y.mark,v2,v,vs,vd] 222:=Qd h3 6 v2
 have Qdk:Chg W (X3.setCell (Ad b 6) v2) T:=by
  refine Chg.setCell ((((h.chg.setCell (Ad b 7) v (λ_=>hE.own)).alloc O)).grown hg (λk hk aj=>hE.factsT k hk)) ⟨b,6,none⟩ v2 (λ_=>hE.own)
 have b8:∀(u:Vq) {B U m n:Nat} {xs:List Vq},(X3.setCell (Ad b 6) v2).ownsRow B U m u n xs->(∀k,u.ownBlock=some k->T k\/W.heap.size<=k)->∀k,u.ownBlock=some k->qhs T W (X3.setCell (Ad b 6) v2) k:=λu _ _ _ _ _ hu hl k hk=>by
  rcases hl k hk with h5 | h5
  .exact .inl h5
  .obtain⟨c,hc⟩:=qh hu hk;exact .inr ⟨h5,(zg hc).1⟩
 have cz:(X3.setCell (Ad b 6) v2).ownsRow 0 233 4 v2 (fs.length+1) (fs.flatMap fcC++fcC ((g,t,false),vg)):=Qg ho ⟨b,6,none⟩ v2 (λg' af e=>by
  obtain⟨c,hc⟩:=qh ho af;have e':g'=b:=e
  rw[e',h3] at hc;cases hc)
 have Qep:qt (X3.setCell (Ad b 6) v2) vg g.args:=Qv (by decide) (by decide) dt;have cf:qt (X3.setCell (Ad b 6) v2) v ag:=Qv (by decide) (by decide) h.row;refine⟨zc h3,by simp[World.frozen?,h3],qhs.post ⟨vr,v2,v,vs,vd,qs,fs++[((g,t,false),vg)],ss,ds,⟨h4,.inl hE.own,qhs.lt hT Qdk.size,h.er.rules.keep (λk c u ht hc=>aq k c u (by rcases ht with rfl | rfl | rfl <;> decide) (by rcases ht with rfl | rfl | rfl <;> decide) hc),hE.rsm,?_,?_,?_,?_,cf,?_,⟨Qv (by decide) (by decide) hE.state.row,λp hp=>Qv (by decide) (by decide) (hE.state.each p hp)⟩,λg hg=>.inl (hE.stateT g hg),hE.statem,λp hp g hg=>.inl (hE.statee p hp g hg),Qv (by decide) (by decide) hE.feeds,λg hg=>.inl (hE.feedsT g hg),hE.feedsm,λp hp=>⟨⟨bn (hE.feede p hp).1.1,λg hg=>.inl ((hE.feede p hp).1.2 g hg)⟩,bn (hE.feede p hp).2.1,λg hg=>.inl ((hE.feede p hp).2.2 g hg)⟩,?_,hE.sepQ⟩⟩ Qdk⟩
 .rw[List.length_append,List.flatMap_append];simpa using cz
 .refine b8 v2 cz (λk hk=>?_);rcases dj with e | e
  .rw[e] at hk;exact .inl (hE.factsT k hk)
  .rw[e] at hk;cases hk;right;omega
 .show _=y.facts++_;rw[List.map_append,hE.factsm];rfl
 .intro p hp;rcases List.mem_append.1 hp with hp | hp
  .exact⟨Qv (by decide) (by decide) (hE.facte p hp).1,λg hg=>.inl ((hE.facte p hp).2 g hg)⟩
  .simp only[List.mem_cons,List.not_mem_nil,or_false] at hp;subst hp;exact⟨Qep,b8 vg Qep (λk hk=>.inr (dl k hk))⟩
 .refine b8 v cf (λk hk=>?_);rcases h.loc with e | e
  .rw[e] at hk;exact .inl (hE.namesT k hk)
  .exact .inr (e k hk)
 .intro k hk
  have bj:∀u:Vq,(∀g,u.ownBlock=some g->T g)->(∀g,vn.ownBlock=some g->u.ownBlock≠some g)->u.ownBlock≠some k:=λu h5 h6 e=>by
   rcases h.loc with hl | hl
   .rw[hl] at hk;exact h6 k hk e
   .have:=hl k hk;have:=hT k (h5 k e);omega
  refine⟨λp hp=>?_,λp hp=>bj p.2 (hE.statee p hp) (λg hg=>(hE.sepN g hg).2 p hp)⟩;rcases List.mem_append.1 hp with hp | hp
  .exact bj p.2 (hE.facte p hp).2 (λg hg=>(hE.sepN g hg).1 p hp)
  .simp only[List.mem_cons,List.not_mem_nil,or_false] at hp;subst hp;exact a7 k hk
def qf4(y:Er)(s:By)(t:Int):Int×Er:=
 match qgh s with
 | none=>(2,y)
 | some a=>match qfw a with
  | none=>(2,y)
  | some g=>
   if qfs y.rs a.rel=false then (7,y)
   else if qac (qap y.rs) a.rel≠a.args.length then (4,y)
   else if ¬(0<=t/\t<=1000000) then (6,y)
   else if t+y.win<=y.mark then (8,y)
   else if y.facts.any (λf=>qek f.1 g && decide (f.2.1=t))=true then (9,y)
   else if 24<=y.facts.length\/8 < (qa7 y.names g.args).length then (10,y)
   else (0,{y with names:=qa7 y.names g.args,facts:=y.facts++[(g,t,false)]})
