/- The document's own engine: what a call leaves behind. -/
import Derived.Test.YtjajnhemgphefaaGreatDoorJEgI
import Derived.Maps.AppendAt
import Derived.Test.YtjajnhemgphefaaGreatDoorJWyD
import Derived.Deep.RegionHeld3
set_option linter.unusedVariables false
set_option linter.unusedSimpArgs false
set_option maxRecDepth 100000
set_option maxHeartbeats 4000000
namespace Go.Proofs.YtjajnhemgphefaaGreatDoor
open Go renaming World->Wq,Value->Vq
open Go.RowKit Go.Shelf
variable {P:Program} {W W' X X':Wq} {l:List Rc} {b:Nat} {qs:List (Rl×Vq×Vq)} {T:Nat->Prop} {vr vf vn vs vd v':Vq} {fs:List ((Gr×Int×Bool)×Vq)} {ss:List (Gr×Vq)} {acc:List ByteArray}
def q80(l:List ByteArray)(x:ByteArray):Bool:=l.any (Q2 x)
def qyn(kind:Int)(these those:List ByteArray):List Rc:=(these.filter (λx=>!q80 those x)).map (λx=>⟨kind,0,x,0⟩)
theorem qwp(w:Wq)(base:Nat)(t ty e:TypeId)(i:TypeInfo)(z:Vq)(ht:P.underlying t=some (.slice e))(hi:P.info? e=some i)(hz:i.zero=some z)(v:Vq)(n:Nat)(xs:List Vq)(qr:w.ownsRow base e i.size v n xs)(a:Addr)(m c:Nat)(news:List Vq)(hl:news.length=m*i.size)(hnews:∀j u,news[j]?=some u->w.cell? (a.add j)=some u)(h1:∀u∈news,u.oneCell'=true)(h63:n+m<=maxLen)(hbytes:(n+m)*i.bytes<=140737488355328){v':Vq}{w':Wq}(qiv:(Builtin.append_ #[t,t] ty #[v,.slice (some a) m c]).run P w=.ok v' w'):w'.ownsRow base e i.size v n xs:=by
 have Qf0:n+m<=9223372036854775807:=by simp only[maxLen] at h63;omega
 have quz:=qr;obtain⟨hx,⟨rfl,rfl⟩ | ⟨g,cap,cur,rfl,hbg,hg,hnc,hcm,hcs,q8b⟩⟩:=qr
 ·exact⟨hx,.inl ⟨rfl,rfl⟩⟩
 ·by_cases hroom:n+m<=cap
  ·have q6h:n*i.size+news.length<=cur.size:=by rw[hl,hcs,<- Nat.add_mul];exact Nat.mul_le_mul_right _ hroom
   rw[run_append_room (P:=P) w t ty e i ht hi g n cap cur hg a m c news hl hnews h1 hroom q6h] at qiv;cases qiv;refine⟨hx,.inr ⟨g,cap,_,rfl,hbg,setRow_heap w g cur _ e _ hg,hnc,hcm,?_,?_⟩⟩
   ·simp only[List.size_toArray,List.length_append,List.length_take,List.length_drop,Array.length_toList];omega
   ·rw[q8b,List.append_assoc,<- hx];exact List.take_left
  ·have holds:∀j u,xs[j]?=some u->w.cell? ((⟨g,0,none⟩:Addr).add j)=some u:=quz.cells (g:=g) rfl;rw[run_append_grow (P:=P) w t ty e i z ht hi hz ⟨g,0,none⟩ n cap xs hx holds a m c news hl hnews (by omega) (by omega) (growslice_fits (by omega) hbytes)] at qiv;cases qiv;refine⟨hx,.inr ⟨g,cap,cur,rfl,hbg,?_,hnc,hcm,hcs,q8b⟩⟩;exact (Below.heap_alloc w.drew _ g (zg hg).1).trans hg
theorem qv9(w:Wq){ops:Array Oper}{rest:List Oper}{o:Oper}{a:Act}{Q:Exit->Act->Wq->Prop}(hgd:o.guard=none)(s x:Operand)(t:TypeId)(ho:o.op=.call {callee:=.builtin .append,args:=#[s,x],argTypes:=#[t,t]})(base:Nat)(e:TypeId)(i:TypeInfo)(z:Vq)(size bytes:Nat)(h1:P.underlying t=some (.slice e))(h2:P.info? e=some i)(h3:i.zero=some z)(h4:i.size=size)(h5:i.bytes=bytes)(h6:z.cells.size=size)(h7:0 < size)(v:Vq)(n:Nat)(xs:List Vq)(hs:a.eval s=v)(qr:w.ownsRow base e size v n xs)(ad:Addr)(m c:Nat)(news:List Vq)(hx:a.eval x=.slice (some ad) m c)(hn:news.length=m*size)(hc:∀j u,news[j]?=some u->w.cell? (ad.add j)=some u)(h1c:∀u∈news,u.oneCell'=true)(b1:n+m<=maxLen)(b2:(n+m)*bytes<=140737488355328)(qg6:base<=w.heap.size)(h:∀v' w',w'.ownsRow base e size v' (n+m) (xs++news)->w'.ownsRow base e size v n xs->w.grownBy w' v.ownBlock->(v'.ownBlock=v.ownBlock\/v'.ownBlock=some w.heap.size)->wpList P ops Q rest (a.put o.dst v') w'):wpList P ops Q (o::rest) a w:=by
 refine wpList_plain hgd λK hK'=>?_;obtain⟨v',w',qiv,r1,r2,_,r3⟩:=run_append_own_at (P:=P) w base t o.type e i z size bytes h1 h2 h3 h4 h5 h6 h7 v n xs qr ad m c news hn hc h1c b1 b2 qg6;subst h4 h5;have r4:=qwp w base t o.type e i z h1 h2 h3 v n xs qr ad m c news hn hc h1c b1 b2 qiv;unfold Oper.wp;simp[execOp,ho,resolve,invoke,builtin,hs,hx,qiv,Result.andThen];exact hK' _ _ (h v' w' r1 r4 r2 r3)
theorem qwn(B:Nat)(v:Vq)(vs:List ByteArray)(x:ByteArray)(w:Wq)(hB:B<=w.heap.size)(hl:vs.length<=1000000)(qr:w.ownsRow B 9 1 v vs.length (vs.map Value.string)) :
  Calls Tryz.prog 119 #[v,.string x] w λe w'=>∃v',e=.returned v'/\w'.ownsRow B 9 1 v' (Qc vs x).length ((Qc vs x).map Value.string)/\w'.ownsRow B 9 1 v vs.length (vs.map Value.string)/\w.grownBy w' v.ownBlock/\(v'.ownBlock=v.ownBlock\/∀g,v'.ownBlock=some g->w.heap.size<=g):=by
 obtain⟨i0,hi,hz0,hz1,hz2⟩:=info_parts Tryz.infoStr;obtain⟨a,c,hv⟩:=qd qr
 have qb5:∀(j:Nat) (hj:j < vs.length),∃g,a=some ⟨g,0,none⟩/\w.cell? ⟨g,j,none⟩=some (.string vs[j]):=by
  intro j hj;have h2:=qr;rw[qjo] at h2;obtain⟨g,cap,e1,e2,e3,e4,e5⟩:=qbq h2 ql4 (by omega);rw[hv] at e1;cases e1;have:=e5 j 0 hj (.string vs[j]) (by decide) rfl;rw[Nat.mul_one,Nat.add_zero] at this;exact⟨g,rfl,this⟩
 subst hv;have HO:Hid (w.ownsRow B 9 1 (.slice a vs.length c) vs.length (vs.map Value.string)):=qr;have HC:Hid _:=qb5;clear qr qb5;go_enter Tryz.func119,Tryz.ntmps119;go_wp2
 go_loopw [5] (λp wr=>∃i:Nat,p=.int .i64 i/\i<=vs.length/\wr=w/\Hid (∀(j:Nat) (hj:j < vs.length),j < i->Q2 x vs[j]=false)) (λp _=>vs.length - (intOf p).toNat)
 case atStart=>exact⟨0,rfl,Nat.zero_le _,rfl,λj hj h=>by omega⟩
 case round=>
  obtain⟨i,rfl,hle,rfl,hno⟩:=hrel;by_cases hlt:i < vs.length
  ·obtain⟨g,rfl,Ql⟩:=HC.out i hlt;obtain⟨y,hy⟩:∃y,vs[i]=y:=⟨_,rfl⟩;rw[hy] at Ql;have HY:Hid (vs[i]=y):=hy;clear hy;by_cases hs:Q2 x y=true
   ·have hN:=qjn vs x i hlt (by rw[HY.out];exact hs) hno.out;have HN:Hid _:=hN;clear hN;unfold Q2 at hs;go_wp2;go_ret;have hL:Qc vs x=vs:=by unfold Qc;rw[if_pos (by rw[HN.out];exact hlt)]
    rw[hL];exact⟨_,rfl,HO.out,HO.out,World.grownBy.refl _ _,.inl rfl⟩
   ·have hs':Q2 x y=false:=by simpa using hs
    have q3h:Hid (∀(j:Nat) (hj:j < vs.length),j < i+1->Q2 x vs[j]=false):=by
     intro j hj hji;by_cases e:j=i
     ·subst e;rw[HY.out];exact hs'
     ·exact hno.out j hj (by omega)
    unfold Q2 at hs';clear hs;go_wp2
    go_roundw
    case rel=>exact⟨i+1,by go_num,by omega,by trivial,q3h⟩
    case measure=>simp[intOf];omega
  ·have hN:=qkz vs x (λj hj=>hno.out j hj (by omega));have hL:Qc vs x=vs++[x]:=by unfold Qc;rw[if_neg (by omega)]
   have HL:Hid (Qc vs x=vs++[x]):=hL;have hc3:vs.length+1<=maxLen:=by unfold maxLen;omega
   have hc4:(vs.length+1)*16<=140737488355328:=by omega
   have hc5:Hid (∀O,B<=(wr.alloc O).heap.size):=λO=>by simp;omega
   have h1c:∀u∈[Value.string x],u.oneCell'=true:=by simp[Value.oneCell']
   clear hN hL
   go_wp2_with (at_builtin;refine qv9 _ rfl (.tmp 19) (.tmp 21) 22 rfl B 9 i0 (.string ⟨#[]⟩) 1 16 Tryz.underlying22 hi hz0 hz1 hz2 rfl (by decide) _ _ _ rfl (HO.out.alloc _) ⟨wr.heap.size,0,none⟩ 1 1 [.string x] rfl rfl (qgd _ _ _) h1c hc3 hc4 (hc5.out _) ?_;intro v' w1 hown1 hold1 hgrow1 hat1)
   go_ret;rw[HL.out];refine⟨v',rfl,?_,hold1,?_,?_⟩
   ·simpa using hown1
   ·exact⟨hgrow1.os,hgrow1.tape,hgrow1.output,by have:=hgrow1.size;simp at this;omega,λk hk hn=>(hgrow1.block k (by simp;omega) hn).trans (Below.heap_alloc _ _ _ hk)⟩
   ·rcases hat1 with h | h
    ·exact .inl h
    ·exact .inr (λg hg=>by rw[h] at hg;cases hg;simp)
structure Fr where
 rel:ByteArray
 behind:Bool
 snap:List Rc
 que:List Rc
 next:Nat
structure Er where
 rs:List Rl
 win:Int
 lat:Int
 que:Int
 clock:Int
 mark:Int
 facts:List (Gr×Int×Bool)
 names:List ByteArray
 state:List Gr
 feeds:List Fr
def fcC(p:(Gr×Int×Bool)×Vq):List Vq:=[.string p.1.1.rel,p.2,.int .i64 p.1.2.1,.bool p.1.2.2]
def frC(p:Fr×Vq×Vq):List Vq:=[.string p.1.rel,.bool p.1.behind,p.2.1,p.2.2,.int .i64 (p.1.next:Int)]
def qke(W:Wq)(v:Vq)(l:List Rc):Prop:=(v=.slice none 0 0/\l=[])\/
 ∃g off cap cur,v=.slice (some ⟨g,off,none⟩) l.length cap/\W.heap[g]?=some (Obj.cells cur 71)/\l.length<=cap/\cap<=maxLen/\off+cap*4<=cur.size/\(cur.toList.drop off).take (l.length*4)=l.flatMap Rc.c
theorem qke.keep{v:Vq}(h:qke W v l)(hk:∀g,v.ownBlock=some g->W'.heap[g]?=W.heap[g]?):qke W' v l:=by
 rcases h with h | ⟨g,off,cap,cur,rfl,h2,h3⟩
 ·exact .inl h
 ·exact .inr ⟨g,off,cap,cur,rfl,(hk g rfl).trans h2,h3⟩
theorem qke.own{v:Vq}(h:W.ownsRow b 71 4 v l.length (l.flatMap Rc.c)):qke W v l:=by
 obtain⟨_,⟨hv,hn⟩ | ⟨g,cap,cur,hv,_,hh,h1,h2,h3,h4⟩⟩:=h
 ·exact .inl ⟨hv,List.eq_nil_of_length_eq_zero hn⟩
 ·exact .inr ⟨g,0,cap,cur,hv,hh,h1,h2,by omega,by rw[List.drop_zero];exact h4⟩
def qk3(W W':Wq):Prop:=∀(k:Nat) (c:Array Vq) (t:TypeId),(t=148\/t=145\/t=215)->W.heap[k]?=some (Obj.cells c t (0,0))->W'.heap[k]?=W.heap[k]?
theorem qag.keep{v:Vq}(h:qag W v qs)(hk:qk3 W W'):qag W' v qs:=by
 have Q4:∀{B T m n:Nat} {v:Vq} {xs:List Vq},(T=148\/T=145\/T=215)->W.ownsRow B T m v n xs->W'.ownsRow B T m v n xs:=λhT ho=>qm ho (λg hg _=>by
  obtain⟨c,hc⟩:=qi ho hg
  exact hk g c _ hT hc)
 refine⟨Q4 (.inl rfl) h.row,λq hq=>?_⟩;obtain⟨h1,ps,h2,h3⟩:=h.each q hq;exact⟨Q4 (.inr (.inr rfl)) h1,ps,h2,⟨Q4 (.inr (.inl rfl)) h3.row,λp hp=>Q4 (.inr (.inr rfl)) (h3.each p hp)⟩⟩
structure qb2(W:Wq)(T:Nat->Prop)(b:Nat)(y:Er)(vr vf vn vs vd:Vq)(qs:List (Rl×Vq×Vq))(fs:List ((Gr×Int×Bool)×Vq))(ss:List (Gr×Vq))(ds:List (Fr×Vq×Vq)):Prop where
 box:W.heap[b]?=some (Obj.cells #[vr,.int .i64 y.win,.int .i64 y.lat,.int .i64 y.que,.int .i64 y.clock,.int .i64 y.mark,vf,vn,vs,vd] 222)
 own:T b
 lt:∀k,T k->k < W.heap.size
 rules:qag W vr qs
 rsm:qs.map (·.1)=y.rs
 facts:W.ownsRow 0 233 4 vf fs.length (fs.flatMap fcC)
 factsT:∀g,vf.ownBlock=some g->T g
 factsm:fs.map (·.1)=y.facts
 facte:∀p∈fs,qu W p.2 p.1.1.args/\∀g,p.2.ownBlock=some g->T g
 names:qu W vn y.names
 namesT:∀g,vn.ownBlock=some g->T g
 state:qcu W vs ss
 stateT:∀g,vs.ownBlock=some g->T g
 statem:ss.map (·.1)=y.state
 statee:∀p∈ss,∀g,p.2.ownBlock=some g->T g
 feeds:W.ownsRow 0 246 5 vd ds.length (ds.flatMap frC)
 feedsT:∀g,vd.ownBlock=some g->T g
 feedsm:ds.map (·.1)=y.feeds
 feede:∀p∈ds,(qke W p.2.1 p.1.snap/\∀g,p.2.1.ownBlock=some g->T g)/\qke W p.2.2 p.1.que/\∀g,p.2.2.ownBlock=some g->T g
 sepN:∀g,vn.ownBlock=some g->(∀p∈fs,p.2.ownBlock≠some g)/\∀p∈ss,p.2.ownBlock≠some g
 sepQ:∀(i j:Nat) (p q:Fr×Vq×Vq) (g:Nat),ds[i]?=some p->ds[j]?=some q->p.2.2.ownBlock=some g->(i≠j->q.2.2.ownBlock≠some g)/\q.2.1.ownBlock≠some g
def ErM(W:Wq)(T:Nat->Prop)(b:Nat)(y:Er):Prop:=∃vr vf vn vs vd qs fs ss ds,qb2 W T b y vr vf vn vs vd qs fs ss ds
theorem qb2.keep{y:Er}{ds:List (Fr×Vq×Vq)}(h:qb2 W T b y vr vf vn vs vd qs fs ss ds)(hz:W.heap.size<=W'.heap.size)(hk:∀k,T k->W'.heap[k]?=W.heap[k]?)(hr:qk3 W W'):qb2 W' T b y vr vf vn vs vd qs fs ss ds:=by
 have Q4:∀{B U m n:Nat} {v:Vq} {xs:List Vq},(∀g,v.ownBlock=some g->T g)->W.ownsRow B U m v n xs->W'.ownsRow B U m v n xs:=λhT ho=>qm ho (λg hg _=>hk g (hT g hg));exact⟨(hk b h.own).trans h.box,h.own,λk hk'=>Nat.lt_of_lt_of_le (h.lt k hk') hz,h.rules.keep hr,h.rsm,Q4 h.factsT h.facts,h.factsT,h.factsm,λp hp=>⟨Q4 (h.facte p hp).2 (h.facte p hp).1,(h.facte p hp).2⟩,Q4 h.namesT h.names,h.namesT,⟨Q4 h.stateT h.state.row,λp hp=>Q4 (h.statee p hp) (h.state.each p hp)⟩,h.stateT,h.statem,h.statee,Q4 h.feedsT h.feeds,h.feedsT,h.feedsm,λp hp=>⟨⟨(h.feede p hp).1.1.keep (λg hg=>hk g ((h.feede p hp).1.2 g hg)),(h.feede p hp).1.2⟩,(h.feede p hp).2.1.keep (λg hg=>hk g ((h.feede p hp).2.2 g hg)),(h.feede p hp).2.2⟩,h.sepN,h.sepQ⟩
theorem qk3.below(hb:Below W.heap.size W W'):qk3 W W':=λk c t _ hc=>hb.block k (zg hc).1
theorem qb2.below{y:Er}{ds:List (Fr×Vq×Vq)}(h:qb2 W T b y vr vf vn vs vd qs fs ss ds)(hb:Below W.heap.size W W'):qb2 W' T b y vr vf vn vs vd qs fs ss ds:=
 h.keep hb.size (λk hk=>hb.block k (h.lt k hk)) (qk3.below hb)
def qkn(rel:ByteArray)(r:Rl):Bool:=r.head.rel.toList == rel.toList
def qfh(rs:List Rl)(rel:ByteArray):Bool:=!(rs.any (qkn rel)) && decide (0 < qac (qap rs) rel)
theorem qzx{y:Er}{ds:List (Fr×Vq×Vq)}(h:qb2 W T b y vr vf vn vs vd qs fs ss ds)(hq:qs.length<=1000)(hb:∀q∈qs,q.1.body.length<=900)(rel:ByteArray) :
  Calls Tryz.prog 116 #[.pointer (some ⟨b,0,none⟩),.string rel] W λe w'=>e=.returned (.bool (qfh y.rs rel))/\Below W.heap.size W w':=by
 obtain⟨va,vc,hvr⟩:=qd h.rules.row;have c0:W.cell? ⟨b,0,none⟩=some (.slice va qs.length vc):=by simp[World.cell?,h.box,hvr]
 have qsv:b < W.heap.size:=h.lt b h.own;have har:Hid _:=qhl vr qs rel W h.rules hq hb;rw[hvr] at har;have HR:Hid (∀X,Below W.heap.size W X->qag X (.slice va qs.length vc) qs/\X.cell? ⟨b,0,none⟩=some (.slice va qs.length vc)):=λX hX=>⟨by rw[<- hvr];exact h.rules.below hX,(hX.cell (p:=⟨b,0,none⟩) qsv).trans c0⟩
 have hD:Hid (∀n:Nat,qac (Qt qs) rel=n->qfh y.rs rel=(!((qs.drop 0).any (λq=>qkn rel q.1)) && decide (0 < n))):=λn hn=>by
  unfold qfh;rw[<- h.rsm,List.any_map,<- hn];have:qap (qs.map (·.1))=Qt qs:=by unfold qap Qt;rw[List.flatMap_map]
  rw[this];rfl
 clear h hvr hb qsv;obtain⟨n,hn⟩:∃n,qac (Qt qs) rel=n:=⟨_,rfl⟩;have hD1:Hid (qfh y.rs rel=(!((qs.drop 0).any (λq=>qkn rel q.1)) && decide (0 < n))):=hD.out n hn;rw[hn] at har;clear hn hD;generalize qfh y.rs rel=bb at *;go_enter Tryz.func116,Tryz.ntmps116;go_wp2_with fail;refine Calls.mono har.out ?_;rintro e' W1 ⟨rfl,hb1⟩;have HB1:Hid (Below W.heap.size W W1):=hb1;clear har hb1 c0;go_wp2_with fail
 go_loopw [6] (λp wr=>∃i:Nat,p=.int .i64 i/\i<=qs.length/\W1=wr/\Hid (bb=(!((qs.drop i).any (λq=>qkn rel q.1)) && decide (0 < n)))) (λp _=>qs.length - (intOf p).toNat)
 case atStart=>exact⟨0,rfl,Nat.zero_le _,rfl,hD1⟩
 case round=>
  clear hD1;obtain⟨i,rfl,hle,rfl,hbb⟩:=hrel;obtain⟨hR1,c0⟩:=HR.out W1 HB1.out;by_cases hlt:i < qs.length
  ·have i1:(i:Int) < (qs.length:Int):=by omega
   obtain⟨g,cap,e0,hg,s0,s1,s2,_,_⟩:=hR1.cell i hlt;cases e0;have hdr:=List.drop_eq_getElem_cons hlt;rw[hdr,List.any_cons] at hbb;clear hdr hR1 s1 s2
   cases hs:qkn rel qs[i].1 with
   | true=>
    rw[hs] at hbb;have hf:Hid (bb=false):=hbb.out;unfold qkn at hs;clear hbb;go_wp2;go_ret;exact⟨by rw[hf.out];rfl,HB1.out⟩
   | false=>
    rw[hs,Bool.false_or] at hbb;unfold qkn at hs;go_wp2;refine⟨⟨i+1,by go_num,by omega,by trivial,hbb⟩,by simp[intOf];omega⟩
  ·have i1:¬(i:Int) < (qs.length:Int):=by omega
   rw[List.drop_eq_nil_of_le (by omega)] at hbb;have hf:Hid (bb=decide (0 < n)):=hbb.out;clear hbb hR1;go_wp2;go_ret;refine⟨?_,HB1.out⟩;rw[hf.out];simp
def qgl(rs:List Rl)(a:Am):Int:=if qac (qap rs) a.rel=0 then 7 else if qac (qap rs) a.rel=a.args.length then 0 else 4
def qgu(rs:List Rl)(s:ByteArray)(N:Nat)(e:Ending)(w':Wq):Prop:=
 match qgq s with
 | none=>e=.returned (.tuple #[.agg #[.string ⟨#[]⟩,.slice none 0 0],.int .i64 2])
 | some a=>∃va,e=.returned (.tuple #[.agg #[.string a.rel,va],.int .i64 (qgl rs a)])/\w'.ownsRow N 215 2 va a.args.length (a.args.flatMap tmC)/\a.args.length<=2/\1<=a.args.length/\(∀t∈a.args,t.num<=2)/\q1x 1200 a
theorem qwq{y:Er}{ds:List (Fr×Vq×Vq)}(h:qb2 W T b y vr vf vn vs vd qs fs ss ds)(hq:qs.length<=1000)(hb:∀q∈qs,q.1.body.length<=900)(s:ByteArray)(hs:s.size<=1048576) :
  Calls Tryz.prog 121 #[.pointer (some ⟨b,0,none⟩),.string s] W λe w'=>qgu y.rs s W.heap.size e w'/\Below W.heap.size W w':=by
 obtain⟨va,vc,hvr⟩:=qd h.rules.row;have c0:W.cell? ⟨b,0,none⟩=some (.slice va qs.length vc):=by simp[World.cell?,h.box,hvr]
 have qsv:b < W.heap.size:=h.lt b h.own;obtain⟨N,hN⟩:∃N,N=W.heap.size:=⟨_,rfl⟩;have hNr:=hN.symm;obtain⟨W0,hW0⟩:∃W0,W.alloc (.cells #[.string ⟨#[]⟩,.slice none 0 0] 145)=W0:=⟨_,rfl⟩;have hb0:Below W.heap.size W W0:=by rw[<- hW0];exact (Below.refl _ W).alloc zl _
 have q3a:W0.heap[N]?=some (Obj.cells #[.string ⟨#[]⟩,.slice none 0 0] 145):=by rw[<- hW0,hN];exact World.alloc_heap_new W _
 have hs0:W0.heap.size=N+1:=by rw[<- hW0,hN];simp
 have hon:Hid (Calls Tryz.prog 114 #[.string s] W0 λe w'=>qei s W0.heap.size e w'/\Below W0.heap.size W0 w'):=qy6 s W0 hs;have qnz:qap y.rs=Qt qs:=by rw[<- h.rsm];unfold qap Qt;rw[List.flatMap_map]
 have HR:Hid (∀X rel,Below W.heap.size W X->X.cell? ⟨b,0,none⟩=some (.slice va qs.length vc)/\Calls Tryz.prog 117 #[.slice va qs.length vc,.string rel] X λe w'=>e=.returned (.int .i64 (qac (qap y.rs) rel:Int))/\Below X.heap.size X w'):=λX rel hX=>⟨(hX.cell (p:=⟨b,0,none⟩) qsv).trans c0,by rw[qnz,<- hvr];exact qhl vr qs rel X (h.rules.below hX) hq hb⟩;have hbl:Hid (b < W.heap.size):=qsv;have HB0:Hid (Below W.heap.size W W0/\W0.heap[N]?=some (Obj.cells #[.string ⟨#[]⟩,.slice none 0 0] 145)/\W0.heap.size=N+1):=⟨hb0,q3a,hs0⟩;rw[hNr] at HB0 HR hbl ⊢;have HNN:Hid (W.heap.size=N):=hNr;clear h hvr hb qsv qnz c0 hb0 q3a hs0 hN;go_enter Tryz.func121,Tryz.ntmps121;go_wp2_with fail;refine Calls.mono hon.out ?_;rintro e' W1 ⟨h1,hb1⟩;clear hon;have qcg:W1.heap[N]?=some (Obj.cells #[.string ⟨#[]⟩,.slice none 0 0] 145):=(hb1.block N (by rw[HB0.out.2.2];omega)).trans HB0.out.2.1;have qhq:Below N W W1:=HB0.out.1.trans (hb1.mono (by rw[HB0.out.2.2];omega));have q0:W1.cell? ⟨N,0,none⟩=some (.string ⟨#[]⟩):=by simp[World.cell?,qcg]
 have q1:W1.cell? ⟨N,1,none⟩=some (.slice none 0 0):=by simp[World.cell?,qcg]
 have f0:W1.frozen? ⟨N,0,none⟩=false:=by simp[World.frozen?,qcg]
 have f1:W1.frozen? ⟨N,1,none⟩=false:=by simp[World.frozen?,qcg]
 have HX2:Hid (∀(r v:Vq),Below N W ((W1.setCell ⟨N,0,none⟩ r).setCell ⟨N,1,none⟩ v)/\((W1.setCell ⟨N,0,none⟩ r).setCell ⟨N,1,none⟩ v).heap[N]?=some (Obj.cells #[r,v] 145)):=λr v=>⟨(qhq.setCell (p:=⟨N,0,none⟩) zl r).setCell (p:=⟨N,1,none⟩) zl v,qym qcg r v⟩;have Qbh:Hid (qei s W0.heap.size e' W1):=h1;have HBX:Hid (W1.heap[N]?=some (Obj.cells #[.string ⟨#[]⟩,.slice none 0 0] 145)):=qcg;have HB1:Hid (Below N W W1):=qhq;clear h1 qcg hb1 qhq
 obtain⟨rel,oa,al,oc,okb,he,q9⟩:∃(rel:ByteArray) (oa:Option Addr) (al oc:Nat) (okb:Bool),e'=.returned (.tuple #[.agg #[.string rel,.slice oa al oc],.bool okb])/\Hid (∀w',Below W1.heap.size W1 w'\/True->∀(c:Int),(c=if okb=false then 2 else if qac (qap y.rs) rel=0 then 7 else if qac (qap y.rs) rel=al then 0 else 4)->(∀va,(Value.slice oa al oc)=va->∀a,qgq s=some a->w'.ownsRow N 215 2 va a.args.length (a.args.flatMap tmC))->qgu y.rs s N (.returned (.tuple #[.agg #[.string rel,.slice oa al oc],.int .i64 c])) w'):=by
  have h2:=Qbh.out;unfold qei at h2
  cases ho:qgq s with
  | none=>
   rw[ho] at h2;refine⟨⟨#[]⟩,none,0,0,false,h2,λw' _ c hc _=>?_⟩;unfold qgu;rw[ho,hc];rfl
  | some a=>
   rw[ho] at h2;obtain⟨va,k1,k2,k3,k4,k5,k6⟩:=h2;obtain⟨oa,oc,rfl⟩:=qd k2;refine⟨a.rel,oa,a.args.length,oc,true,k1,λw' _ c hc hr=>?_⟩;unfold qgu;rw[ho];refine⟨_,?_,hr _ rfl a rfl,k3,k4,k5,k6⟩;rw[hc];unfold qgl;simp
 subst he
 have Q4:Hid (∀a,qgq s=some a->W1.ownsRow W0.heap.size 215 2 (.slice oa al oc) a.args.length (a.args.flatMap tmC)):=λa ho=>by
  have h2:=Qbh.out;unfold qei at h2;rw[ho] at h2;obtain⟨va,k1,k2,_⟩:=h2;simp only[Ending.returned.injEq,Value.tuple.injEq,Array.mk.injEq,List.cons.injEq,Value.agg.injEq,and_true,true_and] at k1;rw[k1.1.2];exact k2
 obtain⟨V,hV⟩:∃V,W1.alloc (.cells #[.string rel,.slice oa al oc] 145)=V:=⟨_,rfl⟩;have hNz:N<=W1.heap.size:=by have:=HB1.out.size;have:=HNN.out;omega
 have q26:Below N W V:=by rw[<- hV];exact HB1.out.alloc hNz _
 have hNv:N<=V.heap.size:=by have:=q26.size;have:=HNN.out;omega
 have hVM:V.heap[W1.heap.size]?=some (Obj.cells #[.string rel,.slice oa al oc] 145):=by rw[<- hV];exact World.alloc_heap_new W1 _
 have hVN:V.heap[N]?=some (Obj.cells #[.string ⟨#[]⟩,.slice none 0 0] 145):=by rw[<- hV];exact (Below.heap_alloc _ _ _ (zg HBX.out).1).trans HBX.out
 obtain⟨c0,hA⟩:=HR.out V.drew rel q26.drew
 have hAr:Hid (Calls Tryz.prog 117 #[.slice va qs.length vc,.string rel] V.drew λe w'=>e=.returned (.int .i64 (qac (qap y.rs) rel:Int))/\(w'.cell? ⟨b,0,none⟩=some (.slice va qs.length vc)/\w'.cell? ⟨W1.heap.size,0,none⟩=some (.string rel))/\Hid (Below V.heap.size V w')):=by
  refine hA.mono ?_;rintro e w' ⟨k1,k2⟩;have k3:Below V.heap.size V w':=(Below.refl _ V).drew.trans k2;exact⟨k1,⟨(HR.out w' rel (q26.trans (k3.mono hNv))).1,by rw[k3.cell (p:=⟨W1.heap.size,0,none⟩) (zg hVM).1];simp[World.cell?,hVM]⟩,k3⟩
 have z0:V.drew.cell? ⟨W1.heap.size,0,none⟩=some (.string rel):=by show V.cell? _=_;simp[World.cell?,hVM]
 have HV:Hid (Below N W V/\V.heap[W1.heap.size]?=some (Obj.cells #[.string rel,.slice oa al oc] 145)/\V.heap[N]?=some (Obj.cells #[.string ⟨#[]⟩,.slice none 0 0] 145)):=⟨q26,hVM,hVN⟩;clear hA q26 hVM hVN q0 q1 f0 f1 HX2;go_wp2_with fail
 first | (go_region_held3 (λw'=>w'.cell? ⟨b,0,none⟩=some (.slice va qs.length vc)/\w'.cell? ⟨W1.heap.size,0,none⟩=some (.string rel)) (first | with_reducible exact⟨c0,z0⟩ | with_reducible assumption) (first | (go_at_call 117;refine Calls.mono hAr.out ?_;rintro e' W3 ⟨rfl,hcc,hb3⟩) | go_simp)) | fail
 have hbV:Below N W W3:=HV.out.1.trans (hb3.out.mono (by have:=HV.out.1.size;have:=HNN.out;omega));have hM3:W3.heap[W1.heap.size]?=some (Obj.cells #[.string rel,.slice oa al oc] 145):=(hb3.out.block _ (zg HV.out.2.1).1).trans HV.out.2.1;have hN3:W3.heap[N]?=some (Obj.cells #[.string ⟨#[]⟩,.slice none 0 0] 145):=(hb3.out.block _ (zg HV.out.2.2).1).trans HV.out.2.2;have m0:W3.cell? ⟨W1.heap.size,0,none⟩=some (.string rel):=by simp[World.cell?,hM3]
 have m1:W3.cell? ⟨W1.heap.size,1,none⟩=some (.slice oa al oc):=by simp[World.cell?,hM3]
 have n0:W3.cell? ⟨N,0,none⟩=some (.string ⟨#[]⟩):=by simp[World.cell?,hN3]
 have n1:W3.cell? ⟨N,1,none⟩=some (.slice none 0 0):=by simp[World.cell?,hN3]
 have g0:W3.frozen? ⟨N,0,none⟩=false:=by simp[World.frozen?,hN3]
 have g1:W3.frozen? ⟨N,1,none⟩=false:=by simp[World.frozen?,hN3]
 have hWN:W.heap.size=N:=HNN.out;obtain⟨ar,har⟩:∃ar,qac (qap y.rs) rel=ar:=⟨_,rfl⟩;rw[har] at q9 ⊢;have Qb1:=qsl (a:=.string rel) (b:=.slice oa al oc) hN3;have HCC:Hid _:=Qb1
 have HE:Hid (∀c:Int,(c=if okb=false then 2 else if ar=0 then 7 else if ar=al then 0 else 4)->qgu y.rs s N (.returned (.tuple #[.agg #[.string rel,.slice oa al oc],.int .i64 c])) ((W3.setCell ⟨N,0,none⟩ (.string rel)).setCell ⟨N,1,none⟩ (.slice oa al oc))/\Below N W ((W3.setCell ⟨N,0,none⟩ (.string rel)).setCell ⟨N,1,none⟩ (.slice oa al oc))):=λc hc=>by
  refine⟨q9.out _ (.inr trivial) c hc (λva hva a ho=>?_),(hbV.setCell (p:=⟨N,0,none⟩) zl _).setCell (p:=⟨N,1,none⟩) zl _⟩;subst hva;have r1:=Q4.out a ho;have r2:V.ownsRow W0.heap.size 215 2 (.slice oa al oc) a.args.length (a.args.flatMap tmC):=by rw[<- hV];exact r1.alloc _
  have r3:=qk r2 hb3.out;refine Qm (B:=W0.heap.size) (qm r3 (λg hg _=>?_)) (by rw[HB0.out.2.2];omega);obtain⟨cc,hc'⟩:=qi r3 hg;have hne:g≠N:=λe=>by subst e;rw[hN3] at hc';cases hc'
  exact (Below.heap_setCell _ _ _ _ hne).trans (Below.heap_setCell _ _ _ _ hne)
 clear hcc c0 z0 hAr hbV hM3 hN3 har Qb1 q9 Q4
 cases okb with
 | false=>
  go_wp2;obtain⟨q1,q2⟩:=HCC.out;refine bodyPost_ret (v:=.tuple #[.agg #[.string rel,.slice oa al oc],.int .i64 2]) (by simp[results,Tryz.results121,go_sem,q1,q2]) rfl ?_;exact HE.out 2 rfl
 | true=>
  by_cases h0:ar=0
  ·subst h0;go_wp2;obtain⟨q1,q2⟩:=HCC.out;refine bodyPost_ret (v:=.tuple #[.agg #[.string rel,.slice oa al oc],.int .i64 7]) (by simp[results,Tryz.results121,go_sem,q1,q2]) rfl ?_;exact HE.out 7 (by simp)
  ·have h0':((ar:Int) == 0)=false:=by simp;omega
   by_cases h1:ar=al
   ·subst h1;go_wp2;obtain⟨q1,q2⟩:=HCC.out;refine bodyPost_ret (v:=.tuple #[.agg #[.string rel,.slice oa ar oc],.int .i64 0]) (by simp[results,Tryz.results121,go_sem,q1,q2]) rfl ?_;exact HE.out 0 (by simp[h0])
   ·have h1':((ar:Int) == (al:Int))=false:=by simp;omega
    go_wp2;obtain⟨q1,q2⟩:=HCC.out;refine bodyPost_ret (v:=.tuple #[.agg #[.string rel,.slice oa al oc],.int .i64 4]) (by simp[results,Tryz.results121,go_sem,q1,q2]) rfl ?_;exact HE.out 4 (by simp[h0,h1])
def qao(T:Nat->Prop)(b:Nat)(y':Er)(W W':Wq):Prop:=(∃T',ErM W' T' b y'/\∀k,T' k->T k\/W.heap.size<=k)/\Chg W W' T
theorem qao.same{y:Er}(h:ErM W T b y)(hb:Below W.heap.size W W'):qao T b y W W':=by
 obtain⟨vr,vf,vn,vs,vd,qs,fs,ss,ds,hv⟩:=h;exact⟨⟨T,⟨vr,vf,vn,vs,vd,qs,fs,ss,ds,hv.below hb⟩,λk hk=>.inl hk⟩,Chg.ofBelow _ hb⟩
def RTy(W:Wq)(k:Nat):Prop:=∃c t,W.heap[k]?=some (Obj.cells c t (0,0))/\(t=222\/t=233\/t=9\/t=226\/t=246\/t=71)
theorem RTy.same{k:Nat}(h:RTy W k)(hk:W'.heap[k]?=W.heap[k]?):RTy W' k:=by
 obtain⟨c,t,h1,h2⟩:=h;exact⟨c,t,hk.trans h1,h2⟩
theorem RTy.row{B U m n:Nat}{v:Vq}{xs:List Vq}(h:W.ownsRow B U m v n xs)(hU:U=222\/U=233\/U=9\/U=226\/U=246\/U=71){g:Nat}(hg:v.ownBlock=some g):RTy W g:=by
 obtain⟨c,hc⟩:=qi h hg;exact⟨c,U,hc,hU⟩
theorem qke.ty{v:Vq}(h:qke W v l){g:Nat}(hg:v.ownBlock=some g):RTy W g:=by
 rcases h with⟨rfl,_⟩ | ⟨g',off,cap,cur,rfl,h2,_⟩
 ·cases hg
 ·cases hg;exact⟨cur,_,h2,by simp⟩
theorem qb2.narrow{y:Er}{ds:List (Fr×Vq×Vq)}(h:qb2 W T b y vr vf vn vs vd qs fs ss ds):qb2 W (λk=>T k/\RTy W k) b y vr vf vn vs vd qs fs ss ds:=
 ⟨h.box,⟨h.own,_,_,h.box,by simp⟩,λk hk=>h.lt k hk.1,h.rules,h.rsm,h.facts,λg hg=>⟨h.factsT g hg,RTy.row h.facts (by simp) hg⟩,h.factsm,λp hp=>⟨(h.facte p hp).1,λg hg=>⟨(h.facte p hp).2 g hg,RTy.row (h.facte p hp).1 (by simp) hg⟩⟩,h.names,λg hg=>⟨h.namesT g hg,RTy.row h.names (by simp) hg⟩,h.state,λg hg=>⟨h.stateT g hg,RTy.row h.state.row (by simp) hg⟩,h.statem,λp hp g hg=>⟨h.statee p hp g hg,RTy.row (h.state.each p hp) (by simp) hg⟩,h.feeds,λg hg=>⟨h.feedsT g hg,RTy.row h.feeds (by simp) hg⟩,h.feedsm,λp hp=>⟨⟨(h.feede p hp).1.1,λg hg=>⟨(h.feede p hp).1.2 g hg,(h.feede p hp).1.1.ty hg⟩⟩,(h.feede p hp).2.1,λg hg=>⟨(h.feede p hp).2.2 g hg,(h.feede p hp).2.1.ty hg⟩⟩,h.sepN,h.sepQ⟩
theorem ErM.narrow{y:Er}(h:ErM W T b y):ErM W (λk=>T k/\RTy W k) b y:=by
 obtain⟨vr,vf,vn,vs,vd,qs,fs,ss,ds,hv⟩:=h;exact⟨vr,vf,vn,vs,vd,qs,fs,ss,ds,hv.narrow⟩
theorem qb2.wide{T':Nat->Prop}{y:Er}{ds:List (Fr×Vq×Vq)}(h:qb2 W T b y vr vf vn vs vd qs fs ss ds)(hT:∀k,T k->T' k)(hl:∀k,T' k->k < W.heap.size):qb2 W T' b y vr vf vn vs vd qs fs ss ds:=
 ⟨h.box,hT _ h.own,hl,h.rules,h.rsm,h.facts,λg hg=>hT _ (h.factsT g hg),h.factsm,λp hp=>⟨(h.facte p hp).1,λg hg=>hT _ ((h.facte p hp).2 g hg)⟩,h.names,λg hg=>hT _ (h.namesT g hg),h.state,λg hg=>hT _ (h.stateT g hg),h.statem,λp hp g hg=>hT _ (h.statee p hp g hg),h.feeds,λg hg=>hT _ (h.feedsT g hg),h.feedsm,λp hp=>⟨⟨(h.feede p hp).1.1,λg hg=>hT _ ((h.feede p hp).1.2 g hg)⟩,(h.feede p hp).2.1,λg hg=>hT _ ((h.feede p hp).2.2 g hg)⟩,h.sepN,h.sepQ⟩
def qhk(T:Nat->Prop)(W W':Wq):Nat->Prop:=λk=>T k\/(W.heap.size<=k/\k < W'.heap.size)
theorem qhk.lt(hT:∀k,T k->k < W.heap.size)(hz:W.heap.size<=W'.heap.size):∀k,qhk T W W' k->k < W'.heap.size:=λk hk=>hk.elim (λh=>Nat.lt_of_lt_of_le (hT k h) hz) (·.2)
theorem qhk.post{y':Er}(h:ErM W' (qhk T W W') b y')(hc:Chg W W' T):qao T b y' W W':=⟨⟨_,h,λk hk=>hk.imp id (·.1)⟩,hc⟩
theorem q5b{Y:Wq}{v:Vq}{l l2:List ByteArray}(h:qu X v l)(h':qu X v' (l++l2))(hs:v'.ownBlock=v.ownBlock)(hY:qu Y v' (l++l2)):qu Y v l:=by
 obtain⟨hl,⟨rfl,hn⟩ | ⟨g,cap,cur,rfl,h1,h2,h3,h4,h5,h6⟩⟩:=h
 ·have:l=[]:=List.eq_nil_of_length_eq_zero hn;subst this;exact World.ownsRow_nil _ _ _ _
 ·obtain⟨_,⟨rfl,hn⟩ | ⟨g',cap',cur',rfl,k1,k2,k3,k4,k5,k6⟩⟩:=h'
  ·cases hs
  ·have hg:g'=g:=by simpa [Value.ownBlock] using hs
   subst hg;rw[h2] at k2;cases k2;have qer:cap'=cap:=by omega
   subst qer;obtain⟨_,⟨hv,hn⟩ | ⟨g2,cap2,cur2,hv,m1,m2,m3,m4,m5,m6⟩⟩:=hY
   ·cases hv
   ·simp only[Value.slice.injEq,Option.some.injEq,Addr.mk.injEq,and_true,true_and] at hv;obtain⟨rfl,_,rfl⟩:=hv;refine⟨by simp,.inr ⟨g',cap',cur2,rfl,h1,m2,h3,h4,m5,?_⟩⟩;have:(cur2.toList.take ((l++l2).length*1)).take (l.length*1)=(((l++l2).map Value.string)).take (l.length*1):=by rw[m6]
    rw[List.take_take,List.map_append,Nat.mul_one,Nat.mul_one,List.length_append,Nat.min_eq_left (by omega),List.take_left' (by simp)] at this;rw[Nat.mul_one];exact this
theorem qb2.grownN{y:Er}{ds:List (Fr×Vq×Vq)}(h:qb2 W T b y vr vf vn vs vd qs fs ss ds)(hg:W.grownBy W' vn.ownBlock)(hn:qu W' vn y.names):qb2 W' T b y vr vf vn vs vd qs fs ss ds:=by
 have hk:∀k,k < W.heap.size->vn.ownBlock≠some k->W'.heap[k]?=W.heap[k]?:=λk h1 h2=>hg.block k h1 (λe=>h2 e.symm)
 have hty:∀(k:Nat) (c:Array Vq) (t:TypeId),t≠9->W.heap[k]?=some (Obj.cells c t (0,0))->W'.heap[k]?=W.heap[k]?:=λk c t ht hc=>hk k (zg hc).1 (λe=>by
  obtain⟨c',hc'⟩:=qi h.names e
  rw[hc] at hc';cases hc';exact ht rfl)
 have Q4:∀{B U m n:Nat} {v:Vq} {xs:List Vq},U≠9->W.ownsRow B U m v n xs->W'.ownsRow B U m v n xs:=λhU ho=>qm ho (λg hg' _=>by
  obtain⟨c,hc⟩:=qi ho hg'
  exact hty g c _ hU hc)
 have Qc5:∀{v:Vq} {l:List ByteArray},(∀g,vn.ownBlock=some g->v.ownBlock≠some g)->qu W v l->qu W' v l:=λhne ho=>qm ho (λg hg' hlt=>hk g hlt (λe=>hne g e hg'))
 have hrc:∀{v:Vq} {l:List Rc},qke W v l->qke W' v l:=λ{v l} hr=>by
  refine hr.keep (λg hg'=>?_);rcases hr with⟨rfl,_⟩ | ⟨g',off,cap,cur,rfl,h2,_⟩
  ·cases hg'
  ·cases hg'
   exact hty g' cur _ (by decide) h2
 exact⟨(hty b _ _ (by decide) h.box).trans h.box,h.own,λk hk'=>Nat.lt_of_lt_of_le (h.lt k hk') hg.size,h.rules.keep (λk c t ht hc=>hty k c t (by rcases ht with rfl | rfl | rfl <;> decide) hc),h.rsm,Q4 (by decide) h.facts,h.factsT,h.factsm,λp hp=>⟨Qc5 (λg hg'=>(h.sepN g hg').1 p hp) (h.facte p hp).1,(h.facte p hp).2⟩,hn,h.namesT,⟨Q4 (by decide) h.state.row,λp hp=>Qc5 (λg hg'=>(h.sepN g hg').2 p hp) (h.state.each p hp)⟩,h.stateT,h.statem,h.statee,Q4 (by decide) h.feeds,h.feedsT,h.feedsm,λp hp=>⟨⟨hrc (h.feede p hp).1.1,(h.feede p hp).1.2⟩,hrc (h.feede p hp).2.1,(h.feede p hp).2.2⟩,h.sepN,h.sepQ⟩
structure qoa(W:Wq)(T:Nat->Prop)(b:Nat)(y:Er)(vr vf vn vs vd:Vq)(qs:List (Rl×Vq×Vq))(fs:List ((Gr×Int×Bool)×Vq))(ss:List (Gr×Vq))(ds:List (Fr×Vq×Vq))(X:Wq)(v:Vq)(acc:List ByteArray):Prop where
 chg:Chg W X T
 er:qb2 X T b y vr vf vn vs vd qs fs ss ds
 row:qu X v acc
 pre:∃l2,acc=y.names++l2
 loc:v.ownBlock=vn.ownBlock\/∀k,v.ownBlock=some k->W.heap.size<=k
theorem qoa.step{y:Er}{ds:List (Fr×Vq×Vq)}{v:Vq}(h:qoa W T b y vr vf vn vs vd qs fs ss ds X v acc)(hT:∀k,T k->k < W.heap.size)(x:ByteArray)(r1:X'.ownsRow 0 9 1 v' (Qc acc x).length ((Qc acc x).map Value.string))(r2:X'.ownsRow 0 9 1 v acc.length (acc.map Value.string))(hg:X.grownBy X' v.ownBlock)(hv:v'.ownBlock=v.ownBlock\/∀g,v'.ownBlock=some g->X.heap.size<=g):qoa W T b y vr vf vn vs vd qs fs ss ds X' v' (Qc acc x):=by
 obtain⟨l2,hl2⟩:=h.pre;refine⟨h.chg.grown hg (λk hk hlt=>?_),?_,r1,?_,?_⟩
 ·rcases h.loc with hl | hl
  ·rw[hl] at hk;exact h.er.namesT k hk
  ·have:=hl k hk;omega
 ·rcases h.loc with hl | hl
  ·refine h.er.grownN (hl ▸ hg) ?_;have h1:=h.row;rw[hl2] at h1;have h2:qu X' v acc:=r2;rw[hl2] at h2;exact q5b h.er.names h1 hl h2
  ·refine h.er.keep hg.size (λk hk=>hg.block k (h.er.lt k hk) (λe=>?_)) (λk c t ht hc=>hg.block k (zg hc).1 (λe=>?_))
   ·have:=hl k e.symm;have:=hT k hk;omega
   ·obtain⟨c',hc'⟩:=qi h.row e.symm;rw[hc] at hc';cases hc';rcases ht with ht | ht | ht <;> cases ht
 ·unfold Qc;split
  ·exact⟨l2,hl2⟩
  ·exact⟨l2++[x],by rw[hl2,List.append_assoc]⟩
 ·have hz:=h.chg.size;rcases hv with hv | hv
  ·rw[hv];exact h.loc
  ·right;intro k hk;have:=hv k hk;omega
theorem qoa.keep{y:Er}{ds:List (Fr×Vq×Vq)}{v:Vq}(h:qoa W T b y vr vf vn vs vd qs fs ss ds X v acc)(hb:Below X.heap.size X X'):qoa W T b y vr vf vn vs vd qs fs ss ds X' v acc:=
 ⟨h.chg.trans (Chg.ofBelow _ hb),h.er.below hb,h.row.below hb,h.pre,h.loc⟩
theorem qoa.inserted{y:Er}{ds:List (Fr×Vq×Vq)}{X3:Wq}{v vg v2:Vq}(h:qoa W T b y vr vf vn vs vd qs fs ss ds X v acc)(hT:∀k,T k->k < W.heap.size)(g:Gr)(t:Int)(hvg:qu X vg g.args)(q6p:∀k,vg.ownBlock=some k->W.heap.size<=k)(hne:∀k,v.ownBlock=some k->vg.ownBlock≠some k)(O:Obj)(hg:((X.setCell ⟨b,7,none⟩ v).alloc O).grownBy X3 vf.ownBlock)(ho:X3.ownsRow 0 233 4 v2 (fs.length+1) (fs.flatMap fcC++fcC ((g,t,false),vg)))(hat:v2.ownBlock=vf.ownBlock\/v2.ownBlock=some ((X.setCell ⟨b,7,none⟩ v).alloc O).heap.size) :
  X3.cell? ⟨b,6,none⟩=some vf/\X3.frozen? ⟨b,6,none⟩=false/\qao T b {y with names:=acc,facts:=y.facts++[(g,t,false)]} W (X3.setCell ⟨b,6,none⟩ v2):=by
 have hE:=h.er;have hbX:=hE.lt b hE.own
 have hbf:vf.ownBlock≠some b:=λe=>by
  obtain⟨c,hc⟩:=qi hE.facts e;rw[hE.box] at hc;cases hc
 have hz1:(X.setCell ⟨b,7,none⟩ v).heap.size=X.heap.size:=by simp
 have hz2:((X.setCell ⟨b,7,none⟩ v).alloc O).heap.size=X.heap.size+1:=by simp
 have hz3:=hg.size;have h1:(X.setCell ⟨b,7,none⟩ v).heap[b]?=some (Obj.cells #[vr,.int .i64 y.win,.int .i64 y.lat,.int .i64 y.que,.int .i64 y.clock,.int .i64 y.mark,vf,v,vs,vd] 222):=Qi hE.box 7 v
 have h3:X3.heap[b]?=some (Obj.cells #[vr,.int .i64 y.win,.int .i64 y.lat,.int .i64 y.que,.int .i64 y.clock,.int .i64 y.mark,vf,v,vs,vd] 222):=
  ((hg.block b (by omega) (λe=>hbf e.symm)).trans (Below.heap_alloc _ _ b (by omega))).trans h1
 have hk3:∀k,k < X.heap.size->k≠b->vf.ownBlock≠some k->X3.heap[k]?=X.heap[k]?:=λk hk hb hf=>
  ((hg.block k (by omega) (λe=>hf e.symm)).trans (Below.heap_alloc _ _ k (by omega))).trans (Below.heap_setCell X ⟨b,7,none⟩ v k hb)
 have hz4:(X3.setCell ⟨b,6,none⟩ v2).heap.size=X3.heap.size:=by simp
 have hk4:∀k,k < X.heap.size->k≠b->vf.ownBlock≠some k->(X3.setCell ⟨b,6,none⟩ v2).heap[k]?=X.heap[k]?:=λk hk hb hf=>(Below.heap_setCell X3 ⟨b,6,none⟩ v2 k hb).trans (hk3 k hk hb hf)
 have hty:∀(k:Nat) (c:Array Vq) (u:TypeId),u≠233->u≠222->X.heap[k]?=some (Obj.cells c u (0,0))->(X3.setCell ⟨b,6,none⟩ v2).heap[k]?=X.heap[k]?:=λk c u hu1 hu2 hc=>hk4 k (zg hc).1 (λe=>by subst e;rw[hE.box] at hc;cases hc;exact hu2 rfl) (λe=>by
  obtain⟨c',hc'⟩:=qi hE.facts e
  rw[hc] at hc';cases hc';exact hu1 rfl)
 have Q4:∀{B U m n:Nat} {u:Vq} {xs:List Vq},U≠233->U≠222->X.ownsRow B U m u n xs->(X3.setCell ⟨b,6,none⟩ v2).ownsRow B U m u n xs:=λhU hU2 ho=>qm ho (λg hg' _=>by
  obtain⟨c,hc⟩:=qi ho hg'
  exact hty g c _ hU hU2 hc)
 have hrc:∀{v:Vq} {l:List Rc},qke X v l->qke (X3.setCell ⟨b,6,none⟩ v2) v l:=λ{v l} hr=>by
  refine hr.keep (λg hg'=>?_);rcases hr with⟨rfl,_⟩ | ⟨g',off,cap,cur,rfl,h2,_⟩
  ·cases hg'
  ·cases hg'
   exact hty g' cur _ (by decide) (by decide) h2
 have hcz:=h.chg.size;have h4:(X3.setCell ⟨b,6,none⟩ v2).heap[b]?=some (Obj.cells #[vr,.int .i64 y.win,.int .i64 y.lat,.int .i64 y.que,.int .i64 y.clock,.int .i64 y.mark,v2,v,vs,vd] 222):=Qi h3 6 v2
 have Qb3:Chg W (X3.setCell ⟨b,6,none⟩ v2) T:=by
  refine Chg.setCell ((((h.chg.setCell ⟨b,7,none⟩ v (λ_=>hE.own)).alloc O)).grown hg (λk hk hlt=>hE.factsT k hk)) ⟨b,6,none⟩ v2 (λ_=>hE.own)
 have qdt:∀(u:Vq) {B U m n:Nat} {xs:List Vq},(X3.setCell ⟨b,6,none⟩ v2).ownsRow B U m u n xs->(∀k,u.ownBlock=some k->T k\/W.heap.size<=k)->∀k,u.ownBlock=some k->qhk T W (X3.setCell ⟨b,6,none⟩ v2) k:=λu _ _ _ _ _ hu hl k hk=>by
  rcases hl k hk with h5 | h5
  ·exact .inl h5
  ·obtain⟨c,hc⟩:=qi hu hk;exact .inr ⟨h5,(zg hc).1⟩
 have ho4:(X3.setCell ⟨b,6,none⟩ v2).ownsRow 0 233 4 v2 (fs.length+1) (fs.flatMap fcC++fcC ((g,t,false),vg)):=Qn ho ⟨b,6,none⟩ v2 (λg' hg' e=>by
  obtain⟨c,hc⟩:=qi ho hg';have e':g'=b:=e
  rw[e',h3] at hc;cases hc)
 have Qdb:qu (X3.setCell ⟨b,6,none⟩ v2) vg g.args:=Q4 (by decide) (by decide) hvg;have hn4:qu (X3.setCell ⟨b,6,none⟩ v2) v acc:=Q4 (by decide) (by decide) h.row;refine⟨by simp[World.cell?,h3],by simp[World.frozen?,h3],qhk.post ⟨vr,v2,v,vs,vd,qs,fs++[((g,t,false),vg)],ss,ds,⟨h4,.inl hE.own,qhk.lt hT Qb3.size,h.er.rules.keep (λk c u ht hc=>hty k c u (by rcases ht with rfl | rfl | rfl <;> decide) (by rcases ht with rfl | rfl | rfl <;> decide) hc),hE.rsm,?_,?_,?_,?_,hn4,?_,⟨Q4 (by decide) (by decide) hE.state.row,λp hp=>Q4 (by decide) (by decide) (hE.state.each p hp)⟩,λg hg=>.inl (hE.stateT g hg),hE.statem,λp hp g hg=>.inl (hE.statee p hp g hg),Q4 (by decide) (by decide) hE.feeds,λg hg=>.inl (hE.feedsT g hg),hE.feedsm,λp hp=>⟨⟨hrc (hE.feede p hp).1.1,λg hg=>.inl ((hE.feede p hp).1.2 g hg)⟩,hrc (hE.feede p hp).2.1,λg hg=>.inl ((hE.feede p hp).2.2 g hg)⟩,?_,hE.sepQ⟩⟩ Qb3⟩
 ·rw[List.length_append,List.flatMap_append];simpa using ho4
 ·refine qdt v2 ho4 (λk hk=>?_);rcases hat with e | e
  ·rw[e] at hk;exact .inl (hE.factsT k hk)
  ·rw[e] at hk;cases hk;right;omega
 ·show _=y.facts++_;rw[List.map_append,hE.factsm];rfl
 ·intro p hp;rcases List.mem_append.1 hp with hp | hp
  ·exact⟨Q4 (by decide) (by decide) (hE.facte p hp).1,λg hg=>.inl ((hE.facte p hp).2 g hg)⟩
  ·simp only[List.mem_cons,List.not_mem_nil,or_false] at hp;subst hp;exact⟨Qdb,qdt vg Qdb (λk hk=>.inr (q6p k hk))⟩
 ·refine qdt v hn4 (λk hk=>?_);rcases h.loc with e | e
  ·rw[e] at hk;exact .inl (hE.namesT k hk)
  ·exact .inr (e k hk)
 ·intro k hk
  have hold:∀u:Vq,(∀g,u.ownBlock=some g->T g)->(∀g,vn.ownBlock=some g->u.ownBlock≠some g)->u.ownBlock≠some k:=λu h5 h6 e=>by
   rcases h.loc with hl | hl
   ·rw[hl] at hk;exact h6 k hk e
   ·have:=hl k hk;have:=hT k (h5 k e);omega
  refine⟨λp hp=>?_,λp hp=>hold p.2 (hE.statee p hp) (λg hg=>(hE.sepN g hg).2 p hp)⟩;rcases List.mem_append.1 hp with hp | hp
  ·exact hold p.2 (hE.facte p hp).2 (λg hg=>(hE.sepN g hg).1 p hp)
  ·simp only[List.mem_cons,List.not_mem_nil,or_false] at hp;subst hp;exact hne k hk
def qfs(y:Er)(s:ByteArray)(t:Int):Int×Er:=
 match qgq s with
 | none=>(2,y)
 | some a=>match qdd a with
  | none=>(2,y)
  | some g=>
   if qfh y.rs a.rel=false then (7,y)
   else if qac (qap y.rs) a.rel≠a.args.length then (4,y)
   else if ¬(0<=t/\t<=1000000) then (6,y)
   else if t+y.win<=y.mark then (8,y)
   else if y.facts.any (λf=>qeg f.1 g && decide (f.2.1=t))=true then (9,y)
   else if 24<=y.facts.length\/8 < (qa8 y.names g.args).length then (10,y)
   else (0,{y with names:=qa8 y.names g.args,facts:=y.facts++[(g,t,false)]})
