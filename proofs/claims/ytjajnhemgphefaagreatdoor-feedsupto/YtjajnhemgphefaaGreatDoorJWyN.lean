/- A part -/
import Derived.Test.YtjajnhemgphefaaGreatDoorJDel
import Derived.Maps.AppendAt
import Derived.Test.YtjajnhemgphefaaGreatDoorJWyD
import Derived.Deep.RegionHeld3
set_option linter.all false
set_option maxRecDepth 100000
set_option maxHeartbeats 4000000
open List renaming length->aB,eq_nil_of_length_eq_zero->aY,drop_eq_getElem_cons->bB,drop_eq_nil_of_le->bC,any_cons->bD,length_append->bE,map_append->bI,mem_append->bJ
open Go.World renaming cell?->aC,frozen?->aD,ownsRow->aE
open Go.Value renaming ownBlock->aF,slice->aH,string->aI,bool->aK,int->aM,oneCell'->bL
open Go.Obj renaming cells->aN
open Go.Ending renaming returned->aO
open Go.IntKind renaming i64->aP
open Or renaming inl->aQ,inr->aR
open Option renaming some->aV,none->aW
open Go.RowKit.Below renaming heap_alloc->aX,heap_setCell->bF
open Nat renaming lt_of_lt_of_le->aZ,mul_one->bG
open Go.Calls renaming mono->bH
open Go.RowKit renaming Below->bO
namespace Go.Proofs.YtjajnhemgphefaaGreatDoor
open Go renaming World->Wq,Value->Vq
open Go.RowKit Go.Shelf
variable {P:Program} {W W' X X':Wq} {l:List Rc} {b:Nat} {qs:List (Rl×Vq×Vq)} {T:Nat->Prop} {vr vf vn vs vd v':Vq} {fs:List ((Gr×Int×Bool)×Vq)} {ss:List (Gr×Vq)} {ac:List ByteArray}
def jc(l:List ByteArray)(x:ByteArray):Bool:=l.any (dO x)
theorem IL(v:Vq)(l:List ByteArray)(x:ByteArray)(w:Wq)(C:qv w v l)(hl:aB l<=1000000):Cs 182 #[v,aI x] w λe w'=>e=aO (aK (jc l x))/\w=w':=by
 obtain⟨Z,vc,rfl⟩:=qe C;have M:=aA C;clear C;have G:Hid (jc l x=jc (l.drop 0) x):=rfl;go_enter Tryz.func182,Tryz.ntmps182;go_wp2_with fail
 go_loopw [5] (λp wr=>∃i:Nat,p=aM aP i/\i<=aB l/\w=wr/\Hid (jc l x=jc (l.drop i) x)) (λp _=>aB l-(intOf p).toNat)
 case atStart=>exact⟨0,rfl,zz,rfl,G⟩
 case round=>
  clear G;obtain⟨i,rfl,b3,rfl,d⟩:=hrel;by_cases E:i<aB l
  .have⟨g,cap,e0,hg,hc⟩:=M.o.cell i E;cases e0;have A:=bB E;have O:(i:Int)<(aB l:Int):=by omega
   cases hs:dO x l[i] with
   |true=>
    have z:Hid (jc l x=true):=by{show _=_;rw[d.o,A];unfold jc;rw[bD,hs];rfl};unfold dO at hs;clear A d;go_wp2;go_ret;exact⟨by rw[z.o];rfl,rfl⟩
   |false=>
    have z:Hid (jc l x=jc (l.drop (i+1)) x):=by{show _=_;rw[d.o,A];unfold jc;rw[bD,hs];rfl};unfold dO at hs;clear A d;go_wp2;refine⟨⟨i+1,by go_num,by omega,by trivial,z⟩,by simp[intOf];omega⟩
  .have z:Hid (jc l x=false):=by{show _=_;rw[d.o,bC (by omega)];rfl};have O:¬(i:Int)<(aB l:Int):=by{omega};clear d;go_wp2;go_ret;exact⟨by rw[z.o];rfl,rfl⟩
def Q1(kind:Int)(aa af:List ByteArray):List Rc:=(aa.filter (λx=>!jc af x)).map (λx=>⟨kind,0,x,0⟩)
theorem FV(d:Int)(aa z:List ByteArray){i:Nat}(h:i<aB aa):Q1 d (aa.take (i+1)) z=Q1 d (aa.take i) z++(if jc z aa[i]=true then [] else [⟨d,0,aa[i],0⟩]):=by grind [Q1,jc,List.take_succ_eq_append_getElem,List.filter_cons_of_neg,List.filter_cons_of_pos]
theorem CU(d:Int)(aa z:List ByteArray):aB (Q1 d aa z)<=aB aa:=by grind [Q1]
theorem uJ(d:Int)(v v2:Vq)(l z:List ByteArray)(w:Wq)(M:qv w v l)(E:qv w v2 z)(hl:aB l<=100000)(b5:aB z<=100000):Cs 128 #[aM aP d,v,v2] w λe w'=>∃v',e=aO v'/\aE w' w.heap.size 71 4 v' (aB (Q1 d l z)) ((Q1 d l z).flatMap Rc.c)/\bO w.heap.size w w':=by
 have⟨i0,hi,b0,bk,bi⟩:=info_parts Tryz.infoRec;obtain⟨va,vc,rfl⟩:=qe M;obtain⟨ua,uc,rfl⟩:=qe E;have HV:Hid (∀X,bO w.heap.size w X->qv X (aH va (aB l) vc) l/\qv X (aH ua (aB z) uc) z):=λX hX=>⟨M.below hX,E.below hX⟩;have h0:Hid (bO w.heap.size w w/\aE w w.heap.size 71 4 (aH aW 0 0) (aB (Q1 d (l.take 0) z)) ((Q1 d (l.take 0) z).flatMap Rc.c)):=⟨zr,zo⟩;clear M E;go_enter Tryz.func128,Tryz.ntmps128;go_wp2_with fail
 go_loopw [7,8] (λo p wr=>∃(i:Nat) (Z:Vq),Z=o/\p=aM aP i/\i<=aB l/\Hid (bO w.heap.size w wr/\aE wr w.heap.size 71 4 Z (aB (Q1 d (l.take i) z)) ((Q1 d (l.take i) z).flatMap Rc.c))) (λ_ p _=>aB l-(intOf p).toNat)
 case atStart=>exact⟨0,_,rfl,rfl,zz,h0⟩
 case round=>
  clear h0;obtain⟨i,Z,rfl,rfl,b3,ak⟩:=hrel;have⟨oa,oc,db⟩:=qq ak.o.2;subst db;by_cases aj:i<aB l
  .have i1:(i:Int)<(aB l:Int):=by{omega};have⟨hS,ci⟩:=HV.o wr ak.o.1;have⟨g,cap,e0,hg,hc⟩:=hS.cell i aj;cases e0;have C:Hid _:=IL (aH ua (aB z) uc) z l[i] wr ci (by omega);have A:=FV d l z aj;have dg:=CU d (l.take i) z;rw[List.length_take] at dg;clear hS ci
   cases hb:jc z l[i] with
   |true=>
    rw[hb] at C A;rw[if_pos rfl,List.append_nil] at A;have c6:Hid (bO w.heap.size w wr/\aE wr w.heap.size 71 4 (aH oa (aB (Q1 d (l.take i) z)) oc) (aB (Q1 d (l.take (i+1)) z)) ((Q1 d (l.take (i+1)) z).flatMap Rc.c)):=by{rw[A];exact ak.o};clear ak A;go_wp2_with fail;refine bH C.o ?_;rintro e' w' ⟨rfl,G⟩;subst G;go_wp2;refine⟨⟨i+1,_,rfl,by go_num,by omega,c6⟩,by simp[intOf];omega⟩
   |false=>
    rw[hb] at C A;rw[if_neg (by decide)] at A;have cy:=aA A;clear A;generalize Q1 d (l.take i) z=ac at *;generalize l[i]=x at *;go_wp2_with fail;refine bH C.o ?_;rintro e' w' ⟨rfl,G⟩;subst G;have cw:=aA ak.o.2;have cc:Hid (∀O,w.heap.size<=(wr.alloc O).heap.size):=λO=>by{have:=ak.o.1.size;simp;omega};have bd:Hid (∀(Y:Wq) (v':Vq) (o:Obj),(wr.alloc o).grownBy Y (aF (aH oa (aB ac) oc))->aE Y w.heap.size 71 4 v' (aB ac+1) (ac.flatMap Rc.c++[aM aP d,aM aP 0,aI x,aM aP 0])->bO w.heap.size w Y/\aE Y w.heap.size 71 4 v' (aB (Q1 d (l.take (i+1)) z)) ((Q1 d (l.take (i+1)) z).flatMap Rc.c)):=λY v' o dn ho=>by{refine⟨(ak.o.1.alloc ak.o.1.size o).grown dn (by have:=ak.o.1.size;simp;omega) (λk e=>(qd ak.o.2 e).1),?_⟩;rw[cy.o,bE,List.flatMap_append];exact ho};clear ak C
    go_wp2_with (at_builtin;refine wpList_append_own _ rfl _ _ 196 rfl w.heap.size 71 i0 _ 4 40 Tryz.underlying196 hi b0 bk bi rfl (by decide) _ (aB ac) (ac.flatMap Rc.c) rfl (cw.o.alloc _) ⟨wr.heap.size,0,aW⟩ 1 _ [aM aP d,aM aP 0,aI x,aM aP 0] rfl rfl (mF _ _ _ _ _ _) (by simp[bL]) (by unfold maxLen;omega) (by omega) (cc.o _) ?_;intro cx w1 cj cd _;have dd:Hid _:=bd.o _ _ _ cd cj;clear cj cd)
    refine⟨⟨i+1,cx,rfl,by go_num,by omega,dd⟩,by simp[intOf];omega⟩
  .have cb:l.take i=l:=List.take_of_length_le (by omega);have i1:¬(i:Int)<(aB l:Int):=by{omega};have c4:=aA cb;clear cb;go_wp2;go_ret;refine⟨aH oa (aB (Q1 d (l.take i) z)) oc,rfl,?_,ak.o.1⟩;have h:=ak.o.2;rw[c4.o] at h ⊢;exact h
theorem CC(w:Wq)(Z:Nat)(t ty e:TypeId)(i:TypeInfo)(z:Vq)(ht:P.underlying t=aV (.slice e))(hi:P.info? e=aV i)(hz:i.zero=aV z)(v:Vq)(n:Nat)(xs:List Vq)(qt:aE w Z e i.size v n xs)(a:Addr)(m c:Nat)(ab:List Vq)(O:aB ab=m*i.size)(ca:∀j u,ab[j]?=aV u->aC w (a.add j)=aV u)(h1:∀u∈ab,u.oneCell'=true)(da:n+m<=maxLen)(ax:(n+m)*i.bytes<=140737488355328){v':Vq}{w':Wq}(C:(Builtin.append_ #[t,t] ty #[v,aH (aV a) m c]).run P w=.ok v' w'):aE w' Z e i.size v n xs:=by
 have Qlg:n+m<=9223372036854775807:=by simp only[maxLen] at da;omega
 have c2:=qt;obtain⟨G,⟨rfl,rfl⟩|⟨g,d,A,rfl,ck,E,cl,cg,ce,M⟩⟩:=qt
 .exact⟨G,aQ ⟨rfl,rfl⟩⟩
 .by_cases ap:n+m<=d
  .have c9:n*i.size+aB ab<=A.size:=by{rw[O,ce,<-Nat.add_mul];exact Nat.mul_le_mul_right _ ap};rw[run_append_room (P:=P) w t ty e i ht hi g n d A E a m c ab O ca h1 ap c9] at C;cases C;refine⟨G,aR ⟨g,d,_,rfl,ck,setRow_heap w g A _ e _ E,cl,cg,?_,?_⟩⟩;{grind};{grind}
  .have holds:∀j u,xs[j]?=aV u->aC w ((⟨g,0,aW⟩:Addr).add j)=aV u:=c2.cells (g:=g) rfl;rw[run_append_grow (P:=P) w t ty e i z ht hi hz ⟨g,0,aW⟩ n d xs G holds a m c ab O ca (by omega) (by omega) (growslice_fits (by omega) ax)] at C;cases C;refine⟨G,aR ⟨g,d,A,rfl,ck,?_,cl,cg,ce,M⟩⟩;exact (aX w.drew _ g (zg E).1).trans E
theorem zV{P:Program}(w:Wq){M:Array Oper}{rest:List Oper}{o:Oper}{a:Act}{Q:Exit->Act->Wq->Prop}(cu:o.guard=aW)(s x:Operand)(t:TypeId)(ho:o.op=.call {callee:=.builtin .append,args:=#[s,x],argTypes:=#[t,t]})(A:Nat)(e:TypeId)(i:TypeInfo)(z:Vq)(size d:Nat)(O:P.underlying t=aV (.slice e))(Z:P.info? e=aV i)(h3:i.zero=aV z)(h4:i.size=size)(h5:i.bytes=d)(h6:z.cells.size=size)(h7:0<size)(v:Vq)(n:Nat)(xs:List Vq)(hs:a.eval s=v)(qt:aE w A e size v n xs)(ad:Addr)(m c:Nat)(ab:List Vq)(hx:a.eval x=aH (aV ad) m c)(hn:aB ab=m*size)(hc:∀j u,ab[j]?=aV u->aC w (ad.add j)=aV u)(G:∀u∈ab,u.oneCell'=true)(C:n+m<=maxLen)(E:(n+m)*d<=140737488355328)(c5:A<=w.heap.size)(h:∀v' w',aE w' A e size v' (n+m) (xs++ab)->aE w' A e size v n xs->w.grownBy w' (aF v)->(aF v'=aF v\/aF v'=aV w.heap.size)->wpList P M Q rest (a.put o.dst v') w'):wpList P M Q (o::rest) a w:=by refine wpList_plain cu λK df=>?_;have⟨v',w',aw,r1,r2,_,r3⟩:=run_append_own_at (P:=P) w A t o.type e i z size d O Z h3 h4 h5 h6 h7 v n xs qt ad m c ab hn hc G C E c5;subst h4 h5;have r4:=CC w A t o.type e i z O Z h3 v n xs qt ad m c ab hn hc G C E aw;unfold Oper.wp;simp[execOp,ho,resolve,invoke,builtin,hs,hx,aw,Result.andThen];exact df _ _ (h v' w' r1 r4 r2 r3)
theorem GG(B:Nat)(v:Vq)(vs:List ByteArray)(x:ByteArray)(w:Wq)(hB:B<=w.heap.size)(hl:aB vs<=1000000)(Z:aE w B 9 1 v (aB vs) (vs.map aI)):Cs 119 #[v,aI x] w λe w'=>∃v',e=aO v'/\aE w' B 9 1 v' (aB (Qq vs x)) ((Qq vs x).map aI)/\aE w' B 9 1 v (aB vs) (vs.map aI)/\w.grownBy w' (aF v)/\(aF v'=aF v\/∀g,aF v'=aV g->w.heap.size<=g):=by
 have⟨i0,hi,b0,bk,bi⟩:=info_parts Tryz.infoStr;have⟨a,c,hv⟩:=qe Z;have al:∀(j:Nat) (d:j<aB vs),∃g,a=aV ⟨g,0,aW⟩/\aC w (Ad g j)=aV (aI vs[j]):=by grind [sW,iI,tu]
 subst hv;have C:=aA Z;have HC:=aA al;clear Z al;go_enter Tryz.func119,Tryz.ntmps119;go_wp2
 go_loopw [5] (λp wr=>∃i:Nat,p=aM aP i/\i<=aB vs/\wr=w/\Hid (∀(j:Nat) (d:j<aB vs),j<i->dO x vs[j]=false)) (λp _=>aB vs-(intOf p).toNat)
 case atStart=>exact⟨0,rfl,zz,rfl,λj d h=>by omega⟩
 case round=>
  obtain⟨i,rfl,b3,rfl,G⟩:=hrel;by_cases E:i<aB vs
  .obtain⟨g,rfl,Ql⟩:=HC.o i E;obtain⟨y,M⟩:∃y,vs[i]=y:=⟨_,rfl⟩;rw[M] at Ql;have HY:=aA M;clear M;by_cases hs:dO x y=true
   .have A:=tA vs x i E (by rw[HY.o];exact hs) G.o;have HN:=aA A;clear A;unfold dO at hs;go_wp2;go_ret;have z:Qq vs x=vs:=by{unfold Qq;rw[if_pos (by rw[HN.o];exact E)]};rw[z];exact⟨_,rfl,C.o,C.o,World.grownBy.refl _ _,aQ rfl⟩
   .have cf:dO x y=false:=by simpa using hs
    have cz:Hid (∀(j:Nat) (d:j<aB vs),j<i+1->dO x vs[j]=false):=by
     intro j d dt;by_cases e:j=i;{subst e;rw[HY.o];exact cf};{exact G.o j d (by omega)}
    unfold dO at cf;clear hs;go_wp2
    go_roundw
    case rel=>exact⟨i+1,by go_num,by omega,by trivial,cz⟩
    case measure=>simp[intOf];omega
  .have A:=uR vs x (λj d=>G.o j d (by omega));have z:Qq vs x=vs++[x]:=by{unfold Qq;rw[if_neg (by omega)]};have HL:=aA z;have c8:aB vs+1<=maxLen:=by{unfold maxLen;omega};have c7:(aB vs+1)*16<=140737488355328:=by{omega};have dj:Hid (∀O,B<=(wr.alloc O).heap.size):=λO=>by{simp;omega};have bj:∀u∈[aI x],u.oneCell'=true:=by{simp[bL]};clear A z
   go_wp2_with (at_builtin;refine zV _ rfl (.tmp 19) (.tmp 21) 22 rfl B 9 i0 (aI ⟨#[]⟩) 1 16 Tryz.underlying22 hi b0 bk bi rfl (by decide) _ _ _ rfl (C.o.alloc _) ⟨wr.heap.size,0,aW⟩ 1 1 [aI x] rfl rfl (ku _ _ _) bj c8 c7 (dj.o _) ?_;intro v' w1 a7 a6 ae bq)
   go_ret;rw[HL.o];refine⟨v',rfl,?_,a6,?_,?_⟩;{simpa using a7};{exact⟨ae.os,ae.tape,ae.output,by have:=ae.size;simp at this;omega,λk hk hn=>(ae.block k (by simp;omega) hn).trans (aX _ _ _ hk)⟩}
   .rcases bq with h|h
    .exact aQ h
    .exact aR (λg hg=>by rw[h] at hg;cases hg;simp)
structure Fr where
 rel:ByteArray
 behind:Bool
 snap:List Rc
 que:List Rc
 next:Nat
structure Er where
 rs:List Rl
 win:Int
 lat:Int
 que:Int
 clock:Int
 mark:Int
 facts:List (Gr×Int×Bool)
 names:List ByteArray
 state:List Gr
 feeds:List Fr
def jC(p:(Gr×Int×Bool)×Vq):List Vq:=[aI p.1.1.rel,p.2,aM aP p.1.2.1,aK p.1.2.2]
def jf(p:Fr×Vq×Vq):List Vq:=[aI p.1.rel,aK p.1.behind,p.2.1,p.2.2,aM aP (p.1.next:Int)]
def dJ(W:Wq)(v:Vq)(l:List Rc):Prop:=(v=aH aW 0 0/\l=[])\/
 ∃g au cap ag,v=aH (aV ⟨g,au,aW⟩) (aB l) cap/\W.heap[g]?=aV (aN ag 71)/\aB l<=cap/\cap<=maxLen/\au+cap*4<=ag.size/\(ag.toList.drop au).take (aB l*4)=l.flatMap Rc.c
theorem dJ.keep{v:Vq}(h:dJ W v l)(G:∀g,aF v=aV g->W'.heap[g]?=W.heap[g]?):dJ W' v l:=by
 rcases h with h|⟨g,A,d,z,rfl,C,E⟩
 .exact aQ h
 .exact aR ⟨g,A,d,z,rfl,(G g rfl).trans C,E⟩
theorem dJ.own{v:Vq}(h:aE W b 71 4 v (aB l) (l.flatMap Rc.c)):dJ W v l:=by
 obtain⟨_,⟨z,O⟩|⟨g,d,A,z,_,M,C,E,Z,G⟩⟩:=h
 .exact aQ ⟨z,aY O⟩
 .exact aR ⟨g,0,d,A,z,M,C,E,by omega,by rw[List.drop_zero];exact G⟩
def mV(W W':Wq):Prop:=∀(k:Nat) (c:Array Vq) (t:TypeId),(t=148\/t=145\/t=215)->W.heap[k]?=aV (aN c t (0,0))->W'.heap[k]?=W.heap[k]?
theorem gY.keep{v:Vq}(h:gY W v qs)(E:mV W W'):gY W' v qs:=by
 have d:∀{B T m n:Nat} {v:Vq} {xs:List Vq},(T=148\/T=145\/T=215)->aE W B T m v n xs->aE W' B T m v n xs:=λA z=>qn z (λg C _=>by
  have⟨c,hc⟩:=qh z C
  exact E g c _ A hc)
 refine⟨d (aQ rfl) h.row,λq M=>?_⟩;have⟨h1,ps,h2,h3⟩:=h.each q M;exact⟨d (aR (aR rfl)) h1,ps,h2,⟨d (aR (aQ rfl)) h3.row,λp G=>d (aR (aR rfl)) (h3.each p G)⟩⟩
structure eI(W:Wq)(T:Nat->Prop)(b:Nat)(y:Er)(vr vf vn vs vd:Vq)(qs:List (Rl×Vq×Vq))(fs:List ((Gr×Int×Bool)×Vq))(ss:List (Gr×Vq))(ds:List (Fr×Vq×Vq)):Prop where
 box:W.heap[b]?=cC #[vr,aM aP y.win,aM aP y.lat,aM aP y.que,aM aP y.clock,aM aP y.mark,vf,vn,vs,vd] 222
 own:T b
 lt:∀k,T k->k<W.heap.size
 rules:gY W vr qs
 rsm:qs.map (·.1)=y.rs
 facts:aE W 0 233 4 vf (aB fs) (fs.flatMap jC)
 factsT:∀g,aF vf=aV g->T g
 factsm:fs.map (·.1)=y.facts
 facte:∀p∈fs,qv W p.2 p.1.1.args/\∀g,aF p.2=aV g->T g
 names:qv W vn y.names
 namesT:∀g,aF vn=aV g->T g
 state:gM W vs ss
 stateT:∀g,aF vs=aV g->T g
 statem:ss.map (·.1)=y.state
 statee:∀p∈ss,∀g,aF p.2=aV g->T g
 feeds:aE W 0 246 5 vd (aB ds) (ds.flatMap jf)
 feedsT:∀g,aF vd=aV g->T g
 feedsm:ds.map (·.1)=y.feeds
 feede:∀p∈ds,(dJ W p.2.1 p.1.snap/\∀g,aF p.2.1=aV g->T g)/\dJ W p.2.2 p.1.que/\∀g,aF p.2.2=aV g->T g
 sepN:∀g,aF vn=aV g->(∀p∈fs,aF p.2≠aV g)/\∀p∈ss,aF p.2≠aV g
 sepQ:∀(i j:Nat) (p q:Fr×Vq×Vq) (g:Nat),ds[i]?=aV p->ds[j]?=aV q->aF p.2.2=aV g->(i≠j->aF q.2.2≠aV g)/\aF q.2.1≠aV g
def jF(W:Wq)(T:Nat->Prop)(b:Nat)(y:Er):Prop:=∃vr vf vn vs vd qs fs ss ds,eI W T b y vr vf vn vs vd qs fs ss ds
theorem eI.keep{y:Er}{ds:List (Fr×Vq×Vq)}(h:eI W T b y vr vf vn vs vd qs fs ss ds)(Z:W.heap.size<=W'.heap.size)(C:∀k,T k->W'.heap[k]?=W.heap[k]?)(O:mV W W'):eI W' T b y vr vf vn vs vd qs fs ss ds:=by have z:∀{B U m n:Nat} {v:Vq} {xs:List Vq},(∀g,aF v=aV g->T g)->aE W B U m v n xs->aE W' B U m v n xs:=λG M=>qn M (λg A _=>C g (G g A));exact⟨(C b h.own).trans h.box,h.own,λk E=>aZ (h.lt k E) Z,h.rules.keep O,h.rsm,z h.factsT h.facts,h.factsT,h.factsm,λp d=>⟨z (h.facte p d).2 (h.facte p d).1,(h.facte p d).2⟩,z h.namesT h.names,h.namesT,⟨z h.stateT h.state.row,λp d=>z (h.statee p d) (h.state.each p d)⟩,h.stateT,h.statem,h.statee,z h.feedsT h.feeds,h.feedsT,h.feedsm,λp d=>⟨⟨(h.feede p d).1.1.keep (λg A=>C g ((h.feede p d).1.2 g A)),(h.feede p d).1.2⟩,(h.feede p d).2.1.keep (λg A=>C g ((h.feede p d).2.2 g A)),(h.feede p d).2.2⟩,h.sepN,h.sepQ⟩
theorem mV.below(d:bO W.heap.size W W'):mV W W':=λk c t _ z=>d.block k (zg z).1
theorem eI.below{y:Er}{ds:List (Fr×Vq×Vq)}(h:eI W T b y vr vf vn vs vd qs fs ss ds)(d:bO W.heap.size W W'):eI W' T b y vr vf vn vs vd qs fs ss ds:=
 h.keep d.size (λk z=>d.block k (h.lt k z)) (mV.below d)
def pg(rel:ByteArray)(r:Rl):Bool:=r.head.rel.toList == rel.toList
def mh(rs:List Rl)(rel:ByteArray):Bool:=!(rs.any (pg rel)) && decide (0<fU (dM rs) rel)
theorem JB{y:Er}{ds:List (Fr×Vq×Vq)}(h:eI W T b y vr vf vn vs vd qs fs ss ds)(hq:aB qs<=1000)(hb:∀q∈qs,aB q.1.body<=900)(rel:ByteArray):Cs 116 #[Pt b,aI rel] W λe w'=>e=aO (aK (mh y.rs rel))/\bO W.heap.size W w':=by
 have⟨va,vc,bh⟩:=qe h.rules.row;have E:aC W (Ad b 0)=aV (aH va (aB qs) vc):=by simp[aC,h.box,bh]
 have Z:b<W.heap.size:=h.lt b h.own;have A:Hid _:=sZ vr qs rel W h.rules hq hb;rw[bh] at A;have HR:Hid (∀X,bO W.heap.size W X->gY X (aH va (aB qs) vc) qs/\aC X (Ad b 0)=aV (aH va (aB qs) vc)):=λX hX=>⟨by rw[<-bh];exact h.rules.below hX,(hX.cell (p:=⟨b,0,aW⟩) Z).trans E⟩
 have hD:Hid (∀n:Nat,fU (Q8 qs) rel=n->mh y.rs rel=(!((qs.drop 0).any (λq=>pg rel q.1)) && decide (0<n))):=λn z=>by
  unfold mh;rw[<-h.rsm,List.any_map,<-z];have:dM (qs.map (·.1))=Q8 qs:=by{unfold dM Q8;rw[List.flatMap_map]};rw[this];rfl
 clear h bh hb Z;obtain⟨n,z⟩:∃n,fU (Q8 qs) rel=n:=⟨_,rfl⟩;have O:Hid (mh y.rs rel=(!((qs.drop 0).any (λq=>pg rel q.1)) && decide (0<n))):=hD.o n z;rw[z] at A;clear z hD;generalize mh y.rs rel=bb at *;go_enter Tryz.func116,Tryz.ntmps116;go_wp2_with fail;refine bH A.o ?_;rintro e' W1 ⟨rfl,ct⟩;have C:=aA ct;clear A ct E;go_wp2_with fail
 go_loopw [6] (λp wr=>∃i:Nat,p=aM aP i/\i<=aB qs/\W1=wr/\Hid (bb=(!((qs.drop i).any (λq=>pg rel q.1)) && decide (0<n)))) (λp _=>aB qs-(intOf p).toNat)
 case atStart=>exact⟨0,rfl,zz,rfl,O⟩
 case round=>
  clear O;obtain⟨i,rfl,b3,rfl,d⟩:=hrel;have⟨b7,E⟩:=HR.o W1 C.o;by_cases M:i<aB qs
  .have i1:(i:Int)<(aB qs:Int):=by{omega};have⟨g,cap,e0,hg,s0,s1,s2,_,_⟩:=b7.cell i M;cases e0;have cr:=bB M;rw[cr,bD] at d;clear cr b7 s1 s2
   cases hs:pg rel qs[i].1 with
   |true=>rw[hs] at d;have G:=aA d.o;unfold pg at hs;clear d;go_wp2;go_ret;exact⟨by rw[G.o];rfl,C.o⟩
   |false=>rw[hs,Bool.false_or] at d;unfold pg at hs;go_wp2;refine⟨⟨i+1,by go_num,by omega,by trivial,d⟩,by simp[intOf];omega⟩
  .have i1:¬(i:Int)<(aB qs:Int):=by{omega};rw[bC (by omega)] at d;have G:=aA d.o;clear d b7;go_wp2;go_ret;refine⟨?_,C.o⟩;rw[G.o];simp
def Qu(T:Nat->Prop)(b:Nat)(y':Er)(W W':Wq):Prop:=(∃T',jF W' T' b y'/\∀k,T' k->T k\/W.heap.size<=k)/\dD W W' T
theorem Qu.same{y:Er}(h:jF W T b y)(d:bO W.heap.size W W'):Qu T b y W W':=by have⟨vr,vf,vn,vs,vd,qs,fs,ss,ds,hv⟩:=h;exact⟨⟨T,⟨vr,vf,vn,vs,vd,qs,fs,ss,ds,hv.below d⟩,λk z=>aQ z⟩,dD.ofBelow _ d⟩
def gX(W:Wq)(k:Nat):Prop:=∃c t,W.heap[k]?=aV (aN c t (0,0))/\(t=222\/t=233\/t=9\/t=226\/t=246\/t=71)
theorem gX.same{k:Nat}(h:gX W k)(d:W'.heap[k]?=W.heap[k]?):gX W' k:=by have⟨c,t,h1,h2⟩:=h;exact⟨c,t,d.trans h1,h2⟩
theorem gX.row{B U m n:Nat}{v:Vq}{xs:List Vq}(h:aE W B U m v n xs)(d:U=222\/U=233\/U=9\/U=226\/U=246\/U=71){g:Nat}(z:aF v=aV g):gX W g:=by have⟨c,hc⟩:=qh h z;exact⟨c,U,hc,d⟩
theorem dJ.ty{v:Vq}(h:dJ W v l){g:Nat}(d:aF v=aV g):gX W g:=by
 rcases h with⟨rfl,_⟩|⟨g',E,A,z,rfl,C,_⟩
 .cases d
 .cases d;exact⟨z,_,C,by simp⟩
theorem eI.narrow{y:Er}{ds:List (Fr×Vq×Vq)}(h:eI W T b y vr vf vn vs vd qs fs ss ds):eI W (λk=>T k/\gX W k) b y vr vf vn vs vd qs fs ss ds:=
 ⟨h.box,⟨h.own,_,_,h.box,by simp⟩,λk A=>h.lt k A.1,h.rules,h.rsm,h.facts,λg d=>⟨h.factsT g d,gX.row h.facts (by simp) d⟩,h.factsm,λp z=>⟨(h.facte p z).1,λg d=>⟨(h.facte p z).2 g d,gX.row (h.facte p z).1 (by simp) d⟩⟩,h.names,λg d=>⟨h.namesT g d,gX.row h.names (by simp) d⟩,h.state,λg d=>⟨h.stateT g d,gX.row h.state.row (by simp) d⟩,h.statem,λp z g d=>⟨h.statee p z g d,gX.row (h.state.each p z) (by simp) d⟩,h.feeds,λg d=>⟨h.feedsT g d,gX.row h.feeds (by simp) d⟩,h.feedsm,λp z=>⟨⟨(h.feede p z).1.1,λg d=>⟨(h.feede p z).1.2 g d,(h.feede p z).1.1.ty d⟩⟩,(h.feede p z).2.1,λg d=>⟨(h.feede p z).2.2 g d,(h.feede p z).2.1.ty d⟩⟩,h.sepN,h.sepQ⟩
theorem jF.narrow{y:Er}(h:jF W T b y):jF W (λk=>T k/\gX W k) b y:=by have⟨vr,vf,vn,vs,vd,qs,fs,ss,ds,hv⟩:=h;exact⟨vr,vf,vn,vs,vd,qs,fs,ss,ds,hv.narrow⟩
theorem eI.wide{T':Nat->Prop}{y:Er}{ds:List (Fr×Vq×Vq)}(h:eI W T b y vr vf vn vs vd qs fs ss ds)(z:∀k,T k->T' k)(C:∀k,T' k->k<W.heap.size):eI W T' b y vr vf vn vs vd qs fs ss ds:=
 ⟨h.box,z _ h.own,C,h.rules,h.rsm,h.facts,λg d=>z _ (h.factsT g d),h.factsm,λp A=>⟨(h.facte p A).1,λg d=>z _ ((h.facte p A).2 g d)⟩,h.names,λg d=>z _ (h.namesT g d),h.state,λg d=>z _ (h.stateT g d),h.statem,λp A g d=>z _ (h.statee p A g d),h.feeds,λg d=>z _ (h.feedsT g d),h.feedsm,λp A=>⟨⟨(h.feede p A).1.1,λg d=>z _ ((h.feede p A).1.2 g d)⟩,(h.feede p A).2.1,λg d=>z _ ((h.feede p A).2.2 g d)⟩,h.sepN,h.sepQ⟩
def gQ(T:Nat->Prop)(W W':Wq):Nat->Prop:=λk=>T k\/(W.heap.size<=k/\k<W'.heap.size)
theorem gQ.lt(d:∀k,T k->k<W.heap.size)(A:W.heap.size<=W'.heap.size):∀k,gQ T W W' k->k<W'.heap.size:=λk z=>z.elim (λh=>aZ (d k h) A) (·.2)
theorem gQ.post{d:Er}(h:jF W' (gQ T W W') b d)(z:dD W W' T):Qu T b d W W':=⟨⟨_,h,λk A=>A.imp id (·.1)⟩,z⟩
theorem IK{Y:Wq}{v:Vq}{l z:List ByteArray}(h:qv X v l)(Z:qv X v' (l++z))(hs:aF v'=aF v)(hY:qv Y v' (l++z)):qv Y v l:=by
 obtain⟨hl,⟨rfl,C⟩|⟨g,A,ag,rfl,h1,h2,h3,h4,h5,h6⟩⟩:=h
 .have:l=[]:=aY C;subst this;exact zo
 .obtain⟨_,⟨rfl,C⟩|⟨g',G,c1,rfl,k1,M,k3,k4,k5,k6⟩⟩:=Z;{cases hs}
  .have hg:g'=g:=by{simpa [aF] using hs};subst hg;rw[h2] at M;cases M;have O:G=A:=by{omega};subst O;obtain⟨_,⟨d,C⟩|⟨g2,dl,E,d,m1,m2,m3,m4,m5,m6⟩⟩:=hY;{cases d}
   .simp only[aH.injEq,Option.some.injEq,Addr.mk.injEq,and_true,true_and] at d;obtain⟨rfl,_,rfl⟩:=d;refine⟨by simp,aR ⟨g',G,E,rfl,h1,m2,h3,h4,m5,?_⟩⟩;have:(E.toList.take (aB (l++z)*1)).take (aB l*1)=(((l++z).map aI)).take (aB l*1):=by{rw[m6]};rw[List.take_take,bI,bG,bG,bE,Nat.min_eq_left (by omega),List.take_left' (by simp)] at this;rw[bG];exact this
theorem eI.grownN{y:Er}{ds:List (Fr×Vq×Vq)}(h:eI W T b y vr vf vn vs vd qs fs ss ds)(hg:W.grownBy W' (aF vn))(hn:qv W' vn y.names):eI W' T b y vr vf vn vs vd qs fs ss ds:=by
 have hk:∀k,k<W.heap.size->aF vn≠aV k->W'.heap[k]?=W.heap[k]?:=λk h1 O=>hg.block k h1 (λe=>O e.symm)
 have E:∀(k:Nat) (c:Array Vq) (t:TypeId),t≠9->W.heap[k]?=cC c t->W'.heap[k]?=W.heap[k]?:=λk c t ht A=>hk k (zg A).1 (λe=>by
  have⟨c',aq⟩:=qh h.names e
  rw[A] at aq;cases aq;exact ht rfl)
 have M:∀{B U m n:Nat} {v:Vq} {xs:List Vq},U≠9->aE W B U m v n xs->aE W' B U m v n xs:=λhU G=>qn G (λg z _=>by
  have⟨c,A⟩:=qh G z
  exact E g c _ hU A)
 have C:∀{v:Vq} {l:List ByteArray},(∀g,aF vn=aV g->aF v≠aV g)->qv W v l->qv W' v l:=λb8 G=>qn G (λg z aj=>hk g aj (λe=>b8 g e z))
 have Z:∀{v:Vq} {l:List Rc},dJ W v l->dJ W' v l:=λ{v l} hr=>by
  refine hr.keep (λg z=>?_);rcases hr with⟨rfl,_⟩|⟨g',au,cap,ag,rfl,O,_⟩
  .cases z
  .cases z;exact E g' ag _ (by decide) O
 exact⟨(E b _ _ (by decide) h.box).trans h.box,h.own,λk bn=>aZ (h.lt k bn) hg.size,h.rules.keep (λk c t ht A=>E k c t (by grind) A),h.rsm,M (by decide) h.facts,h.factsT,h.factsm,λp d=>⟨C (λg z=>(h.sepN g z).1 p d) (h.facte p d).1,(h.facte p d).2⟩,hn,h.namesT,⟨M (by decide) h.state.row,λp d=>C (λg z=>(h.sepN g z).2 p d) (h.state.each p d)⟩,h.stateT,h.statem,h.statee,M (by decide) h.feeds,h.feedsT,h.feedsm,λp d=>⟨⟨Z (h.feede p d).1.1,(h.feede p d).1.2⟩,Z (h.feede p d).2.1,(h.feede p d).2.2⟩,h.sepN,h.sepQ⟩
structure l8(W:Wq)(T:Nat->Prop)(b:Nat)(y:Er)(vr vf vn vs vd:Vq)(qs:List (Rl×Vq×Vq))(fs:List ((Gr×Int×Bool)×Vq))(ss:List (Gr×Vq))(ds:List (Fr×Vq×Vq))(X:Wq)(v:Vq)(ac:List ByteArray):Prop where
 chg:dD W X T
 er:eI X T b y vr vf vn vs vd qs fs ss ds
 row:qv X v ac
 pre:∃l2,ac=y.names++l2
 loc:aF v=aF vn\/∀k,aF v=aV k->W.heap.size<=k
theorem l8.step{y:Er}{ds:List (Fr×Vq×Vq)}{v:Vq}(h:l8 W T b y vr vf vn vs vd qs fs ss ds X v ac)(hT:∀k,T k->k<W.heap.size)(x:ByteArray)(r1:aE X' 0 9 1 v' (aB (Qq ac x)) ((Qq ac x).map aI))(Z:aE X' 0 9 1 v (aB ac) (ac.map aI))(z:X.grownBy X' (aF v))(E:aF v'=aF v\/∀g,aF v'=aV g->X.heap.size<=g):l8 W T b y vr vf vn vs vd qs fs ss ds X' v' (Qq ac x):=by
 have⟨l2,b5⟩:=h.pre;refine⟨h.chg.grown z (λk C aj=>?_),?_,r1,?_,?_⟩
 .rcases h.loc with d|d
  .rw[d] at C;exact h.er.namesT k C
  .grind
 .rcases h.loc with d|d
  .refine h.er.grownN (d ▸ z) ?_;have G:=h.row;rw[b5] at G;have M:qv X' v ac:=Z;rw[b5] at M;exact IK h.er.names G d M
  .refine h.er.keep z.size (λk C=>z.block k (h.er.lt k C) (λe=>?_)) (λk c t A O=>z.block k (zg O).1 (λe=>?_));{grind}
   .have⟨c',aq⟩:=qh h.row e.symm;rw[O] at aq;cases aq;rcases A with A|A|A<;>cases A
 .grind [Qq]
 .have hz:=h.chg.size;rcases E with E|E
  .rw[E];exact h.loc
  .grind
theorem l8.keep{y:Er}{ds:List (Fr×Vq×Vq)}{v:Vq}(h:l8 W T b y vr vf vn vs vd qs fs ss ds X v ac)(d:bO X.heap.size X X'):l8 W T b y vr vf vn vs vd qs fs ss ds X' v ac:=
 ⟨h.chg.trans (dD.ofBelow _ d),h.er.below d,h.row.below d,h.pre,h.loc⟩
theorem l8.inserted{y:Er}{ds:List (Fr×Vq×Vq)}{X3:Wq}{v vg A:Vq}(h:l8 W T b y vr vf vn vs vd qs fs ss ds X v ac)(hT:∀k,T k->k<W.heap.size)(g:Gr)(t:Int)(dp:qv X vg g.args)(Qau:∀k,aF vg=aV k->W.heap.size<=k)(b8:∀k,aF v=aV k->aF vg≠aV k)(O:Obj)(C:((X.setCell (Ad b 7) v).alloc O).grownBy X3 (aF vf))(ho:aE X3 0 233 4 A (aB fs+1) (fs.flatMap jC++jC ((g,t,false),vg)))(di:aF A=aF vf\/aF A=aV ((X.setCell (Ad b 7) v).alloc O).heap.size):aC X3 (Ad b 6)=aV vf/\aD X3 (Ad b 6)=false/\Qu T b {y with names:=ac,facts:=y.facts++[(g,t,false)]} W (X3.setCell (Ad b 6) A):=by
 have d:=h.er;have dr:=d.lt b d.own;have c3:aF vf≠aV b:=λe=>by have⟨c,E⟩:=qh d.facts e;rw[d.box] at E;cases E
 have bk:(X.setCell (Ad b 7) v).heap.size=X.heap.size:=by simp
 have bi:((X.setCell (Ad b 7) v).alloc O).heap.size=X.heap.size+1:=by simp
 have dq:=C.size;have h1:(X.setCell (Ad b 7) v).heap[b]?=cC #[vr,aM aP y.win,aM aP y.lat,aM aP y.que,aM aP y.clock,aM aP y.mark,vf,v,vs,vd] 222:=qw d.box 7 v
 have h3:X3.heap[b]?=cC #[vr,aM aP y.win,aM aP y.lat,aM aP y.que,aM aP y.clock,aM aP y.mark,vf,v,vs,vd] 222:=
  ((C.block b (by omega) (λe=>c3 e.symm)).trans (aX _ _ b (by omega))).trans h1
 have de:∀k,k<X.heap.size->k≠b->aF vf≠aV k->X3.heap[k]?=X.heap[k]?:=λk G hb hf=>((C.block k (by omega) (λe=>hf e.symm)).trans (aX _ _ k (by omega))).trans (bF X ⟨b,7,aW⟩ v k hb);have du:(X3.setCell (Ad b 6) A).heap.size=X3.heap.size:=by simp
 have dm:∀k,k<X.heap.size->k≠b->aF vf≠aV k->(X3.setCell (Ad b 6) A).heap[k]?=X.heap[k]?:=λk G hb hf=>(bF X3 ⟨b,6,aW⟩ A k hb).trans (de k G hb hf)
 have ao:∀(k:Nat) (c:Array Vq) (u:TypeId),u≠233->u≠222->X.heap[k]?=cC c u->(X3.setCell (Ad b 6) A).heap[k]?=X.heap[k]?:=λk c u dh cv E=>dm k (zg E).1 (λe=>by subst e;rw[d.box] at E;cases E;exact cv rfl) (λe=>by
  have⟨c',aq⟩:=qh d.facts e
  rw[E] at aq;cases aq;exact dh rfl)
 have M:∀{B U m n:Nat} {u:Vq} {xs:List Vq},U≠233->U≠222->aE X B U m u n xs->aE (X3.setCell (Ad b 6) A) B U m u n xs:=λhU dc ho=>qn ho (λg Z _=>by
  have⟨c,E⟩:=qh ho Z
  exact ao g c _ hU dc E)
 have a8:∀{v:Vq} {l:List Rc},dJ X v l->dJ (X3.setCell (Ad b 6) A) v l:=λ{v l} hr=>by
  refine hr.keep (λg Z=>?_);rcases hr with⟨rfl,_⟩|⟨g',au,cap,ag,rfl,h2,_⟩
  .cases Z
  .cases Z;exact ao g' ag _ (by decide) (by decide) h2
 have cc:=h.chg.size;have h4:(X3.setCell (Ad b 6) A).heap[b]?=cC #[vr,aM aP y.win,aM aP y.lat,aM aP y.que,aM aP y.clock,aM aP y.mark,A,v,vs,vd] 222:=qw h3 6 A;have b9:dD W (X3.setCell (Ad b 6) A) T:=by refine dD.setCell ((((h.chg.setCell (Ad b 7) v (λ_=>d.own)).alloc O)).grown C (λk G aj=>d.factsT k G)) ⟨b,6,aW⟩ A (λ_=>d.own)
 have bd:∀(u:Vq) {B U m n:Nat} {xs:List Vq},aE (X3.setCell (Ad b 6) A) B U m u n xs->(∀k,aF u=aV k->T k\/W.heap.size<=k)->∀k,aF u=aV k->gQ T W (X3.setCell (Ad b 6) A) k:=λu _ _ _ _ _ hu hl k G=>by
  rcases hl k G with h5|h5
  .exact aQ h5
  .have⟨c,E⟩:=qh hu G;exact aR ⟨h5,(zg E).1⟩
 have dk:aE (X3.setCell (Ad b 6) A) 0 233 4 A (aB fs+1) (fs.flatMap jC++jC ((g,t,false),vg)):=Qk ho ⟨b,6,aW⟩ A (λg' Z e=>by
  have⟨c,E⟩:=qh ho Z;have e':g'=b:=e
  rw[e',h3] at E;cases E)
 have Qio:qv (X3.setCell (Ad b 6) A) vg g.args:=M (by decide) (by decide) dp;have cn:qv (X3.setCell (Ad b 6) A) v ac:=M (by decide) (by decide) h.row;refine⟨zc h3,by simp[aD,h3],gQ.post ⟨vr,A,v,vs,vd,qs,fs++[((g,t,false),vg)],ss,ds,⟨h4,aQ d.own,gQ.lt hT b9.size,h.er.rules.keep (λk c u ht E=>ao k c u (by grind) (by grind) E),d.rsm,?_,?_,?_,?_,cn,?_,⟨M (by decide) (by decide) d.state.row,λp z=>M (by decide) (by decide) (d.state.each p z)⟩,λg C=>aQ (d.stateT g C),d.statem,λp z g C=>aQ (d.statee p z g C),M (by decide) (by decide) d.feeds,λg C=>aQ (d.feedsT g C),d.feedsm,λp z=>⟨⟨a8 (d.feede p z).1.1,λg C=>aQ ((d.feede p z).1.2 g C)⟩,a8 (d.feede p z).2.1,λg C=>aQ ((d.feede p z).2.2 g C)⟩,?_,d.sepQ⟩⟩ b9⟩
 .grind
 .refine bd A dk (λk G=>?_);rcases di with e|e
  .rw[e] at G;exact aQ (d.factsT k G)
  .grind
 .show _=y.facts++_;rw[bI,d.factsm];rfl
 .intro p z;rcases bJ.1 z with z|z
  .exact⟨M (by decide) (by decide) (d.facte p z).1,λg C=>aQ ((d.facte p z).2 g C)⟩
  .simp only[List.mem_cons,List.not_mem_nil,or_false] at z;subst z;exact⟨Qio,bd vg Qio (λk G=>aR (Qau k G))⟩
 .refine bd v cn (λk G=>?_);rcases h.loc with e|e
  .rw[e] at G;exact aQ (d.namesT k G)
  .grind
 .intro k G
  have bc:∀u:Vq,(∀g,aF u=aV g->T g)->(∀g,aF vn=aV g->aF u≠aV g)->aF u≠aV k:=λu h5 h6 e=>by
   rcases h.loc with hl|hl
   .grind
   .grind
  refine⟨λp z=>?_,λp z=>bc p.2 (d.statee p z) (λg C=>(d.sepN g C).2 p z)⟩;rcases bJ.1 z with z|z
  .exact bc p.2 (d.facte p z).2 (λg C=>(d.sepN g C).1 p z)
  .grind
def iv(y:Er)(s:ByteArray)(t:Int):Int×Er:=
 match lw s with
 |none=>(2,y)
 |some a=>match lX a with
  |none=>(2,y)
  |some g=>
   if mh y.rs a.rel=false then (7,y)
   else if fU (dM y.rs) a.rel≠a.args.length then (4,y)
   else if ¬(0<=t/\t<=1000000) then (6,y)
   else if t+y.win<=y.mark then (8,y)
   else if y.facts.any (λf=>jt f.1 g && decide (f.2.1=t))=true then (9,y)
   else if 24<=aB y.facts\/8<aB (dP y.names g.args) then (10,y)
   else (0,{y with names:=dP y.names g.args,facts:=y.facts++[(g,t,false)]})
