/- A part -/
import Derived.Maps.AppendAt
import Derived.Deep.RegionHeld3
import Derived.Test.YtjajnhemgphefaaGreatDoorQWyI
import Derived.Test.YtjajnhemgphefaaGreatDoorQWyM
set_option linter.all false
set_option maxRecDepth 100000
set_option maxHeartbeats 4000000
open List renaming length->aD,mem_flatMap->bB,mem_cons->bC,mem_append->bF,map_map->bH,map_append->bI,filter_map->bJ,eq_nil_of_length_eq_zero->bL,length_append->bO,drop_eq_getElem_cons->bT,not_mem_nil->bU,drop_eq_nil_of_le->bX,any_cons->bZ,flatMap_append->cA,any_map->cD,flatMap_cons->cE,flatMap_map->cH,any_eq_true->cI,mem_map->cL,range->cP
open Go.World renaming cell?->aE,frozen?->aF,ownsRow->aH
open Go.Value renaming ownBlock->aI,slice->aJ,string->aK,agg->aL,bool->aM,tuple->aN,int->aO,oneCell'->cJ
open Go.Obj renaming cells->aP
open Go.Ending renaming returned->aQ
open Go.IntKind renaming i64->aR
open Or renaming inl->aS,inr->aU
open Option renaming some->aX,none->aY,some->cM
open Go.Calls renaming mono->bD
open Go.RowKit.Below renaming heap_alloc->bE,heap_setCell->bG,refl->cO
open Nat renaming lt_of_lt_of_le->bQ,mul_one->cF,le_refl->cG
open Go.RowKit renaming Below->cQ
open Go.Proofs.Tryz renaming results121->cR
open Go renaming bodyPost_ret->cS,TypeId->cT,maxLen->cU
namespace Go.Proofs.YtjajnhemgphefaaGreatDoor
open Go renaming World->Wq,Value->Vq
open Go.RowKit Go.Shelf
variable {P:Program} {W W' X X':Wq} {l:List Rc} {b k:Nat} {qs:List (Rl×Vq×Vq)} {T:Nat->Prop} {vr vf vn vs vd v':Vq} {fs:List ((Gr×Int×Bool)×Vq)} {ss:List (Gr×Vq)} {m win:Int} {af:List ByteArray} {e:Eg}
def mQ(l:List ByteArray)(x:ByteArray):Bool:=l.any (fQ x)
def Ib(v:Vq)(l:List ByteArray)(x:ByteArray)(w:Wq)(E:qv w v l)(hl:aD l<=1000000):Cs 182 #[v,aK x] w λe w'=>e=aQ (aM (mQ l x))/\w=w':=by
 obtain⟨va,vc,rfl⟩:=qd E;have O:=aA E;clear E;have M:Hid (mQ l x=mQ (l.drop 0) x):=rfl;go_enter Tryz.func182,Tryz.ntmps182;go_wp2_with fail;go_loopw [5] (λp wr=>∃i:Nat,p=aO aR i/\i<=aD l/\w=wr/\Hid (mQ l x=mQ (l.drop i) x)) (λp _=>aD l-(intOf p).toNat)
 case atStart=>exact⟨0,rfl,zz,rfl,M⟩
 clear M;obtain⟨i,rfl,ce,rfl,z⟩:=hrel;by_cases G:i<aD l
 .have⟨g,cap,e0,hg,hc⟩:=O.o.d i G;cases e0;have C:=bT G;have i1:(i:Int)<(aD l:Int):=by{omega};cases hs:fQ x l[i] with
  |true=>have A:Hid (mQ l x=true):=by{show _=_;rw[z.o,C];unfold mQ;rw[bZ,hs];rfl};unfold fQ at hs;clear C z;go_wp2;go_ret;exact⟨by rw[A.o];rfl,rfl⟩
  |false=>have A:Hid (mQ l x=mQ (l.drop (i+1)) x):=by{show _=_;rw[z.o,C];unfold mQ;rw[bZ,hs];rfl};unfold fQ at hs;clear C z;go_wp2;refine⟨⟨i+1,by go_num,by omega,by trivial,A⟩,by simp[intOf];omega⟩
 have A:Hid (mQ l x=false):=by{show _=_;rw[z.o,bX (by omega)];rfl};have i1:¬(i:Int)<(aD l:Int):=by{omega};clear z;go_wp2;go_ret;exact⟨by rw[A.o];rfl,rfl⟩
def Q6(kind:Int)(ab ah:List ByteArray):List Rc:=(ab.filter (λx=>!mQ ah x)).map (λx=>⟨kind,0,x,0⟩)
def K6(z:Int)(ab A:List ByteArray){i:Nat}(h:i<aD ab):Q6 z (ab.take (i+1)) A=Q6 z (ab.take i) A++(if mQ A ab[i]=true then [] else [⟨z,0,ab[i],0⟩]):=by grind [Q6,mQ,List.take_succ_eq_append_getElem,List.filter_cons_of_neg,List.filter_cons_of_pos]
def Na(z:Int)(ab A:List ByteArray):aD (Q6 z ab A)<=aD ab:=by grind [Q6]
def Ab(z:Int)(v v2:Vq)(l A:List ByteArray)(w:Wq)(hv:qv w v l)(da:qv w v2 A)(hl:aD l<=100000)(db:aD A<=100000):Cs 128 #[aO aR z,v,v2] w λe w'=>∃v',e=aQ v'/\aH w' w.heap.size 71 4 v' (aD (Q6 z l A)) ((Q6 z l A).flatMap Rc.c)/\cQ w.heap.size w w':=by
 have⟨i0,hi,c9,cy,cu⟩:=info_parts Tryz.c;obtain⟨va,vc,rfl⟩:=qd hv;obtain⟨ua,uc,rfl⟩:=qd da;have HV:Hid (∀X,cQ w.heap.size w X->qv X (aJ va (aD l) vc) l/\qv X (aJ ua (aD A) uc) A):=λX hX=>⟨hv.f hX,da.f hX⟩;have h0:Hid (cQ w.heap.size w w/\aH w w.heap.size 71 4 (aJ aY 0 0) (aD (Q6 z (l.take 0) A)) ((Q6 z (l.take 0) A).flatMap Rc.c)):=⟨zr,zo⟩;clear hv da;go_enter Tryz.func128,Tryz.ntmps128;go_wp2_with fail;go_loopw [7,8] (λo p wr=>∃(i:Nat)(vo:Vq),vo=o/\p=aO aR i/\i<=aD l/\Hid (cQ w.heap.size w wr/\aH wr w.heap.size 71 4 vo (aD (Q6 z (l.take i) A)) ((Q6 z (l.take i) A).flatMap Rc.c))) (λ_ p _=>aD l-(intOf p).toNat)
 case atStart=>exact⟨0,_,rfl,rfl,zz,h0⟩
 clear h0;obtain⟨i,vo,rfl,rfl,ce,C⟩:=hrel;have⟨oa,oc,fc⟩:=qq C.o.2;subst fc;by_cases an:i<aD l
 .have i1:(i:Int)<(aD l:Int):=by{omega};have⟨hS,d6⟩:=HV.o wr C.o.1;have⟨g,cap,e0,hg,hc⟩:=hS.d i an;cases e0;have G:Hid _:=Ib (aJ ua (aD A) uc) A l[i] wr d6 (by omega);have E:=K6 z l A an;have fm:=Na z (l.take i) A;rw[List.length_take] at fm;clear hS d6;cases hb:mQ A l[i] with
  |true=>rw[hb] at G E;rw[if_pos rfl,List.append_nil] at E;have f2:Hid (cQ w.heap.size w wr/\aH wr w.heap.size 71 4 (aJ oa (aD (Q6 z (l.take i) A)) oc) (aD (Q6 z (l.take (i+1)) A)) ((Q6 z (l.take (i+1)) A).flatMap Rc.c)):=E▸C.o;clear C E;go_wp2_with fail;refine bD G.o ?_;rintro e' w' ⟨rfl,M⟩;subst M;go_wp2;refine⟨⟨i+1,_,rfl,by go_num,by omega,f2⟩,by simp[intOf];omega⟩
  |false=>rw[hb] at G E;rw[if_neg (by decide)] at E;have en:=aA E;clear E;generalize Q6 z (l.take i) A=af at *;generalize l[i]=x at *;go_wp2_with fail;refine bD G.o ?_;rintro e' w' ⟨rfl,M⟩;subst M;have ek:=aA C.o.2;have dm:Hid (∀O,w.heap.size<=(wr.alloc O).heap.size):=λO=>by{have:=C.o.1.s;simp;omega};have ci:Hid (∀(Y:Wq)(v':Vq)(o:Obj),(wr.alloc o).grownBy Y (aI (aJ oa (aD af) oc))->aH Y w.heap.size 71 4 v' (aD af+1) (af.flatMap Rc.c++[aO aR z,aO aR 0,aK x,aO aR 0])->cQ w.heap.size w Y/\aH Y w.heap.size 71 4 v' (aD (Q6 z (l.take (i+1)) A)) ((Q6 z (l.take (i+1)) A).flatMap Rc.c)):=λY v' o cz ho=>by{refine⟨(C.o.1.l C.o.1.s o).grown cz (by have:=C.o.1.s;simp;omega) (λk e=>(qe C.o.2 e).1),?_⟩;rwa[en.o,bO,cA]};clear C G;go_wp2_with (at_builtin;refine wpList_append_own _ rfl _ _ 196 rfl w.heap.size 71 i0 _ 4 40 Tryz.underlying196 hi c9 cy cu rfl (by decide) _ (aD af) (af.flatMap Rc.c) rfl (ek.o.l _) ⟨wr.heap.size,0,aY⟩ 1 _ [aO aR z,aO aR 0,aK x,aO aR 0] rfl rfl (sL _ _ _ _ _ _) (by simp[cJ]) (by unfold cU;omega) (by omega) (dm.o _) ?_;intro el w1 d7 dt _;have fh:Hid _:=ci.o _ _ _ dt d7;clear d7 dt);refine⟨⟨i+1,el,rfl,by go_num,by omega,fh⟩,by simp[intOf];omega⟩
 have dk:l.take i=l:=List.take_of_length_le (by omega);have i1:¬(i:Int)<(aD l:Int):=by{omega};have e1:=aA dk;clear dk;go_wp2;go_ret;refine⟨aJ oa (aD (Q6 z (l.take i) A)) oc,rfl,?_,C.o.1⟩;have h:=C.o.2;rw[e1.o] at h ⊢;exact h
def F6(w:Wq)(am:Nat)(t ty e:cT)(i:TypeInfo)(z:Vq)(ht:P.underlying t=aX (.slice e))(hi:P.info? e=aX i)(hz:i.zero=aX z)(v:Vq)(n:Nat)(xs:List Vq)(qt:aH w am e i.size v n xs)(a:Addr)(m c:Nat)(ac:List Vq)(O:aD ac=m*i.size)(dj:∀j u,ac[j]?=aX u->aE w (a.add j)=aX u)(h1:∀u∈ac,u.oneCell'=true)(fb:n+m<=cU)(bq:(n+m)*i.bytes<=140737488355328){v':Vq}{w':Wq}(C:(Builtin.append_ #[t,t] ty #[v,aJ (aX a) m c]).run P w=.ok v' w'):aH w' am e i.size v n xs:=by
 have Qif:n+m<=9223372036854775807:=by simp only[cU] at fb;lia
 have e3:=qt;obtain⟨G,⟨rfl,rfl⟩|⟨g,A,ai,rfl,d8,E,d9,d2,dx,M⟩⟩:=qt
 .exact⟨G,aS ⟨rfl,rfl⟩⟩
 by_cases bd:n+m<=A
 .have fg:n*i.size+aD ac<=ai.size:=by{rw[O,dx,<-Nat.add_mul];exact Nat.mul_le_mul_right _ bd};rw[run_append_room (P:=P) w t ty e i ht hi g n A ai E a m c ac O dj h1 bd fg] at C;cases C;refine⟨G,aU ⟨g,A,_,rfl,d8,setRow_heap w g ai _ e _ E,d9,d2,?_,?_⟩⟩;{grind};{grind}
 have holds:=e3.cells (g:=g) rfl;rw[run_append_grow (P:=P) w t ty e i z ht hi hz ⟨g,0,aY⟩ n A xs G holds a m c ac O dj (by lia) (by lia) (growslice_fits (by lia) bq)] at C;cases C;refine⟨G,aU ⟨g,A,ai,rfl,d8,?_,d9,d2,dx,M⟩⟩;exact (bE w.drew _ g (zg E).1).t E
def yP{P:Program}(w:Wq){ef:Array Oper}{rest:List Oper}{o:Oper}{a:Act}{Q:Exit->Act->Wq->Prop}(ei:o.guard=aY)(s x:Operand)(t:cT)(ho:o.op=.call {callee:=.builtin .append,args:=#[s,x],argTypes:=#[t,t]})(C:Nat)(e:cT)(i:TypeInfo)(z:Vq)(size A:Nat)(h1:P.underlying t=aX (.slice e))(h2:P.info? e=aX i)(h3:i.zero=aX z)(h4:i.size=size)(h5:i.bytes=A)(h6:z.cells.size=size)(h7:0<size)(v:Vq)(n:Nat)(xs:List Vq)(hs:a.eval s=v)(qt:aH w C e size v n xs)(E:Addr)(m c:Nat)(ac:List Vq)(hx:a.eval x=aJ (aX E) m c)(hn:aD ac=m*size)(hc:∀j u,ac[j]?=aX u->aE w (E.add j)=aX u)(O:∀u∈ac,u.oneCell'=true)(G:n+m<=cU)(M:(n+m)*A<=140737488355328)(fp:C<=w.heap.size)(h:∀v' w',aH w' C e size v' (n+m) (xs++ac)->aH w' C e size v n xs->w.grownBy w' (aI v)->(aI v'=aI v\/aI v'=aX w.heap.size)->wpList P ef Q rest (a.put o.dst v') w'):wpList P ef Q (o::rest) a w:=by refine wpList_plain ei λK fl=>?_;have⟨v',w',bn,r1,r2,_,r3⟩:=run_append_own_at (P:=P) w C t o.type e i z size A h1 h2 h3 h4 h5 h6 h7 v n xs qt E m c ac hn hc O G M fp;subst h4 h5;have r4:=F6 w C t o.type e i z h1 h2 h3 v n xs qt E m c ac hn hc O G M bn;unfold Oper.wp;simp[execOp,ho,resolve,invoke,builtin,hs,hx,bn,Result.andThen];exact fl _ _ (h v' w' r1 r4 r2 r3)
def Nk(B:Nat)(v:Vq)(vs:List ByteArray)(x:ByteArray)(w:Wq)(hB:B<=w.heap.size)(hl:aD vs<=1000000)(qt:aH w B 9 1 v (aD vs) (vs.map aK)):Cs 119 #[v,aK x] w λe w'=>∃v',e=aQ v'/\aH w' B 9 1 v' (aD (Qs vs x)) ((Qs vs x).map aK)/\aH w' B 9 1 v (aD vs) (vs.map aK)/\w.grownBy w' (aI v)/\(aI v'=aI v\/∀g,aI v'=aX g->w.heap.size<=g):=by
 have⟨i0,hi,c9,cy,cu⟩:=info_parts Tryz.a;have⟨a,c,hv⟩:=qd qt;have av:∀(j:Nat)(z:j<aD vs),∃g,a=aX ⟨g,0,aY⟩/\aE w (Ad g j)=aX (aK vs[j]):=by grind [zv,lH,yX]
 subst hv;have G:=aA qt;have HC:=aA av;clear qt av;go_enter Tryz.func119,Tryz.ntmps119;go_wp2;go_loopw [5] (λp wr=>∃i:Nat,p=aO aR i/\i<=aD vs/\wr=w/\Hid (∀(j:Nat)(z:j<aD vs),j<i->fQ x vs[j]=false)) (λp _=>aD vs-(intOf p).toNat)
 case atStart=>exact⟨0,rfl,zz,rfl,λj z h=>by omega⟩
 obtain⟨i,rfl,ce,rfl,a6⟩:=hrel;by_cases an:i<aD vs
 .obtain⟨g,rfl,Qi⟩:=HC.o i an;obtain⟨y,hy⟩:=aC (vs[i]);rw[hy] at Qi;have HY:=aA hy;clear hy;by_cases hs:fQ x y=true;{have E:=zi vs x i an (HY.o▸hs) a6.o;have HN:=aA E;clear E;unfold fQ at hs;go_wp2;go_ret;have C:Qs vs x=vs:=by{unfold Qs;rw[if_pos (HN.o▸an)]};rw[C];exact⟨_,rfl,G.o,G.o,World.grownBy.refl _ _,aS rfl⟩};have d1:fQ x y=false:=by{simpa using hs};have M:Hid (∀(j:Nat)(z:j<aD vs),j<i+1->fQ x vs[j]=false):=by{intro j z gh;by_cases e:j=i;{subst e;rwa[HY.o]};{exact a6.o j z (by omega)}};unfold fQ at d1;clear hs;go_wp2;go_roundw
  case rel=>exact⟨i+1,by go_num,by omega,by trivial,M⟩
  simp[intOf];omega
 have E:=A5 vs x (λj z=>a6.o j z (by omega));have C:Qs vs x=vs++[x]:=by{unfold Qs;rw[if_neg (by omega)]};have HL:=aA C;have cq:aD vs+1<=maxLen:=by{unfold cU;omega};have e4:(aD vs+1)*16<=140737488355328:=by{omega};have fr:Hid (∀O,B<=(wr.alloc O).heap.size):=λO=>by{simp;omega};have cv:∀u∈[aK x],u.oneCell'=true:=by{simp[cJ]};clear E C;go_wp2_with (at_builtin;refine yP _ rfl (.tmp 19) (.tmp 21) 22 rfl B 9 i0 (aK ⟨#[]⟩) 1 16 Tryz.underlying22 hi c9 cy cu rfl (by decide) _ _ _ rfl (G.o.l _) ⟨wr.heap.size,0,aY⟩ 1 1 [aK x] rfl rfl (nV _ _ _) cv cq e4 (fr.o _) ?_;intro v' w1 ca b9 A c2);go_ret;rw[HL.o];refine⟨v',rfl,?_,b9,?_,?_⟩;{simpa using ca};{exact⟨A.os,A.tape,A.output,by have:=A.size;simp at this;omega,λk hk hn=>(A.b k (by simp;omega) hn).t (bE _ _ _ hk)⟩};obtain h|h:=c2
 .exact aS h
 exact aU (λg hg=>by rw[h] at hg;cases hg;simp)
structure Fr where
 j:ByteArray
 a:Bool
 g:List Rc
 w:List Rc
 o:Nat
structure Er where
 z:List Rl
 j:Int
 u:Int
 w:Int
 g:Int
 h:Int
 v:List (Gr×Int×Bool)
 c:List ByteArray
 n:List Gr
 a:List Fr
def nU(p:(Gr×Int×Bool)×Vq):List Vq:=[aK p.1.1.j,p.2,aO aR p.1.2.1,aM p.1.2.2]
def mT(p:Fr×Vq×Vq):List Vq:=[aK p.1.j,aM p.1.a,p.2.1,p.2.2,aO aR (p.1.o:Int)]
def fI(W:Wq)(v:Vq)(l:List Rc):Prop:=(v=aJ aY 0 0/\l=[])\/
 ∃g bf cap ai,v=aJ (aX ⟨g,bf,aY⟩) (aD l) cap/\W.heap[g]?=aX (aP ai 71)/\aD l<=cap/\cap<=cU/\bf+cap*4<=ai.size/\(ai.toList.drop bf).take (aD l*4)=l.flatMap Rc.c
def fI.E{v:Vq}(h:fI W v l)(G:∀g,aI v=aX g->W'.heap[g]?=W.heap[g]?):fI W' v l:=by
 obtain h|⟨g,A,z,ai,rfl,C,E⟩:=h
 .exact aS h
 exact aU ⟨g,A,z,ai,rfl,(G g rfl).t C,E⟩
def fI.z{v:Vq}(h:aH W b 71 4 v (aD l) (l.flatMap Rc.c)):fI W v l:=by
 obtain⟨_,⟨A,O⟩|⟨g,z,ai,A,_,M,C,E,h3,G⟩⟩:=h
 .exact aS ⟨A,bL O⟩
 exact aU ⟨g,0,z,ai,A,M,C,E,by lia,List.drop_zero▸G⟩
def tC(W W':Wq):Prop:=∀(k:Nat) (c:Array Vq) (t:cT),(t=148\/t=145\/t=215)->W.heap[k]?=aX (aP c t (0,0))->W'.heap[k]?=W.heap[k]?
def Q5.E{v:Vq}(h:Q5 W v qs)(G:tC W W'):Q5 W' v qs:=by
 have z:∀{B T m n:Nat}{v:Vq}{xs:List Vq},(T=148\/T=145\/T=215)->aH W B T m v n xs->aH W' B T m v n xs:=λC A=>qm A (λg E _=>by
  have⟨c,hc⟩:=qg A E
  exact G g c _ C hc)
 refine⟨z (aS rfl) h.h,λq O=>?_⟩;have⟨h1,ps,h2,h3⟩:=h.z q O;exact⟨z (aU (aU rfl)) h1,ps,h2,⟨z (aU (aS rfl)) h3.h,λp M=>z (aU (aU rfl)) (h3.z p M)⟩⟩
structure fV(W:Wq)(T:Nat->Prop)(b:Nat)(y:Er)(vr vf vn vs vd:Vq)(qs:List (Rl×Vq×Vq))(fs:List ((Gr×Int×Bool)×Vq))(ss:List (Gr×Vq))(ds:List (Fr×Vq×Vq)):Prop where
 A:W.heap[b]?=cC #[vr,aO aR y.j,aO aR y.u,aO aR y.w,aO aR y.g,aO aR y.h,vf,vn,vs,vd] 222
 z:T b
 lt:∀k,T k->k<W.heap.size
 u:Q5 W vr qs
 G:qs.map (·.1)=y.z
 v:aH W 0 233 4 vf (aD fs) (fs.flatMap nU)
 C:∀g,aI vf=aX g->T g
 s:fs.map (·.1)=y.v
 r:∀p∈fs,qv W p.2 p.1.1.d/\∀g,aI p.2=aX g->T g
 c:qv W vn y.c
 B:∀g,aI vn=aX g->T g
 n:jS W vs ss
 F:∀g,aI vs=aX g->T g
 t:ss.map (·.1)=y.n
 D:∀p∈ss,∀g,aI p.2=aX g->T g
 a:aH W 0 246 5 vd (aD ds) (ds.flatMap mT)
 x:∀g,aI vd=aX g->T g
 w:ds.map (·.1)=y.a
 o:∀p∈ds,(fI W p.2.1 p.1.g/\∀g,aI p.2.1=aX g->T g)/\fI W p.2.2 p.1.w/\∀g,aI p.2.2=aX g->T g
 I:∀g,aI vn=aX g->(∀p∈fs,aI p.2≠aX g)/\∀p∈ss,aI p.2≠aX g
 J:∀(i j:Nat) (p q:Fr×Vq×Vq) (g:Nat),ds[i]?=aX p->ds[j]?=aX q->aI p.2.2=aX g->(i≠j->aI q.2.2≠aX g)/\aI q.2.1≠aX g
def oA(W:Wq)(T:Nat->Prop)(b:Nat)(y:Er):Prop:=∃vr vf vn vs vd qs fs ss ds,fV W T b y vr vf vn vs vd qs fs ss ds
def fV.E{y:Er}{ds:List (Fr×Vq×Vq)}(h:fV W T b y vr vf vn vs vd qs fs ss ds)(hz:W.heap.size<=W'.heap.size)(E:∀k,T k->W'.heap[k]?=W.heap[k]?)(hr:tC W W'):fV W' T b y vr vf vn vs vd qs fs ss ds:=by have A:∀{B U m n:Nat} {v:Vq} {xs:List Vq},(∀g,aI v=aX g->T g)->aH W B U m v n xs->aH W' B U m v n xs:=λM O=>qm O (λg C _=>E g (M g C));exact⟨(E b h.z).t h.A,h.z,λk G=>bQ (h.lt k G) hz,h.u.E hr,h.G,A h.C h.v,h.C,h.s,λp z=>⟨A (h.r p z).2 (h.r p z).1,(h.r p z).2⟩,A h.B h.c,h.B,⟨A h.F h.n.h,λp z=>A (h.D p z) (h.n.z p z)⟩,h.F,h.t,h.D,A h.x h.a,h.x,h.w,λp z=>⟨⟨(h.o p z).1.1.E (λg C=>E g ((h.o p z).1.2 g C)),(h.o p z).1.2⟩,(h.o p z).2.1.E (λg C=>E g ((h.o p z).2.2 g C)),(h.o p z).2.2⟩,h.I,h.J⟩
def tC.f(z:cQ W.heap.size W W'):tC W W':=λk c t _ A=>z.b k (zg A).1
def fV.f{y:Er}{ds:List (Fr×Vq×Vq)}(h:fV W T b y vr vf vn vs vd qs fs ss ds)(z:cQ W.heap.size W W'):fV W' T b y vr vf vn vs vd qs fs ss ds:=
 h.E z.s (λk A=>z.b k (h.lt k A)) (tC.f z)
def uG(rel:ByteArray)(r:Rl):Bool:=r.d.j.toList == rel.toList
def sC(rs:List Rl)(rel:ByteArray):Bool:=!(rs.any (uG rel)) && decide (0<gX (fK rs) rel)
def I3{y:Er}{ds:List (Fr×Vq×Vq)}(h:fV W T b y vr vf vn vs vd qs fs ss ds)(hq:aD qs<=1000)(hb:∀q∈qs,aD q.1.n<=900)(rel:ByteArray):Cs 116 #[Pt b,aK rel] W λe w'=>e=aQ (aM (sC y.z rel))/\cQ W.heap.size W w':=by
 have⟨va,vc,be⟩:=qd h.u.h;have G:aE W (Ad b 0)=aX (aJ va (aD qs) vc):=by simp[aE,h.A,be]
 have bu:=h.lt b h.z;have C:Hid _:=xL vr qs rel W h.u hq hb;rw[be] at C;have HR:Hid (∀X,cQ W.heap.size W X->Q5 X (aJ va (aD qs) vc) qs/\aE X (Ad b 0)=aX (aJ va (aD qs) vc)):=λX hX=>⟨be▸h.u.f hX,(hX.cell (p:=⟨b,0,aY⟩) bu).t G⟩;have hD:Hid (∀n:Nat,gX (Q9 qs) rel=n->sC y.z rel=(!((qs.drop 0).any (λq=>uG rel q.1)) && decide (0<n))):=λn A=>by unfold sC;rw[<-h.G,cD,<-A];have:fK (qs.map (·.1))=Q9 qs:=by{unfold fK Q9;rw[cH]};rw[this];rfl
 clear h be hb bu;obtain⟨n,A⟩:=aC (gX (Q9 qs) rel);have d4:=aA (hD.o n A);rw[A] at C;clear A hD;generalize sC y.z rel=bb at *;go_enter Tryz.func116,Tryz.ntmps116;go_wp2_with fail;refine bD C.o ?_;rintro e' W1 ⟨rfl,O⟩;have E:=aA O;clear C O G;go_wp2_with fail;go_loopw [6] (λp wr=>∃i:Nat,p=aO aR i/\i<=aD qs/\W1=wr/\Hid (bb=(!((qs.drop i).any (λq=>uG rel q.1)) && decide (0<n)))) (λp _=>aD qs-(intOf p).toNat)
 case atStart=>exact⟨0,rfl,zz,rfl,d4⟩
 clear d4;obtain⟨i,rfl,ce,rfl,z⟩:=hrel;have⟨de,G⟩:=HR.o W1 E.o;by_cases an:i<aD qs
 .have i1:(i:Int)<(aD qs:Int):=by{omega};have⟨g,cap,e0,hg,s0,s1,s2,_,_⟩:=de.d i an;cases e0;have eg:=bT an;rw[eg,bZ] at z;clear eg de s1 s2;cases hs:uG rel qs[i].1 with
  |true=>rw[hs] at z;have M:=aA z.o;unfold uG at hs;clear z;go_wp2;go_ret;exact⟨by rw[M.o];rfl,E.o⟩
  |false=>rw[hs,Bool.false_or] at z;unfold uG at hs;go_wp2;refine⟨⟨i+1,by go_num,by omega,by trivial,z⟩,by simp[intOf];omega⟩
 have i1:¬(i:Int)<(aD qs:Int):=by{omega};rw[bX (by omega)] at z;have M:=aA z.o;clear z de;go_wp2;go_ret;refine⟨?_,E.o⟩;rw[M.o];simp
def oB(rs:List Rl)(a:Am):Int:=if gX (fK rs) a.j=0 then 7 else if gX (fK rs) a.j=aD a.d then 0 else 4
def ut(rs:List Rl)(s:ByteArray)(N:Nat)(e:Ending)(w':Wq):Prop:=
 match jW s with
 |none=>e=aQ (aN #[aL #[aK ⟨#[]⟩,aJ aY 0 0],aO aR 2])
 |some a=>∃va,e=aQ (aN #[aL #[aK a.j,va],aO aR (oB rs a)])/\aH w' N 215 2 va (aD a.d) (a.d.flatMap jL)/\aD a.d<=2/\1<=aD a.d/\(∀t∈a.d,t.d<=2)/\xi 1200 a
theorem Fp{y:Er}{ds:List (Fr×Vq×Vq)}(h:fV W T b y vr vf vn vs vd qs fs ss ds)(hq:aD qs<=1000)(hb:∀q∈qs,aD q.1.n<=900)(s:ByteArray)(hs:s.size<=1048576):Cs 121 #[Pt b,aK s] W λe w'=>ut y.z s W.heap.size e w'/\cQ W.heap.size W w':=by
 have⟨C,vc,be⟩:=qd h.u.h;have c0:aE W (Ad b 0)=aX (aJ C (aD qs) vc):=by simp[aE,h.A,be]
 have bu:=h.lt b h.z;obtain⟨N,hN⟩:=aB W.heap.size;have eh:=hN.s;obtain⟨W0,dc⟩:=aC (W.alloc (aP #[aK ⟨#[]⟩,aJ aY 0 0] 145));have du:cQ W.heap.size W W0:=dc▸(cO _ W).alloc zl _
 have dp:W0.heap[N]?=cC #[aK ⟨#[]⟩,aJ aY 0 0] 145:=by rw[<-dc,hN];exact zn W _
 have dq:W0.heap.size=N+1:=by rw[<-dc,hN];simp
 have dg:=aA (Ep s W0 hs);have dh:fK y.z=Q9 qs:=by rw[<-h.G];unfold fK Q9;rw[cH]
 have HR:Hid (∀X rel,cQ W.heap.size W X->aE X (Ad b 0)=aX (aJ C (aD qs) vc)/\Cs 117 #[aJ C (aD qs) vc,aK rel] X λe w'=>e=aQ (aO aR (gX (fK y.z) rel:Int))/\cQ X.heap.size X w'):=λX rel hX=>⟨(hX.cell (p:=⟨b,0,aY⟩) bu).t c0,by rw[dh,<-be];exact xL vr qs rel X (h.u.f hX) hq hb⟩;have e7:=aA bu;have bv:Hid (cQ W.heap.size W W0/\W0.heap[N]?=cC #[aK ⟨#[]⟩,aJ aY 0 0] 145/\W0.heap.size=N+1):=⟨du,dp,dq⟩;rw[eh] at bv HR e7 ⊢;have cw:=aA eh;clear h be hb bu dh c0 du dp dq hN;go_enter Tryz.func121,Tryz.ntmps121;go_wp2_with fail;refine bD dg.o ?_;rintro e' W1 ⟨h1,a7⟩;clear dg;have O:=(a7.b N (by rw[bv.o.2.2];omega)).t bv.o.2.1;have c6:=bv.o.1.t (a7.m (by rw[bv.o.2.2];omega));have q0:aE W1 (Ad N 0)=aX (aK ⟨#[]⟩):=zc O;have G:aE W1 (Ad N 1)=aX (aJ aY 0 0):=zc O;have f0:=fZz O
 have fv:Hid (∀(r v:Vq),cQ N W ((W1.setCell (Ad N 0) r).setCell (Ad N 1) v)/\((W1.setCell (Ad N 0) r).setCell (Ad N 1) v).heap[N]?=cC #[r,v] 145):=λr v=>⟨(c6.c (p:=⟨N,0,aY⟩) zl r).c (p:=⟨N,1,aY⟩) zl v,Fi O r v⟩;have Qjy:=aA h1;have ea:=aA O;have b0:=aA c6;clear h1 O a7 c6;obtain⟨rel,z,al,A,b5,he,Qd⟩:∃(rel:ByteArray)(z:Option Addr)(al A:Nat)(b5:Bool),e'=aQ (aN #[aL #[aK rel,aJ z al A],aM b5])/\Hid (∀w',cQ W1.heap.size W1 w'\/True->∀(c:Int),(c=if b5=false then 2 else if gX (fK y.z) rel=0 then 7 else if gX (fK y.z) rel=al then 0 else 4)->(∀C,(aJ z al A)=C->∀a,jW s=aX a->aH w' N 215 2 C (aD a.d) (a.d.flatMap jL))->ut y.z s N (aQ (aN #[aL #[aK rel,aJ z al A],aO aR c])) w'):=by
  have E:=Qjy.o;unfold ry at E;cases M:jW s with
  |none=>rw[M] at E;refine⟨⟨#[]⟩,aY,0,0,false,E,λw' _ c hc _=>?_⟩;unfold ut;rw[M,hc];rfl
  |some a=>rw[M] at E;have⟨C,k1,k2,k3,k4,k5,k6⟩:=E;obtain⟨z,A,rfl⟩:=qd k2;refine⟨a.j,z,aD a.d,A,true,k1,λw' _ c hc hr=>?_⟩;unfold ut;rw[M];refine⟨_,?_,hr _ rfl a rfl,k3,k4,k5,k6⟩;rw[hc];unfold oB;simp
 subst he;have Qv:Hid (∀a,jW s=aX a->aH W1 W0.heap.size 215 2 (aJ z al A) (aD a.d) (a.d.flatMap jL)):=λa M=>by have E:=Qjy.o;unfold ry at E;rw[M] at E;have⟨C,k1,k2,_⟩:=E;simp only[aQ.injEq,aN.injEq,Array.mk.injEq,List.cons.injEq,aL.injEq,and_true] at k1;rwa[k1.1.2]
 obtain⟨V,hV⟩:=aC (W1.alloc (aP #[aK rel,aJ z al A] 145));have f4:N<=W1.heap.size:=by have:=b0.o.s;have:=cw.o;omega
 have cj:cQ N W V:=hV▸b0.o.alloc f4 _
 have e2:N<=V.heap.size:=by have:=cj.s;have:=cw.o;omega
 have cd:V.heap[W1.heap.size]?=cC #[aK rel,aJ z al A] 145:=hV▸zn W1 _
 have dz:V.heap[N]?=cC #[aK ⟨#[]⟩,aJ aY 0 0] 145:=hV▸(bE _ _ _ (zg ea.o).1).trans ea.o
 have⟨c0,hA⟩:=HR.o V.drew rel cj.drew;have ed:Hid (Cs 117 #[aJ C (aD qs) vc,aK rel] V.drew λe w'=>e=aQ (aO aR (gX (fK y.z) rel:Int))/\(aE w' (Ad b 0)=aX (aJ C (aD qs) vc)/\aE w' (Ad W1.heap.size 0)=aX (aK rel))/\Hid (cQ V.heap.size V w')):=by refine hA.m ?_;rintro e w' ⟨k1,k2⟩;have k3:cQ V.heap.size V w':=(cO _ V).drew.t k2;exact⟨k1,⟨(HR.o w' rel (cj.t (k3.m e2))).1,by rw[k3.cell (p:=⟨W1.heap.size,0,aY⟩) (zg cd).1];simp[aE,cd]⟩,k3⟩
 have z0:aE V.drew (Ad W1.heap.size 0)=aX (aK rel):=by show aE V _=_;simp[aE,cd]
 have HV:Hid (cQ N W V/\V.heap[W1.heap.size]?=cC #[aK rel,aJ z al A] 145/\V.heap[N]?=cC #[aK ⟨#[]⟩,aJ aY 0 0] 145):=⟨cj,cd,dz⟩;clear hA cj cd dz q0 G f0 fv;go_wp2_with fail;first|(go_region_held3 (λw'=>aE w' (Ad b 0)=aX (aJ C (aD qs) vc)/\aE w' (Ad W1.heap.size 0)=aX (aK rel)) (first|with_reducible exact⟨c0,z0⟩|with_reducible assumption) (first|(go_at_call 117;refine bD ed.o ?_;rintro e' W3 ⟨rfl,ft,co⟩)|go_simp))|fail
 have dl:=HV.o.1.t (co.o.m (by have:=HV.o.1.s;have:=cw.o;omega));have dn:=(co.o.b _ (zg HV.o.2.1).1).t HV.o.2.1;have b6:=(co.o.b _ (zg HV.o.2.2).1).t HV.o.2.2;have m0:∀j,aE W3 (Ad W1.heap.size j)=([aK rel,aJ z al A]:List Vq)[j]?:=λj=>by simp[aE,dn]
 have n0:∀j,aE W3 (Ad N j)=([aK ⟨#[]⟩,aJ aY 0 0]:List Vq)[j]?:=λj=>by simp[aE,b6]
 have g0:∀j,aF W3 (Ad N j)=false:=λj=>by simp[aF,b6]
 have f9:=cw.o;obtain⟨ar,az⟩:=aC (gX (fK y.z) rel);rw[az] at Qd ⊢;have Qks:=CJ (a:=aK rel) (b:=aJ z al A) b6;have cn:=aA Qks;have HE:Hid (∀c:Int,(c=if b5=false then 2 else if ar=0 then 7 else if ar=al then 0 else 4)->ut y.z s N (aQ (aN #[aL #[aK rel,aJ z al A],aO aR c])) ((W3.setCell (Ad N 0) (aK rel)).setCell (Ad N 1) (aJ z al A))/\cQ N W ((W3.setCell (Ad N 0) (aK rel)).setCell (Ad N 1) (aJ z al A))):=λc hc=>by refine⟨Qd.o _ (aU trivial) c hc (λC fa a M=>?_),(dl.c (p:=⟨N,0,aY⟩) zl _).c (p:=⟨N,1,aY⟩) zl _⟩;subst fa;have r1:=Qv.o a M;have r2:aH V W0.heap.size 215 2 (aJ z al A) (aD a.d) (a.d.flatMap jL):=hV▸r1.alloc _;have r3:=qh r2 co.o;refine qz (B:=W0.heap.size) (qm r3 (λg hg _=>?_)) (by rw[bv.o.2.2];omega);have⟨cc,au⟩:=qg r3 hg;have bi:g≠N:=λe=>by{subst e;rw[b6] at au;cases au};exact (bG _ _ _ _ bi).t (bG _ _ _ _ bi)
 clear ft c0 z0 ed dl dn b6 az Qks Qd Qv;cases b5 with
 |false=>go_wp2;have⟨G,q2⟩:=cn.o;refine cS (v:=aN #[aL #[aK rel,aJ z al A],aO aR 2]) (by simp[results,cR,go_sem,G,q2]) rfl ?_;exact HE.o 2 rfl
 |true=>by_cases h0:ar=0;{subst h0;go_wp2;have⟨G,q2⟩:=cn.o;refine cS (v:=aN #[aL #[aK rel,aJ z al A],aO aR 7]) (by simp[results,cR,go_sem,G,q2]) rfl ?_;exact HE.o 7 (by simp)};have gi:((ar:Int) == 0)=false:=by{simp;omega};by_cases h1:ar=al;{subst h1;go_wp2;have⟨G,q2⟩:=cn.o;refine cS (v:=aN #[aL #[aK rel,aJ z ar A],aO aR 0]) (by simp[results,cR,go_sem,G,q2]) rfl ?_;exact HE.o 0 (by simp[h0])};have gm:((ar:Int) == (al:Int))=false:=by{simp;omega};go_wp2;have⟨G,q2⟩:=cn.o;refine cS (v:=aN #[aL #[aK rel,aJ z al A],aO aR 4]) (by simp[results,cR,go_sem,G,q2]) rfl ?_;exact HE.o 4 (by simp[h0,h1])
def Q0(T:Nat->Prop)(b:Nat)(y':Er)(W W':Wq):Prop:=(∃T',oA W' T' b y'/\∀k,T' k->T k\/W.heap.size<=k)/\fC W W' T
def Q0.u{y:Er}(h:oA W T b y)(z:cQ W.heap.size W W'):Q0 T b y W W':=by have⟨vr,vf,vn,vs,vd,qs,fs,ss,ds,hv⟩:=h;exact⟨⟨T,⟨vr,vf,vn,vs,vd,qs,fs,ss,ds,hv.f z⟩,λk A=>aS A⟩,fC.d _ z⟩
def kJ(W:Wq)(k:Nat):Prop:=∃c t,W.heap[k]?=aX (aP c t (0,0))/\(t=222\/t=233\/t=9\/t=226\/t=246\/t=71)
def kJ.u(h:kJ W k)(z:W'.heap[k]?=W.heap[k]?):kJ W' k:=by have⟨c,t,h1,h2⟩:=h;exact⟨c,t,z.t h1,h2⟩
def kJ.h{B U m n:Nat}{v:Vq}{xs:List Vq}(h:aH W B U m v n xs)(z:U=222\/U=233\/U=9\/U=226\/U=246\/U=71){g:Nat}(A:aI v=aX g):kJ W g:=by have⟨c,hc⟩:=qg h A;exact⟨c,U,hc,z⟩
def fI.i{v:Vq}(h:fI W v l){g:Nat}(z:aI v=aX g):kJ W g:=by
 obtain⟨rfl,_⟩|⟨g',E,A,ai,rfl,C,_⟩:=h
 .cases z
 cases z;exact⟨ai,_,C,by simp⟩
def fV.K{y:Er}{ds:List (Fr×Vq×Vq)}(h:fV W T b y vr vf vn vs vd qs fs ss ds):fV W (λk=>T k/\kJ W k) b y vr vf vn vs vd qs fs ss ds:=
 ⟨h.A,⟨h.z,_,_,h.A,by simp⟩,λk C=>h.lt k C.1,h.u,h.G,h.v,λg z=>⟨h.C g z,kJ.h h.v (by simp) z⟩,h.s,λp A=>⟨(h.r p A).1,λg z=>⟨(h.r p A).2 g z,kJ.h (h.r p A).1 (by simp) z⟩⟩,h.c,λg z=>⟨h.B g z,kJ.h h.c (by simp) z⟩,h.n,λg z=>⟨h.F g z,kJ.h h.n.h (by simp) z⟩,h.t,λp A g z=>⟨h.D p A g z,kJ.h (h.n.z p A) (by simp) z⟩,h.a,λg z=>⟨h.x g z,kJ.h h.a (by simp) z⟩,h.w,λp A=>⟨⟨(h.o p A).1.1,λg z=>⟨(h.o p A).1.2 g z,(h.o p A).1.1.i z⟩⟩,(h.o p A).2.1,λg z=>⟨(h.o p A).2.2 g z,(h.o p A).2.1.i z⟩⟩,h.I,h.J⟩
def oA.K{y:Er}(h:oA W T b y):oA W (λk=>T k/\kJ W k) b y:=by have⟨vr,vf,vn,vs,vd,qs,fs,ss,ds,hv⟩:=h;exact⟨vr,vf,vn,vs,vd,qs,fs,ss,ds,hv.K⟩
def jZ(T:Nat->Prop)(W W':Wq):Nat->Prop:=λk=>T k\/(W.heap.size<=k/\k<W'.heap.size)
def jZ.lt(z:∀k,T k->k<W.heap.size)(C:W.heap.size<=W'.heap.size):∀k,jZ T W W' k->k<W'.heap.size:=λk A=>A.elim (λh=>bQ (z k h) C) (·.2)
def jZ.a{z:Er}(h:oA W' (jZ T W W') b z)(A:fC W W' T):Q0 T b z W W':=⟨⟨_,h,λk C=>C.imp id (·.1)⟩,A⟩
def LH{Y:Wq}{v:Vq}{l A:List ByteArray}(h:qv X v l)(h':qv X v' (l++A))(hs:aI v'=aI v)(hY:qv Y v' (l++A)):qv Y v l:=by
 obtain⟨hl,⟨rfl,E⟩|⟨g,C,ai,rfl,h1,h2,h3,h4,h5,h6⟩⟩:=h
 .have:l=[]:=bL E;subst this;exact zo
 obtain⟨_,⟨rfl,E⟩|⟨g',G,ew,rfl,k1,O,k3,k4,k5,k6⟩⟩:=h';{cases hs};have hg:g'=g:=by{simpa [aI] using hs};subst hg;rw[h2] at O;cases O;have c3:G=C:=by{lia};subst c3;obtain⟨_,⟨z,E⟩|⟨g2,fy,M,z,m1,m2,m3,m4,m5,m6⟩⟩:=hY;{cases z};simp only[aJ.injEq,cM.injEq,Addr.mk.injEq,and_true,true_and] at z;obtain⟨rfl,_,rfl⟩:=z;refine⟨by simp,aU ⟨g',G,M,rfl,h1,m2,h3,h4,m5,?_⟩⟩;have:(M.toList.take (aD (l++A)*1)).take (aD l*1)=(((l++A).map aK)).take (aD l*1):=by{rw[m6]};rw[List.take_take,bI,cF,cF,bO,Nat.min_eq_left (by lia),List.take_left' (by simp)] at this;rwa[cF]
def fV.M{y:Er}{ds:List (Fr×Vq×Vq)}(h:fV W T b y vr vf vn vs vd qs fs ss ds)(hg:W.grownBy W' (aI vn))(hn:qv W' vn y.c):fV W' T b y vr vf vn vs vd qs fs ss ds:=by
 have hk:∀k,k<W.heap.size->aI vn≠aX k->W'.heap[k]?=W.heap[k]?:=λk h1 O=>hg.b k h1 (λe=>O e.s);have E:∀(k:Nat)(c:Array Vq)(t:cT),t≠9->W.heap[k]?=cC c t->W'.heap[k]?=W.heap[k]?:=λk c t ht C=>hk k (zg C).1 (λe=>by
  have⟨c',au⟩:=qg h.c e
  rw[C] at au;cases au;exact ht rfl)
 have M:∀{B U m n:Nat}{v:Vq}{xs:List Vq},U≠9->aH W B U m v n xs->aH W' B U m v n xs:=λhU G=>qm G (λg A _=>by
  have⟨c,C⟩:=qg G A
  exact E g c _ hU C)
 have d3:∀{v:Vq} {l:List ByteArray},(∀g,aI vn=aX g->aI v≠aX g)->qv W v l->qv W' v l:=λbi G=>qm G (λg A an=>hk g an (λe=>bi g e A));have ax:∀{v:Vq}{l:List Rc},fI W v l->fI W' v l:=λ{v l} hr=>by refine hr.E (λg A=>?_);obtain⟨rfl,_⟩|⟨g',bf,cap,ai,rfl,O,_⟩:=hr;{cases A};cases A;exact E g' ai _ (by lia) O
 exact⟨(E b _ _ (by lia) h.A).t h.A,h.z,λk c1=>bQ (h.lt k c1) hg.size,h.u.E (λk c t ht C=>E k c t (by grind) C),h.G,M (by lia) h.v,h.C,h.s,λp z=>⟨d3 (λg A=>(h.I g A).1 p z) (h.r p z).1,(h.r p z).2⟩,hn,h.B,⟨M (by lia) h.n.h,λp z=>d3 (λg A=>(h.I g A).2 p z) (h.n.z p z)⟩,h.F,h.t,h.D,M (by lia) h.a,h.x,h.w,λp z=>⟨⟨ax (h.o p z).1.1,(h.o p z).1.2⟩,ax (h.o p z).2.1,(h.o p z).2.2⟩,h.I,h.J⟩
structure rJ(W:Wq)(T:Nat->Prop)(b:Nat)(y:Er)(vr vf vn vs vd:Vq)(qs:List (Rl×Vq×Vq))(fs:List ((Gr×Int×Bool)×Vq))(ss:List (Gr×Vq))(ds:List (Fr×Vq×Vq))(X:Wq)(v:Vq)(af:List ByteArray):Prop where
 f:fC W X T
 a:fV X T b y vr vf vn vs vd qs fs ss ds
 h:qv X v af
 i:∃l2,af=y.c++l2
 c:aI v=aI vn\/∀k,aI v=aX k->W.heap.size<=k
def rJ.d{y:Er}{ds:List (Fr×Vq×Vq)}{v:Vq}(h:rJ W T b y vr vf vn vs vd qs fs ss ds X v af)(hT:∀k,T k->k<W.heap.size)(x:ByteArray)(r1:aH X' 0 9 1 v' (aD (Qs af x)) ((Qs af x).map aK))(r2:aH X' 0 9 1 v (aD af) (af.map aK))(A:X.grownBy X' (aI v))(G:aI v'=aI v\/∀g,aI v'=aX g->X.heap.size<=g):rJ W T b y vr vf vn vs vd qs fs ss ds X' v' (Qs af x):=by
 have⟨l2,db⟩:=h.i;refine⟨h.f.o A (λk E an=>?_),?_,r1,?_,?_⟩
 .obtain z|z:=h.c;{rw[z] at E;exact h.a.B k E};grind
 .obtain z|z:=h.c;{refine h.a.M (z ▸ A) ?_;have M:=h.h;rw[db] at M;have O:qv X' v af:=r2;rw[db] at O;exact LH h.a.c M z O};refine h.a.E A.size (λk E=>A.b k (h.a.lt k E) (λe=>?_)) (λk c t C hc=>A.b k (zg hc).1 (λe=>?_));{grind};have⟨c',au⟩:=qg h.h e.s;rw[hc] at au;cases au;obtain C|C|C:=C<;>cases C
 .grind [Qs]
 have hz:=h.f.size;obtain G|G:=G
 .rw[G];exact h.c
 grind
def rJ.g{y:Er}{ds:List (Fr×Vq×Vq)}{X3:Wq}{v vg C:Vq}(h:rJ W T b y vr vf vn vs vd qs fs ss ds X v af)(hT:∀k,T k->k<W.heap.size)(g:Gr)(t:Int)(f5:qv X vg g.d)(Qd8:∀k,aI vg=aX k->W.heap.size<=k)(bi:∀k,aI v=aX k->aI vg≠aX k)(O:Obj)(E:((X.setCell (Ad b 7) v).alloc O).grownBy X3 (aI vf))(ho:aH X3 0 233 4 C (aD fs+1) (fs.flatMap nU++nU ((g,t,false),vg)))(fq:aI C=aI vf\/aI C=aX ((X.setCell (Ad b 7) v).alloc O).heap.size):aE X3 (Ad b 6)=aX vf/\aF X3 (Ad b 6)=false/\Q0 T b {y with c:=af,v:=y.v++[(g,t,false)]} W (X3.setCell (Ad b 6) C):=by
 have z:=h.a;have ge:=z.lt b z.z;have ey:aI vf≠aX b:=λe=>by have⟨c,G⟩:=qg z.v e;rw[z.A] at G;cases G
 have cy:(X.setCell (Ad b 7) v).heap.size=X.heap.size:=by simp
 have cu:((X.setCell (Ad b 7) v).alloc O).heap.size=X.heap.size+1:=by simp
 have f6:=E.size;have h1:(X.setCell (Ad b 7) v).heap[b]?=cC #[vr,aO aR y.j,aO aR y.u,aO aR y.w,aO aR y.g,aO aR y.h,vf,v,vs,vd] 222:=qw z.A 7 v;have h3:X3.heap[b]?=cC #[vr,aO aR y.j,aO aR y.u,aO aR y.w,aO aR y.g,aO aR y.h,vf,v,vs,vd] 222:=
  ((E.b b (by lia) (λe=>ey e.s)).t (bE _ _ b (by lia))).t h1
 have fi:∀k,k<X.heap.size->k≠b->aI vf≠aX k->X3.heap[k]?=X.heap[k]?:=λk M hb hf=>((E.b k (by lia) (λe=>hf e.s)).t (bE _ _ k (by lia))).t (bG X ⟨b,7,aY⟩ v k hb);have gl:(X3.setCell (Ad b 6) C).heap.size=X3.heap.size:=by simp
 have fz:∀k,k<X.heap.size->k≠b->aI vf≠aX k->(X3.setCell (Ad b 6) C).heap[k]?=X.heap[k]?:=λk M hb hf=>(bG X3 ⟨b,6,aY⟩ C k hb).t (fi k M hb hf);have a9:∀(k:Nat)(c:Array Vq)(u:cT),u≠233->u≠222->X.heap[k]?=cC c u->(X3.setCell (Ad b 6) C).heap[k]?=X.heap[k]?:=λk c u fo ej G=>fz k (zg G).1 (λe=>by subst e;rw[z.A] at G;cases G;exact ej rfl) (λe=>by
  have⟨c',au⟩:=qg z.v e
  rw[G] at au;cases au;exact fo rfl)
 have Qv:∀{B U m n:Nat}{u:Vq}{xs:List Vq},U≠233->U≠222->aH X B U m u n xs->aH (X3.setCell (Ad b 6) C) B U m u n xs:=λhU fe ho=>qm ho (λg aj _=>by
  have⟨c,G⟩:=qg ho aj
  exact a9 g c _ hU fe G)
 have ax:∀{v:Vq}{l:List Rc},fI X v l->fI (X3.setCell (Ad b 6) C) v l:=λ{v l} hr=>by refine hr.E (λg aj=>?_);obtain⟨rfl,_⟩|⟨g',bf,cap,ai,rfl,h2,_⟩:=hr;{cases aj};cases aj;exact a9 g' ai _ (by lia) (by lia) h2
 have dm:=h.f.size;have h4:(X3.setCell (Ad b 6) C).heap[b]?=cC #[vr,aO aR y.j,aO aR y.u,aO aR y.w,aO aR y.g,aO aR y.h,C,v,vs,vd] 222:=qw h3 6 C;have dr:fC W (X3.setCell (Ad b 6) C) T:=by refine fC.i ((((h.f.i (Ad b 7) v (λ_=>z.z)).alloc O)).o E (λk M an=>z.C k M)) ⟨b,6,aY⟩ C (λ_=>z.z)
 have ci:∀(u:Vq){B U m n:Nat}{xs:List Vq},aH (X3.setCell (Ad b 6) C) B U m u n xs->(∀k,aI u=aX k->T k\/W.heap.size<=k)->∀k,aI u=aX k->jZ T W (X3.setCell (Ad b 6) C) k:=λu _ _ _ _ _ hu hl k M=>by obtain h5|h5:=hl k M;{exact aS h5};have⟨c,G⟩:=qg hu M;exact aU ⟨h5,(zg G).1⟩
 have fx:aH (X3.setCell (Ad b 6) C) 0 233 4 C (aD fs+1) (fs.flatMap nU++nU ((g,t,false),vg)):=Qj ho ⟨b,6,aY⟩ C (λg' aj e=>by
  have⟨c,G⟩:=qg ho aj;have e':g'=b:=e
  rw[e',h3] at G;cases G)
 have Qmf:qv (X3.setCell (Ad b 6) C) vg g.d:=Qv (by lia) (by lia) f5;have eb:qv (X3.setCell (Ad b 6) C) v af:=Qv (by lia) (by lia) h.h;refine⟨zc h3,by simp[aF,h3],jZ.a ⟨vr,C,v,vs,vd,qs,fs++[((g,t,false),vg)],ss,ds,⟨h4,aS z.z,jZ.lt hT dr.size,h.a.u.E (λk c u ht G=>a9 k c u (by grind) (by grind) G),z.G,?_,?_,?_,?_,eb,?_,⟨Qv (by lia) (by lia) z.n.h,λp A=>Qv (by lia) (by lia) (z.n.z p A)⟩,λg E=>aS (z.F g E),z.t,λp A g E=>aS (z.D p A g E),Qv (by lia) (by lia) z.a,λg E=>aS (z.x g E),z.w,λp A=>⟨⟨ax (z.o p A).1.1,λg E=>aS ((z.o p A).1.2 g E)⟩,ax (z.o p A).2.1,λg E=>aS ((z.o p A).2.2 g E)⟩,?_,z.J⟩⟩ dr⟩
 .grind
 .refine ci C fx (λk M=>?_);obtain e|e:=fq;{rw[e] at M;exact aS (z.C k M)};grind
 .show _=y.v++_;rw[bI,z.s];rfl
 .intro p A;obtain A|A:=bF.1 A;{exact⟨Qv (by lia) (by lia) (z.r p A).1,λg E=>aS ((z.r p A).2 g E)⟩};simp only[bC,bU,or_false] at A;subst A;exact⟨Qmf,ci vg Qmf (λk M=>aU (Qd8 k M))⟩
 .refine ci v eb (λk M=>?_);obtain e|e:=h.c;{rw[e] at M;exact aS (z.B k M)};grind
 intro k M;have ck:∀u:Vq,(∀g,aI u=aX g->T g)->(∀g,aI vn=aX g->aI u≠aX g)->aI u≠aX k:=λu h5 h6 e=>by obtain hl|hl:=h.c;{grind};grind
 refine⟨λp A=>?_,λp A=>ck p.2 (z.D p A) (λg E=>(z.I g E).2 p A)⟩;obtain A|A:=bF.1 A
 .exact ck p.2 (z.r p A).2 (λg E=>(z.I g E).1 p A)
 grind
def lI(y:Er)(s:ByteArray)(t:Int):Int×Er:=
 match jW s with
 |none=>(2,y)
 |some a=>match nT a with
  |none=>(2,y)
  |some g=>
   if sC y.z a.j=false then (7,y)
   else if gX (fK y.z) a.j≠a.d.length then (4,y)
   else if ¬(0<=t/\t<=1000000) then (6,y)
   else if t+y.j<=y.h then (8,y)
   else if y.v.any (λf=>nO f.1 g && decide (f.2.1=t))=true then (9,y)
   else if 24<=aD y.v\/8<aD (fR y.c g.d) then (10,y)
   else (0,{y with c:=fR y.c g.d,v:=y.v++[(g,t,false)]})
theorem Dl(x:ByteArray):∀(l:List Am),gX l x=(gV l x.data.toList).getD 0
 |[]=>rfl
 |a::l=>by
  rw[GP];unfold gX;rw[Bk];by_cases h:(a.j.data.toList == x.data.toList)=true;{grind};{rw[if_neg h,if_neg h];exact Dl x l}
theorem xR(rs:List Rl)(x:ByteArray):gX (fK rs) x=fG rs x:=Dl x _
def G5(rs:List Rl)(a:Am):oB rs a=gR rs a:=by unfold oB gR;rw[xR]
def Jn(rs:List Rl)(x:ByteArray):sC rs x=(!qA rs x && decide (0<fG rs x)):=by unfold sC;rw[xR];rfl
def DD(a:Am):nT a=if kB a=true then aX ⟨a.j,a.d.map (·.c)⟩ else none:=by unfold nT kB;show (if a.d.any rp=true then _ else _)=_;cases a.d.any rp<;>rfl
def Gu{a:Am}(h:kB a=true)(z:aD a.d=1\/aD a.d=2):fM (qb Ql a)=⟨a.j,a.d.map (·.c)⟩:=by
 have A:=yc h;have⟨rel,args⟩:=a;simp only at A z;obtain z|z:=z
 .match args,z with
  |[t],_=>grind [fM,qb,iM,iJ,sJ,pB]
 match args,z with
 |[t,u],_=>have C:=A t (by simp);have z:=A u (by simp);unfold fM qb iM iJ;simp only[List.map_cons,List.map_nil,sJ C,sJ z];rw[if_neg (by intro h;exact z ((lN _).1 h))]
theorem Ng{l:List Tm}(A:∀t∈l,t.c≠eB):∀(vs:List ByteArray),fF vs l=fR vs (l.map (·.c)):=by
 induction l with
 |nil=>intro vs;rfl
 |cons t l ih=>intro vs;have z:jO vs t=Qs vs t.c:=by{grind [jO,lN]};show fF (jO vs t) l=fR (Qs vs t.c) (l.map (·.c));rw[z];exact ih (λu C=>A u (zt C)) _
abbrev Dk:=Gd×Int×Bool
structure jM(e:Eg)(y:Er)(ds:List Dk):Prop where
 z:e.z=y.z
 j:e.j=y.j
 u:e.u=y.u
 w:e.w=y.w
 h:e.h=y.h
 r:y.g-y.u<=y.h/\0<=y.g/\y.g<=1000000
 c:e.c=y.c
 q:eB∉y.c
 o:e.o=ds.map (λd=>(d.1,d.2.1))
 v:oK ds y.v
 f:kD e.z (rW e.j ds++Qx e.z) e.M
 t:∀d∈ds,d.2.2=true->e.h<d.2.1+e.j
 s:y.n.Nodup
 i:∀g∈y.n,mJ y.z y.c g
 n:∀g,g∈y.n↔Dv y.z (lG y.j y.v y.h) g
def Ka{ds:List Dk}{fs:List Fk}(hs:oK ds fs)(g:Gd)(t:Int):qO (ds.map (λd=>(d.1,d.2.1))) (g,t)=fs.any (λf=>nO f.1 (fM g) && decide (f.2.1=t)):=by
 unfold oK at hs;subst hs;unfold qO;rw[cD,cD,Bool.eq_iff_iff,cI,cI];simp only[Function.comp_apply,Ho,Bool.and_eq_true,BL,decide_eq_true_eq,Prod.mk.injEq];constructor
 .grind
 grind [xo]
def GQ(A:fP e){a:Am}(C:gR e.z a=0):aD a.d=1\/aD a.d=2:=by have⟨h1,h2⟩:=BM C;have z:=yW h1;unfold jK at z;have⟨b,hb,hr⟩:=cL.1 z;have:=A.z.c b hb;rw[hr] at this;lia
theorem Ns{y:Er}{ds:List Dk}(h:jM e y ds)(G:fP e)(s:ByteArray)(t:Int):(lR e s t).1=(lI y s t).1/\∃c5,jM (lR e s t).2 (lI y s t).2 c5:=by
 have⟨rs,win,lat,que,mark,names,kept,M,fds⟩:=e;have⟨aa,aq,e5,eo,clock,ap,facts,ak,state,feeds⟩:=y;obtain rfl:aa=rs:=h.z.s;obtain rfl:aq=win:=h.j.s;obtain rfl:ap=mark:=h.h.s;obtain rfl:ak=names:=h.c.s;unfold lR lI;rw[yN];cases ha:jN s with
 |none=>exact⟨rfl,ds,h⟩
 |some a=>
  simp only[DD];cases hg:kB a with
  |false=>exact⟨rfl,ds,h⟩
  |true=>
   simp only[if_pos trivial,Bool.true_eq_false,if_false,Jn,xR];cases hd:qA aa a.j with
   |true=>simp only[Bool.not_true,Bool.false_and,if_true];exact⟨trivial,ds,h⟩
   |false=>simp only[Bool.not_false,Bool.true_and,Bool.false_eq_true,if_false];by_cases h0:fG aa a.j=0;{grind [gR]};rw[if_neg (c:=decide (0<fG aa a.j)=false) (by simp;lia)];by_cases z:fG aa a.j=aD a.d;{have hc:gR aa a=0:=by{unfold gR;rw[if_neg h0,if_pos z]};rw[hc];simp only[ne_eq,not_true_eq_false,if_false,z];by_cases ht:0<=t/\t<=1000000;{rw[if_neg (by simpa using ht),if_neg (by simpa using ht)];have E:=GQ G hc;have O:=Gu hg E;have c7:=Ng (yc hg) ak;unfold ru gS;by_cases ho:t+aq<=ap;{grind};rw[if_neg (by simpa using ho),if_neg ho];have hh:=Ka h.v (qb Ql a) t;rw[O,<-h.o] at hh;rw[<-hh];by_cases A:qO kept (qb Ql a,t)=true;{grind};rw[if_neg A,if_neg A];have hl:aD facts=aD kept:=by{have z:kept=_:=h.o;have E:facts=_:=h.v;rw[z,E];simp};have ga:aD kept<=24:=G.m;rw[c7,hl];by_cases hf:aD kept=24\/8<aD (fR ak (a.d.map (·.c)));{grind};rw[if_neg hf,if_neg (by lia)];refine⟨rfl,ds++[(qb Ql a,t,false)],⟨h.z,h.j,h.u,h.w,h.h,h.r,rfl,?_,?_,?_,?_,?_,h.s,?_,?_⟩⟩;{show eB∉fR ak (a.d.map (·.c));intro C;rcases (xG _ _ _).1 C with C|C;{exact h.q C};grind [yc]};{show kept++_=_;rw[bI,<-h.o];rfl};{show oK _ (facts++_);have dy:=h.v;unfold oK at dy ⊢;rw[bI,<-dy];simp[O]};{show kD aa (rW aq (ds++_)++Qx aa) M;have:rW aq (ds++[(qb Ql a,t,false)])=rW aq ds:=by{unfold rW;simp};rw[this];exact h.f};{intro d hd A;obtain hd|hd:=bF.1 hd;{exact h.t d hd A};grind};{intro g aj;have:=h.i g aj;exact⟨this.j,λx hx=>(xG _ _ _).2 (aS (this.f x hx))⟩};intro g;have:lG aq (facts++[((⟨a.j,a.d.map (·.c)⟩:Gr),t,false)]) ap=lG aq facts ap:=by{unfold lG;simp};show g∈state↔Dv aa (lG aq (facts++_) ap) g;rw[this];exact h.n g};grind};grind [gR]
def oV(win m:Int)(fs:List Fk):List Fk:=(fs.filter (λf=>!decide (f.2.1+win<=m))).map (λf=>(f.1,f.2.1,decide (f.2.1<=m)))
def vT(win m:Int)(fs:List Fk):List Gr:=((oV win m fs).filter (λf=>f.2.2)).map (·.1)
def mP(st:List Gr)(rel:ByteArray):List ByteArray:=lB [] ((st.filter (λg=>g.j.toList == rel.toList)).map lJ)
def sy(cg now:List Gr)(rel:ByteArray)(m:Int):List Rc:=Q6 3 (mP cg rel) (mP now rel)++Q6 2 (mP now rel) (mP cg rel)++[⟨4,0,⟨#[]⟩,m⟩]
def mD(que m:Int)(cg now:List Gr)(f:Fr):Fr:=
 if f.a=true then f
 else if que<((aD f.w+aD (sy cg now f.j m):Nat):Int) then {f with a:=true,w:=[],g:=[]}
 else {f with w:=f.w++sy cg now f.j m}
def jA(y:Er)(c:Int):Int:=if y.g<c then c else y.g
def sQ(y:Er)(c:Int)(y':Er)(r:Int×Int):Prop:=
 (¬(0<=c/\c<=1000000)/\y'=y/\r=(0,6))\/
 ((0<=c/\c<=1000000)/\((jA y c-y.u<=y.h/\y'={y with g:=jA y c}/\r=(y.h,0))\/
  (y.h<jA y c-y.u/\r=(jA y c-y.u,0)/\∃st,tD y.z (vT y.j (jA y c-y.u) y.v) y.c st/\
   y'={y with g:=jA y c,h:=jA y c-y.u,v:=oV y.j (jA y c-y.u) y.v,n:=st,a:=y.a.map (mD y.w (jA y c-y.u) y.n st)})))
def tz(win m:Int)(ds:List Dk):List Dk:=(ds.filter (λd=>!decide (d.2.1+win<=m))).map (λd=>(d.1,d.2.1,decide (d.2.1<=m)))
def LF{ds:List Dk}{fs:List Fk}(h:oK ds fs):oK (tz win m ds) (oV win m fs):=by unfold oK at h ⊢;subst h;unfold oV tz;rw[bJ,bH,bH];rfl
def Ls(ds:List Dk):∀d∈tz win m ds,m<d.2.1+win:=by grind [tz]
def DT(ds:List Dk):(ds.map (λd=>(d.1,d.2.1))).filter (λd=>!gS win m d.2)=(tz win m ds).map (λd=>(d.1,d.2.1)):=by unfold tz gS;rw[bJ,bH];rfl
def JQ{ds:List Dk}(z:e.o=ds.map (λd=>(d.1,d.2.1)))(m:Int):tj e m=rW e.j (tz e.j m ds):=by unfold tj rW;rw[z,DT];unfold tz;rw[bH,bJ,bH,bJ,bH];rfl
def I6(fs:List Fk):vT win m fs=lG win (oV win m fs) m:=by unfold vT lG;congr 1;apply List.filter_congr;intro f z;unfold oV at z;obtain⟨A,h0,rfl⟩:=cL.1 z;have:=(List.mem_filter.1 h0).2;simp at this;simp[this]
def C5{e':Eg}{y y':Er}{ds:List Dk}(h:jM e y ds)(bc:fP e){c:Int}{r r':Int×Int}(M:uL e c e' r)(z:sQ y c y' r'):r=r'/\∃c5,jM e' y' c5:=by
 have gp:=h.r;have G:=h.u;have A:=h.h;obtain⟨hc,rfl,rfl⟩|⟨hc,hr,M⟩:=M
 .obtain⟨_,rfl,rfl⟩|⟨au,_⟩:=z;{grind};grind
 obtain⟨au,_⟩|⟨_,z⟩:=z
 .grind
 have Qln:jA y c-y.u<=y.h↔c-e.u<=e.h:=by unfold jA;split<;>lia
 obtain⟨ce,rfl⟩|⟨an,hm⟩:=M
 .obtain⟨O,rfl,rfl⟩|⟨fj,_⟩:=z;{refine⟨by rw[hr,A],ds,⟨h.z,h.j,h.u,h.w,h.h,?_,h.c,h.q,h.o,h.v,h.f,h.t,h.s,h.i,h.n⟩⟩;refine⟨O,?_⟩;show 0<=jA y c/\jA y c<=1000000;unfold jA;split<;>lia};grind
 obtain⟨O,_⟩|⟨fj,rfl,st,C,rfl⟩:=z
 .grind
 have E:jA y c=c:=by{unfold jA;split<;>lia};obtain⟨M',ez,hM,hl,f8,rfl⟩:=hm;rw[JQ h.o] at hM;have gk:c-e.u<=1000000:=by{have:=bc.u;lia};refine⟨by rw[hr,E,G],tz e.j (c-e.u) ds,⟨h.z,h.j,h.u,h.w,by show c-e.u=jA y c-y.u;rw[E,G],?_,h.c,h.q,?_,?_,hM,λd hd _=>Ls ds d hd,C.1.s,C.1.o,?_⟩⟩;{grind};{show e.o.filter _=_;rw[h.o,DT]};{show oK _ (oV y.j (jA y c-y.u) y.v);rw[E,<-h.j,<-G];exact LF h.v};{intro g;show g∈st↔Dv y.z (lG y.j (oV y.j (jA y c-y.u) y.v) (jA y c-y.u)) g;rw[<-I6];exact C.2 g}
structure ug(L:List Tm)(n m:Nat):Prop where
 d:n<=m
 lt:∀t∈L,t.d<m\/t.d=0
 a:∀v,n<=v->v<m->∃t∈L,t.c=eB/\t.d=v
def ug.j{L C:List Tm}{n m:Nat}(h:ug L n m)(A:ug C m k):ug (L++C) n k:=by
 refine⟨Nat.le_trans h.d A.d,λt z=>?_,λv E G=>?_⟩
 .have:=A.d;obtain z|z:=bF.1 z;{obtain h|h:=h.lt t z;{left;lia};exact aU h};exact A.lt t z
 by_cases M:v<m;{have⟨t,z,h3⟩:=h.a v E M;exact⟨t,List.mem_append_left _ z,h3⟩};{have⟨t,z,h3⟩:=A.a v (by lia) G;exact⟨t,List.mem_append_right _ z,h3⟩}
theorem FT(vs:List ByteArray)(t:RT):ug [lF vs t] (aD vs) (aD (mB vs t)):=by
 unfold lF mB;by_cases h:t.d=2
 .rw[if_pos h,if_pos h];unfold Qs;by_cases hs:fW vs t.f<aD vs;{rw[if_pos hs];exact⟨cG _,λu z=>by simp only[bC,bU,or_false] at z;subst z;exact aS hs,λv A C=>by lia⟩};rw[if_neg hs];have E:fW vs t.f<=aD vs:=List.findIdx_le_length;refine⟨by simp,λu z=>?_,λv A C=>⟨_,zs,rfl,?_⟩⟩;{grind};{grind}
 rw[if_neg h,if_neg h];exact⟨cG _,λu z=>by simp only[bC,bU,or_false] at z;subst z;exact aU rfl,λv A C=>by lia⟩
theorem BN:∀(us:List RT) (vs:List ByteArray) (L:List Tm) (z:List ByteArray) (n:Nat),gG vs us=aX (L,z,n)->ug L (aD vs) (aD z)/\1<=aD L
 |[],vs,L,z,n,h=>by simp[gG] at h
 |[a],vs,L,z,n,h=>by simp[gG] at h
 |a::b::us,vs,L,z,n,h=>by
  unfold gG at h;split at h;{grind [FT]}
  .split at h;{rename_i l v' k A;simp only[cM.injEq,Prod.mk.injEq] at h;obtain⟨rfl,rfl,_⟩:=h;exact⟨(FT vs a).j (BN us _ _ _ _ A).1,by simp⟩};{cases h}
theorem GC:∀(n f:Nat) (us:List RT) (vs:List ByteArray) (z:List Am) (m:Nat),aD us<=n->nK f vs us=aX (z,m)->(∃k,ug (z.flatMap (·.d)) (aD vs) k)/\∀a∈z,1<=aD a.d
 |n,f,us,vs,z,m,hn,h=>by
  obtain⟨t,fk,rfl,⟨_,rfl,_⟩|⟨_,r,p,A,l,G,k,f',M,O,rfl,C,E,rfl,_⟩⟩:=zQ h;{exact⟨⟨aD vs,⟨cG _,λ_ h=>by simp at h,λv C E=>by lia⟩⟩,λ_ h=>by cases h⟩}
  .cases n with
   |zero=>simp at hn
   |succ n=>
    have⟨⟨q,ih⟩,gc⟩:=GC n f' (A.drop k) G M O (by simp at hn ⊢;lia) E;have⟨a1,a2⟩:=BN A _ _ _ _ C;refine⟨⟨q,?_⟩,λa ha=>?_⟩;{rw[cE];exact a1.j ih};{grind}
theorem E0:∀(n f:Nat) (us:List RT) (rs:List Rl),aD us<=n->nG f us=aX rs->∀r∈rs,(∃k,ug (Q8 r) 0 k)/\∀a∈Qa r,1<=aD a.d
 |n,f,us,rs,hn,h=>by
  obtain⟨t,fk,rfl,⟨_,rfl⟩|⟨_,p,C,l,vs,k,bs,m,f',aa,rfl,E,G,M,rfl⟩⟩:=Bf h;{grind}
  .cases n with
   |zero=>simp at hn
   |succ n=>
    have O:=E0 n f' ((C.drop k).drop (m+1)) aa (by simp at hn ⊢;lia) M;intro r A;obtain rfl|A:=bC.1 A
    .have⟨a1,a2⟩:=BN C _ _ _ _ E;have⟨⟨q,b1⟩,b2⟩:=GC _ _ _ _ _ _ zl G;refine⟨⟨q,a1.j b1⟩,λa z=>?_⟩;obtain rfl|z:=bC.1 z
     .exact a2
     .exact b2 a z
    .exact O r A
theorem zW{p:Rl->Bool}:∀{rs:List Rl} {i:Nat},jX p rs i=aY->∀r∈rs,p r=false
 |[],_,_,r,z=>by cases z
 |r0::rs,i,h,r,z=>by
  unfold jX at h;split at h;{cases h}
  .rename_i A;obtain rfl|z:=bC.1 z
   .grind
   .exact zW h r z
theorem GR:∀ {rs:List Rl} {vs:List ByteArray} {i:Nat},aD vs<=8->nZ vs rs i=aY->∀k,aD (jJ vs (rs.take k))<=8
 |[],vs,i,h8,_,k=>by grind [jJ]
 |r::rs,vs,i,h8,h,k=>by
  cases k with
  |zero=>simpa [jJ] using h8
  |succ k=>
   unfold nZ at h;split at h;{cases h};{rename_i z;exact GR (rs:=rs) (by lia) h k}
theorem Fl:∀(rs:List Rl) (vs:List ByteArray),jJ vs rs=fF vs (Q3 (fK rs))
 |[],vs=>rfl
 |r::rs,vs=>by have z:=Fl rs (fF vs (Q8 r));show jJ (fF vs (Q8 r)) rs=_;rw[z,<-Fx];congr 1;show _=(Qa r++fK rs).flatMap (·.d);rw[cA];rfl
structure zk(s:ByteArray)(rs:List Rl):Prop where
 d:yH s rs
 f:sK (fG rs) rs
 a:∀Nm:List ByteArray,aD Nm<=8->fJ∉Nm->(∀x∈jJ [] rs,x∈Nm)->oL rs Nm
 q:eB∉jJ [] rs
 c:jJ [] rs=fF [] (Q3 (fK rs))
theorem Au:∀(rs:List Rl),(∀r∈rs,aD r.n<=3)->aD (rs.flatMap wH)<=aD rs*4
 |[],_=>by simp
 |r::rs,h=>by have A:=h r zs;have C:=Au rs (λx z=>h x (zt z));rw[cE,bO,List.length_cons];have:aD (wH r)=aD r.n+1:=rfl;lia
def Cx(s:ByteArray)(rs:List Rl)(h:iT s=.ok rs):zk s rs:=by
 have ep:=FL s rs h;have h':=h;unfold iT at h;split at h
 .cases h
 rename_i hL;split at h
 .cases h
 rename_i ho;split at h
 .cases h
 rename_i aa hr;split at h
 .cases h
 rename_i gb;injection h with h;subst h;have⟨gg,q1,q2,q3⟩:=zw (aD (Q7 s)+1) (Q7 s) (gU false) (by lia) rfl rfl rfl (wP s) (by simpa [oC] using ho) (by decide);rw[hr] at q1;injection q1 with q1;subst q1;have h8:aD aa<=8:=by grind
 have M:=E0 _ _ _ _ zl hr;have hA:∀r∈aa,qI (fK aa) r=false:=by grind [lA,zW]
 have hB:∀r∈aa,oY r=false:=by grind [lA,zW]
 have hC:nZ [] aa 0=none:=by grind [lA]
 have az:∀a∈aa.flatMap Qa,aD a.d=fG aa a.j:=by grind [qI,qH,xR,gX,fK]
 have Ql6:∀r∈aa,∀t∈r.d.d,t.c=eB->∃a∈r.n,∃u∈a.d,u.c=eB/\u.d=t.d:=by grind [oY,uh,lN,Qf,mW]
 have dv:∀a∈aa.flatMap Qa,1<=aD a.d/\aD a.d<=2:=by intro a z;have⟨r,ae,ay⟩:=bB.1 z;refine⟨(M r ae).2 a ay,?_⟩;have:=q3 r ae;obtain rfl|ay:=bC.1 ay;{exact this.d.1};exact (this.n a ay).1
 have Qid:∀r∈aa,∀t∈Q8 r,t.d<6:=by intro r ae t A;have⟨⟨k,hk⟩,_⟩:=M r ae;have hb:k<=6:=by{have ee:∀v∈cP k,v∈(r.n.flatMap (·.d)).map (·.d):=by{intro v hv;rw[List.mem_range] at hv;have⟨u,hu,C,E⟩:=hk.a v zz hv;unfold Q8 at hu;obtain hu|hu:=bF.1 hu;{grind};grind};have c4:=xK (cP k) _ List.nodup_range ee;rw[List.length_range,List.length_map] at c4;have:=zx (λa:Am=>a.d) 2 r.n (λa z=>((q3 r ae).n a z).1);have:=(q3 r ae).I;lia};obtain h|h:=hk.lt t A<;>lia
 have O:∀a∈aa.flatMap Qa,∀t∈a.d,t.d<6:=by intro a z t A;have⟨r,ae,ay⟩:=bB.1 z;refine Qid r ae t ?_;unfold Q8;obtain rfl|ay:=bC.1 ay;{grind};grind
 have G:∀r∈aa,kF r:=by intro r ae;have C:=ep r ae;have E:=q3 r ae;refine⟨⟨C.1.1,E.d.1,λt A=>⟨C.1.2 t A,?_⟩⟩,E.I,λa z=>⟨(C.2 a z).1,(E.n a z).1,λt A=>⟨(C.2 a z).2 t A,?_⟩⟩⟩;{have:=O r.d (bB.2 ⟨r,ae,zs⟩) t A;lia};{have:=O a (bB.2 ⟨r,ae,List.mem_cons_of_mem _ z⟩) t A;lia}
 have c7:=Fl aa [];have d5:∀y,y∈jJ [] aa↔∃t∈Q3 (fK aa),t.c≠eB/\y=t.c:=by grind [wZ]
 have es:=λr ae t A bi=>(d5 _).2 ⟨t,bB.2 ⟨r.d,bB.2 ⟨r,ae,zs⟩,A⟩,bi,rfl⟩;have bc:nN aa:=⟨h8,G,λa z=>⟨az a z,by have:=dv a z;lia⟩,O,Ql6⟩;have e9:s.size<=1200:=by grind [sr,rK]
 have e6:=Cy s (by lia) e9;rw[h'] at e6;have ff:nE s=.ok aa:=by grind
 have Qas:∀(a:Am)(v:Nat),lL a v↔∃t∈a.d,t.c=eB/\t.d=v:=by intro a v;unfold lL;constructor;{rintro⟨t,C,E,h3⟩;exact⟨t,C,(lN _).1 E,h3⟩};{rintro⟨t,C,E,h3⟩;exact⟨t,C,(lN _).2 E,h3⟩}
 have df:∀r∈aa,∀v,lL r.d v->∃a∈r.n,lL a v:=by grind
 refine⟨⟨ff,?_,bc,GR (by simp) hC,es,?_⟩,⟨λr ae a z=>?_,df⟩,λNm n8 ne ee=>⟨λr ae=>⟨(q3 r ae).I,λa z=>?_,df r ae⟩,n8,ne,λr ae t A he=>?_,?_⟩,?_,c7⟩
 .grind [iB,rK,A8]
 .intro x hx;obtain⟨t,A,_,rfl⟩:=(d5 x).1 hx;have⟨a,z,di⟩:=bB.1 A;have⟨r,ae,ay⟩:=bB.1 z;obtain rfl|ay:=bC.1 ay;{exact ((G r ae).d.c t di).c};exact (((G r ae).h a ay).c t di).c
 .have hm:a∈aa.flatMap Qa:=bB.2 ⟨r,ae,z⟩;exact⟨⟨by have:=dv a hm;lia,O a hm⟩,az a hm⟩
 .grind [Qa]
 .grind [qj,eB,pB]
 .have:=Au aa (λr ae=>(q3 r ae).I);lia
 grind
def FI{s:ByteArray}{c:Int}{p:Nat}(z:iT s=.error (c,p)):(iB s).2.1=c:=by grind [iB,rK,R,iT,sr,Cy,nE,A8]
def mM(win lat que:Int):Prop:=(1<=win/\win<=1000)/\(0<=lat/\lat<=1000)/\1<=que/\que<=50
def sp(s:ByteArray)(win lat que:Int)(w:Wq)(e:Ending)(w':Wq):Prop:=
 match iT s with
 |.error (c,_)=>e=aQ (aN #[.pointer aY,aO aR c])/\cQ w.heap.size w w'
 |.ok rs=>(mM win lat que/\xY rs win lat que w e w')\/(¬mM win lat que/\e=aQ (aN #[.pointer aY,aO aR 6])/\cQ w.heap.size w w')
theorem J8(s:ByteArray)(win z que:Int)(w:Wq)(hs:s.size<=1048576)(hT:Lib.Utf8Tabs 0 1 w):Cs 39 #[aK s,aO aR win,aO aR z,aO aR que] w (sp s win z que w):=by
 have cx:Hid _:=CB s w (by omega) hT
 cases hp:iT s with
 |error cp=>
  have⟨c,p⟩:=cp;have d0:c≠0:=xO s c p hp;have hu:sp s win z que w=λe w'=>e=aQ (aN #[.pointer aY,aO aR c])/\cQ w.heap.size w w':=by{funext e w';unfold sp;rw[hp]};rw[hu];have O:=FI hp
  have b3:Hid (Cs 30 #[aK s] w λe w'=>∃(p:Int),e=aQ (aN #[aJ aY 0 0,aO aR c,aO aR p])/\cQ w.heap.size w w'):=by
   refine bD cx.o ?_;rintro e w' ⟨hb,⟨c',p',he,A,M⟩|⟨aa,v,et,e8,he,hR,_,_,M,_,_⟩⟩;{rw[M] at O;obtain rfl:c'=c:=O;exact⟨p',he,hb⟩};{rw[M] at O;exact absurd O.s d0}
  have gj:(c == 0)=false:=by{simpa using d0};clear cx hu hT hp O;go_enter Tryz.func39,Tryz.ntmps39;go_wp2_with fail;refine bD b3.o ?_;rintro e' W1 ⟨p',rfl,a7⟩;clear b3;go_wp2;go_ret2;exact⟨rfl,a7⟩
 |ok rs=>
  have ct:=Cx s rs hp;by_cases G:mM win z que;{refine (G9 s rs win z que w ct.d (by omega) hT G.1 G.2.1 G.2.2).m ?_;intro e w' h;unfold sp;rw[hp];exact aS ⟨G,h⟩}
  .have b3:Hid (Cs 30 #[aK s] w λe w'=>∃(ra:Option Addr)(rc:Nat),e=aQ (aN #[aJ ra (aD rs) rc,aO aR 0,aO aR 0])/\cQ w.heap.size w w'):=by
    refine bD cx.o ?_;rintro e w' ⟨hb,⟨c',p',he,A,M⟩|⟨aa,v,et,e8,he,hR,_,_,M,em,_⟩⟩;{have:=ct.d.u;rw[M] at this;exact absurd this A}
    .have fw:aa=rs:=by{have:=em.s.t ct.d.a;injection this};subst fw;have⟨ra,rc,hf⟩:=hR.c;subst hf;exact⟨ra,rc,he,hb⟩
   have hu:sp s win z que w=λe w'=>(mM win z que/\xY rs win z que w e w')\/(¬mM win z que/\e=aQ (aN #[.pointer aY,aO aR 6])/\cQ w.heap.size w w'):=by{funext e w';unfold sp;rw[hp]};rw[hu];have HA:=aA G;have E:Hid (∀(n l m:Int) W,Cs 43 #[aO aR n,aO aR l,aO aR m] W λe' w'=>e'=aQ (aM (decide (l<=n) && decide (n<=m)))/\W=w'):=λn l m W=>by{refine (vM n l m W).m ?_;rintro e' w' ⟨h1,h2⟩;exact⟨h1,h2.s⟩};have Qlu:¬(1<=win/\win<=1000)\/((1<=win/\win<=1000)/\¬(0<=z/\z<=1000))\/((1<=win/\win<=1000)/\(0<=z/\z<=1000)/\¬(1<=que/\que<=50)):=by unfold mM at G;omega
   clear cx hu hT hp G ct;go_enter Tryz.func39,Tryz.ntmps39;go_wp2_with fail;refine bD b3.o ?_;rintro e' W1 ⟨ra,rc,rfl,a7⟩;clear b3;have HB:=aA a7;go_wp2_with fail;refine (E.o win 1 1000 _).m ?_;rintro e' w' ⟨rfl,C⟩;subst C;obtain A|⟨A,cb⟩|⟨A,cb,cq⟩:=Qlu
   .rw[show (decide (1<=win) && decide (win<=1000))=false by simpa using A];clear A E;go_wp2;go_ret2;exact aU ⟨HA.o,rfl,HB.o⟩
   .rw[show (decide (1<=win) && decide (win<=1000))=true by simpa using A];go_wp2_with fail;refine (E.o z 0 1000 _).m ?_;rintro e' w' ⟨rfl,C⟩;subst C;rw[show (decide (0<=z) && decide (z<=1000))=false by simpa using cb];clear A cb E;go_wp2;go_ret2;exact aU ⟨HA.o,rfl,HB.o⟩
   .rw[show (decide (1<=win) && decide (win<=1000))=true by simpa using A];go_wp2_with fail;refine (E.o z 0 1000 _).m ?_;rintro e' w' ⟨rfl,C⟩;subst C;rw[show (decide (0<=z) && decide (z<=1000))=true by simpa using cb];go_wp2_with fail;refine (E.o que 1 50 _).m ?_;rintro e' w' ⟨rfl,C⟩;subst C;rw[show (decide (1<=que) && decide (que<=50))=false by simpa using cq];clear A cb cq E;go_wp2;go_ret2;exact aU ⟨HA.o,rfl,HB.o⟩
