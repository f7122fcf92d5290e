/- A part -/
import Derived.Test.YtjajnhemgphefaaGreatDoorQRefP
import Derived.Deep.RegionLawGrows
import Derived.Maps.AppendAt
import Derived.BigQuiet
import Derived.BigRegion
set_option linter.all false
set_option maxRecDepth 100000
set_option maxHeartbeats 4000000
open List renaming length->aD,dropLast_concat_getLast->bE,getElem?_take->bH,eq_nil_of_length_eq_zero->bJ,length_cons->bO,dropLast_concat->bQ,findIdx_cons->bT,mem_append->bZ,length_nil->cA,append_toArray->cF,size_toArray->cG,push_toArray->cH,cons_append->cJ,nil_append->cM
open Go.World renaming cell?->aE,frozen?->aF,ownsRow->aH,setCell->aW,size_alloc->bG,ownsRow_nil->bU,setCell_alloc_past->bX
open Go.Value renaming ownBlock->aI,slice->aJ,string->aK,agg->aL,bool->aM,tuple->aN,int->aO,oneCell'->bL
open Go.Obj renaming cells->aP,isCells->cR
open Go.Ending renaming returned->aQ
open Go.IntKind renaming i64->aR
open Or renaming inl->aS,inr->aU
open Option renaming some->aX,none->aY
open Go renaming undef->aZ,TypeId->cW,Boxed->cX,bodyPost_ret->cZ,callsIn_wide->dE,Addr->dH,ownsRow_succ->dK,info_parts->dL,grownBy_putObj'->dP,cell_later->dS,callsIn_of_wp_marks->dW,maxLen->eC
open Nat renaming le_trans->bB,lt_of_lt_of_le->bI,le_refl->cI,reduceAdd->cO,reduceSub->cP,zero_add->cQ
open Go.RowKit.Below renaming refl->bC,heap_setCell->bD,heap_alloc->bF
open Array renaming replicate_succ->cD,replicate_zero->cE
open ByteArray renaming empty->cL,size->cS
open Go.RowKit renaming Below->cT
open Go.Lib renaming runeCount->cU,idxFromS->dD,Utf8Tabs->dI,idxOfS->dJ,runeCountFrom->eD
open Go.Proofs.Tryz renaming ntmps197->dA,func197->dB,results49->dG,ntmps60->dM,results261->dO,func60->dQ,results90->dR,ntmps152->dT,ntmps196->dU,ntmps261->dV,func152->dX,func196->dY,func261->dZ,ntmps49->eA,underlying75->eE,func49->eF
open Go.Act renaming eval->dC,put->dF
namespace Go.Proofs.YtjajnhemgphefaaGreatDoor
open Go renaming World->Wq,Value->Vq
open Go.RowKit Go.Shelf
variable {t:cW} {b g ac ae:Nat} {W W':Wq} {l:List Tm}
def tg(l:List Tm):List Vq:=l.flatMap jL
def iD(p:Am×Vq):List Vq:=[aK p.1.j,p.2]
def tM(q:Rl×Vq×Vq):List Vq:=[aK q.1.d.j,q.2.1,q.2.2]
theorem EN(l:List (Am×Vq)):aD (l.flatMap iD)=aD l*2:=by
 induction l with
 |nil=>rfl
 |cons t l ih=>simp[iD] at ih ⊢;lia
def Qg(W:Wq)(b:Nat)(v:Vq)(l:List Tm):Prop:=
 (l=[]/\v=aJ aY 0 0)\/
 ∃(g cap:Nat) (ag:Array Vq),v=aJ (aX ⟨g,0,aY⟩) (aD l) cap/\g<b/\W.heap[g]?=aX (aP ag 166)/\ag.toList.take (aD l*2)=tg l
def gP(W:Wq)(ac ae:Nat)(v:Vq)(l:List Am):Prop:=
 ∃(ps:List (Am×Vq)) (a:Option dH) (cap:Nat),ps.map (·.1)=l/\v=aJ a (aD l) cap/\((∀p∈ps,Qg W ae p.2 p.1.d)/\aD l<=cap)/\
  (l≠[]->∃(g dc:Nat) (ag:Array Vq),a=aX ⟨g,dc,aY⟩/\g<ac/\W.heap[g]?=aX (aP ag 92)/\(ag.toList.drop dc).take (aD l*2)=ps.flatMap iD)
def AM(W:Wq)(ac ae:Nat)(v:Vq)(l:List Am):Prop:=
 ∃ps:List (Am×Vq),ps.map (·.1)=l/\aH W ac 92 2 v (aD ps) (ps.flatMap iD)/\(∀p∈ps.dropLast,Qg W ae p.2 p.1.d)/\
  (∀p,ps.getLast?=aX p->aH W ae 166 2 p.2 (aD p.1.d) (tg p.1.d))
def Qq(W:Wq)(ab ac ae:Nat)(v:Vq)(l:List Rl):Prop:=
 ∃qs:List (Rl×Vq×Vq),qs.map (·.1)=l/\aH W ab 136 3 v (aD qs) (qs.flatMap tM)/\∀q∈qs,Qg W ae q.2.1 q.1.d.d/\gP W ac ae q.2.2 q.1.n
def nR(t:cW)(b:Nat)(W W':Wq):Prop:=∀(k:Nat) (c:Array Vq),k<b->W.heap[k]?=aX (aP c t (0,0))->W'.heap[k]?=aX (aP c t (0,0))
def Qg.o{v:Vq}(h:Qg W b v l)(O:nR 166 b W W'):Qg W' b v l:=by
 obtain h|⟨g,z,A,E,C,G,M⟩:=h
 .exact aS h
 exact aU ⟨g,z,A,E,C,O g A C G,M⟩
def Qg.mono{b':Nat}{v:Vq}(h:Qg W b v l)(O:b<=b'):Qg W b' v l:=by
 obtain h|⟨g,z,A,C,M,E,G⟩:=h
 .exact aS h
 exact aU ⟨g,z,A,C,by lia,E,G⟩
def gP.o{v:Vq}{l:List Am}(h:gP W ac ae v l)(C:nR 92 ac W W')(A:nR 166 ae W W'):gP W' ac ae v l:=by have⟨ps,a,cap,h1,h2,h3,h4⟩:=h;refine⟨ps,a,cap,h1,h2,⟨λp E=>(h3.1 p E).o A,h3.2⟩,λz=>?_⟩;have⟨g,dc,ag,e1,e2,e3,e4⟩:=h4 z;exact⟨g,dc,ag,e1,e2,C g ag e2 e3,e4⟩
def gP.mono{z A:Nat}{v:Vq}{l:List Am}(h:gP W ac ae v l)(M:ac<=z)(E:ae<=A):gP W z A v l:=by have⟨ps,a,cap,h1,h2,h3,h4⟩:=h;refine⟨ps,a,cap,h1,h2,⟨λp G=>(h3.1 p G).mono E,h3.2⟩,λC=>?_⟩;have⟨g,dc,ag,e1,e2,e3,e4⟩:=h4 C;exact⟨g,dc,ag,e1,by lia,e3,e4⟩
theorem Qg.d{v:Vq}(h:aH W b 166 2 v (aD l) (tg l)):Qg W W.heap.size v l:=by
 obtain⟨_,⟨A,M⟩|⟨g,z,E,A,hb,C,O,h2,h3,G⟩⟩:=h
 .exact aS ⟨bJ M,A⟩
 exact aU ⟨g,z,E,A,(zg C).1,C,G⟩
def Qe{e size n:Nat}{v:Vq}{xs:List Vq}(h:aH W b e size v n xs)(hk:∀g c,aI v=aX g->W.heap[g]?=cC c e->W'.heap[g]?=cC c e):aH W' b e size v n xs:=by
 obtain⟨h0,⟨z,hn⟩|⟨g,A,C,z,hb,hh,E,G,M,O⟩⟩:=h
 .exact⟨h0,aS ⟨z,hn⟩⟩
 exact⟨h0,aU ⟨g,A,C,z,hb,hk g C (by rw[z];rfl) hh,E,G,M,O⟩⟩
def ws{P:Program}{M:Array Oper}{o:Oper}{a:Act}{w:Wq}{K:Act->Wq->Prop}{Q:Exit->Act->Wq->Prop}{E:Prop}(hg:o.guard=aY)(s x:Operand)(t:cW)(g3:o.op=Op.call {callee:=Callee.builtin Builtin.append,args:=#[s,x],argTypes:=#[t,t]})(ab:Nat)(e:cW)(i:TypeInfo)(z:Vq)(size A:Nat)(h1:P.underlying t=aX (.slice e))(h2:P.info? e=aX i)(h3:i.zero=aX z)(h4:i.size=size)(h5:i.bytes=A)(h6:z.cells.size=size)(h7:0<size)(v:Vq)(n:Nat)(xs:List Vq)(hs:a.eval s=v)(qt:aH w ab e size v n xs)(G:dH)(m c:Nat)(C:List Vq)(hx:a.eval x=aJ (aX G) m c)(hn:aD C=m*size)(hc:∀j u,C[j]?=aX u->aE w (G.add j)=aX u)(b8:∀u∈C,u.oneCell'=true)(O:n+m<=eC)(b2:(n+m)*A<=140737488355328)(dr:ab<=w.heap.size)(hK:∀v' w',aH w' ab e size v' (n+m) (xs++C)->w.grownBy w' (aI v)->K (a.put o.dst v') w'):if Region.wanted o (yielded M a.tmps)=true then Oper.wp P o a w K Q else E:=by
 have hw:Region.wanted o (yielded M a.tmps)=true:=by simp[Region.wanted,hg]
 rw[if_pos hw];have⟨v',w',ie,r1,r2,_⟩:=run_append_own (P:=P) w ab t o.type e i z size A h1 h2 h3 h4 h5 h6 h7 v n xs qt G m c C hn hc b8 O b2 dr;unfold Oper.wp;simp[execOp,g3,resolve,invoke,builtin,hs,hx,ie,Result.andThen];exact hK v' w' r1 r2
end Go.Proofs.YtjajnhemgphefaaGreatDoor
namespace Go.Proofs.YtjajnhemgphefaaGreatDoor
open Go renaming World->Wq,Value->Vq
theorem oT(x:ByteArray):x.toList=x.data.toList:=by grind [ByteArray.toList_eq]
theorem yY(x y:ByteArray):fQ x y=true↔x=y:=by
 unfold fQ;constructor
 .intro h;have z:y.toList=x.toList:=by{simpa using h};rw[oT,oT] at z;have A:=Array.toList_inj.1 z;cases x;cases y;simp at A;rw[A]
 grind
def Bk(x y:ByteArray):fQ x y=(y.data.toList == x.data.toList):=by unfold fQ;rw[oT,oT]
structure fT where
 d:Int
 u:List Rl
 f:List Am
 c:List ByteArray
def Q2(st k:Int):Bool:=
 if st=0\/st=1 then k == 1 else if st=2 then k == 3 else if st=3 then (k == 1 || k == 2) else if st=4 then (k == 5 || k == 4)
 else if st=5 then (k == 7 || k == 6) else if st=6 then (k == 5 || k == 6) else false
def Qc(st runes:Int)(nr na m:Nat):Bool:=
 if 8<runes then true else if st=0 then nr == 8 else if st=1 then na == 4 else if st=3 then m == 2 else false
def pO(l:List Am)(x:Tm):List Am:=
 match l.getLast? with
 |some a=>l.dropLast++[{a with d:=a.d++[x]}]
 |none=>l
def Qz(l:List Am):Nat:=match l.getLast? with|some a=>aD a.d|none=>0
def jH(vs:List ByteArray)(k:Int)(t:ByteArray):Tm:=if k=1 then ⟨t,0⟩ else ⟨⟨#[]⟩,fW vs t⟩
def kG(vs:List ByteArray)(k:Int)(t:ByteArray):List ByteArray:=if k=1 then vs else Qs vs t
def oQ(s:fT)(k:Int)(t:ByteArray):fT:=
 if s.d=3 then {s with d:=4,f:=pO s.f (jH s.c k t),c:=kG s.c k t}
 else {s with d:=2,f:=s.f++[⟨t,[]⟩]}
def mV(s:fT):fT:=
 match s.f with
 |a::l=>{d:=0,u:=s.u++[⟨a,l⟩],f:=[],c:=[]}
 |[]=>s
def sI(s:fT):fT:={s with d:=if aD s.f=1 then 5 else 6}
def fS(s:fT)(k:Int)(t:ByteArray):fT:=
 if k=1\/k=2 then oQ s k t
 else if k=3 then {s with d:=3}
 else if k=4 then sI s
 else if k=5 then {s with d:=if s.d=4 then 3 else 1}
 else if k=7 then {s with d:=1}
 else if k=6 then mV s
 else s
def gA(s:fT)(k:Int)(t:ByteArray)(r:Int):Int×fT:=
 if Q2 s.d k=false then (2,s)
 else if Qc s.d r (aD s.u) (aD s.f) (Qz s.f)=true then (3,s)
 else (0,fS s k t)
def fO:fT->List gF->fT×Option (Int×Nat)
 |s,[]=>(s,aY)
 |s,x::l=>if (gA s x.d x.f x.a).1=0 then fO (gA s x.d x.f x.a).2 l else (s,aX ((gA s x.d x.f x.a).1,x.b))
def iG:fT:=⟨0,[],[],[]⟩
def nE(s:ByteArray):Except (Int×Nat) (List Rl):=
 match fO iG (gD s.size s 0) with
 |(_,aX ep)=>.error ep
 |(st,aY)=>if st.d=0 then .ok st.u else .error (2,cU s)
theorem zF:∀(l:List gF) (s z:fT) (c:Int) (p:Nat),fO s l=(z,aX (c,p))->c≠0
 |[],s,z,c,p,h=>by simp[fO] at h
 |x::l,s,z,c,p,h=>by
  unfold fO at h;split at h;{exact zF l _ _ _ _ h};{grind}
structure tB(t:Tm):Prop where
 c:t.c.size<=1200
 d:t.d<=50
structure lO(a:Am):Prop where
 j:a.j.size<=1200
 d:aD a.d<=2
 c:∀t∈a.d,tB t
structure kF(r:Rl):Prop where
 d:lO r.d
 n:aD r.n<=3
 h:∀a∈r.n,lO a
structure qG(s:fT):Prop where
 u:aD s.u<=8
 f:aD s.f<=4
 h:∀a∈s.f,lO a
 j:s.d=0->s.f=[]
 some:s.d≠0->s.f≠[]
 d:s.d≠0->aD s.u<8
 i:∀r∈s.u,kF r
 c:aD s.c<=(s.f.map (·.d.length)).sum
theorem Jk(l:List Am)(h:∀a∈l,aD a.d<=2):(l.map (·.d.length)).sum<=2*aD l:=by
 induction l with
 |nil=>simp
 |cons a l ih=>grind
def qG.I{s:fT}(h:qG s):aD s.c<=8:=by have A:=Jk s.f (λa z=>(h.h a z).d);have C:=h.c;have E:=h.f;lia
def At(l:List Am)(a:Am)(x:Tm):pO (l++[a]) x=l++[{a with d:=a.d++[x]}]:=by unfold pO;simp
def Gf(l:List Am)(x:Tm):aD (pO l x)=aD l:=by grind [pO]
def De(l:List Am)(h:l≠[]):∃p a,l=p++[a]:=⟨l.dropLast,l.getLast h,(bE h).s⟩
def MC(vs:List ByteArray)(x:ByteArray):fW vs x<=aD vs:=List.findIdx_le_length
theorem Df(vs:List ByteArray)(x:ByteArray):aD (Qs vs x)<=aD vs+1:=by grind [Qs]
def DC(s:fT)(k:Int)(t:ByteArray)(r:Int)(ht:t.size<=1200)(h:qG s)(h0:(gA s k t r).1=0):qG (gA s k t r).2:=by
 have iq:=h.I;have⟨i1,i2,i3,i4,i5,i6,i7,i8⟩:=h;unfold gA at h0 ⊢;by_cases hf:Q2 s.d k=false
 .grind
 rw[if_neg hf] at h0 ⊢;by_cases O:Qc s.d r (aD s.u) (aD s.f) (Qz s.f)=true
 .grind
 rw[if_neg O];clear h0;have z:Q2 s.d k=true:=by simpa using hf
 have G:Qc s.d r (aD s.u) (aD s.f) (Qz s.f)=false:=by simpa using O
 clear hf O;unfold Qc at G;split at G
 .cases G
 show qG (fS s k t);unfold Q2 at z;have e8:s.d≠0->qG (mV s):=by intro h0;have hr:=i6 h0;unfold mV;split;{rename_i a0 al gb;rw[gb] at i2 i3;refine⟨by simp;lia,by simp,by simp,λ_=>rfl,λe=>absurd rfl e,λe=>absurd rfl e,λq M=>?_,by simp⟩;simp at M;obtain M|rfl:=M;{exact i7 q M};exact⟨i3 _ (by simp),by simp at i2;exact i2,λb E=>i3 b (by simp[E])⟩};grind
 have jb:s.d≠0->∀x:Int,x≠0->qG {s with d:=x}:=λh0 x C=>⟨i1,i2,i3,λe=>absurd e C,λ_=>i5 h0,λ_=>i6 h0,i7,i8⟩;split at z
 .rename_i bk;obtain rfl:k=1:=by{grind};have:fS s 1 t={s with d:=2,f:=s.f++[⟨t,[]⟩]}:=by{grind [fS,oQ]};rw[this];refine⟨i1,?_,?_,λe=>by simp at e,λ_=>by simp,λ_=>?_,i7,by simpa using i8⟩;{grind};{intro a A;simp at A;obtain A|rfl:=A;{exact i3 a A};exact⟨ht,by simp,by simp⟩};grind
 split at z
 .grind [fS]
 split at z
 .rename_i _ _ bk;have:fS s k t={s with d:=4,f:=pO s.f (jH s.c k t),c:=kG s.c k t}:=by{grind [fS,oQ]};rw[this];simp[bk] at G;have⟨p,a,ez⟩:=De s.f (i5 (by lia));have io:Qz s.f=aD a.d:=by{grind [Qz]};have A:=i3 a (by rw[ez];simp);have jd:=A.d;have gy:tB (jH s.c k t):=by{unfold jH;split;{exact⟨ht,by simp⟩};{exact⟨by simp[cS],by have:=MC s.c t;simp only;lia⟩}};have ii:aD (kG s.c k t)<=aD s.c+1:=by{grind [kG,Df]};rw[ez,At];rw[ez] at i2 i8;have jc:aD s.c<=(p.map (·.d.length)).sum+aD a.d:=by{simpa using i8};refine⟨i1,by simpa using i2,?_,λe=>by simp at e,λ_=>by simp,λ_=>i6 (by lia),i7,?_⟩;{intro b E;simp at E;obtain E|rfl:=E;{grind};refine⟨A.j,by simp;lia,λx C=>?_⟩;simp at C;obtain C|rfl:=C;{exact A.c x C};exact gy};simp;lia
 split at z
 .grind [fS,sI]
 split at z
 .grind [fS]
 split at z
 .grind [fS]
 cases z
theorem D9(s:fT)(pre l:List gF)(z:fT)(h:fO s pre=(z,aY)):fO s (pre++l)=fO z l:=by
 induction pre generalizing s with
 |nil=>simp[fO] at h;rw[h];rfl
 |cons x pre ih=>grind [fO]
end Go.Proofs.YtjajnhemgphefaaGreatDoor
namespace Go.Proofs.YtjajnhemgphefaaGreatDoor
open Go renaming World->Wq,Value->Vq
open Go.RowKit Go.Shelf
variable {W a w1 W':Wq} {b B e size bp ac ae bS ab A N t1 D:Nat} {vs:List ByteArray} {ex:Nat->Prop} {t:cW} {xs ys:List Vq} {v' x y z:Vq} {l:List Rl}
def Ob(bp:Nat)(st k:Int)(w:Wq)(z:aE w (Ad bp 0)=aX (aO aR st)):Cs 195 #[Pt bp,aO aR k] w λe w'=>e=aQ (aM (Q2 st k))/\w'=w:=by
 go_enter Tryz.func195,Tryz.ntmps195;go_wp2;all_goals
  go_ret;exact⟨kU (by simp_all [Q2]),rfl⟩
def NH(bp:Nat)(st:Int)(C E:Vq)(a:Option dH)(n c:Nat)(w:Wq)(z:w.heap[bp]?=cC #[aO aR st,C,aJ a n c,E] 179):Cs 234 #[Pt bp] w λe w'=>e=aQ (aN #[])/\w'=w.setCell (Ad bp 0) (aO aR (if n=1 then 5 else 6)):=by
 have h0:=cZz z;have O:aF w (Ad bp 0)=false:=by simp[aF,z]
 clear z;by_cases A:n=1
 .subst A;go_enter Tryz.func234,Tryz.ntmps234;go_wp2;go_end0;exact⟨rfl,rfl⟩
 have G:((n:Int) == 1)=false:=by{simp;omega};go_enter Tryz.func234,Tryz.ntmps234;go_wp2;go_end0;exact⟨rfl,rfl⟩
def I4(bp:Nat)(st:Int)(E C G:Vq)(w:Wq)(z:w.heap[bp]?=cC #[aO aR st,E,C,G] 179):Cs 235 #[Pt bp] w λe w'=>e=aQ (aN #[])/\w'=w.setCell (Ad bp 0) (aO aR (if st=4 then 3 else 1)):=by
 have h0:aE w (Ad bp 0)=aX (aO aR st):=zc z;have O:aF w (Ad bp 0)=false:=by simp[aF,z]
 clear z;by_cases A:st=4
 .subst A;go_enter Tryz.func235,Tryz.ntmps235;go_wp2;go_end0;exact⟨rfl,rfl⟩
 have M:(st == 4)=false:=by{simp[A]};go_enter Tryz.func235,Tryz.ntmps235;go_wp2;go_end0;exact⟨rfl,rfl⟩
def C8(bp:Nat)(st:Int)(A C:Vq)(g n c:Nat)(M:1<=n)(G:n<=1000)(w:Wq)(z:w.heap[bp]?=cC #[aO aR st,A,Sc g n c,C] 179):Cs 232 #[Pt bp] w λe w'=>e=aQ (.pointer (aX ⟨g,(n-1)*2,aY⟩))/\∃q,w'=w.drewN q:=by have E:aE w (Ad bp 2)=aX (Sc g n c):=zc z;clear z;go_enter Tryz.func232,Tryz.ntmps232;go_wp2;go_quiet (fail);go_wp2;go_ret;exact⟨rfl,_,rfl⟩
def Fe(bp:Nat)(st:Int)(ar:Option dH)(C M:Nat)(aa:Option dH)(A G:Nat)(vv:Vq)(at':Option dH)(m cm:Nat)(k:Int)(t:ByteArray)(p r:Int)(hb:A<=1000)(w:Wq)(z:w.heap[bp]?=cC #[aO aR st,aJ ar C M,aJ aa A G,vv] 179)(E:st=3->1<=A/\∃g,aa=aX ⟨g,0,aY⟩/\aE w (Ad g ((A-1)*2+1))=aX (aJ at' m cm)/\g<w.heap.size):Cs 196 #[Pt bp,fY k t p r] w λe w'=>e=aQ (aM (Qc st r C A m))/\∃q,w'=(w.alloc (aP (iH k t p r) 191)).drewN q:=by
 have ay:=(zg z).1;have h0:=cZz z;unfold fY iH;by_cases hr:8<r
 .clear E z;go_enter dY,dU;go_wp2;go_ret;exact⟨kU (by simp[Qc,hr]),0,rfl⟩
 by_cases O:st=3
 .obtain⟨gc,g,rfl,a9,dx⟩:=E O;subst O;have cz:(w.alloc (aP #[aO aR k,aK t,aO aR p,aO aR r] 191)).heap[bp]?=cC #[aO aR 3,aJ ar C M,Sc g A G,vv] 179:=by{rwa[bF _ _ _ ay]};have Qpv:aE (w.alloc (aP #[aO aR k,aK t,aO aR p,aO aR r] 191)) (Ad g ((A-1)*2+1))=aX (aJ at' m cm):=dS ((bC w.heap.size w).l zl _) a9;clear z a9;go_enter dY,dU;go_wp2_with (go_at_call 232;refine (C8 _ _ _ _ _ _ _ gc hb _ cz).m ?_;rintro e w' ⟨rfl,q,rfl⟩);go_ret;exact⟨kU (by rw[Bool.eq_iff_iff];simp[Qc];omega),_,rfl⟩
 have iv:(st == 3)=false:=by{simp[O]};clear E z;go_enter dY,dU;go_wp2;all_goals
  go_ret;exact⟨kU (by rw[Bool.eq_iff_iff];simp_all [Qc]<;>omega),0,rfl⟩
def yO{v:Vq}(h:aH W b 9 1 v (aD vs) (vs.map aK))(hl:aD vs<=1000)(x:ByteArray):Cs 140 #[v,aK x] W λe w'=>e=aQ (aM (Lib.containsS vs x))/\w'=W:=by
 obtain⟨_,⟨A,G⟩|⟨g,z,E,A,hb,M,O,h2,h3,h4⟩⟩:=h
 .have:vs=[]:=bJ G;subst this;rw[A];exact Tryz.slices_Contains_string_empty aY 0 x W
 rw[A];have:=Tryz.slices_Contains_string g 0 (aD vs) z vs x W zl (by lia) (λj hj=>by
  simp only[aE,M,cQ];have C:(E.toList.take (aD vs*1))[j]?=aX (aK (vs.getD j cL)):=by{grind};rw[bH,if_pos (by lia)] at C
  simpa using C)
 simpa using this
def Jl{v:Vq}(h:aH W b 9 1 v (aD vs) (vs.map aK))(hl:aD vs<=1000)(x:ByteArray):Cs 191 #[v,aK x] W λe w'=>e=aQ (aO aR (dJ vs x))/\w'=W:=by
 obtain⟨_,⟨A,G⟩|⟨g,z,E,A,hb,M,O,h2,h3,h4⟩⟩:=h
 .have:vs=[]:=bJ G;subst this;rw[A];exact Tryz.slices_Index_string_empty aY 0 x W
 rw[A];have:=Tryz.slices_Index_string g 0 (aD vs) z vs x W zl (by lia) (λj hj=>by
  simp only[aE,M,cQ];have C:(E.toList.take (aD vs*1))[j]?=aX (aK (vs.getD j cL)):=by{grind};rw[bH,if_pos (by lia)] at C
  simpa using C)
 simpa using this
def Tryz.d:(Tryz.prog.info? 9).map (λi=>(i.zero,i.size,i.bytes))=aX (aX (aK ⟨#[]⟩),1,16):=by kernel_rfl
structure fC(w w':Wq)(ex:Nat->Prop):Prop where
 os:w'.os=w.os
 tape:w'.tape=w.tape
 output:w'.output=w.output
 size:w.heap.size<=w'.heap.size
 h:∀k,k<w.heap.size->¬ex k->w'.heap[k]?=w.heap[k]?
def fC.j(w:Wq)(ex:Nat->Prop):fC w w ex:=⟨rfl,rfl,rfl,cI _,λ_ _ _=>rfl⟩
def fC.trans{b c:Wq}(h:fC a b ex)(k:fC b c ex):fC a c ex:=
 ⟨k.os.t h.os,k.tape.t h.tape,k.output.t h.output,bB h.size k.size,λi z A=>(k.h i (bI z h.size) A).t (h.h i z A)⟩
def fC.mono{b:Wq}{fj:Nat->Prop}(h:fC a b ex)(C:∀k,k<a.heap.size->ex k->fj k):fC a b fj:=
 ⟨h.os,h.tape,h.output,h.size,λi z A=>h.h i z (λe=>A (C i z e))⟩
def fC.drew{b:Wq}(h:fC a b ex):fC a b.drew ex:=⟨h.os,h.tape,h.output,h.size,h.h⟩
def fC.alloc{b:Wq}(h:fC a b ex)(o:Obj):fC a (b.alloc o) ex:=
 ⟨h.os,h.tape,h.output,by have:=h.size;simp;lia,λi z A=>(bF b o i (bI z h.size)).t (h.h i z A)⟩
def fC.i{b:Wq}(h:fC a b ex)(p:dH)(v:Vq)(C:p.block<a.heap.size->ex p.block):fC a (b.setCell p v) ex:=
 ⟨h.os,h.tape,h.output,by have:=h.size;have e:(b.setCell p v).heap.size=b.heap.size:=(by simp);lia,λi z A=>(bD b p v i (λe=>A (by rw[e] at z ⊢;exact C z))).t (h.h i z A)⟩
def fC.o{b c:Wq}{row:Option Nat}(h:fC a b ex)(z:b.grownBy c row)(E:∀k,row=aX k->k<a.heap.size->ex k):fC a c ex:=
 ⟨z.os.t h.os,z.tape.t h.tape,z.output.t h.output,bB h.size z.size,
  λi A C=>(z.b i (bI A h.size) (λe=>C (E i e.s A))).t (h.h i A C)⟩
def fC.f{b:Wq}(h:fC a b ex)(z:B<=a.heap.size)(C:∀k,ex k->B<=k):cT B a b:=
 ⟨h.os,h.tape,h.output,h.size,λk A=>h.h k (bI A z) (λe=>by have:=C k e;lia)⟩
def fC.d{b:Wq}(ex:Nat->Prop)(h:cT a.heap.size a b):fC a b ex:=⟨h.os,h.tape,h.output,h.s,λk z _=>h.b k z⟩
def Tryz.h:(Tryz.prog.info? 92).map (λi=>(i.zero,i.size,i.bytes))=aX (aX (aL #[aK ⟨#[]⟩,aJ aY 0 0]),2,40):=by kernel_rfl
def Tryz.i:(Tryz.prog.info? 166).map (λi=>(i.zero,i.size,i.bytes))=aX (aX (aL #[aK ⟨#[]⟩,aO aR 0]),2,24):=by kernel_rfl
def Tryz.j:(Tryz.prog.info? 136).map (λi=>(i.zero,i.size,i.bytes))=aX (aX (aL #[aK ⟨#[]⟩,aJ aY 0 0,aJ aY 0 0]),3,64):=by kernel_rfl
def qw{w:Wq}{c:Array Vq}{z:Nat×Nat}(h:w.heap[b]?=aX (aP c t z))(o:Nat)(v:Vq):(w.setCell (Ad b o) v).heap[b]?=aX (aP (c.setIfInBounds o v) t z):=by simp[aW,Array.getElem?_modify,h]
theorem Qh{w:Wq}{n:Nat}{v:Vq}(h:aH w b e size v n xs){k:Nat}{c:Array Vq}{u:cW}{M:Nat×Nat}(O:w.heap[k]?=aX (aP c u M))(E:u≠e):∀g,aI v=aX g->g≠k:=by
 intro g z e';obtain⟨_,⟨A,hn⟩|⟨g',G,ag,A,_,C,_⟩⟩:=h
 .rw[A] at z;simp[aI] at z
 rw[A] at z;simp[aI] at z;rw[z,e',O] at C;simp at C;exact E C.2.1
theorem Qj{w:Wq}{n:Nat}{v:Vq}(h:aH w b e size v n xs)(a:dH)(u:Vq)(z:∀g,aI v=aX g->g≠a.block):aH (w.setCell a u) b e size v n xs:=
 Qe h (λg c C A=>(bD w a u g (z g C)).t A)
def Jg{w:Wq}{n:Nat}{z:Int}{C Z:Array Vq}{j:Nat}(G:179≠e)(M:ex bp)(A:w1.heap[bp]?=cC C 179)(hz:(C.setIfInBounds j v').setIfInBounds 0 (aO aR z)=Z)(E:aH w1 b e size v' n xs)(O:fC w w1 ex):((w1.setCell (Ad bp j) v').setCell (Ad bp 0) (aO aR z)).heap[bp]?=cC Z 179/\
  aH ((w1.setCell (Ad bp j) v').setCell (Ad bp 0) (aO aR z)) b e size v' n xs/\fC w ((w1.setCell (Ad bp j) v').setCell (Ad bp 0) (aO aR z)) ex:=by refine⟨hz▸qw (qw A j v') 0 _,?_,(O.i _ _ (λ_=>M)).i _ _ (λ_=>M)⟩;exact Qj (Qj E _ _ (Qh E A G)) _ _ (Qh E A G)
def Ct(s:ByteArray)(w:Wq)(hs:s.size<=1000000):Cs 97 #[aK s] w λe w'=>e=aQ (aK s)/\cT w.heap.size w w':=by have h:=λW=>Tryz.stringslite_Clone s W (by omega);go_enter Tryz.func97,Tryz.ntmps97;go_wp2_with (go_at_call 162;refine (h _).m ?_;rintro e w' ⟨rfl,z⟩);go_ret;exact⟨rfl,z⟩
def LU(bp:Nat)(st:Int)(vr C vv:Vq)(n ac:Nat)(xs:List Vq)(k:Int)(t:ByteArray)(p r:Int)(bk:st≠3)(hn:n<=1000)(ht:t.size<=1000000)(w:Wq)(id:ac<=w.heap.size)(A:w.heap[bp]?=cC #[aO aR st,vr,C,vv] 179)(M:aH w ac 92 2 C n xs):Cs 233 #[Pt bp,fY k t p r] w λe w'=>e=aQ (aN #[])/\
   ∃v',w'.heap[bp]?=cC #[aO aR 2,vr,v',vv] 179/\aH w' ac 92 2 v' (n+1) (xs++[aK t,aJ aY 0 0])/\fC w w' (λj=>j=bp\/aX j=aI C):=by
 have ay:=(zg A).1;have h0:aE w (Ad bp 0)=aX (aO aR st):=zc A;have h2:aE w (Ad bp 2)=aX C:=zc A;have iz:(st == 3)=false:=by simp[bk]
 have⟨i0,hi,ch,cn,ck⟩:=dL Tryz.h;unfold fY iH;obtain⟨a,c,rfl⟩:∃a c,C=aJ a n c:=by obtain⟨_,⟨hv,hn⟩|⟨g,cap,ag,hv,_⟩⟩:=M;{exact⟨aY,0,by rw[hv,hn]⟩};{exact⟨_,_,hv⟩}
 have Qhg:=Qh M A (by decide);obtain⟨W0,au⟩:=aC ((w.alloc (aP #[aO aR k,aK t,aO aR p,aO aR r] 191)).drew);have be:cT w.heap.size w W0:=au▸((bC _ w).l zl _).drew
 have cw:W0.heap.size=w.heap.size+1:=by rw[<-au];show (w.alloc _).heap.size=_;simp
 have e5:=aA λW=>Ct t W ht;have G:Hid (∀W1,cT W0.heap.size W0 W1->aE W1 (Ad bp 0)=aX (aO aR st)/\aE W1 (Ad bp 2)=aX (aJ a n c)/\W1.heap.size≠bp/\aH W1 ac 92 2 (aJ a n c) n xs/\ac<=W1.heap.size):=by intro W1 h1;have z:=be.t (h1.m (by omega));have bj:=z.s;exact⟨(z.cell (p:=⟨bp,0,aY⟩) ay).t h0,(z.cell (p:=⟨bp,2,aY⟩) ay).t h2,by omega,qh M z,by omega⟩
 have hG:Hid (∀W1 O w1,cT W0.heap.size W0 W1->(W1.alloc O).grownBy w1 (aI (aJ a n c))->
   w1.heap[bp]?=cC #[aO aR st,vr,aJ a n c,vv] 179/\fC w w1 (λj=>j=bp\/aX j=aI (aJ a n c))):=by
  intro W1 O w1 h1 hg;have z:=be.t (h1.m (by omega));have hc:=((fC.d _ z).alloc _).o hg (λk e _=>e.s);exact⟨(hc.h bp ay (λe=>Qhg bp e.s rfl)).t A,hc.mono (λ_ _ e=>aU e)⟩
 have b8:∀u∈[aK t,aJ aY 0 0],u.oneCell'=true:=by simp[bL]
 have ak:n+1<=maxLen:=by unfold eC;omega
 have aw:(n+1)*40<=140737488355328:=by omega
 have⟨z0,z2,il,_,_⟩:=G.o W0 zr;have zt:aE W0 (Ad w.heap.size 1)=aX (aK t):=by rw[<-au];simp
 clear A be cw M;go_enter Tryz.func233,Tryz.ntmps233;go_wp2;go_region_law (first|(refine ws rfl (.tmp 31) (.tmp 36) 134 rfl ac 92 i0 (aL #[aK ⟨#[]⟩,aJ aY 0 0]) 2 40 Tryz.underlying134 hi ch cn ck rfl (by decide) (aJ a n c) n xs (by simp[dC,dF]) (aH.l (G.o W1 E).2.2.2.1 _) ⟨W1.heap.size,0,aY⟩ 1 1 [aK t,aJ aY 0 0] (by simp[dC,dF]) rfl (cell_two_new W1 (aK t) (aJ aY 0 0) 92) b8 ak aw (by have:=(G.o W1 E).2.2.2.2;simp;omega) ?_;intro v' w1 ah ai;have⟨g',ap,cf⟩:=dK ah;subst cf;have⟨aj,cl⟩:=hG.o W1 _ w1 E ai;have c0:=cZz aj;have f0:aF w1 (Ad bp 0)=false:=(by simp[aF,aj]);have f2:aF w1 (Ad bp 2)=false:=(by simp[aF,aj]))|(go_simp;go_wp2_with (go_at_call 97;refine (e5.o _).m ?_;rintro e W1 ⟨rfl,E⟩;have⟨k0,k2,fp,_,_⟩:=G.o W1 E;have gq:=fp.symm;have f8:=λO=>dS ((bC W1.heap.size W1).l zl O) k2)));all_goals
  go_wp2
  go_end0
  exact⟨rfl,Sc g' (n+1) ap,Jg (Z:=#[aO aR 2,vr,Sc g' (n+1) ap,vv]) (by decide) (aS rfl) aj rfl ah cl⟩
def Bi{n:Nat}{v:Vq}(h:aH W b e 2 v n (ys++[x,y]))(hn:1<=n):∃g c z,v=Sc g n c/\W.heap[g]?=cC z e/\b<=g/\(n-1)*2+1<z.size/\z[(n-1)*2+1]?=aX y/\z.toList.take (n*2)=ys++[x,y]/\aD ys=(n-1)*2:=by
 obtain⟨O,⟨_,h0⟩|⟨g,A,z,hv,M,hw,h1,h2,E,G⟩⟩:=h
 .omega
 simp at O;have C:(n-1)*2+1<z.size:=by{rw[E];lia};refine⟨g,A,z,hv,hw,M,C,?_,G,by lia⟩;have:(z.toList.take (n*2))[(n-1)*2+1]?=aX y:=by{grind};rw[bH] at this;split at this;{grind};{cases this}
def KM{n:Nat}{v:Vq}(h:aH W b e 2 v n (ys++[x,y]))(hn:1<=n){g:Nat}(A:aI v=aX g):aH (W.setCell (Ad g ((n-1)*2+1)) z) b e 2 v n (ys++[x,z]):=by
 have⟨g',c,ag,hv,hw,hb,b4,hy,ht,hl⟩:=Bi h hn;rw[hv] at A;simp[aI] at A;subst A;obtain⟨h0,⟨cf,_⟩|⟨g2,hu,gt,E,aw,C,G,M,O,h4⟩⟩:=h
 .grind
 rw[hv] at E;cases E;rw[hw] at C;cases C;refine⟨by simpa using h0,aU ⟨g',c,ag.setIfInBounds ((n-1)*2+1) z,hv,hb,qw hw _ _,G,M,by simpa using O,?_⟩⟩;rw[Array.toList_setIfInBounds,List.take_set,ht];rw[List.set_append_right _ _ (by lia),show (n-1)*2+1-aD ys=1 by lia];rfl
def uY(t:Tm)(w:Wq):Cs 139 #[aL #[aK t.c,aO aR t.d]] w λe w'=>e=aQ (aM t.c.toList.isEmpty)/\cT w.heap.size w w':=by go_enter Tryz.func139,Tryz.ntmps139;go_wp2;go_ret;exact⟨rfl,(bC _ w).l zl _⟩
def OQ{n:Nat}{v:Vq}(h:aH W b e size v n xs):∃a c,v=aJ a n c:=by
 obtain⟨_,⟨A,E⟩|⟨g,z,C,A,_⟩⟩:=h
 .grind
 grind
def Dp(vs:List ByteArray)(x:ByteArray):(dJ vs x<0/\fW vs x=aD vs)\/(dJ vs x=(fW vs x:Int)/\fW vs x<aD vs):=by
 have G:∀(vs:List ByteArray)(i:Nat),(dD vs x i<0/\fW vs x=aD vs)\/(dD vs x i=((i+fW vs x:Nat):Int)/\fW vs x<aD vs):=by
  intro vs
  induction vs with
  |nil=>intro i;left;simp[dD,fW]
  |cons y vs ih=>
   intro i;by_cases C:y=x
   .right;subst C;have z:fQ y y=true:=by{unfold fQ;simp};simp[dD,fW,bT,z]
   .have z:fQ x y=false:=by
     cases h:fQ x y with
     |false=>rfl
     |true=>exact absurd ((yY x y).1 h).s C
    obtain⟨A,E⟩|⟨A,E⟩:=ih (i+1)
    .left;refine⟨by simp only[dD,if_neg C];exact A,?_⟩;unfold fW at E ⊢;simp[bT,z,E]
    .right;refine⟨?_,?_⟩;{simp only[dD,if_neg C];rw[A];unfold fW;simp[bT,z];lia};{grind [fW]}
 obtain h|⟨z,A⟩:=G vs 0
 .left;exact h
 .right;exact⟨by unfold dJ;rw[z];simp,A⟩
def KQ(bp:Nat)(t:ByteArray)(p r:Int)(ht:t.size<=1000000)(w:Wq):Cs 261 #[Pt bp,fY 1 t p r] w λe w'=>e=aQ (aL #[aK t,aO aR 0])/\cT w.heap.size w w':=by
 have M:=aA λW=>Ct t W ht;unfold fY iH;obtain⟨W0,z⟩:=aC ((w.alloc (aP #[aO aR 1,aK t,aO aR p,aO aR r] 191)).alloc (aP #[aK ⟨#[]⟩,aO aR 0] 166));have C:cT w.heap.size w W0:=z▸((bC _ w).l zl _).l (by simp) _
 have A:W0.heap[w.heap.size+1]?=cC #[aK ⟨#[]⟩,aO aR 0] 166:=by rw[<-z];have:=zn (w.alloc (aP #[aO aR 1,aK t,aO aR p,aO aR r] 191)) (aP #[aK ⟨#[]⟩,aO aR 0] 166);rwa[bG] at this
 have O:Hid (∀W1,cT W0.heap.size W0 W1->W1.heap[w.heap.size+1]?=cC #[aK ⟨#[]⟩,aO aR 0] 166/\cT w.heap.size w W1):=λW1 E=>⟨(E.b _ (zg A).1).t A,C.t (E.m C.s)⟩;have z0:aE W0 (Ad w.heap.size 0)=aX (aO aR 1):=by rw[<-z];simp
 have z1:aE W0 (Ad w.heap.size 1)=aX (aK t):=by rw[<-z];simp
 go_enter dZ,dV;go_wp2_with (go_at_call 97;refine (M.o _).m ?_;rintro e W1 ⟨rfl,G⟩;have⟨kx,kb⟩:=O.o W1 G;have k0:aE W1 (Ad (w.heap.size+1) 0)=aX (aK ⟨#[]⟩):=(by simp[aE,kx]);have k1:aE W1 (Ad (w.heap.size+1) 1)=aX (aO aR 0):=(by simp[aE,kx]);have f0:aF W1 (Ad (w.heap.size+1) 0)=false:=(by simp[aF,kx]);have f1:aF W1 (Ad (w.heap.size+1) 1)=false:=(by simp[aF,kx]));(try simp only[Exit.inBlock,Exit.then]);refine cZ (v:=aL #[aK t,aO aR 0]) (by simp[results,dO,go_sem,k0,k1]) rfl ?_;exact⟨rfl,(kb.c (p:=⟨w.heap.size+1,0,aY⟩) (by simp) _).c (p:=⟨w.heap.size+1,1,aY⟩) (by simp) _⟩
def N0(bp:Nat)(st:Int)(vr va vv:Vq)(vs:List ByteArray)(bS:Nat)(k:Int)(t:ByteArray)(p r:Int)(hk:k≠1)(hl:aD vs<=100)(w:Wq)(el:bS<=w.heap.size)(M:w.heap[bp]?=cC #[aO aR st,vr,va,vv] 179)(C:aH w bS 9 1 vv (aD vs) (vs.map aK)):Cs 261 #[Pt bp,fY k t p r] w λe w'=>e=aQ (aL #[aK ⟨#[]⟩,aO aR (fW vs t)])/\
   ∃ao,w'.heap[bp]?=cC #[aO aR st,vr,va,ao] 179/\aH w' bS 9 1 ao (aD (Qs vs t)) ((Qs vs t).map aK)/\fC w w' (λj=>j=bp\/aX j=aI vv):=by
 have ay:=(zg M).1;have e7:(k == 1)=false:=by simp[hk]
 obtain⟨a,c,rfl⟩:=OQ C;have Qhg:=Qh C M (by decide);have⟨i0,hi,ch,cn,ck⟩:=dL Tryz.d;unfold fY iH;obtain⟨W0,au⟩:=aC ((w.alloc (aP #[aO aR k,aK t,aO aR p,aO aR r] 191)).alloc (aP #[aK ⟨#[]⟩,aO aR 0] 166));have A:cT w.heap.size w W0:=au▸((bC _ w).l zl _).l (by simp) _
 have cw:W0.heap.size=w.heap.size+2:=by rw[<-au];simp
 have z:W0.heap[w.heap.size+1]?=cC #[aK ⟨#[]⟩,aO aR 0] 166:=by rw[<-au];have:=zn (w.alloc (aP #[aO aR k,aK t,aO aR p,aO aR r] 191)) (aP #[aK ⟨#[]⟩,aO aR 0] 166);rwa[bG] at this
 have z0:aE W0 (Ad w.heap.size 0)=aX (aO aR k):=by rw[<-au];simp
 have z1:aE W0 (Ad w.heap.size 1)=aX (aK t):=by rw[<-au];simp
 have ey:aE w (Ad bp 3)=aX (aJ a (aD vs) c):=zc M;have h3:aE W0 (Ad bp 3)=aX (aJ a (aD vs) c):=(A.cell (p:=⟨bp,3,aY⟩) ay).t ey;have r0:aE W0 (Ad (w.heap.size+1) 0)=aX (aK ⟨#[]⟩):=zc z;have r1:aE W0 (Ad (w.heap.size+1) 1)=aX (aO aR 0):=zc z;have f0:=fZz z
 have ew:=qh C (A.drew);have G:=aA (Jl ew (by omega) t);have Qkq:=(A.b bp ay).t M;obtain⟨dm,d6⟩|⟨Qd3,d6⟩:=Dp vs t
 .have E:Hid (Qs vs t=vs++[t]):=by{show _=_;unfold Qs;rw[if_neg (by omega)]};have Qd:=aA d6;generalize hix:dJ vs t=ix at *;have b4:=dm;have hA:Hid (aH (W0.alloc (aP #[aK t] 9)).drew.drew bS 9 1 (aJ a (aD vs) c) (aD vs) (vs.map aK)):=qh C ((A.l (by omega) _).drew).drew;have hN:Hid (∀j u,[aK t][j]?=aX u->aE (W0.alloc (aP #[aK t] 9)).drew.drew ((⟨W0.heap.size,0,aY⟩:dH).add j)=aX u):=λj u hj=>cell_one_new W0 _ _ j u hj;have hG:Hid (∀w1,(W0.alloc (aP #[aK t] 9)).drew.drew.grownBy w1 (aI (aJ a (aD vs) c))->
    w1.heap[bp]?=cC #[aO aR st,vr,va,aJ a (aD vs) c] 179/\w1.heap[w.heap.size+1]?=cC #[aK ⟨#[]⟩,aO aR 0] 166/\fC w w1 (λj=>j=bp\/aX j=aI (aJ a (aD vs) c))):=by
   intro w1 hg;have ce:=((((fC.j W0 _).alloc _).drew).drew).o hg (λk e _=>e.s);have hc:=(fC.d _ A).trans ce;refine⟨(hc.h bp ay (λe=>Qhg bp e.s rfl)).t M,(ce.h _ (zg z).1 (λe=>?_)).t z,hc.mono (λ_ _ e=>aU e)⟩;have⟨_,iw,_⟩:=Qr C _ e.s;omega
  have ak:aD vs+1<=maxLen:=by{unfold eC;omega};have aw:(aD vs+1)*16<=140737488355328:=by{omega};have c4:Hid (bS<=(W0.alloc (aP #[aK t] 9)).drew.drew.heap.size):=by{show bS<=(W0.alloc (aP #[aK t] 9)).heap.size;simp;omega};have ij:=λO=>dS ((bC W0.heap.size W0).l zl O) h3;have n4:w.heap.size+1≠bp:=by{omega};have n5:bp≠w.heap.size+1:=by{omega};clear M A cw C ew z ey dm d6 hix Qkq;go_enter dZ,dV;go_wp2;go_region_with (go_at_call 191;refine Calls.m G.o ?_;rintro e w' ⟨rfl,rfl⟩);all_goals
   go_wp2
   go_region_law (refine ws rfl (.tmp 31) (.tmp 34) 22 rfl bS 9 i0 (aK ⟨#[]⟩) 1 16 Tryz.underlying22 hi ch cn ck rfl (by decide) (aJ a (aD vs) c) (aD vs) (vs.map aK) (by simp[dC,dF]) hA.o ⟨W0.heap.size,0,aY⟩ 1 1 [aK t] (by simp[dC,dF]) rfl hN.o (by simp[bL]) ak aw c4.o ?_;intro v' w1 ah ai;have⟨g',ap,cf⟩:=dK ah;subst cf;have⟨aj,dh,cl⟩:=hG.o w1 ai;have d3:aE w1 (Ad bp 3)=aX (aJ a (aD vs) c):=(by simp[aE,aj]);have e3:aF w1 (Ad bp 3)=false:=(by simp[aF,aj]);have q0:aE w1 (Ad (w.heap.size+1) 0)=aX (aK ⟨#[]⟩):=(by simp[aE,dh]);have q1:aE w1 (Ad (w.heap.size+1) 1)=aX (aO aR 0):=(by simp[aE,dh]);have q2:aF w1 (Ad (w.heap.size+1) 0)=false:=(by simp[aF,dh]);have q3:aF w1 (Ad (w.heap.size+1) 1)=false:=(by simp[aF,dh]))
   all_goals
    go_wp2
    (try simp only[Exit.inBlock,Exit.then])
    refine cZ (v:=aL #[aK ⟨#[]⟩,aO aR (aD vs)]) (by simp[results,dO,go_sem,q0,q1,n4,n5]) rfl ?_;rw[Qd.o,E.o];refine⟨rfl,Sc g' (aD vs+1) ap,?_,?_,?_⟩;{exact (bD _ _ _ _ n5).t ((bD _ _ _ _ n5).t (qw aj 3 _))};{have:=Qj (Qj (Qj ah ⟨bp,3,aY⟩ (Sc g' (aD vs+1) ap) (Qh ah aj (by decide))) ⟨w.heap.size+1,0,aY⟩ (aK ⟨#[]⟩) (Qh ah dh (by decide))) ⟨w.heap.size+1,1,aY⟩ (aO aR (aD vs)) (Qh ah dh (by decide));simpa using this};{exact ((cl.i (Ad bp 3) _ (λ_=>aS rfl)).i (Ad (w.heap.size+1) 0) _ (λh=>absurd h (by simp))).i (Ad (w.heap.size+1) 1) _ (λh=>absurd h (by simp))}
 have E:Hid (Qs vs t=vs):=by{show _=_;unfold Qs;rw[if_pos d6]};rw[Qd3] at G;generalize fW vs t=sn at *;have n5:bp≠w.heap.size+1:=by{omega};have eo:cT w.heap.size w ((W0.drew.setCell (Ad (w.heap.size+1) 0) (aK ⟨#[]⟩)).setCell (Ad (w.heap.size+1) 1) (aO aR sn)):=(A.drew.c (p:=⟨w.heap.size+1,0,aY⟩) (by simp) _).c (p:=⟨w.heap.size+1,1,aY⟩) (by simp) _;have gv:=aA (qh C eo);have gi:Hid (fC w ((W0.drew.setCell (Ad (w.heap.size+1) 0) (aK ⟨#[]⟩)).setCell (Ad (w.heap.size+1) 1) (aO aR sn)) (λj=>j=bp\/aX j=aI (aJ a (aD vs) c))):=fC.d _ eo;clear eo;clear M A cw C ew z ey Qd3;go_enter dZ,dV;go_wp2;go_region_with (go_at_call 191;refine Calls.m G.o ?_;rintro e w' ⟨rfl,rfl⟩);all_goals
  go_wp2
  (try simp only[Exit.inBlock,Exit.then])
  refine cZ (v:=aL #[aK ⟨#[]⟩,aO aR sn]) (by simp[results,dO,go_sem,r0,r1]) rfl ?_;rw[E.o];refine⟨rfl,aJ a (aD vs) c,?_,?_,?_⟩;{exact (bD _ _ _ _ n5).t ((bD _ _ _ _ n5).t Qkq)};{exact gv.o};{exact gi.o}
def N2{w w3:Wq}{g n k M c:Nat}{O z:Vq}{ag:Array Vq}{zs us:List Vq}{rel:Vq}(hn:1<=n)(G:w3.heap[bp]?=cC #[aO aR 3,O,Sc g n c,z] 179)(hg:w3.heap[g]?=cC ag 92)(E:aH w3 ac 92 2 (Sc g n c) n (ys++[rel,y]))(ik:aH w3 ae 166 2 v' k zs)(fa:aH w3 bS 9 1 z M us)(hc:fC w w3 (λj=>j=bp\/aX j=aI (aJ (aX ⟨g,0,aY⟩) n c)\/ex j)):((w3.setCell (Ad g ((n-1)*2+1)) v').setCell (Ad bp 0) (aO aR 4)).heap[bp]?=cC #[aO aR 4,O,Sc g n c,z] 179/\
  aH ((w3.setCell (Ad g ((n-1)*2+1)) v').setCell (Ad bp 0) (aO aR 4)) ac 92 2 (Sc g n c) n (ys++[rel,v'])/\
  aH ((w3.setCell (Ad g ((n-1)*2+1)) v').setCell (Ad bp 0) (aO aR 4)) ae 166 2 v' k zs/\
  aH ((w3.setCell (Ad g ((n-1)*2+1)) v').setCell (Ad bp 0) (aO aR 4)) bS 9 1 z M us/\
  fC w ((w3.setCell (Ad g ((n-1)*2+1)) v').setCell (Ad bp 0) (aO aR 4)) (λj=>j=bp\/aX j=aI (aJ (aX ⟨g,0,aY⟩) n c)\/ex j):=by
 have A:=Qh E G (by lia) g rfl;refine⟨qw ((bD _ _ _ bp (λe=>A e.s)).t G) 0 _,?_,?_,?_,(hc.i (Ad g ((n-1)*2+1)) v' (λ_=>aU (aS rfl))).i (Ad bp 0) _ (λ_=>aS rfl)⟩
 .exact Qj (KM E hn rfl) _ _ (λg' C=>by simp[aI] at C;subst C;exact A)
 .grind [Qj,Qh]
 grind [Qj,Qh]
def Kf(bp:Nat)(st:Int)(G E z:Vq)(vs:List ByteArray)(bS:Nat)(k:Int)(t:ByteArray)(p r:Int)(hk:k=1\/k=2)(ht:t.size<=1000000)(hl:aD vs<=100)(w:Wq)(el:bS<=w.heap.size)(C:w.heap[bp]?=cC #[aO aR st,G,E,z] 179)(O:aH w bS 9 1 z (aD vs) (vs.map aK)):Cs 261 #[Pt bp,fY k t p r] w λe w'=>e=aQ (aL #[aK (jH vs k t).c,aO aR (jH vs k t).d])/\
   ∃M,w'.heap[bp]?=cC #[aO aR st,G,E,M] 179/\aH w' bS 9 1 M (aD (kG vs k t)) ((kG vs k t).map aK)/\fC w w' (λj=>j=bp\/aX j=aI z):=by
 obtain rfl|rfl:=hk
 .refine (KQ bp t p r ht w).m ?_;rintro e w' ⟨rfl,A⟩;exact⟨rfl,z,(A.b bp (zg C).1).t C,qh O A,fC.d _ A⟩
 exact N0 bp st G E z vs bS 2 t p r (by lia) hl w el C O
def Nh(bp:Nat)(G va C:Vq)(n ac ae bS:Nat)(ys:List Vq)(rel:Vq)(aa:Option dH)(m z:Nat)(zs:List Vq)(vs:List ByteArray)(k:Int)(t:ByteArray)(p r:Int)(b9:k=1\/k=2)(dw:1<=n)(hn:n<=1000)(hm:m<=1000)(cu:aD vs<=100)(ht:t.size<=1000000)(w:Wq)(gm:ae<=w.heap.size)(el:bS<=w.heap.size)(hh:w.heap[bp]?=cC #[aO aR 3,G,va,C] 179)(qt:aH w ac 92 2 va n (ys++[rel,aJ aa m z]))(cp:aH w ae 166 2 (aJ aa m z) m zs)(hV:aH w bS 9 1 C (aD vs) (vs.map aK)):Cs 233 #[Pt bp,fY k t p r] w λe w'=>e=aQ (aN #[])/\
   ∃v' A,w'.heap[bp]?=cC #[aO aR 4,G,va,A] 179/\aH w' ac 92 2 va n (ys++[rel,v'])/\aH w' ae 166 2 v' (m+1) (zs++[aK (jH vs k t).c,aO aR (jH vs k t).d])/\
    aH w' bS 9 1 A (aD (kG vs k t)) ((kG vs k t).map aK)/\
    fC w w' (λj=>j=bp\/aX j=aI va\/aX j=aI (aJ aa m z)\/aX j=aI C):=by
 obtain⟨TN,eg⟩:=aC ((jH vs k t).c);obtain⟨TM,ed⟩:=aC ((jH vs k t).d);obtain⟨M,es⟩:=aC (kG vs k t);rw[eg,ed,es];have ay:=(zg hh).1;have h0:aE w (Ad bp 0)=aX (aO aR 3):=zc hh;obtain⟨g,c,ag,rfl,hg,gu,b4,hy,ft,g8⟩:=Bi qt dw;have dx:=(zg hg).1;have je:=Qh qt hh (by decide) g rfl;have fo:(w.alloc (aP (iH k t p r) 191)).heap[bp]?=cC #[aO aR 3,G,Sc g n c,C] 179:=(bF _ _ _ ay).t hh;have c8:=C8 bp 3 G C g n c dw hn _ fo;have⟨i0,hi,ch,cn,ck⟩:=dL Tryz.i;unfold fY;unfold iH at c8 ⊢;go_enter Tryz.func233,Tryz.ntmps233;go_wp2_with fail;refine c8.m ?_;rintro e w2 ⟨rfl,q,da⟩;have dd:fC w w2 (λ_=>False):=da▸(⟨rfl,rfl,rfl,by show _<=(w.alloc _).heap.size;simp,λj hj _=>bF _ _ j hj⟩)
 have fg:w2.heap[w.heap.size]?=cC #[aO aR k,aK t,aO aR p,aO aR r] 191:=da▸zn w _
 clear da c8 fo;have em:=(dd.h bp ay (λh=>h)).t hh;have dt:=(dd.h g dx (λh=>h)).t hg;have E:∀(g':Nat) (c':Array Vq) (T:cW),w.heap[g']?=cC c' T->w2.heap[g']?=cC c' T:=λg' c' T af=>(dd.h g' (zg af).1 (λh=>h)).t af;have Qak:=Qe qt (λg' c' cb af=>E _ _ _ af);have Qal:=Qe cp (λg' c' cb af=>E _ _ _ af);have fq:=Qe hV (λg' c' cb af=>E _ _ _ af);have ip:=dd.size;clear hh hg qt cp h0 hV E;have c0:∀j,aE w2 (Ad w.heap.size j)=([aO aR k,aK t,aO aR p,aO aR r]:List Vq)[j]?:=λj=>by simp[aE,fg]
 have c2:aE w2 (Ad g ((n-1)*2+1))=aX (aJ aa m z):=by simp[aE,dt,hy]
 have Qkd:Hid (∀W,cT w2.heap.size w2 W->Cs 261 #[Pt bp,aL #[aO aR k,aK t,aO aR p,aO aR r]] W λe W1=>e=aQ (aL #[aK TN,aO aR TM])/\
   ∃A,W1.heap[bp]?=cC #[aO aR 3,G,Sc g n c,A] 179/\W1.heap[g]?=cC ag 92/\aH W1 ac 92 2 (Sc g n c) n (ys++[rel,aJ aa m z])/\aH W1 ae 166 2 (aJ aa m z) m zs/\
    aH W1 bS 9 1 A (aD M) (M.map aK)/\ae<=W1.heap.size/\fC w W1 (λj=>j=bp\/aX j=aI (aJ (aX ⟨g,0,aY⟩) n c)\/aX j=aI (aJ aa m z)\/aX j=aI C)):=by
  intro W hb;have E:∀(g':Nat) (c':Array Vq) (T:cW),w2.heap[g']?=cC c' T->W.heap[g']?=cC c' T:=λg' c' T af=>(hb.b g' (zg af).1).t af;have fv:=Qe fq (λg' c' cb af=>E _ _ _ af);have c9:=hb.s;refine (Kf bp 3 G _ C vs bS k t p r b9 ht cu W (by omega) (E _ _ _ em) fv).m ?_;rintro e W1 ⟨rfl,A,q1,q2,q3⟩
  have cq:∀(g':Nat)(c':Array Vq)(T:cW),T≠179->T≠9->w2.heap[g']?=cC c' T->W1.heap[g']?=cC c' T:=by
   intro g' c' T t1 t2 af;have hW:=E _ _ _ af;rw[q3.h g' (zg hW).1 (λe=>?_)];{exact hW}
   .obtain rfl|e:=e
    .rw[E _ _ _ em] at hW;cases hW;exact t1 rfl
    .have⟨_,_,d,fz,hd⟩:=Qr fv _ e.s;rw[hW] at hd;cases hd;exact t2 rfl
  rw[eg,ed];rw[es] at q2;refine⟨rfl,A,q1,cq _ _ _ (by decide) (by decide) dt,Qe Qak (λg' c' cb af=>cq _ _ _ (by decide) (by decide) af),Qe Qal (λg' c' cb af=>cq _ _ _ (by decide) (by decide) af),q2,by have:=q3.size;omega,?_⟩;refine (dd.mono (λ_ _ e=>e.elim)).trans ((fC.d _ hb).trans (q3.mono (λj _ e=>?_)));obtain e|e:=e
  .exact aS e
  .exact aU (aU (aU e))
 have hG:Hid (∀W1 O w3 A,W1.heap[bp]?=cC #[aO aR 3,G,Sc g n c,A] 179->W1.heap[g]?=cC ag 92->aH W1 ac 92 2 (Sc g n c) n (ys++[rel,aJ aa m z])->aH W1 ae 166 2 (aJ aa m z) m zs->
    aH W1 bS 9 1 A (aD M) (M.map aK)->fC w W1 (λj=>j=bp\/aX j=aI (aJ (aX ⟨g,0,aY⟩) n c)\/aX j=aI (aJ aa m z)\/aX j=aI C)->(W1.alloc O).grownBy w3 (aI (aJ aa m z))->
   w3.heap[bp]?=cC #[aO aR 3,G,Sc g n c,A] 179/\w3.heap[g]?=cC ag 92/\aH w3 ac 92 2 (Sc g n c) n (ys++[rel,aJ aa m z])/\aH w3 bS 9 1 A (aD M) (M.map aK)/\fC w w3 (λj=>j=bp\/aX j=aI (aJ (aX ⟨g,0,aY⟩) n c)\/aX j=aI (aJ aa m z)\/aX j=aI C)):=by
  intro W1 O w3 A q1 q2 q3 q4 q5 q6 du;have hc:=((fC.j W1 _).alloc _).o du (λk e _=>e.s);have cq:∀(g':Nat)(c':Array Vq)(T:cW),T≠166->W1.heap[g']?=cC c' T->w3.heap[g']?=cC c' T:=by{intro g' c' T t1 af;exact (hc.h g' (zg af).1 (λe=>Qh q4 af t1 g' e.s rfl)).t af};exact⟨cq _ _ _ (by decide) q1,cq _ _ _ (by decide) q2,Qe q3 (λg' c' cb af=>cq _ _ _ (by decide) af),Qe q5 (λg' c' cb af=>cq _ _ _ (by decide) af),q6.trans (hc.mono (λj _ e=>aU (aU (aS e))))⟩
 have b8:∀u∈[aK TN,aO aR TM],u.oneCell'=true:=by simp[bL]
 have ak:m+1<=maxLen:=by unfold eC;omega
 have aw:(m+1)*24<=140737488355328:=by omega
 clear Qak Qal fq em dt dd fg eg ed es;go_wp2;go_region_law (first|(refine ws rfl (.tmp 16) (.tmp 20) 90 rfl ae 166 i0 (aL #[aK ⟨#[]⟩,aO aR 0]) 2 24 Tryz.underlying90 hi ch cn ck rfl (by decide) (aJ aa m z) m zs (by simp[dC,dF]) (aH.l z4 _) ⟨W1.heap.size,0,aY⟩ 1 1 [aK TN,aO aR TM] (by simp[dC,dF]) rfl (cell_two_new W1 (aK TN) (aO aR TM) 166) b8 ak aw (by simp;omega) ?_;intro v' w3 fe c3;have⟨g',ap,cf⟩:=dK fe;subst cf;have⟨aj,eb,d5,fa,cl⟩:=hG.o W1 _ w3 A z1 z2 z3 z4 z5 z7 c3;have d0:aE w3 (Ad bp 0)=aX (aO aR 3):=(by simp[aE,aj]);have d2:aE w3 (Ad g ((n-1)*2+1))=aX (aJ aa m z):=(by simp[aE,eb,hy]);have f0:aF w3 (Ad bp 0)=false:=(by simp[aF,aj]);have f2:aF w3 (Ad g ((n-1)*2+1))=false:=(by simp[aF,eb]))|(go_simp;(try go_wp2_with fail);refine (Qkd.o _ (Below.drew (bC w2.heap.size w2))).m ?_;rintro e W1 ⟨rfl,A,z1,z2,z3,z4,z5,z6,z7⟩;have k2:aE W1 (Ad g ((n-1)*2+1))=aX (aJ aa m z):=(by simp[aE,z2,hy]);have f8:=λO=>dS ((bC W1.heap.size W1).l zl O) k2;have fp:g≠W1.heap.size:=(by have:=(zg z2).1;omega);try go_wp2));all_goals
  go_wp2;refine cZ (results_none rfl _ _ _) rfl ?_;exact⟨rfl,Sc g' (m+1) ap,A,N2 dw aj eb d5 fe fa cl⟩
theorem FD(w:Wq)(a b d:Vq)(t:cW):∀j u,[a,b,d][j]?=aX u->aE (w.alloc (aP #[a,b,d] t)) ((⟨w.heap.size,0,aY⟩:dH).add j)=aX u:=by
 intro j u z;match j,z with
 |0,z=>simp at z;subst z;simp[Addr.add]
 |1,z=>simp at z;subst z;simp[Addr.add]
 |2,z=>simp at z;subst z;simp[Addr.add]
 |j+3,z=>simp at z
def tG(g n c:Nat):Vq:=aJ (if c=1 then aX ⟨g,0,aY⟩ else aX ⟨g,2,aY⟩) (n-1) (c-1)
def DL{w:Wq}{n:Nat}{st:Int}(A:w1.heap[bp]?=cC #[aO aR st,x,y,z] 179)(C:aH w1 ab 136 3 v' n xs)(E:fC w w1 (λj=>j=bp\/ex j)):((((w1.setCell (Ad bp 1) v').setCell (Ad bp 2) (aJ aY 0 0)).setCell (Ad bp 3) (aJ aY 0 0)).setCell (Ad bp 0) (aO aR 0)).heap[bp]?=cC #[aO aR 0,v',aJ aY 0 0,aJ aY 0 0] 179/\
  aH ((((w1.setCell (Ad bp 1) v').setCell (Ad bp 2) (aJ aY 0 0)).setCell (Ad bp 3) (aJ aY 0 0)).setCell (Ad bp 0) (aO aR 0)) ab 136 3 v' n xs/\
  fC w ((((w1.setCell (Ad bp 1) v').setCell (Ad bp 2) (aJ aY 0 0)).setCell (Ad bp 3) (aJ aY 0 0)).setCell (Ad bp 0) (aO aR 0)) (λj=>j=bp\/ex j):=by refine⟨qw (qw (qw (qw A 1 v') 2 _) 3 _) 0 _,?_,(((E.i (Ad bp 1) _ (λ_=>aS rfl)).i (Ad bp 2) _ (λ_=>aS rfl)).i (Ad bp 3) _ (λ_=>aS rfl)).i (Ad bp 0) _ (λ_=>aS rfl)⟩;exact Qj (Qj (Qj (Qj C _ _ (Qh C A (by lia))) _ _ (Qh C A (by lia))) _ _ (Qh C A (by lia))) _ _ (Qh C A (by lia))
def JA(bp:Nat)(st:Int)(M:Option dH)(xn O:Nat)(ar:Option dH)(z A g ab:Nat)(xs:List Vq)(rel args:Vq)(hrel:∃s,rel=aK s)(ej:∃a m q,args=aJ a m q)(hr:z<=1000)(w:Wq)(dr:ab<=w.heap.size)(G:w.heap[bp]?=cC #[aO aR st,aJ ar z A,Sc g 1 1,aJ M xn O] 179)(ea:aE w (Ad g 0)=aX rel)(dn:aE w (Ad g 1)=aX args)(qt:aH w ab 136 3 (aJ ar z A) z xs):Cs 236 #[Pt bp] w λe w'=>e=aQ (aN #[])/\
   ∃v',w'.heap[bp]?=cC #[aO aR 0,v',aJ aY 0 0,aJ aY 0 0] 179/\aH w' ab 136 3 v' (z+1) (xs++[rel,args,tG g 1 1])/\
    fC w w' (λj=>j=bp\/aX j=aI (aJ ar z A)):=by
 obtain⟨rs,rfl⟩:=hrel;obtain⟨aa,C,E,rfl⟩:=ej;have ay:=(zg G).1;have c0:∀j,aE w (Ad bp j)=([aO aR st,aJ ar z A,Sc g 1 1,aJ M xn O]:List Vq)[j]?:=λj=>by simp[aE,G]
 have⟨i0,hi,ch,cn,ck⟩:=dL Tryz.j;have hA:Hid (aH (w.alloc (aP #[aK rs,aJ aa C E,Sc g 0 0] 136)) ab 136 3 (aJ ar z A) z xs):=qt.l _;have hN:Hid (∀j u,[aK rs,aJ aa C E,Sc g 0 0][j]?=aX u->aE (w.alloc (aP #[aK rs,aJ aa C E,Sc g 0 0] 136)) ((⟨w.heap.size,0,aY⟩:dH).add j)=aX u):=FD w _ _ _ _;have hG:Hid (∀w1,(w.alloc (aP #[aK rs,aJ aa C E,Sc g 0 0] 136)).drew.grownBy w1 (aI (aJ ar z A))->
   w1.heap[bp]?=cC #[aO aR st,aJ ar z A,Sc g 1 1,aJ M xn O] 179/\fC w w1 (λj=>j=bp\/aX j=aI (aJ ar z A))):=by
  intro w1 du;have hc:=(((fC.j w _).alloc _).drew).o du (λk e _=>e.s);exact⟨(hc.h bp ay (λe=>Qh qt G (by decide) bp e.s rfl)).t G,hc.mono (λ_ _ e=>aU e)⟩
 have b8:∀u∈[aK rs,aJ aa C E,Sc g 0 0],u.oneCell'=true:=by simp[bL]
 have ak:z+1<=maxLen:=by unfold eC;omega
 have aw:(z+1)*64<=140737488355328:=by omega
 have c4:Hid (ab<=(w.alloc (aP #[aK rs,aJ aa C E,Sc g 0 0] 136)).drew.heap.size):=by show ab<=(w.alloc (aP #[aK rs,aJ aa C E,Sc g 0 0] 136)).heap.size;simp;omega
 clear G qt;go_enter Tryz.func236,Tryz.ntmps236;go_wp2;go_region_law (refine ws rfl (.tmp 6) (.tmp 19) 75 rfl ab 136 i0 (aL #[aK ⟨#[]⟩,aJ aY 0 0,aJ aY 0 0]) 3 64 eE hi ch cn ck rfl (by decide) (aJ ar z A) z xs (by simp[dC,dF]) hA.o ⟨w.heap.size,0,aY⟩ 1 1 [aK rs,aJ aa C E,Sc g 0 0] (by simp[dC,dF]) rfl hN.o b8 ak aw c4.o ?_;intro v' w1 ah ai;have⟨g',ap,cf⟩:=dK ah;subst cf;have⟨aj,cl⟩:=hG.o w1 ai;have d0:=cZz aj;have e3:=fZz aj;have e2:aF w1 (Ad bp 2)=false:=(by simp[aF,aj]));all_goals
  clear hA hN hG c4 b8 ai ak aw ea dn;go_wp2
  go_end0
  refine⟨rfl,Sc g' (z+1) ap,?_⟩;have ek:tG g 1 1=Sc g 0 0:=rfl;rw[ek];exact DL aj ah cl
def gQ(ab bS:Nat)(W:Wq)(bp:Nat)(s:fT):Prop:=
 ∃(vr va vv:Vq) (ac ae:Nat),ab<=ac/\ab<=ae/\ac<=W.heap.size/\ae<=W.heap.size/\ab<=bp/\ab<=bS/\bS<=W.heap.size/\W.heap[bp]?=aX (aP #[aO aR s.d,vr,va,vv] 179)/\
  aH W bS 9 1 vv (aD s.c) (s.c.map aK)/\Qq W ab ac ae vr s.u/\AM W ac ae va s.f
def Hi(o:Obj):Prop:=∀c t fz,o=aP c t fz->t≠179/\t≠136/\t≠92/\t≠166/\t≠9
structure iE(ab bS:Nat)(W W':Wq):Prop where
 v:cT ab W W'
 u:∀(k:Nat) (o:Obj),W.heap[k]?=aX o->Hi o->W'.heap[k]?=aX o
 f:∀(k:Nat) (c:Array Vq) (fz:Nat×Nat),k<bS->W.heap[k]?=aX (aP c 9 fz)->W'.heap[k]?=aX (aP c 9 fz)
def iE.trans{A B C:Wq}(h:iE ab bS A B)(k:iE ab bS B C):iE ab bS A C:=⟨h.1.t k.1,λi o z G=>k.2 i o (h.2 i o z G) G,λi c E z M=>k.3 i c E z (h.3 i c E z M)⟩
def iE.h(h:fC W W' ex)(E:ab<=W.heap.size)(M:∀k,k<W.heap.size->ex k->ab<=k/\∃c t C,W.heap[k]?=aX (aP c t C)/\(t=179\/t=136\/t=92\/t=166\/(t=9/\bS<=k))):iE ab bS W W':=by
 refine⟨⟨h.os,h.tape,h.output,h.size,λk z=>h.h k (bI z E) (λe=>?_)⟩,λk o z G=>?_,λk c C O z=>?_⟩
 .grind
 .have A:=(zg z).1;rw[h.h k A (λe=>?_)];{exact z};have⟨_,c,t,C,hc,ht⟩:=M k A e;rw[z] at hc;cases hc;have:=G c t C rfl;obtain h|h|h|h|h:=ht<;>simp_all
 have A:=(zg z).1;rw[h.h k A (λe=>?_)];{exact z};{grind}
def iE.d(h:cT W.heap.size W W')(A:ab<=W.heap.size):iE ab bS W W':=
 ⟨h.m A,λk o z _=>(h.b k (zg z).1).t z,λk c C _ z=>(h.b k (zg z).1).t z⟩
def fC.c(h:fC W W' ex)(C:∀(k:Nat) (c:Array Vq),k<b->W.heap[k]?=cC c t->¬ex k):nR t b W W':=
 λk c A z=>(h.h k (zg z).1 (C k c A z)).t z
def Qq.o{v:Vq}(h:Qq W ab ac ae v l)(E:∀g c,aI v=aX g->W.heap[g]?=cC c 136->W'.heap[g]?=cC c 136)(C:nR 92 ac W W')(z:nR 166 ae W W'):Qq W' ab ac ae v l:=by have⟨qs,h1,h2,h3⟩:=h;exact⟨qs,h1,Qe h2 E,λq A=>⟨(h3 q A).1.o z,(h3 q A).2.o C z⟩⟩
def Qq.mono{A C:Nat}{v:Vq}(h:Qq W ab ac ae v l)(G:ac<=A)(z:ae<=C):Qq W ab A C v l:=by have⟨qs,h1,h2,h3⟩:=h;exact⟨qs,h1,h2,λq E=>⟨(h3 q E).1.mono z,(h3 q E).2.mono G z⟩⟩
def qe{n:Nat}{v:Vq}(h:aH W b e size v n xs){g:Nat}(z:aI v=aX g):b<=g/\∃c,W.heap[g]?=cC c e:=by
 obtain⟨_,⟨A,O⟩|⟨g',E,C,A,G,M,_⟩⟩:=h
 .rw[A] at z;simp[aI] at z
 rw[A] at z;simp[aI] at z;subst z;exact⟨G,C,M⟩
theorem qq{n:Nat}{v:Vq}(h:aH W b e size v n xs):∃a c,v=aJ a n c:=by
 obtain⟨_,⟨A,E⟩|⟨g,z,C,A,_⟩⟩:=h
 .grind
 grind
def gQ.n{s:fT}(h:gQ ab bS W bp s)(x:Int):gQ ab bS (W.setCell (Ad bp 0) (aO aR x)) bp {s with d:=x}/\iE ab bS W (W.setCell (Ad bp 0) (aO aR x)):=by
 have⟨vr,va,vv,ac,ae,h1,h2,h3,h4,h5,h6,h7,hh,hV,hR,hA⟩:=h;have A:∀(k:Nat)(c:Array Vq)(t:cW),t≠179->W.heap[k]?=cC c t->(W.setCell (Ad bp 0) (aO aR x)).heap[k]?=cC c t:=by intro k c t E z;rw[bD _ _ _ _ (λe=>?_)];{exact z};{grind}
 refine⟨⟨vr,va,vv,ac,ae,h1,h2,by simpa using h3,by simpa using h4,h5,h6,by simpa using h7,qw hh 0 _,Qe hV (λg c _ z=>A g c _ (by lia) z),hR.o (λg c _ z=>A g c _ (by lia) z) (λk c _ z=>A k c _ (by lia) z) (λk c _ z=>A k c _ (by lia) z),?_⟩,?_⟩
 .have⟨ps,e1,e2,e3,e4⟩:=hA;exact⟨ps,e1,Qe e2 (λg c _ z=>A g c _ (by lia) z),λp C=>(e3 p C).o (λk c _ z=>A k c _ (by lia) z),λp C=>Qe (e4 p C) (λg c _ z=>A g c _ (by lia) z)⟩
 refine iE.h ((fC.j W (λj=>j=bp)).i (Ad bp 0) _ (λ_=>rfl)) (by lia) (λk A e=>?_);subst e;exact⟨h5,_,_,_,hh,aS rfl⟩
def NZ(ab bS bp:Nat)(s:fT)(k:Int)(t:ByteArray)(ht:t.size<=1200)(p r:Int)(W:Wq)(hP:gQ ab bS W bp s)(b9:k=1\/k=2)(cu:aD s.c<=100)(co:aD s.f<=100)(h3:s.d=3->s.f≠[])(hm:∀a∈s.f,aD a.d<=100):Cs 233 #[Pt bp,fY k t p r] W λe W'=>e=aQ (aN #[])/\gQ ab bS W' bp (oQ s k t)/\iE ab bS W W':=by
 have⟨vr,va,vv,ac,ae,h1,h2,h4,h5,h6,bf,bc,hh,hV,hR,ps,e1,e2,e3,e4⟩:=hP;have bi:aD ps=aD s.f:=by grind
 by_cases bk:s.d=3;·-- a term more of the last atom
  have bd:=h3 bk;have cd:ps≠[]:=by{grind};obtain⟨bh,⟨G,lv⟩,rfl⟩:∃bh l,ps=bh++[l]:=⟨ps.dropLast,ps.getLast cd,(bE cd).s⟩;have O:=e4 (G,lv) (by simp);simp only[bQ] at e3;simp only at O;obtain⟨aa,ca,rfl⟩:=qq O;have iu:G∈s.f:=by{grind};rw[List.flatMap_append] at e2;have di:aH W ac 92 2 va (aD (bh++[(G,aJ aa (aD G.d) ca)])) (bh.flatMap iD++[aK G.j,aJ aa (aD G.d) ca]):=by{grind [iD]};have ge:pO s.f (jH s.c k t)=bh.map (·.1)++[{G with d:=G.d++[jH s.c k t]}]:=by{grind [pO]};rw[bk] at hh;refine (Nh bp vr va vv _ ac ae bS _ _ aa _ ca _ s.c k t p r b9 (by simp) (by grind) (by grind) cu (by lia) W h5 bc hh di O hV).m ?_;rintro e W' ⟨rfl,v',ao,cz,ia,it,gk,A⟩;refine⟨rfl,?_,?_⟩
  .unfold oQ;rw[if_pos bk,ge]
   have db:nR 92 ac W W':=A.c (λj c hj M z=>by
    obtain rfl|z|z|z:=z
    .grind
    .have:=(qe e2 z.s).1;lia
    .have⟨_,c',af⟩:=qe O z.s;rw[M] at af;cases af
    .have⟨_,c',af⟩:=qe hV z.s;rw[M] at af;cases af)
   have bv:nR 166 ae W W':=A.c (λj c hj M z=>by
    obtain rfl|z|z|z:=z
    .grind
    .have⟨_,c',af⟩:=qe e2 z.s;rw[M] at af;cases af
    .have:=(qe O z.s).1;lia
    .have⟨_,c',af⟩:=qe hV z.s;rw[M] at af;cases af)
   refine⟨vr,va,ao,ac,ae,h1,h2,bB h4 A.size,bB h5 A.size,h6,bf,bB bc A.size,cz,gk,hR.o (λg c hg C=>?_) db bv,bh++[({G with d:=G.d++[jH s.c k t]},v')],by simp,?_,?_,?_⟩
   .rw[A.h g (zg C).1 (λz=>?_)];{exact C}
    .obtain rfl|z|z|z:=z
     .grind
     .have⟨_,c',af⟩:=qe e2 z.s;rw[C] at af;cases af
     .have⟨_,c',af⟩:=qe O z.s;rw[C] at af;cases af
     .have⟨_,c',af⟩:=qe hV z.s;rw[C] at af;cases af
   .grind [iD]
   .simp only[bQ];exact λq E=>(e3 q E).o bv
   .grind [tg,jL]
  .refine iE.h A (by lia) (λj hj z=>?_);obtain rfl|z|z|z:=z
   .grind
   .have⟨hb,c,A⟩:=qe e2 z.s;exact⟨by lia,c,_,_,A,aU (aU (aS rfl))⟩
   .have⟨hb,c,A⟩:=qe O z.s;exact⟨by lia,c,_,_,A,aU (aU (aU (aS rfl)))⟩
   .have⟨hb,c,A⟩:=qe hV z.s;exact⟨by lia,c,_,_,A,aU (aU (aU (aU ⟨rfl,hb⟩)))⟩
 ·-- an atom more
  refine (LU bp s.d vr va vv _ ac _ k t p r bk (by grind) (by lia) W h4 hh e2).m ?_;rintro e W' ⟨rfl,v',cz,ia,A⟩;refine⟨rfl,?_,?_⟩
  .unfold oQ;rw[if_neg bk]
   have db:nR 92 ac W W':=A.c (λj c hj M z=>by
    obtain rfl|z:=z
    .grind
    .have:=(qe e2 z.s).1;lia)
   have bv:∀b,nR 166 b W W':=λb=>A.c (λj c hj M z=>by
    obtain rfl|z:=z
    .grind
    .have⟨_,c',af⟩:=qe e2 z.s;rw[M] at af;cases af)
   refine⟨vr,v',vv,ac,W.heap.size,h1,by lia,bB h4 A.size,A.size,h6,bf,bB bc A.size,cz,Qe hV (λg c hg C=>?_),(hR.o (λg c hg C=>?_) db (bv _)).mono zl h5,ps++[(⟨t,[]⟩,aJ aY 0 0)],by simp[e1],?_,?_,?_⟩
   .rw[A.h g (zg C).1 (λz=>?_)];{exact C}
    .obtain rfl|z:=z
     .grind
     .have⟨_,c',af⟩:=qe e2 z.s;rw[C] at af;cases af
   .rw[A.h g (zg C).1 (λz=>?_)];{exact C}
    .obtain rfl|z:=z
     .grind
     .have⟨_,c',af⟩:=qe e2 z.s;rw[C] at af;cases af
   .grind [iD]
   .simp only[bQ];intro q E;by_cases cd:ps=[];{grind}
    .rw[<-bE cd] at E;obtain E|E:=bZ.1 E
     .exact ((e3 q E).mono h5).o (bv _)
     .simp at E;have:=e4 q (by grind);exact (Qg.d this).o (bv _)
   .intro q E;simp at E;subst E;exact bU W' _ _ _
  .refine iE.h A (by lia) (λj hj z=>?_);obtain rfl|z:=z
   .grind
   .have⟨hb,c,A⟩:=qe e2 z.s;exact⟨by lia,c,_,_,A,aU (aU (aS rfl))⟩
def IZ(bp:Nat)(st:Int)(M:Option dH)(xn O:Nat)(ar:Option dH)(z A g n c ab:Nat)(xs:List Vq)(rel args:Vq)(hrel:∃s,rel=aK s)(ej:∃a m q,args=aJ a m q)(dw:1<=n)(en:n<=c)(d9:¬c=1)(hn:n<=1000)(hr:z<=1000)(w:Wq)(dr:ab<=w.heap.size)(G:w.heap[bp]?=cC #[aO aR st,aJ ar z A,Sc g n c,aJ M xn O] 179)(ea:aE w (Ad g 0)=aX rel)(dn:aE w (Ad g 1)=aX args)(qt:aH w ab 136 3 (aJ ar z A) z xs):Cs 236 #[Pt bp] w λe w'=>e=aQ (aN #[])/\
   ∃v',w'.heap[bp]?=cC #[aO aR 0,v',aJ aY 0 0,aJ aY 0 0] 179/\aH w' ab 136 3 v' (z+1) (xs++[rel,args,tG g n c])/\
    fC w w' (λj=>j=bp\/aX j=aI (aJ ar z A)):=by
 obtain⟨rs,rfl⟩:=hrel;obtain⟨aa,C,E,rfl⟩:=ej;have ay:=(zg G).1;have c0:∀j,aE w (Ad bp j)=([aO aR st,aJ ar z A,Sc g n c,aJ M xn O]:List Vq)[j]?:=λj=>by simp[aE,G]
 have⟨i0,hi,ch,cn,ck⟩:=dL Tryz.j;have i4:0<n:=by omega
 have i2:(1:Int)<=(n:Int):=by omega
 have hA:Hid (aH (w.alloc (aP #[aK rs,aJ aa C E,aJ (aX ⟨g,2,aY⟩) (n-1) (c-1)] 136)) ab 136 3 (aJ ar z A) z xs):=qt.l _;have hN:Hid (∀j u,[aK rs,aJ aa C E,aJ (aX ⟨g,2,aY⟩) (n-1) (c-1)][j]?=aX u->aE (w.alloc (aP #[aK rs,aJ aa C E,aJ (aX ⟨g,2,aY⟩) (n-1) (c-1)] 136)) ((⟨w.heap.size,0,aY⟩:dH).add j)=aX u):=FD w _ _ _ _;have hG:Hid (∀w1,(w.alloc (aP #[aK rs,aJ aa C E,aJ (aX ⟨g,2,aY⟩) (n-1) (c-1)] 136)).drew.grownBy w1 (aI (aJ ar z A))->
   w1.heap[bp]?=cC #[aO aR st,aJ ar z A,Sc g n c,aJ M xn O] 179/\fC w w1 (λj=>j=bp\/aX j=aI (aJ ar z A))):=by
  intro w1 du;have hc:=(((fC.j w _).alloc _).drew).o du (λk e _=>e.s);exact⟨(hc.h bp ay (λe=>Qh qt G (by decide) bp e.s rfl)).t G,hc.mono (λ_ _ e=>aU e)⟩
 have b8:∀u∈[aK rs,aJ aa C E,aJ (aX ⟨g,2,aY⟩) (n-1) (c-1)],u.oneCell'=true:=by simp[bL]
 have ak:z+1<=maxLen:=by unfold eC;omega
 have aw:(z+1)*64<=140737488355328:=by omega
 have c4:Hid (ab<=(w.alloc (aP #[aK rs,aJ aa C E,aJ (aX ⟨g,2,aY⟩) (n-1) (c-1)] 136)).drew.heap.size):=by show ab<=(w.alloc (aP #[aK rs,aJ aa C E,aJ (aX ⟨g,2,aY⟩) (n-1) (c-1)] 136)).heap.size;simp;omega
 clear G qt;go_enter Tryz.func236,Tryz.ntmps236;go_wp2;go_region_law (refine ws rfl (.tmp 6) (.tmp 19) 75 rfl ab 136 i0 (aL #[aK ⟨#[]⟩,aJ aY 0 0,aJ aY 0 0]) 3 64 eE hi ch cn ck rfl (by decide) (aJ ar z A) z xs (by simp[dC,dF]) hA.o ⟨w.heap.size,0,aY⟩ 1 1 [aK rs,aJ aa C E,aJ (aX ⟨g,2,aY⟩) (n-1) (c-1)] (by simp[dC,dF]) rfl hN.o b8 ak aw c4.o ?_;intro v' w1 ah ai;have⟨g',ap,cf⟩:=dK ah;subst cf;have⟨aj,cl⟩:=hG.o w1 ai;have d0:=cZz aj;have e3:=fZz aj;have e2:aF w1 (Ad bp 2)=false:=(by simp[aF,aj]));all_goals
  clear hA hN hG c4 b8 ai ak aw ea dn;go_wp2
  go_end0
  refine⟨rfl,Sc g' (z+1) ap,?_⟩;have ek:tG g n c=aJ (aX ⟨g,2,aY⟩) (n-1) (c-1):=by{unfold tG;rw[if_neg d9]};rw[ek];exact DL aj ah cl
def Qg.c{v:Vq}{l:List Tm}(h:Qg W b v l):∃a c,v=aJ a (aD l) c:=by
 obtain⟨rfl,rfl⟩|⟨g,z,A,C,_⟩:=h
 .simp_all
 grind
def Nz{ps:List (Am×Vq)}(C:ae<=W.heap.size)(E:∀p∈ps.dropLast,Qg W ae p.2 p.1.d)(G:∀p,ps.getLast?=aX p->aH W ae 166 2 p.2 (aD p.1.d) (tg p.1.d)):∀p∈ps,Qg W W.heap.size p.2 p.1.d:=by
 intro q z;by_cases A:ps=[]
 .grind
 rw[<-bE A] at z;obtain z|z:=bZ.1 z
 .exact (E q z).mono C
 grind [Qg.d]
theorem OI(ab bS bp:Nat)(s:fT)(W:Wq)(hP:gQ ab bS W bp s)(co:aD s.f<=100)(bd:s.f≠[])(dy:aD s.u<=100):Cs 236 #[Pt bp] W λe W'=>e=aQ (aN #[])/\gQ ab bS W' bp (mV s)/\iE ab bS W W':=by
 have⟨vr,va,vv,ac,ae,h1,h2,h4,h5,h6,bf,bc,hh,hV,⟨qs,r1,r2,r3⟩,ps,e1,e2,e3,e4⟩:=hP;obtain⟨xa,xc,rfl⟩:=qq hV;have bi:aD ps=aD s.f:=by grind
 have fl:aD qs=aD s.u:=by grind
 have fb:=Nz h5 e3 e4;cases ps with
 |nil=>simp at e1;exact absurd e1 bd
 |cons p0 pt=>
  have⟨a0,v0⟩:=p0;have ct:s.f=a0::pt.map (·.1):=by{rw[<-e1];rfl};have di:=e2;obtain⟨hl,⟨_,hz⟩|⟨g,c,G,rfl,hb,O,en,im,de,ft⟩⟩:=di;{simp at hz};have dx:=(zg O).1;have cw:=fb (a0,v0) (by simp);have C:G.toList.take ((aD pt+1)*2)=aK a0.j::v0::pt.flatMap iD:=by{grind [iD]};have ce:aE W (Ad g 0)=aX (aK a0.j):=by{have:(G.toList.take ((aD pt+1)*2))[0]?=aX (aK a0.j):=by{rw[C];rfl};rw[bH,if_pos (by lia)] at this;simp only[aE,O];simpa using this};have d9:aE W (Ad g 1)=aX v0:=by{have:(G.toList.take ((aD pt+1)*2))[1]?=aX v0:=by{rw[C];rfl};rw[bH,if_pos (by lia)] at this;simp only[aE,O];simpa using this};have fw:∃a m q,v0=aJ a m q:=by{have⟨a,q,e⟩:=cw.c;exact⟨a,_,q,e⟩};obtain⟨ar,cr,rfl⟩:=qq r2;have key:Cs 236 #[Pt bp] W λe w'=>e=aQ (aN #[])/\
   ∃v',w'.heap[bp]?=cC #[aO aR 0,v',aJ aY 0 0,aJ aY 0 0] 179/\aH w' ab 136 3 v' (aD qs+1) (qs.flatMap tM++[aK a0.j,v0,tG g (aD pt+1) c])/\
    fC W w' (λj=>j=bp\/aX j=aI (aJ ar (aD qs) cr)):=by
   simp only[bO] at hh en;by_cases fh:c=1
   .subst fh;have h9:aD pt=0:=by{lia};rw[h9] at hh ⊢;exact JA bp s.d _ _ _ ar _ cr g ab _ _ _ ⟨_,rfl⟩ fw (by lia) W (by lia) hh ce d9 r2
   .exact IZ bp s.d _ _ _ ar _ cr g _ c ab _ _ _ ⟨_,rfl⟩ fw (by lia) (by lia) fh (by grind) (by lia) W (by lia) hh ce d9 r2
  refine key.m ?_;rintro e W' ⟨rfl,v',cz,ig,A⟩;have db:∀b,nR 92 b W W':=λb=>A.c (λj cc hj bn z=>by
   obtain rfl|z:=z
   .grind
   .have⟨_,c',af⟩:=qe r2 z.s;rw[bn] at af;cases af)
  have M:∀b,nR 166 b W W':=λb=>A.c (λj cc hj bn z=>by
   obtain rfl|z:=z
   .grind
   .have⟨_,c',af⟩:=qe r2 z.s;rw[bn] at af;cases af)
  refine⟨rfl,?_,?_⟩;{have gw:mV s={d:=0,u:=s.u++[⟨a0,pt.map (·.1)⟩],f:=[],c:=[]}:=by{unfold mV;rw[ct]};rw[gw];refine⟨v',aJ aY 0 0,aJ aY 0 0,W.heap.size,W.heap.size,by lia,by lia,A.size,A.size,h6,bf,bB bc A.size,cz,bU W' _ _ _,⟨qs++[(⟨a0,pt.map (·.1)⟩,v0,tG g (aD pt+1) c)],by simp[r1],?_,?_⟩,[],rfl,bU W' _ _ _,by simp,by simp⟩;{grind [tM]};intro q E;obtain E|E:=bZ.1 E;{exact⟨((r3 q E).1.mono h5).o (M _),((r3 q E).2.mono h4 h5).o (db _) (M _)⟩};simp at E;subst E;refine⟨cw.o (M _),gP.o ⟨pt,if c=1 then aX ⟨g,0,aY⟩ else aX ⟨g,2,aY⟩,c-1,rfl,by simp[tG],⟨λp hp=>fb p (by simp[hp]),by simp only[bO] at en;simp;lia⟩,λgh=>?_⟩ (db _) (M _)⟩;have gp:aD pt≠0:=by{grind};refine⟨g,2,G,by rw[if_neg (by grind)],dx,O,?_⟩;have:(G.toList.take ((aD pt+1)*2)).drop 2=pt.flatMap iD:=by{rw[C];rfl};rw[List.drop_take] at this;rw[<-this];congr 1;simp;lia};refine iE.h A (by lia) (λj hj z=>?_);obtain rfl|z:=z;{grind};have⟨hb,c,A⟩:=qe r2 z.s;exact⟨by lia,c,_,_,A,aU (aS rfl)⟩
def gQ.f{s:fT}(h:gQ ab bS W bp s)(C:cT W.heap.size W W'):gQ ab bS W' bp s:=by have⟨vr,va,vv,ac,ae,h1,h2,h3,h4,h5,h6,h7,hh,hV,hR,ps,e1,e2,e3,e4⟩:=h;have A:∀(k:Nat) (c:Array Vq) (t:cW),W.heap[k]?=cC c t->W'.heap[k]?=cC c t:=λk c t z=>(C.b k (zg z).1).t z;exact⟨vr,va,vv,ac,ae,h1,h2,bB h3 C.s,bB h4 C.s,h5,h6,bB h7 C.s,A _ _ _ hh,Qe hV (λg c _ z=>A g c _ z),hR.o (λg c _ z=>A g c _ z) (λk c _ z=>A k c _ z) (λk c _ z=>A k c _ z),ps,e1,Qe e2 (λg c _ z=>A g c _ z),λp E=>(e3 p E).o (λk c _ z=>A k c _ z),λp E=>Qe (e4 p E) (λg c _ z=>A g c _ z)⟩
def gQ.d{s:fT}(h:gQ ab bS W bp s):ab<=W.heap.size:=by have⟨vr,va,vv,ac,ae,h1,h2,h3,_⟩:=h;lia
def Kr(ab bS bp:Nat)(s:fT)(W:Wq)(z:gQ ab bS W bp s):Cs 234 #[Pt bp] W λe W'=>e=aQ (aN #[])/\gQ ab bS W' bp (sI s)/\iE ab bS W W':=by
 have hs:=λx=>z.n x;have⟨vr,va,vv,ac,ae,h1,h2,h4,h5,h6,bf,bc,hh,hV,hR,ps,e1,e2,e3,e4⟩:=z;have bi:aD ps=aD s.f:=by grind
 obtain⟨a,c,rfl⟩:=qq e2;refine (NH bp s.d vr vv a _ c W hh).m ?_;rintro e W' ⟨rfl,rfl⟩;rw[bi];exact⟨rfl,hs _⟩
def MJ(ab bS bp:Nat)(s:fT)(W:Wq)(z:gQ ab bS W bp s):Cs 235 #[Pt bp] W λe W'=>e=aQ (aN #[])/\gQ ab bS W' bp {s with d:=if s.d=4 then 3 else 1}/\iE ab bS W W':=by have hs:=λx=>z.n x;have⟨vr,va,vv,ac,ae,h1,h2,h4,h5,h6,bf,bc,hh,hV,hR⟩:=z;refine (I4 bp s.d vr va vv W hh).m ?_;rintro e W' ⟨rfl,rfl⟩;exact⟨rfl,hs _⟩
def Je(ab bS bp:Nat)(s:fT)(k:Int)(t:ByteArray)(ht:t.size<=1200)(p r:Int)(W:Wq)(E:gQ ab bS W bp s)(cu:aD s.c<=100)(co:aD s.f<=100)(dy:aD s.u<=100)(h3:s.d=3->s.f≠[])(hm:∀a∈s.f,aD a.d<=100)(h6:k=6->s.f≠[]):Cs 197 #[Pt bp,fY k t p r] W λe W'=>e=aQ (aN #[])/\gQ ab bS W' bp (fS s k t)/\iE ab bS W W':=by
 have bb:=λO=>(bC W.heap.size W).l zl O;have z:Hid (∀O,gQ ab bS (W.alloc O) bp s/\iE ab bS W (W.alloc O)):=λO=>⟨E.f (bb O),iE.d (bb O) E.d⟩;have Qnv:∃x,aE W (Ad bp 0)=aX (aO aR x)/\aF W (Ad bp 0)=false/\bp<W.heap.size:=by have⟨vr,va,vv,ac,ae,h1,h2,h4,h5,h6,bf,bc,hh,hV,hR⟩:=E;exact⟨s.d,zc hh,by simp[aF,hh],(zg hh).1⟩
 have⟨x0,ce,i9,ay⟩:=Qnv;have C:Hid (k=1\/k=2->∀O,Cs 233 #[Pt bp,fY k t p r] (W.alloc O) λe W'=>e=aQ (aN #[])/\gQ ab bS W' bp (oQ s k t)/\iE ab bS W W'):=λb9 O=>(NZ ab bS bp s k t ht p r _ (z.o O).1 b9 cu co h3 hm).m (λe W' ⟨a,b,c⟩=>⟨a,b,(z.o O).2.trans c⟩);have e8:Hid (∀O,Cs 234 #[Pt bp] (W.alloc O) λe W'=>e=aQ (aN #[])/\gQ ab bS W' bp (sI s)/\iE ab bS W W'):=λO=>(Kr ab bS bp s _ (z.o O).1).m (λe W' ⟨a,b,c⟩=>⟨a,b,(z.o O).2.trans c⟩);have Qn5:Hid (∀O,Cs 235 #[Pt bp] (W.alloc O) λe W'=>e=aQ (aN #[])/\gQ ab bS W' bp {s with d:=if s.d=4 then 3 else 1}/\iE ab bS W W'):=λO=>(MJ ab bS bp s _ (z.o O).1).m (λe W' ⟨a,b,c⟩=>⟨a,b,(z.o O).2.trans c⟩);have Qo3:Hid (k=6->∀O,Cs 236 #[Pt bp] (W.alloc O) λe W'=>e=aQ (aN #[])/\gQ ab bS W' bp (mV s)/\iE ab bS W W'):=λhk O=>(OI ab bS bp s _ (z.o O).1 co (h6 hk) dy).m (λe W' ⟨a,b,c⟩=>⟨a,b,(z.o O).2.trans c⟩);have bk:Hid (∀O x,gQ ab bS ((W.alloc O).setCell (Ad bp 0) (aO aR x)) bp {s with d:=x}/\iE ab bS W ((W.alloc O).setCell (Ad bp 0) (aO aR x))):=λO x=>⟨((z.o O).1.n x).1,(z.o O).2.trans ((z.o O).1.n x).2⟩;clear E h3 h6 hm bb;unfold fY iH at C ⊢;by_cases G:k=1\/k=2
 .have M:Hid (fS s k t=oQ s k t):=by{show _=_;unfold fS;rw[if_pos G]};obtain rfl|rfl:=G;all_goals
   go_enter dB,dA;go_wp2_with fail;refine (C.o (by first|exact aS rfl|exact aU rfl|exact aS trivial|exact aU trivial|decide|simp) _).m ?_;rintro e W' ⟨rfl,A⟩;go_wp2
   go_end0
   rw[M.o];exact⟨rfl,A⟩
 by_cases k3:k=3
 .subst k3;go_enter dB,dA;go_wp2;go_end0;refine⟨rfl,?_⟩;have:=bk.o (aP #[aO aR 3,aK t,aO aR p,aO aR r] 191) 3;rwa[bX _ _ _ _ ay] at this
 by_cases k4:k=4
 .subst k4;go_enter dB,dA;go_wp2_with fail;refine (e8.o _).m ?_;rintro e W' ⟨rfl,A⟩;go_wp2;go_end0;exact⟨rfl,A⟩
 by_cases k5:k=5
 .subst k5;go_enter dB,dA;go_wp2_with fail;refine (Qn5.o _).m ?_;rintro e W' ⟨rfl,A⟩;go_wp2;go_end0;exact⟨rfl,A⟩
 by_cases k7:k=7
 .subst k7;go_enter dB,dA;go_wp2;go_end0;refine⟨rfl,?_⟩;have:=bk.o (aP #[aO aR 7,aK t,aO aR p,aO aR r] 191) 1;rwa[bX _ _ _ _ ay] at this
 by_cases k6:k=6
 .subst k6;go_enter dB,dA;go_wp2_with fail;refine (Qo3.o (by trivial) _).m ?_;rintro e W' ⟨rfl,A⟩;go_wp2;go_end0;exact⟨rfl,A⟩
 have M:Hid (fS s k t=s):=by{show _=_;unfold fS;simp[G,k3,k4,k5,k6,k7]};have n1:(k == 1)=false:=by{simp;omega};have n2:(k == 2)=false:=by{simp;omega};have n3:(k == 3)=false:=by{simp;omega};have n4:(k == 4)=false:=by{simp;omega};have n5:(k == 5)=false:=by{simp;omega};have n6:(k == 6)=false:=by{simp;omega};have n7:(k == 7)=false:=by{simp;omega};clear G k3 k4 k5 k6 k7;go_enter dB,dA;go_wp2;go_end0;rw[M.o];exact⟨rfl,z.o _⟩
def gQ.h{s:fT}(h:gQ ab bS W bp s):aE W (Ad bp 0)=aX (aO aR s.d)/\bp<W.heap.size:=by have⟨vr,va,vv,ac,ae,h1,h2,h4,h5,h6,bf,bc,hh,hV,hR⟩:=h;exact⟨zc hh,(zg hh).1⟩
def Lq(ab bS bp:Nat)(s:fT)(k:Int)(t:ByteArray)(p r:Int)(W:Wq)(hP:gQ ab bS W bp s)(co:aD s.f<=100)(h3:s.d=3->s.f≠[]):Cs 196 #[Pt bp,fY k t p r] W λe W'=>e=aQ (aM (Qc s.d r (aD s.u) (aD s.f) (Qz s.f)))/\cT W.heap.size W W':=by
 have⟨vr,va,vv,ac,ae,h1,h2,h4,h5,h6,bf,bc,hh,hV,⟨qs,r1,r2,r3⟩,ps,e1,e2,e3,e4⟩:=hP;have bi:aD ps=aD s.f:=by grind
 have fl:aD qs=aD s.u:=by grind
 obtain⟨aa,E,rfl⟩:=qq e2;obtain⟨ar,cr,rfl⟩:=qq r2;have hb:∀q O,cT W.heap.size W ((W.alloc O).drewN q):=by intro q O;exact⟨rfl,rfl,rfl,by show _<=(W.alloc O).heap.size;simp,λj hj=>bF _ _ j hj⟩
 rw[<-bi,<-fl];by_cases G:ps=[]
 .have ct:s.f=[]:=by{rw[<-e1,G];rfl};have gl:s.d≠3:=λe=>h3 e ct;have M:Qz s.f=0:=by{rw[ct];rfl};rw[M];refine (Fe bp s.d ar _ cr aa _ E vv aY 0 0 k t p r (by lia) W hh (λe=>absurd e gl)).m ?_;rintro e W' ⟨rfl,q,rfl⟩;exact⟨rfl,hb q _⟩
 obtain⟨A,⟨z,lv⟩,rfl⟩:∃A l,ps=A++[l]:=⟨ps.dropLast,ps.getLast G,(bE G).s⟩;have hl:=e4 (z,lv) (by simp);simp only at hl;obtain⟨at',C,rfl⟩:=qq hl;have M:Qz s.f=aD z.d:=by{grind [Qz]};rw[M];have di:aH W ac 92 2 (aJ aa (aD (A++[(z,aJ at' (aD z.d) C)])) E) (aD (A++[(z,aJ at' (aD z.d) C)])) (A.flatMap iD++[aK z.j,aJ at' (aD z.d) C]):=by{grind [iD]};have⟨g,c,ag,hv,hg,gu,b4,hy,ft,g8⟩:=Bi di (by simp);have gp:aD (A++[(z,aJ at' (aD z.d) C)])=aD A+1:=by{simp};refine (Fe bp s.d ar _ cr aa _ E vv at' (aD z.d) C k t p r (by lia) W hh (λe=>⟨by lia,g,?_,?_,(zg hg).1⟩)).m ?_
 .cases hv;rfl
 .simp only[aE,hg];simpa using hy
 grind
def Ny(ab bS bp:Nat)(s:fT)(k:Int)(t:ByteArray)(ht:t.size<=1200)(p r:Int)(W:Wq)(A:gQ ab bS W bp s)(hI:qG s):Cs 152 #[Pt bp,fY k t p r] W λe W'=>e=aQ (aO aR (gA s k t r).1)/\gQ ab bS W' bp (gA s k t r).2/\iE ab bS W W':=by
 have co:aD s.f<=100:=by have:=hI.f;omega
 have dy:aD s.u<=100:=by have:=hI.u;omega
 have h3:s.d=3->s.f≠[]:=λe=>hI.some (by omega);have hm:∀a∈s.f,aD a.d<=100:=λa ha=>by have:=(hI.h a ha).d;omega
 have cu:aD s.c<=100:=by have:=hI.I;omega
 have z:=λO=>(bC W.heap.size W).l zl O;have ee:=aA λO=>Ob bp s.d k _ (A.f (z O)).h.1;have dv:=aA λO=>Lq ab bS bp s k t p r _ (A.f (z O)) co h3
 have dz:Hid (Q2 s.d k=true->∀O W1,cT (W.alloc O).heap.size (W.alloc O) W1->Cs 197 #[Pt bp,fY k t p r] W1 λe W'=>e=aQ (aN #[])/\gQ ab bS W' bp (fS s k t)/\iE ab bS W W'):=λG O W1 E=>
  (Je ab bS bp s k t ht p r W1 ((A.f (z O)).f E) cu co dy h3 hm (λhk=>hI.some (λh0=>by rw[h0,hk] at G;simp[Q2] at G))).m
   (λe W' ⟨a,b,c⟩=>⟨a,b,((iE.d (z O) A.d).trans (iE.d E (A.f (z O)).d)).trans c⟩)
 have fr:Hid (∀O W1,cT (W.alloc O).heap.size (W.alloc O) W1->gQ ab bS W1 bp s/\iE ab bS W W1):=λO W1 E=>⟨(A.f (z O)).f E,(iE.d (z O) A.d).trans (iE.d E (A.f (z O)).d)⟩;have bj:Hid (∀O W1,cT (W.alloc O).heap.size (W.alloc O) W1->∀x,aE (W.alloc O) (Ad W.heap.size x)=aE W1 (Ad W.heap.size x)):=λO W1 E x=>(E.cell (p:=⟨W.heap.size,x,aY⟩) (by simp)).s;clear A hI h3 hm z;have dg:Hid (gA s k t r=if Q2 s.d k=false then (2,s) else if Qc s.d r (aD s.u) (aD s.f) (Qz s.f)=true then (3,s) else (0,fS s k t)):=rfl;generalize hEX:Qc s.d r (aD s.u) (aD s.f) (Qz s.f)=ex at *;have ir:=aA hEX;clear hEX;by_cases G:Q2 s.d k=false
 .rw[dg.o,if_pos G];unfold fY iH at dv dz ⊢;go_enter dX,dT
  go_wp2_with (go_at_call 195;refine (ee.o _).m ?_;rintro e w' ⟨rfl,rfl⟩)
  go_ret;exact⟨rfl,fr.o _ _ zr⟩
 .have bq:Q2 s.d k=true:=by{simpa using G};clear G
  cases ex with
  |true=>
   have C:Hid (gA s k t r=(3,s)):=by{rw[dg.o,bq];rfl};rw[C.o];unfold fY iH at dv dz ⊢;go_enter dX,dT
   go_wp2_with (first|(go_at_call 195;refine (ee.o _).m ?_;rintro e w' ⟨rfl,rfl⟩)|(go_at_call 196;refine (dv.o _).m ?_;rintro e W1 ⟨rfl,ak⟩))
   go_ret;exact⟨rfl,fr.o _ _ ak⟩
  |false=>
   have C:Hid (gA s k t r=(0,fS s k t)):=by{rw[dg.o,bq];rfl};rw[C.o];unfold fY iH at dv dz ⊢;have ha:=dz.o bq (aP #[aO aR k,aK t,aO aR p,aO aR r] 191);have e9:=bj.o (aP #[aO aR k,aK t,aO aR p,aO aR r] 191);have HA:=aA ha;have HS:=aA e9;clear ha e9;go_enter dX,dT
   go_wp2_with (first|(go_at_call 195;refine (ee.o _).m ?_;rintro e w' ⟨rfl,rfl⟩))
   refine (dv.o _).m ?_;rintro e W1 ⟨rfl,ak⟩;have M:=HS.o W1 ak;have q0:=(M 0).s;have q1:=(M 1).s;have q2:=(M 2).s;have q3:=(M 3).s;simp at q0 q1 q2 q3;clear M;go_wp2_with fail;refine (HA.o W1 ak).m ?_;rintro e W2 ⟨rfl,b3⟩;go_wp2;go_ret;exact⟨rfl,b3⟩
attribute [local go_sem] Oper.semAt_some
def Kv(s:ByteArray)(i:Nat):(Utf8.decode s i).2<=4:=by
 unfold Utf8.decode;dsimp only
 repeat' split
 all_goals simp
theorem F9(s:ByteArray):∀f z,s.size<=z+f->s.size<=z+4*eD s f z
 |0,z,h=>by grind
 |f+1,z,h=>by
  unfold eD;split;{rename_i A;have C:=Lib.decode_width_pos s z A;have E:=Kv s z;have:=F9 s f (z+(Utf8.decode s z).2) (by lia);lia};{lia}
theorem sr(s:ByteArray):s.size<=4*cU s:=by have:=F9 s s.size 0 (by lia);unfold cU;lia
def xl(s:ByteArray)(w:Wq)(hs:s.size<9223372036854775807):Cs 95 #[aK s] w λe w'=>e=aQ (aO aR (cU s))/\∃z,w'=w.alloc (.stringIter s z):=Tryz.utf8_RuneCountInString s w hs
def gQ.i{s:fT}(h:gQ ab bS W bp s)(A:∀(k:Nat) (c:Array Vq) (t:cW),W.heap[k]?=cC c t->W'.heap[k]?=cC c t)(C:W.heap.size<=W'.heap.size):gQ ab bS W' bp s:=by have⟨vr,va,vv,ac,ae,h1,h2,h3,h4,h5,h6,h7,hh,hV,hR,ps,e1,e2,e3,e4⟩:=h;exact⟨vr,va,vv,ac,ae,h1,h2,bB h3 C,bB h4 C,h5,h6,bB h7 C,A _ _ _ hh,Qe hV (λg c _ z=>A g c _ z),hR.o (λg c _ z=>A g c _ z) (λk c _ z=>A k c _ z) (λk c _ z=>A k c _ z),ps,e1,Qe e2 (λg c _ z=>A g c _ z),λp E=>(e3 p E).o (λk c _ z=>A k c _ z),λp E=>Qe (e4 p E) (λg c _ z=>A g c _ z)⟩
def qn{row:Option Nat}(C:W.grownBy W' row)(E:∀r,row=aX r->∃o:Obj,W.heap[r]?=aX o/\o.isCells=false):∀(k:Nat) (c:Array Vq) (t:cW) (z:Nat×Nat),W.heap[k]?=aX (aP c t z)->W'.heap[k]?=aX (aP c t z):=by
 intro k c t z A;rw[C.b k (zg A).1 (λe=>?_)]
 .exact A
 have⟨o,ho,hc⟩:=E k e.s;rw[A] at ho;cases ho;simp[cR] at hc
def Q1{w:Wq}(h:cT N w W)(z:w.heap.size=N):N<=W.heap.size:=by have:=h.s;lia
def qQ{v:Vq}(h:cX W B t v)(u:Vq):cX (W.setCell (Ad B 0) u) B t u:=qw h 0 u
def yv{t2:Nat}(C:cX W A t1 y)(E:cX W (A+1) t2 z)(b c:Vq):cX ((W.setCell (Ad A 0) b).setCell (Ad (A+1) 0) c) A t1 b/\cX ((W.setCell (Ad A 0) b).setCell (Ad (A+1) 0) c) (A+1) t2 c/\
  fC W ((W.setCell (Ad A 0) b).setCell (Ad (A+1) 0) c) (λj=>j=A\/j=A+1)/\KeepsOthers W ((W.setCell (Ad A 0) b).setCell (Ad (A+1) 0) c):=by
 refine⟨(qQ C b).other (by lia) _,qQ (E.other (by lia) _) c,?_,?_⟩
 .exact ((fC.j W _).i (Ad A 0) b (λ_=>aS rfl)).i (Ad (A+1) 0) c (λ_=>aU rfl)
 exact (KeepsOthers.setCell _ _ _).trans (KeepsOthers.setCell _ _ _)
def Qq.E{v:Vq}(h:Qq W ab ac ae v l)(A:∀(k:Nat) (c:Array Vq) (t:cW),(t=136\/t=92\/t=166)->W.heap[k]?=cC c t->W'.heap[k]?=cC c t):Qq W' ab ac ae v l:=
 h.o (λg c _ z=>A g c _ (aS rfl) z) (λk c _ z=>A k c _ (aU (aS rfl)) z) (λk c _ z=>A k c _ (aU (aU rfl)) z)
def zI{W2:Wq}{t2:Nat}(G:cX W2 A t1 y)(M:cX W2 (A+1) t2 z)(O:W2.heap[D]?=aX (.deferred (aX []))):aE (W2.putObj D (.deferred aY)) (Ad A 0)=aX y/\aE (W2.putObj D (.deferred aY)) (Ad (A+1) 0)=aX z/\
  ∀(k:Nat) (c:Array Vq) (t:cW) (E:Nat×Nat),W2.heap[k]?=aX (aP c t E)->(W2.putObj D (.deferred aY)).heap[k]?=aX (aP c t E):=by have C:=qn (dP W2 D (.deferred aY)) (λr e=>by cases e;exact⟨_,O,rfl⟩);exact⟨Boxed.cell (t:=t1) (C _ _ _ _ G),Boxed.cell (t:=t2) (C _ _ _ _ M),C⟩
def v8{w:Wq}{o:Obj}(h:cT N w W)(A:N<=D)(z:N<=W.heap.size):cT N w (W.putObj D o):=
 h.grown (dP W D o) z (λk e=>by cases e;exact A)
def Hk{t2:Nat}(C:cX W A t1 y)(E:cX W (A+1) t2 z){k:Nat}{c:Array Vq}{t:cW}(G:W.heap[k]?=cC c t)(a1:t≠t1)(a2:t≠t2):¬(k=A\/k=A+1):=by
 unfold cX at C E;rintro (rfl|rfl)
 .grind
 grind
def gQ.c{s:fT}(h:gQ ab bS W bp s)(A:∀(k:Nat) (c:Array Vq) (t:cW),t=179\/t=136\/t=92\/t=166\/t=9->W.heap[k]?=cC c t->W'.heap[k]?=cC c t)(C:W.heap.size<=W'.heap.size):gQ ab bS W' bp s:=by have⟨vr,va,vv,ac,ae,h1,h2,h3,h4,h5,h6,h7,hh,hV,hR,ps,e1,e2,e3,e4⟩:=h;exact⟨vr,va,vv,ac,ae,h1,h2,bB h3 C,bB h4 C,h5,h6,bB h7 C,A _ _ _ (by simp) hh,Qe hV (λg c _ z=>A g c _ (by simp) z),hR.o (λg c _ z=>A g c _ (by simp) z) (λk c _ z=>A k c _ (by simp) z) (λk c _ z=>A k c _ (by simp) z),ps,e1,Qe e2 (λg c _ z=>A g c _ (by simp) z),λp E=>(e3 p E).o (λk c _ z=>A k c _ (by simp) z),λp E=>Qe (e4 p E) (λg c _ z=>A g c _ (by simp) z)⟩
def wL(s:ByteArray)(ab bp:Nat)(w:Wq)(e:Ending)(w':Wq):Prop:=
 cT ab w w'/\match fO iG (gD s.size s 0) with
 |(_,aX (c,p))=>e=aQ (aN #[aO aR c,aO aR p])
 |(st,aY)=>e=aQ (aN #[aO aR 0,aO aR 0])/\qG st/\∃bS,gQ ab bS w' bp st
def GZ(s:ByteArray)(bp:Nat)(w:Wq)(hs:s.size<=4611686018427387904)(z:300<cU s):Cs 90 #[Pt bp,aK s] w λe w'=>e=aQ (aN #[aO aR 1,aO aR 0])/\cT w.heap.size w w':=by
 have C:(300:Int)<(cU s:Int):=by omega
 refine (dE (n:=6)).1 ?_;refine dW Tryz.func90 rfl trivial ?_ rfl;simp only[Tryz.ntmps90,cG,bO,cA,cO,cP,cD,cE,cH,cF,cM,cJ];gi_wp2_with (refine⟨trivial,?_⟩;gi_at_call 95;refine (dE.2 (xl _ _ (by omega))).mono ?_;rintro e w' ⟨rfl,A,rfl⟩);refine⟨aN #[aO aR 1,aO aR 0],by simp[results,dR,go_sem],rfl,?_⟩;exact ((((zr.l zl _).l (by simp) _).l (by simp;omega) _).l (by simp;omega) _)
theorem EZ(s:ByteArray)(cv:Wq)(ab bp:Nat)(w:Wq)(ax:Lib.runeCount s<=300)(hT:Lib.Utf8Tabs 0 1 cv)(dp:cv.heap.size=ab)(ev:Below ab cv w)(c7:ab<=bp)(eh:w.heap[bp]?=some (Obj.cells #[.int .i64 0,.slice none 0 0,.slice none 0 0,.slice none 0 0] 179)) :
  Calls Tryz.prog 90 #[.pointer (some ⟨bp,0,none⟩),.string s] w (wL s ab bp w):=by
 have hs:s.size<=1200:=by have:=sr s;omega
 have hl:decide ((300:Int) < (Lib.runeCount s:Int))=false:=by simp;omega
 have Qnw:=(zg eh).1;have dr:ab<=w.heap.size:=by omega
 refine (callsIn_wide (n:=6)).1 ?_;refine callsIn_of_wp_marks Tryz.func90 rfl trivial ?_ rfl;simp only[Tryz.ntmps90,List.size_toArray,List.length_cons,List.length_nil,Nat.reduceAdd,Nat.reduceSub,Array.replicate_succ,Array.replicate_zero,List.push_toArray,List.append_toArray,List.nil_append,List.cons_append];gi_wp2_with (first | (refine⟨trivial,?_⟩;gi_at_call 95;refine (callsIn_wide.2 (xl _ _ (by omega))).mono ?_;rintro e w' ⟨rfl,az,rfl⟩) | (refine⟨trivial,?_⟩;gi_at_call 96;refine (callsIn_wide.2 (E4 _ _)).mono ?_;rintro e w' ⟨rfl,rfl⟩));have ja:=Lib.runeCount_le s;generalize hrc:Lib.runeCount s=rc at *;clear hrc;obtain⟨N,hN⟩:∃N,w.heap.size=N:=⟨_,rfl⟩;obtain⟨W0,au⟩:∃W0,(((((w.alloc (.cells #[.pointer (some ⟨bp,0,none⟩)] 268)).alloc (.cells #[.int .i64 0] 23)).alloc (.cells #[.int .i64 0] 3)).alloc (.stringIter s az)).alloc (.cells #[.string s] 9))=W0:=⟨_,rfl⟩;have bj:W0.heap.size=N+5:=by rw[<- au,<- hN];simp
 have fc:Below w.heap.size w W0:=by rw[<- au];exact (((((Below.refl _ _).l zl _).l (by simp) _).l (by simp;omega) _).l (by simp;omega) _).l (by simp;omega) _
 have fm:=fc.m dr;have b0:Boxed W0 N 268 (.pointer (some ⟨bp,0,none⟩)):=by rw[<- au,<- hN];exact ((((Boxed.new w _ _).alloc _).alloc _).alloc _).alloc _
 have b1:Boxed W0 (N+1) 23 (.int .i64 0):=by have:=(((Boxed.new (w.alloc (.cells #[.pointer (some ⟨bp,0,none⟩)] 268)) 23 (.int .i64 0)).alloc (.cells #[.int .i64 0] 3)).alloc (.stringIter s az)).alloc (.cells #[.string s] 9);rwa[World.size_alloc,hN,au] at this
 have b2:Boxed W0 (N+1+1) 3 (.int .i64 0):=by have:=((Boxed.new ((w.alloc (.cells #[.pointer (some ⟨bp,0,none⟩)] 268)).alloc (.cells #[.int .i64 0] 23)) 3 (.int .i64 0)).alloc (.stringIter s az)).alloc (.cells #[.string s] 9);rwa[World.size_alloc,World.size_alloc,hN,au] at this
 have b5:Boxed W0 (N+4) 9 (.string s):=by have:=Boxed.new ((((w.alloc (.cells #[.pointer (some ⟨bp,0,none⟩)] 268)).alloc (.cells #[.int .i64 0] 23)).alloc (.cells #[.int .i64 0] 3)).alloc (.stringIter s az)) 9 (.string s);simp only[World.size_alloc] at this;rwa[hN,au] at this
 have gj:gQ ab (N+5) W0 bp iG:=⟨_,_,_,ab,ab,Nat.le_refl _,Nat.le_refl _,by omega,by omega,c7,by omega,by omega,(fc.b bp Qnw).t eh,World.ownsRow_nil _ _ _ _,⟨[],rfl,World.ownsRow_nil _ _ _ _,by simp⟩,[],rfl,World.ownsRow_nil _ _ _ _,by simp,by simp⟩;simp only[hN];rw[au];clear au eh;have g9:Below cv.heap.size cv W0:=dp▸ev.t fm
 refine wpIn_rangeFunc_ownH rfl (by decide) (gf:=158) (lb:=#[.pointer (some ⟨N+4,0,none⟩)]) rfl trivial (enters_of Tryz.func158 (by kernel_rfl) rfl)
  (G4 5 (by decide) (N+4) s hs cv hT W0 g9 (by omega) b5.cell) qP.g (qP.H (by omega)) (Below.refl _ _) (λ_=>rfl)
  (λpre W=>∃st,fO iG pre=(st,none)/\qG st/\gQ ab (N+5) W bp st/\Boxed W N 268 (.pointer (some ⟨bp,0,none⟩))/\Boxed W (N+1) 23 (.int .i64 0)/\Boxed W (N+1+1) 3 (.int .i64 0)/\Below ab w W/\N<=W.heap.size)
  (λc pre W=>c=.ret/\∃(st:fT)(b6:List gF)(x:gF),pre=b6++[x]/\fO iG b6=(st,none)/\(gA st x.d x.f x.a).1≠0/\Boxed W (N+1) 23 (.int .i64 (gA st x.d x.f x.a).1)/\Boxed W (N+1+1) 3 (.int .i64 x.b)/\Below ab w W/\N<=W.heap.size)
  ?hI ?hIx ?h0
  (λx a' W=>∃Bx,W.heap[Bx]?=some (Obj.cells (iH x.d x.f x.b x.a) 191)/\a'={tmps:=#[.pointer (some ⟨bp,0,none⟩),.string s,.pointer (some ⟨N,0,none⟩),undef,.pointer (some ⟨N+1,0,none⟩),.pointer (some ⟨N+1+1,0,none⟩),.pointer (some ⟨Bx,0,none⟩),undef,.string s,.int .i64 rc,.bool false,.string s,.func (.func 158) #[] #[.pointer (some ⟨N+1+1+1+1,0,none⟩)],x.v,undef,undef,undef,undef,undef,undef,undef,undef],defers:=[]})
  ?hAx ?assign ?body ?done ?stop
 case hI=>rintro pre W W' row ⟨st,h1,h2,h3,h4,h5,h6,h7,h8⟩ hg hr;have hk:=qn hg (λr e=>(hr r e).2);exact⟨st,h1,h2,h3.i (λk c t h=>hk k c t _ h) hg.size,hk _ _ _ _ h4,hk _ _ _ _ h5,hk _ _ _ _ h6,h7.grown hg (by omega) (λk e=>by have:=(hr k e).1;omega),Nat.le_trans h8 hg.size⟩
 case hIx=>rintro c pre W W' row ⟨rfl,st,b6,x,h1,h2,h3,h5,h6,h7,h8⟩ hg hr;have hk:=qn hg (λr e=>(hr r e).2);exact⟨rfl,st,b6,x,h1,h2,h3,hk _ _ _ _ h5,hk _ _ _ _ h6,h7.grown hg (by omega) (λk e=>by have:=(hr k e).1;omega),Nat.le_trans h8 hg.size⟩
 case h0=>exact⟨iG,rfl,⟨by decide,by decide,by simp[iG],λ_=>rfl,λh=>absurd rfl h,λh=>absurd rfl h,by simp[iG],by simp[iG]⟩,gj,b0,b1,b2,fm,by omega⟩
 case hAx=>rintro x a' _ W W' row ⟨Bx,h2,h3⟩ hg hr;exact⟨Bx,qn hg (λr e=>(hr r e).2) _ _ _ _ h2,h3⟩
 case assign=>rintro l pre x W K ⟨st,h1,h2,h3,h4,h5,h6,h7,h8⟩ hK;have HK:Hid _:=hK;clear hK;unfold gF.v fY iH;gi_wp2;have bb:Below W.heap.size W (W.alloc (.cells #[.int .i64 x.d,.string x.f,.int .i64 x.b,.int .i64 x.a] 191)):=(Below.refl _ W).l zl _;refine HK.out _ _ ((KeepsOthers.alloc _ _).from _) ⟨bb.m (by omega),λk c fz hk=>(Below.heap_alloc _ _ _ (zg hk).1).t hk⟩ ⟨st,h1,h2,h3.f bb,h4.alloc _,h5.alloc _,h6.alloc _,h7.l (by omega) _,by simp;omega⟩ ⟨W.heap.size,World.alloc_heap_new W _,rfl⟩
 case body=>
  rintro l pre x a' W hl ⟨r,hr⟩ ⟨st,h1,h2,h3,h4,h5,h6,h7,h8⟩ ⟨Bx,a6,rfl⟩ b4;have HT:=Ny ab (N+5) bp st x.d x.f x.o x.b x.a W h3 h2;generalize dg:gA st x.d x.f x.a=ts at HT;obtain⟨ec,cy⟩:=ts;have kp:=h4.cell;have k0:W.cell? ⟨Bx,0,none⟩=some (.int .i64 x.d):=by{simp[World.cell?,a6,iH]};have k1:W.cell? ⟨Bx,1,none⟩=some (.string x.f):=by{simp[World.cell?,a6,iH]};have k2:W.cell? ⟨Bx,2,none⟩=some (.int .i64 x.b):=by{simp[World.cell?,a6,iH]};have k3:W.cell? ⟨Bx,3,none⟩=some (.int .i64 x.a):=by{simp[World.cell?,a6,iH]};unfold fY iH at HT;have dq:=aA dg;have H1:=aA h1;clear dg h1;gi_wp2_with fail;refine⟨trivial,?_⟩;refine (CallsIn.inRound l (callsIn_wide.2 HT)).mono ?_;rintro e W1 ⟨rfl,gs,cj⟩;have df:∀(B:Nat)(c:Array Vq)(t:TypeId),t≠179->t≠136->t≠92->t≠166->t≠9->W.heap[B]?=some (Obj.cells c t (0,0))->W1.heap[B]?=some (Obj.cells c t (0,0)):=by{intro B c t a1 a2 a3 a4 a5 hB;exact cj.u B _ hB (λc' t' gg e=>by cases e;exact⟨a1,a2,a3,a4,a5⟩)};have g4:Boxed W1 N 268 (.pointer (some ⟨bp,0,none⟩)):=df _ _ _ (by decide) (by decide) (by decide) (by decide) (by decide) h4;have g5:Boxed W1 (N+1) 23 (.int .i64 0):=df _ _ _ (by decide) (by decide) (by decide) (by decide) (by decide) h5;have g6:Boxed W1 (N+1+1) 3 (.int .i64 0):=df _ _ _ (by decide) (by decide) (by decide) (by decide) (by decide) h6;have gx:=df _ _ _ (by decide) (by decide) (by decide) (by decide) (by decide) a6;have e6:KeepsFrom W0.heap.size W W1:=⟨cj.v.s,λk o _ hk ho=>cj.u k o hk (λc t fz e=>by subst e;simp[Obj.isCells] at ho)⟩;have ga:qP cv.heap.size W W1:=⟨dp▸cj.v,λk c fz hk=>cj.u k _ hk (λc' t' gg e=>by cases e;exact⟨by decide,by decide,by decide,by decide,by decide⟩)⟩;have f4:=h7.t cj.v;have fy:=Nat.le_trans h8 cj.v.s;by_cases ei:ec=0;{subst ei;clear cj df HT;gi_wp2;refine⟨e6,ga,cy,?_,?_,gs,g4,g5,g6,f4,fy⟩;{rw[D9 _ _ _ _ H1.out];simp[fO,dq.out]};have:=DC st x.d x.f x.a x.o h2 (by rw[dq.out]);rwa[dq.out] at this};have Qpy:(ec == 0)=false:=by{simp[ei]};have c5:=g5.cell;have c6:=g6.cell;have f5:=g5.frozen;have f6:=g6.frozen;have cx:W1.cell? ⟨Bx,2,none⟩=some (.int .i64 x.b):=by{simp[World.cell?,gx,iH]};have n1:N+1≠Bx:=by{intro e;subst e;unfold Boxed at g5;rw[gx] at g5;simp at g5};have n2:N+1+1≠Bx:=by{intro e;subst e;unfold Boxed at g6;rw[gx] at g6;simp at g6};clear cj df HT k0 k1 k2 k3 kp;gi_wp2;gi_region;all_goals
   gi_wp2
   obtain⟨t1,t2,tc,tk⟩:=yv g5 g6 (.int .i64 ec) (.int .i64 x.b);refine⟨⟨Nat.le_trans e6.size tk.size,λk o hk ho hc=>tk.same k o (e6.same k o hk ho hc) hc⟩,rfl,st,pre,x,rfl,H1.out,dq.out▸ei,dq.out▸t1,t2,(f4.t (tc.f (by omega) (λk e=>by omega))).drew,?_⟩;exact Nat.le_trans fy tc.size
 case done=>rintro D xs W hD rfl ⟨st,h1,h2,h3,h4,h5,h6,h7,h8⟩ hK;have c5:=h5.cell;have c6:=h6.cell;have f5:=h5.frozen;have f6:=h6.frozen;have H1:=aA h1;clear h1;gi_wp2;obtain⟨t1,t2,tc,tk⟩:=yv h5 h6 (.int .i64 0) (.int .i64 0);refine⟨by simp,.inl ⟨_,_,rfl,run_takeDeferred (tk.same D _ hK rfl),?_⟩⟩;obtain⟨d1,d2,dk⟩:=zI t1 t2 (tk.same D _ hK rfl);refine⟨.tuple #[.int .i64 0,.int .i64 0],by simp[results,Tryz.results90,go_sem,d1,d2],?_⟩;have f9:=v8 (D:=D) (o:=.deferred none) (h7.t (tc.f (by omega) (λk e=>by omega))) (by omega) (Nat.le_trans (by omega) tc.size);refine⟨f9,?_⟩;rw[H1.out];refine⟨rfl,h2,N+5,h3.c (λk c t ht hc=>dk k c t _ ?_) (Nat.le_trans tc.size (grownBy_putObj' _ D _).size)⟩;rwa[tc.h k (zg hc).1 (Hk h5 h6 hc (by rcases ht with rfl | rfl | rfl | rfl | rfl <;> decide) (by rcases ht with rfl | rfl | rfl | rfl | rfl <;> decide))]
 rintro D c pre W hD ib ⟨rfl,st,b6,x,rfl,h1,h2,h5,h6,h7,h8⟩ hK;have b3:Hid (fO iG (gD s.size s 0)=(st,some ((gA st x.d x.f x.a).1,x.b))):=by show _=_;obtain⟨tl,g1⟩:=ib;rw[<- g1,List.append_assoc,D9 _ _ _ _ h1];simp[fO,h2]
 generalize (gA st x.d x.f x.a).1=ec at *;gi_wp2;refine⟨by simp,.inl ⟨_,_,rfl,run_takeDeferred hK,?_⟩⟩;obtain⟨d1,d2,dk⟩:=zI h5 h6 hK;refine⟨.tuple #[.int .i64 ec,.int .i64 x.b],by simp[results,Tryz.results90,go_sem,d1,d2],?_⟩;refine⟨v8 h7 (by omega) (by omega),?_⟩;rw[b3.out]
def Nj(s:ByteArray)(w:Wq)(hs:s.size<=4611686018427387904)(z:300<cU s):Cs 60 #[aK s] w λe w'=>e=aQ (aN #[aJ aY 0 0,aO aR 1,aO aR 0])/\cT w.heap.size w w':=by have h:=aA λbp W=>GZ s bp W hs z;go_enter dQ,dM;go_wp2_with (go_at_call 90;refine (h.o _ _).m ?_;rintro e w' ⟨rfl,A⟩);go_ret3;exact⟨rfl,((bC _ w).l zl _).t (A.m (by simp))⟩
def Gm(s:ByteArray)(w:Wq)(e:Ending)(w':Wq):Prop:=
 cT w.heap.size w w'/\match nE s with
  |.error (c,p)=>e=aQ (aN #[aJ aY 0 0,aO aR c,aO aR p])
  |.ok rs=>∃v ac ae,e=aQ (aN #[v,aO aR 0,aO aR 0])/\w.heap.size<=ac/\w.heap.size<=ae/\Qq w' w.heap.size ac ae v rs/\aD rs<=8/\∀r∈rs,kF r
theorem N9(s:ByteArray)(w:Wq)(ax:Lib.runeCount s<=300)(hT:Lib.Utf8Tabs 0 1 w):Cs 60 #[.string s] w (Gm s w):=by
 have hs:s.size<=1200:=by have:=sr s;omega
 have a8:Hid (∀O,O=Obj.cells #[.int .i64 0,.slice none 0 0,.slice none 0 0,.slice none 0 0] 179 (0,0)->Cs 90 #[.pointer (some ⟨w.heap.size,0,none⟩),.string s] (w.alloc O) (wL s w.heap.size w.heap.size (w.alloc O))):=by rintro O rfl;exact EZ s w w.heap.size w.heap.size _ ax hT rfl ((bC _ w).l zl _) zl (zn w _)
 have hB:Hid (∀O W',Below w.heap.size (w.alloc O) W'->Below w.heap.size w W'):=λO W' h=>((bC _ w).l zl O).t h;have av:Hid (nE s=match fO iG (gD s.size s 0) with|(_,some ep)=>.error ep|(st,none)=>if st.d=0 then .ok st.u else .error (2,Lib.runeCount s)):=rfl;unfold wL at a8;unfold Gm;rcases hfo:fO iG (gD s.size s 0) with⟨st,_|⟨c,p⟩⟩
 .rw[hfo] at av a8;simp only at av a8;by_cases h0:st.d=0;{rw[if_pos h0] at av;rw[av.o];clear hfo;go_enter Tryz.func60,Tryz.ntmps60;go_wp2_with fail;refine (a8.o _ rfl).m ?_;rintro e W1 ⟨ak,rfl,hI,bS,hP⟩;obtain⟨vr,va,vv,ac,ae,h1,h2,h4,h5,h6,bf,bc,hh,hV,hR,_⟩:=hP;rw[h0] at hh;have c0:W1.cell? ⟨w.heap.size,0,none⟩=some (.int .i64 0):=zc hh;have c1:W1.cell? ⟨w.heap.size,1,none⟩=some vr:=zc hh;obtain⟨ra,rc,rfl⟩:∃a c,vr=.slice a st.u.length c:=by{obtain⟨qs,q1,q2,q3⟩:=hR;obtain⟨a,c,e⟩:=qq q2;exact⟨a,c,by rw[e,<-q1];simp⟩};have HF:Hid _:=And.intro (And.intro h1 h2) (And.intro hR hI);have HB:Hid _:=ak;clear h1 h2 h4 h5 h6 bf bc hV hR hI hh ak;go_wp2;go_ret3;exact⟨hB.o _ _ HB.o,_,ac,ae,rfl,HF.o.1.1,HF.o.1.2,HF.o.2.1,HF.o.2.2.u,HF.o.2.2.i⟩};rw[if_neg h0] at av;rw[av.o];clear hfo;have iy:(st.d == 0)=false:=by{simp[h0]};go_enter Tryz.func60,Tryz.ntmps60;go_wp2_with fail;refine (a8.o _ rfl).m ?_;rintro e W1 ⟨ak,rfl,hI,bS,hP⟩;have c0:=hP.h.1;have HB:Hid _:=ak;clear hP hI ak;go_wp2_with (go_at_call 95;refine (xl _ _ (by omega)).m ?_;rintro e w' ⟨rfl,az,rfl⟩);go_ret3;exact⟨(hB.o _ _ HB.o).l (by have:=HB.o.s;simp at this;omega) _,rfl⟩
 rw[hfo] at av a8;simp only at av a8;rw[av.o];have ce:c≠0:=zF _ _ _ _ _ hfo;have af:(c == 0)=false:=by simp[ce]
 clear hfo ce;go_enter Tryz.func60,Tryz.ntmps60;go_wp2_with (go_at_call 90;refine (a8.o _ rfl).m ?_;rintro e W1 ⟨ak,rfl⟩);go_ret3;exact⟨hB.o _ _ ak,rfl⟩
def jN(s:ByteArray):Option Am:=
 if 300<cU s then aY
 else match fO iG (gD s.size s 0) with
  |(_,aX _)=>aY
  |(st,aY)=>if st.d=5/\st.u=[] then st.f.head? else aY
def uQ(s:ByteArray)(w:Wq)(e:Ending)(w':Wq):Prop:=
 cT w.heap.size w w'/\match jN s with
  |none=>e=aQ (aN #[aL #[aK ⟨#[]⟩,aJ aY 0 0],aM false])
  |some a=>∃va,e=aQ (aN #[aL #[aK a.j,va],aM true])/\lO a/\Qg w' w'.heap.size va a.d
def pP(W:Wq)(N:Nat)(x:ByteArray)(v:Vq):Wq:=(W.setCell ⟨N,0,aY⟩ (aK x)).setCell ⟨N,1,aY⟩ v
def xg{w:Wq}(h:cT N w W)(x:ByteArray)(v:Vq):cT N w (pP W N x v):=
 (h.c (p:=⟨N,0,aY⟩) zl _).c (p:=⟨N,1,aY⟩) zl _
def Bu(W:Wq)(N:Nat)(x:ByteArray)(v:Vq):(pP W N x v).heap.size=W.heap.size:=by simp[pP]
def BJ(W:Wq)(N:Nat)(x:ByteArray)(v:Vq){k:Nat}(h:k≠N):(pP W N x v).heap[k]?=W.heap[k]?:=
 (bD _ _ _ _ (by show k≠N;exact h)).t (bD _ _ _ _ (by show k≠N;exact h))
def AH{w:Wq}(z:w.heap.size=N)(A:cT (N+1) (w.alloc (aP #[aK ⟨#[]⟩,aJ aY 0 0] 92)) W):W.heap[N]?=cC #[aK ⟨#[]⟩,aJ aY 0 0] 92:=by have:=zn w (aP #[aK ⟨#[]⟩,aJ aY 0 0] 92);rw[z] at this;exact (A.b N (by lia)).t this
def MG(s:ByteArray)(w:Wq)(hs:s.size<=4611686018427387904)(C:300<cU s):Cs 49 #[aK s] w (uQ s w):=by
 obtain⟨N,hN⟩:=aC w.heap.size;have h:Hid (∀O,Cs 90 #[Pt (N+1),aK s] ((w.alloc (aP #[aK ⟨#[]⟩,aJ aY 0 0] 92)).alloc O) λe w'=>e=aQ (aN #[aO aR 1,aO aR 0])/\cT (N+1) (w.alloc (aP #[aK ⟨#[]⟩,aJ aY 0 0] 92)) w'):=λO=>by refine (GZ s _ _ hs C).m ?_;rintro e w' ⟨M,h2⟩;exact⟨M,(zr.l (by simp;omega) O).t (h2.m (by simp;omega))⟩
 have ha:Hid (jN s=aY):=by show _=_;unfold jN;rw[if_pos C]
 unfold uQ;rw[ha.o];have G:cT N w (w.alloc (aP #[aK ⟨#[]⟩,aJ aY 0 0] 92)):=(bC _ w).l (by omega) _;have A:=aA hN;go_enter eF,eA;go_wp2_with (go_at_call 90;refine (h.o _).m ?_;rintro e W1 ⟨rfl,E⟩;have z:=AH A.o E;have q0:aE W1 (Ad N 0)=aX (aK ⟨#[]⟩):=(by simp[aE,z]);have y0:aF W1 (Ad N 0)=false:=(by simp[aF,z]);have q1:aE W1 (Ad N 1)=aX (aJ aY 0 0):=(by simp[aE,z]);have y1:aF W1 (Ad N 1)=false:=(by simp[aF,z]));refine cZ (v:=aN #[aL #[aK ⟨#[]⟩,aJ aY 0 0],aM false]) (by simp[results,dG,go_sem,q0,q1]) rfl ?_;exact⟨A.o▸xg (G.t (E.m (by omega))) _ _,rfl⟩
theorem AM.i{v:Vq}{a:Am}{l:List Am}(h:AM W ac ae v (a::l))(M:ae<=W.heap.size):∃g c C,v=Sc g (aD l+1) c/\aE W (Ad g 0)=aX (aK a.j)/\aE W (Ad g 1)=aX C/\Qg W W.heap.size C a.d/\g<W.heap.size/\ac<=g:=by
 have⟨ps,h1,h2,h3,h4⟩:=h;cases ps with
 |nil=>simp at h1
 |cons p ps=>
  simp only[List.map_cons,List.cons.injEq] at h1;obtain⟨rfl,rfl⟩:=h1;obtain⟨g,z,rfl,E,G,O,A⟩:=lH h2 (λ_=>rfl) (by simp);refine⟨g,z,p.2,by simp,A 0 0 (by simp) _ (by lia) rfl,A 0 1 (by simp) _ (by lia) rfl,?_,G,E⟩;cases ps with
  |nil=>exact Qg.d (h4 p rfl)
  |cons q qs=>exact (h3 p (by simp)).mono M
theorem MM(s:ByteArray)(w:Wq)(ax:cU s<=300)(hT:dI 0 1 w):Cs 49 #[aK s] w (uQ s w):=by
 obtain⟨N,hN⟩:=aC w.heap.size;obtain⟨z,eu⟩:=aC (w.alloc (aP #[aK ⟨#[]⟩,aJ aY 0 0] 92));have ff:z.heap.size=N+1:=by rw[<-eu,<-hN];simp
 have c7:cT N w z:=eu▸(bC _ w).l (by omega) _
 have fi:=Utf8Tabs_below hT (by rw[hN];exact c7);have G:Hid (∀O,O=aP #[aO aR 0,aJ aY 0 0,aJ aY 0 0,aJ aY 0 0] 179 (0,0)->Cs 90 #[Pt (N+1),aK s] (z.alloc O) (wL s (N+1) (N+1) (z.alloc O))):=by rintro O rfl;exact EZ s z (N+1) (N+1) _ ax fi ff ((bC _ z).l (by omega) _) zl (ff▸zn z _)
 have hB:Hid (∀O W',cT (N+1) (z.alloc O) W'->cT (N+1) z W'):=λO W' h=>((bC _ z).l (by omega) O).t h;have C:Hid (jN s=match fO iG (gD s.size s 0) with|(_,aX _)=>aY|(st,aY)=>if st.d=5/\st.u=[] then st.f.head? else aY):=by show _=_;unfold jN;rw[if_neg (by omega)]
 have Qy:Hid (∀W1,cT (N+1) z W1->W1.heap[N]?=cC #[aK ⟨#[]⟩,aJ aY 0 0] 92):=λW1 hb=>AH hN (by rw[eu];exact hb);have Qd:Hid (∀W1 x v,cT (N+1) z W1->cT w.heap.size w (pP W1 N x v)):=λW1 x v hb=>by rw[hN];exact xg (c7.t (hb.m (by omega))) _ _
 unfold wL at G;clear fi hT c7;rcases hfo:fO iG (gD s.size s 0) with⟨st,_|⟨c,p⟩⟩
 .rw[hfo] at C G;simp only at C G;clear hfo;go_enter eF,eA;go_wp2_with fail;refine (G.o _ rfl).m ?_;rintro e W1 ⟨ak,rfl,hI,bS,hP⟩;have E:=hB.o _ _ ak;have A:=Qy.o W1 E;have q0:aE W1 (Ad N 0)=aX (aK ⟨#[]⟩):=(by simp[aE,A]);have y0:aF W1 (Ad N 0)=false:=(by simp[aF,A]);have M:aE W1 (Ad N 1)=aX (aJ aY 0 0):=(by simp[aE,A]);have y1:aF W1 (Ad N 1)=false:=(by simp[aF,A]);have⟨vr,va,vv,ac,ae,h1,h2,h4,h5,h6,bf,bc,hh,hV,hR,hA⟩:=hP;have c0:aE W1 (Ad (N+1) 0)=aX (aO aR st.d):=zc hh;have c1:aE W1 (Ad (N+1) 1)=aX vr:=zc hh;have c2:aE W1 (Ad (N+1) 2)=aX va:=zc hh;obtain⟨ra,rc,rfl⟩:∃a c,vr=aJ a (aD st.u) c:=by{have⟨qs,M,q2,q3⟩:=hR;have⟨a,c,e⟩:=qq q2;exact⟨a,c,by rw[e,<-M];simp⟩};have HB:=aA E;by_cases h0:st.d=5
  .by_cases d7:st.u=[]
   .rw[if_pos ⟨h0,d7⟩] at C;rw[d7] at c1;rw[h0] at c0;cases ct:st.f with
    |nil=>exact absurd ct (hI.some (by rw[h0];decide))
    |cons a l=>rw[ct] at hA C;have fs:=hI.h a (by rw[ct];simp);obtain⟨g,cc,vx,rfl,d0,d1,ef,hg,Qp2⟩:=hA.i h5;obtain⟨xa,xc,rfl⟩:=ef.c;have g7:Hid (Qg (pP W1 N a.j (aJ xa (aD a.d) xc)) (pP W1 N a.j (aJ xa (aD a.d) xc)).heap.size (aJ xa (aD a.d) xc) a.d):=by{show Qg _ _ _ _;rw[Bu];refine ef.o (λk c _ hc=>(BJ _ _ _ _ (λe=>?_)).t hc);rw[e,A] at hc;cases hc};have g0:=aA fs;simp only[List.head?_cons] at C;simp only[cA] at c1;clear h1 h2 h4 h5 h6 bf bc hV hR hI hh ak hA ef fs E A;go_wp2;refine cZ (v:=aN #[aL #[aK a.j,aJ xa (aD a.d) xc],aM true]) (by simp[results,dG,go_sem,q0,M]) rfl ?_;exact⟨Qd.o _ _ _ HB.o,C.o▸⟨_,rfl,g0.o,g7.o⟩⟩
   rw[if_neg (λh=>d7 h.2)] at C;rw[h0] at c0;have bi:(0:Int)<(aD st.u:Int):=by{have:=List.length_pos_iff.2 d7;omega};clear h1 h2 h4 h5 h6 bf bc hV hR hI hh ak hA E A;go_wp2;refine cZ (v:=aN #[aL #[aK ⟨#[]⟩,aJ aY 0 0],aM false]) (by simp[results,dG,go_sem,q0,M]) rfl ?_;exact⟨Qd.o _ _ _ HB.o,by rw[C.o]⟩
  rw[if_neg (λh=>h0 h.1)] at C;clear h1 h2 h4 h5 h6 bf bc hV hR hI hh ak hA E A;go_wp2;refine cZ (v:=aN #[aL #[aK ⟨#[]⟩,aJ aY 0 0],aM false]) (by simp[results,dG,go_sem,q0,M]) rfl ?_;exact⟨Qd.o _ _ _ HB.o,by rw[C.o]⟩
 rw[hfo] at C G;simp only at C G;have ce:c≠0:=zF _ _ _ _ _ hfo;clear hfo;go_enter eF,eA;go_wp2_with fail;refine (G.o _ rfl).m ?_;rintro e W1 ⟨ak,rfl⟩;have E:=hB.o _ _ ak;have A:=Qy.o W1 E;have q0:aE W1 (Ad N 0)=aX (aK ⟨#[]⟩):=(by simp[aE,A]);have y0:aF W1 (Ad N 0)=false:=(by simp[aF,A]);have M:aE W1 (Ad N 1)=aX (aJ aY 0 0):=(by simp[aE,A]);have y1:aF W1 (Ad N 1)=false:=(by simp[aF,A]);clear A;go_wp2;refine cZ (v:=aN #[aL #[aK ⟨#[]⟩,aJ aY 0 0],aM false]) (by simp[results,dG,go_sem,q0,M]) rfl ?_;exact⟨Qd.o _ _ _ E,by rw[C.o]⟩
def DP(s:ByteArray)(w:Wq)(hs:s.size<=4611686018427387904)(A:dI 0 1 w):Cs 49 #[aK s] w (uQ s w):=by
 by_cases z:300<cU s
 .exact MG s w hs z
 grind [MM]
