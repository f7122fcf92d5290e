/- A part -/
import Derived.Test.YtjajnhemgphefaaGreatDoorJRefK
import Derived.Deep.RegionLawGrows
import Derived.Maps.AppendAt
import Derived.BigQuiet
import Derived.BigRegion
set_option linter.all false
set_option maxRecDepth 100000
set_option maxHeartbeats 2000000
open List renaming length->aB,eq_nil_of_length_eq_zero->aX,getElem?_take->aZ
open Go.World renaming cell?->aC,frozen?->aD,ownsRow->aE,setCell->aU
open Go.Value renaming ownBlock->aF,slice->aH,string->aI,agg->aJ,bool->aK,tuple->aL,int->aM
open Go.Obj renaming cells->aN
open Go.Ending renaming returned->aO
open Go.IntKind renaming i64->aP
open Or renaming inl->aQ,inr->aR
open Option renaming some->aV,none->aW
open Nat renaming lt_of_lt_of_le->aY,zero_add->bF,le_trans->bG
open Go.RowKit.Below renaming heap_setCell->bB,heap_alloc->bC,refl->bD
open ByteArray renaming empty->bE,size->bH
namespace Go.Proofs.YtjajnhemgphefaaGreatDoor
open Go renaming World->Wq,Value->Vq
open Go.RowKit Go.Shelf
variable {t:TypeId} {b g ac af:Nat} {W W':Wq} {l:List Tm}
def mO(l:List Tm):List Vq:=l.flatMap iV
def fF(p:Am×Vq):List Vq:=[aI p.1.rel,p.2]
def nC(q:Rl×Vq×Vq):List Vq:=[aI q.1.head.rel,q.2.1,q.2.2]
theorem Cd(l:List (Am×Vq)):aB (l.flatMap fF)=aB l*2:=by
 induction l with
 |nil=>rfl
 |cons t l ih=>simp[fF] at ih ⊢;omega
def Qh(W:Wq)(b:Nat)(v:Vq)(l:List Tm):Prop:=
 (l=[]/\v=aH aW 0 0)\/
 ∃(g cap:Nat) (ab:Array Vq),v=aH (aV ⟨g,0,aW⟩) (aB l) cap/\g<b/\W.heap[g]?=aV (aN ab 166)/\ab.toList.take (aB l*2)=mO l
def eW(W:Wq)(ac af:Nat)(v:Vq)(l:List Am):Prop:=
 ∃(ps:List (Am×Vq)) (a:Option Addr) (cap:Nat),ps.map (·.1)=l/\v=aH a (aB l) cap/\((∀p∈ps,Qh W af p.2 p.1.args)/\aB l<=cap)/\
  (l≠[]->∃(g am:Nat) (ab:Array Vq),a=aV ⟨g,am,aW⟩/\g<ac/\W.heap[g]?=aV (aN ab 92)/\(ab.toList.drop am).take (aB l*2)=ps.flatMap fF)
def uU(W:Wq)(ac af:Nat)(v:Vq)(l:List Am):Prop:=
 ∃ps:List (Am×Vq),ps.map (·.1)=l/\aE W ac 92 2 v (aB ps) (ps.flatMap fF)/\(∀p∈ps.dropLast,Qh W af p.2 p.1.args)/\
  (∀p,ps.getLast?=aV p->aE W af 166 2 p.2 (aB p.1.args) (mO p.1.args))
def Qn(W:Wq)(ae ac af:Nat)(v:Vq)(l:List Rl):Prop:=
 ∃qs:List (Rl×Vq×Vq),qs.map (·.1)=l/\aE W ae 136 3 v (aB qs) (qs.flatMap nC)/\∀q∈qs,Qh W af q.2.1 q.1.head.args/\eW W ac af q.2.2 q.1.body
def jD(t:TypeId)(b:Nat)(W W':Wq):Prop:=∀(k:Nat) (c:Array Vq),k<b->W.heap[k]?=aV (aN c t (0,0))->W'.heap[k]?=aV (aN c t (0,0))
theorem jD.other{u:TypeId}{c:Array Vq}{C:Nat×Nat}(h:W.grownBy W' (aV g))(E:W.heap[g]?=aV (aN c u C))(A:t≠u):jD t b W W':=λk d _ z=>
 (h.block k (zg z).1 (by intro e;cases e;rw[E] at z;cases z;exact A rfl)).trans z
theorem jD.above(h:W.grownBy W' (aV g))(A:b<=g):jD t b W W':=λk d C z=>(h.block k (zg z).1 (by intro e;cases e;omega)).trans z
theorem Qh.kept{v:Vq}(h:Qh W b v l)(G:jD 166 b W W'):Qh W' b v l:=by
 rcases h with h|⟨g,d,ab,A,z,C,E⟩
 .exact aQ h
 .exact aR ⟨g,d,ab,A,z,G g ab z C,E⟩
theorem Qh.mono{b':Nat}{v:Vq}(h:Qh W b v l)(G:b<=b'):Qh W b' v l:=by
 rcases h with h|⟨g,d,ab,z,E,A,C⟩
 .exact aQ h
 .exact aR ⟨g,d,ab,z,by omega,A,C⟩
theorem eW.kept{v:Vq}{l:List Am}(h:eW W ac af v l)(A:jD 92 ac W W')(z:jD 166 af W W'):eW W' ac af v l:=by have⟨ps,a,cap,h1,h2,h3,h4⟩:=h;refine⟨ps,a,cap,h1,h2,⟨λp C=>(h3.1 p C).kept z,h3.2⟩,λd=>?_⟩;have⟨g,am,ab,e1,e2,e3,e4⟩:=h4 d;exact⟨g,am,ab,e1,e2,A g ab e2 e3,e4⟩
theorem eW.mono{d z:Nat}{v:Vq}{l:List Am}(h:eW W ac af v l)(cl:ac<=d)(C:af<=z):eW W d z v l:=by have⟨ps,a,cap,h1,h2,h3,h4⟩:=h;refine⟨ps,a,cap,h1,h2,⟨λp E=>(h3.1 p E).mono C,h3.2⟩,λA=>?_⟩;have⟨g,am,ab,e1,e2,e3,e4⟩:=h4 A;exact⟨g,am,ab,e1,by omega,e3,e4⟩
theorem Qh.ofOwns{v:Vq}(h:aE W b 166 2 v (aB l) (mO l)):Qh W W.heap.size v l:=by
 obtain⟨_,⟨z,E⟩|⟨g,d,ab,z,Z,A,G,M,O,C⟩⟩:=h
 .exact aQ ⟨aX E,z⟩
 .exact aR ⟨g,d,ab,z,(zg A).1,A,C⟩
theorem Qc{e size n:Nat}{v:Vq}{xs:List Vq}(h:aE W b e size v n xs)(Z:∀g c,aF v=aV g->W.heap[g]?=cC c e->W'.heap[g]?=cC c e):aE W' b e size v n xs:=by
 obtain⟨h0,⟨d,hn⟩|⟨g,z,ab,d,M,O,A,C,E,G⟩⟩:=h
 .exact⟨h0,aQ ⟨d,hn⟩⟩
 .exact⟨h0,aR ⟨g,z,ab,d,M,Z g ab (by rw[d];rfl) O,A,C,E,G⟩⟩
theorem pV{P:Program}{G:Array Oper}{o:Oper}{a:Act}{w:Wq}{K:Act->Wq->Prop}{Q:Exit->Act->Wq->Prop}{E:Prop}(hg:o.guard=aW)(s x:Operand)(t:TypeId)(bu:o.op=Op.call {callee:=Callee.builtin Builtin.append,args:=#[s,x],argTypes:=#[t,t]})(ae:Nat)(e:TypeId)(i:TypeInfo)(z:Vq)(size d:Nat)(h1:P.underlying t=aV (.slice e))(h2:P.info? e=aV i)(h3:i.zero=aV z)(h4:i.size=size)(h5:i.bytes=d)(h6:z.cells.size=size)(h7:0<size)(v:Vq)(n:Nat)(xs:List Vq)(hs:a.eval s=v)(qt:aE w ae e size v n xs)(ad:Addr)(m c:Nat)(A:List Vq)(hx:a.eval x=aH (aV ad) m c)(hn:aB A=m*size)(hc:∀j u,A[j]?=aV u->aC w (ad.add j)=aV u)(M:∀u∈A,u.oneCell'=true)(O:n+m<=maxLen)(Z:(n+m)*d<=140737488355328)(bq:ae<=w.heap.size)(hK:∀C w',aE w' ae e size C (n+m) (xs++A)->w.grownBy w' (aF v)->K (a.put o.dst C) w'):if Region.wanted o (yielded G a.tmps)=true then Oper.wp P o a w K Q else E:=by
 have hw:Region.wanted o (yielded G a.tmps)=true:=by simp[Region.wanted,hg]
 rw[if_pos hw];have⟨C,w',b7,r1,r2,_⟩:=run_append_own (P:=P) w ae t o.type e i z size d h1 h2 h3 h4 h5 h6 h7 v n xs qt ad m c A hn hc M O Z bq;unfold Oper.wp;simp[execOp,bu,resolve,invoke,builtin,hs,hx,b7,Result.andThen];exact hK C w' r1 r2
end Go.Proofs.YtjajnhemgphefaaGreatDoor
namespace Go.Proofs.YtjajnhemgphefaaGreatDoor
open Go renaming World->Wq,Value->Vq
theorem jQ(x:ByteArray):x.toList=x.data.toList:=by grind [ByteArray.toList_eq]
theorem tt(x y:ByteArray):dO x y=true↔x=y:=by
 unfold dO;constructor
 .intro h;have d:y.toList=x.toList:=by{simpa using h};rw[jQ,jQ] at d;have z:=Array.toList_inj.1 d
  cases x;cases y;simp at z;rw[z]
 .grind
theorem wj(x y:ByteArray):dO x y=(y.data.toList == x.data.toList):=by unfold dO;rw[jQ,jQ]
structure eD where
 st:Int
 rules:List Rl
 atoms:List Am
 vars:List ByteArray
def Qz(st k:Int):Bool:=
 if st=0\/st=1 then k == 1 else if st=2 then k == 3 else if st=3 then (k == 1 || k == 2) else if st=4 then (k == 5 || k == 4)
 else if st=5 then (k == 7 || k == 6) else if st=6 then (k == 5 || k == 6) else false
def Qb(st runes:Int)(nr na m:Nat):Bool:=
 if 8<runes then true else if st=0 then nr == 8 else if st=1 then na == 4 else if st=3 then m == 2 else false
def kJ(l:List Am)(x:Tm):List Am:=
 match l.getLast? with
 |some a=>l.dropLast++[{a with args:=a.args++[x]}]
 |none=>l
def Qw(l:List Am):Nat:=match l.getLast? with|some a=>aB a.args|none=>0
def gE(vs:List ByteArray)(k:Int)(t:ByteArray):Tm:=if k=1 then ⟨t,0⟩ else ⟨⟨#[]⟩,dS vs t⟩
def gT(vs:List ByteArray)(k:Int)(t:ByteArray):List ByteArray:=if k=1 then vs else Qq vs t
def jR(s:eD)(k:Int)(t:ByteArray):eD:=
 if s.st=3 then {s with st:=4,atoms:=kJ s.atoms (gE s.vars k t),vars:=gT s.vars k t}
 else {s with st:=2,atoms:=s.atoms++[⟨t,[]⟩]}
def jm(s:eD):eD:=
 match s.atoms with
 |a::l=>{st:=0,rules:=s.rules++[⟨a,l⟩],atoms:=[],vars:=[]}
 |[]=>s
def mD(s:eD):eD:={s with st:=if aB s.atoms=1 then 5 else 6}
def dQ(s:eD)(k:Int)(t:ByteArray):eD:=
 if k=1\/k=2 then jR s k t
 else if k=3 then {s with st:=3}
 else if k=4 then mD s
 else if k=5 then {s with st:=if s.st=4 then 3 else 1}
 else if k=7 then {s with st:=1}
 else if k=6 then jm s
 else s
def dX(s:eD)(k:Int)(t:ByteArray)(r:Int):Int×eD:=
 if Qz s.st k=false then (2,s)
 else if Qb s.st r (aB s.rules) (aB s.atoms) (Qw s.atoms)=true then (3,s)
 else (0,dQ s k t)
def Q5:eD->List eE->eD×Option (Int×Nat)
 |s,[]=>(s,aW)
 |s,x::l=>if (dX s x.kind x.text x.runes).1=0 then Q5 (dX s x.kind x.text x.runes).2 l else (s,aV ((dX s x.kind x.text x.runes).1,x.place))
def eX:eD:=⟨0,[],[],[]⟩
def jA(s:ByteArray):Except (Int×Nat) (List Rl):=
 match Q5 eX (eA s.size s 0) with
 |(_,aV ep)=>.error ep
 |(st,aW)=>if st.st=0 then .ok st.rules else .error (2,Lib.runeCount s)
theorem tU:∀(l:List eE) (s d:eD) (c:Int) (p:Nat),Q5 s l=(d,aV (c,p))->c≠0
 |[],s,d,c,p,h=>by simp[Q5] at h
 |x::l,s,d,c,p,h=>by
  unfold Q5 at h;split at h;{exact tU l _ _ _ _ h};{grind}
structure oq(t:Tm):Prop where
 name:t.name.size<=1200
 num:t.num<=50
structure kC(a:Am):Prop where
 rel:a.rel.size<=1200
 args:aB a.args<=2
 tms:∀t∈a.args,oq t
structure iS(r:Rl):Prop where
 head:kC r.head
 body:aB r.body<=3
 ams:∀a∈r.body,kC a
structure kZ(s:eD):Prop where
 rules:aB s.rules<=8
 atoms:aB s.atoms<=4
 ams:∀a∈s.atoms,kC a
 zero:s.st=0->s.atoms=[]
 some:s.st≠0->s.atoms≠[]
 room:s.st≠0->aB s.rules<8
 good:∀r∈s.rules,iS r
 vars:aB s.vars<=(s.atoms.map (·.args.length)).sum
theorem Ie(l:List Am)(h:∀a∈l,aB a.args<=2):(l.map (·.args.length)).sum<=2*aB l:=by
 induction l with
 |nil=>simp
 |cons a l ih=>grind
theorem kZ.few{s:eD}(h:kZ s):aB s.vars<=8:=by have z:=Ie s.atoms (λa d=>(h.ams a d).args);have A:=h.vars;have C:=h.atoms;omega
theorem uQ(l:List Am)(a:Am)(x:Tm):kJ (l++[a]) x=l++[{a with args:=a.args++[x]}]:=by unfold kJ;simp
theorem yz(l:List Am)(x:Tm):aB (kJ l x)=aB l:=by grind [kJ]
theorem xH(l:List Am)(h:l≠[]):∃p a,l=p++[a]:=⟨l.dropLast,l.getLast h,(List.dropLast_concat_getLast h).symm⟩
theorem Fq(vs:List ByteArray)(x:ByteArray):dS vs x<=aB vs:=List.findIdx_le_length
theorem za(vs:List ByteArray)(x:ByteArray):aB (Qq vs x)<=aB vs+1:=by grind [Qq]
theorem Ai(s:eD)(k:Int)(t:ByteArray)(r:Int)(ht:t.size<=1200)(h:kZ s)(h0:(dX s k t r).1=0):kZ (dX s k t r).2:=by
 have c1:=h.few;have⟨i1,i2,i3,i4,i5,i6,i7,i8⟩:=h;unfold dX at h0 ⊢;by_cases O:Qz s.st k=false
 .grind
 rw[if_neg O] at h0 ⊢;by_cases M:Qb s.st r (aB s.rules) (aB s.atoms) (Qw s.atoms)=true
 .grind
 rw[if_neg M];clear h0;have d:Qz s.st k=true:=by simpa using O
 have E:Qb s.st r (aB s.rules) (aB s.atoms) (Qw s.atoms)=false:=by simpa using M
 clear O M;unfold Qb at E;split at E
 .cases E
 show kZ (dQ s k t);unfold Qz at d
 have ct:s.st≠0->kZ (jm s):=by
  intro h0;have ag:=i5 h0;have hr:=i6 h0;unfold jm;split
  .rename_i a0 al cf;rw[cf] at i2 i3;refine⟨by simp;omega,by simp,by simp,λ_=>rfl,λe=>absurd rfl e,λe=>absurd rfl e,λq G=>?_,by simp⟩;simp at G;rcases G with G|rfl
   .exact i7 q G
   .exact⟨i3 _ (by simp),by simp at i2;exact i2,λb C=>i3 b (by simp[C])⟩
  .grind
 have cn:s.st≠0->∀x:Int,x≠0->kZ {s with st:=x}:=λh0 x A=>⟨i1,i2,i3,λe=>absurd e A,λ_=>i5 h0,λ_=>i6 h0,i7,i8⟩;split at d
 .rename_i Z;obtain rfl:k=1:=by{grind};have:dQ s 1 t={s with st:=2,atoms:=s.atoms++[⟨t,[]⟩]}:=by{grind [dQ,jR]};rw[this];refine⟨i1,?_,?_,λe=>by simp at e,λ_=>by simp,λ_=>?_,i7,by simpa using i8⟩;{grind}
  .intro a z;simp at z;rcases z with z|rfl
   .exact i3 a z
   .exact⟨ht,by simp,by simp⟩
  .grind
 split at d
 .grind [dQ]
 split at d
 .rename_i _ _ Z;have hk:k=1\/k=2:=by{grind};have:dQ s k t={s with st:=4,atoms:=kJ s.atoms (gE s.vars k t),vars:=gT s.vars k t}:=by{grind [dQ,jR]};rw[this];simp[Z] at E;have⟨p,a,a8⟩:=xH s.atoms (i5 (by omega));have cu:Qw s.atoms=aB a.args:=by{grind [Qw]};have z:=i3 a (by rw[a8];simp);have cy:=z.args
  have cj:oq (gE s.vars k t):=by
   unfold gE;split;{exact⟨ht,by simp⟩};{exact⟨by simp[bH],by have:=Fq s.vars t;simp only;omega⟩}
  have cz:aB (gT s.vars k t)<=aB s.vars+1:=by{grind [gT,za]};rw[a8,uQ];rw[a8] at i2 i8;have cw:aB s.vars<=(p.map (·.args.length)).sum+aB a.args:=by{simpa using i8};refine⟨i1,by simpa using i2,?_,λe=>by simp at e,λ_=>by simp,λ_=>i6 (by omega),i7,?_⟩
  .intro b C;simp at C;rcases C with C|rfl
   .grind
   .refine⟨z.rel,by simp;omega,λx A=>?_⟩;simp at A;rcases A with A|rfl
    .exact z.tms x A
    .exact cj
  .simp;omega
 split at d
 .grind [dQ,mD]
 split at d
 .grind [dQ]
 split at d
 .grind [dQ]
 .cases d
theorem xP(s:eD)(pre l:List eE)(d:eD)(h:Q5 s pre=(d,aW)):Q5 s (pre++l)=Q5 d l:=by
 induction pre generalizing s with
 |nil=>simp[Q5] at h;rw[h];rfl
 |cons x pre ih=>grind [Q5]
end Go.Proofs.YtjajnhemgphefaaGreatDoor
namespace Go.Proofs.YtjajnhemgphefaaGreatDoor
open Go renaming World->Wq,Value->Vq
open Go.RowKit Go.Shelf
variable {W a:Wq} {b e size:Nat} {vs:List ByteArray} {ex:Nat->Prop} {xs ys:List Vq} {x y:Vq}
theorem Ek(d:Nat)(st k:Int)(w:Wq)(z:aC w (Ad d 0)=aV (aM aP st)):Cs 195 #[Pt d,aM aP k] w λe w'=>e=aO (aK (Qz st k))/\w'=w:=by
 go_enter Tryz.func195,Tryz.ntmps195;go_wp2
 all_goals
  go_ret;exact⟨ie (by simp_all [Qz]),rfl⟩
theorem I4(d:Nat)(st:Int)(C E:Vq)(a:Option Addr)(n c:Nat)(w:Wq)(z:w.heap[d]?=cC #[aM aP st,C,aH a n c,E] 179):Cs 234 #[Pt d] w λe w'=>e=aO (aL #[])/\w'=w.setCell (Ad d 0) (aM aP (if n=1 then 5 else 6)):=by
 have h0:aC w (Ad d 0)=aV (aM aP st):=zc z;have M:aC w (Ad d 2)=aV (aH a n c):=zc z;have O:aD w (Ad d 0)=false:=by simp[aD,z]
 clear z;by_cases A:n=1
 .subst A;go_enter Tryz.func234,Tryz.ntmps234;go_wp2
  go_end0
  exact⟨rfl,rfl⟩
 .have G:((n:Int) == 1)=false:=by{simp;omega};go_enter Tryz.func234,Tryz.ntmps234;go_wp2
  go_end0
  exact⟨rfl,rfl⟩
theorem DY(d:Nat)(st:Int)(E C G:Vq)(w:Wq)(z:w.heap[d]?=cC #[aM aP st,E,C,G] 179):Cs 235 #[Pt d] w λe w'=>e=aO (aL #[])/\w'=w.setCell (Ad d 0) (aM aP (if st=4 then 3 else 1)):=by
 have h0:aC w (Ad d 0)=aV (aM aP st):=zc z;have O:aD w (Ad d 0)=false:=by simp[aD,z]
 clear z;by_cases A:st=4
 .subst A;go_enter Tryz.func235,Tryz.ntmps235;go_wp2
  go_end0
  exact⟨rfl,rfl⟩
 .have M:(st == 4)=false:=by{simp[A]};go_enter Tryz.func235,Tryz.ntmps235;go_wp2
  go_end0
  exact⟨rfl,rfl⟩
theorem zW(d:Nat)(st:Int)(A C:Vq)(g n c:Nat)(M:1<=n)(G:n<=1000)(w:Wq)(z:w.heap[d]?=cC #[aM aP st,A,Sc g n c,C] 179):Cs 232 #[Pt d] w λe w'=>e=aO (.pointer (aV ⟨g,(n-1)*2,aW⟩))/\∃q,w'=w.drewN q:=by
 have E:aC w (Ad d 2)=aV (Sc g n c):=zc z;clear z;have O:(0:Int)<=(n:Int)-1:=by omega
 have Z:(n:Int)-1<(n:Int):=by omega
 go_enter Tryz.func232,Tryz.ntmps232;go_wp2;go_quiet (fail);go_wp2;go_ret;exact⟨rfl,_,rfl⟩
theorem Ay(A:Nat)(st:Int)(E:Option Addr)(C O:Nat)(aa:Option Addr)(z M:Nat)(vv:Vq)(at':Option Addr)(m cm:Nat)(k:Int)(t:ByteArray)(p r:Int)(hb:z<=1000)(w:Wq)(d:w.heap[A]?=cC #[aM aP st,aH E C O,aH aa z M,vv] 179)(G:st=3->1<=z/\∃g,aa=aV ⟨g,0,aW⟩/\aC w (Ad g ((z-1)*2+1))=aV (aH at' m cm)/\g<w.heap.size):Cs 196 #[Pt A,dU k t p r] w λe w'=>e=aO (aK (Qb st r C z m))/\∃q,w'=(w.alloc (aN (fL k t p r) 191)).drewN q:=by
 have ao:A<w.heap.size:=(zg d).1;have h0:aC w (Ad A 0)=aV (aM aP st):=zc d;have h1:aC w (Ad A 1)=aV (aH E C O):=zc d;have h2:aC w (Ad A 2)=aV (aH aa z M):=zc d;unfold dU fL;by_cases hr:8<r
 .clear G d;go_enter Tryz.func196,Tryz.ntmps196;go_wp2;go_ret;exact⟨ie (by simp[Qb,hr]),0,rfl⟩
 .by_cases Z:st=3
  .obtain⟨ch,g,rfl,bf,co⟩:=G Z;subst Z;have cb:(w.alloc (aN #[aM aP k,aI t,aM aP p,aM aP r] 191)).heap[A]?=cC #[aM aP 3,aH E C O,Sc g z M,vv] 179:=by{rw[bC _ _ _ ao];exact d};have ag:g≠w.heap.size:=by{omega};have Ql3:aC (w.alloc (aN #[aM aP k,aI t,aM aP p,aM aP r] 191)) (Ad g ((z-1)*2+1))=aV (aH at' m cm):=cell_later ((bD w.heap.size w).alloc zl _) bf;clear d bf;go_enter Tryz.func196,Tryz.ntmps196
   go_wp2_with (go_at_call 232;refine (zW _ _ _ _ _ _ _ ch hb _ cb).mono ?_;rintro e w' ⟨rfl,q,rfl⟩)
   go_ret;exact⟨ie (by rw[Bool.eq_iff_iff];simp[Qb];omega),_,rfl⟩
  .have cx:(st == 3)=false:=by{simp[Z]};clear G d;go_enter Tryz.func196,Tryz.ntmps196;go_wp2
   all_goals
    go_ret;exact⟨ie (by rw[Bool.eq_iff_iff];simp_all [Qb]<;>omega),0,rfl⟩
theorem tX{v:Vq}(h:aE W b 9 1 v (aB vs) (vs.map aI))(hl:aB vs<=1000)(x:ByteArray):Cs 140 #[v,aI x] W λe w'=>e=aO (aK (Lib.containsS vs x))/\w'=W:=by
 obtain⟨_,⟨z,C⟩|⟨g,d,ab,z,hb,E,G,M,O,Z⟩⟩:=h
 .have:vs=[]:=aX C;subst this;rw[z];exact Tryz.slices_Contains_string_empty aW 0 x W
 .rw[z]
  have:=Tryz.slices_Contains_string g 0 (aB vs) d vs x W zl (by omega) (λj hj=>by
   simp only[aC,E,bF];have A:(ab.toList.take (aB vs*1))[j]?=aV (aI (vs.getD j bE)):=by{grind};rw[aZ,if_pos (by omega)] at A
   simpa using A)
  simpa using this
theorem Iz{v:Vq}(h:aE W b 9 1 v (aB vs) (vs.map aI))(hl:aB vs<=1000)(x:ByteArray):Cs 191 #[v,aI x] W λe w'=>e=aO (aM aP (Lib.idxOfS vs x))/\w'=W:=by
 obtain⟨_,⟨z,C⟩|⟨g,d,ab,z,hb,E,G,M,O,Z⟩⟩:=h
 .have:vs=[]:=aX C;subst this;rw[z];exact Tryz.slices_Index_string_empty aW 0 x W
 .rw[z]
  have:=Tryz.slices_Index_string g 0 (aB vs) d vs x W zl (by omega) (λj hj=>by
   simp only[aC,E,bF];have A:(ab.toList.take (aB vs*1))[j]?=aV (aI (vs.getD j bE)):=by{grind};rw[aZ,if_pos (by omega)] at A
   simpa using A)
  simpa using this
theorem Tryz.info9:(Tryz.prog.info? 9).map (λi=>(i.zero,i.size,i.bytes))=aV (aV (aI ⟨#[]⟩),1,16):=by kernel_rfl
structure dD(w w':Wq)(ex:Nat->Prop):Prop where
 os:w'.os=w.os
 tape:w'.tape=w.tape
 output:w'.output=w.output
 size:w.heap.size<=w'.heap.size
 block:∀k,k<w.heap.size->¬ex k->w'.heap[k]?=w.heap[k]?
theorem dD.refl(w:Wq)(ex:Nat->Prop):dD w w ex:=⟨rfl,rfl,rfl,Nat.le_refl _,λ_ _ _=>rfl⟩
theorem dD.trans{b c:Wq}(h:dD a b ex)(k:dD b c ex):dD a c ex:=
 ⟨k.os.trans h.os,k.tape.trans h.tape,k.output.trans h.output,bG h.size k.size,λi d z=>(k.block i (aY d h.size) z).trans (h.block i d z)⟩
theorem dD.mono{b:Wq}{ax:Nat->Prop}(h:dD a b ex)(A:∀k,k<a.heap.size->ex k->ax k):dD a b ax:=
 ⟨h.os,h.tape,h.output,h.size,λi d z=>h.block i d (λe=>z (A i d e))⟩
theorem dD.drew{b:Wq}(h:dD a b ex):dD a b.drew ex:=⟨h.os,h.tape,h.output,h.size,h.block⟩
theorem dD.alloc{b:Wq}(h:dD a b ex)(o:Obj):dD a (b.alloc o) ex:=
 ⟨h.os,h.tape,h.output,by have:=h.size;simp;omega,λi d z=>(bC b o i (aY d h.size)).trans (h.block i d z)⟩
theorem dD.setCell{b:Wq}(h:dD a b ex)(p:Addr)(v:Vq)(A:p.block<a.heap.size->ex p.block):dD a (b.setCell p v) ex:=
 ⟨h.os,h.tape,h.output,by have:=h.size;have e:(b.setCell p v).heap.size=b.heap.size:=(by simp);omega,λi d z=>(bB b p v i (λe=>z (by rw[e] at d ⊢;exact A d))).trans (h.block i d z)⟩
theorem dD.grown{b c:Wq}{row:Option Nat}(h:dD a b ex)(d:b.grownBy c row)(C:∀k,row=aV k->k<a.heap.size->ex k):dD a c ex:=
 ⟨d.os.trans h.os,d.tape.trans h.tape,d.output.trans h.output,bG h.size d.size,
  λi z A=>(d.block i (aY z h.size) (λe=>A (C i e.symm z))).trans (h.block i z A)⟩
theorem dD.below{b:Wq}{B:Nat}(h:dD a b ex)(d:B<=a.heap.size)(A:∀k,ex k->B<=k):Below B a b:=
 ⟨h.os,h.tape,h.output,h.size,λk z=>h.block k (aY z d) (λe=>by have:=A k e;omega)⟩
theorem dD.ofBelow{b:Wq}(ex:Nat->Prop)(h:Below a.heap.size a b):dD a b ex:=⟨h.os,h.tape,h.output,h.size,λk d _=>h.block k d⟩
theorem Tryz.info45:(Tryz.prog.info? 92).map (λi=>(i.zero,i.size,i.bytes))=aV (aV (aJ #[aI ⟨#[]⟩,aH aW 0 0]),2,40):=by kernel_rfl
theorem Tryz.info87:(Tryz.prog.info? 166).map (λi=>(i.zero,i.size,i.bytes))=aV (aV (aJ #[aI ⟨#[]⟩,aM aP 0]),2,24):=by kernel_rfl
theorem Tryz.info48:(Tryz.prog.info? 136).map (λi=>(i.zero,i.size,i.bytes))=aV (aV (aJ #[aI ⟨#[]⟩,aH aW 0 0,aH aW 0 0]),3,64):=by kernel_rfl
theorem qw{w:Wq}{c:Array Vq}{t:TypeId}{d:Nat×Nat}(h:w.heap[b]?=aV (aN c t d))(o:Nat)(v:Vq):(w.setCell (Ad b o) v).heap[b]?=aV (aN (c.setIfInBounds o v) t d):=by simp[aU,Array.getElem?_modify,h]
theorem Qe{w:Wq}{n:Nat}{v:Vq}(h:aE w b e size v n xs){k:Nat}{c:Array Vq}{u:TypeId}{G:Nat×Nat}(M:w.heap[k]?=aV (aN c u G))(C:u≠e):∀g,aF v=aV g->g≠k:=by
 intro g d e';obtain⟨_,⟨z,O⟩|⟨g',E,ab,z,_,A,_⟩⟩:=h
 .rw[z] at d;simp[aF] at d
 .rw[z] at d;simp[aF] at d;rw[d,e',M] at A;simp at A;exact C A.2.1
theorem Qk{w:Wq}{n:Nat}{v:Vq}(h:aE w b e size v n xs)(a:Addr)(u:Vq)(d:∀g,aF v=aV g->g≠a.block):aE (w.setCell a u) b e size v n xs:=
 Qc h (λg c A z=>(bB w a u g (d g A)).trans z)
theorem EI{w w1:Wq}{d n:Nat}{A:Int}{C Z:Array Vq}{z:Vq}{j:Nat}(M:179≠e)(O:ex d)(E:w1.heap[d]?=cC C 179)(hz:(C.setIfInBounds j z).setIfInBounds 0 (aM aP A)=Z)(G:aE w1 b e size z n xs)(hc:dD w w1 ex):((w1.setCell (Ad d j) z).setCell (Ad d 0) (aM aP A)).heap[d]?=cC Z 179/\
  aE ((w1.setCell (Ad d j) z).setCell (Ad d 0) (aM aP A)) b e size z n xs/\dD w ((w1.setCell (Ad d j) z).setCell (Ad d 0) (aM aP A)) ex:=by
 refine⟨by rw[<-hz];exact qw (qw E j z) 0 _,?_,(hc.setCell _ _ (λ_=>O)).setCell _ _ (λ_=>O)⟩;exact Qk (Qk G _ _ (Qe G E M)) _ _ (Qe G E M)
theorem ug(s:ByteArray)(w:Wq)(hs:s.size<=1000000):Cs 97 #[aI s] w λe w'=>e=aO (aI s)/\Below w.heap.size w w':=by
 have h:=λW=>Tryz.stringslite_Clone s W (by omega);go_enter Tryz.func97,Tryz.ntmps97
 go_wp2_with (go_at_call 162;refine (h _).mono ?_;rintro e w' ⟨rfl,d⟩)
 go_ret;exact⟨rfl,d⟩
theorem GP(d:Nat)(st:Int)(M C vv:Vq)(n ac:Nat)(xs:List Vq)(k:Int)(t:ByteArray)(p r:Int)(av:st≠3)(hn:n<=1000)(ht:t.size<=1000000)(w:Wq)(b9:ac<=w.heap.size)(A:w.heap[d]?=cC #[aM aP st,M,C,vv] 179)(G:aE w ac 92 2 C n xs):Cs 233 #[Pt d,dU k t p r] w λe w'=>e=aO (aL #[])/\
   ∃v',w'.heap[d]?=cC #[aM aP 2,M,v',vv] 179/\aE w' ac 92 2 v' (n+1) (xs++[aI t,aH aW 0 0])/\dD w w' (λj=>j=d\/aV j=aF C):=by
 have ao:d<w.heap.size:=(zg A).1;have h0:aC w (Ad d 0)=aV (aM aP st):=zc A;have h2:aC w (Ad d 2)=aV C:=zc A;have cq:(st == 3)=false:=by simp[av]
 have⟨i0,hi,bk,b3,b5⟩:=info_parts Tryz.info45;unfold dU fL
 obtain⟨a,c,rfl⟩:∃a c,C=aH a n c:=by
  obtain⟨_,⟨hv,hn⟩|⟨g,cap,ab,hv,_⟩⟩:=G;{exact⟨aW,0,by rw[hv,hn]⟩};{exact⟨_,_,hv⟩}
 have Qdy:∀g,aF (aH a n c)=aV g->g≠d:=Qe G A (by decide);obtain⟨W0,az⟩:∃W0,(w.alloc (aN #[aM aP k,aI t,aM aP p,aM aP r] 191)).drew=W0:=⟨_,rfl⟩;have a7:Below w.heap.size w W0:=by rw[<-az];exact ((bD _ w).alloc zl _).drew
 have bv:W0.heap.size=w.heap.size+1:=by rw[<-az];show (w.alloc _).heap.size=_;simp
 have cg:Hid (∀W,Cs 97 #[aI t] W λe w'=>e=aO (aI t)/\Below W.heap.size W w'):=λW=>ug t W ht;have E:Hid (∀W1,Below W0.heap.size W0 W1->aC W1 (Ad d 0)=aV (aM aP st)/\aC W1 (Ad d 2)=aV (aH a n c)/\W1.heap.size≠d/\aE W1 ac 92 2 (aH a n c) n xs/\ac<=W1.heap.size):=by intro W1 h1;have z:Below w.heap.size w W1:=a7.trans (h1.mono (by omega));have cv:=z.size;exact⟨(z.cell (p:=⟨d,0,aW⟩) ao).trans h0,(z.cell (p:=⟨d,2,aW⟩) ao).trans h2,by omega,qj G z,by omega⟩
 have hG:Hid (∀W1 O w1,Below W0.heap.size W0 W1->(W1.alloc O).grownBy w1 (aF (aH a n c))->
   w1.heap[d]?=cC #[aM aP st,M,aH a n c,vv] 179/\dD w w1 (λj=>j=d\/aV j=aF (aH a n c))):=by
  intro W1 O w1 h1 hg;have z:Below w.heap.size w W1:=a7.trans (h1.mono (by omega));have hc:dD w w1 (λj=>aV j=aF (aH a n c)):=((dD.ofBelow _ z).alloc _).grown hg (λk e _=>e.symm);exact⟨(hc.block d ao (λe=>Qdy d e.symm rfl)).trans A,hc.mono (λ_ _ e=>aR e)⟩
 have a6:∀u∈[aI t,aH aW 0 0],u.oneCell'=true:=by simp[Value.oneCell']
 have ce:n+1<=maxLen:=by unfold maxLen;omega
 have bh:(n+1)*40<=140737488355328:=by omega
 have⟨z0,z2,cc,_,_⟩:=E.o W0 zr;have ci:=cc.symm;have zt:aC W0 (Ad w.heap.size 1)=aV (aI t):=by rw[<-az];simp
 clear A a7 bv G;go_enter Tryz.func233,Tryz.ntmps233;go_wp2
 go_region_law (first|(refine pV rfl (.tmp 31) (.tmp 36) 134 rfl ac 92 i0 (aJ #[aI ⟨#[]⟩,aH aW 0 0]) 2 40 Tryz.underlying134 hi bk b3 b5 rfl (by decide) (aH a n c) n xs (by simp[Act.eval,Act.put]) (aE.alloc (E.o W1 aq).2.2.2.1 _) ⟨W1.heap.size,0,aW⟩ 1 1 [aI t,aH aW 0 0] (by simp[Act.eval,Act.put]) rfl (cell_two_new W1 (aI t) (aH aW 0 0) 92) a6 ce bh (by have:=(E.o W1 aq).2.2.2.2;simp;omega) ?_;intro v' w1 aj ak;have⟨g',an,bc⟩:=ownsRow_succ aj;subst bc;have⟨ap,ck⟩:=hG.o W1 _ w1 aq ak;have c0:aC w1 (Ad d 0)=aV (aM aP st):=(by simp[aC,ap]);have c2:aC w1 (Ad d 2)=aV (aH a n c):=(by simp[aC,ap]);have f0:aD w1 (Ad d 0)=false:=(by simp[aD,ap]);have f2:aD w1 (Ad d 2)=false:=(by simp[aD,ap]))|(go_simp;go_wp2_with (go_at_call 97;refine (cg.o _).mono ?_;rintro e W1 ⟨rfl,aq⟩;have⟨k0,k2,cd,_,_⟩:=E.o W1 aq;have bn:=cd.symm;have cp:∀O,aC (W1.alloc O) (Ad d 2)=aV (aH a n c):=λO=>cell_later ((bD W1.heap.size W1).alloc zl O) k2)))
 all_goals
  go_wp2
  go_end0
  exact⟨rfl,Sc g' (n+1) an,EI (Z:=#[aM aP 2,M,Sc g' (n+1) an,vv]) (by decide) (aQ rfl) ap rfl aj ck⟩
theorem wX{n:Nat}{v:Vq}(h:aE W b e 2 v n (ys++[x,y]))(hn:1<=n):∃g c ab,v=Sc g n c/\W.heap[g]?=cC ab e/\b<=g/\(n-1)*2+1<ab.size/\ab[(n-1)*2+1]?=aV y/\ab.toList.take (n*2)=ys++[x,y]/\aB ys=(n-1)*2:=by
 obtain⟨G,⟨_,h0⟩|⟨g,d,ab,M,E,O,Z,h2,A,C⟩⟩:=h
 .omega
 .simp at G;have z:(n-1)*2+1<ab.size:=by{rw[A];omega};refine⟨g,d,ab,M,O,E,z,?_,C,by omega⟩;have:(ab.toList.take (n*2))[(n-1)*2+1]?=aV y:=by{grind};rw[aZ] at this;split at this;{grind};{cases this}
theorem Dh{n:Nat}{v:Vq}{z:Vq}(h:aE W b e 2 v n (ys++[x,y]))(O:1<=n){g:Nat}(d:aF v=aV g):aE (W.setCell (Ad g ((n-1)*2+1)) z) b e 2 v n (ys++[x,z]):=by
 have⟨g',c,ab,hv,hw,hb,a9,hy,ht,hl⟩:=wX h O;rw[hv] at d;simp[aF] at d;subst d;obtain⟨h0,⟨bc,_⟩|⟨g2,Z,b6,C,bh,A,E,G,M,h4⟩⟩:=h
 .grind
 .rw[hv] at C;cases C;rw[hw] at A;cases A;refine⟨by simpa using h0,aR ⟨g',c,ab.setIfInBounds ((n-1)*2+1) z,hv,hb,qw hw _ _,E,G,by simpa using M,?_⟩⟩;rw[Array.toList_setIfInBounds,List.take_set,ht];rw[List.set_append_right _ _ (by omega),show (n-1)*2+1-aB ys=1 by omega];rfl
