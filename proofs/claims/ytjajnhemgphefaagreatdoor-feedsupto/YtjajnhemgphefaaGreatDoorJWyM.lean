/- A part -/
import Derived.Shelf.Strings.BuilderK
import Derived.Test.YtjajnhemgphefaaGreatDoorJEgO
set_option linter.all false
open List renaming length->aB,cons_append->aX,map_cons->aY,nil_append->aZ,exists_cons_of_ne_nil->bB,map_drop->bC,map_nil->bD
open Go.World renaming ownsRow->aE
open Go.Obj renaming cells->aN
open Or renaming inl->aQ,inr->aR
open Option renaming some->aV,none->aW
namespace Go.Proofs.YtjajnhemgphefaaGreatDoor
open Go renaming World->Wq,Value->Vq
open Go.RowKit Go.Shelf
variable {B b:Nat} {bs aw:List UInt8} {W W':Wq}
def mN(B b:Nat)(bs:List UInt8)(W:Wq):Prop:=Lib.IsBuilderF 133 5 B b (Lib.byteCells bs) W
structure mj(B b:Nat)(bs:List UInt8)(W W':Wq):Prop where
 bld:mN B b bs W'
 below:Below B W W'
 others:Lib.OthersKept 5 (aV b) W W'
theorem mN.block(h:mN B b bs W):B<=b/\∃c,W.heap[b]?=cC c 133:=by
 rcases h with⟨d,v,z,_⟩|⟨d,v,z,_⟩
 .grind
 .grind
theorem mN.below(h:mN B b bs W)(d:Below W.heap.size W W'):mN B b bs W':=by
 have G:b<W.heap.size:=by have⟨_,c,hc⟩:=h.block;exact (zg hc).1
 rcases h with⟨z,v,A,C,E⟩|⟨z,v,A,C,E⟩
 .exact aQ ⟨z,v,(d.block b G).trans A,C.kept (qg d) (by grind),E⟩
 .exact aR ⟨z,v,(d.block b G).trans A,C.kept (qg d) (by grind),E⟩
theorem mj.cells(h:mj B b bs W W')(h0:mN B b aw W){k:Nat}{c:Array Vq}{t:TypeId}{d:Nat×Nat}(z:W.heap[k]?=aV (aN c t d))(E:t≠5)(A:t≠133):W'.heap[k]?=aV (aN c t d):=by
 refine h.others k _ z (λe=>?_) (λc' C e=>?_)
 .cases e;have⟨_,c',bd⟩:=h0.block;rw[z] at bd;cases bd;exact A rfl
 .grind
theorem mj.rk(h:mj B b bs W W')(h0:mN B b aw W):qf W W':=λk c t z d=>h.cells h0 d (by grind) (by grind)
theorem mj.row(h:mj B b bs W W')(h0:mN B b aw W){d n:Nat}{v:Vq}{xs:List Vq}(A:aE W d 9 1 v n xs):aE W' d 9 1 v n xs:=
 Qc A (λg c _ z=>h.cells h0 z (by decide) (by decide))
theorem mj.trans{d:List UInt8}{A C D:Wq}(h:mj B b bs A C)(k:mj B b d C D):mj B b d A D:=⟨k.bld,h.below.trans k.below,h.others.trans k.others⟩
end Go.Proofs.YtjajnhemgphefaaGreatDoor
namespace Go.Proofs.YtjajnhemgphefaaGreatDoor
open Go renaming World->Wq,Value->Vq
variable {s:eD} {k r:Int} {t:ByteArray} {x:eE}
theorem qA(h:(dX s k t r).1=0):Qz s.st k=true/\Qb s.st r (aB s.rules) (aB s.atoms) (Qw s.atoms)=false/\(dX s k t r).2=dQ s k t:=by grind [dX]
theorem nG{sF:eD}{l:List eE}(h:Q5 s (x::l)=(sF,aW)):(dX s x.kind x.text x.runes).1=0/\Q5 (dQ s x.kind x.text) l=(sF,aW):=by grind [Q5,dX,qA]
theorem t3(hs:s.st=3)(h:(dX s k t r).1=0):(k=1\/k=2)/\dQ s k t={s with st:=4,atoms:=kJ s.atoms (gE s.vars k t),vars:=gT s.vars k t}:=by
 have z:=(qA h).1;have d:k=1\/k=2:=by grind [Qz]
 exact⟨d,by unfold dQ jR;rw[if_pos d,if_pos hs]⟩
theorem t4(hs:s.st=4)(h:(dX s k t r).1=0):(k=5/\dQ s k t={s with st:=3})\/(k=4/\dQ s k t=mD s):=by
 have z:=(qA h).1;have d:k=5\/k=4:=by grind [Qz]
 rcases d with rfl|rfl
 .grind [dQ]
 .grind [dQ]
theorem t2(hs:s.st=2)(h:(dX s k t r).1=0):k=3/\dQ s k t={s with st:=3}:=by
 have z:=(qA h).1;have d:k=3:=by grind [Qz]
 subst d;exact⟨rfl,by unfold dQ;simp⟩
theorem tW(hs:s.st=0\/s.st=1)(h:(dX s k t r).1=0):k=1/\dQ s k t={s with st:=2,atoms:=s.atoms++[⟨t,[]⟩]}:=by
 have z:=(qA h).1;have d:k=1:=by grind [Qz]
 subst d;exact⟨rfl,by unfold dQ jR;rw[if_pos (aQ rfl),if_neg (by omega)]⟩
theorem xm(hs:s.st=5\/s.st=6)(h:(dX s k t r).1=0):(k=6/\dQ s k t=jm s)\/((k=5\/k=7)/\dQ s k t={s with st:=1}):=by
 have d:=(qA h).1;rcases hs with hs|hs
 .have z:k=7\/k=6:=by unfold Qz at d;simp[hs] at d;exact d
  rcases z with rfl|rfl
  .grind [dQ]
  .grind [dQ]
 .have z:k=5\/k=6:=by unfold Qz at d;simp[hs] at d;exact d
  rcases z with rfl|rfl
  .grind [dQ]
  .grind [dQ]
theorem wD(d:List ByteArray)(x:eE)(h:x.kind=1\/x.kind=2):ij d (Qt x)=gE d x.kind x.text/\iL d (Qt x)=gT d x.kind x.text:=by grind [ij,iL,gE,gT,Qt,fD]
def sT(n:Nat):Int:=if n=1 then 5 else 6
theorem vZ(E:RT):∀(n:Nat) (ts:List eE) (s sF:eD) (p:List Am) (a:Am),aB ts<=n->s.st=3->s.atoms=p++[a]->Q5 s ts=(sF,aW)->sF.st=0->
  ∃L ak k,eH s.vars (ts.map Qt++[E])=aV (L,ak,k)/\k<=aB ts/\2<=k/\Q5 {s with st:=sT (aB p+1),atoms:=p++[{a with args:=a.args++L}],vars:=ak} (ts.drop k)=(sF,aW)
 |n,[],s,sF,p,a,hn,hs,ha,h,hF=>by grind [Q5]
 |n,[x],s,sF,p,a,hn,hs,ha,h,hF=>by have⟨h1,h2⟩:=nG h;have⟨hk,he⟩:=t3 hs h1;rw[he] at h2;simp[Q5] at h2;subst h2;simp at hF
 |0,x::y::us,s,sF,p,a,hn,hs,ha,h,hF=>by simp at hn
 |n+1,x::y::us,s,sF,p,a,hn,hs,ha,h,hF=>by
  have⟨h1,h2⟩:=nG h;have⟨hk,he⟩:=t3 hs h1;rw[he,ha,uQ] at h2;have⟨e1,e2⟩:=wD s.vars x hk;have⟨h3,h4⟩:=nG h2;rcases t4 rfl h3 with⟨z,d⟩|⟨z,d⟩
  .rw[d] at h4;have⟨L,ak,k,q1,q2,q3,q4⟩:=vZ E n us {s with st:=3,atoms:=p++[{a with args:=a.args++[gE s.vars x.kind x.text]}],vars:=gT s.vars x.kind x.text} sF p {a with args:=a.args++[gE s.vars x.kind x.text]} (by simp at hn;omega) rfl rfl h4 hF;refine⟨gE s.vars x.kind x.text::L,ak,k+2,?_,by simp;omega,by omega,?_⟩;{grind [eH,Qt,fD]};{grind}
  .rw[d] at h4;refine⟨[gE s.vars x.kind x.text],gT s.vars x.kind x.text,2,?_,by simp,by omega,?_⟩
   .simp only[aY,aX];unfold eH;have A:(Qt y).kind=41:=by{unfold Qt;rw[z];rfl};rw[if_pos A,e1,e2]
   .grind [mD,sT]
theorem sI(h:x.kind=1):(Qt x).text=x.text:=by unfold Qt;simp[h]
theorem BQ(E:RT):∀(f:Nat) (ts:List eE) (s sF:eD) (a:Am) (l:List Am),aB ts<f->(s.st=5\/s.st=6)->s.atoms=a::l->Q5 s ts=(sF,aW)->sF.st=0->
  ∃bs m,jq f s.vars (ts.map Qt++[E])=aV (bs,m)/\m<aB ts/\Q5 ⟨0,s.rules++[⟨a,l++bs⟩],[],[]⟩ (ts.drop (m+1))=(sF,aW)
 |0,ts,s,sF,a,l,hn,_,_,_,_=>by omega
 |f+1,[],s,sF,a,l,hn,hs,ha,h,hF=>by grind [Q5]
 |f+1,x::us,s,sF,a,l,hn,hs,ha,h,hF=>by
  have⟨h1,h2⟩:=nG h;rcases xm hs h1 with⟨d,z⟩|⟨d,z⟩
  .rw[z] at h2;have C:jm s=⟨0,s.rules++[⟨a,l⟩],[],[]⟩:=by{unfold jm;rw[ha]};rw[C] at h2;refine⟨[],0,?_,by simp,by simpa using h2⟩;simp only[aY,aX];unfold jq;have A:(Qt x).kind=46:=by{unfold Qt;rw[d];rfl};simp only[if_pos A]
  .rw[z] at h2;have A:(Qt x).kind≠46:=by show fD x.kind≠46;rcases d with d|d<;>rw[d]<;>decide
   cases us with
   |nil=>simp[Q5] at h2;subst h2;simp at hF
   |cons r us=>
    have⟨h3,h4⟩:=nG h2;have⟨b5,ay⟩:=tW (aR rfl) h3;rw[ay] at h4
    cases us with
    |nil=>simp[Q5] at h4;subst h4;simp at hF
    |cons o us=>
     have⟨h5,h6⟩:=nG h4;have⟨b0,bn⟩:=t2 rfl h5;rw[bn] at h6;simp only at h6;have⟨L,ak,k,q1,q2,q3,q4⟩:=vZ E (aB us) us _ sF s.atoms ⟨r.text,[]⟩ zl rfl rfl h6 hF;simp only[aZ] at q4;have M:1<=aB s.atoms:=by{rw[ha];simp};have G:sT (aB s.atoms+1)=6:=by{grind [sT]};rw[G] at q4;have⟨bs,m,p1,p2,p3⟩:=BQ E f (us.drop k) _ sF a (l++[⟨r.text,L⟩]) (by simp at hn ⊢;omega) (aR rfl) (by simp[ha]) q4 hF;refine⟨⟨r.text,L⟩::bs,3+k+m,?_,?_,?_⟩;{grind [jq,Qt,sI,bC]};{grind};{grind [List.drop_drop]}
theorem zF(E:RT)(d:E.kind=4):∀(f:Nat) (ts:List eE) (s sF:eD),aB ts<f->s.st=0->s.atoms=[]->s.vars=[]->Q5 s ts=(sF,aW)->sF.st=0->
  ∃rs,ju f (ts.map Qt++[E])=aV rs/\sF.rules=s.rules++rs
 |0,ts,s,sF,hn,_,_,_,_,_=>by omega
 |f+1,[],s,sF,hn,hs,ha,hv,h,hF=>by simp[Q5] at h;subst h;exact⟨[],by simp[ju,d],by simp⟩
 |f+1,x::us,s,sF,hn,hs,ha,hv,h,hF=>by
  have⟨h1,h2⟩:=nG h;have⟨hk,he⟩:=tW (aQ hs) h1;rw[he,ha] at h2;have z:(Qt x).kind≠4:=by show fD x.kind≠4;rw[hk];decide
  cases us with
  |nil=>simp[Q5] at h2;subst h2;simp at hF
  |cons o us=>
   have⟨h3,h4⟩:=nG h2;have⟨b0,ay⟩:=t2 rfl h3;rw[ay] at h4;have⟨L,ak,k,q1,q2,q3,q4⟩:=vZ E (aB us) us _ sF [] ⟨x.text,[]⟩ zl rfl rfl h4 hF;simp only[hv] at q1;simp only[aZ,List.length_nil] at q4;have⟨bs,m,p1,p2,p3⟩:=BQ E (aB (us.map Qt++[E])) (us.drop k) _ sF ⟨x.text,L⟩ [] (by simp;omega) (aQ rfl) rfl q4 hF;have⟨rs,r1,r2⟩:=zF E d f ((us.drop k).drop (m+1)) _ sF (by simp at hn ⊢;omega) rfl rfl rfl p3 hF;refine⟨⟨⟨x.text,L⟩,bs⟩::rs,?_,by simpa using r2⟩;simp only[aY,aX];unfold ju;have hd:(us.map Qt++[E]).drop k=(us.drop k).map Qt++[E]:=by{grind [bC]};have A:((us.drop k).map Qt++[E]).drop (m+1)=((us.drop k).drop (m+1)).map Qt++[E]:=by{grind [bC]};simp only[if_neg z,q1,hd,p1,A,r1,sI hk]
structure tg(s:eD)(l:Lk):Prop where
 e:l.e=0
 alone:l.alone=false
 want:l.want=if s.st=6 then 5 else s.st
 lo:0<=s.st
 hi:s.st<=6
 rules:l.rules=aB s.rules+if s.st=0 then 0 else 1
 body:s.st≠0->s.st≠1->(l.body=false↔aB s.atoms=1)
 atoms:s.st≠0->l.body=true->aB s.atoms=l.atoms+1
 one:s.st=1->l.body=true
 args:s.st=3\/s.st=4->l.args=Qw s.atoms
 fresh:s.st=2->Qw s.atoms=0
 five:s.st=5->aB s.atoms=1
 six:s.st=6->aB s.atoms≠1
theorem nW(k:Int):fD k=1↔k=1:=by
 unfold fD;repeat' split
 all_goals omega
theorem uT(k:Int):fD k=2↔k=2:=by
 unfold fD;repeat' split
 all_goals omega
theorem wS(k:Int):fD k=3↔k=7:=by
 unfold fD;repeat' split
 all_goals omega
theorem wZ(k:Int):fD k=40↔k=3:=by
 unfold fD;repeat' split
 all_goals omega
theorem qH(k:Int):fD k=41↔k=4:=by
 unfold fD;repeat' split
 all_goals omega
theorem pd(k:Int):fD k=44↔k=5:=by
 unfold fD;repeat' split
 all_goals omega
theorem pZ(k:Int):fD k=46↔k=6:=by
 unfold fD;repeat' split
 all_goals omega
theorem zy(k:Int):fD k≠4:=by
 unfold fD;repeat' split
 all_goals omega
theorem k9(h:Qz s.st k=false):dX s k t r=(2,s):=by unfold dX;rw[if_pos h]
theorem oC(h:Qz s.st k=true)(d:Qb s.st r (aB s.rules) (aB s.atoms) (Qw s.atoms)=true):dX s k t r=(3,s):=by unfold dX;rw[h,d];rfl
theorem jI(h:Qz s.st k=true)(d:Qb s.st r (aB s.rules) (aB s.atoms) (Qw s.atoms)=false):dX s k t r=(0,dQ s k t):=by unfold dX;rw[h,d];rfl
def lL(x:eE):Prop:=x.kind=1\/x.kind=2\/x.runes<=2
theorem Gz(s:eD)(l:Lk)(x:eE)(h:tg s l)(hI:kZ s)(hx:lL x):(Qg l (Qt x)).e=(dX s x.kind x.text x.runes).1/\((dX s x.kind x.text x.runes).1=0->tg (dX s x.kind x.text x.runes).2 (Qg l (Qt x))):=by
 have⟨h1,h2,h3,h4,h5,h6,h7,h8,h9,bc,bq,Qha,Qep⟩:=h;have⟨i1,i2,i3,i4,i5,i6,i7,i8⟩:=hI;have O:(Qt x).kind=fD x.kind:=rfl;have az:(Qt x).runes=x.runes:=rfl;have b4:s.st=0\/s.st=1\/s.st=2\/s.st=3\/s.st=4\/s.st=5\/s.st=6:=by omega
 rcases b4 with hs|hs|hs|hs|hs|hs|hs
 ·-- a rule may begin
  have z:l.want=0:=by{rw[h3,hs];rfl};have G:l.rules=aB s.rules:=by{rw[h6,hs];simp};have ae:Qg l (Qt x)=fS l (Qt x):=by{unfold Qg;simp[z]};rw[ae];by_cases E:x.kind=1
  .have d:Qz s.st x.kind=true:=by{rw[hs,E];rfl};have ad:fS l (Qt x)=if ig l=true\/8<x.runes then {fY l with e:=3} else {fY l with want:=2}:=by{unfold fS;rw[if_neg (by grind [nW])];simp[z,az]};by_cases M:Qb s.st x.runes (aB s.rules) (aB s.atoms) (Qw s.atoms)=true
   .have ho:ig l=true\/8<x.runes:=by{unfold Qb at M;unfold ig;simp[hs] at M;simp[z];omega};rw[oC d M,ad,if_pos ho];exact⟨rfl,λh=>by simp at h⟩
   .have ab:Qb s.st x.runes (aB s.rules) (aB s.atoms) (Qw s.atoms)=false:=by{simpa using M};have ho:¬(ig l=true\/8<x.runes):=by{unfold Qb at ab;unfold ig;simp[hs] at ab;simp[z];omega};rw[jI d ab,ad,if_neg ho];have C:=(tW (aQ hs) (r:=x.runes) (by rw[jI d ab]:(dX s x.kind x.text x.runes).1=0)).2;rw[C];have aq:fY l={l with rules:=l.rules+1,body:=false}:=by{unfold fY;rw[if_pos z]};rw[aq];refine⟨h1,λ_=>⟨h1,h2,rfl,by simp,by simp,by simp[G],λ_ _=>by simp[i4 hs],λ_ h=>by simp at h,λh=>by simp at h,λh=>by simp at h,λ_=>by simp[Qw],λh=>by simp at h,λh=>by simp at h⟩⟩
  .have d:Qz s.st x.kind=false:=by{rw[hs];unfold Qz;simp[E]};have ad:fS l (Qt x)={fY l with e:=2}:=by{unfold fS;rw[if_pos (by grind [nW])]};rw[k9 d,ad];exact⟨rfl,λh=>by simp at h⟩
 ·-- an atom of a body
  have z:l.want=1:=by{rw[h3,hs];rfl};have G:l.rules=aB s.rules+1:=by{rw[h6,hs];simp};have hb:=h9 hs;have ha:=h8 (by omega) hb;have ae:Qg l (Qt x)=fS l (Qt x):=by{unfold Qg;simp[z]};rw[ae];by_cases E:x.kind=1
  .have d:Qz s.st x.kind=true:=by{rw[hs,E];rfl};have ad:fS l (Qt x)=if ig l=true\/8<x.runes then {fY l with e:=3} else {fY l with want:=2}:=by{unfold fS;rw[if_neg (by grind [nW])];simp[z,az]};by_cases M:Qb s.st x.runes (aB s.rules) (aB s.atoms) (Qw s.atoms)=true
   .have ho:ig l=true\/8<x.runes:=by{unfold Qb at M;unfold ig;simp[hs] at M;simp[z];omega};rw[oC d M,ad,if_pos ho];exact⟨rfl,λh=>by simp at h⟩
   .have ab:Qb s.st x.runes (aB s.rules) (aB s.atoms) (Qw s.atoms)=false:=by{simpa using M};have ho:¬(ig l=true\/8<x.runes):=by{unfold Qb at ab;unfold ig;simp[hs] at ab;simp[z];omega};rw[jI d ab,ad,if_neg ho];have C:=(tW (aR hs) (r:=x.runes) (by rw[jI d ab]:(dX s x.kind x.text x.runes).1=0)).2;rw[C];have aq:fY l={l with atoms:=l.atoms+1}:=by{unfold fY;rw[if_neg (by omega),if_pos z]};rw[aq];refine⟨h1,λ_=>⟨h1,h2,rfl,by simp,by simp,by simp[G],λ_ _=>by simp[hb,i5 (by omega)],λ_ _=>by simp;omega,λh=>by simp at h,λh=>by simp at h,λ_=>by simp[Qw],λh=>by simp at h,λh=>by simp at h⟩⟩
  .have d:Qz s.st x.kind=false:=by{rw[hs];unfold Qz;simp[E]};have ad:fS l (Qt x)={fY l with e:=2}:=by{unfold fS;rw[if_pos (by grind [nW])]};rw[k9 d,ad];exact⟨rfl,λh=>by simp at h⟩
 ·-- a bracket
  have z:l.want=2:=by{rw[h3,hs];rfl};have G:l.rules=aB s.rules+1:=by{rw[h6,hs];simp};have ae:Qg l (Qt x)=eJ l (Qt x):=by{unfold Qg;simp[z]};rw[ae];by_cases E:x.kind=3
  .have d:Qz s.st x.kind=true:=by rw[hs,E];rfl
   have ab:Qb s.st x.runes (aB s.rules) (aB s.atoms) (Qw s.atoms)=false:=by
    have:¬(8:Int)<x.runes:=by{unfold lL at hx;omega};unfold Qb;simp[hs,this]
   rw[jI d ab];have C:=(t2 hs (r:=x.runes) (by rw[jI d ab]:(dX s x.kind x.text x.runes).1=0)).2;rw[C];have A:eJ l (Qt x)={l with args:=0,want:=3}:=by{unfold eJ;rw[if_pos ⟨z,by rw[O,wZ];exact E⟩]};rw[A];have Qkj:=bq hs;have Z:=h7 (by omega) (by omega);have ah:=h8 (by omega);exact⟨h1,λ_=>⟨h1,h2,rfl,by simp,by simp,by simp[G],λ_ _=>Z,λ_=>ah,λh=>by simp at h,λ_=>Qkj.symm,λh=>by simp at h,λh=>by simp at h,λh=>by simp at h⟩⟩
  .have d:Qz s.st x.kind=false:=by{rw[hs];unfold Qz;simp[E]};have A:eJ l (Qt x)={l with e:=2}:=by{unfold eJ;simp only[z,O,wZ,E];simp};rw[k9 d,A];exact⟨rfl,λh=>by simp at h⟩
 ·-- an argument
  have z:l.want=3:=by{rw[h3,hs];rfl};have G:l.rules=aB s.rules+1:=by{rw[h6,hs];simp};have hg:=bc (aQ hs);have Z:=h7 (by omega) (by omega);have ah:=h8 (by omega);have ae:Qg l (Qt x)=fS l (Qt x):=by{unfold Qg;simp[z]};have⟨p,a,bf⟩:=xH s.atoms (i5 (by omega));have b6:Qw s.atoms=aB a.args:=by{unfold Qw;rw[bf];simp};have b7:=(i3 a (by grind)).args;rw[ae];by_cases E:x.kind=1\/x.kind=2
  .have d:Qz s.st x.kind=true:=by{rw[hs];unfold Qz;simp[E]};have ad:fS l (Qt x)=if ig l=true\/8<x.runes then {fY l with e:=3} else {fY l with want:=4}:=by{unfold fS;rw[if_neg (by grind [nW,uT])];simp[z,az]};by_cases M:Qb s.st x.runes (aB s.rules) (aB s.atoms) (Qw s.atoms)=true
   .have ho:ig l=true\/8<x.runes:=by{unfold Qb at M;unfold ig;simp[hs] at M;simp[z];omega};rw[oC d M,ad,if_pos ho];exact⟨rfl,λh=>by simp at h⟩
   .have ab:Qb s.st x.runes (aB s.rules) (aB s.atoms) (Qw s.atoms)=false:=by{simpa using M};have ho:¬(ig l=true\/8<x.runes):=by{unfold Qb at ab;unfold ig;simp[hs] at ab;simp[z];omega};rw[jI d ab,ad,if_neg ho];have C:=(t3 hs (r:=x.runes) (by rw[jI d ab]:(dX s x.kind x.text x.runes).1=0)).2;rw[C];have aq:fY l={l with args:=l.args+1}:=by{unfold fY;rw[if_neg (by omega),if_neg (by omega)]};rw[aq];refine⟨h1,λ_=>⟨h1,h2,rfl,by simp,by simp,by simp[G],λ_ _=>by rw[yz];exact Z,λ_=>by rw[yz];exact ah,λh=>by simp at h,λ_=>?_,λh=>by simp at h,λh=>by simp at h,λh=>by simp at h⟩⟩;rw[bf,uQ];simp[Qw];omega
  .have d:Qz s.st x.kind=false:=by{rw[hs];unfold Qz;simp;omega};have ad:fS l (Qt x)={fY l with e:=2}:=by{unfold fS;rw[if_pos (by grind [nW,uT])]};rw[k9 d,ad];exact⟨rfl,λh=>by simp at h⟩
 ·-- behind an argument
  have z:l.want=4:=by{rw[h3,hs];rfl};have G:l.rules=aB s.rules+1:=by{rw[h6,hs];simp};have hg:=bc (aR hs);have Z:=h7 (by omega) (by omega);have ah:=h8 (by omega);have ae:Qg l (Qt x)=eJ l (Qt x):=by{unfold Qg;simp[z]};rw[ae];by_cases E:x.kind=5\/x.kind=4
  .have d:Qz s.st x.kind=true:=by rw[hs];unfold Qz;simp[E]
   have ab:Qb s.st x.runes (aB s.rules) (aB s.atoms) (Qw s.atoms)=false:=by
    have:¬(8:Int)<x.runes:=by{unfold lL at hx;omega};unfold Qb;simp[hs,this]
   rw[jI d ab];rcases t4 hs (r:=x.runes) (by rw[jI d ab]:(dX s x.kind x.text x.runes).1=0) with⟨ai,C⟩|⟨au,C⟩
   .rw[C];have A:eJ l (Qt x)={l with want:=3}:=by{unfold eJ;simp[z,O,pd,ai]};rw[A];exact⟨h1,λ_=>⟨h1,h2,rfl,by simp,by simp,by simp[G],λ_ _=>Z,λ_=>ah,λh=>by simp at h,λ_=>hg,λh=>by simp at h,λh=>by simp at h,λh=>by simp at h⟩⟩
   .rw[C];have A:eJ l (Qt x)={l with want:=5}:=by{unfold eJ;simp[z,O,qH,pd,au,h2]};rw[A];unfold mD;by_cases av:aB s.atoms=1;{simp only[if_pos av];exact⟨h1,λ_=>⟨h1,h2,rfl,by simp,by simp,by simp[G],λ_ _=>Z,λ_=>ah,λh=>by simp at h,λh=>by simp at h,λh=>by simp at h,λ_=>av,λh=>by simp at h⟩⟩};{simp only[if_neg av];exact⟨h1,λ_=>⟨h1,h2,rfl,by simp,by simp,by simp[G],λ_ _=>Z,λ_=>ah,λh=>by simp at h,λh=>by simp at h,λh=>by simp at h,λh=>by simp at h,λ_=>av⟩⟩}
  .have d:Qz s.st x.kind=false:=by rw[hs];unfold Qz;simp;omega
   have A:eJ l (Qt x)={l with e:=2}:=by
    have ai:¬x.kind=5:=by{omega};have au:¬x.kind=4:=by{omega};unfold eJ;simp only[z,O,pd,qH,ai,au];simp
   rw[k9 d,A];exact⟨rfl,λh=>by simp at h⟩
 ·-- behind a head
  have z:l.want=5:=by{rw[h3,hs];rfl};have G:l.rules=aB s.rules+1:=by{rw[h6,hs];simp};have Z:=h7 (by omega) (by omega);have ah:=h8 (by omega);have be:aB s.atoms=1:=Qha hs;have hb:l.body=false:=Z.2 be;have ae:Qg l (Qt x)=eJ l (Qt x):=by{unfold Qg;simp[z]};rw[ae];by_cases E:x.kind=7\/x.kind=6
  .have d:Qz s.st x.kind=true:=by rw[hs];unfold Qz;simp[E]
   have ab:Qb s.st x.runes (aB s.rules) (aB s.atoms) (Qw s.atoms)=false:=by
    have:¬(8:Int)<x.runes:=by{unfold lL at hx;omega};unfold Qb;simp[hs,this]
   rw[jI d ab];rcases xm (aQ hs) (r:=x.runes) (by rw[jI d ab]:(dX s x.kind x.text x.runes).1=0) with⟨aj,C⟩|⟨a8,C⟩
   .rw[C];have A:eJ l (Qt x)={l with want:=0}:=by{unfold eJ;simp[z,O,pZ,aj]};rw[A];obtain⟨a0,al,a9⟩:∃a0 al,s.atoms=a0::al:=bB (i5 (by omega));have ao:jm s=⟨0,s.rules++[⟨a0,al⟩],[],[]⟩:=by{unfold jm;rw[a9]};rw[ao];exact⟨h1,λ_=>⟨h1,h2,rfl,by simp,by simp,by simp[G],λh=>absurd rfl h,λh=>absurd rfl h,λh=>by simp at h,λh=>by simp at h,λh=>by simp at h,λh=>by simp at h,λh=>by simp at h⟩⟩
   .rw[C];have ax:x.kind=7:=by{omega};have A:eJ l (Qt x)={l with body:=true,atoms:=0,want:=1}:=by{unfold eJ;simp[z,O,pZ,pd,wS,ax,hb]};rw[A];exact⟨h1,λ_=>⟨h1,h2,rfl,by simp,by simp,by simp[G],λ_ h=>absurd rfl h,λ_ _=>by simpa using be,λ_=>rfl,λh=>by simp at h,λh=>by simp at h,λh=>by simp at h,λh=>by simp at h⟩⟩
  .have d:Qz s.st x.kind=false:=by rw[hs];unfold Qz;simp;omega
   have A:eJ l (Qt x)={l with e:=2}:=by
    have aj:¬x.kind=6:=by{omega};have ax:¬x.kind=7:=by{omega};unfold eJ;simp only[z,O,pZ,wS,aj,ax,hb];simp
   rw[k9 d,A];exact⟨rfl,λh=>by simp at h⟩
 ·-- behind an atom of a body
  have z:l.want=5:=by{rw[h3,hs];rfl};have G:l.rules=aB s.rules+1:=by{rw[h6,hs];simp};have Z:=h7 (by omega) (by omega);have Qhu:aB s.atoms≠1:=Qep hs
  have hb:l.body=true:=by
   cases hbb:l.body with
   |true=>rfl
   |false=>exact absurd (Z.1 hbb) Qhu
  have ah:=h8 (by omega) hb;have ae:Qg l (Qt x)=eJ l (Qt x):=by{unfold Qg;simp[z]};rw[ae];by_cases E:x.kind=5\/x.kind=6
  .have d:Qz s.st x.kind=true:=by rw[hs];unfold Qz;simp[E]
   have ab:Qb s.st x.runes (aB s.rules) (aB s.atoms) (Qw s.atoms)=false:=by
    have:¬(8:Int)<x.runes:=by{unfold lL at hx;omega};unfold Qb;simp[hs,this]
   rw[jI d ab];rcases xm (aR hs) (r:=x.runes) (by rw[jI d ab]:(dX s x.kind x.text x.runes).1=0) with⟨aj,C⟩|⟨a8,C⟩
   .rw[C];have A:eJ l (Qt x)={l with want:=0}:=by{unfold eJ;simp[z,O,pZ,aj]};rw[A];obtain⟨a0,al,a9⟩:∃a0 al,s.atoms=a0::al:=bB (i5 (by omega));have ao:jm s=⟨0,s.rules++[⟨a0,al⟩],[],[]⟩:=by{unfold jm;rw[a9]};rw[ao];exact⟨h1,λ_=>⟨h1,h2,rfl,by simp,by simp,by simp[G],λh=>absurd rfl h,λh=>absurd rfl h,λh=>by simp at h,λh=>by simp at h,λh=>by simp at h,λh=>by simp at h,λh=>by simp at h⟩⟩
   .rw[C];have ai:x.kind=5:=by{omega};have A:eJ l (Qt x)={l with want:=1}:=by{unfold eJ;simp[z,O,pZ,pd,ai,hb]};rw[A];exact⟨h1,λ_=>⟨h1,h2,rfl,by simp,by simp,by simp[G],λ_ h=>absurd rfl h,λ_ _=>ah,λ_=>hb,λh=>by simp at h,λh=>by simp at h,λh=>by simp at h,λh=>by simp at h⟩⟩
  .have d:Qz s.st x.kind=false:=by rw[hs];unfold Qz;simp;omega
   have A:eJ l (Qt x)={l with e:=2}:=by
    have aj:¬x.kind=6:=by{omega};have ai:¬x.kind=5:=by{omega};unfold eJ;simp only[z,O,pZ,pd,wS,aj,ai,hb];simp
   rw[k9 d,A];exact⟨rfl,λh=>by simp at h⟩
theorem BT(E:RT)(d:E.kind=4):∀(ts:List eE) (s:eD) (l:Lk),tg s l->kZ s->(∀x∈ts,lL x)->
  match Q5 s ts with
  |(_,aV ep)=>dW l (ts.map Qt++[E])=ep/\ep.1≠0
  |(sF,aW)=>dW l (ts.map Qt++[E])=if sF.st=0 then (0,0) else (2,E.place)
 |[],s,l,h,hI,hx=>by
  have G:=h.want;have h5:=h.hi;have h4:=h.lo;simp only[Q5,bD,aZ];unfold dW;by_cases h0:s.st=0
  .have A:iQ l E=true:=by{unfold iQ;simp[d,G,h0,h.alone]};rw[if_pos A,if_pos h0]
  .have M:l.want≠0:=by{rw[G];split<;>omega};have O:l.want≠6:=by rw[G];split<;>omega
   have Z:(Qg l E).e=2:=by
    unfold Qg;split;{unfold fS;rw[if_pos (by rw[d];exact⟨by decide,aQ (by decide)⟩)]};{unfold eJ;simp[d]}
   rw[if_neg (by rw[mB M O];simp),Z,if_pos (by decide),if_neg h0]
 |x::ts,s,l,h,hI,hx=>by
  have⟨q1,q2⟩:=Gz s l x h hI (hx x zs);have A:iQ l (Qt x)=false:=by{unfold iQ;have:(Qt x).kind≠4:=zy _;simp[this]};simp only[aY,aX];have z:dW l (Qt x::(ts.map Qt++[E]))=if (Qg l (Qt x)).e≠0 then ((Qg l (Qt x)).e,(Qt x).place) else dW (Qg l (Qt x)) (ts.map Qt++[E]):=by{rw[dW,if_neg (by rw[A];simp)]};rw[z];by_cases h0:(dX s x.kind x.text x.runes).1=0
  .have C:Q5 s (x::ts)=Q5 (dX s x.kind x.text x.runes).2 ts:=by{rw[Q5,if_pos h0]};rw[C,q1,if_neg (by rw[h0];simp)];exact BT E d ts _ _ (q2 h0) (Ai s _ _ _ x.ok hI h0) (λy hy=>hx y (zt hy))
  .have C:Q5 s (x::ts)=(s,aV ((dX s x.kind x.text x.runes).1,x.place)):=by{rw[Q5,if_neg h0]};rw[C,q1,if_pos h0];exact⟨rfl,h0⟩
theorem yJ(a:Am)(rest:List Am):∀(aa:List Am),fU (aa++a::rest) a.rel=match fB aa a.rel.data.toList with|some n=>n|none=>aB a.args
 |[]=>by simp[fU,fB,wj]
 |b::aa=>by
  have d:=yJ a rest aa;simp only[aX,fU,wj];by_cases h:(b.rel.data.toList == a.rel.data.toList)=true;{grind [fB]};{grind [fB]}
theorem C1(aa:List Am)(a:Am)(rest:List Am):lf (aa++a::rest) a=!ly aa a:=by grind [lf,ly,yJ,fB]
theorem xF:∀(l aa rest:List Am),iB aa l=if l.any (lf (aa++l++rest))=true then aW else aV (aa++l)
 |[],aa,rest=>by simp[iB]
 |a::l,aa,rest=>by
  have A:=C1 aa a (l++rest);have e:aa++(a::l)++rest=aa++a::(l++rest):=by{simp};unfold iB;rw[e];simp only[List.any_cons,A];by_cases d:ly aa a=true
  .rw[if_pos d,d];have C:=xF l (aa++[a]) rest;have z:aa++[a]++l++rest=aa++a::(l++rest):=by{simp};rw[C,z];simp
  .grind
def qB(o:Option Nat):Int:=match o with|some n=>n|none=>-1
theorem yS:∀(rs:List Rl) (aa:List Am) (i:Nat),iW aa i rs=qB (gL (lj (aa++dM rs)) rs i)
 |[],aa,i=>by simp[iW,gL,qB]
 |r::rs,aa,i=>by
  have hs:=xF (qz r) aa (dM rs);have e:aa++qz r++dM rs=aa++dM (r::rs):=by{simp[dM]};rw[e] at hs;have C:lj (aa++dM (r::rs)) r=(qz r).any (lf (aa++dM (r::rs))):=rfl;unfold iW gL;rw[C];show (match iB aa (qz r) with|none=>(i:Int)|some s=>iW s (i+1) rs)=_;rw[hs];by_cases d:(qz r).any (lf (aa++dM (r::rs)))=true;{rw[if_pos d,if_pos d];rfl};{rw[if_neg d,if_neg d];have z:=yS rs (aa++qz r) (i+1);have A:aa++qz r++dM rs=aa++dM (r::rs):=e;rw[A] at z;exact z}
theorem Is(r:Rl):kF r=jU r:=by
 unfold kF jU;congr 1;funext t;unfold mu nN
 cases h:t.name.toList.isEmpty with
 |false=>rfl
 |true=>grind [qC,Qd,ki,s9,jk]
theorem zU(p:Rl->Bool):∀(rs:List Rl) (i:Nat),mp p i rs=qB (gL p rs i)
 |[],i=>rfl
 |r::rs,i=>by
  unfold mp gL;by_cases h:p r=true;{rw[if_pos h,if_pos h];rfl};{rw[if_neg h,if_neg h];exact zU p rs (i+1)}
theorem DA(rs:List Rl):mP rs=qB (gL jU rs 0):=by unfold mP;rw[zU];have:kF=jU:=funext Is;rw[this]
theorem zx:∀(rs:List Rl) (ns:List ByteArray) (i:Nat),jo ns i rs=qB (jE ns rs i)
 |[],ns,i=>rfl
 |r::rs,ns,i=>by
  unfold jo jE;by_cases h:8<aB (dG ns (Q0 (qz r)));{rw[if_pos h,if_pos h];rfl};{rw[if_neg h,if_neg h];exact zx rs _ (i+1)}
theorem yQ(rs:List Rl):jP rs=((ii rs).1,((ii rs).2:Int)):=by grind [jP,ii,yS,DA,zx,gL,lj,dM,qB,jU,jE]
end Go.Proofs.YtjajnhemgphefaaGreatDoor
namespace Go.Proofs.YtjajnhemgphefaaGreatDoor
open Go renaming World->Wq,Value->Vq
open Go.RowKit Go.Shelf
variable {s:eD} {x:eE} {r:List eE} {l:Lk} {E:RT}
theorem zD(s:ByteArray):∀(f i:Nat),s.size<=i+f->Lib.runeCountFrom s f i=aB (R s i)
 |0,i,h=>by rw[li s i (by omega)];rfl
 |f+1,i,h=>by
  unfold Lib.runeCountFrom;by_cases d:i<s.size;{have z:=Lib.decode_width_pos s i d;rw[if_pos d,ld s i d,zD s f _ (by omega)];simp;omega};{grind [li]}
theorem m8(s:ByteArray):aB (R s 0)=Lib.runeCount s:=(zD s s.size 0 (by omega)).symm
theorem vR(s:ByteArray):aB (R s 0)<=s.size:=by rw[m8];exact Lib.runeCount_le s
theorem sH(s:ByteArray)(h:s.size<=1200):Q3 s=(eA s.size s 0).map Qt++[⟨4,⟨#[]⟩,aB (R s 0),0⟩]:=by grind [Q3,oE,oj,vR]
theorem sM:∀(f:Nat) (s:ByteArray) (p:Nat),∀x∈eA f s p,lL x
 |0,s,p,x,d=>by simp[eA] at d
 |f+1,s,p,x,d=>by
  unfold eA at d;split at d;{simp at d};split at d;{exact sM f _ _ x d};split at d
  .rcases List.mem_cons.1 d with rfl|d
   .grind [lL,eY]
   .exact sM f _ _ x d
  .simp at d
theorem Dz:tg eX (fA false):=by
 refine⟨rfl,rfl,rfl,by decide,by decide,rfl,λh=>absurd rfl h,λh=>absurd rfl h,λh=>?_,λh=>?_,λh=>?_,λh=>?_,λh=>?_⟩
 all_goals (simp[eX] at h)
theorem CR:kZ eX:=⟨by decide,by decide,by simp[eX],λ_=>rfl,λh=>absurd rfl h,λh=>absurd rfl h,by simp[eX],by simp[eX]⟩
theorem yD(s:ByteArray)(h:aB (R s 0)<=300)(z:s.size<=1200):gv s=match jA s with|.error ep=>.error ep|.ok rs=>if (ii rs).1≠0 then .error (ii rs) else .ok rs:=by
 have d:=BT ⟨4,⟨#[]⟩,aB (R s 0),0⟩ rfl (eA s.size s 0) eX (fA false) Dz CR (sM _ _ _);rw[<-sH s z] at d;unfold gv jA;rw[if_neg (by omega)]
 cases hf:Q5 eX (eA s.size s 0) with
 |mk sF o=>
  rw[hf] at d
  cases o with
  |some ep=>grind
  |none=>
   simp only at d ⊢;by_cases h0:sF.st=0
   .rw[if_pos h0] at d ⊢;rw[d,if_neg (by simp)];have⟨rs,r1,r2⟩:=zF ⟨4,⟨#[]⟩,aB (R s 0),0⟩ rfl (aB (Q3 s)+1) (eA s.size s 0) eX sF (by rw[sH s z];simp;omega) rfl rfl rfl hf h0;rw[<-sH s z] at r1;rw[r1];have:sF.rules=rs:=by{rw[r2];rfl};rw[this]
   .grind [m8]
def gJ(s:eD)(r:List eE):Option Am:=match Q5 s r with
 |(_,aV _)=>aW
 |(st,aW)=>if st.st=5/\st.rules=[] then st.atoms.head? else aW
def gR(E:RT)(l:Lk)(r:List eE):Prop:=(dW l (r.map Qt++[E])).1=0
theorem nt(h:(dX s x.kind x.text x.runes).1≠0):gJ s (x::r)=none:=by grind [gJ,Q5]
theorem pT(d:Qz s.st x.kind=true)(z:Qb s.st x.runes (aB s.rules) (aB s.atoms) (Qw s.atoms)=false):gJ s (x::r)=gJ (dQ s x.kind x.text) r:=by grind [jI,gJ,Q5]
theorem BJ(x:eE):iQ l (Qt x)=false:=by grind [iQ,Qt,zy]
theorem rO(h:(Qg l (Qt x)).e≠0):¬gR E l (x::r):=by grind [gR,dW,BJ]
theorem ud{d:Lk}(h:Qg l (Qt x)=d)(h0:d.e=0):gR E l (x::r)↔gR E d r:=by grind [gR,dW,BJ]
def Left(s:eD):Prop:=s.rules≠[]\/(s.st≠5/\s.st≠0/\1<=aB s.atoms/\(s.st≠1->2<=aB s.atoms))
theorem Ex(l:List Am)(x:Tm):aB (kJ l x)=aB l:=by grind [kJ]
theorem Dd{k:Int}{t:ByteArray}(h:Left s)(hf:Qz s.st k=true):Left (dQ s k t):=by
 rcases h with h|⟨Z,h0,d,z⟩
 .left;unfold dQ jR jm mD
  repeat' split
  all_goals simp_all
 .by_cases A:k=1\/k=2
  .right;unfold dQ jR;rw[if_pos A];by_cases h3:s.st=3;{grind [Ex]};{grind}
  .unfold dQ;rw[if_neg A];by_cases C:k=3
   .rw[if_pos C];have hs:s.st=2:=by{grind [Qz]};have:=z (by omega);exact aR ⟨by simp,by simp,d,λ_=>this⟩
   .rw[if_neg C];by_cases E:k=4
    .rw[if_pos E];have hs:s.st=4:=by{grind [Qz]};have:=z (by omega);right;unfold mD;rw[if_neg (by omega)];exact⟨by simp,by simp,d,λ_=>this⟩
    .rw[if_neg E];by_cases G:k=5
     .rw[if_pos G];right;by_cases hs:s.st=4;{grind};{grind}
     .rw[if_neg G];by_cases O:k=7;{rw[if_pos O];exact aR ⟨by simp,by simp,d,λh=>absurd rfl h⟩}
      .rw[if_neg O];by_cases M:k=6
       .rw[if_pos M];left;unfold jm
        cases ha:s.atoms with
        |nil=>rw[ha] at d;simp at d
        |cons a l=>simp
       .rw[if_neg M];exact aR ⟨Z,h0,d,z⟩
theorem AY:∀(r:List eE) (s:eD),Left s->gJ s r=aW
 |[],s,h=>by
  unfold gJ Q5;simp only;rw[if_neg];rintro⟨a,b⟩;rcases h with h|h
  .exact h b
  .exact h.1 a
 |x::r,s,h=>by
  by_cases z:Qz s.st x.kind=true
  .by_cases d:Qb s.st x.runes (aB s.rules) (aB s.atoms) (Qw s.atoms)=true;{grind [nt,oC]};{rw[Bool.not_eq_true] at d;rw[pT z d];exact AY r _ (Dd h z)}
  .grind [nt,k9]
theorem Cg(a:Am)(A:List ByteArray)(r:List eE):gJ ⟨5,[],[a],A⟩ r=if r=[] then aV a else none:=by
 cases r with
 |nil=>unfold gJ Q5;simp
 |cons x r=>
  rw[if_neg (by simp)];by_cases C:Qz 5 x.kind=true
  .by_cases z:Qb 5 x.runes 0 1 (Qw [a])=true;{grind [nt,oC]}
   .rw[Bool.not_eq_true] at z;rw[pT (s:=⟨5,[],[a],A⟩) C z];apply AY;have d:x.kind=7\/x.kind=6:=by grind [Qz]
    rcases d with d|d
    .rw[d];right;unfold dQ;simp
    .rw[d];left;unfold dQ jm;simp
  .grind [nt,k9]
theorem BC(d:E.kind=4){l:Lk}(z:l.want=6)(r:List eE):gR E l r↔r=[]:=by
 cases r with
 |nil=>simp only[iff_true];unfold gR dW iQ;simp[d,z]
 |cons x r=>grind [rO,Qg,eJ]
def nH(x:eE):Prop:=(x.kind=1\/x.kind=2)/\x.runes<=8
theorem wU(z:l.want=3)(d:l.e=0)(x:eE)(r:List eE):(nH x/\l.args+1<=2->(gR E l (x::r)↔gR E {l with args:=l.args+1,want:=4} r))/\(¬(nH x/\l.args+1<=2)->¬gR E l (x::r)):=by grind [ud,fD,Qg,fS,fY,ig,Qt,rO,nW,uT,nH]
theorem vT(rel:ByteArray)(l:List Tm)(d:List ByteArray)(x:eE)(r:List eE):(nH x/\aB l+1<=2->gJ ⟨3,[],[⟨rel,l⟩],d⟩ (x::r)=gJ ⟨4,[],[⟨rel,l++[gE d x.kind x.text]⟩],gT d x.kind x.text⟩ r)/\(aB l<=2->¬(nH x/\aB l+1<=2)->gJ ⟨3,[],[⟨rel,l⟩],d⟩ (x::r)=aW):=by grind [pT,Qz,Qb,Qw,dQ,jR,kJ,nt,oC,nH,k9]
theorem At(A:l.want=4)(d:l.alone=true)(z:l.e=0)(x:eE)(r:List eE):(x.kind=5->(gR E l (x::r)↔gR E {l with want:=3} r))/\(x.kind=4->(gR E l (x::r)↔gR E {l with want:=6} r))/\(x.kind≠5->x.kind≠4->¬gR E l (x::r)):=by grind [ud,rO,Qg,eJ,Qt,fD,pd,qH]
theorem xR(a:Am)(d:List ByteArray)(x:eE)(z:lL x)(r:List eE):(x.kind=5->gJ ⟨4,[],[a],d⟩ (x::r)=gJ ⟨3,[],[a],d⟩ r)/\(x.kind=4->gJ ⟨4,[],[a],d⟩ (x::r)=gJ ⟨5,[],[a],d⟩ r)/\(x.kind≠5->x.kind≠4->gJ ⟨4,[],[a],d⟩ (x::r)=aW):=by grind [lL,pT,Qz,Qb,dQ,mD,nt,k9]
theorem qR(d:E.kind=4){l:Lk}(z:l.want=3\/l.want=4\/l.want=2):¬gR E l []:=by
 show ¬(dW l [E]).1=0;unfold dW iQ;rw[if_neg (by simp;omega)];have:(Qg l E).e=2:=by grind [Qg,fS,fY,eJ]
 simp[this]
theorem oo(h:s.st≠5):gJ s []=none:=by unfold gJ Q5;simp[h]
theorem DX(E:RT)(z:E.kind=4)(ts:List eE)(hf:∀x∈ts,lL x):(gR E (fA true) ts->gJ eX ts=oQ (ts.map Qt++[E]))/\(¬gR E (fA true) ts->gJ eX ts=aW):=by
 cases ts with
 |nil=>grind [gR,fA,dW,iQ,Qg,fS,fY,oo,eX]
 |cons d ts=>
  by_cases h1:d.kind=1/\d.runes<=8
  .have r1:gR E (fA true) (d::ts)↔gR E ⟨2,false,true,1,0,0,0⟩ ts:=ud (by unfold Qg fS fY ig Qt fD fA;simp[h1.1];omega) rfl;have c1:gJ eX (d::ts)=gJ ⟨2,[],[⟨d.text,[]⟩],[]⟩ ts:=by{grind [pT,eX,Qz,Qb,dQ,jR]};rw[r1,c1]
   cases ts with
   |nil=>exact⟨λh=>absurd h (qR z (aR (aR rfl))),λ_=>oo (by simp[eX])⟩
   |cons O ts=>
    have f2:=hf O (by simp);by_cases h2:O.kind=3
    .have r2:gR E ⟨2,false,true,1,0,0,0⟩ (O::ts)↔gR E ⟨3,false,true,1,0,0,0⟩ ts:=ud (by unfold Qg eJ Qt fD;simp[h2]) rfl;have c2:gJ ⟨2,[],[⟨d.text,[]⟩],[]⟩ (O::ts)=gJ ⟨3,[],[⟨d.text,[]⟩],[]⟩ ts:=by{grind [pT,Qz,Qb,lL,dQ]};rw[r2,c2]
     cases ts with
     |nil=>exact⟨λh=>absurd h (qR z (aQ rfl)),λ_=>oo (by simp[eX])⟩
     |cons x3 ts=>
      have C:=wU (E:=E) (l:=⟨3,false,true,1,0,0,0⟩) rfl rfl x3 ts;have A:=vT d.text [] [] x3 ts;by_cases Z:nH x3
      .have⟨e1,e2⟩:=wD [] x3 Z.1;rw[C.1 ⟨Z,by simp⟩,A.1 ⟨Z,by simp⟩]
       cases ts with
       |nil=>exact⟨λh=>absurd h (qR z (aR (aQ rfl))),λ_=>oo (by simp[eX])⟩
       |cons x4 ts=>
        have M:=At (E:=E) (l:=⟨4,false,true,1,0,0+1,0⟩) rfl rfl rfl x4 ts;have G:=xR ⟨d.text,[]++[gE [] x3.kind x3.text]⟩ (gT [] x3.kind x3.text) x4 (hf x4 (by simp)) ts;by_cases h4:x4.kind=4;{grind [Qt,qH,BC,Cg,oQ,eH,sI]}
        .by_cases h5:x4.kind=5
         .rw[M.1 h5,G.1 h5];have e4:(Qt x4).kind≠41:=λh=>h4 ((qH _).1 h)
          cases ts with
          |nil=>exact⟨λh=>absurd h (qR z (aQ rfl)),λ_=>oo (by simp[eX])⟩
          |cons x5 ts=>
           have C:=wU (E:=E) (l:=⟨3,false,true,1,0,0+1,0⟩) rfl rfl x5 ts;have A:=vT d.text ([]++[gE [] x3.kind x3.text]) (gT [] x3.kind x3.text) x5 ts;by_cases h6:nH x5
           .have⟨e5,e6⟩:=wD (gT [] x3.kind x3.text) x5 h6.1;rw[C.1 ⟨h6,by simp⟩,A.1 ⟨h6,by simp⟩]
            cases ts with
            |nil=>exact⟨λh=>absurd h (qR z (aR (aQ rfl))),λ_=>oo (by simp[eX])⟩
            |cons x6 ts=>
             have M:=At (E:=E) (l:=⟨4,false,true,1,0,0+1+1,0⟩) rfl rfl rfl x6 ts;have G:=xR ⟨d.text,[]++[gE [] x3.kind x3.text]++[gE (gT [] x3.kind x3.text) x5.kind x5.text]⟩ (gT (gT [] x3.kind x3.text) x5.kind x5.text) x6 (hf x6 (by simp)) ts;by_cases h7:x6.kind=4;{have e7:(Qt x6).kind=41:=(qH _).2 h7;rw[M.2.1 h7,G.2.1 h7,BC z rfl,Cg];refine⟨λh=>?_,λh=>by rw[if_neg h]⟩;rw[if_pos h];subst h;simp only[aY,bD,aX,aZ];unfold oQ eH;simp only[if_neg e4];unfold eH;simp only[if_pos e7,e1,e2,e5];rw[sI h1.1]}
             .by_cases h8:x6.kind=5
              .rw[M.1 h8,G.1 h8]
               cases ts with
               |nil=>exact⟨λh=>absurd h (qR z (aQ rfl)),λ_=>oo (by simp[eX])⟩
               |cons x7 ts=>have C:=wU (E:=E) (l:=⟨3,false,true,1,0,0+1+1,0⟩) rfl rfl x7 ts;have A:=vT d.text ([]++[gE [] x3.kind x3.text]++[gE (gT [] x3.kind x3.text) x5.kind x5.text]) (gT (gT [] x3.kind x3.text) x5.kind x5.text) x7 ts;exact⟨λh=>absurd h (C.2 (by simp)),λ_=>A.2 (by simp) (by simp)⟩
              .grind
           .grind
         .grind
      .grind
    .grind [rO,wZ,Qg,eJ,Qt,nt,k9,Qz]
  .grind [rO,nW,fD,Qg,fS,fY,ig,Qt,fA,nt,eX,oC,Qz,Qb,k9]
theorem yX(s:ByteArray):lw s=iX s:=by
 have A:aB (R s 0)<=300->s.size<=1200:=λh=>by grind [mG,m8]
 unfold lw iX;rw[<-m8];by_cases d:300<aB (R s 0)
 .grind
 .rw[if_neg d,if_neg d];have z:=sH s (A (by omega));have h:=DX ⟨4,⟨#[]⟩,aB (R s 0),0⟩ rfl (eA s.size s 0) (sM s.size s 0);rw[z];unfold gR at h;unfold gJ at h;by_cases C:(dW (fA true) ((eA s.size s 0).map Qt++[⟨4,⟨#[]⟩,aB (R s 0),0⟩])).1=0;{grind};{grind}
