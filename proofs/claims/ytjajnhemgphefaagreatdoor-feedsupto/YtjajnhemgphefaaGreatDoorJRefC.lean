/- A part -/
import Derived.Test.YtjajnhemgphefaaGreatDoorJAll
import Derived.BigQuiet
set_option linter.all false
set_option maxRecDepth 100000
set_option maxHeartbeats 4000000
open List renaming length->aB,length_cons->aZ,takeWhile_cons->bC,map_cons->bD,flatMap_cons->bF
open Go.World renaming cell?->aC,ownsRow->aE
open Go.Value renaming ownBlock->aF,slice->aH,string->aI,agg->aJ,bool->aK,int->aM
open Go.Obj renaming cells->aN
open Go.Ending renaming returned->aO
open Go.IntKind renaming i64->aP
open Or renaming inl->aQ,inr->aR
open Option renaming some->aV,none->aW
open Array renaming getElem?_toList->aX,length_toList->bE
open ByteArray renaming get!->aY,empty->bG,data_extract->bH,append_assoc->bI,ext->bJ
open Nat renaming zero_add->bB
open Go.Utf8 renaming decode->bL
open Go.Lib renaming hasPrefix->bO
open Go renaming wpList_append_own->bQ
open Go.Addr renaming add->bT
namespace Go.Proofs.YtjajnhemgphefaaGreatDoor
open Go renaming World->Wq,Value->Vq
open Go.RowKit Go.Shelf
variable {α:Type} {W W':Wq} {B T k:Nat} {xs:List Vq}
structure RT where
 kind:Int
 text:ByteArray
 place:Nat
 runes:Nat
def gO:List Rn->ByteArray
 |[]=>⟨#[]⟩
 |x::l=>x.text++gO l
def dL:Nat->List Rn->Nat->List RT
 |0,_,_=>[]
 |f+1,[],_=>[]
 |f+1,r::l,i=>
  if r.kind=1\/r.kind=2 then ⟨r.kind,r.text++gO (tw l),i,1+aB (tw l)⟩::dL f (l.drop (aB (tw l))) (i+(1+aB (tw l)))
  else if r.kind=5 then ⟨((r.text.get! 0).toNat:Int),r.text,i,1⟩::dL f l (i+1)
  else if r.kind=6/\(l.head?.map (·.kind))=aV 7 then ⟨3,⟨#[]⟩,i,2⟩::dL f (l.drop 1) (i+2)
  else if r.kind=4 then dL f l (i+1)
  else ⟨5,r.text,i,1⟩::dL f l (i+1)
def fD(k:Int):Int:=
 if k=1 then 1 else if k=2 then 2 else if k=7 then 3 else if k=3 then 40 else if k=4 then 41 else if k=5 then 44 else if k=6 then 46 else 5
def Qt(t:eE):RT:=⟨fD t.kind,if t.kind=7 then ⟨#[]⟩ else t.text,t.place,t.runes⟩
theorem Gp(s:ByteArray)(i j k:Nat)(d:i<=j)(z:j<=k)(A:k<=s.size):s.extract i j++s.extract j k=s.extract i k:=by simp_all
theorem ye(s:ByteArray):∀(k i:Nat),k<=aB (R s i)->i<=s.size->gO ((R s i).take k)=s.extract i (i+eC ((R s i).take k))/\i+eC ((R s i).take k)<=s.size
 |0,i,_,d=>by refine⟨?_,by simpa [eC] using d⟩;simp only[List.take_zero,gO,eC,Nat.add_zero];apply bJ;simp
 |k+1,i,h,bk=>by
  by_cases d:i<s.size
  .have C:=jW s i d;have A:=ld s i d;rw[A] at h ⊢;rw[List.take_succ_cons];have E:(s.extract i (i+(bL s i).2)).size=(bL s i).2:=by{simp;omega};have z:=ye s k (i+(bL s i).2) (by simpa using h) C;simp only[eC,E,gO];rw[z.1,<-Nat.add_assoc];exact⟨Gp s _ _ _ (by omega) (by omega) z.2,z.2⟩
  .grind [li]
theorem nZ(l:List Rn):tw l=l.take (aB (tw l)):=by
 unfold tw
 induction l with
 |nil=>rfl
 |cons x l ih=>
  rw[bC];split;{grind};{simp}
theorem tJ(l:List Rn):aB (tw l)<=aB l:=by grind [nZ]
theorem AF(r:Nat)(h:iR r=true):Qi r=1:=by grind [Qi]
theorem B9(r:Nat)(h:iN r=true):Qi r=2:=by grind [iN,iR,Qi]
theorem GS(r:Nat)(h:kU r=true):Qi r=4:=by grind [kU,Qi,iR,iN,kW]
theorem BG(s:ByteArray)(h:0<s.size)(M:Qi (bL s 0).1<=3):(dT s s.size 0 0).2=1+aB (tw (R s (bL s 0).2))/\
  s.extract 0 (dT s s.size 0 0).1=s.extract 0 (bL s 0).2++gO (tw (R s (bL s 0).2))/\
  R (s.extract (dT s s.size 0 0).1 s.size) 0=(R s (bL s 0).2).drop (aB (tw (R s (bL s 0).2))):=by
 have C:=ld s 0 h;rw[bB] at C;have d:=jW s 0 h;rw[bB] at d;have E:tw (R s 0)=⟨Qi (bL s 0).1,s.extract 0 (bL s 0).2⟩::tw (R s (bL s 0).2):=by simp_all [tw]
 have G:(s.extract 0 (bL s 0).2).size=(bL s 0).2:=by simp;omega
 have hs:=wu s s.size 0 0 (by omega);rw[E] at hs;simp only[eC,G,aZ,bB] at hs;have A:=ye s (aB (tw (R s (bL s 0).2))) (bL s 0).2 (tJ _) d;rw[<-nZ] at A;have z:=AQ s (aB (tw (R s (bL s 0).2))) (bL s 0).2 (tJ _);rw[<-nZ] at z;rw[hs];refine⟨by simp only;omega,?_,?_⟩
 .simp_all
 .rw[tZ];exact z
theorem DQ(s:ByteArray)(n:Nat)(h:s.size<=1200):(s.extract 0 n).size<=1200:=by simp;omega
theorem yK(s:ByteArray)(h:0<s.size)(G:Qi (bL s 0).1<=3):0<(dT s s.size 0 0).1:=by
 have d:=ld s 0 h;rw[bB] at d;have E:=nU s 0;have C:=jW s 0 h;have hs:=wu s s.size 0 0 (by omega);have z:tw (R s 0)=⟨Qi (bL s 0).1,s.extract 0 (bL s 0).2⟩::tw (R s (bL s 0).2):=by simp_all [tw]
 have A:(s.extract 0 (bL s 0).2).size=(bL s 0).2:=by simp;omega
 rw[z] at hs;simp only[eC,A] at hs;rw[hs];simp only;omega
theorem IV(s:ByteArray)(h:bO s.data.toList [58,45]=true):(bL s 0).2=1/\(bL s 1).2=1/\Qi (bL s 0).1=6/\Qi (bL s 1).1=7/\2<=s.size/\True:=by
 have E:[58,45] <+: s.data.toList:=by simpa [bO] using h
 have⟨t,ht⟩:=E;have M:aB s.data.toList=s.size:=bE;have G:2<=s.size:=by grind
 have A:dE s 0=58:=by
  have:s.data.toList[0]?=aV 58:=by{rw[<-ht];rfl};rw[aX] at this;simp[dE,aY,getElem!_def,this]
 have C:dE s 1=45:=by
  have:s.data.toList[1]?=aV 45:=by{rw[<-ht];rfl};rw[aX] at this;simp[dE,aY,getElem!_def,this]
 have d:=rW s 0;have z:=rW s 1;rw[A,if_pos (by decide)] at d;rw[C,if_pos (by decide)] at z;rw[d,z];exact⟨rfl,rfl,by decide,by decide,G,trivial⟩
theorem Id(s:ByteArray)(i:Nat)(h:eQ s i=2):194<=dE s i/\dE s i<=223:=by grind [eQ]
theorem zZ(s:ByteArray)(i:Nat)(h:(bL s i).1<128):dE s i=(bL s i).1/\(bL s i).2=1:=by grind [rW,dE,eQ,Id,xL,A8]
theorem Ht(r:Nat)(h:Qi r=7):r=45:=by grind [Qi]
theorem Hf(s:ByteArray)(h0:dE s 0=58)(A:dE s 1=45)(C:1<s.size):bO s.data.toList [58,45]=true:=by
 have E:aB s.data.toList=s.size:=bE
 have d:s.data.toList[0]?=aV 58:=by
  rw[aX];have e:s.data[0]?=aV (s.data[0]'(by grind)):=by{simp};rw[e];have:dE s 0=(s.data[0]'(by grind)).toNat:=by{simp[dE,aY,getElem!_def,e]};rw[h0] at this;congr 1;exact UInt8.toNat.inj (by grind)
 have z:s.data.toList[1]?=aV 45:=by
  rw[aX];have e:s.data[1]?=aV (s.data[1]'(by grind)):=by{simp};rw[e];have:dE s 1=(s.data[1]'(by grind)).toNat:=by{simp[dE,aY,getElem!_def,e]};rw[A] at this;congr 1;exact UInt8.toNat.inj (by grind)
 generalize s.data.toList=l at *
 cases l with
 |nil=>simp at d
 |cons a l=>
  cases l with
  |nil=>simp at z
  |cons b l=>simp at d z;subst d z;simp[bO]
theorem FK(s:ByteArray)(n:Nat)(h:0<n)(d:0<s.size):((s.extract 0 n).get! 0).toNat=dE s 0:=by
 unfold dE;have:(s.extract 0 n).data[0]?=s.data[0]?:=by rw[bH,Array.getElem?_extract];have z:s.data.size=s.size:=rfl;rw[if_pos (by grind)]
 simp only[aY,getElem!_def];rw[this]
theorem oE:∀(f:Nat) (s:ByteArray) (p:Nat),s.size<=f->s.size<=1200->(eA f s p).map Qt=dL f (R s 0) p
 |0,s,p,h,_=>rfl
 |f+1,s,p,h,hb=>by
  by_cases h0:s.size=0;{rw[A4 _ _ _ h0,li s 0 (by omega)];rfl};have hp:=nU s 0;have M:=ld s 0 (by omega);rw[bB] at M;have aw:=jW s 0 (by omega);have au:∀n,(s.extract n s.size).size=s.size-n:=λn=>by{simp};rw[M]
  conv=>lhs;unfold eA
  rw[if_neg h0];by_cases C:kU (bL s 0).1=true
  .rw[if_pos C,oE f _ _ (by grind) (by grind),tZ]
   conv=>rhs;unfold dL
   simp only[GS _ C];simp
  rw[if_neg C,dif_pos (DQ s _ hb)];have z:iN (bL s 0).1=true\/iR (bL s 0).1=true->Qi (bL s 0).1<=3:=by{grind [B9,AF]};by_cases A:iN (bL s 0).1=true
  .have⟨w1,w2,w3⟩:=BG s (by omega) (z (aQ A));have w0:=yK s (by omega) (z (aQ A));have d:eY s=(2,(dT s s.size 0 0).1,(dT s s.size 0 0).2):=by{grind [eY]};rw[bD,d];simp only;rw[oE f _ _ (by grind) (by grind),w3]
   conv=>rhs;unfold dL
   simp only[B9 _ A];simp[Qt,fD,w1,w2]
  by_cases E:iR (bL s 0).1=true
  .have⟨w1,w2,w3⟩:=BG s (by omega) (z (aR E));have w0:=yK s (by omega) (z (aR E));have d:eY s=(1,(dT s s.size 0 0).1,(dT s s.size 0 0).2):=by{grind [eY]};rw[bD,d];simp only;rw[oE f _ _ (by grind) (by grind),w3]
   conv=>rhs;unfold dL
   simp only[AF _ E];simp[Qt,fD,w1,w2]
  by_cases af:bO s.data.toList [58,45]=true
  .have⟨q1,q2,q3,q4,q5,q6⟩:=IV s af;have d:eY s=(7,2,2):=by{grind [eY]};rw[bD,d];simp only;rw[oE f _ _ (by grind) (by grind),tZ,q1];have b7:=ld s 1 (by omega);rw[b7,q2]
   conv=>rhs;unfold dL
   simp only[q3,q4];simp[Qt,fD]
  have d:eY s=(mg (bL s 0).1,(bL s 0).2,1):=by{grind [eY]};rw[bD,d];simp only;rw[oE f _ _ (by grind) (by grind),tZ];have bf:Qi (bL s 0).1=6->¬((R s (bL s 0).2).head?.map (·.kind))=aV 7:=by{grind [Qi,zZ,ld,Ht,Hf,li]};have b4:(bL s 0).1<128->((s.extract 0 (bL s 0).2).get! 0).toNat=(bL s 0).1:=by grind [FK,zZ]
  conv=>rhs;unfold dL
  generalize (bL s 0).2=wd at *;generalize (bL s 0).1=r at *;have cd:iN r=false:=by{grind};have cb:iR r=false:=by{grind};have Z:kU r=false:=by{grind};have hk:Qi r=if kW r=true then 3 else if r=40\/r=41\/r=44\/r=46 then 5 else if r=58 then 6 else if r=45 then 7 else 8:=by{grind [Qi]};by_cases h5:r=40\/r=41\/r=44\/r=46
  .have hd:kW r=false:=by{unfold kW;simp only[decide_eq_false_iff_not];omega};have G:Qi r=5:=by grind
   simp only[G];have hg:=b4 (by omega);rcases h5 with rfl|rfl|rfl|rfl<;>simp[Qt,fD,mg,hg]
  .have bj:mg r=0:=by{unfold mg;rw[if_neg (by omega),if_neg (by omega),if_neg (by omega),if_neg (by omega)]};have G:Qi r≠1/\Qi r≠2/\Qi r≠5/\Qi r≠4:=by{grind};have bn:¬(Qi r=6/\((R s wd).head?.map (·.kind))=aV 7):=λO=>bf O.1 O.2;simp only;rw[if_neg (by omega),if_neg (by omega),if_neg bn,if_neg (by omega),bj];simp[Qt,fD]
theorem AH(f:α->List Vq)(k:Nat)(z:∀x,aB (f x)=k):∀(l:List α) (j o:Nat) (d:j<aB l),o<k->(l.flatMap f)[j*k+o]?=(f l[j])[o]?
 |[],j,o,d,_=>by simp at d
 |x::l,0,o,d,ho=>by grind
 |x::l,j+1,o,d,ho=>by
  have A:j<aB l:=by{simpa using d};have e:(j+1)*k+o=k+(j*k+o):=by{grind};rw[bF,List.getElem?_append_right (by rw[z,e];omega),z,e,Nat.add_sub_cancel_left];simpa using AH f k z l j o A ho
theorem wF(f:α->List Vq)(k:Nat)(d:∀x,aB (f x)=k)(l:List α):aB (l.flatMap f)=aB l*k:=by
 induction l with
 |nil=>simp
 |cons x l ih=>rw[bF,List.length_append,d,ih,aZ,Nat.succ_mul];omega
theorem qe{n:Nat}{v:Vq}(h:aE W B T k v n xs):∃a c,v=aH a n c:=by
 obtain⟨_,⟨z,C⟩|⟨g,d,A,z,_⟩⟩:=h
 .grind
 .grind
theorem iI{v:Vq}{α:Type}{f:α->List Vq}{l:List α}(h:aE W B T k v (aB l) (l.flatMap f))(hk:∀x,aB (f x)=k)(Z:0<aB l):∃g d,v=Sc g (aB l) d/\B<=g/\g<W.heap.size/\aB l<=d/\∀(j o:Nat) (O:j<aB l) (u:Vq),o<k->(f l[j])[o]?=aV u->aC W (Ad g (j*k+o))=aV u:=by
 obtain⟨_,⟨A,hn⟩|⟨g,d,E,A,M,C,G,h2,h3,h4⟩⟩:=h
 .omega
 .refine⟨g,d,A,M,(zg C).1,G,λj o O u ho hu=>?_⟩;have z:(E.toList.take (aB l*k))[j*k+o]?=aV u:=by{grind [AH]};have ad:j*k+o<aB l*k:=by{grind};rw[List.getElem?_take,if_pos ad] at z;simp only[aC,C];simpa using z
theorem qn{n:Nat}{v:Vq}(h:aE W B T k v n xs)(hk:∀g,aF v=aV g->g<W.heap.size->W'.heap[g]?=W.heap[g]?):aE W' B T k v n xs:=by
 obtain⟨h0,⟨d,hn⟩|⟨g,z,C,d,Z,A,E,G,M,O⟩⟩:=h
 .exact⟨h0,aQ ⟨d,hn⟩⟩
 .exact⟨h0,aR ⟨g,z,C,d,Z,(hk g (by rw[d];rfl) (zg A).1).trans A,E,G,M,O⟩⟩
theorem qj{n:Nat}{v:Vq}(h:aE W B T k v n xs)(d:Below W.heap.size W W'):aE W' B T k v n xs:=qn h (λg _ z=>d.block g z)
theorem Qj{B' n:Nat}{v:Vq}(h:aE W B T k v n xs)(G:B'<=B):aE W B' T k v n xs:=by
 obtain⟨h0,⟨z,C⟩|⟨g,d,A,z,M,E⟩⟩:=h
 .exact⟨h0,aQ ⟨z,C⟩⟩
 .exact⟨h0,aR ⟨g,d,A,z,by omega,E⟩⟩
theorem qM(w:Wq)(x y z u:Vq)(t:TypeId):∀j q,[x,y,z,u][j]?=aV q->aC (w.alloc (aN #[x,y,z,u] t)) ((⟨w.heap.size,0,aW⟩:Addr).add j)=aV q:=by
 intro j q d
 match j,d with
 |0,d=>simp at d;subst d;simp[bT]
 |1,d=>simp at d;subst d;simp[bT]
 |2,d=>simp at d;subst d;simp[bT]
 |3,d=>simp at d;subst d;simp[bT]
 |j+4,d=>simp at d
theorem GO(l:List Rn):∀m,m<=aB (tw l)->∀d:m<aB l,l[m].kind<=3->m+1<=aB (tw l):=by
 induction l with
 |nil=>intro m _ d;simp at d
 |cons x l ih=>grind [tw,bC,aZ]
theorem Fp(l:List Rn):∀m,m<=aB (tw l)->(∀z:m<aB l,¬l[m].kind<=3)->m=aB (tw l):=by
 induction l with
 |nil=>intro m h _;simpa [tw] using h
 |cons x l ih=>
  intro m h d
  cases m with
  |zero=>simp_all [tw]
  |succ m=>
   unfold tw at h ⊢;rw[bC] at h ⊢;split at h;{simp_all [tw]};{simp at h}
theorem AN(l:List Rn)(x:Rn):gO (l++[x])=gO l++x.text:=by
 induction l with
 |nil=>show x.text++bG=bG++x.text;simp
 |cons y l ih=>simp only[List.cons_append,gO,ih,bI]
theorem oj:∀(f g:Nat) (l:List Rn) (i:Nat),aB l<=f->aB l<=g->dL f l i=dL g l i
 |0,g,[],i,_,_=>by cases g<;>rfl
 |0,g,r::l,i,h,_=>by simp at h
 |f+1,0,[],i,_,_=>rfl
 |f+1,0,r::l,i,_,h=>by simp at h
 |f+1,g+1,[],i,_,_=>rfl
 |f+1,g+1,r::l,i,h,h'=>by simp only[aZ] at h h';unfold dL;rw[oj f g (l.drop (aB (tw l))) _ (by simp;omega) (by simp;omega),oj f g l _ (by omega) (by omega),oj f g (l.drop 1) _ (by simp;omega) (by simp;omega)]
theorem sD(s:ByteArray):∀(f i:Nat),s.size<=i+f->∀r∈R s i,1<=r.text.size/\r.text.size<=4
 |0,i,h,r,d=>by grind [li]
 |f+1,i,h,r,d=>by
  by_cases z:i<s.size
  .have G:=jW s i z;have E:=nU s i;have C:(bL s i).2<=4:=by grind [rE,eQ]
   rw[ld s i z] at d;rcases List.mem_cons.1 d with rfl|d
   .have A:(s.extract i (i+(bL s i).2)).size=(bL s i).2:=by{simp;omega};simp only;rw[A];omega
   .exact sD s f _ (by omega) r d
  .grind [li]
theorem I3(c:Nat)(w:Wq):Cs 173 #[aM .u8 c] w λe w'=>e=aO (Ii (oO c))/\w'=w:=by
 go_enter Tryz.func173,Tryz.ntmps173;go_wp2
 all_goals
  go_ret;exact⟨m9 (by unfold oO;(repeat' split)<;>first|rfl|(exfalso;omega)|(simp at *;done)|(exfalso;simp at *;omega)),rfl⟩
theorem pC(s:ByteArray)(i:Nat)(h:i<s.size):s[i].toNat=dE s i:=by unfold dE;congr 1;have d:i<s.data.size:=h;show s.data[i]=s.data[i]!;rw[getElem!_pos s.data i d]
theorem wq(s:ByteArray)(i lo d:Nat)(w:Wq)(hs:s.size<=1048576)(z:i<=1048576+10):Cs 220 #[St s,Ii i,aM .u8 lo,aM .u8 d] w λe w'=>e=aO (aK (gV s i lo d))/\w'=w:=by
 by_cases ad:i<s.size
 .have A:=pC s i ad;go_enter Tryz.func220,Tryz.ntmps220;go_wp2
  all_goals
   go_ret;exact⟨ie (by rw[Bool.eq_iff_iff];simp only[gV,decide_eq_true_eq];(try simp)<;>omega),rfl⟩
 .go_enter Tryz.func220,Tryz.ntmps220;go_wp2;go_ret;exact⟨ie (by rw[Bool.eq_iff_iff];simp only[gV,decide_eq_true_eq];(try simp)<;>omega),rfl⟩
theorem EQ(a b:Nat)(d:a<256)(z:b<256)(w:Wq):Cs 174 #[aM .u8 a,aM .u8 b] w λe w'=>e=aO (Ii (qQ a b))/\w'=w:=by
 go_enter Tryz.func174,Tryz.ntmps174;go_wp2
 all_goals
  go_ret;exact⟨m9 (by unfold qQ;(repeat' split)<;>first|rfl|(exfalso;omega)|(simp at *;done)|(exfalso;simp at *;omega)),rfl⟩
def ur(c:Nat)(a b d:Bool):Nat:=
 if 194<=c/\c<=223/\a=true then 2 else if 224<=c/\c<=239/\a=true/\b=true then 3
 else if 240<=c/\c<=244/\a=true/\b=true/\d=true then 4 else 1
theorem Dm(s:ByteArray)(i:Nat)(w:Wq)(hs:s.size<=1048576)(hi:i<s.size):Cs 172 #[St s,Ii i] w λe w'=>e=aO (Ii (eQ s i))/\w'=w:=by
 have hb:=pC s i hi;have z:eQ s i=ur (dE s i) (gV s (i+1) (iy (dE s i)) (iC (dE s i))) (gV s (i+2) 128 191) (gV s (i+3) 128 191):=rfl;have d:Cs 220 #[St s,Ii ((i:Int)+1),aM .u8 (iy (dE s i)),aM .u8 (iC (dE s i))] w λe w'=>e=aO (aK (gV s (i+1) (iy (dE s i)) (iC (dE s i))))/\w'=w:=wq s (i+1) _ _ w hs (by omega);have C:Cs 220 #[St s,Ii ((i:Int)+2),aM .u8 128,aM .u8 191] w λe w'=>e=aO (aK (gV s (i+2) 128 191))/\w'=w:=wq s (i+2) _ _ w hs (by omega);have E:Cs 220 #[St s,Ii ((i:Int)+3),aM .u8 128,aM .u8 191] w λe w'=>e=aO (aK (gV s (i+3) 128 191))/\w'=w:=wq s (i+3) _ _ w hs (by omega);rw[z];clear z;generalize gV s (i+1) (iy (dE s i)) (iC (dE s i))=A at *;generalize gV s (i+2) 128 191=B at *;generalize gV s (i+3) 128 191=D at *;have hc:dE s i=224\/dE s i=237\/dE s i=240\/dE s i=244\/(dE s i≠224/\dE s i≠237/\dE s i≠240/\dE s i≠244):=by omega
 generalize dE s i=c at *;rcases hc with rfl|rfl|rfl|rfl|⟨G,M,O,Z⟩
 case inr.inr.inr.inr=>
  have l1:iy c=128:=by{unfold iy;simp[G,O]};have l2:iC c=191:=by{unfold iC;simp[M,Z]};rw[l1,l2] at d;have m1:((c:Int) == 224)=false:=by{simp;omega};have m2:((c:Int) == 237)=false:=by{simp;omega};have m3:((c:Int) == 240)=false:=by{simp;omega};have m4:((c:Int) == 244)=false:=by{simp;omega};clear G M O Z;go_enter Tryz.func172,Tryz.ntmps172;go_wp2_with fail;refine d.mono ?_;rintro e w' ⟨rfl,rfl⟩;go_wp2_with fail;refine C.mono ?_;rintro e w' ⟨rfl,rfl⟩;go_wp2_with fail;refine E.mono ?_;rintro e w' ⟨rfl,rfl⟩;go_wp2
  all_goals
   go_ret;exact⟨m9 (by unfold ur;(repeat' split)<;>first|rfl|(exfalso;simp_all;done)|(exfalso;simp_all;omega)),rfl⟩
 all_goals
  simp only[iy,iC] at d;go_enter Tryz.func172,Tryz.ntmps172;go_wp2_with fail;refine d.mono ?_;rintro e w' ⟨rfl,rfl⟩;go_wp2_with fail;refine C.mono ?_;rintro e w' ⟨rfl,rfl⟩;go_wp2_with fail;refine E.mono ?_;rintro e w' ⟨rfl,rfl⟩;go_wp2
  all_goals
   go_ret;exact⟨m9 (by unfold ur;(repeat' split)<;>first|rfl|(exfalso;simp_all;done)|(exfalso;simp_all;omega)),rfl⟩
theorem qy{a w:Wq}(h:Below B a w){q:Nat}:Below B a (w.drewN q):=⟨h.os,h.tape,h.output,h.size,h.block⟩
def nh(r:Rn):List Vq:=[aM aP r.kind,aI r.text]
theorem Tryz.infoRn:(Tryz.prog.info? 295).map (λi=>(i.zero,i.size,i.bytes))=aV (aV (aJ #[Ii 0,St ⟨#[]⟩]),2,24):=by kernel_rfl
theorem mo(w:Wq)(x y:Vq)(t:TypeId):∀j u,[x,y][j]?=aV u->aC (w.alloc (aN #[x,y] t)) ((⟨w.heap.size,0,aW⟩:Addr).add j)=aV u:=by
 intro j u d
 match j,d with
 |0,d=>simp at d;subst d;simp[bT]
 |1,d=>simp at d;subst d;simp[bT]
 |j+2,d=>simp at d
theorem Ew{w wr X w1:Wq}{v d:Vq}{pre:List Rn}{t:ByteArray}(C:Below B w X)(A:B<=X.heap.size)(M:aE wr B 295 2 v (aB pre) (pre.flatMap nh))(z:aE w1 B 295 2 d (aB pre+1) (pre.flatMap nh++[Ii k,St t]))(E:X.grownBy w1 (aF v)):aE w1 B 295 2 d (aB (pre++[Rn.mk k t])) ((pre++[Rn.mk k t]).flatMap nh)/\Below B w w1:=by refine⟨?_,C.grown E A (λk G=>(M.lt k G).1)⟩;simpa [nh] using z
theorem vB(s:ByteArray)(w:Wq)(hs:s.size<=1048576):Cs 106 #[aI s] w λe w'=>∃v,e=aO v/\aE w' w.heap.size 295 2 v (aB (R s 0)) ((R s 0).flatMap nh)/\Below w.heap.size w w':=by
 obtain⟨i0,hi,az,a6,a7⟩:=info_parts Tryz.infoRn;obtain⟨B,hB⟩:∃B,B=w.heap.size:=⟨_,rfl⟩;have b3:B<=w.heap.size:=by omega
 have HB:Hid (w.heap.size=B):=hB.symm;rw[<-hB];clear hB;go_enter Tryz.func106,Tryz.ntmps106;go_wp2
 go_loopw [3,4] (λv a wr=>∃(i:Nat) (pre:List Rn) (v1:Vq),v1=v/\a=aM aP i/\i<=s.size/\pre++R s i=R s 0/\aB pre<=i/\aE wr B 295 2 v1 (aB pre) (pre.flatMap nh)/\Below B w wr)
  (λ_ a _=>s.size-(intOf a).toNat)
 case atStart=>exact⟨0,[],_,rfl,rfl,zz,rfl,Nat.le_refl _,zo,zr⟩
 case round=>
  obtain⟨i,pre,v,rfl,rfl,ce,M,ca,A,aq⟩:=hrel;by_cases ad:i<s.size
  .have ap:=Bh s i;have be:=rE s i;have bh:=jW s i ad;have b6:=nU s i;have ao:=ld s i ad;have hb:=pC s i ad;rw[be] at bh b6 ao;rw[<-ap] at ao;clear be ap;have au:=Dm s i wr hs ad;have HC:Hid (R s i=⟨jz s i,s.extract i (i+eQ s i)⟩::R s (i+eQ s i)):=ao;clear ao;have am:Hid (eQ s i=1->jz s i=oO (dE s i)):=λh=>by unfold jz;rw[if_pos h]
   have al:Hid (eQ s i=2->jz s i=qQ (dE s i) (dE s (i+1))):=λh=>by unfold jz;rw[if_neg (by omega),if_pos h]
   have av:Hid (eQ s i≠1->eQ s i≠2->jz s i=8):=λh h'=>by unfold jz;rw[if_neg h,if_neg h']
   have C:Hid (∀(d:Vq) (w1:Wq) (kd:Nat) (X:Wq),kd=jz s i->Below B w X->B<=X.heap.size->aE w1 B 295 2 d (aB pre+1) (pre.flatMap nh++[aM aP kd,aI (s.extract i (i+eQ s i))])->X.grownBy w1 (aF v)->
     ∃z:List Rn,z++R s (i+eQ s i)=R s 0/\aB z<=i+eQ s i/\aE w1 B 295 2 d (aB z) (z.flatMap nh)/\Below B w w1):=by
    intro d w1 kd X ap bq b5 ho hg;subst ap;obtain⟨a1,a2⟩:=Ew bq b5 A ho hg;exact⟨pre++[⟨jz s i,s.extract i (i+eQ s i)⟩],by rw[<-M,HC.o];simp,by simp;omega,a1,a2⟩
   clear HC M;have ax:B<=wr.heap.size:=Nat.le_trans b3 aq.size;have G:Hid (Below B w wr):=aq;clear aq;generalize eQ s i=n at *;generalize jz s i=kd at *;have bc:aB pre+1<=maxLen:=by unfold maxLen;omega
   have a9:(aB pre+1)*24<=140737488355328:=by omega
   have E:∀o,B<=(wr.alloc o).heap.size:=λo=>by simp;omega
   have a8:∀(k:Nat) (t:ByteArray),∀u∈[aM aP k,aI t],u.oneCell'=true:=λk t=>by simp[Value.oneCell']
   by_cases h1:n=1
   .subst h1;have ak:=am.o rfl;subst ak;clear am al av;have bi:=I3 (dE s i) wr;generalize oO (dE s i)=kd at *
    go_wp2_with (first
     |(go_at_call 172;refine au.mono ?_;rintro e w' ⟨rfl,ae⟩;obtain rfl:wr=w':=ae.symm)
     |(go_at_call 173;refine bi.mono ?_;rintro e w' ⟨rfl,ae⟩;obtain rfl:wr=w':=ae.symm)
     |(at_builtin;refine bQ _ rfl (.tmp 30) (.tmp 39) 207 rfl B 295 i0 (aJ #[aM aP 0,aI ⟨#[]⟩]) 2 24 Tryz.underlying207 hi az a6 a7 rfl (by decide) _ _ _ rfl (A.alloc _) ⟨wr.heap.size,0,aW⟩ 1 1 [aM aP kd,aI (s.extract i (i+1))] rfl rfl (mo _ _ _ _) (a8 _ _) bc a9 (E _) ?_;intro d w1 ab aa _))
    obtain⟨z,O,Z,q3,q4⟩:=C.o d w1 kd _ rfl (G.o.alloc ax _) (E _) ab aa;clear ab aa C A G
    go_roundw
    case rel=>exact⟨i+1,z,d,rfl,by go_num,by omega,O,Z,q3,q4⟩
    case measure=>simp[intOf];omega
   by_cases h2:n=2
   .subst h2;have ak:=al.o rfl;subst ak;clear am al av h1;have cc:=pC s (i+1) (by omega);have bu:=EQ (dE s i) (dE s (i+1)) (ml _ _) (ml _ _);generalize qQ (dE s i) (dE s (i+1))=kd at *;have i1:i+1<s.size:=by omega
    go_wp2_with (first
     |(go_at_call 172;refine au.mono ?_;rintro e w' ⟨rfl,ae⟩;obtain rfl:wr=w':=ae.symm))
    go_quiet ((go_at_call 174;exact Calls.quiet_of_same (bu _)))
    go_wp2_with (first
     |(at_builtin;refine bQ _ rfl (.tmp 30) (.tmp 39) 207 rfl B 295 i0 (aJ #[aM aP 0,aI ⟨#[]⟩]) 2 24 Tryz.underlying207 hi az a6 a7 rfl (by decide) _ _ _ rfl (aE.alloc A _) ⟨wr.heap.size,0,aW⟩ 1 1 [aM aP kd,aI (s.extract i (i+2))] rfl rfl (mo _ _ _ _) (a8 _ _) bc a9 (E _) ?_;intro d w1 ab aa _))
    obtain⟨z,O,Z,q3,q4⟩:=C.o d w1 kd _ rfl ((qy G.o).alloc ax _) (E _) ab aa;clear ab aa C A G
    go_roundw
    case rel=>exact⟨i+2,z,d,rfl,by go_num,by omega,O,Z,q3,q4⟩
    case measure=>simp[intOf];omega
   .have ak:=av.o h1 h2;subst ak;clear am al av;have m1:((n:Int) == 1)=false:=by simp;omega
    have m2:((n:Int) == 2)=false:=by simp;omega
    go_wp2_with (first
     |(go_at_call 172;refine au.mono ?_;rintro e w' ⟨rfl,ae⟩;obtain rfl:wr=w':=ae.symm)
     |(at_builtin;refine bQ _ rfl (.tmp 30) (.tmp 39) 207 rfl B 295 i0 (aJ #[aM aP 0,aI ⟨#[]⟩]) 2 24 Tryz.underlying207 hi az a6 a7 rfl (by decide) _ _ _ rfl (A.alloc _) ⟨wr.heap.size,0,aW⟩ 1 1 [aM aP ((8:Nat):Int),aI (s.extract i (i+n))] rfl rfl (mo _ _ _ _) (a8 _ _) bc a9 (E _) ?_;intro d w1 ab aa _))
    obtain⟨z,O,Z,q3,q4⟩:=C.o d w1 8 _ rfl (G.o.alloc ax _) (E _) ab aa;clear ab aa C A G
    go_roundw
    case rel=>exact⟨i+n,z,d,rfl,by go_num,by omega,O,Z,q3,q4⟩
    case measure=>simp[intOf];omega
  .rw[li s i ad] at M;simp only[List.append_nil] at M;subst M;go_wp2;go_ret;exact⟨v,rfl,A,aq⟩
