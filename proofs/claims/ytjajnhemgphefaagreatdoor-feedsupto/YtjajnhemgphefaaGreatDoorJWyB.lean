/- A part -/
import Derived.Test.YtjajnhemgphefaaGreatDoorJMdQ
set_option linter.all false
open List renaming length->aB,mem_flatMap->aX,getElem?_eq_getElem->aY,length_cons->aZ,foldl_cons->bB,mem_map->bC,mem_cons->bD,mem_singleton->bE,mem_of_getElem?->bF,mem_append->bG,map_congr_left->bH,length_append->bI,take_subset_take_left->bJ,getElem?_eq_some_iff->bL,length_set->bQ,length_map->bT,mem_iff_getElem?->bU,mem_cons_of_mem->bX,findIdx_getElem->bZ,range->cA,mem_iff_getElem->cD,mem_append_left->cE,map_cons->cF,flatMap_cons->cG,nodup_append->cH,nodup_cons->cI,nodup_nil->cJ
open Or renaming inl->aQ,inr->aR
open Option renaming some->aV
open Nat renaming le_trans->bO,le_refl->cL,le_succ->cM
open Bool renaming or_eq_true->cO
namespace Go.Proofs.YtjajnhemgphefaaGreatDoor
open Go renaming World->Wq,Value->Vq
open Go.RowKit Go.Shelf
structure uF(r:Rl)(names:List ByteArray)(gs:List Gr)(P:Nat->List ByteArray->Prop):Prop where
 start:P 0 gP
 step:∀(i:Nat) (a:Am) (g:Gr) (b c:List ByteArray),r.body[i]?=aV a->g∈gs->P i b->fE a g b=aV c->(iD r i=true->P (i+1) (fC r i c)/\iP names (fC r i c)<4096)/\(iD r i=false->P (i+1) c)
abbrev dK:ByteArray:=⟨#[]⟩
theorem ou(x:ByteArray):qi x=true↔x=dK:=by
 constructor
 .intro h;have z:x.toList=[]:=List.isEmpty_iff.1 h;have A:dK.toList=[]:=by{decide +kernel};have d:=oh x dK;rw[z,A] at d;simpa using d.symm
 .rintro rfl;decide +kernel
theorem kH:qi dK=true:=by decide +kernel
theorem nj(x y:ByteArray):lI x y=true↔x=y:=by grind [lI,oh]
def iu(a:Am)(v:Nat):Prop:=∃t∈a.args,qi t.name=true/\t.num=v
theorem B6(d:List Am)(v:Nat):Qd d v=true↔∃a∈d,iu a v:=by grind [Qd,iu,jk,qi]
theorem rL(a:Am)(v:Nat):Qd [a] v=true↔iu a v:=by rw[B6];simp
theorem F7(b:List ByteArray)(n v:Nat)(x:ByteArray)(d:n<aB b):(b.set n x).getD v dK=if v=n then x else b.getD v dK:=by grind
theorem px:∀(ts:List Tm) (xs b c:List ByteArray),gH ts xs b=aV c->aB ts=aB xs->(∀x∈xs,qi x=false)->(∀t∈ts,t.num<aB b)->
  aB c=aB b/\(∀v,qi (b.getD v dK)=false->c.getD v dK=b.getD v dK)/\xs=ts.map (je c)/\(∀v,qi (c.getD v dK)=false↔(qi (b.getD v dK)=false\/∃t∈ts,qi t.name=true/\t.num=v))/\∀v,qi (c.getD v dK)=false->qi (b.getD v dK)=true->c.getD v dK∈xs
 |[],[],b,c,h,_,_,_=>by cases h;exact⟨rfl,λ_ _=>rfl,rfl,λv=>by simp,λv z d=>by rw[z] at d;cases d⟩
 |[],_::_,_,_,_,h,_,_=>by cases h
 |_::_,[],_,_,_,h,_,_=>by cases h
 |t::ts,x::xs,b,c,h,hl,hx,hn=>by
  have E:aB ts=aB xs:=by{simpa using hl};have ad:∀y∈xs,qi y=false:=λy hy=>hx y (zt hy);have bn:=hx x zs;have aa:∀u∈ts,u.num<aB b:=λu G=>hn u (zt G);have av:=hn t zs;unfold gH at h;by_cases z:qi t.name=false
  .rw[if_pos z] at h;by_cases d:lI t.name x=true
   .rw[if_pos d] at h;have⟨i1,i2,i3,i4,i5⟩:=px ts xs b c h E ad aa;refine⟨i1,i2,?_,λv=>?_,λv A C=>bX _ (i5 v A C)⟩;{grind [je,qi,nj]};{grind}
   .grind
  .have M:qi t.name=true:=by{simpa using z};rw[if_neg z] at h;by_cases d:qi (b.getD t.num ⟨#[]⟩)=true
   .rw[if_pos d] at h;have⟨i1,i2,i3,i4,i5⟩:=px ts xs (b.set t.num x) c h E ad (λu G=>by rw[bQ];exact aa u G);rw[bQ] at i1;have Z:c.getD t.num dK=x:=by{grind};refine⟨i1,λv g=>?_,?_,λv=>?_,λv A C=>?_⟩;{grind};{rw[cF,<-i3];congr 1;unfold je;rw[if_pos (by exact M)];exact Z.symm};{grind};{grind}
   .rw[if_neg d] at h;have bb:qi (b.getD t.num dK)=false:=by{simpa using d};by_cases O:lI (b.getD t.num ⟨#[]⟩) x=true
    .rw[if_pos O] at h;have bf:=(nj _ _).1 O;have⟨i1,i2,i3,i4,i5⟩:=px ts xs b c h E ad aa;refine⟨i1,i2,?_,λv=>?_,λv A C=>bX _ (i5 v A C)⟩;{rw[cF,<-i3];congr 1;unfold je;rw[if_pos (by exact M),i2 _ bb];exact bf.symm};{grind}
    .grind
def iJ(s:Nat->ByteArray)(t:Tm):ByteArray:=if qi t.name=true then s t.num else t.name
def gu(s:Nat->ByteArray)(a:Am):Gr:=⟨a.rel,a.args.map (iJ s)⟩
def rT(b:List ByteArray)(s:Nat->ByteArray):Prop:=∀v,qi (b.getD v dK)=false->b.getD v dK=s v
theorem ri(s:Nat->ByteArray):∀(ts:List Tm) (b:List ByteArray),(∀t∈ts,t.num<aB b)->rT b s->(∀v,qi (s v)=false)->∃c,gH ts (ts.map (iJ s)) b=aV c/\rT c s
 |[],b,_,hb,_=>⟨b,rfl,hb⟩
 |t::ts,b,hn,hb,hs=>by
  have aa:∀u∈ts,u.num<aB b:=λu A=>hn u (zt A);have G:=hn t zs;rw[cF];unfold gH;by_cases d:qi t.name=false
  .have z:iJ s t=t.name:=by{unfold iJ;rw[d];rfl};rw[if_pos d,z,if_pos ((nj _ _).2 rfl)];exact ri s ts b aa hb hs
  .have M:qi t.name=true:=by{simpa using d};have z:iJ s t=s t.num:=by{grind [iJ]};rw[if_neg d,z];by_cases E:qi (b.getD t.num ⟨#[]⟩)=true
   .rw[if_pos E];refine ri s ts _ (λu A=>by rw[bQ];exact aa u A) (λv C=>?_) hs;rw[F7 _ _ _ _ G] at C ⊢;by_cases e:v=t.num;{grind};{rw[if_neg e] at C ⊢;exact hb v C}
   .rw[if_neg E,if_pos ((nj _ _).2 (hb _ (by grind)))];exact ri s ts b aa hb hs
def fZ(r:Rl):Nat->Nat->Bool
 |0,_=>false
 |i+1,v=>match r.body[i]? with
  |none=>fZ r i v
  |some a=>if iD r i=true then (fZ r i v || Qd [a] v) && lY r i v else fZ r i v || Qd [a] v
theorem ux(r:Rl)(v:Nat):∀i,i<=aB r.body->(∃k a,k<i/\r.body[k]?=aV a/\iu a v)->(iu r.head v\/∃j a,i<=j/\r.body[j]?=aV a/\iu a v)->fZ r i v=true
 |0,_,⟨k,a,hk,_⟩,_=>by omega
 |i+1,hi,⟨k,a,hk,ha,hv⟩,A=>by
  have G:r.body[i]?=aV r.body[i]:=aY (by omega)
  have C:(fZ r i v || Qd [r.body[i]] v)=true:=by
   rw[cO];by_cases e:k=i;{grind [rL]};{refine aQ (ux r v i (by omega) ⟨k,a,by omega,ha,hv⟩ (A.imp id ?_));rintro⟨j,d,M,z⟩;exact⟨j,d,by omega,z⟩}
  unfold fZ;rw[G];simp only;split
  .rw[Bool.and_eq_true];refine⟨C,?_⟩;unfold lY;rw[cO];rcases A with A|⟨j,d,M,z,E⟩
   .grind [rL]
   .refine aR ((B6 _ _).2 ⟨d,?_,E⟩);rw[bU];exact⟨j-(i+1),by rw[List.getElem?_drop];rw[show i+1+(j-(i+1))=j by omega];exact z⟩
  .exact C
structure od(r:Rl):Prop where
 three:aB r.body<=3
 args:∀a∈r.head::r.body,aB a.args<=2/\∀t∈a.args,t.num<8
 safe:∀v,iu r.head v->∃a∈r.body,iu a v
structure Wy(r:Rl)(names:List ByteArray)(d:Nat->Bool)(b:List ByteArray):Prop where
 len:aB b=8
 dom:∀v,v<8->qi (b.getD v dK)=!d v
 mem:∀v,qi (b.getD v dK)=false->b.getD v dK∈names
def np(r:Rl)(i:Nat)(a:Am)(v:Nat):Bool:=fZ r i v || Qd [a] v
theorem pv{a:Am}{g:Gr}{b c:List ByteArray}(h:fE a g b=aV c):a.rel=g.rel/\aB a.args=aB g.args/\gH a.args g.args b=aV c:=by grind [fE,nj]
theorem F9{b:List ByteArray}{v:Nat}(h:qi (b.getD v dK)=false):v<aB b:=by grind [kH]
section
variable {r:Rl} {names:List ByteArray} {gs:List Gr} {i:Nat} {a:Am} {g:Gr} {b c:List ByteArray}
theorem wM(O:od r)(E:∀g∈gs,∀x∈g.args,qi x=false/\x∈names)(A:a∈r.body)(G:g∈gs)(h:Wy r names (fZ r i) b)(d:fE a g b=aV c):Wy r names (np r i a) c:=by
 have⟨f1,f2,f3⟩:=pv d;have M:=(O.args a (zt A)).2;have⟨i1,i2,i3,i4,i5⟩:=px _ _ _ _ f3 f2 (λx hx=>(E g G x hx).1) (λt Z=>by rw[h.len];exact M t Z);refine⟨i1.trans h.len,λv z=>?_,λv z=>?_⟩
 .have e1:(qi (c.getD v dK)=false)↔np r i a v=true:=by{rw[i4 v,h.dom v z];unfold np;rw[cO,rL];unfold iu;simp};clear i4 i5 i3 f3 d
  cases h1:qi (c.getD v dK)<;>cases h2:np r i a v
  .grind
  .rfl
  .rfl
  .grind
 .by_cases C:qi (b.getD v dK)=true;{grind}
  .have ab:qi (b.getD v dK)=false:=by{simpa using C};rw[i2 v ab];exact h.mem v ab
theorem sE(v:Nat)(d:aB c=8):(fC r i c).getD v dK=if v<8/\lY r i v=true then c.getD v dK else dK:=by grind [fC]
theorem vH(h:Wy r names (np r i a) c)(C:r.body[i]?=aV a)(E:iD r i=true):Wy r names (fZ r (i+1)) (fC r i c):=by
 refine⟨by unfold fC;simpa using h.len,λv d=>?_,λv d=>?_⟩
 .rw[sE v h.len];show _=!(match r.body[i]? with|none=>fZ r i v|some a=>if iD r i=true then (fZ r i v || Qd [a] v) && lY r i v else fZ r i v || Qd [a] v);rw[C];simp only[E,if_true];have A:=h.dom v d;unfold np at A;by_cases G:lY r i v=true;{grind};{grind [lY,kH]}
 .rw[sE v h.len] at d ⊢;split at d;{rename_i z;rw[if_pos z];exact h.mem v d};{grind [kH]}
theorem yn(h:Wy r names (np r i a) c)(d:r.body[i]?=aV a)(z:iD r i=false):Wy r names (fZ r (i+1)) c:=by refine⟨h.len,λv A=>?_,h.mem⟩;rw[h.dom v A];show _=!(match r.body[i]? with|none=>fZ r i v|some a=>if iD r i=true then (fZ r i v || Qd [a] v) && lY r i v else fZ r i v || Qd [a] v);rw[d];simp only[z];rfl
end
theorem vP(x y:ByteArray):dO x y=true↔x=y:=by rw[rN];simp
theorem oP{names:List ByteArray}{x:ByteArray}:dS names x<aB names↔x∈names:=by grind [dS,vP]
theorem Ec{names:List ByteArray}{x y:ByteArray}(E:x∈names)(G:y∈names)(h:dS names x=dS names y):x=y:=by have d:dS names x<aB names:=oP.2 E;have z:dS names y<aB names:=oP.2 G;have A:dO x (names[dS names x]'d)=true:=bZ (p:=dO x) (xs:=names) (w:=d);have C:dO y (names[dS names y]'z)=true:=bZ (p:=dO y) (xs:=names) (w:=z);rw[(vP _ _).1 A,(vP _ _).1 C];congr 1
theorem yN(names:List ByteArray)(M:aB names<=8)(O:dK∉names):∀(x y:List ByteArray) (n m:Nat),aB x=aB y->(∀(v:Nat) (h:v<aB x) (G:v<aB y),(x[v]=dK/\y[v]=dK)\/(x[v]∈names/\y[v]∈names))->x.foldl (jh names) n=y.foldl (jh names) m->n=m/\x=y
 |[],[],n,m,_,_,h=>⟨h,rfl⟩
 |[],_::_,_,_,h,_,_=>by cases h
 |_::_,[],_,_,h,_,_=>by cases h
 |a::x,b::y,n,m,hl,hv,h=>by
  have⟨h1,h2⟩:=yN names M O x y (jh names n a) (jh names m b) (by grind) (λv h G=>by
   have:=hv (v+1) (by simp;omega) (by simp;omega)
   simpa using this) h
  have h0:=hv 0 (by simp) (by simp);simp only[List.getElem_cons_zero] at h0;rcases h0 with⟨rfl,rfl⟩|⟨d,z⟩
  .grind [jh]
  .have A:=oP.2 d;have ab:=oP.2 z;unfold jh at h1;rw[if_pos A,if_pos ab] at h1;have C:n=m:=by{omega};have E:dS names a=dS names b:=by{omega};exact⟨C,by rw[h2,Ec d z E]⟩
theorem wn(names:List ByteArray)(z:aB names<=8)(d:dK∉names):∀(x:List ByteArray) (n k:Nat),n<8 ^ k->x.foldl (jh names) n<8 ^ (k+x.countP (λy=>!qi y))
 |[],n,k,h=>by simpa using h
 |a::x,n,k,h=>by
  rw[bB];by_cases A:qi a=true
  .rw[List.countP_cons_of_neg (by grind)];have e:=(ou a).1 A;have C:¬dS names a<aB names:=λh=>d (by rw[<-e];exact oP.1 h);have:jh names n a=n:=by{grind [jh]};rw[this];exact wn names z d x n k h
  .rw[List.countP_cons_of_pos (by grind)]
   have:=wn names z d x (jh names n a) (k+1) (by
    unfold jh;rw[Nat.pow_succ]
    split<;>omega)
   rw[show k+(x.countP (λy=>!qi y)+1)=k+1+x.countP (λy=>!qi y) by omega];exact this
theorem yh:∀(l L:List Nat),l.Nodup->(∀x∈l,x∈L)->aB l<=aB L
 |[],L,_,_=>zz
 |a::l,L,hn,hs=>by have aa:=cI.1 hn;have z:=yh l (L.erase a) aa.2 (λx d=>(List.mem_erase_of_ne (λe:x=a=>aa.1 (by grind))).2 (hs x (zt d)));have A:=List.length_erase_of_mem (hs a zs);have C:0<aB L:=List.length_pos_of_mem (hs a zs);simp only[aZ];omega
theorem Ik(b:List ByteArray)(L:List Nat)(h:∀v,qi (b.getD v dK)=false->v∈L):b.countP (λy=>!qi y)<=aB L:=by
 have d:b=(cA (aB b)).map (λv=>b.getD v dK):=by
  apply List.ext_getElem;{simp};{grind}
 rw[d,List.countP_map,List.countP_eq_length_filter];refine yh _ L (List.nodup_range.sublist List.filter_sublist) (λv z=>?_);have:=(List.mem_filter.1 z).2;exact h v (by grind)
def rM(l:List Am):List Nat:=l.flatMap (λa=>a.args.map (·.num))
theorem uY:∀(l:List Am),(∀a∈l,aB a.args<=2)->aB (rM l)<=2*aB l
 |[],_=>cL _
 |a::l,h=>by have d:=uY l (λx z=>h x (zt z));have A:=h a zs;unfold rM at d ⊢;rw[cG,bI,bT,aZ];omega
theorem xp{a:Am}{l:List Am}{v:Nat}(d:a∈l)(h:iu a v):v∈rM l:=by obtain⟨t,z,_,rfl⟩:=h;exact aX.2 ⟨a,d,bC.2 ⟨t,z,rfl⟩⟩
theorem vG(r:Rl)(v:Nat):∀i,fZ r i v=true->∃a∈r.body.take i,iu a v
 |0,h=>by cases h
 |i+1,h=>by
  unfold fZ at h
  cases hb:r.body[i]? with
  |none=>rw[hb] at h;have⟨a,ha,hv⟩:=vG r v i h;exact⟨a,(bJ _ (cM i)) ha,hv⟩
  |some a=>
   rw[hb] at h;simp only at h;have z:(fZ r i v || Qd [a] v)=true:=by grind
   rcases cO _ _ ▸ z with d|d
   .have⟨a,ha,hv⟩:=vG r v i d;exact⟨a,(bJ _ (cM i)) ha,hv⟩
   .refine⟨a,?_,(rL _ _).1 d⟩;rw[bU];exact⟨i,by rw[List.getElem?_take,if_pos (Nat.lt_succ_self i)];exact hb⟩
theorem zj{r:Rl}{names:List ByteArray}(G:od r)(h8:aB names<=8)(he:dK∉names){i:Nat}(hi:i<aB r.body)(hl:iD r i=true){b:List ByteArray}(h:Wy r names (fZ r (i+1)) b):iP names b<4096:=by
 have hd:∀v,qi (b.getD v dK)=false->fZ r (i+1) v=true:=λv z=>by have C:=h.dom v (by rw[<-h.len];exact F9 z);rw[z] at C;simpa using C.symm
 obtain⟨L,hL,hs⟩:∃L:List Nat,aB L<=4/\∀v,qi (b.getD v dK)=false->v∈L:=by
  by_cases O:i+1<=2
  .refine⟨rM (r.body.take (i+1)),?_,λv z=>?_⟩;{have:=uY (r.body.take (i+1)) (λa A=>(G.args a (zt (List.mem_of_mem_take A))).1);rw[List.length_take] at this;omega};{grind [vG,xp]}
  .have Z:=G.three;refine⟨rM [r.head],?_,λv z=>?_⟩;{have:=uY [r.head] (λa A=>by simp at A;subst A;exact (G.args _ zs).1);simp only[aZ,List.length_nil] at this;omega}
   .have d:=hd v z;unfold fZ at d;rw[aY hi] at d;simp only[hl,if_true] at d;have E:=(Bool.and_eq_true _ _ ▸ d).2;unfold lY at E;rw[List.drop_eq_nil_of_le (by omega)] at E;rcases cO _ _ ▸ E with M|M
    .grind [xp,rL,zs]
    .cases M
 have C:=wn names h8 he b 0 0 (by decide);have O:=bO (Ik b L hs) hL;have Z:8 ^ (0+b.countP (λy=>!qi y))<=8 ^ 4:=Nat.pow_le_pow_right (by decide) (by omega);unfold iP;have d:(8:Nat) ^ 4=4096:=by decide
 omega
theorem Gs{r:Rl}{names:List ByteArray}(h8:aB names<=8)(he:dK∉names){d:Nat->Bool}{x y:List ByteArray}(z:Wy r names d x)(A:Wy r names d y)(h:iP names x=iP names y):x=y:=by
 refine (yN names h8 he x y 0 0 (z.len.trans A.len.symm) (λv O Z=>?_) h).2;have G:x.getD v dK=x[v]:=by grind
 have M:y.getD v dK=y[v]:=by grind
 have C:=z.dom v (by rw[<-z.len];exact O);have E:=A.dom v (by rw[<-A.len];exact Z);have m1:=z.mem v;have m2:=A.mem v;rw[G] at C m1;rw[M] at E m2
 cases hd:d v with
 |true=>grind
 |false=>grind [ou]
def Ws(r:Rl)(gs:List Gr)(i:Nat)(b:List ByteArray):Prop:=∃s:Nat->ByteArray,(∀v,qi (s v)=false)/\rT b s/\∀k a,k<i->r.body[k]?=aV a->gu s a∈gs
theorem yt{r:Rl}{names:List ByteArray}{gs:List Gr}{i:Nat}{a:Am}{g:Gr}{b c:List ByteArray}(hr:od r)(hg:∀g∈gs,∀x∈g.args,qi x=false/\x∈names)(C:r.body[i]?=aV a)(G:g∈gs)(h:Wy r names (fZ r i) b)(hs:Ws r gs i b)(hf:fE a g b=aV c):Ws r gs (i+1) c:=by
 have⟨f1,f2,f3⟩:=pv hf;have ha:a∈r.body:=bF C;have hi:i<aB r.body:=(bL.1 C).1;have hn:=(hr.args a (zt ha)).2;have⟨i1,i2,i3,i4,i5⟩:=px _ _ _ _ f3 f2 (λx hx=>(hg g G x hx).1) (λt E=>by rw[h.len];exact hn t E);have⟨s,s1,s2,s3⟩:=hs;refine⟨λv=>if qi (c.getD v dK)=true then s v else c.getD v dK,λv=>?_,λv hv=>?_,λk A hk ab=>?_⟩
 .grind
 .grind
 .by_cases e:k=i
  .subst e;rw[C] at ab;cases ab
   have:gu (λv=>if qi (c.getD v dK)=true then s v else c.getD v dK) a=g:=by
    have⟨gr,ga⟩:=g;simp only at f1 i3;unfold gu;rw[f1,i3];congr 1;refine bH (λt E=>?_);unfold iJ je;by_cases d:qi t.name=true;{rw[if_pos d,if_pos (by exact d)];show (if _ then _ else _)=_;rw[if_neg (by grind)]};{rw[if_neg d,if_neg (by exact d)]}
   rw[this];exact G
  .have Z:=s3 k A (by omega) ab
   have:gu (λv=>if qi (c.getD v dK)=true then s v else c.getD v dK) A=gu s A:=by
    unfold gu;congr 1;refine bH (λt E=>?_);unfold iJ;by_cases d:qi t.name=true
    .rw[if_pos d,if_pos d];show (if _ then _ else _)=_;split;{rfl}
     .rename_i hc;have M:qi (c.getD t.num dK)=false:=by{simpa using hc};by_cases z:qi (b.getD t.num dK)=false;{rw[i2 _ z];exact s2 _ z}
      .exfalso;rcases (i4 t.num).1 M with h4|⟨u,hu,ae,O⟩
       .exact z h4
       .have hd:=ux r t.num i (by omega) ⟨k,A,by omega,ab,t,E,d,rfl⟩ (aR ⟨i,a,cL _,C,u,hu,ae,O⟩);have h8:t.num<8:=by{grind};rw[h.dom _ h8,hd] at z;exact z rfl
    .grind
   rw[this];exact Z
theorem Gx{r:Rl}{gs:List Gr}{i:Nat}{c:List ByteArray}(A:aB c=8)(h:Ws r gs (i+1) c):Ws r gs (i+1) (fC r i c):=by
 have⟨s,s1,s2,s3⟩:=h;refine⟨s,s1,λv d=>?_,s3⟩;rw[sE v A] at d ⊢;split at d
 .rename_i z;rw[if_pos z];exact s2 v d
 .grind [kH]
theorem rJ(v:Nat):qi (gP.getD v dK)=true:=by grind [gP,kH]
theorem zC(r:Rl)(names:List ByteArray):Wy r names (fZ r 0) gP:=
 ⟨rfl,λv _=>by rw[rJ];rfl,λv d=>by rw[rJ] at d;cases d⟩
def ox(r:Rl)(names:List ByteArray)(gs:List Gr)(i:Nat)(b:List ByteArray):Prop:=Wy r names (fZ r i) b/\Ws r gs i b
theorem CH{r:Rl}{names:List ByteArray}{gs:List Gr}(A:od r)(E:∀g∈gs,∀x∈g.args,qi x=false/\x∈names)(h8:aB names<=8)(he:dK∉names):uF r names gs (ox r names gs):=by
 have bc:qi ⟨#[97]⟩=false:=by decide +kernel
 refine⟨⟨zC _ _,λ_=>⟨#[97]⟩,λ_=>bc,λv hv=>(by grind [rJ]),λk a hk=>by omega⟩,λi a g b c d M z C=>⟨λG=>?_,λG=>?_⟩⟩
 .have Z:=wM A E (bF d) M z.1 C;have hs:=yt A E d M z.1 z.2 C;have O:=vH Z d G;exact⟨⟨O,Gx Z.len hs⟩,zj A h8 he (bL.1 d).1 G O⟩
 .exact⟨yn (wM A E (bF d) M z.1 C) d G,yt A E d M z.1 z.2 C⟩
theorem Bf{r:Rl}{names:List ByteArray}{s:Nat->ByteArray}{b:List ByteArray}(A:od r)(h:Wy r names (fZ r (aB r.body)) b)(hs:rT b s):gz r.head b=gu s r.head:=by
 unfold gz gu;congr 1;refine bH (λt C=>?_);unfold je iJ;by_cases d:qi t.name=true
 .rw[if_pos d,if_pos (by exact d)];refine hs _ ?_;have E:iu r.head t.num:=⟨t,C,d,rfl⟩;have⟨a,ha,a9⟩:=A.safe _ E;obtain⟨k,z,rfl⟩:=cD.1 ha;rw[h.dom _ ((A.args _ zs).2 t C),ux r t.num _ zl ⟨k,_,z,aY z,a9⟩ (aQ E)];rfl
 .rw[if_neg d,if_neg (by exact d)]
theorem CF{r:Rl}{names:List ByteArray}{gs:List Gr}{b:List ByteArray}(A:od r)(h:ox r names gs (aB r.body) b):∃s:Nat->ByteArray,(∀v,qi (s v)=false)/\(∀a∈r.body,gu s a∈gs)/\gz r.head b=gu s r.head:=by have⟨h1,s,s1,s2,s3⟩:=h;refine⟨s,s1,λa z=>?_,Bf A h1 s2⟩;obtain⟨k,d,rfl⟩:=cD.1 z;exact s3 k _ d (aY d)
theorem Aw(r:Rl)(i:Nat)(names:List ByteArray)(a:Am)(C:iD r i=false):∀(ps:List (List ByteArray×Gr)) (st:List Bool×List (List ByteArray)),(∀x∈st.2,x∈(ps.foldl (fT r i names a) st).2)/\∀p∈ps,∀c,fE a p.2 p.1=aV c->c∈(ps.foldl (fT r i names a) st).2
 |[],st=>⟨λx z=>z,λp d=>by cases d⟩
 |p::ps,st=>by
  rw[bB];have⟨h1,h2⟩:=Aw r i names a C ps (fT r i names a st p);have A:∀x∈st.2,x∈(fT r i names a st p).2:=λx z=>by grind [fT]
  refine⟨λx z=>h1 x (A x z),λp' d c E=>?_⟩;rcases bD.1 d with rfl|d
  .grind [fT]
  .grind
theorem tE(r:Rl)(i:Nat)(names:List ByteArray)(a:Am)(E:iD r i=true)(O:aB names<=8)(Z:dK∉names){d:Nat->Bool}:∀(ps:List (List ByteArray×Gr)) (st:List Bool×List (List ByteArray)),(∀p∈ps,∀c,fE a p.2 p.1=aV c->Wy r names d (fC r i c)/\iP names (fC r i c)<4096)->aB st.1=4096->(∀k,st.1.getD k false=true->∃x∈st.2,iP names x=k)->(∀x∈st.2,Wy r names d x)->
  (∀x∈st.2,x∈(ps.foldl (fT r i names a) st).2)/\∀p∈ps,∀c,fE a p.2 p.1=aV c->fC r i c∈(ps.foldl (fT r i names a) st).2
 |[],st,_,_,_,_=>⟨λx z=>z,λp G=>by cases G⟩
 |p::ps,st,G,hs,hk,hw=>by
  rw[bB];have M:∀p∈ps,∀c,fE a p.2 p.1=aV c->Wy r names d (fC r i c)/\iP names (fC r i c)<4096:=λq A=>G q (zt A)
  cases hf:fE a p.2 p.1 with
  |none=>
   have C:fT r i names a st p=st:=by unfold fT;rw[hf]
   rw[C];have⟨h1,h2⟩:=tE r i names a E O Z ps st M hs hk hw;refine⟨h1,λq A c hc=>?_⟩;rcases bD.1 A with rfl|A
   .grind
   .grind
  |some c0=>
   have⟨bj,bk⟩:=G p zs c0 hf;by_cases aq:st.1.getD (iP names (fC r i c0)) false=true
   .have C:fT r i names a st p=st:=by unfold fT;rw[hf];simp only[E,if_true];rw[if_pos aq]
    rw[C];have⟨h1,h2⟩:=tE r i names a E O Z ps st M hs hk hw;refine⟨h1,λq A c hc=>?_⟩;rcases bD.1 A with rfl|A
    .grind [Gs]
    .grind
   .have C:fT r i names a st p=(st.1.set (iP names (fC r i c0)) true,st.2++[fC r i c0]):=by{unfold fT;rw[hf];simp only[E,if_true];rw[if_neg aq]};rw[C]
    have⟨h1,h2⟩:=tE r i names a E O Z ps (st.1.set (iP names (fC r i c0)) true,st.2++[fC r i c0]) M (by grind) (λk ao=>by
     simp only[List.getD_eq_getElem?_getD,List.getElem?_set] at ao;by_cases e:iP names (fC r i c0)=k;{grind}
     .rw[if_neg e] at ao;have⟨x,z,h⟩:=hk k (by grind)
      exact⟨x,cE _ z,h⟩) (λx z=>by
     rcases bG.1 z with z|z
     .exact hw x z
     .rw[bE] at z;rw[z];exact bj)
    refine⟨λx z=>h1 x (cE _ z),λq A c hc=>?_⟩;rcases bD.1 A with rfl|A
    .grind
    .grind
theorem xr(r:Rl)(i:Nat)(names:List ByteArray)(a:Am)(D:List ByteArray->Prop):∀(ps:List (List ByteArray×Gr)) (st:List Bool×List (List ByteArray)),(∀p∈ps,∀c,fE a p.2 p.1=aV c->(iD r i=true->D (fC r i c))/\(iD r i=false->D c))->(∀x∈st.2,D x)->∀x∈(ps.foldl (fT r i names a) st).2,D x
 |[],st,_,h=>h
 |p::ps,st,hp,h=>by
  rw[bB];refine xr r i names a D ps _ (λq z=>hp q (zt z)) (λx d=>?_);unfold fT at d;split at d;{exact h x d};{grind}
theorem DM{r:Rl}{gs:List Gr}(Z:od r){s:Nat->ByteArray}(hs:∀v,qi (s v)=false)(names:List ByteArray)(hn:dP [] (gS gs)=names)(hg:∀g∈gs,∀x∈g.args,qi x=false/\x∈names)(h8:aB names<=8)(he:dK∉names)(O:∀a∈r.body,gu s a∈gs):∃b∈mx r gs,gz r.head b=gu s r.head:=by
 have key:∀i,i<=aB r.body->(∀b∈(cA i).foldl (l7 r names gs) [gP],Wy r names (fZ r i) b)/\∃b∈(cA i).foldl (l7 r names gs) [gP],rT b s:=by
  intro i
  induction i with
  |zero=>exact λ_=>⟨λb O=>by rw[bE.1 O];exact zC _ _,gP,zs,λv E=>by rw[rJ] at E;cases E⟩
  |succ i ih=>
   intro hi;have⟨al,b,an,az⟩:=ih (by omega);rw[List.range_succ,List.foldl_append];generalize (cA i).foldl (l7 r names gs) [gP]=l at *;have ap:r.body[i]?=aV r.body[i]:=aY (by omega);have e1:[i].foldl (l7 r names gs) l=((kD l gs).foldl (fT r i names r.body[i]) (List.replicate 4096 false,[])).2:=by{grind [l7]};rw[e1];have au:∀p∈kD l gs,p.1∈l/\p.2∈gs:=λp z=>by{have⟨x,G,z⟩:=aX.1 z;obtain⟨y,hy,rfl⟩:=bC.1 z;exact⟨G,hy⟩};have hw:∀p∈kD l gs,∀c,fE r.body[i] p.2 p.1=aV c->Wy r names (np r i r.body[i]) c:=λp z c A=>wM Z hg (zm (by omega)) (au p z).2 (al _ (au p z).1) A;have a6:=al b an;have⟨c,A,am⟩:=ri s (r.body[i]).args b (λt ht=>by rw[a6.len];exact (Z.args _ (zt (zm (by omega)))).2 t ht) az hs;have ak:fE r.body[i] (gu s r.body[i]) b=aV c:=by{grind [fE,gu,nj]};have M:(b,gu s r.body[i])∈kD l gs:=aX.2 ⟨b,an,bC.2 ⟨_,O _ (zm (by omega)),rfl⟩⟩;refine⟨xr r i names r.body[i] (Wy r names (fZ r (i+1))) _ _ (λp z c A=>⟨λC=>vH (hw p z c A) ap C,λC=>yn (hw p z c A) ap C⟩) (λx G=>by cases G),?_⟩
   cases C:iD r i with
   |false=>exact⟨c,(Aw r i names r.body[i] C _ _).2 _ M c ak,am⟩
   |true=>
    have be:=hw _ M c ak;refine⟨fC r i c,(tE r i names r.body[i] C h8 he (d:=fZ r (i+1)) _ _ (λp z c A=>?_) List.length_replicate (λk hk=>?_) (λx G=>by cases G)).2 _ M c ak,λv E=>?_⟩;{grind [vH,zj]};{grind}
    .rw[sE v be.len] at E ⊢;split at E;{rename_i h1;rw[if_pos h1];exact am v E};{grind [kH]}
 have⟨k1,b,k2,k3⟩:=key (aB r.body) zl;refine⟨b,?_,Bf Z (k1 b k2) k3⟩;unfold mx;rw[hn];exact k2
def Dv(R:List Rl)(F:List Gr)(g:Gr):Prop:=∀S:Gr->Prop,(∀x∈F,S x)->(∀r∈R,∀s:Nat->ByteArray,(∀v,qi (s v)=false)->(∀a∈r.body,S (gu s a))->S (gu s r.head))->S g
def pI(r:Rl):List Am:=r.head::r.body
structure jM(R:List Rl)(Nm:List ByteArray):Prop where
 each:∀r∈R,od r
 n8:aB Nm<=8
 ne:dK∉Nm
 cs:∀r∈R,∀t∈r.head.args,qi t.name=false->t.name∈Nm
 few:aB (R.flatMap pI)<=32
structure ja(R:List Rl)(Nm:List ByteArray)(g:Gr):Prop where
 rel:∃a∈R.flatMap pI,g.rel=a.rel/\aB g.args=aB a.args
 mem:∀x∈g.args,x∈Nm
def wW(rel:ByteArray)(Nm:List ByteArray):Nat->List Gr
 |0=>[⟨rel,[]⟩]
 |1=>Nm.map (λx=>⟨rel,[x]⟩)
 |2=>Nm.flatMap (λx=>Nm.map (λy=>⟨rel,[x,y]⟩))
 |_=>[]
def ww(R:List Rl)(Nm:List ByteArray):List Gr:=(R.flatMap pI).flatMap (λa=>wW a.rel Nm (aB a.args))
theorem ti{α β:Type}(f:α->List β)(k:Nat):∀(l:List α),(∀a∈l,aB (f a)<=k)->aB (l.flatMap f)<=aB l*k
 |[],_=>by simp
 |a::l,h=>by have z:=ti f k l (λx d=>h x (zt d));have A:=h a zs;rw[cG,bI,aZ,Nat.succ_mul];omega
theorem JG(rel:ByteArray)(Nm:List ByteArray)(h:aB Nm<=8)(n:Nat):aB (wW rel Nm n)<=64:=by
 match n with
 |0=>exact Nat.le_of_ble_eq_true rfl
 |1=>show aB (Nm.map _)<=64;rw[bT];omega
 |2=>
  have:=ti (λx=>Nm.map (λy=>(⟨rel,[x,y]⟩:Gr))) 8 Nm (λx _=>by rw[bT];exact h);have d:aB Nm*8<=64:=by{omega};exact bO this d
 |n+3=>exact zz
theorem AL{R:List Rl}{Nm:List ByteArray}(h:jM R Nm):aB (ww R Nm)<=2048:=by have d:=ti (λa=>wW a.rel Nm (aB a.args)) 64 (R.flatMap pI) (λa _=>JG _ _ h.n8 _);have z:=h.few;unfold ww;omega
theorem xu{R:List Rl}{Nm:List ByteArray}(h:jM R Nm){g:Gr}(d:ja R Nm g):g∈ww R Nm:=by
 have⟨⟨a,ha,h1,h2⟩,h3⟩:=d;refine aX.2 ⟨a,ha,?_⟩;have z:aB a.args<=2:=by have⟨r,hr,ay⟩:=aX.1 ha;exact ((h.each r hr).args a ay).1
 have⟨gr,ga⟩:=g;simp only at h1 h2 h3;rw[<-h1,<-h2]
 match ga,h2,h3 with
 |[],_,_=>exact zs
 |[x],_,h3=>exact bC.2 ⟨x,h3 x zs,rfl⟩
 |[x,y],_,h3=>exact aX.2 ⟨x,h3 x zs,bC.2 ⟨y,h3 y (zt zs),rfl⟩⟩
 |_::_::_::_,h2,_=>simp only[aZ] at h2;omega
theorem rq{α:Type}:∀(l L:List α),l.Nodup->(∀x∈l,x∈L)->aB l<=aB L
 |[],L,_,_=>zz
 |a::l,L,hn,hs=>by
  have aa:=cI.1 hn;have⟨L1,L2,e⟩:=List.append_of_mem (hs a zs)
  have d:=rq l (L1++L2) aa.2 (λx z=>by
   have:=hs x (zt z);rw[e] at this;rcases bG.1 this with h|h
   .grind
   .rcases bD.1 h with h|h
    .grind
    .exact List.mem_append_right _ h)
  rw[e];simp only[bI,aZ] at d ⊢;omega
theorem Ju(d:List ByteArray)(x y:ByteArray):y∈Qq d x↔y∈d\/y=x:=by
 unfold Qq;split
 .rename_i h;have:=oP.1 h;exact⟨aQ,λh=>h.elim id (λe=>by rw[e];exact this)⟩
 .grind
theorem rj:∀(l d:List ByteArray) (y:ByteArray),y∈dP d l↔y∈d\/y∈l
 |[],d,y=>by simp[dP]
 |x::l,d,y=>by have:=rj l (Qq d x) y;unfold dP at this ⊢;rw[bB,this,Ju,bD,or_assoc]
theorem xI:∀(l d:List ByteArray),d.Nodup->(dP d l).Nodup
 |[],d,h=>h
 |x::l,d,h=>by
  unfold dP;rw[bB];refine xI l (Qq d x) ?_;unfold Qq;split;{exact h};{rename_i A;rw[cH];refine⟨h,by simp,λa C b z e=>?_⟩;rw[bE] at z;exact A (oP.2 (by grind))}
theorem G8{l:List ByteArray}(h:l.Nodup):rI l:=λi j z A e=>by
 have C:=List.pairwise_iff_getElem.1 (List.nodup_iff_pairwise_ne.1 h);rcases Nat.lt_trichotomy i j with d|d|d
 .grind
 .exact d
 .grind
section
variable {R:List Rl} {Nm:List ByteArray} {F hs:List Gr}
theorem uk(A:jM R Nm)(h:∀g∈hs,ja R Nm g):aB (dP [] (gS hs))<=8/\rI (dP [] (gS hs))/\dK∉dP [] (gS hs)/\∀g∈hs,∀x∈g.args,qi x=false/\x∈dP [] (gS hs):=by
 have E:∀y∈dP [] (gS hs),y∈Nm:=λy d=>by
  rcases (rj _ _ _).1 d with d|d
  .cases d
  .have⟨g,z,d⟩:=aX.1 d;exact (h g z).mem y d
 have G:(dP [] (gS hs)).Nodup:=xI _ _ cJ;refine⟨bO (rq _ _ G E) A.n8,G8 G,λC=>A.ne (E _ C),λg z x M=>⟨?_,(rj _ _ _).2 (aR (aX.2 ⟨g,z,M⟩))⟩⟩
 cases C:qi x with
 |false=>rfl
 |true=>exact absurd (by rw[<-(ou x).1 C];exact (h g z).mem x M) A.ne
structure fQ(R:List Rl)(F:List Gr)(Nm:List ByteArray)(hs:List Gr):Prop where
 nodup:hs.Nodup
 ok:∀g∈hs,ja R Nm g
 der:∀g∈hs,Dv R F g
theorem fQ.few(d:jM R Nm)(h:fQ R F Nm hs):aB hs<=2048:=bO (rq _ _ h.nodup (λg z=>xu d (h.ok g z))) (AL d)
theorem fQ.add(h:fQ R F Nm hs){g:Gr}(A:g∉hs)(C:ja R Nm g)(E:Dv R F g):fQ R F Nm (hs++[g]):=by
 refine⟨?_,λx d=>?_,λx d=>?_⟩
 .rw[cH];refine⟨h.nodup,by simp,λa G b z e=>?_⟩;rw[bE] at z;exact A (by grind)
 .rcases bG.1 d with d|d
  .exact h.ok x d
  .grind
 .rcases bG.1 d with d|d
  .exact h.der x d
  .grind
theorem Ha(A:jM R Nm)(h:∀g∈hs,ja R Nm g){r:Rl}(z:r∈R){s:Nat->ByteArray}(E:∀a∈r.body,gu s a∈hs):ja R Nm (gu s r.head):=by
 refine⟨⟨r.head,aX.2 ⟨r,z,zs⟩,rfl,by simp[gu]⟩,λx G=>?_⟩;obtain⟨t,C,rfl⟩:=bC.1 G;unfold iJ;by_cases d:qi t.name=true
 .rw[if_pos d];have⟨a,ha,u,hu,ae,af⟩:=(A.each r z).safe t.num ⟨t,C,d,rfl⟩;refine (h _ (E a ha)).mem _ (bC.2 ⟨u,hu,?_⟩);unfold iJ;rw[if_pos ae,af]
 .rw[if_neg d];exact A.cs r z t C (by grind)
theorem fQ.way(z:jM R Nm)(h:fQ R F Nm hs){r:Rl}(d:r∈R){names:List ByteArray}{b:List ByteArray}(E:ox r names hs (aB r.body) b):ja R Nm (gz r.head b)/\Dv R F (gz r.head b):=by have⟨s,s1,s2,s3⟩:=CF (z.each r d) E;rw[s3];exact⟨Ha z h.ok d s2,λS G A=>A r d s s1 (λa C=>h.der _ (s2 a C) S G A)⟩
theorem fQ.inv(d:jM R Nm)(h:fQ R F Nm hs){r:Rl}(z:r∈R):uF r (dP [] (gS hs)) hs (ox r (dP [] (gS hs)) hs):=by have⟨n1,n2,n3,n4⟩:=uk d h.ok;exact CH (d.each r z) n4 n1 n3
theorem fQ.done(d:jM R Nm)(h:fQ R F Nm hs)(A:∀f∈F,f∈hs)(E:∀r∈R,∀b∈mx r hs,gz r.head b∈hs)(g:Gr):g∈hs↔Dv R F g:=by refine⟨h.der g,λhd=>hd (λg=>g∈hs) A (λr z s ax C=>?_)⟩;have⟨n1,n2,n3,n4⟩:=uk d h.ok;have⟨b,bi,bh⟩:=DM (d.each r z) ax _ rfl n4 n1 n3 C;rw[<-bh];exact E r z b bi
theorem fQ.start:fQ R F Nm []:=⟨cJ,λg d=>(by cases d),λg d=>(by cases d)⟩
theorem fQ.fact(h:fQ R F Nm hs){f:Gr}(d:f∈F)(z:f∉hs)(A:ja R Nm f):fQ R F Nm (hs++[f]):=h.add z A (λS C _=>C f d)
end
