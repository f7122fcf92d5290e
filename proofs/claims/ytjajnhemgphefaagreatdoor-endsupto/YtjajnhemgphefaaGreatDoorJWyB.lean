/- The document's own answer: the least model in plain data. -/
import Derived.Test.YtjajnhemgphefaaGreatDoorJMdQ
set_option linter.unusedVariables false
set_option linter.unusedSimpArgs false
namespace Go.Proofs.YtjajnhemgphefaaGreatDoor
open Go renaming World->Wq,Value->Vq
open Go.RowKit Go.Shelf
structure qwk(r:Rl)(names:List ByteArray)(gs:List Gr)(P:Nat->List ByteArray->Prop):Prop where
 start:P 0 qdb
 step:∀(i:Nat) (a:Am) (g:Gr) (b c:List ByteArray),r.body[i]?=some a->g∈gs->P i b->qd9 a g b=some c->(qdn r i=true->P (i+1) (qa2 r i c)/\qha names (qa2 r i c) < 4096)/\(qdn r i=false->P (i+1) c)
abbrev eBy:ByteArray:=⟨#[]⟩
theorem qce(x:ByteArray):qg x=true↔x=eBy:=by
 constructor
 ·intro h;have h1:x.toList=[]:=List.isEmpty_iff.1 h;have h2:eBy.toList=[]:=by decide +kernel
  have h3:=qej x eBy;rw[h1,h2] at h3;simpa using h3.symm
 ·rintro rfl;decide +kernel
theorem qck:qg eBy=true:=by decide +kernel
theorem qjc(x y:ByteArray):eqB x y=true↔x=y:=by
 unfold eqB;rw[qej];simp
def qdk(a:Am)(v:Nat):Prop:=∃t∈a.args,qg t.name=true/\t.num=v
theorem qrc(bd:List Am)(v:Nat):qz bd v=true↔∃a∈bd,qdk a v:=by
 unfold qz qdk;rw[List.any_eq_true];refine exists_congr λa=>and_congr_right λ_=>?_;rw[List.any_eq_true];refine exists_congr λt=>and_congr_right λ_=>?_;unfold qhg qg;rw[Bool.and_eq_true,decide_eq_true_eq]
theorem qg2(a:Am)(v:Nat):qz [a] v=true↔qdk a v:=by
 rw[qrc];simp
theorem qhz(b:List ByteArray)(n v:Nat)(x:ByteArray)(hn:n < b.length):(b.set n x).getD v eBy=if v=n then x else b.getD v eBy:=by
 simp only[List.getD_eq_getElem?_getD,List.getElem?_set];by_cases h:v=n
 ·subst h;rw[if_pos rfl,if_pos hn,if_pos rfl];rfl
 ·rw[if_neg (λe=>h e.symm),if_neg h]
theorem qld:∀(ts:List Tm) (xs b c:List ByteArray),qgo ts xs b=some c->ts.length=xs.length->(∀x∈xs,qg x=false)->(∀t∈ts,t.num < b.length)->
  c.length=b.length/\(∀v,qg (b.getD v eBy)=false->c.getD v eBy=b.getD v eBy)/\xs=ts.map (qi2 c)/\(∀v,qg (c.getD v eBy)=false↔(qg (b.getD v eBy)=false\/∃t∈ts,qg t.name=true/\t.num=v))/\∀v,qg (c.getD v eBy)=false->qg (b.getD v eBy)=true->c.getD v eBy∈xs
 | [],[],b,c,h,_,_,_=>by
  cases h;exact⟨rfl,λ_ _=>rfl,rfl,λv=>by simp,λv h1 h2=>by rw[h1] at h2;cases h2⟩
 | [],_::_,_,_,_,h,_,_=>by cases h
 | _::_,[],_,_,_,h,_,_=>by cases h
 | t::ts,x::xs,b,c,h,hl,hx,hn=>by
  have hl':ts.length=xs.length:=by simpa using hl
  have hx':∀y∈xs,qg y=false:=λy hy=>hx y (List.mem_cons_of_mem _ hy);have hx0:=hx x List.mem_cons_self;have hn':∀u∈ts,u.num < b.length:=λu hu=>hn u (List.mem_cons_of_mem _ hu);have hn0:=hn t List.mem_cons_self;unfold qgo at h;by_cases h1:qg t.name=false
  ·rw[if_pos h1] at h;by_cases h2:eqB t.name x=true
   ·rw[if_pos h2] at h;obtain⟨i1,i2,i3,i4,i5⟩:=qld ts xs b c h hl' hx' hn';refine⟨i1,i2,?_,λv=>?_,λv g1 g2=>List.mem_cons_of_mem _ (i5 v g1 g2)⟩
    ·rw[List.map_cons,<- i3];congr 1;unfold qi2;rw[if_neg (by show ¬qg t.name=true;rw[h1];decide)];exact ((qjc _ _).1 h2).symm
    ·rw[i4 v];constructor
     ·rintro (g | ⟨u,hu,g⟩)
      ·exact .inl g
      ·exact .inr ⟨u,List.mem_cons_of_mem _ hu,g⟩
     ·rintro (g | ⟨u,hu,g⟩)
      ·exact .inl g
      ·rcases List.mem_cons.1 hu with rfl | hu
       ·rw[h1] at g;cases g.1
       ·exact .inr ⟨u,hu,g⟩
   ·rw[if_neg h2] at h;cases h
  ·have h1':qg t.name=true:=by simpa using h1
   rw[if_neg h1] at h;by_cases h2:qg (b.getD t.num ⟨#[]⟩)=true
   ·rw[if_pos h2] at h;obtain⟨i1,i2,i3,i4,i5⟩:=qld ts xs (b.set t.num x) c h hl' hx' (λu hu=>by rw[List.length_set];exact hn' u hu);rw[List.length_set] at i1
    have hct:c.getD t.num eBy=x:=by
     have:=i2 t.num (by rw[qhz _ _ _ _ hn0,if_pos rfl];exact hx0);rw[this,qhz _ _ _ _ hn0,if_pos rfl]
    refine⟨i1,λv g=>?_,?_,λv=>?_,λv g1 g2=>?_⟩
    ·have hv:v≠t.num:=λe=>by rw[e] at g;rw[h2] at g;cases g
     have:=i2 v (by rw[qhz _ _ _ _ hn0,if_neg hv];exact g);rw[this,qhz _ _ _ _ hn0,if_neg hv]
    ·rw[List.map_cons,<- i3];congr 1;unfold qi2;rw[if_pos (by exact h1')];exact hct.symm
    ·rw[i4 v,qhz _ _ _ _ hn0];by_cases hv:v=t.num
     ·rw[if_pos hv];exact⟨λ_=>.inr ⟨t,List.mem_cons_self,h1',hv.symm⟩,λ_=>.inl hx0⟩
     ·rw[if_neg hv];constructor
      ·rintro (g | ⟨u,hu,g⟩)
       ·exact .inl g
       ·exact .inr ⟨u,List.mem_cons_of_mem _ hu,g⟩
      ·rintro (g | ⟨u,hu,g⟩)
       ·exact .inl g
       ·rcases List.mem_cons.1 hu with rfl | hu
        ·exact absurd g.2.symm hv
        ·exact .inr ⟨u,hu,g⟩
    ·by_cases hv:v=t.num
     ·subst hv;rw[hct];exact List.mem_cons_self
     ·exact List.mem_cons_of_mem _ (i5 v g1 (by rw[qhz _ _ _ _ hn0,if_neg hv];exact g2))
   ·rw[if_neg h2] at h;have h2':qg (b.getD t.num eBy)=false:=by simpa using h2
    by_cases h3:eqB (b.getD t.num ⟨#[]⟩) x=true
    ·rw[if_pos h3] at h;have h3':=(qjc _ _).1 h3;obtain⟨i1,i2,i3,i4,i5⟩:=qld ts xs b c h hl' hx' hn';refine⟨i1,i2,?_,λv=>?_,λv g1 g2=>List.mem_cons_of_mem _ (i5 v g1 g2)⟩
     ·rw[List.map_cons,<- i3];congr 1;unfold qi2;rw[if_pos (by exact h1'),i2 _ h2'];exact h3'.symm
     ·rw[i4 v];constructor
      ·rintro (g | ⟨u,hu,g⟩)
       ·exact .inl g
       ·exact .inr ⟨u,List.mem_cons_of_mem _ hu,g⟩
      ·rintro (g | ⟨u,hu,g⟩)
       ·exact .inl g
       ·rcases List.mem_cons.1 hu with rfl | hu
        ·exact .inl (by rw[<- g.2];exact h2')
        ·exact .inr ⟨u,hu,g⟩
    ·rw[if_neg h3] at h;cases h
def inT(s:Nat->ByteArray)(t:Tm):ByteArray:=if qg t.name=true then s t.num else t.name
def qcm(s:Nat->ByteArray)(a:Am):Gr:=⟨a.rel,a.args.map (inT s)⟩
def Agr(b:List ByteArray)(s:Nat->ByteArray):Prop:=∀v,qg (b.getD v eBy)=false->b.getD v eBy=s v
theorem qjd(s:Nat->ByteArray):∀(ts:List Tm) (b:List ByteArray),(∀t∈ts,t.num < b.length)->Agr b s->(∀v,qg (s v)=false)->∃c,qgo ts (ts.map (inT s)) b=some c/\Agr c s
 | [],b,_,hb,_=>⟨b,rfl,hb⟩
 | t::ts,b,hn,hb,hs=>by
  have hn':∀u∈ts,u.num < b.length:=λu hu=>hn u (List.mem_cons_of_mem _ hu);have hn0:=hn t List.mem_cons_self;rw[List.map_cons];unfold qgo;by_cases h1:qg t.name=false
  ·have e1:inT s t=t.name:=by unfold inT;rw[h1];rfl
   rw[if_pos h1,e1,if_pos ((qjc _ _).2 rfl)];exact qjd s ts b hn' hb hs
  ·have h1':qg t.name=true:=by simpa using h1
   have e1:inT s t=s t.num:=by unfold inT;rw[h1'];rfl
   rw[if_neg h1,e1];by_cases h2:qg (b.getD t.num ⟨#[]⟩)=true
   ·rw[if_pos h2];refine qjd s ts _ (λu hu=>by rw[List.length_set];exact hn' u hu) (λv hv=>?_) hs;rw[qhz _ _ _ _ hn0] at hv ⊢;by_cases e:v=t.num
    ·rw[if_pos e,e]
    ·rw[if_neg e] at hv ⊢;exact hb v hv
   ·rw[if_neg h2,if_pos ((qjc _ _).2 (hb _ (by simpa using h2)))];exact qjd s ts b hn' hb hs
def qd8(r:Rl):Nat->Nat->Bool
 | 0,_=>false
 | i+1,v=>match r.body[i]? with
  | none=>qd8 r i v
  | some a=>if qdn r i=true then (qd8 r i v || qz [a] v) && qft r i v else qd8 r i v || qz [a] v
theorem qwv(r:Rl)(v:Nat):∀i,i<=r.body.length->(∃k a,k < i/\r.body[k]?=some a/\qdk a v)->(qdk r.head v\/∃j a,i<=j/\r.body[j]?=some a/\qdk a v)->qd8 r i v=true
 | 0,_,⟨k,a,hk,_⟩,_=>by omega
 | i+1,hi,⟨k,a,hk,ha,hv⟩,hm=>by
  have hb:r.body[i]?=some r.body[i]:=List.getElem?_eq_getElem (by omega)
  have h1:(qd8 r i v || qz [r.body[i]] v)=true:=by
   rw[Bool.or_eq_true];by_cases e:k=i
   ·subst e;rw[hb] at ha;cases ha;exact .inr ((qg2 _ _).2 hv)
   ·refine .inl (qwv r v i (by omega) ⟨k,a,by omega,ha,hv⟩ (hm.imp id ?_));rintro⟨j,a',hj,h2⟩;exact⟨j,a',by omega,h2⟩
  unfold qd8;rw[hb];simp only;split
  ·rw[Bool.and_eq_true];refine⟨h1,?_⟩;unfold qft;rw[Bool.or_eq_true];rcases hm with hm | ⟨j,a',hj,h2,h3⟩
   ·exact .inl ((qg2 _ _).2 hm)
   ·refine .inr ((qrc _ _).2 ⟨a',?_,h3⟩);rw[List.mem_iff_getElem?];exact⟨j - (i+1),by rw[List.getElem?_drop];rw[show i+1+(j - (i+1))=j by omega];exact h2⟩
  ·exact h1
structure qeq(r:Rl):Prop where
 three:r.body.length<=3
 args:∀a∈r.head::r.body,a.args.length<=2/\∀t∈a.args,t.num < 8
 safe:∀v,qdk r.head v->∃a∈r.body,qdk a v
structure Wy(r:Rl)(names:List ByteArray)(d:Nat->Bool)(b:List ByteArray):Prop where
 len:b.length=8
 dom:∀v,v < 8->qg (b.getD v eBy)=!d v
 mem:∀v,qg (b.getD v eBy)=false->b.getD v eBy∈names
def qub(r:Rl)(i:Nat)(a:Am)(v:Nat):Bool:=qd8 r i v || qz [a] v
theorem qys{a:Am}{g:Gr}{b c:List ByteArray}(h:qd9 a g b=some c):a.rel=g.rel/\a.args.length=g.args.length/\qgo a.args g.args b=some c:=by
 unfold qd9 at h;split at h
 ·rename_i h1;exact⟨(qjc _ _).1 h1.1,h1.2,h⟩
 ·cases h
theorem qyq{b:List ByteArray}{v:Nat}(h:qg (b.getD v eBy)=false):v < b.length:=by
 rcases Nat.lt_or_ge v b.length with hl | hl
 ·exact hl
 ·rw[List.getD_eq_getElem?_getD,List.getElem?_eq_none hl,Option.getD_none,qck] at h;cases h
section
variable {r:Rl} {names:List ByteArray} {gs:List Gr} {i:Nat} {a:Am} {g:Gr} {b c:List ByteArray}
theorem qye(hr:qeq r)(hg:∀g∈gs,∀x∈g.args,qg x=false/\x∈names)(ha:a∈r.body)(hm:g∈gs)(h:Wy r names (qd8 r i) b)(hf:qd9 a g b=some c):Wy r names (qub r i a) c:=by
 obtain⟨f1,f2,f3⟩:=qys hf;have hn:=(hr.args a (List.mem_cons_of_mem _ ha)).2;obtain⟨i1,i2,i3,i4,i5⟩:=qld _ _ _ _ f3 f2 (λx hx=>(hg g hm x hx).1) (λt ht=>by rw[h.len];exact hn t ht);refine⟨i1.trans h.len,λv hv=>?_,λv hv=>?_⟩
 ·have e1:(qg (c.getD v eBy)=false)↔qub r i a v=true:=by
   rw[i4 v,h.dom v hv];unfold qub;rw[Bool.or_eq_true,qg2];unfold qdk;simp
  clear i4 i5 i3 f3 hf
  cases h1:qg (c.getD v eBy) <;> cases h2:qub r i a v
  ·exact absurd (e1.1 h1) (by rw[h2];decide)
  ·rfl
  ·rfl
  ·exact absurd (e1.2 h2) (by rw[h1];decide)
 ·by_cases hb:qg (b.getD v eBy)=true
  ·exact (hg g hm _ (i5 v hv hb)).2
  ·have hb':qg (b.getD v eBy)=false:=by simpa using hb
   rw[i2 v hb'];exact h.mem v hb'
theorem qlt(v:Nat)(hl:c.length=8):(qa2 r i c).getD v eBy=if v < 8/\qft r i v=true then c.getD v eBy else eBy:=by
 unfold qa2;rw[List.getD_eq_getElem?_getD,List.getElem?_map,hl];by_cases hv:v < 8
 ·rw[List.getElem?_range hv];simp only[Option.map_some,Option.getD_some,hv,true_and]
 ·rw[List.getElem?_eq_none (by simpa using hv)];simp[hv]
theorem qtr(h:Wy r names (qub r i a) c)(hb:r.body[i]?=some a)(hl:qdn r i=true):Wy r names (qd8 r (i+1)) (qa2 r i c):=by
 refine⟨by unfold qa2;simpa using h.len,λv hv=>?_,λv hv=>?_⟩
 ·rw[qlt v h.len];show _=!(match r.body[i]? with | none=>qd8 r i v | some a=>if qdn r i=true then (qd8 r i v || qz [a] v) && qft r i v else qd8 r i v || qz [a] v);rw[hb];simp only[hl,if_true];have h2:=h.dom v hv;unfold qub at h2;by_cases hk:qft r i v=true
  ·rw[if_pos ⟨hv,hk⟩,h2,hk,Bool.and_true]
  ·rw[if_neg (λe=>hk e.2)];have:qft r i v=false:=by simpa using hk
   rw[this,Bool.and_false,qck];rfl
 ·rw[qlt v h.len] at hv ⊢;split at hv
  ·rename_i h1;rw[if_pos h1];exact h.mem v hv
  ·rw[qck] at hv;cases hv
theorem qzg(h:Wy r names (qub r i a) c)(hb:r.body[i]?=some a)(hl:qdn r i=false):Wy r names (qd8 r (i+1)) c:=by
 refine⟨h.len,λv hv=>?_,h.mem⟩;rw[h.dom v hv];show _=!(match r.body[i]? with | none=>qd8 r i v | some a=>if qdn r i=true then (qd8 r i v || qz [a] v) && qft r i v else qd8 r i v || qz [a] v);rw[hb];simp only[hl];rfl
end
theorem qjm(x y:ByteArray):Q2 x y=true↔x=y:=by rw[qlz];simp
theorem qeu{names:List ByteArray}{x:ByteArray}:Qw names x < names.length↔x∈names:=by
 unfold Qw;rw[List.findIdx_lt_length];constructor
 ·rintro⟨y,hy,h⟩;rw[(qjm x y).1 h];exact hy
 ·intro h;exact⟨x,h,(qjm _ _).2 rfl⟩
theorem q1f{names:List ByteArray}{x y:ByteArray}(hx:x∈names)(hy:y∈names)(h:Qw names x=Qw names y):x=y:=by
 have h1:Qw names x < names.length:=qeu.2 hx;have h2:Qw names y < names.length:=qeu.2 hy;have e1:Q2 x (names[Qw names x]'h1)=true:=List.findIdx_getElem (p:=Q2 x) (xs:=names) (w:=h1);have e2:Q2 y (names[Qw names y]'h2)=true:=List.findIdx_getElem (p:=Q2 y) (xs:=names) (w:=h2);rw[(qjm _ _).1 e1,(qjm _ _).1 e2];congr 1
theorem qy3(names:List ByteArray)(h8:names.length<=8)(he:eBy∉names):∀(x y:List ByteArray) (n m:Nat),x.length=y.length->(∀(v:Nat) (h:v < x.length) (h':v < y.length),(x[v]=eBy/\y[v]=eBy)\/(x[v]∈names/\y[v]∈names))->x.foldl (qbe names) n=y.foldl (qbe names) m->n=m/\x=y
 | [],[],n,m,_,_,h=>⟨h,rfl⟩
 | [],_::_,_,_,h,_,_=>by cases h
 | _::_,[],_,_,h,_,_=>by cases h
 | a::x,b::y,n,m,hl,hv,h=>by
  obtain⟨h1,h2⟩:=qy3 names h8 he x y (qbe names n a) (qbe names m b) (by simpa using hl) (λv h h'=>by
   have:=hv (v+1) (by simp;omega) (by simp;omega)
   simpa using this) h
  have h0:=hv 0 (by simp) (by simp);simp only[List.getElem_cons_zero] at h0;rcases h0 with⟨rfl,rfl⟩ | ⟨ha,hb⟩
  ·have hn:¬Qw names eBy < names.length:=λh=>he (qeu.1 h);unfold qbe at h1;rw[if_neg hn,if_neg hn] at h1;exact⟨h1,by rw[h2]⟩
  ·have ha':=qeu.2 ha;have hb':=qeu.2 hb;unfold qbe at h1;rw[if_pos ha',if_pos hb'] at h1;have e1:n=m:=by omega
   have e2:Qw names a=Qw names b:=by omega
   exact⟨e1,by rw[h2,q1f ha hb e2]⟩
theorem qmv(names:List ByteArray)(h8:names.length<=8)(he:eBy∉names):∀(x:List ByteArray) (n k:Nat),n < 8 ^ k->x.foldl (qbe names) n < 8 ^ (k+x.countP (λy=>!qg y))
 | [],n,k,h=>by simpa using h
 | a::x,n,k,h=>by
  rw[List.foldl_cons];by_cases ha:qg a=true
  ·rw[List.countP_cons_of_neg (by simpa using ha)];have e:=(qce a).1 ha;have ha':¬Qw names a < names.length:=λh=>he (by rw[<- e];exact qeu.1 h);have:qbe names n a=n:=by unfold qbe;rw[if_neg ha']
   rw[this];exact qmv names h8 he x n k h
  ·rw[List.countP_cons_of_pos (by simpa using ha)]
   have:=qmv names h8 he x (qbe names n a) (k+1) (by
    unfold qbe;rw[Nat.pow_succ]
    split <;> omega)
   rw[show k+(x.countP (λy=>!qg y)+1)=k+1+x.countP (λy=>!qg y) by omega];exact this
theorem qyr:∀(l L:List Nat),l.Nodup->(∀x∈l,x∈L)->l.length<=L.length
 | [],L,_,_=>Nat.zero_le _
 | a::l,L,hn,hs=>by
  have hn':=List.nodup_cons.1 hn;have h1:=qyr l (L.erase a) hn'.2 (λx hx=>(List.mem_erase_of_ne (λe:x=a=>hn'.1 (by rw[<- e];exact hx))).2 (hs x (List.mem_cons_of_mem _ hx)));have h2:=List.length_erase_of_mem (hs a List.mem_cons_self);have h3:0 < L.length:=List.length_pos_of_mem (hs a List.mem_cons_self);simp only[List.length_cons];omega
theorem qz3(b:List ByteArray)(L:List Nat)(h:∀v,qg (b.getD v eBy)=false->v∈L):b.countP (λy=>!qg y)<=L.length:=by
 have e1:b=(List.range b.length).map (λv=>b.getD v eBy):=by
  apply List.ext_getElem
  ·simp
  ·intro n h1 h2;rw[List.getElem_map,List.getElem_range,List.getD_eq_getElem?_getD,List.getElem?_eq_getElem h1];rfl
 rw[e1,List.countP_map,List.countP_eq_length_filter];refine qyr _ L (List.nodup_range.sublist List.filter_sublist) (λv hv=>?_);have:=(List.mem_filter.1 hv).2;exact h v (by simpa using this)
def qvj(l:List Am):List Nat:=l.flatMap (λa=>a.args.map (·.num))
theorem qpq:∀(l:List Am),(∀a∈l,a.args.length<=2)->(qvj l).length<=2*l.length
 | [],_=>Nat.le_refl _
 | a::l,h=>by
  have h1:=qpq l (λx hx=>h x (List.mem_cons_of_mem _ hx));have h2:=h a List.mem_cons_self;unfold qvj at h1 ⊢;rw[List.flatMap_cons,List.length_append,List.length_map,List.length_cons];omega
theorem qzf{a:Am}{l:List Am}{v:Nat}(ha:a∈l)(h:qdk a v):v∈qvj l:=by
 obtain⟨t,ht,_,rfl⟩:=h;exact List.mem_flatMap.2 ⟨a,ha,List.mem_map.2 ⟨t,ht,rfl⟩⟩
theorem qsq(r:Rl)(v:Nat):∀i,qd8 r i v=true->∃a∈r.body.take i,qdk a v
 | 0,h=>by cases h
 | i+1,h=>by
  unfold qd8 at h
  cases hb:r.body[i]? with
  | none=>
   rw[hb] at h;obtain⟨a,ha,hv⟩:=qsq r v i h;exact⟨a,(List.take_subset_take_left _ (Nat.le_succ i)) ha,hv⟩
  | some a=>
   rw[hb] at h;simp only at h
   have h1:(qd8 r i v || qz [a] v)=true:=by
    split at h
    ·exact (Bool.and_eq_true _ _ ▸ h).1
    ·exact h
   rcases Bool.or_eq_true _ _ ▸ h1 with h2 | h2
   ·obtain⟨a,ha,hv⟩:=qsq r v i h2;exact⟨a,(List.take_subset_take_left _ (Nat.le_succ i)) ha,hv⟩
   ·refine⟨a,?_,(qg2 _ _).1 h2⟩;rw[List.mem_iff_getElem?];exact⟨i,by rw[List.getElem?_take,if_pos (Nat.lt_succ_self i)];exact hb⟩
theorem qy2{r:Rl}{names:List ByteArray}(hr:qeq r)(h8:names.length<=8)(he:eBy∉names){i:Nat}(hi:i < r.body.length)(hl:qdn r i=true){b:List ByteArray}(h:Wy r names (qd8 r (i+1)) b):qha names b < 4096:=by
 have hd:∀v,qg (b.getD v eBy)=false->qd8 r (i+1) v=true:=λv hv=>by
  have h1:=h.dom v (by rw[<- h.len];exact qyq hv);rw[hv] at h1;simpa using h1.symm
 obtain⟨L,hL,hs⟩:∃L:List Nat,L.length<=4/\∀v,qg (b.getD v eBy)=false->v∈L:=by
  by_cases h2:i+1<=2
  ·refine⟨qvj (r.body.take (i+1)),?_,λv hv=>?_⟩
   ·have:=qpq (r.body.take (i+1)) (λa ha=>(hr.args a (List.mem_cons_of_mem _ (List.mem_of_mem_take ha))).1);rw[List.length_take] at this;omega
   ·obtain⟨a,ha,hv'⟩:=qsq r v _ (hd v hv);exact qzf ha hv'
  ·have h3:=hr.three;refine⟨qvj [r.head],?_,λv hv=>?_⟩
   ·have:=qpq [r.head] (λa ha=>by simp at ha;subst ha;exact (hr.args _ List.mem_cons_self).1);simp only[List.length_cons,List.length_nil] at this;omega
   ·have h4:=hd v hv;unfold qd8 at h4;rw[List.getElem?_eq_getElem hi] at h4;simp only[hl,if_true] at h4;have h5:=(Bool.and_eq_true _ _ ▸ h4).2;unfold qft at h5;rw[List.drop_eq_nil_of_le (by omega)] at h5;rcases Bool.or_eq_true _ _ ▸ h5 with h6 | h6
    ·exact qzf List.mem_cons_self ((qg2 _ _).1 h6)
    ·cases h6
 have h1:=qmv names h8 he b 0 0 (by decide);have h2:=Nat.le_trans (qz3 b L hs) hL;have h3:8 ^ (0+b.countP (λy=>!qg y))<=8 ^ 4:=Nat.pow_le_pow_right (by decide) (by omega);unfold qha;have h4:(8:Nat) ^ 4=4096:=by decide
 omega
theorem Qau{r:Rl}{names:List ByteArray}(h8:names.length<=8)(he:eBy∉names){d:Nat->Bool}{x y:List ByteArray}(hx:Wy r names d x)(hy:Wy r names d y)(h:qha names x=qha names y):x=y:=by
 refine (qy3 names h8 he x y 0 0 (hx.len.trans hy.len.symm) (λv h1 h2=>?_) h).2;have e1:x.getD v eBy=x[v]:=by rw[List.getD_eq_getElem?_getD,List.getElem?_eq_getElem h1];rfl
 have e2:y.getD v eBy=y[v]:=by rw[List.getD_eq_getElem?_getD,List.getElem?_eq_getElem h2];rfl
 have d1:=hx.dom v (by rw[<- hx.len];exact h1);have d2:=hy.dom v (by rw[<- hy.len];exact h2);have m1:=hx.mem v;have m2:=hy.mem v;rw[e1] at d1 m1;rw[e2] at d2 m2
 cases hd:d v with
 | true=>
  rw[hd] at d1 d2;exact .inr ⟨m1 d1,m2 d2⟩
 | false=>
  rw[hd] at d1 d2;exact .inl ⟨(qce _).1 d1,(qce _).1 d2⟩
def Ws(r:Rl)(gs:List Gr)(i:Nat)(b:List ByteArray):Prop:=∃s:Nat->ByteArray,(∀v,qg (s v)=false)/\Agr b s/\∀k a,k < i->r.body[k]?=some a->qcm s a∈gs
theorem q5m{r:Rl}{names:List ByteArray}{gs:List Gr}{i:Nat}{a:Am}{g:Gr}{b c:List ByteArray}(hr:qeq r)(hg:∀g∈gs,∀x∈g.args,qg x=false/\x∈names)(hb:r.body[i]?=some a)(hm:g∈gs)(h:Wy r names (qd8 r i) b)(hs:Ws r gs i b)(hf:qd9 a g b=some c):Ws r gs (i+1) c:=by
 obtain⟨f1,f2,f3⟩:=qys hf;have ha:a∈r.body:=List.mem_of_getElem? hb;have hi:i < r.body.length:=(List.getElem?_eq_some_iff.1 hb).1;have hn:=(hr.args a (List.mem_cons_of_mem _ ha)).2;obtain⟨i1,i2,i3,i4,i5⟩:=qld _ _ _ _ f3 f2 (λx hx=>(hg g hm x hx).1) (λt ht=>by rw[h.len];exact hn t ht);obtain⟨s,s1,s2,s3⟩:=hs;refine⟨λv=>if qg (c.getD v eBy)=true then s v else c.getD v eBy,λv=>?_,λv hv=>?_,λk a' hk hb'=>?_⟩
 ·show qg (if _ then _ else _)=false;split
  ·exact s1 v
  ·rename_i hne;simpa using hne
 ·show _=if _ then _ else _;rw[if_neg (by rw[hv];decide)]
 ·by_cases e:k=i
  ·subst e;rw[hb] at hb';cases hb'
   have:qcm (λv=>if qg (c.getD v eBy)=true then s v else c.getD v eBy) a=g:=by
    obtain⟨gr,ga⟩:=g;simp only at f1 i3;unfold qcm;rw[f1,i3];congr 1;refine List.map_congr_left (λt ht=>?_);unfold inT qi2;by_cases he:qg t.name=true
    ·rw[if_pos he,if_pos (by exact he)];show (if _ then _ else _)=_;rw[if_neg (by rw[(i4 t.num).2 (.inr ⟨t,ht,he,rfl⟩)];decide)]
    ·rw[if_neg he,if_neg (by exact he)]
   rw[this];exact hm
  ·have h3:=s3 k a' (by omega) hb'
   have:qcm (λv=>if qg (c.getD v eBy)=true then s v else c.getD v eBy) a'=qcm s a':=by
    unfold qcm;congr 1;refine List.map_congr_left (λt ht=>?_);unfold inT;by_cases he:qg t.name=true
    ·rw[if_pos he,if_pos he];show (if _ then _ else _)=_;split
     ·rfl
     ·rename_i hc;have hc':qg (c.getD t.num eBy)=false:=by simpa using hc
      by_cases hbv:qg (b.getD t.num eBy)=false
      ·rw[i2 _ hbv];exact s2 _ hbv
      ·exfalso;rcases (i4 t.num).1 hc' with h4 | ⟨u,hu,hu1,hu2⟩
       ·exact hbv h4
       ·have hd:=qwv r t.num i (by omega) ⟨k,a',by omega,hb',t,ht,he,rfl⟩ (.inr ⟨i,a,Nat.le_refl _,hb,u,hu,hu1,hu2⟩);have h8:t.num < 8:=by rw[<- h.len,<- i1];exact qyq hc'
        rw[h.dom _ h8,hd] at hbv;exact hbv rfl
    ·rw[if_neg he,if_neg he]
   rw[this];exact h3
theorem q7m{r:Rl}{gs:List Gr}{i:Nat}{c:List ByteArray}(hl:c.length=8)(h:Ws r gs (i+1) c):Ws r gs (i+1) (qa2 r i c):=by
 obtain⟨s,s1,s2,s3⟩:=h;refine⟨s,s1,λv hv=>?_,s3⟩;rw[qlt v hl] at hv ⊢;split at hv
 ·rename_i h1;rw[if_pos h1];exact s2 v hv
 ·rw[qck] at hv;cases hv
theorem qjb(v:Nat):qg (qdb.getD v eBy)=true:=by
 rw[List.getD_eq_getElem?_getD]
 cases h:qdb[v]? with
 | none=>exact qck
 | some x=>rw[List.eq_of_mem_replicate (List.mem_of_getElem? h)];exact qck
theorem qwa(r:Rl)(names:List ByteArray):Wy r names (qd8 r 0) qdb:=
 ⟨rfl,λv _=>by rw[qjb];rfl,λv hv=>by rw[qjb] at hv;cases hv⟩
def qwf(r:Rl)(names:List ByteArray)(gs:List Gr)(i:Nat)(b:List ByteArray):Prop:=Wy r names (qd8 r i) b/\Ws r gs i b
theorem q7l{r:Rl}{names:List ByteArray}{gs:List Gr}(hr:qeq r)(hg:∀g∈gs,∀x∈g.args,qg x=false/\x∈names)(h8:names.length<=8)(he:eBy∉names):qwk r names gs (qwf r names gs):=by
 have h97:qg ⟨#[97]⟩=false:=by decide +kernel
 refine⟨⟨qwa _ _,λ_=>⟨#[97]⟩,λ_=>h97,λv hv=>(by rw[qjb] at hv;cases hv),λk a hk=>by omega⟩,λi a g b c hb hm hp hf=>⟨λhl=>?_,λhl=>?_⟩⟩
 ·have hw:=qye hr hg (List.mem_of_getElem? hb) hm hp.1 hf;have hs:=q5m hr hg hb hm hp.1 hp.2 hf;have h1:=qtr hw hb hl;exact⟨⟨h1,q7m hw.len hs⟩,qy2 hr h8 he (List.getElem?_eq_some_iff.1 hb).1 hl h1⟩
 ·exact⟨qzg (qye hr hg (List.mem_of_getElem? hb) hm hp.1 hf) hb hl,q5m hr hg hb hm hp.1 hp.2 hf⟩
theorem quv{r:Rl}{names:List ByteArray}{s:Nat->ByteArray}{b:List ByteArray}(hr:qeq r)(h:Wy r names (qd8 r r.body.length) b)(hs:Agr b s):qdo r.head b=qcm s r.head:=by
 unfold qdo qcm;congr 1;refine List.map_congr_left (λt ht=>?_);unfold qi2 inT;by_cases he:qg t.name=true
 ·rw[if_pos he,if_pos (by exact he)];refine hs _ ?_;have hv:qdk r.head t.num:=⟨t,ht,he,rfl⟩;obtain⟨a,ha,hva⟩:=hr.safe _ hv;obtain⟨k,hk,rfl⟩:=List.mem_iff_getElem.1 ha;rw[h.dom _ ((hr.args _ List.mem_cons_self).2 t ht),qwv r t.num _ zl ⟨k,_,hk,List.getElem?_eq_getElem hk,hva⟩ (.inl hv)];rfl
 ·rw[if_neg he,if_neg (by exact he)]
theorem q1v{r:Rl}{names:List ByteArray}{gs:List Gr}{b:List ByteArray}(hr:qeq r)(h:qwf r names gs r.body.length b):∃s:Nat->ByteArray,(∀v,qg (s v)=false)/\(∀a∈r.body,qcm s a∈gs)/\qdo r.head b=qcm s r.head:=by
 obtain⟨h1,s,s1,s2,s3⟩:=h;refine⟨s,s1,λa ha=>?_,quv hr h1 s2⟩;obtain⟨k,hk,rfl⟩:=List.mem_iff_getElem.1 ha;exact s3 k _ hk (List.getElem?_eq_getElem hk)
theorem qrn(r:Rl)(i:Nat)(names:List ByteArray)(a:Am)(hl:qdn r i=false):∀(ps:List (List ByteArray×Gr)) (st:List Bool×List (List ByteArray)),(∀x∈st.2,x∈(ps.foldl (Qu r i names a) st).2)/\∀p∈ps,∀c,qd9 a p.2 p.1=some c->c∈(ps.foldl (Qu r i names a) st).2
 | [],st=>⟨λx hx=>hx,λp hp=>by cases hp⟩
 | p::ps,st=>by
  rw[List.foldl_cons];obtain⟨h1,h2⟩:=qrn r i names a hl ps (Qu r i names a st p)
  have h3:∀x∈st.2,x∈(Qu r i names a st p).2:=λx hx=>by
   unfold Qu;split
   ·exact hx
   ·rw[if_neg (by rw[hl];decide)];exact List.mem_append_left _ hx
  refine⟨λx hx=>h1 x (h3 x hx),λp' hp c hc=>?_⟩;rcases List.mem_cons.1 hp with rfl | hp
  ·refine h1 c ?_;unfold Qu;rw[hc];simp only[hl,if_false,Bool.false_eq_true];exact List.mem_append_right _ List.mem_cons_self
  ·exact h2 p' hp c hc
theorem qjf(r:Rl)(i:Nat)(names:List ByteArray)(a:Am)(hl:qdn r i=true)(h8:names.length<=8)(he:eBy∉names){d:Nat->Bool}:∀(ps:List (List ByteArray×Gr)) (st:List Bool×List (List ByteArray)),(∀p∈ps,∀c,qd9 a p.2 p.1=some c->Wy r names d (qa2 r i c)/\qha names (qa2 r i c) < 4096)->st.1.length=4096->(∀k,st.1.getD k false=true->∃x∈st.2,qha names x=k)->(∀x∈st.2,Wy r names d x)->
  (∀x∈st.2,x∈(ps.foldl (Qu r i names a) st).2)/\∀p∈ps,∀c,qd9 a p.2 p.1=some c->qa2 r i c∈(ps.foldl (Qu r i names a) st).2
 | [],st,_,_,_,_=>⟨λx hx=>hx,λp hp=>by cases hp⟩
 | p::ps,st,hp,hs,hk,hw=>by
  rw[List.foldl_cons];have hp':∀p∈ps,∀c,qd9 a p.2 p.1=some c->Wy r names d (qa2 r i c)/\qha names (qa2 r i c) < 4096:=λq hq=>hp q (List.mem_cons_of_mem _ hq)
  cases hf:qd9 a p.2 p.1 with
  | none=>
   have e1:Qu r i names a st p=st:=by unfold Qu;rw[hf]
   rw[e1];obtain⟨h1,h2⟩:=qjf r i names a hl h8 he ps st hp' hs hk hw;refine⟨h1,λq hq c hc=>?_⟩;rcases List.mem_cons.1 hq with rfl | hq
   ·rw[hf] at hc;cases hc
   ·exact h2 q hq c hc
  | some c0=>
   obtain⟨hw0,hk0⟩:=hp p List.mem_cons_self c0 hf;by_cases hsd:st.1.getD (qha names (qa2 r i c0)) false=true
   ·have e1:Qu r i names a st p=st:=by unfold Qu;rw[hf];simp only[hl,if_true];rw[if_pos hsd]
    rw[e1];obtain⟨h1,h2⟩:=qjf r i names a hl h8 he ps st hp' hs hk hw;refine⟨h1,λq hq c hc=>?_⟩;rcases List.mem_cons.1 hq with rfl | hq
    ·rw[hf] at hc;cases hc;obtain⟨x,hx,hkx⟩:=hk _ hsd;rw[<- Qau h8 he (hw x hx) hw0 hkx];exact h1 x hx
    ·exact h2 q hq c hc
   ·have e1:Qu r i names a st p=(st.1.set (qha names (qa2 r i c0)) true,st.2++[qa2 r i c0]):=by unfold Qu;rw[hf];simp only[hl,if_true];rw[if_neg hsd]
    rw[e1]
    obtain⟨h1,h2⟩:=qjf r i names a hl h8 he ps (st.1.set (qha names (qa2 r i c0)) true,st.2++[qa2 r i c0]) hp' (by simpa using hs) (λk hkk=>by
     simp only[List.getD_eq_getElem?_getD,List.getElem?_set] at hkk;by_cases e:qha names (qa2 r i c0)=k
     ·exact⟨_,List.mem_append_right _ List.mem_cons_self,e⟩
     ·rw[if_neg e] at hkk;obtain⟨x,hx,h⟩:=hk k (by rw[List.getD_eq_getElem?_getD];exact hkk)
      exact⟨x,List.mem_append_left _ hx,h⟩) (λx hx=>by
     rcases List.mem_append.1 hx with hx | hx
     ·exact hw x hx
     ·rw[List.mem_singleton] at hx;rw[hx];exact hw0)
    refine⟨λx hx=>h1 x (List.mem_append_left _ hx),λq hq c hc=>?_⟩;rcases List.mem_cons.1 hq with rfl | hq
    ·rw[hf] at hc;cases hc;exact h1 _ (List.mem_append_right _ List.mem_cons_self)
    ·exact h2 q hq c hc
theorem qyt(r:Rl)(i:Nat)(names:List ByteArray)(a:Am)(D:List ByteArray->Prop):∀(ps:List (List ByteArray×Gr)) (st:List Bool×List (List ByteArray)),(∀p∈ps,∀c,qd9 a p.2 p.1=some c->(qdn r i=true->D (qa2 r i c))/\(qdn r i=false->D c))->(∀x∈st.2,D x)->∀x∈(ps.foldl (Qu r i names a) st).2,D x
 | [],st,_,h=>h
 | p::ps,st,hp,h=>by
  rw[List.foldl_cons];refine qyt r i names a D ps _ (λq hq=>hp q (List.mem_cons_of_mem _ hq)) (λx hx=>?_);unfold Qu at hx;split at hx
  ·exact h x hx
  ·rename_i c hc;have h1:=hp p List.mem_cons_self c hc;split at hx
   ·rename_i hl;split at hx
    ·exact h x hx
    ·rcases List.mem_append.1 hx with hx | hx
     ·exact h x hx
     ·rw[List.mem_singleton] at hx;rw[hx];exact h1.1 hl
   ·rename_i hl;rcases List.mem_append.1 hx with hx | hx
    ·exact h x hx
    ·rw[List.mem_singleton] at hx;rw[hx];exact h1.2 (by simpa using hl)
theorem qtq{r:Rl}{gs:List Gr}(hr:qeq r){s:Nat->ByteArray}(hs:∀v,qg (s v)=false)(names:List ByteArray)(hn:qa8 [] (qan gs)=names)(hg:∀g∈gs,∀x∈g.args,qg x=false/\x∈names)(h8:names.length<=8)(he:eBy∉names)(hb:∀a∈r.body,qcm s a∈gs):∃b∈qkc r gs,qdo r.head b=qcm s r.head:=by
 have key:∀i,i<=r.body.length->(∀b∈(List.range i).foldl (qcp r names gs) [qdb],Wy r names (qd8 r i) b)/\∃b∈(List.range i).foldl (qcp r names gs) [qdb],Agr b s:=by
  intro i
  induction i with
  | zero=>exact λ_=>⟨λb hb=>by rw[List.mem_singleton.1 hb];exact qwa _ _,qdb,List.mem_cons_self,λv hv=>by rw[qjb] at hv;cases hv⟩
  | succ i ih=>
   intro hi;obtain⟨ih1,b,hbm,hba⟩:=ih (by omega);rw[List.range_succ,List.foldl_append];generalize (List.range i).foldl (qcp r names gs) [qdb]=l at *;have hbi:r.body[i]?=some r.body[i]:=List.getElem?_eq_getElem (by omega)
   have e1:[i].foldl (qcp r names gs) l=((qb3 l gs).foldl (Qu r i names r.body[i]) (List.replicate 4096 false,[])).2:=by
    show qcp r names gs l i=_;unfold qcp;rw[hbi]
   rw[e1]
   have hps:∀p∈qb3 l gs,p.1∈l/\p.2∈gs:=λp hp=>by
    obtain⟨x,hx,hp⟩:=List.mem_flatMap.1 hp;obtain⟨y,hy,rfl⟩:=List.mem_map.1 hp;exact⟨hx,hy⟩
   have hw:∀p∈qb3 l gs,∀c,qd9 r.body[i] p.2 p.1=some c->Wy r names (qub r i r.body[i]) c:=λp hp c hc=>qye hr hg (List.getElem_mem (by omega)) (hps p hp).2 (ih1 _ (hps p hp).1) hc;have hwb:=ih1 b hbm;obtain⟨c,hc,hca⟩:=qjd s (r.body[i]).args b (λt ht=>by rw[hwb.len];exact (hr.args _ (List.mem_cons_of_mem _ (List.getElem_mem (by omega)))).2 t ht) hba hs
   have hcf:qd9 r.body[i] (qcm s r.body[i]) b=some c:=by
    unfold qd9 qcm;rw[if_pos ⟨(qjc _ _).2 rfl,by simp⟩];exact hc
   have hpm:(b,qcm s r.body[i])∈qb3 l gs:=List.mem_flatMap.2 ⟨b,hbm,List.mem_map.2 ⟨_,hb _ (List.getElem_mem (by omega)),rfl⟩⟩;refine⟨qyt r i names r.body[i] (Wy r names (qd8 r (i+1))) _ _ (λp hp c hc=>⟨λhl=>qtr (hw p hp c hc) hbi hl,λhl=>qzg (hw p hp c hc) hbi hl⟩) (λx hx=>by cases hx),?_⟩
   cases hl:qdn r i with
   | false=>exact⟨c,(qrn r i names r.body[i] hl _ _).2 _ hpm c hcf,hca⟩
   | true=>
    have hwc:=hw _ hpm c hcf;refine⟨qa2 r i c,(qjf r i names r.body[i] hl h8 he (d:=qd8 r (i+1)) _ _ (λp hp c hc=>?_) List.length_replicate (λk hk=>?_) (λx hx=>by cases hx)).2 _ hpm c hcf,λv hv=>?_⟩
    ·have h1:=qtr (hw p hp c hc) hbi hl;exact⟨h1,qy2 hr h8 he (by omega) hl h1⟩
    ·rw[List.getD_eq_getElem?_getD,List.getElem?_replicate] at hk;split at hk <;> cases hk
    ·rw[qlt v hwc.len] at hv ⊢;split at hv
     ·rename_i h1;rw[if_pos h1];exact hca v hv
     ·rw[qck] at hv;cases hv
 obtain⟨k1,b,k2,k3⟩:=key r.body.length zl;refine⟨b,?_,quv hr (k1 b k2) k3⟩;unfold qkc;rw[hn];exact k2
def Dv(R:List Rl)(F:List Gr)(g:Gr):Prop:=∀S:Gr->Prop,(∀x∈F,S x)->(∀r∈R,∀s:Nat->ByteArray,(∀v,qg (s v)=false)->(∀a∈r.body,S (qcm s a))->S (qcm s r.head))->S g
def qzq(r:Rl):List Am:=r.head::r.body
structure qds(R:List Rl)(Nm:List ByteArray):Prop where
 each:∀r∈R,qeq r
 n8:Nm.length<=8
 ne:eBy∉Nm
 cs:∀r∈R,∀t∈r.head.args,qg t.name=false->t.name∈Nm
 few:(R.flatMap qzq).length<=32
structure qjt(R:List Rl)(Nm:List ByteArray)(g:Gr):Prop where
 rel:∃a∈R.flatMap qzq,g.rel=a.rel/\g.args.length=a.args.length
 mem:∀x∈g.args,x∈Nm
def q5g(rel:ByteArray)(Nm:List ByteArray):Nat->List Gr
 | 0=>[⟨rel,[]⟩]
 | 1=>Nm.map (λx=>⟨rel,[x]⟩)
 | 2=>Nm.flatMap (λx=>Nm.map (λy=>⟨rel,[x,y]⟩))
 | _=>[]
def Qaq(R:List Rl)(Nm:List ByteArray):List Gr:=(R.flatMap qzq).flatMap (λa=>q5g a.rel Nm a.args.length)
theorem qle{α β:Type}(f:α->List β)(k:Nat):∀(l:List α),(∀a∈l,(f a).length<=k)->(l.flatMap f).length<=l.length*k
 | [],_=>by simp
 | a::l,h=>by
  have h1:=qle f k l (λx hx=>h x (List.mem_cons_of_mem _ hx));have h2:=h a List.mem_cons_self;rw[List.flatMap_cons,List.length_append,List.length_cons,Nat.succ_mul];omega
theorem q5h(rel:ByteArray)(Nm:List ByteArray)(h:Nm.length<=8)(n:Nat):(q5g rel Nm n).length<=64:=by
 match n with
 | 0=>exact Nat.le_of_ble_eq_true rfl
 | 1=>show (Nm.map _).length<=64;rw[List.length_map];omega
 | 2=>
  have:=qle (λx=>Nm.map (λy=>(⟨rel,[x,y]⟩:Gr))) 8 Nm (λx _=>by rw[List.length_map];exact h);have h2:Nm.length*8<=64:=by omega
  exact Nat.le_trans this h2
 | n+3=>exact Nat.zero_le _
theorem qze{R:List Rl}{Nm:List ByteArray}(h:qds R Nm):(Qaq R Nm).length<=2048:=by
 have h1:=qle (λa=>q5g a.rel Nm a.args.length) 64 (R.flatMap qzq) (λa _=>q5h _ _ h.n8 _);have h2:=h.few;unfold Qaq;omega
theorem q32{R:List Rl}{Nm:List ByteArray}(h:qds R Nm){g:Gr}(hg:qjt R Nm g):g∈Qaq R Nm:=by
 obtain⟨⟨a,ha,h1,h2⟩,h3⟩:=hg;refine List.mem_flatMap.2 ⟨a,ha,?_⟩
 have h4:a.args.length<=2:=by
  obtain⟨r,hr,har⟩:=List.mem_flatMap.1 ha;exact ((h.each r hr).args a har).1
 obtain⟨gr,ga⟩:=g;simp only at h1 h2 h3;rw[<- h1,<- h2]
 match ga,h2,h3 with
 | [],_,_=>exact List.mem_cons_self
 | [x],_,h3=>exact List.mem_map.2 ⟨x,h3 x List.mem_cons_self,rfl⟩
 | [x,y],_,h3=>exact List.mem_flatMap.2 ⟨x,h3 x List.mem_cons_self,List.mem_map.2 ⟨y,h3 y (List.mem_cons_of_mem _ List.mem_cons_self),rfl⟩⟩
 | _::_::_::_,h2,_=>simp only[List.length_cons] at h2;omega
theorem qla{α:Type}:∀(l L:List α),l.Nodup->(∀x∈l,x∈L)->l.length<=L.length
 | [],L,_,_=>Nat.zero_le _
 | a::l,L,hn,hs=>by
  have hn':=List.nodup_cons.1 hn;obtain⟨L1,L2,e⟩:=List.append_of_mem (hs a List.mem_cons_self)
  have h1:=qla l (L1++L2) hn'.2 (λx hx=>by
   have:=hs x (List.mem_cons_of_mem _ hx);rw[e] at this;rcases List.mem_append.1 this with h | h
   ·exact List.mem_append_left _ h
   ·rcases List.mem_cons.1 h with h | h
    ·exact absurd (h ▸ hx) hn'.1
    ·exact List.mem_append_right _ h)
  rw[e];simp only[List.length_append,List.length_cons] at h1 ⊢;omega
theorem q1d(vs:List ByteArray)(x y:ByteArray):y∈Qc vs x↔y∈vs\/y=x:=by
 unfold Qc;split
 ·rename_i h;have:=qeu.1 h;exact⟨.inl,λh=>h.elim id (λe=>by rw[e];exact this)⟩
 ·rw[List.mem_append,List.mem_singleton]
theorem qif:∀(l vs:List ByteArray) (y:ByteArray),y∈qa8 vs l↔y∈vs\/y∈l
 | [],vs,y=>by simp[qa8]
 | x::l,vs,y=>by
  have:=qif l (Qc vs x) y;unfold qa8 at this ⊢;rw[List.foldl_cons,this,q1d,List.mem_cons,or_assoc]
theorem qoh:∀(l vs:List ByteArray),vs.Nodup->(qa8 vs l).Nodup
 | [],vs,h=>h
 | x::l,vs,h=>by
  unfold qa8;rw[List.foldl_cons];refine qoh l (Qc vs x) ?_;unfold Qc;split
  ·exact h
  ·rename_i hx;rw[List.nodup_append];refine⟨h,by simp,λa ha b hb e=>?_⟩;rw[List.mem_singleton] at hb;exact hx (qeu.2 (by rw[<- hb,<- e];exact ha))
theorem qua{l:List ByteArray}(h:l.Nodup):qh9 l:=λi j hi hj e=>by
 have hp:=List.pairwise_iff_getElem.1 (List.nodup_iff_pairwise_ne.1 h);rcases Nat.lt_trichotomy i j with hl | hl | hl
 ·exact absurd e (hp i j hi hj hl)
 ·exact hl
 ·exact absurd e.symm (hp j i hj hi hl)
section
variable {R:List Rl} {Nm:List ByteArray} {F hs:List Gr}
theorem qpl(hR:qds R Nm)(h:∀g∈hs,qjt R Nm g):(qa8 [] (qan hs)).length<=8/\qh9 (qa8 [] (qan hs))/\eBy∉qa8 [] (qan hs)/\∀g∈hs,∀x∈g.args,qg x=false/\x∈qa8 [] (qan hs):=by
 have h1:∀y∈qa8 [] (qan hs),y∈Nm:=λy hy=>by
  rcases (qif _ _ _).1 hy with hy | hy
  ·cases hy
  ·obtain⟨g,hg,hy⟩:=List.mem_flatMap.1 hy;exact (h g hg).mem y hy
 have hn:(qa8 [] (qan hs)).Nodup:=qoh _ _ List.nodup_nil;refine⟨Nat.le_trans (qla _ _ hn h1) hR.n8,qua hn,λhe=>hR.ne (h1 _ he),λg hg x hx=>⟨?_,(qif _ _ _).2 (.inr (List.mem_flatMap.2 ⟨g,hg,hx⟩))⟩⟩
 cases he:qg x with
 | false=>rfl
 | true=>exact absurd (by rw[<- (qce x).1 he];exact (h g hg).mem x hx) hR.ne
structure LsI(R:List Rl)(F:List Gr)(Nm:List ByteArray)(hs:List Gr):Prop where
 nodup:hs.Nodup
 ok:∀g∈hs,qjt R Nm g
 der:∀g∈hs,Dv R F g
theorem LsI.few(hR:qds R Nm)(h:LsI R F Nm hs):hs.length<=2048:=Nat.le_trans (qla _ _ h.nodup (λg hg=>q32 hR (h.ok g hg))) (qze hR)
theorem LsI.add(h:LsI R F Nm hs){g:Gr}(hg:g∉hs)(h1:qjt R Nm g)(h2:Dv R F g):LsI R F Nm (hs++[g]):=by
 refine⟨?_,λx hx=>?_,λx hx=>?_⟩
 ·rw[List.nodup_append];refine⟨h.nodup,by simp,λa ha b hb e=>?_⟩;rw[List.mem_singleton] at hb;exact hg (by rw[<- hb,<- e];exact ha)
 ·rcases List.mem_append.1 hx with hx | hx
  ·exact h.ok x hx
  ·rw[List.mem_singleton] at hx;rw[hx];exact h1
 ·rcases List.mem_append.1 hx with hx | hx
  ·exact h.der x hx
  ·rw[List.mem_singleton] at hx;rw[hx];exact h2
theorem q6s(hR:qds R Nm)(h:∀g∈hs,qjt R Nm g){r:Rl}(hr:r∈R){s:Nat->ByteArray}(hb:∀a∈r.body,qcm s a∈hs):qjt R Nm (qcm s r.head):=by
 refine⟨⟨r.head,List.mem_flatMap.2 ⟨r,hr,List.mem_cons_self⟩,rfl,by simp[qcm]⟩,λx hx=>?_⟩;obtain⟨t,ht,rfl⟩:=List.mem_map.1 hx;unfold inT;by_cases he:qg t.name=true
 ·rw[if_pos he];obtain⟨a,ha,u,hu,hu1,hu2⟩:=(hR.each r hr).safe t.num ⟨t,ht,he,rfl⟩;refine (h _ (hb a ha)).mem _ (List.mem_map.2 ⟨u,hu,?_⟩);unfold inT;rw[if_pos hu1,hu2]
 ·rw[if_neg he];exact hR.cs r hr t ht (by simpa using he)
theorem LsI.way(hR:qds R Nm)(h:LsI R F Nm hs){r:Rl}(hr:r∈R){names:List ByteArray}{b:List ByteArray}(hp:qwf r names hs r.body.length b):qjt R Nm (qdo r.head b)/\Dv R F (qdo r.head b):=by
 obtain⟨s,s1,s2,s3⟩:=q1v (hR.each r hr) hp;rw[s3];exact⟨q6s hR h.ok hr s2,λS x1 x2=>x2 r hr s s1 (λa ha=>h.der _ (s2 a ha) S x1 x2)⟩
theorem LsI.inv(hR:qds R Nm)(h:LsI R F Nm hs){r:Rl}(hr:r∈R):qwk r (qa8 [] (qan hs)) hs (qwf r (qa8 [] (qan hs)) hs):=by
 obtain⟨n1,n2,n3,n4⟩:=qpl hR h.ok;exact q7l (hR.each r hr) n4 n1 n3
theorem LsI.done(hR:qds R Nm)(h:LsI R F Nm hs)(hF:∀f∈F,f∈hs)(hc:∀r∈R,∀b∈qkc r hs,qdo r.head b∈hs)(g:Gr):g∈hs↔Dv R F g:=by
 refine⟨h.der g,λhd=>hd (λg=>g∈hs) hF (λr hr s hs' hb=>?_)⟩;obtain⟨n1,n2,n3,n4⟩:=qpl hR h.ok;obtain⟨b,hb1,hb2⟩:=qtq (hR.each r hr) hs' _ rfl n4 n1 n3 hb;rw[<- hb2];exact hc r hr b hb1
theorem LsI.start:LsI R F Nm []:=⟨List.nodup_nil,λg hg=>(by cases hg),λg hg=>(by cases hg)⟩
theorem LsI.fact(h:LsI R F Nm hs){f:Gr}(hf:f∈F)(hn:f∉hs)(ho:qjt R Nm f):LsI R F Nm (hs++[f]):=h.add hn ho (λS x1 _=>x1 f hf)
end
