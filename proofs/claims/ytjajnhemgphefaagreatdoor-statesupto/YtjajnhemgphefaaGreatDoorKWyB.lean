/- A part -/
import Derived.Test.YtjajnhemgphefaaGreatDoorKMdQ
set_option linter.all false
namespace Go.Proofs.YtjajnhemgphefaaGreatDoor
open Go renaming World->Wq,Value->Vq
open Go.RowKit Go.Shelf
structure qw6(r:Rl)(names:List By)(gs:List Gr)(P:Nat->List By->Prop):Prop where
 start:P 0 qao
 step:∀(i:Nat) (a:Am) (g:Gr) (b c:List By),r.body[i]?=some a->g∈gs->P i b->qcd a g b=some c->(qds r i=true->P (i+1) (qa1 r i c)/\qhg names (qa1 r i c) < 4096)/\(qds r i=false->P (i+1) c)
abbrev eBy:By:=⟨#[]⟩
theorem qbo(x:By):qg x=true↔x=eBy:=by
 constructor
 .intro h;have h1:x.toList=[]:=List.isEmpty_iff.1 h;have h2:eBy.toList=[]:=by decide +kernel
  have h3:=qeo x eBy;rw[h1,h2] at h3;simpa using h3.symm
 .rintro rfl;decide +kernel
theorem qcn:qg eBy=true:=by decide +kernel
theorem qhx(x y:By):eqB x y=true↔x=y:=by
 unfold eqB;rw[qeo];simp
def qdo(a:Am)(v:Nat):Prop:=∃t∈a.args,qg t.name=true/\t.num=v
theorem qr2(bd:List Am)(v:Nat):qy bd v=true↔∃a∈bd,qdo a v:=by
 unfold qy qdo;rw[List.any_eq_true];refine exists_congr λa=>and_congr_right λ_=>?_;rw[List.any_eq_true];refine exists_congr λt=>and_congr_right λ_=>?_;unfold qhm qg;rw[Bool.and_eq_true,decide_eq_true_eq]
theorem qg8(a:Am)(v:Nat):qy [a] v=true↔qdo a v:=by
 rw[qr2];simp
theorem qh7(b:List By)(n v:Nat)(x:By)(hn:n < b.length):(b.set n x).getD v eBy=if v=n then x else b.getD v eBy:=by
 simp only[List.getD_eq_getElem?_getD,List.getElem?_set];by_cases h:v=n
 .subst h;rw[if_pos rfl,if_pos hn,if_pos rfl];rfl
 .rw[if_neg (λe=>h e.symm),if_neg h]
theorem qjr:∀(ts:List Tm) (xs b c:List By),qgv ts xs b=some c->ts.length=xs.length->(∀x∈xs,qg x=false)->(∀t∈ts,t.num < b.length)->
  c.length=b.length/\(∀v,qg (b.getD v eBy)=false->c.getD v eBy=b.getD v eBy)/\xs=ts.map (qih c)/\(∀v,qg (c.getD v eBy)=false↔(qg (b.getD v eBy)=false\/∃t∈ts,qg t.name=true/\t.num=v))/\∀v,qg (c.getD v eBy)=false->qg (b.getD v eBy)=true->c.getD v eBy∈xs
 | [],[],b,c,h,_,_,_=>by
  cases h;exact⟨rfl,λ_ _=>rfl,rfl,λv=>by simp,λv h1 h2=>by rw[h1] at h2;cases h2⟩
 | [],_::_,_,_,_,h,_,_=>by cases h
 | _::_,[],_,_,_,h,_,_=>by cases h
 | t::ts,x::xs,b,c,h,hl,hx,hn=>by
  have an:ts.length=xs.length:=by simpa using hl
  have ag:∀y∈xs,qg y=false:=λy hy=>hx y (zt hy);have az:=hx x zs;have aa:∀u∈ts,u.num < b.length:=λu hu=>hn u (zt hu);have ac:=hn t zs;unfold qgv at h;by_cases h1:qg t.name=false
  .rw[if_pos h1] at h;by_cases h2:eqB t.name x=true
   .rw[if_pos h2] at h;obtain⟨i1,i2,i3,i4,i5⟩:=qjr ts xs b c h an ag aa;refine⟨i1,i2,?_,λv=>?_,λv g1 g2=>List.mem_cons_of_mem _ (i5 v g1 g2)⟩
    .rw[List.map_cons,<- i3];congr 1;unfold qih;rw[if_neg (by show ¬qg t.name=true;rw[h1];decide)];exact ((qhx _ _).1 h2).symm
    .rw[i4 v];constructor
     .rintro (g | ⟨u,hu,g⟩)
      .exact .inl g
      .exact .inr ⟨u,List.mem_cons_of_mem _ hu,g⟩
     .rintro (g | ⟨u,hu,g⟩)
      .exact .inl g
      .rcases List.mem_cons.1 hu with rfl | hu
       .rw[h1] at g;cases g.1
       .exact .inr ⟨u,hu,g⟩
   .rw[if_neg h2] at h;cases h
  .have ad:qg t.name=true:=by simpa using h1
   rw[if_neg h1] at h;by_cases h2:qg (b.getD t.num ⟨#[]⟩)=true
   .rw[if_pos h2] at h;obtain⟨i1,i2,i3,i4,i5⟩:=qjr ts xs (b.set t.num x) c h an ag (λu hu=>by rw[List.length_set];exact aa u hu);rw[List.length_set] at i1
    have aq:c.getD t.num eBy=x:=by
     have:=i2 t.num (by rw[qh7 _ _ _ _ ac,if_pos rfl];exact az);rw[this,qh7 _ _ _ _ ac,if_pos rfl]
    refine⟨i1,λv g=>?_,?_,λv=>?_,λv g1 g2=>?_⟩
    .have hv:v≠t.num:=λe=>by rw[e] at g;rw[h2] at g;cases g
     have:=i2 v (by rw[qh7 _ _ _ _ ac,if_neg hv];exact g);rw[this,qh7 _ _ _ _ ac,if_neg hv]
    .rw[List.map_cons,<- i3];congr 1;unfold qih;rw[if_pos (by exact ad)];exact aq.symm
    .rw[i4 v,qh7 _ _ _ _ ac];by_cases hv:v=t.num
     .rw[if_pos hv];exact⟨λ_=>.inr ⟨t,zs,ad,hv.symm⟩,λ_=>.inl az⟩
     .rw[if_neg hv];constructor
      .rintro (g | ⟨u,hu,g⟩)
       .exact .inl g
       .exact .inr ⟨u,List.mem_cons_of_mem _ hu,g⟩
      .rintro (g | ⟨u,hu,g⟩)
       .exact .inl g
       .rcases List.mem_cons.1 hu with rfl | hu
        .exact absurd g.2.symm hv
        .exact .inr ⟨u,hu,g⟩
    .by_cases hv:v=t.num
     .subst hv;rw[aq];exact zs
     .exact List.mem_cons_of_mem _ (i5 v g1 (by rw[qh7 _ _ _ _ ac,if_neg hv];exact g2))
   .rw[if_neg h2] at h;have a6:qg (b.getD t.num eBy)=false:=by simpa using h2
    by_cases h3:eqB (b.getD t.num ⟨#[]⟩) x=true
    .rw[if_pos h3] at h;have bb:=(qhx _ _).1 h3;obtain⟨i1,i2,i3,i4,i5⟩:=qjr ts xs b c h an ag aa;refine⟨i1,i2,?_,λv=>?_,λv g1 g2=>List.mem_cons_of_mem _ (i5 v g1 g2)⟩
     .rw[List.map_cons,<- i3];congr 1;unfold qih;rw[if_pos (by exact ad),i2 _ a6];exact bb.symm
     .rw[i4 v];constructor
      .rintro (g | ⟨u,hu,g⟩)
       .exact .inl g
       .exact .inr ⟨u,List.mem_cons_of_mem _ hu,g⟩
      .rintro (g | ⟨u,hu,g⟩)
       .exact .inl g
       .rcases List.mem_cons.1 hu with rfl | hu
        .exact .inl (by rw[<- g.2];exact a6)
        .exact .inr ⟨u,hu,g⟩
    .rw[if_neg h3] at h;cases h
def inT(s:Nat->By)(t:Tm):By:=if qg t.name=true then s t.num else t.name
def qbz(s:Nat->By)(a:Am):Gr:=⟨a.rel,a.args.map (inT s)⟩
def Agr(b:List By)(s:Nat->By):Prop:=∀v,qg (b.getD v eBy)=false->b.getD v eBy=s v
theorem qha(s:Nat->By):∀(ts:List Tm) (b:List By),(∀t∈ts,t.num < b.length)->Agr b s->(∀v,qg (s v)=false)->∃c,qgv ts (ts.map (inT s)) b=some c/\Agr c s
 | [],b,_,hb,_=>⟨b,rfl,hb⟩
 | t::ts,b,hn,hb,hs=>by
  have aa:∀u∈ts,u.num < b.length:=λu hu=>hn u (zt hu);have ac:=hn t zs;rw[List.map_cons];unfold qgv;by_cases h1:qg t.name=false
  .have e1:inT s t=t.name:=by unfold inT;rw[h1];rfl
   rw[if_pos h1,e1,if_pos ((qhx _ _).2 rfl)];exact qha s ts b aa hb hs
  .have ad:qg t.name=true:=by simpa using h1
   have e1:inT s t=s t.num:=by unfold inT;rw[ad];rfl
   rw[if_neg h1,e1];by_cases h2:qg (b.getD t.num ⟨#[]⟩)=true
   .rw[if_pos h2];refine qha s ts _ (λu hu=>by rw[List.length_set];exact aa u hu) (λv hv=>?_) hs;rw[qh7 _ _ _ _ ac] at hv ⊢;by_cases e:v=t.num
    .rw[if_pos e,e]
    .rw[if_neg e] at hv ⊢;exact hb v hv
   .rw[if_neg h2,if_pos ((qhx _ _).2 (hb _ (by simpa using h2)))];exact qha s ts b aa hb hs
def qed(r:Rl):Nat->Nat->Bool
 | 0,_=>false
 | i+1,v=>match r.body[i]? with
  | none=>qed r i v
  | some a=>if qds r i=true then (qed r i v || qy [a] v) && qf5 r i v else qed r i v || qy [a] v
theorem qxh(r:Rl)(v:Nat):∀i,i<=r.body.length->(∃k a,k < i/\r.body[k]?=some a/\qdo a v)->(qdo r.head v\/∃j a,i<=j/\r.body[j]?=some a/\qdo a v)->qed r i v=true
 | 0,_,⟨k,a,hk,_⟩,_=>by omega
 | i+1,hi,⟨k,a,hk,ha,hv⟩,hm=>by
  have hb:r.body[i]?=some r.body[i]:=List.getElem?_eq_getElem (by omega)
  have h1:(qed r i v || qy [r.body[i]] v)=true:=by
   rw[Bool.or_eq_true];by_cases e:k=i
   .subst e;rw[hb] at ha;cases ha;exact .inr ((qg8 _ _).2 hv)
   .refine .inl (qxh r v i (by omega) ⟨k,a,by omega,ha,hv⟩ (hm.imp id ?_));rintro⟨j,a',hj,h2⟩;exact⟨j,a',by omega,h2⟩
  unfold qed;rw[hb];simp only;split
  .rw[Bool.and_eq_true];refine⟨h1,?_⟩;unfold qf5;rw[Bool.or_eq_true];rcases hm with hm | ⟨j,a',hj,h2,h3⟩
   .exact .inl ((qg8 _ _).2 hm)
   .refine .inr ((qr2 _ _).2 ⟨a',?_,h3⟩);rw[List.mem_iff_getElem?];exact⟨j - (i+1),by rw[List.getElem?_drop];rw[show i+1+(j - (i+1))=j by omega];exact h2⟩
  .exact h1
structure qex(r:Rl):Prop where
 three:r.body.length<=3
 args:∀a∈r.head::r.body,a.args.length<=2/\∀t∈a.args,t.num < 8
 safe:∀v,qdo r.head v->∃a∈r.body,qdo a v
structure Wy(r:Rl)(names:List By)(d:Nat->Bool)(b:List By):Prop where
 len:b.length=8
 dom:∀v,v < 8->qg (b.getD v eBy)=!d v
 mem:∀v,qg (b.getD v eBy)=false->b.getD v eBy∈names
def quy(r:Rl)(i:Nat)(a:Am)(v:Nat):Bool:=qed r i v || qy [a] v
theorem qow{a:Am}{g:Gr}{b c:List By}(h:qcd a g b=some c):a.rel=g.rel/\a.args.length=g.args.length/\qgv a.args g.args b=some c:=by
 unfold qcd at h;split at h
 .rename_i h1;exact⟨(qhx _ _).1 h1.1,h1.2,h⟩
 .cases h
theorem qze{b:List By}{v:Nat}(h:qg (b.getD v eBy)=false):v < b.length:=by
 rcases Nat.lt_or_ge v b.length with hl | hl
 .exact hl
 .rw[List.getD_eq_getElem?_getD,List.getElem?_eq_none hl,Option.getD_none,qcn] at h;cases h
section
variable {r:Rl} {names:List By} {gs:List Gr} {i:Nat} {a:Am} {g:Gr} {b c:List By}
theorem qy2(hr:qex r)(hg:∀g∈gs,∀x∈g.args,qg x=false/\x∈names)(ha:a∈r.body)(hm:g∈gs)(h:Wy r names (qed r i) b)(hf:qcd a g b=some c):Wy r names (quy r i a) c:=by
 obtain⟨f1,f2,f3⟩:=qow hf;have hn:=(hr.args a (zt ha)).2;obtain⟨i1,i2,i3,i4,i5⟩:=qjr _ _ _ _ f3 f2 (λx hx=>(hg g hm x hx).1) (λt ht=>by rw[h.len];exact hn t ht);refine⟨i1.trans h.len,λv hv=>?_,λv hv=>?_⟩
 .have e1:(qg (c.getD v eBy)=false)↔quy r i a v=true:=by
   rw[i4 v,h.dom v hv];unfold quy;rw[Bool.or_eq_true,qg8];unfold qdo;simp
  clear i4 i5 i3 f3 hf
  cases h1:qg (c.getD v eBy) <;> cases h2:quy r i a v
  .exact absurd (e1.1 h1) (by rw[h2];decide)
  .rfl
  .rfl
  .exact absurd (e1.2 h2) (by rw[h1];decide)
 .by_cases hb:qg (b.getD v eBy)=true
  .exact (hg g hm _ (i5 v hv hb)).2
  .have ab:qg (b.getD v eBy)=false:=by simpa using hb
   rw[i2 v ab];exact h.mem v ab
theorem ql8(v:Nat)(hl:c.length=8):(qa1 r i c).getD v eBy=if v < 8/\qf5 r i v=true then c.getD v eBy else eBy:=by
 unfold qa1;rw[List.getD_eq_getElem?_getD,List.getElem?_map,hl];by_cases hv:v < 8
 .rw[List.getElem?_range hv];simp only[Option.map_some,Option.getD_some,hv,true_and]
 .rw[List.getElem?_eq_none (by simpa using hv)];simp[hv]
theorem quc(h:Wy r names (quy r i a) c)(hb:r.body[i]?=some a)(hl:qds r i=true):Wy r names (qed r (i+1)) (qa1 r i c):=by
 refine⟨by unfold qa1;simpa using h.len,λv hv=>?_,λv hv=>?_⟩
 .rw[ql8 v h.len];show _=!(match r.body[i]? with | none=>qed r i v | some a=>if qds r i=true then (qed r i v || qy [a] v) && qf5 r i v else qed r i v || qy [a] v);rw[hb];simp only[hl,if_true];have h2:=h.dom v hv;unfold quy at h2;by_cases hk:qf5 r i v=true
  .rw[if_pos ⟨hv,hk⟩,h2,hk,Bool.and_true]
  .rw[if_neg (λe=>hk e.2)];have:qf5 r i v=false:=by simpa using hk
   rw[this,Bool.and_false,qcn];rfl
 .rw[ql8 v h.len] at hv ⊢;split at hv
  .rename_i h1;rw[if_pos h1];exact h.mem v hv
  .rw[qcn] at hv;cases hv
theorem qz3(h:Wy r names (quy r i a) c)(hb:r.body[i]?=some a)(hl:qds r i=false):Wy r names (qed r (i+1)) c:=by
 refine⟨h.len,λv hv=>?_,h.mem⟩;rw[h.dom v hv];show _=!(match r.body[i]? with | none=>qed r i v | some a=>if qds r i=true then (qed r i v || qy [a] v) && qf5 r i v else qed r i v || qy [a] v);rw[hb];simp only[hl];rfl
end
theorem qj1(x y:By):Q5 x y=true↔x=y:=by rw[qmf];simp
theorem qe4{names:List By}{x:By}:Qx names x < names.length↔x∈names:=by
 unfold Qx;rw[List.findIdx_lt_length];constructor
 .rintro⟨y,hy,h⟩;rw[(qj1 x y).1 h];exact hy
 .intro h;exact⟨x,h,(qj1 _ _).2 rfl⟩
theorem q17{names:List By}{x y:By}(hx:x∈names)(hy:y∈names)(h:Qx names x=Qx names y):x=y:=by
 have h1:Qx names x < names.length:=qe4.2 hx;have h2:Qx names y < names.length:=qe4.2 hy;have e1:Q5 x (names[Qx names x]'h1)=true:=List.findIdx_getElem (p:=Q5 x) (xs:=names) (w:=h1);have e2:Q5 y (names[Qx names y]'h2)=true:=List.findIdx_getElem (p:=Q5 y) (xs:=names) (w:=h2);rw[(qj1 _ _).1 e1,(qj1 _ _).1 e2];congr 1
theorem qzq(names:List By)(h8:names.length<=8)(he:eBy∉names):∀(x y:List By) (n m:Nat),x.length=y.length->(∀(v:Nat) (h:v < x.length) (h':v < y.length),(x[v]=eBy/\y[v]=eBy)\/(x[v]∈names/\y[v]∈names))->x.foldl (qbe names) n=y.foldl (qbe names) m->n=m/\x=y
 | [],[],n,m,_,_,h=>⟨h,rfl⟩
 | [],_::_,_,_,h,_,_=>by cases h
 | _::_,[],_,_,h,_,_=>by cases h
 | a::x,b::y,n,m,hl,hv,h=>by
  obtain⟨h1,h2⟩:=qzq names h8 he x y (qbe names n a) (qbe names m b) (by simpa using hl) (λv h h'=>by
   have:=hv (v+1) (by simp;omega) (by simp;omega)
   simpa using this) h
  have h0:=hv 0 (by simp) (by simp);simp only[List.getElem_cons_zero] at h0;rcases h0 with⟨rfl,rfl⟩ | ⟨ha,hb⟩
  .have hn:¬Qx names eBy < names.length:=λh=>he (qe4.1 h);unfold qbe at h1;rw[if_neg hn,if_neg hn] at h1;exact⟨h1,by rw[h2]⟩
  .have ai:=qe4.2 ha;have ab:=qe4.2 hb;unfold qbe at h1;rw[if_pos ai,if_pos ab] at h1;have e1:n=m:=by omega
   have e2:Qx names a=Qx names b:=by omega
   exact⟨e1,by rw[h2,q17 ha hb e2]⟩
theorem qnd(names:List By)(h8:names.length<=8)(he:eBy∉names):∀(x:List By) (n k:Nat),n < 8 ^ k->x.foldl (qbe names) n < 8 ^ (k+x.countP (λy=>!qg y))
 | [],n,k,h=>by simpa using h
 | a::x,n,k,h=>by
  rw[List.foldl_cons];by_cases ha:qg a=true
  .rw[List.countP_cons_of_neg (by simpa using ha)];have e:=(qbo a).1 ha;have ai:¬Qx names a < names.length:=λh=>he (by rw[<- e];exact qe4.1 h);have:qbe names n a=n:=by unfold qbe;rw[if_neg ai]
   rw[this];exact qnd names h8 he x n k h
  .rw[List.countP_cons_of_pos (by simpa using ha)]
   have:=qnd names h8 he x (qbe names n a) (k+1) (by
    unfold qbe;rw[Nat.pow_succ]
    split <;> omega)
   rw[show k+(x.countP (λy=>!qg y)+1)=k+1+x.countP (λy=>!qg y) by omega];exact this
theorem qzf:∀(l L:List Nat),l.Nodup->(∀x∈l,x∈L)->l.length<=L.length
 | [],L,_,_=>zz
 | a::l,L,hn,hs=>by
  have aa:=List.nodup_cons.1 hn;have h1:=qzf l (L.erase a) aa.2 (λx hx=>(List.mem_erase_of_ne (λe:x=a=>aa.1 (by rw[<- e];exact hx))).2 (hs x (zt hx)));have h2:=List.length_erase_of_mem (hs a zs);have h3:0 < L.length:=List.length_pos_of_mem (hs a zs);simp only[List.length_cons];omega
theorem q0r(b:List By)(L:List Nat)(h:∀v,qg (b.getD v eBy)=false->v∈L):b.countP (λy=>!qg y)<=L.length:=by
 have e1:b=(List.range b.length).map (λv=>b.getD v eBy):=by
  apply List.ext_getElem
  .simp
  .intro n h1 h2;rw[List.getElem_map,List.getElem_range,List.getD_eq_getElem?_getD,List.getElem?_eq_getElem h1];rfl
 rw[e1,List.countP_map,List.countP_eq_length_filter];refine qzf _ L (List.nodup_range.sublist List.filter_sublist) (λv hv=>?_);have:=(List.mem_filter.1 hv).2;exact h v (by simpa using this)
def qv5(l:List Am):List Nat:=l.flatMap (λa=>a.args.map (·.num))
theorem qqb:∀(l:List Am),(∀a∈l,a.args.length<=2)->(qv5 l).length<=2*l.length
 | [],_=>Nat.le_refl _
 | a::l,h=>by
  have h1:=qqb l (λx hx=>h x (zt hx));have h2:=h a zs;unfold qv5 at h1 ⊢;rw[List.flatMap_cons,List.length_append,List.length_map,List.length_cons];omega
theorem qz2{a:Am}{l:List Am}{v:Nat}(ha:a∈l)(h:qdo a v):v∈qv5 l:=by
 obtain⟨t,ht,_,rfl⟩:=h;exact List.mem_flatMap.2 ⟨a,ha,List.mem_map.2 ⟨t,ht,rfl⟩⟩
theorem qti(r:Rl)(v:Nat):∀i,qed r i v=true->∃a∈r.body.take i,qdo a v
 | 0,h=>by cases h
 | i+1,h=>by
  unfold qed at h
  cases hb:r.body[i]? with
  | none=>
   rw[hb] at h;obtain⟨a,ha,hv⟩:=qti r v i h;exact⟨a,(List.take_subset_take_left _ (Nat.le_succ i)) ha,hv⟩
  | some a=>
   rw[hb] at h;simp only at h
   have h1:(qed r i v || qy [a] v)=true:=by
    split at h
    .exact (Bool.and_eq_true _ _ ▸ h).1
    .exact h
   rcases Bool.or_eq_true _ _ ▸ h1 with h2 | h2
   .obtain⟨a,ha,hv⟩:=qti r v i h2;exact⟨a,(List.take_subset_take_left _ (Nat.le_succ i)) ha,hv⟩
   .refine⟨a,?_,(qg8 _ _).1 h2⟩;rw[List.mem_iff_getElem?];exact⟨i,by rw[List.getElem?_take,if_pos (Nat.lt_succ_self i)];exact hb⟩
theorem qzp{r:Rl}{names:List By}(hr:qex r)(h8:names.length<=8)(he:eBy∉names){i:Nat}(hi:i < r.body.length)(hl:qds r i=true){b:List By}(h:Wy r names (qed r (i+1)) b):qhg names b < 4096:=by
 have hd:∀v,qg (b.getD v eBy)=false->qed r (i+1) v=true:=λv hv=>by
  have h1:=h.dom v (by rw[<- h.len];exact qze hv);rw[hv] at h1;simpa using h1.symm
 obtain⟨L,hL,hs⟩:∃L:List Nat,L.length<=4/\∀v,qg (b.getD v eBy)=false->v∈L:=by
  by_cases h2:i+1<=2
  .refine⟨qv5 (r.body.take (i+1)),?_,λv hv=>?_⟩
   .have:=qqb (r.body.take (i+1)) (λa ha=>(hr.args a (zt (List.mem_of_mem_take ha))).1);rw[List.length_take] at this;omega
   .obtain⟨a,ha,bn⟩:=qti r v _ (hd v hv);exact qz2 ha bn
  .have h3:=hr.three;refine⟨qv5 [r.head],?_,λv hv=>?_⟩
   .have:=qqb [r.head] (λa ha=>by simp at ha;subst ha;exact (hr.args _ zs).1);simp only[List.length_cons,List.length_nil] at this;omega
   .have h4:=hd v hv;unfold qed at h4;rw[List.getElem?_eq_getElem hi] at h4;simp only[hl,if_true] at h4;have h5:=(Bool.and_eq_true _ _ ▸ h4).2;unfold qf5 at h5;rw[List.drop_eq_nil_of_le (by omega)] at h5;rcases Bool.or_eq_true _ _ ▸ h5 with h6 | h6
    .exact qz2 zs ((qg8 _ _).1 h6)
    .cases h6
 have h1:=qnd names h8 he b 0 0 (by decide);have h2:=Nat.le_trans (q0r b L hs) hL;have h3:8 ^ (0+b.countP (λy=>!qg y))<=8 ^ 4:=Nat.pow_le_pow_right (by decide) (by omega);unfold qhg;have h4:(8:Nat) ^ 4=4096:=by decide
 omega
theorem Qcg{r:Rl}{names:List By}(h8:names.length<=8)(he:eBy∉names){d:Nat->Bool}{x y:List By}(hx:Wy r names d x)(hy:Wy r names d y)(h:qhg names x=qhg names y):x=y:=by
 refine (qzq names h8 he x y 0 0 (hx.len.trans hy.len.symm) (λv h1 h2=>?_) h).2;have e1:x.getD v eBy=x[v]:=by rw[List.getD_eq_getElem?_getD,List.getElem?_eq_getElem h1];rfl
 have e2:y.getD v eBy=y[v]:=by rw[List.getD_eq_getElem?_getD,List.getElem?_eq_getElem h2];rfl
 have d1:=hx.dom v (by rw[<- hx.len];exact h1);have d2:=hy.dom v (by rw[<- hy.len];exact h2);have m1:=hx.mem v;have m2:=hy.mem v;rw[e1] at d1 m1;rw[e2] at d2 m2
 cases hd:d v with
 | true=>
  rw[hd] at d1 d2;exact .inr ⟨m1 d1,m2 d2⟩
 | false=>
  rw[hd] at d1 d2;exact .inl ⟨(qbo _).1 d1,(qbo _).1 d2⟩
def Ws(r:Rl)(gs:List Gr)(i:Nat)(b:List By):Prop:=∃s:Nat->By,(∀v,qg (s v)=false)/\Agr b s/\∀k a,k < i->r.body[k]?=some a->qbz s a∈gs
theorem q6r{r:Rl}{names:List By}{gs:List Gr}{i:Nat}{a:Am}{g:Gr}{b c:List By}(hr:qex r)(hg:∀g∈gs,∀x∈g.args,qg x=false/\x∈names)(hb:r.body[i]?=some a)(hm:g∈gs)(h:Wy r names (qed r i) b)(hs:Ws r gs i b)(hf:qcd a g b=some c):Ws r gs (i+1) c:=by
 obtain⟨f1,f2,f3⟩:=qow hf;have ha:a∈r.body:=List.mem_of_getElem? hb;have hi:i < r.body.length:=(List.getElem?_eq_some_iff.1 hb).1;have hn:=(hr.args a (zt ha)).2;obtain⟨i1,i2,i3,i4,i5⟩:=qjr _ _ _ _ f3 f2 (λx hx=>(hg g hm x hx).1) (λt ht=>by rw[h.len];exact hn t ht);obtain⟨s,s1,s2,s3⟩:=hs;refine⟨λv=>if qg (c.getD v eBy)=true then s v else c.getD v eBy,λv=>?_,λv hv=>?_,λk a' hk ab=>?_⟩
 .show qg (if _ then _ else _)=false;split
  .exact s1 v
  .rename_i bj;simpa using bj
 .show _=if _ then _ else _;rw[if_neg (by rw[hv];decide)]
 .by_cases e:k=i
  .subst e;rw[hb] at ab;cases ab
   have:qbz (λv=>if qg (c.getD v eBy)=true then s v else c.getD v eBy) a=g:=by
    obtain⟨gr,ga⟩:=g;simp only at f1 i3;unfold qbz;rw[f1,i3];congr 1;refine List.map_congr_left (λt ht=>?_);unfold inT qih;by_cases he:qg t.name=true
    .rw[if_pos he,if_pos (by exact he)];show (if _ then _ else _)=_;rw[if_neg (by rw[(i4 t.num).2 (.inr ⟨t,ht,he,rfl⟩)];decide)]
    .rw[if_neg he,if_neg (by exact he)]
   rw[this];exact hm
  .have h3:=s3 k a' (by omega) ab
   have:qbz (λv=>if qg (c.getD v eBy)=true then s v else c.getD v eBy) a'=qbz s a':=by
    unfold qbz;congr 1;refine List.map_congr_left (λt ht=>?_);unfold inT;by_cases he:qg t.name=true
    .rw[if_pos he,if_pos he];show (if _ then _ else _)=_;split
     .rfl
     .rename_i hc;have au:qg (c.getD t.num eBy)=false:=by simpa using hc
      by_cases ae:qg (b.getD t.num eBy)=false
      .rw[i2 _ ae];exact s2 _ ae
      .exfalso;rcases (i4 t.num).1 au with h4 | ⟨u,hu,ap,am⟩
       .exact ae h4
       .have hd:=qxh r t.num i (by omega) ⟨k,a',by omega,ab,t,ht,he,rfl⟩ (.inr ⟨i,a,Nat.le_refl _,hb,u,hu,ap,am⟩);have h8:t.num < 8:=by rw[<- h.len,<- i1];exact qze au
        rw[h.dom _ h8,hd] at ae;exact ae rfl
    .rw[if_neg he,if_neg he]
   rw[this];exact h3
theorem q81{r:Rl}{gs:List Gr}{i:Nat}{c:List By}(hl:c.length=8)(h:Ws r gs (i+1) c):Ws r gs (i+1) (qa1 r i c):=by
 obtain⟨s,s1,s2,s3⟩:=h;refine⟨s,s1,λv hv=>?_,s3⟩;rw[ql8 v hl] at hv ⊢;split at hv
 .rename_i h1;rw[if_pos h1];exact s2 v hv
 .rw[qcn] at hv;cases hv
theorem qg7(v:Nat):qg (qao.getD v eBy)=true:=by
 rw[List.getD_eq_getElem?_getD]
 cases h:qao[v]? with
 | none=>exact qcn
 | some x=>rw[List.eq_of_mem_replicate (List.mem_of_getElem? h)];exact qcn
theorem qww(r:Rl)(names:List By):Wy r names (qed r 0) qao:=
 ⟨rfl,λv _=>by rw[qg7];rfl,λv hv=>by rw[qg7] at hv;cases hv⟩
def qw1(r:Rl)(names:List By)(gs:List Gr)(i:Nat)(b:List By):Prop:=Wy r names (qed r i) b/\Ws r gs i b
theorem q80{r:Rl}{names:List By}{gs:List Gr}(hr:qex r)(hg:∀g∈gs,∀x∈g.args,qg x=false/\x∈names)(h8:names.length<=8)(he:eBy∉names):qw6 r names gs (qw1 r names gs):=by
 have a8:qg ⟨#[97]⟩=false:=by decide +kernel
 refine⟨⟨qww _ _,λ_=>⟨#[97]⟩,λ_=>a8,λv hv=>(by rw[qg7] at hv;cases hv),λk a hk=>by omega⟩,λi a g b c hb hm hp hf=>⟨λhl=>?_,λhl=>?_⟩⟩
 .have hw:=qy2 hr hg (List.mem_of_getElem? hb) hm hp.1 hf;have hs:=q6r hr hg hb hm hp.1 hp.2 hf;have h1:=quc hw hb hl;exact⟨⟨h1,q81 hw.len hs⟩,qzp hr h8 he (List.getElem?_eq_some_iff.1 hb).1 hl h1⟩
 .exact⟨qz3 (qy2 hr hg (List.mem_of_getElem? hb) hm hp.1 hf) hb hl,q6r hr hg hb hm hp.1 hp.2 hf⟩
theorem qvg{r:Rl}{names:List By}{s:Nat->By}{b:List By}(hr:qex r)(h:Wy r names (qed r r.body.length) b)(hs:Agr b s):qdt r.head b=qbz s r.head:=by
 unfold qdt qbz;congr 1;refine List.map_congr_left (λt ht=>?_);unfold qih inT;by_cases he:qg t.name=true
 .rw[if_pos he,if_pos (by exact he)];refine hs _ ?_;have hv:qdo r.head t.num:=⟨t,ht,he,rfl⟩;obtain⟨a,ha,a9⟩:=hr.safe _ hv;obtain⟨k,hk,rfl⟩:=List.mem_iff_getElem.1 ha;rw[h.dom _ ((hr.args _ zs).2 t ht),qxh r t.num _ zl ⟨k,_,hk,List.getElem?_eq_getElem hk,a9⟩ (.inl hv)];rfl
 .rw[if_neg he,if_neg (by exact he)]
theorem q2p{r:Rl}{names:List By}{gs:List Gr}{b:List By}(hr:qex r)(h:qw1 r names gs r.body.length b):∃s:Nat->By,(∀v,qg (s v)=false)/\(∀a∈r.body,qbz s a∈gs)/\qdt r.head b=qbz s r.head:=by
 obtain⟨h1,s,s1,s2,s3⟩:=h;refine⟨s,s1,λa ha=>?_,qvg hr h1 s2⟩;obtain⟨k,hk,rfl⟩:=List.mem_iff_getElem.1 ha;exact s3 k _ hk (List.getElem?_eq_getElem hk)
theorem qsb(r:Rl)(i:Nat)(names:List By)(a:Am)(hl:qds r i=false):∀(ps:List (List By×Gr)) (st:List Bool×List (List By)),(∀x∈st.2,x∈(ps.foldl (Qu r i names a) st).2)/\∀p∈ps,∀c,qcd a p.2 p.1=some c->c∈(ps.foldl (Qu r i names a) st).2
 | [],st=>⟨λx hx=>hx,λp hp=>by cases hp⟩
 | p::ps,st=>by
  rw[List.foldl_cons];obtain⟨h1,h2⟩:=qsb r i names a hl ps (Qu r i names a st p)
  have h3:∀x∈st.2,x∈(Qu r i names a st p).2:=λx hx=>by
   unfold Qu;split
   .exact hx
   .rw[if_neg (by rw[hl];decide)];exact List.mem_append_left _ hx
  refine⟨λx hx=>h1 x (h3 x hx),λp' hp c hc=>?_⟩;rcases List.mem_cons.1 hp with rfl | hp
  .refine h1 c ?_;unfold Qu;rw[hc];simp only[hl,if_false,Bool.false_eq_true];exact List.mem_append_right _ zs
  .exact h2 p' hp c hc
theorem qjt(r:Rl)(i:Nat)(names:List By)(a:Am)(hl:qds r i=true)(h8:names.length<=8)(he:eBy∉names){d:Nat->Bool}:∀(ps:List (List By×Gr)) (st:List Bool×List (List By)),(∀p∈ps,∀c,qcd a p.2 p.1=some c->Wy r names d (qa1 r i c)/\qhg names (qa1 r i c) < 4096)->st.1.length=4096->(∀k,st.1.getD k false=true->∃x∈st.2,qhg names x=k)->(∀x∈st.2,Wy r names d x)->
  (∀x∈st.2,x∈(ps.foldl (Qu r i names a) st).2)/\∀p∈ps,∀c,qcd a p.2 p.1=some c->qa1 r i c∈(ps.foldl (Qu r i names a) st).2
 | [],st,_,_,_,_=>⟨λx hx=>hx,λp hp=>by cases hp⟩
 | p::ps,st,hp,hs,hk,hw=>by
  rw[List.foldl_cons];have ak:∀p∈ps,∀c,qcd a p.2 p.1=some c->Wy r names d (qa1 r i c)/\qhg names (qa1 r i c) < 4096:=λq hq=>hp q (zt hq)
  cases hf:qcd a p.2 p.1 with
  | none=>
   have e1:Qu r i names a st p=st:=by unfold Qu;rw[hf]
   rw[e1];obtain⟨h1,h2⟩:=qjt r i names a hl h8 he ps st ak hs hk hw;refine⟨h1,λq hq c hc=>?_⟩;rcases List.mem_cons.1 hq with rfl | hq
   .rw[hf] at hc;cases hc
   .exact h2 q hq c hc
  | some c0=>
   obtain⟨av,bt⟩:=hp p zs c0 hf;by_cases ah:st.1.getD (qhg names (qa1 r i c0)) false=true
   .have e1:Qu r i names a st p=st:=by unfold Qu;rw[hf];simp only[hl,if_true];rw[if_pos ah]
    rw[e1];obtain⟨h1,h2⟩:=qjt r i names a hl h8 he ps st ak hs hk hw;refine⟨h1,λq hq c hc=>?_⟩;rcases List.mem_cons.1 hq with rfl | hq
    .rw[hf] at hc;cases hc;obtain⟨x,hx,be⟩:=hk _ ah;rw[<- Qcg h8 he (hw x hx) av be];exact h1 x hx
    .exact h2 q hq c hc
   .have e1:Qu r i names a st p=(st.1.set (qhg names (qa1 r i c0)) true,st.2++[qa1 r i c0]):=by unfold Qu;rw[hf];simp only[hl,if_true];rw[if_neg ah]
    rw[e1]
    obtain⟨h1,h2⟩:=qjt r i names a hl h8 he ps (st.1.set (qhg names (qa1 r i c0)) true,st.2++[qa1 r i c0]) ak (by simpa using hs) (λk ao=>by
     simp only[List.getD_eq_getElem?_getD,List.getElem?_set] at ao;by_cases e:qhg names (qa1 r i c0)=k
     .exact⟨_,List.mem_append_right _ zs,e⟩
     .rw[if_neg e] at ao;obtain⟨x,hx,h⟩:=hk k (by rw[List.getD_eq_getElem?_getD];exact ao)
      exact⟨x,List.mem_append_left _ hx,h⟩) (λx hx=>by
     rcases List.mem_append.1 hx with hx | hx
     .exact hw x hx
     .rw[List.mem_singleton] at hx;rw[hx];exact av)
    refine⟨λx hx=>h1 x (List.mem_append_left _ hx),λq hq c hc=>?_⟩;rcases List.mem_cons.1 hq with rfl | hq
    .rw[hf] at hc;cases hc;exact h1 _ (List.mem_append_right _ zs)
    .exact h2 q hq c hc
theorem qzi(r:Rl)(i:Nat)(names:List By)(a:Am)(D:List By->Prop):∀(ps:List (List By×Gr)) (st:List Bool×List (List By)),(∀p∈ps,∀c,qcd a p.2 p.1=some c->(qds r i=true->D (qa1 r i c))/\(qds r i=false->D c))->(∀x∈st.2,D x)->∀x∈(ps.foldl (Qu r i names a) st).2,D x
 | [],st,_,h=>h
 | p::ps,st,hp,h=>by
  rw[List.foldl_cons];refine qzi r i names a D ps _ (λq hq=>hp q (zt hq)) (λx hx=>?_);unfold Qu at hx;split at hx
  .exact h x hx
  .rename_i c hc;have h1:=hp p zs c hc;split at hx
   .rename_i hl;split at hx
    .exact h x hx
    .rcases List.mem_append.1 hx with hx | hx
     .exact h x hx
     .rw[List.mem_singleton] at hx;rw[hx];exact h1.1 hl
   .rename_i hl;rcases List.mem_append.1 hx with hx | hx
    .exact h x hx
    .rw[List.mem_singleton] at hx;rw[hx];exact h1.2 (by simpa using hl)
theorem qub{r:Rl}{gs:List Gr}(hr:qex r){s:Nat->By}(hs:∀v,qg (s v)=false)(names:List By)(hn:qa7 [] (qam gs)=names)(hg:∀g∈gs,∀x∈g.args,qg x=false/\x∈names)(h8:names.length<=8)(he:eBy∉names)(hb:∀a∈r.body,qbz s a∈gs):∃b∈qkq r gs,qdt r.head b=qbz s r.head:=by
 have key:∀i,i<=r.body.length->(∀b∈(List.range i).foldl (qcs r names gs) [qao],Wy r names (qed r i) b)/\∃b∈(List.range i).foldl (qcs r names gs) [qao],Agr b s:=by
  intro i
  induction i with
  | zero=>exact λ_=>⟨λb hb=>by rw[List.mem_singleton.1 hb];exact qww _ _,qao,zs,λv hv=>by rw[qg7] at hv;cases hv⟩
  | succ i ih=>
   intro hi;obtain⟨ay,b,ax,bk⟩:=ih (by omega);rw[List.range_succ,List.foldl_append];generalize (List.range i).foldl (qcs r names gs) [qao]=l at *;have af:r.body[i]?=some r.body[i]:=List.getElem?_eq_getElem (by omega)
   have e1:[i].foldl (qcs r names gs) l=((qb3 l gs).foldl (Qu r i names r.body[i]) (List.replicate 4096 false,[])).2:=by
    show qcs r names gs l i=_;unfold qcs;rw[af]
   rw[e1]
   have aw:∀p∈qb3 l gs,p.1∈l/\p.2∈gs:=λp hp=>by
    obtain⟨x,hx,hp⟩:=List.mem_flatMap.1 hp;obtain⟨y,hy,rfl⟩:=List.mem_map.1 hp;exact⟨hx,hy⟩
   have hw:∀p∈qb3 l gs,∀c,qcd r.body[i] p.2 p.1=some c->Wy r names (quy r i r.body[i]) c:=λp hp c hc=>qy2 hr hg (zm (by omega)) (aw p hp).2 (ay _ (aw p hp).1) hc;have bf:=ay b ax;obtain⟨c,hc,a7⟩:=qha s (r.body[i]).args b (λt ht=>by rw[bf.len];exact (hr.args _ (zt (zm (by omega)))).2 t ht) bk hs
   have aj:qcd r.body[i] (qbz s r.body[i]) b=some c:=by
    unfold qcd qbz;rw[if_pos ⟨(qhx _ _).2 rfl,by simp⟩];exact hc
   have al:(b,qbz s r.body[i])∈qb3 l gs:=List.mem_flatMap.2 ⟨b,ax,List.mem_map.2 ⟨_,hb _ (zm (by omega)),rfl⟩⟩;refine⟨qzi r i names r.body[i] (Wy r names (qed r (i+1))) _ _ (λp hp c hc=>⟨λhl=>quc (hw p hp c hc) af hl,λhl=>qz3 (hw p hp c hc) af hl⟩) (λx hx=>by cases hx),?_⟩
   cases hl:qds r i with
   | false=>exact⟨c,(qsb r i names r.body[i] hl _ _).2 _ al c aj,a7⟩
   | true=>
    have bc:=hw _ al c aj;refine⟨qa1 r i c,(qjt r i names r.body[i] hl h8 he (d:=qed r (i+1)) _ _ (λp hp c hc=>?_) List.length_replicate (λk hk=>?_) (λx hx=>by cases hx)).2 _ al c aj,λv hv=>?_⟩
    .have h1:=quc (hw p hp c hc) af hl;exact⟨h1,qzp hr h8 he (by omega) hl h1⟩
    .rw[List.getD_eq_getElem?_getD,List.getElem?_replicate] at hk;split at hk <;> cases hk
    .rw[ql8 v bc.len] at hv ⊢;split at hv
     .rename_i h1;rw[if_pos h1];exact a7 v hv
     .rw[qcn] at hv;cases hv
 obtain⟨k1,b,k2,k3⟩:=key r.body.length zl;refine⟨b,?_,qvg hr (k1 b k2) k3⟩;unfold qkq;rw[hn];exact k2
def Dv(R:List Rl)(F:List Gr)(g:Gr):Prop:=∀S:Gr->Prop,(∀x∈F,S x)->(∀r∈R,∀s:Nat->By,(∀v,qg (s v)=false)->(∀a∈r.body,S (qbz s a))->S (qbz s r.head))->S g
def q0c(r:Rl):List Am:=r.head::r.body
structure qdy(R:List Rl)(Nm:List By):Prop where
 each:∀r∈R,qex r
 n8:Nm.length<=8
 ne:eBy∉Nm
 cs:∀r∈R,∀t∈r.head.args,qg t.name=false->t.name∈Nm
 few:(R.flatMap q0c).length<=32
structure qj7(R:List Rl)(Nm:List By)(g:Gr):Prop where
 rel:∃a∈R.flatMap q0c,g.rel=a.rel/\g.args.length=a.args.length
 mem:∀x∈g.args,x∈Nm
def q6k(rel:By)(Nm:List By):Nat->List Gr
 | 0=>[⟨rel,[]⟩]
 | 1=>Nm.map (λx=>⟨rel,[x]⟩)
 | 2=>Nm.flatMap (λx=>Nm.map (λy=>⟨rel,[x,y]⟩))
 | _=>[]
def Qcc(R:List Rl)(Nm:List By):List Gr:=(R.flatMap q0c).flatMap (λa=>q6k a.rel Nm a.args.length)
theorem qlt{α β:Type}(f:α->List β)(k:Nat):∀(l:List α),(∀a∈l,(f a).length<=k)->(l.flatMap f).length<=l.length*k
 | [],_=>by simp
 | a::l,h=>by
  have h1:=qlt f k l (λx hx=>h x (zt hx));have h2:=h a zs;rw[List.flatMap_cons,List.length_append,List.length_cons,Nat.succ_mul];omega
theorem q6l(rel:By)(Nm:List By)(h:Nm.length<=8)(n:Nat):(q6k rel Nm n).length<=64:=by
 match n with
 | 0=>exact Nat.le_of_ble_eq_true rfl
 | 1=>show (Nm.map _).length<=64;rw[List.length_map];omega
 | 2=>
  have:=qlt (λx=>Nm.map (λy=>(⟨rel,[x,y]⟩:Gr))) 8 Nm (λx _=>by rw[List.length_map];exact h);have h2:Nm.length*8<=64:=by omega
  exact Nat.le_trans this h2
 | n+3=>exact zz
theorem qz1{R:List Rl}{Nm:List By}(h:qdy R Nm):(Qcc R Nm).length<=2048:=by
 have h1:=qlt (λa=>q6k a.rel Nm a.args.length) 64 (R.flatMap q0c) (λa _=>q6l _ _ h.n8 _);have h2:=h.few;unfold Qcc;omega
theorem q43{R:List Rl}{Nm:List By}(h:qdy R Nm){g:Gr}(hg:qj7 R Nm g):g∈Qcc R Nm:=by
 obtain⟨⟨a,ha,h1,h2⟩,h3⟩:=hg;refine List.mem_flatMap.2 ⟨a,ha,?_⟩
 have h4:a.args.length<=2:=by
  obtain⟨r,hr,bq⟩:=List.mem_flatMap.1 ha;exact ((h.each r hr).args a bq).1
 obtain⟨gr,ga⟩:=g;simp only at h1 h2 h3;rw[<- h1,<- h2]
 match ga,h2,h3 with
 | [],_,_=>exact zs
 | [x],_,h3=>exact List.mem_map.2 ⟨x,h3 x zs,rfl⟩
 | [x,y],_,h3=>exact List.mem_flatMap.2 ⟨x,h3 x zs,List.mem_map.2 ⟨y,h3 y (zt zs),rfl⟩⟩
 | _::_::_::_,h2,_=>simp only[List.length_cons] at h2;omega
theorem qlq{α:Type}:∀(l L:List α),l.Nodup->(∀x∈l,x∈L)->l.length<=L.length
 | [],L,_,_=>zz
 | a::l,L,hn,hs=>by
  have aa:=List.nodup_cons.1 hn;obtain⟨L1,L2,e⟩:=List.append_of_mem (hs a zs)
  have h1:=qlq l (L1++L2) aa.2 (λx hx=>by
   have:=hs x (zt hx);rw[e] at this;rcases List.mem_append.1 this with h | h
   .exact List.mem_append_left _ h
   .rcases List.mem_cons.1 h with h | h
    .exact absurd (h ▸ hx) aa.1
    .exact List.mem_append_right _ h)
  rw[e];simp only[List.length_append,List.length_cons] at h1 ⊢;omega
theorem q15(vs:List By)(x y:By):y∈Qh vs x↔y∈vs\/y=x:=by
 unfold Qh;split
 .rename_i h;have:=qe4.1 h;exact⟨.inl,λh=>h.elim id (λe=>by rw[e];exact this)⟩
 .rw[List.mem_append,List.mem_singleton]
theorem qip:∀(l vs:List By) (y:By),y∈qa7 vs l↔y∈vs\/y∈l
 | [],vs,y=>by simp[qa7]
 | x::l,vs,y=>by
  have:=qip l (Qh vs x) y;unfold qa7 at this ⊢;rw[List.foldl_cons,this,q15,List.mem_cons,or_assoc]
theorem qo3:∀(l vs:List By),vs.Nodup->(qa7 vs l).Nodup
 | [],vs,h=>h
 | x::l,vs,h=>by
  unfold qa7;rw[List.foldl_cons];refine qo3 l (Qh vs x) ?_;unfold Qh;split
  .exact h
  .rename_i hx;rw[List.nodup_append];refine⟨h,by simp,λa ha b hb e=>?_⟩;rw[List.mem_singleton] at hb;exact hx (qe4.2 (by rw[<- hb,<- e];exact ha))
theorem qux{l:List By}(h:l.Nodup):qii l:=λi j hi hj e=>by
 have hp:=List.pairwise_iff_getElem.1 (List.nodup_iff_pairwise_ne.1 h);rcases Nat.lt_trichotomy i j with hl | hl | hl
 .exact absurd e (hp i j hi hj hl)
 .exact hl
 .exact absurd e.symm (hp j i hj hi hl)
section
variable {R:List Rl} {Nm:List By} {F hs:List Gr}
theorem qp6(hR:qdy R Nm)(h:∀g∈hs,qj7 R Nm g):(qa7 [] (qam hs)).length<=8/\qii (qa7 [] (qam hs))/\eBy∉qa7 [] (qam hs)/\∀g∈hs,∀x∈g.args,qg x=false/\x∈qa7 [] (qam hs):=by
 have h1:∀y∈qa7 [] (qam hs),y∈Nm:=λy hy=>by
  rcases (qip _ _ _).1 hy with hy | hy
  .cases hy
  .obtain⟨g,hg,hy⟩:=List.mem_flatMap.1 hy;exact (h g hg).mem y hy
 have hn:(qa7 [] (qam hs)).Nodup:=qo3 _ _ List.nodup_nil;refine⟨Nat.le_trans (qlq _ _ hn h1) hR.n8,qux hn,λhe=>hR.ne (h1 _ he),λg hg x hx=>⟨?_,(qip _ _ _).2 (.inr (List.mem_flatMap.2 ⟨g,hg,hx⟩))⟩⟩
 cases he:qg x with
 | false=>rfl
 | true=>exact absurd (by rw[<- (qbo x).1 he];exact (h g hg).mem x hx) hR.ne
structure LsI(R:List Rl)(F:List Gr)(Nm:List By)(hs:List Gr):Prop where
 nodup:hs.Nodup
 ok:∀g∈hs,qj7 R Nm g
 der:∀g∈hs,Dv R F g
theorem LsI.few(hR:qdy R Nm)(h:LsI R F Nm hs):hs.length<=2048:=Nat.le_trans (qlq _ _ h.nodup (λg hg=>q43 hR (h.ok g hg))) (qz1 hR)
theorem LsI.add(h:LsI R F Nm hs){g:Gr}(hg:g∉hs)(h1:qj7 R Nm g)(h2:Dv R F g):LsI R F Nm (hs++[g]):=by
 refine⟨?_,λx hx=>?_,λx hx=>?_⟩
 .rw[List.nodup_append];refine⟨h.nodup,by simp,λa ha b hb e=>?_⟩;rw[List.mem_singleton] at hb;exact hg (by rw[<- hb,<- e];exact ha)
 .rcases List.mem_append.1 hx with hx | hx
  .exact h.ok x hx
  .rw[List.mem_singleton] at hx;rw[hx];exact h1
 .rcases List.mem_append.1 hx with hx | hx
  .exact h.der x hx
  .rw[List.mem_singleton] at hx;rw[hx];exact h2
theorem q70(hR:qdy R Nm)(h:∀g∈hs,qj7 R Nm g){r:Rl}(hr:r∈R){s:Nat->By}(hb:∀a∈r.body,qbz s a∈hs):qj7 R Nm (qbz s r.head):=by
 refine⟨⟨r.head,List.mem_flatMap.2 ⟨r,hr,zs⟩,rfl,by simp[qbz]⟩,λx hx=>?_⟩;obtain⟨t,ht,rfl⟩:=List.mem_map.1 hx;unfold inT;by_cases he:qg t.name=true
 .rw[if_pos he];obtain⟨a,ha,u,hu,ap,am⟩:=(hR.each r hr).safe t.num ⟨t,ht,he,rfl⟩;refine (h _ (hb a ha)).mem _ (List.mem_map.2 ⟨u,hu,?_⟩);unfold inT;rw[if_pos ap,am]
 .rw[if_neg he];exact hR.cs r hr t ht (by simpa using he)
theorem LsI.way(hR:qdy R Nm)(h:LsI R F Nm hs){r:Rl}(hr:r∈R){names:List By}{b:List By}(hp:qw1 r names hs r.body.length b):qj7 R Nm (qdt r.head b)/\Dv R F (qdt r.head b):=by
 obtain⟨s,s1,s2,s3⟩:=q2p (hR.each r hr) hp;rw[s3];exact⟨q70 hR h.ok hr s2,λS x1 x2=>x2 r hr s s1 (λa ha=>h.der _ (s2 a ha) S x1 x2)⟩
theorem LsI.inv(hR:qdy R Nm)(h:LsI R F Nm hs){r:Rl}(hr:r∈R):qw6 r (qa7 [] (qam hs)) hs (qw1 r (qa7 [] (qam hs)) hs):=by
 obtain⟨n1,n2,n3,n4⟩:=qp6 hR h.ok;exact q80 (hR.each r hr) n4 n1 n3
theorem LsI.done(hR:qdy R Nm)(h:LsI R F Nm hs)(hF:∀f∈F,f∈hs)(hc:∀r∈R,∀b∈qkq r hs,qdt r.head b∈hs)(g:Gr):g∈hs↔Dv R F g:=by
 refine⟨h.der g,λhd=>hd (λg=>g∈hs) hF (λr hr s bo hb=>?_)⟩;obtain⟨n1,n2,n3,n4⟩:=qp6 hR h.ok;obtain⟨b,bh,bi⟩:=qub (hR.each r hr) bo _ rfl n4 n1 n3 hb;rw[<- bi];exact hc r hr b bh
theorem LsI.start:LsI R F Nm []:=⟨List.nodup_nil,λg hg=>(by cases hg),λg hg=>(by cases hg)⟩
theorem LsI.fact(h:LsI R F Nm hs){f:Gr}(hf:f∈F)(hn:f∉hs)(ho:qj7 R Nm f):LsI R F Nm (hs++[f]):=h.add hn ho (λS x1 _=>x1 f hf)
end
