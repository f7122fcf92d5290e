/- A part -/
import Derived.Test.YtjajnhemgphefaaGreatDoorJWyI
import Derived.Test.YtjajnhemgphefaaGreatDoorJWyM
import Derived.Test.YtjajnhemgphefaaGreatDoorJWyN
set_option linter.all false
set_option maxRecDepth 100000
set_option maxHeartbeats 2000000
open List renaming length->aB,mem_flatMap->aX,mem_cons->aY,map_map->aZ,filter_map->bB,mem_append->bC,flatMap_cons->bE,any_eq_true->bG,not_mem_nil->bH,map_append->bI,any_map->bJ,mem_map->bL,range->bO
open Go.Value renaming slice->aH,bool->aK,tuple->aL,int->aM
open Go.Ending renaming returned->aO
open Go.IntKind renaming i64->aP
open Or renaming inl->aQ,inr->aR
open Option renaming some->aV,none->aW
open Go.Calls renaming mono->bD
open Nat renaming le_refl->bF
namespace Go.Proofs.YtjajnhemgphefaaGreatDoor
open Go renaming World->Wq,Value->Vq
open Go.RowKit Go.Shelf
variable {fs:List Fk} {e:Eg} {y:Er} {win m:Int}
theorem yb(x:ByteArray):∀(l:List Am),fU l x=(fB l x.data.toList).getD 0
 |[]=>rfl
 |a::l=>by
  rw[BZ];unfold fU;rw[wj];by_cases h:(a.rel.data.toList == x.data.toList)=true;{grind};{rw[if_neg h,if_neg h];exact yb x l}
theorem tC(rs:List Rl)(x:ByteArray):fU (dM rs) x=dH rs x:=yb x _
theorem Hx(rs:List Rl)(x:ByteArray):mh rs x=(!lu rs x && decide (0<dH rs x)):=by unfold mh;rw[tC];rfl
theorem Dw(a:Am):lX a=if iG a=true then aV ⟨a.rel,a.args.map (·.name)⟩ else none:=by
 unfold lX iG;show (if a.args.any lN=true then _ else _)=_
 cases a.args.any lN<;>rfl
theorem JL{a:Am}(h:iG a=true)(d:aB a.args=1\/aB a.args=2):dR (qb Qs a)=⟨a.rel,a.args.map (·.name)⟩:=by
 have z:=rK h;have⟨rel,args⟩:=a;simp only at z d;rcases d with d|d
 .match args,d with
  |[t],_=>grind [dR,qb,fM,fK,mi,kH]
 .match args,d with
  |[t,u],_=>have A:=z t (by simp);have d:=z u (by simp);unfold dR qb fM fK;simp only[List.map_cons,List.map_nil,mi A,mi d];rw[if_neg (by intro h;exact d ((iz _).1 h))]
theorem Ga{l:List Tm}(A:∀t∈l,t.name≠eB):∀(d:List ByteArray),dG d l=dP d (l.map (·.name)):=by
 induction l with
 |nil=>intro d;rfl
 |cons t l ih=>
  intro d;have z:gI d t=Qq d t.name:=by{grind [gI,iz]};show dG (gI d t) l=dP (Qq d t.name) (l.map (·.name));rw[z];exact ih (λu C=>A u (zt C)) _
abbrev Dk:=Gd×Int×Bool
structure ic(e:Eg)(y:Er)(ds:List Dk):Prop where
 rs:e.rs=y.rs
 win:e.win=y.win
 lat:e.lat=y.lat
 que:e.que=y.que
 mark:e.mark=y.mark
 clk:y.clock-y.lat<=y.mark/\0<=y.clock/\y.clock<=1000000
 names:e.names=y.names
 ne:eB∉y.names
 kept:e.kept=ds.map (λd=>(d.1,d.2.1))
 facts:kK ds y.facts
 least:ia e.rs (mw e.win ds++Qx e.rs) e.M
 beg:∀d∈ds,d.2.2=true->e.mark<d.2.1+e.win
 nodup:y.state.Nodup
 sok:∀g∈y.state,ja y.rs y.names g
 state:∀g,g∈y.state↔Dv y.rs (lr y.win y.facts y.mark) g
theorem ER{ds:List Dk}(hs:kK ds fs)(g:Gd)(t:Int):lg (ds.map (λd=>(d.1,d.2.1))) (g,t)=fs.any (λf=>jt f.1 (dR g) && decide (f.2.1=t)):=by
 unfold kK at hs;subst hs;unfold lg;rw[bJ,bJ,Bool.eq_iff_iff,bG,bG];simp only[Function.comp_apply,He,Bool.and_eq_true,AO,decide_eq_true_eq,Prod.mk.injEq];constructor
 .grind
 .grind [rP]
theorem Fi(z:dV e){a:Am}(A:iH e.rs a=0):aB a.args=1\/aB a.args=2:=by have⟨h1,h2⟩:=xV A;have d:=tI h1;unfold gF at d;have⟨b,hb,hr⟩:=bL.1 d;have:=z.rs.arity b hb;rw[hr] at this;omega
theorem Jl{ds:List Dk}(h:ic e y ds)(G:dV e)(s:ByteArray)(t:Int):(iM e s t).1=(iv y s t).1/\∃ay,ic (iM e s t).2 (iv y s t).2 ay:=by
 have⟨rs,win,lat,que,mark,names,kept,M,fds⟩:=e;have⟨aa,ad,ca,b7,clock,ae,facts,ac,state,feeds⟩:=y;obtain rfl:aa=rs:=h.rs.symm;obtain rfl:ad=win:=h.win.symm;obtain rfl:ae=mark:=h.mark.symm;obtain rfl:ac=names:=h.names.symm;unfold iM iv;rw[yX]
 cases ha:iX s with
 |none=>exact⟨rfl,ds,h⟩
 |some a=>
  simp only[Dw]
  cases hg:iG a with
  |false=>exact⟨rfl,ds,h⟩
  |true=>
   simp only[if_pos trivial,Bool.true_eq_false,if_false,Hx,tC]
   cases hd:lu aa a.rel with
   |true=>simp only[Bool.not_true,Bool.false_and,if_true];exact⟨trivial,ds,h⟩
   |false=>
    simp only[Bool.not_false,Bool.true_and,Bool.false_eq_true,if_false];by_cases h0:dH aa a.rel=0;{grind [iH]}
    .rw[if_neg (c:=decide (0<dH aa a.rel)=false) (by simp;omega)];by_cases z:dH aa a.rel=aB a.args
     .have hc:iH aa a=0:=by{unfold iH;rw[if_neg h0,if_pos z]};rw[hc];simp only[ne_eq,not_true_eq_false,if_false,z];by_cases ht:0<=t/\t<=1000000
      .rw[if_neg (by simpa using ht),if_neg (by simpa using ht)];have E:=Fi G hc;have O:=JL hg E;have az:=Ga (rK hg) ac;unfold lK eZ;by_cases ho:t+ad<=ae;{grind}
       .rw[if_neg (by simpa using ho),if_neg ho];have hh:=ER h.facts (qb Qs a) t;rw[O,<-h.kept] at hh;rw[<-hh];by_cases A:lg kept (qb Qs a,t)=true;{grind}
        .rw[if_neg A,if_neg A];have hl:aB facts=aB kept:=by{have z:kept=_:=h.kept;have E:facts=_:=h.facts;rw[z,E];simp};have cq:aB kept<=24:=G.k24;rw[az,hl];by_cases hf:aB kept=24\/8<aB (dP ac (a.args.map (·.name)));{grind}
         .rw[if_neg hf,if_neg (by omega)];refine⟨rfl,ds++[(qb Qs a,t,false)],⟨h.rs,h.win,h.lat,h.que,h.mark,h.clk,rfl,?_,?_,?_,?_,?_,h.nodup,?_,?_⟩⟩
          .show eB∉dP ac (a.args.map (·.name));intro C;rcases (rj _ _ _).1 C with C|C
           .exact h.ne C
           .grind [rK]
          .show kept++_=_;rw[bI,<-h.kept];rfl
          .show kK _ (facts++_);have Z:=h.facts;unfold kK at Z ⊢;rw[bI,<-Z];simp[O]
          .show ia aa (mw ad (ds++_)++Qx aa) M;have:mw ad (ds++[(qb Qs a,t,false)])=mw ad ds:=by{unfold mw;simp};rw[this];exact h.least
          .intro d hd A;rcases bC.1 hd with hd|hd
           .exact h.beg d hd A
           .grind
          .intro g b0;have:=h.sok g b0;exact⟨this.rel,λx hx=>(rj _ _ _).2 (aQ (this.mem x hx))⟩
          .intro g;have:lr ad (facts++[((⟨a.rel,a.args.map (·.name)⟩:Gr),t,false)]) ae=lr ad facts ae:=by{unfold lr;simp};show g∈state↔Dv aa (lr ad (facts++_) ae) g;rw[this];exact h.state g
      .grind
     .grind [iH]
def jJ(win m:Int)(fs:List Fk):List Fk:=(fs.filter (λf=>!decide (f.2.1+win<=m))).map (λf=>(f.1,f.2.1,decide (f.2.1<=m)))
def pA(win m:Int)(fs:List Fk):List Gr:=((jJ win m fs).filter (λf=>f.2.2)).map (·.1)
def iU(st:List Gr)(rel:ByteArray):List ByteArray:=jy [] ((st.filter (λg=>g.rel.toList == rel.toList)).map j8)
def my(an now:List Gr)(rel:ByteArray)(m:Int):List Rc:=Q1 3 (iU an rel) (iU now rel)++Q1 2 (iU now rel) (iU an rel)++[⟨4,0,⟨#[]⟩,m⟩]
def iZ(que m:Int)(an now:List Gr)(f:Fr):Fr:=
 if f.behind=true then f
 else if que<((aB f.que+aB (my an now f.rel m):Nat):Int) then {f with behind:=true,que:=[],snap:=[]}
 else {f with que:=f.que++my an now f.rel m}
def gp(y:Er)(c:Int):Int:=if y.clock<c then c else y.clock
def mU(y:Er)(c:Int)(y':Er)(r:Int×Int):Prop:=
 (¬(0<=c/\c<=1000000)/\y'=y/\r=(0,6))\/
 ((0<=c/\c<=1000000)/\((gp y c-y.lat<=y.mark/\y'={y with clock:=gp y c}/\r=(y.mark,0))\/
  (y.mark<gp y c-y.lat/\r=(gp y c-y.lat,0)/\∃st,nE y.rs (pA y.win (gp y c-y.lat) y.facts) y.names st/\
   y'={y with clock:=gp y c,mark:=gp y c-y.lat,facts:=jJ y.win (gp y c-y.lat) y.facts,state:=st,feeds:=y.feeds.map (iZ y.que (gp y c-y.lat) y.state st)})))
def mY(win m:Int)(ds:List Dk):List Dk:=(ds.filter (λd=>!decide (d.2.1+win<=m))).map (λd=>(d.1,d.2.1,decide (d.2.1<=m)))
theorem GR{ds:List Dk}(h:kK ds fs):kK (mY win m ds) (jJ win m fs):=by unfold kK at h ⊢;subst h;unfold jJ mY;rw[bB,aZ,aZ];rfl
theorem FU(ds:List Dk):∀d∈mY win m ds,m<d.2.1+win:=by grind [mY]
theorem Be(ds:List Dk):(ds.map (λd=>(d.1,d.2.1))).filter (λd=>!eZ win m d.2)=(mY win m ds).map (λd=>(d.1,d.2.1)):=by unfold mY eZ;rw[bB,aZ];rfl
theorem Db{ds:List Dk}(z:e.kept=ds.map (λd=>(d.1,d.2.1)))(m:Int):mQ e m=mw e.win (mY e.win m ds):=by unfold mQ mw;rw[z,Be];unfold mY;rw[aZ,bB,aZ,bB,aZ];rfl
theorem Do(fs:List Fk):pA win m fs=lr win (jJ win m fs) m:=by unfold pA lr;congr 1;apply List.filter_congr;intro f d;unfold jJ at d;obtain⟨z,h0,rfl⟩:=bL.1 d;have:=(List.mem_filter.1 h0).2;simp at this;simp[this]
theorem xG{e':Eg}{y':Er}{ds:List Dk}(h:ic e y ds)(ag:dV e){c:Int}{r r':Int×Int}(G:oF e c e' r)(z:mU y c y' r'):r=r'/\∃ay,ic e' y' ay:=by
 have ct:=h.clk;have C:=h.lat;have b8:=h.mark;rcases G with⟨hc,rfl,rfl⟩|⟨hc,Z,G⟩
 .rcases z with⟨_,rfl,rfl⟩|⟨b6,_⟩
  .grind
  .grind
 .rcases z with⟨b6,_⟩|⟨_,z⟩
  .grind
  .have Qhw:gp y c-y.lat<=y.mark↔c-e.lat<=e.mark:=by unfold gp;split<;>omega
   rcases G with⟨cg,rfl⟩|⟨ck,hm⟩
   .rcases z with⟨M,rfl,rfl⟩|⟨bu,_⟩
    .refine⟨by rw[Z,b8],ds,⟨h.rs,h.win,h.lat,h.que,h.mark,?_,h.names,h.ne,h.kept,h.facts,h.least,h.beg,h.nodup,h.sok,h.state⟩⟩;refine⟨M,?_⟩;show 0<=gp y c/\gp y c<=1000000;unfold gp;split<;>omega
    .grind
   .rcases z with⟨M,_⟩|⟨bu,rfl,st,E,rfl⟩
    .grind
    .have A:gp y c=c:=by{unfold gp;split<;>omega};obtain⟨M',bq,O,hl,cu,rfl⟩:=hm;rw[Db h.kept] at O;have cn:c-e.lat<=1000000:=by{have:=ag.lat;omega};refine⟨by rw[Z,A,C],mY e.win (c-e.lat) ds,⟨h.rs,h.win,h.lat,h.que,by show c-e.lat=gp y c-y.lat;rw[A,C],?_,h.names,h.ne,?_,?_,O,λd hd _=>FU ds d hd,E.1.nodup,E.1.ok,?_⟩⟩;{grind};{show e.kept.filter _=_;rw[h.kept,Be]};{show kK _ (jJ y.win (gp y c-y.lat) y.facts);rw[A,<-h.win,<-C];exact GR h.facts};{intro g;show g∈st↔Dv y.rs (lr y.win (jJ y.win (gp y c-y.lat) y.facts) (gp y c-y.lat)) g;rw[<-Do];exact E.2 g}
structure nw(L:List Tm)(n m:Nat):Prop where
 le:n<=m
 lt:∀t∈L,t.num<m\/t.num=0
 all:∀v,n<=v->v<m->∃t∈L,t.name=eB/\t.num=v
theorem nw.app{L A:List Tm}{n m k:Nat}(h:nw L n m)(z:nw A m k):nw (L++A) n k:=by
 refine⟨Nat.le_trans h.le z.le,λt d=>?_,λv C E=>?_⟩
 .have:=z.le;rcases bC.1 d with d|d
  .rcases h.lt t d with h|h
   .left;omega
   .exact aR h
  .exact z.lt t d
 .by_cases G:v<m;{have⟨t,d,h3⟩:=h.all v C G;exact⟨t,List.mem_append_left _ d,h3⟩};{have⟨t,d,h3⟩:=z.all v (by omega) E;exact⟨t,List.mem_append_right _ d,h3⟩}
theorem Ag(d:List ByteArray)(t:RT):nw [ij d t] (aB d) (aB (iL d t)):=by
 unfold ij iL;by_cases h:t.kind=2
 .rw[if_pos h,if_pos h];unfold Qq;by_cases hs:dS d t.text<aB d;{rw[if_pos hs];exact⟨bF _,λu z=>by simp only[aY,bH,or_false] at z;subst z;exact aQ hs,λv A C=>by omega⟩}
  .rw[if_neg hs];have E:dS d t.text<=aB d:=List.findIdx_le_length;refine⟨by simp,λu z=>?_,λv A C=>⟨_,zs,rfl,?_⟩⟩;{grind};{grind}
 .rw[if_neg h,if_neg h];exact⟨bF _,λu z=>by simp only[aY,bH,or_false] at z;subst z;exact aR rfl,λv A C=>by omega⟩
theorem w8:∀(us:List RT) (d:List ByteArray) (L:List Tm) (z:List ByteArray) (n:Nat),eH d us=aV (L,z,n)->nw L (aB d) (aB z)/\1<=aB L
 |[],d,L,z,n,h=>by simp[eH] at h
 |[a],d,L,z,n,h=>by simp[eH] at h
 |a::b::us,d,L,z,n,h=>by
  unfold eH at h;split at h;{grind [Ag]}
  .split at h;{rename_i l C k A;simp only[Option.some.injEq,Prod.mk.injEq] at h;obtain⟨rfl,rfl,_⟩:=h;exact⟨(Ag d a).app (w8 us _ _ _ _ A).1,by simp⟩};{cases h}
theorem Bc:∀(n f:Nat) (us:List RT) (z:List ByteArray) (d:List Am) (m:Nat),aB us<=n->jq f z us=aV (d,m)->(∃k,nw (d.flatMap (·.args)) (aB z) k)/\∀a∈d,1<=aB a.args
 |n,f,us,z,d,m,hn,h=>by
  obtain⟨t,Z,rfl,⟨_,rfl,_⟩|⟨_,r,p,A,l,G,k,f',M,O,rfl,C,E,rfl,_⟩⟩:=vA h;{exact⟨⟨aB z,⟨bF _,λ_ h=>by simp at h,λv C E=>by omega⟩⟩,λ_ h=>by cases h⟩}
  .cases n with
   |zero=>simp at hn
   |succ n=>
    have⟨⟨q,ih⟩,cr⟩:=Bc n f' (A.drop k) G M O (by simp at hn ⊢;omega) E;have⟨a1,a2⟩:=w8 A _ _ _ _ C;refine⟨⟨q,?_⟩,λa ha=>?_⟩;{rw[bE];exact a1.app ih};{grind}
theorem Bz:∀(n f:Nat) (us:List RT) (rs:List Rl),aB us<=n->ju f us=aV rs->∀r∈rs,(∃k,nw (Q4 r) 0 k)/\∀a∈qz r,1<=aB a.args
 |n,f,us,rs,hn,h=>by
  obtain⟨t,Z,rfl,⟨_,rfl⟩|⟨_,p,A,l,vs,k,O,m,f',aa,rfl,C,E,G,rfl⟩⟩:=uy h;{grind}
  .cases n with
   |zero=>simp at hn
   |succ n=>
    have M:=Bz n f' ((A.drop k).drop (m+1)) aa (by simp at hn ⊢;omega) G;intro r z;rcases aY.1 z with rfl|z
    .have⟨a1,a2⟩:=w8 A _ _ _ _ C;have⟨⟨q,b1⟩,b2⟩:=Bc _ _ _ _ _ _ zl E;refine⟨⟨q,a1.app b1⟩,λa d=>?_⟩;rcases aY.1 d with rfl|d
     .exact a2
     .exact b2 a d
    .exact M r z
theorem vK{p:Rl->Bool}:∀{rs:List Rl} {i:Nat},gL p rs i=aW->∀r∈rs,p r=false
 |[],_,_,r,d=>by cases d
 |r0::rs,i,h,r,d=>by
  unfold gL at h;split at h;{cases h}
  .rename_i z;rcases aY.1 d with rfl|d
   .grind
   .exact vK h r d
theorem xO:∀ {rs:List Rl} {d:List ByteArray} {i:Nat},aB d<=8->jE d rs i=aW->∀k,aB (gw d (rs.take k))<=8
 |[],d,i,h8,_,k=>by grind [gw]
 |r::rs,d,i,h8,h,k=>by
  cases k with
  |zero=>simpa [gw] using h8
  |succ k=>
   unfold jE at h;split at h;{cases h};{rename_i z;exact xO (rs:=rs) (by omega) h k}
theorem zP:∀(rs:List Rl) (d:List ByteArray),gw d rs=dG d (Q0 (dM rs))
 |[],d=>rfl
 |r::rs,d=>by have z:=zP rs (dG d (Q4 r));show gw (dG d (Q4 r)) rs=_;rw[z,<-A9];congr 1;show _=(qz r++dM rs).flatMap (·.args);rw[List.flatMap_append];rfl
structure tO(s:ByteArray)(rs:List Rl):Prop where
 new:tQ s rs
 two:mH (dH rs) rs
 fine:∀Nm:List ByteArray,aB Nm<=8->dK∉Nm->(∀x∈gw [] rs,x∈Nm)->jM rs Nm
 ne:eB∉gw [] rs
 names:gw [] rs=dG [] (Q0 (dM rs))
theorem vt:∀(rs:List Rl),(∀r∈rs,aB r.body<=3)->aB (rs.flatMap pI)<=aB rs*4
 |[],_=>by simp
 |r::rs,h=>by have z:=h r zs;have A:=vt rs (λx d=>h x (zt d));rw[bE,List.length_append,List.length_cons];have:aB (pI r)=aB r.body+1:=rfl;omega
theorem uH(s:ByteArray)(rs:List Rl)(h:gv s=.ok rs):tO s rs:=by
 have b9:=CI s rs h;have h':=h;unfold gv at h;split at h
 .cases h
 rename_i hL;split at h
 .cases h
 rename_i ho;split at h
 .cases h
 rename_i aa hr;split at h
 .cases h
 rename_i co;injection h with h;subst h;have Qmp:(ii aa).1=0:=by grind
 have⟨cl,q1,q2,q3⟩:=tf (aB (Q3 s)+1) (Q3 s) (fA false) (by omega) rfl rfl rfl (sj s) (by simpa [jG] using ho) (by decide);rw[hr] at q1;injection q1 with q1;subst q1;have h8:aB aa<=8:=by grind
 have M:=Bz _ _ _ _ zl hr;have hA:∀r∈aa,lj (dM aa) r=false:=by grind [ii,vK]
 have hB:∀r∈aa,jU r=false:=by grind [ii,vK]
 have hC:jE [] aa 0=none:=by grind [ii]
 have bc:∀a∈aa.flatMap qz,aB a.args=dH aa a.rel:=by grind [lj,lf,tC,fU,dM]
 have Qid:∀r∈aa,∀t∈r.head.args,t.name=eB->∃a∈r.body,∃u∈a.args,u.name=eB/\u.num=t.num:=by grind [jU,nN,iz,Qd,jk]
 have bh:∀a∈aa.flatMap qz,1<=aB a.args/\aB a.args<=2:=by
  intro a d;have⟨r,ab,A⟩:=aX.1 d;refine⟨(M r ab).2 a A,?_⟩;have:=q3 r ab;rcases aY.1 A with rfl|A
  .exact this.head.1
  .exact (this.body a A).1
 have Z:∀r∈aa,∀t∈Q4 r,t.num<6:=by
  intro r ab t z;have⟨⟨k,hk⟩,_⟩:=M r ab
  have hb:k<=6:=by
   have bi:∀v∈bO k,v∈(r.body.flatMap (·.args)).map (·.num):=by
    intro v hv;rw[List.mem_range] at hv;have⟨u,O,C,E⟩:=hk.all v zz hv;unfold Q4 at O;rcases bC.1 O with O|O
    .grind
    .grind
   have ax:=rq (bO k) _ List.nodup_range bi;rw[List.length_range,List.length_map] at ax;have:=ti (λa:Am=>a.args) 2 r.body (λa d=>((q3 r ab).body a d).1);have:=(q3 r ab).few;omega
  rcases hk.lt t z with h|h<;>omega
 have aq:∀a∈aa.flatMap qz,∀t∈a.args,t.num<6:=by
  intro a d t z;have⟨r,ab,A⟩:=aX.1 d;refine Z r ab t ?_;unfold Q4;rcases aY.1 A with rfl|A
  .grind
  .grind
 have G:∀r∈aa,iS r:=by
  intro r ab;have C:=b9 r ab;have E:=q3 r ab;refine⟨⟨C.1.1,E.head.1,λt z=>⟨C.1.2 t z,?_⟩⟩,E.few,λa d=>⟨(C.2 a d).1,(E.body a d).1,λt z=>⟨(C.2 a d).2 t z,?_⟩⟩⟩;{have:=aq r.head (aX.2 ⟨r,ab,zs⟩) t z;omega};{have:=aq a (aX.2 ⟨r,ab,List.mem_cons_of_mem _ d⟩) t z;omega}
 have az:=zP aa [];have bk:∀y,y∈gw [] aa↔∃t∈Q0 (dM aa),t.name≠eB/\y=t.name:=by grind [rY]
 have bv:∀r∈aa,∀t∈r.head.args,t.name≠eB->t.name∈gw [] aa:=λr ab t z bn=>(bk _).2 ⟨t,aX.2 ⟨r.head,aX.2 ⟨r,ab,zs⟩,z⟩,bn,rfl⟩;have ag:jv aa:=⟨h8,G,λa d=>⟨bc a d,by have:=bh a d;omega⟩,aq,Qid⟩;have ch:s.size<=1200:=by grind [mG,m8]
 have ce:=yD s (by omega) ch;rw[h'] at ce;have cb:jA s=.ok aa:=by grind
 have Qey:∀(a:Am) (v:Nat),iu a v↔∃t∈a.args,t.name=eB/\t.num=v:=by
  intro a v;unfold iu;constructor;{rintro⟨t,C,E,h3⟩;exact⟨t,C,(iz _).1 E,h3⟩};{rintro⟨t,C,E,h3⟩;exact⟨t,C,(iz _).2 E,h3⟩}
 have bb:∀r∈aa,∀v,iu r.head v->∃a∈r.body,iu a v:=by grind
 refine⟨⟨cb,?_,ag,xO (by simp) hC,bv,?_⟩,⟨λr ab a d=>?_,bb⟩,λNm n8 ne bi=>⟨λr ab=>⟨(q3 r ab).few,λa d=>?_,bb r ab⟩,n8,ne,λr ab t z he=>?_,?_⟩,?_,az⟩
 .grind [lp,m8,yQ]
 .intro x hx;obtain⟨t,z,_,rfl⟩:=(bk x).1 hx;have⟨a,d,be⟩:=aX.1 z;have⟨r,ab,A⟩:=aX.1 d;rcases aY.1 A with rfl|A
  .exact ((G r ab).head.tms t be).name
  .exact (((G r ab).ams a A).tms t be).name
 .have hm:a∈aa.flatMap qz:=aX.2 ⟨r,ab,d⟩;exact⟨⟨by have:=bh a hm;omega,aq a hm⟩,bc a hm⟩
 .grind [qz]
 .grind [qi,eB,kH]
 .have:=vt aa (λr ab=>(q3 r ab).few);omega
 .grind
theorem BP{s:ByteArray}{c:Int}{p:Nat}(d:gv s=.error (c,p)):(lp s).2.1=c:=by grind [lp,m8,R,gv,mG,yD,jA,yQ]
def iY(win lat que:Int):Prop:=(1<=win/\win<=1000)/\(0<=lat/\lat<=1000)/\1<=que/\que<=50
def mq(s:ByteArray)(win lat que:Int)(w:Wq)(e:Ending)(w':Wq):Prop:=
 match gv s with
 |.error (c,_)=>e=aO (aL #[.pointer aW,aM aP c])/\Below w.heap.size w w'
 |.ok rs=>(iY win lat que/\rp rs win lat que w e w')\/(¬iY win lat que/\e=aO (aL #[.pointer aW,aM aP 6])/\Below w.heap.size w w')
theorem Ji(s:ByteArray)(win d que:Int)(w:Wq)(hs:s.size<=1048576)(hT:Lib.Utf8Tabs 0 1 w):Cs 39 #[St s,Ii win,Ii d,Ii que] w (mq s win d que w):=by
 have au:Hid _:=Cc s w (by omega) hT
 cases hp:gv s with
 |error cp=>
  have⟨c,p⟩:=cp;have a9:c≠0:=tH s c p hp;have Z:mq s win d que w=λe w'=>e=aO (aL #[.pointer aW,Ii c])/\Below w.heap.size w w':=by{funext e w';unfold mq;rw[hp]};rw[Z];have al:(lp s).2.1=c:=BP hp
  have ak:Hid (Cs 30 #[St s] w λe w'=>∃(p:Int),e=aO (aL #[aH aW 0 0,Ii c,Ii p])/\Below w.heap.size w w'):=by
   refine bD au.o ?_;rintro e w' ⟨hb,⟨c',p',O,z,G⟩|⟨aa,v,cc,b3,O,hR,_,_,G,_,_⟩⟩;{rw[G] at al;obtain rfl:c'=c:=al;exact⟨p',O,hb⟩};{rw[G] at al;exact absurd al.symm a9}
  have cj:(c == 0)=false:=by{simpa using a9};clear au Z hT hp al;go_enter Tryz.func39,Tryz.ntmps39;go_wp2_with fail;refine bD ak.o ?_;rintro e' W1 ⟨p',rfl,a7⟩;clear ak;go_wp2;go_ret2;exact⟨rfl,a7⟩
 |ok rs=>
  have ap:=uH s rs hp;by_cases E:iY win d que;{refine (GL s rs win d que w ap.new (by omega) hT E.1 E.2.1 E.2.2).mono ?_;intro e w' h;unfold mq;rw[hp];exact aQ ⟨E,h⟩}
  .have ak:Hid (Cs 30 #[St s] w λe w'=>∃(ra:Option Addr) (rc:Nat),e=aO (aL #[aH ra (aB rs) rc,Ii 0,Ii 0])/\Below w.heap.size w w'):=by
    refine bD au.o ?_;rintro e w' ⟨hb,⟨c',p',O,z,G⟩|⟨aa,v,cc,b3,O,hR,_,_,G,b5,_⟩⟩;{have:=ap.new.rules;rw[G] at this;exact absurd this z}
    .have b4:aa=rs:=by{have:=b5.symm.trans ap.new.parse;injection this};subst b4;have⟨ra,rc,hf⟩:=hR.form;subst hf;exact⟨ra,rc,O,hb⟩
   have Z:mq s win d que w=λe w'=>(iY win d que/\rp rs win d que w e w')\/(¬iY win d que/\e=aO (aL #[.pointer aW,Ii 6])/\Below w.heap.size w w'):=by{funext e w';unfold mq;rw[hp]};rw[Z];have HA:=aA E;have C:Hid (∀(n l m:Int) W,Cs 43 #[Ii n,Ii l,Ii m] W λe' w'=>e'=aO (aK (decide (l<=n) && decide (n<=m)))/\W=w'):=λn l m W=>by{refine (qI n l m W).mono ?_;rintro e' w' ⟨h1,h2⟩;exact⟨h1,h2.symm⟩};have Qh2:¬(1<=win/\win<=1000)\/((1<=win/\win<=1000)/\¬(0<=d/\d<=1000))\/((1<=win/\win<=1000)/\(0<=d/\d<=1000)/\¬(1<=que/\que<=50)):=by unfold iY at E;omega
   clear au Z hT hp E ap;go_enter Tryz.func39,Tryz.ntmps39;go_wp2_with fail;refine bD ak.o ?_;rintro e' W1 ⟨ra,rc,rfl,a7⟩;clear ak;have HB:=aA a7;go_wp2_with fail;refine (C.o win 1 1000 _).mono ?_;rintro e' w' ⟨rfl,A⟩;subst A;rcases Qh2 with z|⟨z,M⟩|⟨z,M,a8⟩
   .rw[show (decide (1<=win) && decide (win<=1000))=false by simpa using z];clear z C;go_wp2;go_ret2;exact aR ⟨HA.o,rfl,HB.o⟩
   .rw[show (decide (1<=win) && decide (win<=1000))=true by simpa using z];go_wp2_with fail;refine (C.o d 0 1000 _).mono ?_;rintro e' w' ⟨rfl,A⟩;subst A;rw[show (decide (0<=d) && decide (d<=1000))=false by simpa using M];clear z M C;go_wp2;go_ret2;exact aR ⟨HA.o,rfl,HB.o⟩
   .rw[show (decide (1<=win) && decide (win<=1000))=true by simpa using z];go_wp2_with fail;refine (C.o d 0 1000 _).mono ?_;rintro e' w' ⟨rfl,A⟩;subst A;rw[show (decide (0<=d) && decide (d<=1000))=true by simpa using M];go_wp2_with fail;refine (C.o que 1 50 _).mono ?_;rintro e' w' ⟨rfl,A⟩;subst A;rw[show (decide (1<=que) && decide (que<=50))=false by simpa using a8];clear z M a8 C;go_wp2;go_ret2;exact aR ⟨HA.o,rfl,HB.o⟩
