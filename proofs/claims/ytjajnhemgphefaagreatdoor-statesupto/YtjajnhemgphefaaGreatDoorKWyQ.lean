/- A part -/
import Derived.Test.YtjajnhemgphefaaGreatDoorKWyI
import Derived.Test.YtjajnhemgphefaaGreatDoorKWyM
import Derived.Test.YtjajnhemgphefaaGreatDoorKWyN
set_option linter.all false
set_option maxRecDepth 100000
set_option maxHeartbeats 2000000
namespace Go.Proofs.YtjajnhemgphefaaGreatDoor
open Go renaming World->Wq,Value->Vq
open Go.RowKit Go.Shelf
variable {fs:List Fk} {e:Eg} {y:Er} {win m:Int}
theorem qry(x:By):∀(l:List Am),qac l x=(qcw l x.data.toList).getD 0
 | []=>rfl
 | a::l=>by
  rw[qrw];unfold qac;rw[qlb];by_cases h:(a.rel.data.toList == x.data.toList)=true
  .rw[if_pos h,if_pos h];rfl
  .rw[if_neg h,if_neg h];exact qry x l
theorem qov(rs:List Rl)(x:By):qac (qap rs) x=arR rs x:=qry x _
theorem q0i(rs:List Rl)(a:Am):qfr rs a=ckR rs a:=by unfold qfr ckR;rw[qov]
theorem q0m(rs:List Rl)(x:By):qfs rs x=(!qm1 rs x && decide (0 < arR rs x)):=by unfold qfs;rw[qov];rfl
theorem q0z(a:Am):qfw a=if qbc a=true then some ⟨a.rel,a.args.map (·.name)⟩ else none:=by
 unfold qfw qbc;show (if a.args.any qnq=true then _ else _)=_
 cases a.args.any qnq <;> rfl
theorem q03{a:Am}(h:qbc a=true)(h2:a.args.length=1\/a.args.length=2):qbr (qb Qm a)=⟨a.rel,a.args.map (·.name)⟩:=by
 have hn:=qee h;obtain⟨rel,args⟩:=a;simp only at hn h2;rcases h2 with h2 | h2
 .match args,h2 with
  | [t],_=>
   have h1:=hn t (by simp);unfold qbr qb xOf yOf;simp only[List.map_cons,List.map_nil,qcp h1];rw[if_pos (by exact qcn)]
 .match args,h2 with
  | [t,u],_=>
   have h1:=hn t (by simp);have h2:=hn u (by simp);unfold qbr qb xOf yOf;simp only[List.map_cons,List.map_nil,qcp h1,qcp h2];rw[if_neg (by intro h;exact h2 ((Q9 _).1 h))]
theorem q1o{l:List Tm}(hn:∀t∈l,t.name≠eB):∀(vs:List By),nmL vs l=qa7 vs (l.map (·.name)):=by
 induction l with
 | nil=>intro vs;rfl
 | cons t l ih=>
  intro vs;have h1:qaw vs t=Qh vs t.name:=by unfold qaw;rw[if_neg (λh=>hn t (by simp) ((Q9 _).1 h))]
  show nmL (qaw vs t) l=qa7 (Qh vs t.name) (l.map (·.name));rw[h1];exact ih (λu hu=>hn u (zt hu)) _
abbrev Dk:=Gd×Int×Bool
structure qhq(e:Eg)(y:Er)(ds:List Dk):Prop where
 rs:e.rs=y.rs
 win:e.win=y.win
 lat:e.lat=y.lat
 que:e.que=y.que
 mark:e.mark=y.mark
 clk:y.clock - y.lat<=y.mark/\0<=y.clock/\y.clock<=1000000
 names:e.names=y.names
 ne:eB∉y.names
 kept:e.kept=ds.map (λd=>(d.1,d.2.1))
 facts:qgj ds y.facts
 least:qcv e.rs (qra e.win ds++Qo e.rs) e.M
 beg:∀d∈ds,d.2.2=true->e.mark < d.2.1+e.win
 nodup:y.state.Nodup
 sok:∀g∈y.state,qj7 y.rs y.names g
 state:∀g,g∈y.state↔Dv y.rs (qmz y.win y.facts y.mark) g
theorem q7l{ds:List Dk}(hs:qgj ds fs)(g:Gd)(t:Int):qm4 (ds.map (λd=>(d.1,d.2.1))) (g,t)=fs.any (λf=>qek f.1 (qbr g) && decide (f.2.1=t)):=by
 unfold qgj at hs;subst hs;unfold qm4;rw[List.any_map,List.any_map,Bool.eq_iff_iff,List.any_eq_true,List.any_eq_true];simp only[Function.comp_apply,q12,Bool.and_eq_true,qnk,decide_eq_true_eq,Prod.mk.injEq];constructor
 .rintro⟨d,hd,h1,h2⟩;exact⟨d,hd,by rw[h1],h2.symm⟩
 .rintro⟨d,hd,h1,h2⟩;exact⟨d,hd,(qjk h1).symm,h2.symm⟩
theorem Qag(ai:qde e){a:Am}(hc:ckR e.rs a=0):a.args.length=1\/a.args.length=2:=by
 obtain⟨h1,h2⟩:=qtd hc;have hm:=qt3 h1;unfold qcz at hm;obtain⟨b,hb,hr⟩:=List.mem_map.1 hm;have:=ai.rs.arity b hb;rw[hr] at this;omega
theorem q7z{ds:List Dk}(h:qhq e y ds)(ai:qde e)(s:By)(t:Int) :
  (qkd e s t).1=(qf4 y s t).1/\∃be,qhq (qkd e s t).2 (qf4 y s t).2 be:=by
 obtain⟨rs,win,lat,que,mark,names,kept,M,fds⟩:=e;obtain⟨aa,ad,b6,ch,clock,ae,facts,ac,state,feeds⟩:=y;obtain rfl:aa=rs:=h.rs.symm;obtain rfl:ad=win:=h.win.symm;obtain rfl:ae=mark:=h.mark.symm;obtain rfl:ac=names:=h.names.symm;unfold qkd qf4;rw[qqd]
 cases ha:qcx s with
 | none=>exact⟨rfl,ds,h⟩
 | some a=>
  simp only[q0z]
  cases hg:qbc a with
  | false=>exact⟨rfl,ds,h⟩
  | true=>
   simp only[if_pos trivial,Bool.true_eq_false,if_false,q0m,qov]
   cases hd:qm1 aa a.rel with
   | true=>simp only[Bool.not_true,Bool.false_and,if_true];exact⟨trivial,ds,h⟩
   | false=>
    simp only[Bool.not_false,Bool.true_and,Bool.false_eq_true,if_false];by_cases h0:arR aa a.rel=0
    .have:ckR aa a=7:=by unfold ckR;rw[if_pos h0]
     rw[this,h0];simp only[if_pos,ne_eq,Int.reduceEq,not_false_eq_true,Nat.lt_irrefl,decide_false];exact⟨trivial,ds,h⟩
    .rw[if_neg (c:=decide (0 < arR aa a.rel)=false) (by simp;omega)];by_cases h1:arR aa a.rel=a.args.length
     .have hc:ckR aa a=0:=by unfold ckR;rw[if_neg h0,if_pos h1]
      rw[hc];simp only[ne_eq,not_true_eq_false,if_false,h1];by_cases ht:0<=t/\t<=1000000
      .rw[if_neg (by simpa using ht),if_neg (by simpa using ht)];have h2:=Qag ai hc;have b0:=q03 hg h2;have av:=q1o (qee hg) ac;unfold qo2 qax;by_cases ho:t+ad<=ae
       .rw[if_pos (by simpa using ho),if_pos ho];exact⟨rfl,ds,h⟩
       .rw[if_neg (by simpa using ho),if_neg ho];have hh:=q7l h.facts (qb Qm a) t;rw[b0,<- h.kept] at hh;rw[<- hh];by_cases hb:qm4 kept (qb Qm a,t)=true
        .rw[if_pos hb,if_pos hb];exact⟨rfl,ds,h⟩
        .rw[if_neg hb,if_neg hb]
         have hl:facts.length=kept.length:=by
          have h1:kept=_:=h.kept;have h2:facts=_:=h.facts;rw[h1,h2];simp
         have ct:kept.length<=24:=ai.k24;rw[av,hl];by_cases hf:kept.length=24\/8 < (qa7 ac (a.args.map (·.name))).length
         .rw[if_pos hf,if_pos (by omega)];exact⟨rfl,ds,h⟩
         .rw[if_neg hf,if_neg (by omega)];refine⟨rfl,ds++[(qb Qm a,t,false)],⟨h.rs,h.win,h.lat,h.que,h.mark,h.clk,rfl,?_,?_,?_,?_,?_,h.nodup,?_,?_⟩⟩
          .show eB∉qa7 ac (a.args.map (·.name));intro hm;rcases (qip _ _ _).1 hm with hm | hm
           .exact h.ne hm
           .obtain⟨u,hu,he⟩:=List.mem_map.1 hm;exact qee hg u hu he
          .show kept++_=_;rw[List.map_append,<- h.kept];rfl
          .show qgj _ (facts++_);have bi:=h.facts;unfold qgj at bi ⊢;rw[List.map_append,<- bi];simp[b0]
          .show qcv aa (qra ad (ds++_)++Qo aa) M;have:qra ad (ds++[(qb Qm a,t,false)])=qra ad ds:=by unfold qra;simp
           rw[this];exact h.least
          .intro d hd hb;rcases List.mem_append.1 hd with hd | hd
           .exact h.beg d hd hb
           .simp only[List.mem_cons,List.not_mem_nil,or_false] at hd;subst hd;cases hb
          .intro g ck;have:=h.sok g ck;exact⟨this.rel,λx hx=>(qip _ _ _).2 (.inl (this.mem x hx))⟩
          .intro g;have:qmz ad (facts++[((⟨a.rel,a.args.map (·.name)⟩:Gr),t,false)]) ae=qmz ad facts ae:=by unfold qmz;simp
           show g∈state↔Dv aa (qmz ad (facts++_) ae) g;rw[this];exact h.state g
      .rw[if_pos (by simpa using ht),if_pos (by simpa using ht)];exact⟨rfl,ds,h⟩
     .have hc:ckR aa a=4:=by unfold ckR;rw[if_neg h0,if_neg h1]
      rw[hc];simp only[ne_eq,h1,not_false_eq_true,if_true,Int.reduceEq];exact⟨trivial,ds,h⟩
def qf6(win m:Int)(fs:List Fk):List Fk:=(fs.filter (λf=>!decide (f.2.1+win<=m))).map (λf=>(f.1,f.2.1,decide (f.2.1<=m)))
def qyk(win m:Int)(fs:List Fk):List Gr:=((qf6 win m fs).filter (λf=>f.2.2)).map (·.1)
def qua(st:List Gr)(rel:By):List By:=qel [] ((st.filter (λg=>g.rel.toList == rel.toList)).map qga)
def q9w(aq now:List Gr)(rel:By)(m:Int):List Rc:=qzc 3 (qua aq rel) (qua now rel)++qzc 2 (qua now rel) (qua aq rel)++[⟨4,0,⟨#[]⟩,m⟩]
def qv1(que m:Int)(aq now:List Gr)(f:Fr):Fr:=
 if f.behind=true then f
 else if que < ((f.que.length+(q9w aq now f.rel m).length:Nat):Int) then {f with behind:=true,que:=[],snap:=[]}
 else {f with que:=f.que++q9w aq now f.rel m}
def qeb(y:Er)(c:Int):Int:=if y.clock < c then c else y.clock
def qnt(y:Er)(c:Int)(y':Er)(r:Int×Int):Prop:=
 (¬(0<=c/\c<=1000000)/\y'=y/\r=(0,6))\/
 ((0<=c/\c<=1000000)/\((qeb y c - y.lat<=y.mark/\y'={y with clock:=qeb y c}/\r=(y.mark,0))\/
  (y.mark < qeb y c - y.lat/\r=(qeb y c - y.lat,0)/\∃st,qfc y.rs (qyk y.win (qeb y c - y.lat) y.facts) y.names st/\
   y'={y with clock:=qeb y c,mark:=qeb y c - y.lat,facts:=qf6 y.win (qeb y c - y.lat) y.facts,state:=st,feeds:=y.feeds.map (qv1 y.que (qeb y c - y.lat) y.state st)})))
def ql6(win m:Int)(ds:List Dk):List Dk:=(ds.filter (λd=>!decide (d.2.1+win<=m))).map (λd=>(d.1,d.2.1,decide (d.2.1<=m)))
theorem q14{ds:List Dk}(h:qgj ds fs):qgj (ql6 win m ds) (qf6 win m fs):=by
 unfold qgj at h ⊢;subst h;unfold qf6 ql6;rw[List.filter_map,List.map_map,List.map_map];rfl
theorem q48(ds:List Dk):∀d∈ql6 win m ds,m < d.2.1+win:=by
 intro d hd;unfold ql6 at hd;obtain⟨d0,h0,rfl⟩:=List.mem_map.1 hd;have:=(List.mem_filter.1 h0).2;simp at this;simpa using this
theorem qsg(ds:List Dk):(ds.map (λd=>(d.1,d.2.1))).filter (λd=>!qax win m d.2)=(ql6 win m ds).map (λd=>(d.1,d.2.1)):=by
 unfold ql6 qax;rw[List.filter_map,List.map_map];rfl
theorem qxj{ds:List Dk}(hk:e.kept=ds.map (λd=>(d.1,d.2.1)))(m:Int):qhy e m=qra e.win (ql6 e.win m ds):=by
 unfold qhy qra;rw[hk,qsg];unfold ql6;rw[List.map_map,List.filter_map,List.map_map,List.filter_map,List.map_map];rfl
theorem q8a(fs:List Fk):qyk win m fs=qmz win (qf6 win m fs) m:=by
 unfold qyk qmz;congr 1;apply List.filter_congr;intro f hf;unfold qf6 at hf;obtain⟨f0,h0,rfl⟩:=List.mem_map.1 hf;have:=(List.mem_filter.1 h0).2;simp at this;simp[this]
theorem q6i{e':Eg}{y':Er}{ds:List Dk}(h:qhq e y ds)(ai:qde e){c:Int}{r r':Int×Int}(h1:qru e c e' r)(h2:qnt y c y' r'):r=r'/\∃be,qhq e' y' be:=by
 have cw:=h.clk;have Qa6:=h.lat;have cc:=h.mark;rcases h1 with⟨hc,rfl,rfl⟩ | ⟨hc,hr,h1⟩
 .rcases h2 with⟨_,rfl,rfl⟩ | ⟨a7,_⟩
  .exact⟨rfl,ds,h⟩
  .exact absurd a7 hc
 .rcases h2 with⟨a7,_⟩ | ⟨_,h2⟩
  .exact absurd hc a7
  .have bv:qeb y c - y.lat<=y.mark↔c - e.lat<=e.mark:=by
    unfold qeb;split <;> omega
   rcases h1 with⟨bj,rfl⟩ | ⟨cr,hm⟩
   .rcases h2 with⟨az,rfl,rfl⟩ | ⟨cb,_⟩
    .refine⟨by rw[hr,cc],ds,⟨h.rs,h.win,h.lat,h.que,h.mark,?_,h.names,h.ne,h.kept,h.facts,h.least,h.beg,h.nodup,h.sok,h.state⟩⟩;refine⟨az,?_⟩;show 0<=qeb y c/\qeb y c<=1000000;unfold qeb;split <;> omega
    .have:=bv.2 bj;omega
   .rcases h2 with⟨az,_⟩ | ⟨cb,rfl,st,a8,rfl⟩
    .have:=bv.1 az;omega
    .have aw:qeb y c=c:=by unfold qeb;split <;> omega
     obtain⟨M',b5,hM,hl,cq,rfl⟩:=hm;rw[qxj h.kept] at hM;have cu:c - e.lat<=1000000:=by have:=ai.lat;omega
     refine⟨by rw[hr,aw,Qa6],ql6 e.win (c - e.lat) ds,⟨h.rs,h.win,h.lat,h.que,by show c - e.lat=qeb y c - y.lat;rw[aw,Qa6],?_,h.names,h.ne,?_,?_,hM,λd hd _=>q48 ds d hd,a8.1.nodup,a8.1.ok,?_⟩⟩
     .show qeb y c - y.lat<=qeb y c - y.lat/\0<=qeb y c/\qeb y c<=1000000;rw[aw];omega
     .show e.kept.filter _=_;rw[h.kept,qsg]
     .show qgj _ (qf6 y.win (qeb y c - y.lat) y.facts);rw[aw,<- h.win,<- Qa6];exact q14 h.facts
     .intro g;show g∈st↔Dv y.rs (qmz y.win (qf6 y.win (qeb y c - y.lat) y.facts) (qeb y c - y.lat)) g;rw[<- q8a];exact a8.2 g
structure qug(L:List Tm)(n m:Nat):Prop where
 le:n<=m
 lt:∀t∈L,t.num < m\/t.num=0
 all:∀v,n<=v->v < m->∃t∈L,t.name=eB/\t.num=v
theorem qug.app{L L':List Tm}{n m k:Nat}(h:qug L n m)(h':qug L' m k):qug (L++L') n k:=by
 refine⟨Nat.le_trans h.le h'.le,λt ht=>?_,λv h1 h2=>?_⟩
 .have:=h'.le;rcases List.mem_append.1 ht with ht | ht
  .rcases h.lt t ht with h | h
   .left;omega
   .exact .inr h
  .exact h'.lt t ht
 .by_cases hv:v < m
  .obtain⟨t,ht,h3⟩:=h.all v h1 hv;exact⟨t,List.mem_append_left _ ht,h3⟩
  .obtain⟨t,ht,h3⟩:=h'.all v (by omega) h2;exact⟨t,List.mem_append_right _ ht,h3⟩
theorem qv6(vs:List By)(t:RT):qug [qge vs t] vs.length (qdp vs t).length:=by
 unfold qge qdp;by_cases h:t.kind=2
 .rw[if_pos h,if_pos h];unfold Qh;by_cases hs:Qx vs t.text < vs.length
  .rw[if_pos hs];exact⟨Nat.le_refl _,λu hu=>by simp only[List.mem_cons,List.not_mem_nil,or_false] at hu;subst hu;exact .inl hs,λv h1 h2=>by omega⟩
  .rw[if_neg hs];have bj:Qx vs t.text<=vs.length:=List.findIdx_le_length;refine⟨by simp,λu hu=>?_,λv h1 h2=>⟨_,zs,rfl,?_⟩⟩
   .simp only[List.mem_cons,List.not_mem_nil,or_false] at hu;subst hu;left;simp;omega
   .simp at h2;show Qx vs t.text=v;omega
 .rw[if_neg h,if_neg h];exact⟨Nat.le_refl _,λu hu=>by simp only[List.mem_cons,List.not_mem_nil,or_false] at hu;subst hu;exact .inr rfl,λv h1 h2=>by omega⟩
theorem qmw:∀(us:List RT) (vs:List By) (L:List Tm) (ap:List By) (n:Nat),qaf vs us=some (L,ap,n)->qug L vs.length ap.length/\1<=L.length
 | [],vs,L,ap,n,h=>by simp[qaf] at h
 | [a],vs,L,ap,n,h=>by simp[qaf] at h
 | a::b::us,vs,L,ap,n,h=>by
  unfold qaf at h;split at h
  .simp only[Option.some.injEq,Prod.mk.injEq] at h;obtain⟨rfl,rfl,_⟩:=h;exact⟨qv6 vs a,by simp⟩
  .split at h
   .rename_i l v' k hr;simp only[Option.some.injEq,Prod.mk.injEq] at h;obtain⟨rfl,rfl,_⟩:=h;exact⟨(qv6 vs a).app (qmw us _ _ _ _ hr).1,by simp⟩
   .cases h
theorem qr0:∀(n f:Nat) (us:List RT) (vs:List By) (bs:List Am) (m:Nat),us.length<=n->qea f vs us=some (bs,m)->(∃k,qug (bs.flatMap (·.args)) vs.length k)/\∀a∈bs,1<=a.args.length
 | n,f,us,vs,bs,m,hn,h=>by
  obtain⟨t,b8,rfl,⟨_,rfl,_⟩ | ⟨_,r,p,al,l,ce,k,f',cj,m',rfl,h1,h2,rfl,_⟩⟩:=qkt h
  .exact⟨⟨vs.length,⟨Nat.le_refl _,λ_ h=>by simp at h,λv h1 h2=>by omega⟩⟩,λ_ h=>by cases h⟩
  .cases n with
   | zero=>simp at hn
   | succ n=>
    obtain⟨⟨q,ih⟩,cg⟩:=qr0 n f' (al.drop k) ce cj m' (by simp at hn ⊢;omega) h2;obtain⟨a1,a2⟩:=qmw al _ _ _ _ h1;refine⟨⟨q,?_⟩,λa ha=>?_⟩
    .rw[List.flatMap_cons];exact a1.app ih
    .rcases List.mem_cons.1 ha with rfl | ha
     .exact a2
     .exact cg a ha
theorem qsr:∀(n f:Nat) (us:List RT) (rs:List Rl),us.length<=n->qej f us=some rs->∀r∈rs,(∃k,qug (Qr r) 0 k)/\∀a∈qx r,1<=a.args.length
 | n,f,us,rs,hn,h=>by
  obtain⟨t,b8,rfl,⟨_,rfl⟩ | ⟨_,p,al,l,vs,k,bs,m,f',aa,rfl,h1,h2,h3,rfl⟩⟩:=qk9 h
  .intro r hr;cases hr
  .cases n with
   | zero=>simp at hn
   | succ n=>
    have ih:=qsr n f' ((al.drop k).drop (m+1)) aa (by simp at hn ⊢;omega) h3;intro r hr;rcases List.mem_cons.1 hr with rfl | hr
    .obtain⟨a1,a2⟩:=qmw al _ _ _ _ h1;obtain⟨⟨q,b1⟩,b2⟩:=qr0 _ _ _ _ _ _ zl h2;refine⟨⟨q,a1.app b1⟩,λa ha=>?_⟩;rcases List.mem_cons.1 ha with rfl | ha
     .exact a2
     .exact b2 a ha
    .exact ih r hr
theorem qkv{p:Rl->Bool}:∀{rs:List Rl} {i:Nat},qa9 p rs i=none->∀r∈rs,p r=false
 | [],_,_,r,hr=>by cases hr
 | r0::rs,i,h,r,hr=>by
  unfold qa9 at h;split at h
  .cases h
  .rename_i hp;rcases List.mem_cons.1 hr with rfl | hr
   .simpa using hp
   .exact qkv h r hr
theorem qsm:∀ {rs:List Rl} {vs:List By} {i:Nat},vs.length<=8->qaz vs rs i=none->∀k,(qa4 vs (rs.take k)).length<=8
 | [],vs,i,h8,_,k=>by simpa [qa4] using h8
 | r::rs,vs,i,h8,h,k=>by
  cases k with
  | zero=>simpa [qa4] using h8
  | succ k=>
   unfold qaz at h;split at h
   .cases h
   .rename_i hn;exact qsm (rs:=rs) (by omega) h k
theorem qp5:∀(rs:List Rl) (vs:List By),qa4 vs rs=nmL vs (Qp (qap rs))
 | [],vs=>rfl
 | r::rs,vs=>by
  have ih:=qp5 rs (nmL vs (Qr r));show qa4 (nmL vs (Qr r)) rs=_;rw[ih,<- qp8];congr 1;show _=(qx r++qap rs).flatMap (·.args);rw[List.flatMap_append];rfl
structure qw4(s:By)(rs:List Rl):Prop where
 new:qy3 s rs
 two:qd8 (arR rs) rs
 fine:∀Nm:List By,Nm.length<=8->eBy∉Nm->(∀x∈qa4 [] rs,x∈Nm)->qdy rs Nm
 ne:eB∉qa4 [] rs
 names:qa4 [] rs=nmL [] (Qp (qap rs))
theorem qxm:∀(rs:List Rl),(∀r∈rs,r.body.length<=3)->(rs.flatMap q0c).length<=rs.length*4
 | [],_=>by simp
 | r::rs,h=>by
  have h1:=h r zs;have h2:=qxm rs (λx hx=>h x (zt hx));rw[List.flatMap_cons,List.length_append,List.length_cons];have:(q0c r).length=r.body.length+1:=rfl;omega
theorem qk5(s:By)(rs:List Rl)(h:qay s=.ok rs):qw4 s rs:=by
 have b7:=q1t s rs h;have h':=h;unfold qay at h;split at h
 .cases h
 rename_i hL;split at h
 .cases h
 rename_i ho;split at h
 .cases h
 rename_i aa hr;split at h
 .cases h
 rename_i ca;injection h with h;subst h;have af:(qbg aa).1=0:=by simpa using ca
 obtain⟨cv,q1,q2,q3⟩:=qh5 ((Q6 s).length+1) (Q6 s) (lk0 false) (by omega) rfl rfl rfl (qe2 s) (by simpa [okO] using ho) (by decide);rw[hr] at q1;injection q1 with q1;subst q1;have h8:aa.length<=8:=by simpa [lk0] using q2
 have bq:=qsr _ _ _ _ zl hr
 have hA:∀r∈aa,qb5 (qap aa) r=false:=by
  unfold qbg at af;split at af
  .cases af
  .rename_i hf;exact qkv hf
 have hB:∀r∈aa,qdz r=false:=by
  unfold qbg at af;split at af
  .cases af
  .split at af
   .cases af
   .rename_i hf;exact qkv hf
 have hC:qaz [] aa 0=none:=by
  unfold qbg at af;split at af
  .cases af
  .split at af
   .cases af
   .split at af
    .cases af
    .assumption
 have b4:∀a∈aa.flatMap qx,a.args.length=arR aa a.rel:=by
  intro a ha;obtain⟨r,ab,ag⟩:=List.mem_flatMap.1 ha;have:=hA r ab;unfold qb5 at this;rw[List.any_eq_false] at this;have h1:=this a ag;unfold qg4 at h1;rw[<- qov];have h2:qac (qap aa) a.rel=a.args.length:=by simpa using h1
  exact h2.symm
 have bc:∀r∈aa,∀t∈r.head.args,t.name=eB->∃a∈r.body,∃u∈a.args,u.name=eB/\u.num=t.num:=by
  intro r ab t ht he;have:=hB r ab;unfold qdz at this;rw[List.any_eq_false] at this;have h1:=this t ht;unfold qgr at h1;have cn:t.name.toList.isEmpty=true:=(Q9 _).2 he;rw[cn] at h1;have h2:qy r.body t.num=true:=by simpa using h1
  unfold qy at h2;obtain⟨a,ha,h3⟩:=List.any_eq_true.1 h2;obtain⟨u,hu,h4⟩:=List.any_eq_true.1 h3;unfold qhm at h4;simp only[Bool.and_eq_true,decide_eq_true_eq] at h4;exact⟨a,ha,u,hu,(Q9 _).1 h4.1,h4.2⟩
 have a9:∀a∈aa.flatMap qx,1<=a.args.length/\a.args.length<=2:=by
  intro a ha;obtain⟨r,ab,ag⟩:=List.mem_flatMap.1 ha;refine⟨(bq r ab).2 a ag,?_⟩;have:=q3 r ab;rcases List.mem_cons.1 ag with rfl | ag
  .exact this.head.1
  .exact (this.body a ag).1
 have Qbl:∀r∈aa,∀t∈Qr r,t.num < 6:=by
  intro r ab t ht;obtain⟨⟨k,hk⟩,_⟩:=bq r ab
  have hb:k<=6:=by
   have bf:∀v∈List.range k,v∈(r.body.flatMap (·.args)).map (·.num):=by
    intro v hv;rw[List.mem_range] at hv;obtain⟨u,hu,h1,h2⟩:=hk.all v zz hv;unfold Qr at hu;rcases List.mem_append.1 hu with hu | hu
    .obtain⟨a,ha,w,hw,h3,h4⟩:=bc r ab u hu h1;exact List.mem_map.2 ⟨w,List.mem_flatMap.2 ⟨a,ha,hw⟩,by omega⟩
    .exact List.mem_map.2 ⟨u,hu,h2⟩
   have bd:=qlq (List.range k) _ List.nodup_range bf;rw[List.length_range,List.length_map] at bd;have:=qlt (λa:Am=>a.args) 2 r.body (λa ha=>((q3 r ab).body a ha).1);have:=(q3 r ab).few;omega
  rcases hk.lt t ht with h | h <;> omega
 have au:∀a∈aa.flatMap qx,∀t∈a.args,t.num < 6:=by
  intro a ha t ht;obtain⟨r,ab,ag⟩:=List.mem_flatMap.1 ha;refine Qbl r ab t ?_;unfold Qr;rcases List.mem_cons.1 ag with rfl | ag
  .exact List.mem_append_left _ ht
  .exact List.mem_append_right _ (List.mem_flatMap.2 ⟨a,ag,ht⟩)
 have Qbf:∀r∈aa,qch r:=by
  intro r ab;have h1:=b7 r ab;have h2:=q3 r ab;refine⟨⟨h1.1.1,h2.head.1,λt ht=>⟨h1.1.2 t ht,?_⟩⟩,h2.few,λa ha=>⟨(h1.2 a ha).1,(h2.body a ha).1,λt ht=>⟨(h1.2 a ha).2 t ht,?_⟩⟩⟩
  .have:=au r.head (List.mem_flatMap.2 ⟨r,ab,zs⟩) t ht;omega
  .have:=au a (List.mem_flatMap.2 ⟨r,ab,List.mem_cons_of_mem _ ha⟩) t ht;omega
 have av:=qp5 aa []
 have a6:∀y,y∈qa4 [] aa↔∃t∈Qp (qap aa),t.name≠eB/\y=t.name:=by
  intro y;rw[av,qtz];simp
 have bk:∀r∈aa,∀t∈r.head.args,t.name≠eB->t.name∈qa4 [] aa:=λr ab t ht ci=>(a6 _).2 ⟨t,List.mem_flatMap.2 ⟨r.head,List.mem_flatMap.2 ⟨r,ab,zs⟩,ht⟩,ci,rfl⟩;have ai:qim aa:=⟨h8,Qbf,λa ha=>⟨b4 a ha,by have:=a9 a ha;omega⟩,au,bc⟩;have cm:s.size<=1200:=by have:=qdv s;rw[<- qcf] at this;omega
 have ah:=qqf s (by omega) cm;rw[h'] at ah
 have bn:qd0 s=.ok aa:=by
  cases hp:qd0 s with
  | error ep=>rw[hp] at ah;cases ah
  | ok rs3=>
   rw[hp] at ah;simp only at ah;split at ah
   .cases ah
   .injection ah with ah;rw[ah]
 have bo:∀(a:Am) (v:Nat),qdo a v↔∃t∈a.args,t.name=eB/\t.num=v:=by
  intro a v;unfold qdo;constructor
  .rintro⟨t,h1,h2,h3⟩;exact⟨t,h1,(Q9 _).1 h2,h3⟩
  .rintro⟨t,h1,h2,h3⟩;exact⟨t,h1,(Q9 _).2 h2,h3⟩
 have bh:∀r∈aa,∀v,qdo r.head v->∃a∈r.body,qdo a v:=by
  intro r ab v hv;obtain⟨t,h1,h2,h3⟩:=(bo _ _).1 hv;obtain⟨a,ha,u,hu,h4,h5⟩:=bc r ab t h1 h2;exact⟨a,ha,(bo _ _).2 ⟨u,hu,h4,h5.trans h3⟩⟩
 refine⟨⟨bn,?_,ai,qsm (by simp) hC,bk,?_⟩,⟨λr ab a ha=>?_,bh⟩,λNm n8 ne bf=>⟨λr ab=>⟨(q3 r ab).few,λa ha=>?_,bh r ab⟩,n8,ne,λr ab t ht he=>?_,?_⟩,?_,av⟩
 .unfold qeq;rw[<- qcf,if_neg hL,bn];simp only;rw[qr3,af];rfl
 .intro x hx;obtain⟨t,ht,_,rfl⟩:=(a6 x).1 hx;obtain⟨a,ha,b3⟩:=List.mem_flatMap.1 ht;obtain⟨r,ab,ag⟩:=List.mem_flatMap.1 ha;rcases List.mem_cons.1 ag with rfl | ag
  .exact ((Qbf r ab).head.tms t b3).name
  .exact (((Qbf r ab).ams a ag).tms t b3).name
 .have hm:a∈aa.flatMap qx:=List.mem_flatMap.2 ⟨r,ab,ha⟩;exact⟨⟨by have:=a9 a hm;omega,au a hm⟩,b4 a hm⟩
 .have hm:a∈aa.flatMap qx:=List.mem_flatMap.2 ⟨r,ab,ha⟩;exact⟨(a9 a hm).2,λt ht=>by have:=au a hm t ht;omega⟩
 .refine bf _ (bk r ab t ht (λe=>?_));rw[e] at he;rw[show qg eB=true from qcn] at he;cases he
 .have:=qxm aa (λr ab=>(q3 r ab).few);omega
 .intro hm;obtain⟨t,_,h1,h2⟩:=(a6 _).1 hm;exact h1 h2.symm
theorem qzs{s:By}{c:Int}{p:Nat}(hp:qay s=.error (c,p)):(qeq s).2.1=c:=by
 unfold qeq;rw[<- qcf];by_cases hL:300 < (R s 0).length
 .rw[if_pos hL];unfold qay at hp;rw[if_pos hL] at hp;injection hp with hp;exact (congrArg Prod.fst hp)
 .rw[if_neg hL];have hz:s.size<=1200:=by have:=qdv s;rw[<- qcf] at this;omega
  rw[qqf s (by omega) hz] at hp
  cases hq:qd0 s with
  | error ep=>
   rw[hq] at hp;obtain⟨c',p'⟩:=ep;injection hp with hp;simp only[Prod.mk.injEq] at hp;exact hp.1
  | ok rs=>
   rw[hq] at hp;simp only at hp ⊢;split at hp
   .rename_i hs;injection hp with hp;rw[qr3];simp only;rw[if_neg hs,hp]
   .cases hp
def qbm(win lat que:Int):Prop:=(1<=win/\win<=1000)/\(0<=lat/\lat<=1000)/\1<=que/\que<=50
def qq8(s:By)(win lat que:Int)(w:Wq)(e:Ending)(w':Wq):Prop:=
 match qay s with
 | .error (c,_)=>e=.returned (.tuple #[.pointer none,Ii c])/\Below w.heap.size w w'
 | .ok rs=>(qbm win lat que/\qlk rs win lat que w e w')\/(¬qbm win lat que/\e=.returned (.tuple #[.pointer none,Ii 6])/\Below w.heap.size w w')
theorem q5l(s:By)(win lat que:Int)(w:Wq)(hs:s.size<=1048576)(hT:Lib.Utf8Tabs 0 1 w) :
  Cs 39 #[St s,Ii win,Ii lat,Ii que] w (qq8 s win lat que w):=by
 have ax:Hid _:=qoc s w (by omega) hT
 cases hp:qay s with
 | error cp=>
  obtain⟨c,p⟩:=cp;have bt:c≠0:=qh3 s c p hp
  have hu:qq8 s win lat que w=λe w'=>e=.returned (.tuple #[.pointer none,Ii c])/\Below w.heap.size w w':=by
   funext e w';unfold qq8;rw[hp]
  rw[hu];have ao:(qeq s).2.1=c:=qzs hp
  have an:Hid (Cs 30 #[St s] w λe w'=>∃(p:Int),e=.returned (.tuple #[.slice none 0 0,Ii c,Ii p])/\Below w.heap.size w w'):=by
   refine Calls.mono ax.out ?_;rintro e w' ⟨hb,⟨c',p',he,hc,hr⟩ | ⟨aa,v,b9,cl,he,hR,_,_,hr,_,_⟩⟩
   .rw[hr] at ao;obtain rfl:c'=c:=ao;exact⟨p',he,hb⟩
   .rw[hr] at ao;exact absurd ao.symm bt
  have co:(c == 0)=false:=by simpa using bt
  clear ax hu hT hp ao;go_enter Tryz.func39,Tryz.ntmps39;go_wp2_with fail;refine Calls.mono an.out ?_;rintro e' W1 ⟨p',rfl,bb⟩;clear an;go_wp2;go_ret2;exact⟨rfl,bb⟩
 | ok rs=>
  have ay:=qk5 s rs hp;by_cases ha:qbm win lat que
  .refine (q77 s rs win lat que w ay.new (by omega) hT ha.1 ha.2.1 ha.2.2).mono ?_;intro e w' h;unfold qq8;rw[hp];exact .inl ⟨ha,h⟩
  .have an:Hid (Cs 30 #[St s] w λe w'=>∃(ra:Option Addr) (rc:Nat),e=.returned (.tuple #[.slice ra rs.length rc,Ii 0,Ii 0])/\Below w.heap.size w w'):=by
    refine Calls.mono ax.out ?_;rintro e w' ⟨hb,⟨c',p',he,hc,hr⟩ | ⟨aa,v,b9,cl,he,hR,_,_,hr,cd,_⟩⟩
    .have:=ay.new.rules;rw[hr] at this;exact absurd this hc
    .have cf:aa=rs:=by
      have:=cd.symm.trans ay.new.parse;injection this
     subst cf;obtain⟨ra,rc,hf⟩:=hR.form;subst hf;exact⟨ra,rc,he,hb⟩
   have hu:qq8 s win lat que w=λe w'=>(qbm win lat que/\qlk rs win lat que w e w')\/(¬qbm win lat que/\e=.returned (.tuple #[.pointer none,Ii 6])/\Below w.heap.size w w'):=by
    funext e w';unfold qq8;rw[hp]
   rw[hu];have HA:Hid (¬qbm win lat que):=ha
   have ak:Hid (∀(n l m:Int) W,Cs 43 #[Ii n,Ii l,Ii m] W λe' w'=>e'=.returned (.bool (decide (l<=n) && decide (n<=m)))/\W=w'):=λn l m W=>by
    refine (qfi n l m W).mono ?_;rintro e' w' ⟨h1,h2⟩;exact⟨h1,h2.symm⟩
   have Qec:¬(1<=win/\win<=1000)\/((1<=win/\win<=1000)/\¬(0<=lat/\lat<=1000))\/((1<=win/\win<=1000)/\(0<=lat/\lat<=1000)/\¬(1<=que/\que<=50)):=by
    unfold qbm at ha;omega
   clear ax hu hT hp ha ay;go_enter Tryz.func39,Tryz.ntmps39;go_wp2_with fail;refine Calls.mono an.out ?_;rintro e' W1 ⟨ra,rc,rfl,bb⟩;clear an;have HB:Hid (Below w.heap.size w W1):=bb;go_wp2_with fail;refine (ak.out win 1 1000 _).mono ?_;rintro e' w' ⟨rfl,aj⟩;subst aj;rcases Qec with hc | ⟨hc,am⟩ | ⟨hc,am,bu⟩
   .rw[show (decide (1<=win) && decide (win<=1000))=false by simpa using hc];clear hc ak;go_wp2;go_ret2;exact .inr ⟨HA.out,rfl,HB.out⟩
   .rw[show (decide (1<=win) && decide (win<=1000))=true by simpa using hc];go_wp2_with fail;refine (ak.out lat 0 1000 _).mono ?_;rintro e' w' ⟨rfl,aj⟩;subst aj;rw[show (decide (0<=lat) && decide (lat<=1000))=false by simpa using am];clear hc am ak;go_wp2;go_ret2;exact .inr ⟨HA.out,rfl,HB.out⟩
   .rw[show (decide (1<=win) && decide (win<=1000))=true by simpa using hc];go_wp2_with fail;refine (ak.out lat 0 1000 _).mono ?_;rintro e' w' ⟨rfl,aj⟩;subst aj;rw[show (decide (0<=lat) && decide (lat<=1000))=true by simpa using am];go_wp2_with fail;refine (ak.out que 1 50 _).mono ?_;rintro e' w' ⟨rfl,aj⟩;subst aj;rw[show (decide (1<=que) && decide (que<=50))=false by simpa using bu];clear hc am bu ak;go_wp2;go_ret2;exact .inr ⟨HA.out,rfl,HB.out⟩
