/- An engine is made, or refused: the code. -/
import Derived.Test.YtjajnhemgphefaaGreatDoorJWyI
import Derived.Test.YtjajnhemgphefaaGreatDoorJWyM
import Derived.Test.YtjajnhemgphefaaGreatDoorJWyN
set_option linter.unusedVariables false
set_option linter.unusedSimpArgs false
set_option maxRecDepth 100000
set_option maxHeartbeats 2000000
namespace Go.Proofs.YtjajnhemgphefaaGreatDoor
open Go renaming World->Wq,Value->Vq
open Go.RowKit Go.Shelf
variable {fs:List Fk} {e:Eg} {y:Er} {win m:Int}
theorem qq8(x:ByteArray):∀(l:List Am),qac l x=(qct l x.data.toList).getD 0
 | []=>rfl
 | a::l=>by
  rw[qq6];unfold qac;rw[qkw];by_cases h:(a.rel.data.toList == x.data.toList)=true
  ·rw[if_pos h,if_pos h];rfl
  ·rw[if_neg h,if_neg h];exact qq8 x l
theorem qn5(rs:List Rl)(x:ByteArray):qac (qap rs) x=arR rs x:=qq8 x _
theorem qzt(rs:List Rl)(a:Am):qgl rs a=ckR rs a:=by unfold qgl ckR;rw[qn5]
theorem qzy(rs:List Rl)(x:ByteArray):qfh rs x=(!qmk rs x && decide (0 < arR rs x)):=by unfold qfh;rw[qn5];rfl
theorem qrj(a:Am):qdd a=if qaq a=true then some ⟨a.rel,a.args.map (·.name)⟩ else none:=by
 unfold qdd qaq;show (if a.args.any qm5=true then _ else _)=_
 cases a.args.any qm5 <;> rfl
theorem qro{a:Am}(h:qaq a=true)(h2:a.args.length=1\/a.args.length=2):qdh (qb Qg a)=⟨a.rel,a.args.map (·.name)⟩:=by
 have hn:=qea h;obtain⟨rel,args⟩:=a;simp only at hn h2;rcases h2 with h2 | h2
 ·match args,h2 with
  | [t],_=>
   have h1:=hn t (by simp);unfold qdh qb xOf yOf;simp only[List.map_cons,List.map_nil,qcn h1];rw[if_pos (by exact qck)]
 ·match args,h2 with
  | [t,u],_=>
   have h1:=hn t (by simp);have h2:=hn u (by simp);unfold qdh qb xOf yOf;simp only[List.map_cons,List.map_nil,qcn h1,qcn h2];rw[if_neg (by intro h;exact h2 ((Q8 _).1 h))]
theorem q0u{l:List Tm}(hn:∀t∈l,t.name≠eB):∀(vs:List ByteArray),nmL vs l=qa8 vs (l.map (·.name)):=by
 induction l with
 | nil=>intro vs;rfl
 | cons t l ih=>
  intro vs;have h1:qax vs t=Qc vs t.name:=by unfold qax;rw[if_neg (λh=>hn t (by simp) ((Q8 _).1 h))]
  show nmL (qax vs t) l=qa8 (Qc vs t.name) (l.map (·.name));rw[h1];exact ih (λu hu=>hn u (List.mem_cons_of_mem _ hu)) _
abbrev Dk:=Gd×Int×Bool
structure qib(e:Eg)(y:Er)(ds:List Dk):Prop where
 rs:e.rs=y.rs
 win:e.win=y.win
 lat:e.lat=y.lat
 que:e.que=y.que
 mark:e.mark=y.mark
 clk:y.clock - y.lat<=y.mark/\0<=y.clock/\y.clock<=1000000
 names:e.names=y.names
 ne:eB∉y.names
 kept:e.kept=ds.map (λd=>(d.1,d.2.1))
 facts:qff ds y.facts
 least:qbf e.rs (qom e.win ds++Qk e.rs) e.M
 beg:∀d∈ds,d.2.2=true->e.mark < d.2.1+e.win
 nodup:y.state.Nodup
 sok:∀g∈y.state,qjt y.rs y.names g
 state:∀g,g∈y.state↔Dv y.rs (qf3 y.win y.facts y.mark) g
theorem q6c{ds:List Dk}(hs:qff ds fs)(g:Gd)(t:Int):qmn (ds.map (λd=>(d.1,d.2.1))) (g,t)=fs.any (λf=>qeg f.1 (qdh g) && decide (f.2.1=t)):=by
 unfold qff at hs;subst hs;unfold qmn;rw[List.any_map,List.any_map,Bool.eq_iff_iff,List.any_eq_true,List.any_eq_true];simp only[Function.comp_apply,q1a,Bool.and_eq_true,qhf,decide_eq_true_eq,Prod.mk.injEq];constructor
 ·rintro⟨d,hd,h1,h2⟩;exact⟨d,hd,by rw[h1],h2.symm⟩
 ·rintro⟨d,hd,h1,h2⟩;exact⟨d,hd,(qqc h1).symm,h2.symm⟩
theorem q2k(hok:qci e){a:Am}(hc:ckR e.rs a=0):a.args.length=1\/a.args.length=2:=by
 obtain⟨h1,h2⟩:=qyo hc;have hm:=qti h1;unfold qc9 at hm;obtain⟨b,hb,hr⟩:=List.mem_map.1 hm;have:=hok.rs.arity b hb;rw[hr] at this;omega
theorem q6r{ds:List Dk}(h:qib e y ds)(hok:qci e)(s:ByteArray)(t:Int) :
  (qjx e s t).1=(qfs y s t).1/\∃ds',qib (qjx e s t).2 (qfs y s t).2 ds':=by
 obtain⟨rs,win,lat,que,mark,names,kept,M,fds⟩:=e;obtain⟨rs',win',lat',que',clock,mark',facts,names',state,feeds⟩:=y;obtain rfl:rs'=rs:=h.rs.symm;obtain rfl:win'=win:=h.win.symm;obtain rfl:mark'=mark:=h.mark.symm;obtain rfl:names'=names:=h.names.symm;unfold qjx qfs;rw[qps]
 cases ha:qc7 s with
 | none=>exact⟨rfl,ds,h⟩
 | some a=>
  simp only[qrj]
  cases hg:qaq a with
  | false=>exact⟨rfl,ds,h⟩
  | true=>
   simp only[if_pos trivial,Bool.true_eq_false,if_false,qzy,qn5]
   cases hd:qmk rs' a.rel with
   | true=>simp only[Bool.not_true,Bool.false_and,if_true];exact⟨trivial,ds,h⟩
   | false=>
    simp only[Bool.not_false,Bool.true_and,Bool.false_eq_true,if_false];by_cases h0:arR rs' a.rel=0
    ·have:ckR rs' a=7:=by unfold ckR;rw[if_pos h0]
     rw[this,h0];simp only[if_pos,ne_eq,Int.reduceEq,not_false_eq_true,Nat.lt_irrefl,decide_false];exact⟨trivial,ds,h⟩
    ·rw[if_neg (c:=decide (0 < arR rs' a.rel)=false) (by simp;omega)];by_cases h1:arR rs' a.rel=a.args.length
     ·have hc:ckR rs' a=0:=by unfold ckR;rw[if_neg h0,if_pos h1]
      rw[hc];simp only[ne_eq,not_true_eq_false,if_false,h1];by_cases ht:0<=t/\t<=1000000
      ·rw[if_neg (by simpa using ht),if_neg (by simpa using ht)];have h2:=q2k hok hc;have hgr:=qro hg h2;have hnm:=q0u (qea hg) names';unfold qog qay;by_cases ho:t+win'<=mark'
       ·rw[if_pos (by simpa using ho),if_pos ho];exact⟨rfl,ds,h⟩
       ·rw[if_neg (by simpa using ho),if_neg ho];have hh:=q6c h.facts (qb Qg a) t;rw[hgr,<- h.kept] at hh;rw[<- hh];by_cases hb:qmn kept (qb Qg a,t)=true
        ·rw[if_pos hb,if_pos hb];exact⟨rfl,ds,h⟩
        ·rw[if_neg hb,if_neg hb]
         have hl:facts.length=kept.length:=by
          have h1:kept=_:=h.kept;have h2:facts=_:=h.facts;rw[h1,h2];simp
         have h24:kept.length<=24:=hok.k24;rw[hnm,hl];by_cases hf:kept.length=24\/8 < (qa8 names' (a.args.map (·.name))).length
         ·rw[if_pos hf,if_pos (by omega)];exact⟨rfl,ds,h⟩
         ·rw[if_neg hf,if_neg (by omega)];refine⟨rfl,ds++[(qb Qg a,t,false)],⟨h.rs,h.win,h.lat,h.que,h.mark,h.clk,rfl,?_,?_,?_,?_,?_,h.nodup,?_,?_⟩⟩
          ·show eB∉qa8 names' (a.args.map (·.name));intro hm;rcases (qif _ _ _).1 hm with hm | hm
           ·exact h.ne hm
           ·obtain⟨u,hu,he⟩:=List.mem_map.1 hm;exact qea hg u hu he
          ·show kept++_=_;rw[List.map_append,<- h.kept];rfl
          ·show qff _ (facts++_);have hf2:=h.facts;unfold qff at hf2 ⊢;rw[List.map_append,<- hf2];simp[hgr]
          ·show qbf rs' (qom win' (ds++_)++Qk rs') M;have:qom win' (ds++[(qb Qg a,t,false)])=qom win' ds:=by unfold qom;simp
           rw[this];exact h.least
          ·intro d hd hb;rcases List.mem_append.1 hd with hd | hd
           ·exact h.beg d hd hb
           ·simp only[List.mem_cons,List.not_mem_nil,or_false] at hd;subst hd;cases hb
          ·intro g hg';have:=h.sok g hg';exact⟨this.rel,λx hx=>(qif _ _ _).2 (.inl (this.mem x hx))⟩
          ·intro g;have:qf3 win' (facts++[((⟨a.rel,a.args.map (·.name)⟩:Gr),t,false)]) mark'=qf3 win' facts mark':=by unfold qf3;simp
           show g∈state↔Dv rs' (qf3 win' (facts++_) mark') g;rw[this];exact h.state g
      ·rw[if_pos (by simpa using ht),if_pos (by simpa using ht)];exact⟨rfl,ds,h⟩
     ·have hc:ckR rs' a=4:=by unfold ckR;rw[if_neg h0,if_neg h1]
      rw[hc];simp only[ne_eq,h1,not_false_eq_true,if_true,Int.reduceEq];exact⟨trivial,ds,h⟩
def qfu(win m:Int)(fs:List Fk):List Fk:=(fs.filter (λf=>!decide (f.2.1+win<=m))).map (λf=>(f.1,f.2.1,decide (f.2.1<=m)))
def qxy(win m:Int)(fs:List Fk):List Gr:=((qfu win m fs).filter (λf=>f.2.2)).map (·.1)
def qtp(st:List Gr)(rel:ByteArray):List ByteArray:=Qdx [] ((st.filter (λg=>g.rel.toList == rel.toList)).map Qd4)
def q8h(was now:List Gr)(rel:ByteArray)(m:Int):List Rc:=qyn 3 (qtp was rel) (qtp now rel)++qyn 2 (qtp now rel) (qtp was rel)++[⟨4,0,⟨#[]⟩,m⟩]
def qvf(que m:Int)(was now:List Gr)(f:Fr):Fr:=
 if f.behind=true then f
 else if que < ((f.que.length+(q8h was now f.rel m).length:Nat):Int) then {f with behind:=true,que:=[],snap:=[]}
 else {f with que:=f.que++q8h was now f.rel m}
def qd6(y:Er)(c:Int):Int:=if y.clock < c then c else y.clock
def qm8(y:Er)(c:Int)(y':Er)(r:Int×Int):Prop:=
 (¬(0<=c/\c<=1000000)/\y'=y/\r=(0,6))\/
 ((0<=c/\c<=1000000)/\((qd6 y c - y.lat<=y.mark/\y'={y with clock:=qd6 y c}/\r=(y.mark,0))\/
  (y.mark < qd6 y c - y.lat/\r=(qd6 y c - y.lat,0)/\∃st,qe0 y.rs (qxy y.win (qd6 y c - y.lat) y.facts) y.names st/\
   y'={y with clock:=qd6 y c,mark:=qd6 y c - y.lat,facts:=qfu y.win (qd6 y c - y.lat) y.facts,state:=st,feeds:=y.feeds.map (qvf y.que (qd6 y c - y.lat) y.state st)})))
def qlr(win m:Int)(ds:List Dk):List Dk:=(ds.filter (λd=>!decide (d.2.1+win<=m))).map (λd=>(d.1,d.2.1,decide (d.2.1<=m)))
theorem q1c{ds:List Dk}(h:qff ds fs):qff (qlr win m ds) (qfu win m fs):=by
 unfold qff at h ⊢;subst h;unfold qfu qlr;rw[List.filter_map,List.map_map,List.map_map];rfl
theorem q36(ds:List Dk):∀d∈qlr win m ds,m < d.2.1+win:=by
 intro d hd;unfold qlr at hd;obtain⟨d0,h0,rfl⟩:=List.mem_map.1 hd;have:=(List.mem_filter.1 h0).2;simp at this;simpa using this
theorem qru(ds:List Dk):(ds.map (λd=>(d.1,d.2.1))).filter (λd=>!qay win m d.2)=(qlr win m ds).map (λd=>(d.1,d.2.1)):=by
 unfold qlr qay;rw[List.filter_map,List.map_map];rfl
theorem qwy{ds:List Dk}(hk:e.kept=ds.map (λd=>(d.1,d.2.1)))(m:Int):qho e m=qom e.win (qlr e.win m ds):=by
 unfold qho qom;rw[hk,qru];unfold qlr;rw[List.map_map,List.filter_map,List.map_map,List.filter_map,List.map_map];rfl
theorem q6z(fs:List Fk):qxy win m fs=qf3 win (qfu win m fs) m:=by
 unfold qxy qf3;congr 1;apply List.filter_congr;intro f hf;unfold qfu at hf;obtain⟨f0,h0,rfl⟩:=List.mem_map.1 hf;have:=(List.mem_filter.1 h0).2;simp at this;simp[this]
theorem q5f{e':Eg}{y':Er}{ds:List Dk}(h:qib e y ds)(hok:qci e){c:Int}{r r':Int×Int}(h1:qq4 e c e' r)(h2:qm8 y c y' r'):r=r'/\∃ds',qib e' y' ds':=by
 have hcl:=h.clk;have q9n:=h.lat;have q73:=h.mark;rcases h1 with⟨hc,rfl,rfl⟩ | ⟨hc,hr,h1⟩
 ·rcases h2 with⟨_,rfl,rfl⟩ | ⟨hc',_⟩
  ·exact⟨rfl,ds,h⟩
  ·exact absurd hc' hc
 ·rcases h2 with⟨hc',_⟩ | ⟨_,h2⟩
  ·exact absurd hc hc'
  ·have q75:qd6 y c - y.lat<=y.mark↔c - e.lat<=e.mark:=by
    unfold qd6;split <;> omega
   rcases h1 with⟨hle,rfl⟩ | ⟨hlt,hm⟩
   ·rcases h2 with⟨qo5,rfl,rfl⟩ | ⟨qs0,_⟩
    ·refine⟨by rw[hr,q73],ds,⟨h.rs,h.win,h.lat,h.que,h.mark,?_,h.names,h.ne,h.kept,h.facts,h.least,h.beg,h.nodup,h.sok,h.state⟩⟩;refine⟨qo5,?_⟩;show 0<=qd6 y c/\qd6 y c<=1000000;unfold qd6;split <;> omega
    ·have:=q75.2 hle;omega
   ·rcases h2 with⟨qo5,_⟩ | ⟨qs0,rfl,st,hst,rfl⟩
    ·have:=q75.1 qo5;omega
    ·have hck:qd6 y c=c:=by unfold qd6;split <;> omega
     obtain⟨M',fds',hM,hl,hfd,rfl⟩:=hm;rw[qwy h.kept] at hM;have hm1:c - e.lat<=1000000:=by have:=hok.lat;omega
     refine⟨by rw[hr,hck,q9n],qlr e.win (c - e.lat) ds,⟨h.rs,h.win,h.lat,h.que,by show c - e.lat=qd6 y c - y.lat;rw[hck,q9n],?_,h.names,h.ne,?_,?_,hM,λd hd _=>q36 ds d hd,hst.1.nodup,hst.1.ok,?_⟩⟩
     ·show qd6 y c - y.lat<=qd6 y c - y.lat/\0<=qd6 y c/\qd6 y c<=1000000;rw[hck];omega
     ·show e.kept.filter _=_;rw[h.kept,qru]
     ·show qff _ (qfu y.win (qd6 y c - y.lat) y.facts);rw[hck,<- h.win,<- q9n];exact q1c h.facts
     ·intro g;show g∈st↔Dv y.rs (qf3 y.win (qfu y.win (qd6 y c - y.lat) y.facts) (qd6 y c - y.lat)) g;rw[<- q6z];exact hst.2 g
structure qtu(L:List Tm)(n m:Nat):Prop where
 le:n<=m
 lt:∀t∈L,t.num < m\/t.num=0
 all:∀v,n<=v->v < m->∃t∈L,t.name=eB/\t.num=v
theorem qtu.app{L L':List Tm}{n m k:Nat}(h:qtu L n m)(h':qtu L' m k):qtu (L++L') n k:=by
 refine⟨Nat.le_trans h.le h'.le,λt ht=>?_,λv h1 h2=>?_⟩
 ·have:=h'.le;rcases List.mem_append.1 ht with ht | ht
  ·rcases h.lt t ht with h | h
   ·left;omega
   ·exact .inr h
  ·exact h'.lt t ht
 ·by_cases hv:v < m
  ·obtain⟨t,ht,h3⟩:=h.all v h1 hv;exact⟨t,List.mem_append_left _ ht,h3⟩
  ·obtain⟨t,ht,h3⟩:=h'.all v (by omega) h2;exact⟨t,List.mem_append_right _ ht,h3⟩
theorem qvk(vs:List ByteArray)(t:RT):qtu [qf2 vs t] vs.length (qdl vs t).length:=by
 unfold qf2 qdl;by_cases h:t.kind=2
 ·rw[if_pos h,if_pos h];unfold Qc;by_cases hs:Qw vs t.text < vs.length
  ·rw[if_pos hs];exact⟨Nat.le_refl _,λu hu=>by simp only[List.mem_cons,List.not_mem_nil,or_false] at hu;subst hu;exact .inl hs,λv h1 h2=>by omega⟩
  ·rw[if_neg hs];have hle:Qw vs t.text<=vs.length:=List.findIdx_le_length;refine⟨by simp,λu hu=>?_,λv h1 h2=>⟨_,List.mem_cons_self,rfl,?_⟩⟩
   ·simp only[List.mem_cons,List.not_mem_nil,or_false] at hu;subst hu;left;simp;omega
   ·simp at h2;show Qw vs t.text=v;omega
 ·rw[if_neg h,if_neg h];exact⟨Nat.le_refl _,λu hu=>by simp only[List.mem_cons,List.not_mem_nil,or_false] at hu;subst hu;exact .inr rfl,λv h1 h2=>by omega⟩
theorem qmf:∀(us:List RT) (vs:List ByteArray) (L:List Tm) (vsF:List ByteArray) (n:Nat),qab vs us=some (L,vsF,n)->qtu L vs.length vsF.length/\1<=L.length
 | [],vs,L,vsF,n,h=>by simp[qab] at h
 | [a],vs,L,vsF,n,h=>by simp[qab] at h
 | a::b::us,vs,L,vsF,n,h=>by
  unfold qab at h;split at h
  ·simp only[Option.some.injEq,Prod.mk.injEq] at h;obtain⟨rfl,rfl,_⟩:=h;exact⟨qvk vs a,by simp⟩
  ·split at h
   ·rename_i l v' k hr;simp only[Option.some.injEq,Prod.mk.injEq] at h;obtain⟨rfl,rfl,_⟩:=h;exact⟨(qvk vs a).app (qmf us _ _ _ _ hr).1,by simp⟩
   ·cases h
theorem qra:∀(n f:Nat) (us:List RT) (vs:List ByteArray) (bs:List Am) (m:Nat),us.length<=n->qd5 f vs us=some (bs,m)->(∃k,qtu (bs.flatMap (·.args)) vs.length k)/\∀a∈bs,1<=a.args.length
 | n,f,us,vs,bs,m,hn,h=>by
  obtain⟨t,us1,rfl,⟨_,rfl,_⟩ | ⟨_,r,p,us2,l,vs',k,f',bs',m',rfl,h1,h2,rfl,_⟩⟩:=qkh h
  ·exact⟨⟨vs.length,⟨Nat.le_refl _,λ_ h=>by simp at h,λv h1 h2=>by omega⟩⟩,λ_ h=>by cases h⟩
  ·cases n with
   | zero=>simp at hn
   | succ n=>
    obtain⟨⟨q,ih⟩,ih2⟩:=qra n f' (us2.drop k) vs' bs' m' (by simp at hn ⊢;omega) h2;obtain⟨a1,a2⟩:=qmf us2 _ _ _ _ h1;refine⟨⟨q,?_⟩,λa ha=>?_⟩
    ·rw[List.flatMap_cons];exact a1.app ih
    ·rcases List.mem_cons.1 ha with rfl | ha
     ·exact a2
     ·exact ih2 a ha
theorem qr2:∀(n f:Nat) (us:List RT) (rs:List Rl),us.length<=n->qef f us=some rs->∀r∈rs,(∃k,qtu (Qr r) 0 k)/\∀a∈qy r,1<=a.args.length
 | n,f,us,rs,hn,h=>by
  obtain⟨t,us1,rfl,⟨_,rfl⟩ | ⟨_,p,us2,l,vs,k,bs,m,f',rs',rfl,h1,h2,h3,rfl⟩⟩:=qku h
  ·intro r hr;cases hr
  ·cases n with
   | zero=>simp at hn
   | succ n=>
    have ih:=qr2 n f' ((us2.drop k).drop (m+1)) rs' (by simp at hn ⊢;omega) h3;intro r hr;rcases List.mem_cons.1 hr with rfl | hr
    ·obtain⟨a1,a2⟩:=qmf us2 _ _ _ _ h1;obtain⟨⟨q,b1⟩,b2⟩:=qra _ _ _ _ _ _ zl h2;refine⟨⟨q,a1.app b1⟩,λa ha=>?_⟩;rcases List.mem_cons.1 ha with rfl | ha
     ·exact a2
     ·exact b2 a ha
    ·exact ih r hr
theorem qkj{p:Rl->Bool}:∀{rs:List Rl} {i:Nat},qba p rs i=none->∀r∈rs,p r=false
 | [],_,_,r,hr=>by cases hr
 | r0::rs,i,h,r,hr=>by
  unfold qba at h;split at h
  ·cases h
  ·rename_i hp;rcases List.mem_cons.1 hr with rfl | hr
   ·simpa using hp
   ·exact qkj h r hr
theorem qry:∀ {rs:List Rl} {vs:List ByteArray} {i:Nat},vs.length<=8->qa0 vs rs i=none->∀k,(qa5 vs (rs.take k)).length<=8
 | [],vs,i,h8,_,k=>by simpa [qa5] using h8
 | r::rs,vs,i,h8,h,k=>by
  cases k with
  | zero=>simpa [qa5] using h8
  | succ k=>
   unfold qa0 at h;split at h
   ·cases h
   ·rename_i hn;exact qry (rs:=rs) (by omega) h k
theorem qpk:∀(rs:List Rl) (vs:List ByteArray),qa5 vs rs=nmL vs (Qp (qap rs))
 | [],vs=>rfl
 | r::rs,vs=>by
  have ih:=qpk rs (nmL vs (Qr r));show qa5 (nmL vs (Qr r)) rs=_;rw[ih,<- qpn];congr 1;show _=(qy r++qap rs).flatMap (·.args);rw[List.flatMap_append];rfl
structure qwi(s:ByteArray)(rs:List Rl):Prop where
 new:qyf s rs
 two:qdj (arR rs) rs
 fine:∀Nm:List ByteArray,Nm.length<=8->eBy∉Nm->(∀x∈qa5 [] rs,x∈Nm)->qds rs Nm
 ne:eB∉qa5 [] rs
 names:qa5 [] rs=nmL [] (Qp (qap rs))
theorem qw0:∀(rs:List Rl),(∀r∈rs,r.body.length<=3)->(rs.flatMap qzq).length<=rs.length*4
 | [],_=>by simp
 | r::rs,h=>by
  have h1:=h r List.mem_cons_self;have h2:=qw0 rs (λx hx=>h x (List.mem_cons_of_mem _ hx));rw[List.flatMap_cons,List.length_append,List.length_cons];have:(qzq r).length=r.body.length+1:=rfl;omega
theorem qkr(s:ByteArray)(rs:List Rl)(h:qaz s=.ok rs):qwi s rs:=by
 have hsz:=q00 s rs h;have h':=h;unfold qaz at h;split at h
 ·cases h
 rename_i hL;split at h
 ·cases h
 rename_i ho;split at h
 ·cases h
 rename_i rs' hr;split at h
 ·cases h
 rename_i hsd;injection h with h;subst h;have qjw:(qbh rs').1=0:=by simpa using hsd
 obtain⟨rs2,q1,q2,q3⟩:=qhx ((Q3 s).length+1) (Q3 s) (lk0 false) (by omega) rfl rfl rfl (qet s) (by simpa [okO] using ho) (by decide);rw[hr] at q1;injection q1 with q1;subst q1;have h8:rs'.length<=8:=by simpa [lk0] using q2
 have q77:=qr2 _ _ _ _ zl hr
 have hA:∀r∈rs',qb4 (qap rs') r=false:=by
  unfold qbh at qjw;split at qjw
  ·cases qjw
  ·rename_i hf;exact qkj hf
 have hB:∀r∈rs',qdu r=false:=by
  unfold qbh at qjw;split at qjw
  ·cases qjw
  ·split at qjw
   ·cases qjw
   ·rename_i hf;exact qkj hf
 have hC:qa0 [] rs' 0=none:=by
  unfold qbh at qjw;split at qjw
  ·cases qjw
  ·split at qjw
   ·cases qjw
   ·split at qjw
    ·cases qjw
    ·assumption
 have har:∀a∈rs'.flatMap qy,a.args.length=arR rs' a.rel:=by
  intro a ha;obtain⟨r,hr',ha'⟩:=List.mem_flatMap.1 ha;have:=hA r hr';unfold qb4 at this;rw[List.any_eq_false] at this;have h1:=this a ha';unfold qgz at h1;rw[<- qn5];have h2:qac (qap rs') a.rel=a.args.length:=by simpa using h1
  exact h2.symm
 have q3q:∀r∈rs',∀t∈r.head.args,t.name=eB->∃a∈r.body,∃u∈a.args,u.name=eB/\u.num=t.num:=by
  intro r hr' t ht he;have:=hB r hr';unfold qdu at this;rw[List.any_eq_false] at this;have h1:=this t ht;unfold qgh at h1;have he':t.name.toList.isEmpty=true:=(Q8 _).2 he;rw[he'] at h1;have h2:qz r.body t.num=true:=by simpa using h1
  unfold qz at h2;obtain⟨a,ha,h3⟩:=List.any_eq_true.1 h2;obtain⟨u,hu,h4⟩:=List.any_eq_true.1 h3;unfold qhg at h4;simp only[Bool.and_eq_true,decide_eq_true_eq] at h4;exact⟨a,ha,u,hu,(Q8 _).1 h4.1,h4.2⟩
 have qqw:∀a∈rs'.flatMap qy,1<=a.args.length/\a.args.length<=2:=by
  intro a ha;obtain⟨r,hr',ha'⟩:=List.mem_flatMap.1 ha;refine⟨(q77 r hr').2 a ha',?_⟩;have:=q3 r hr';rcases List.mem_cons.1 ha' with rfl | ha'
  ·exact this.head.1
  ·exact (this.body a ha').1
 have q9z:∀r∈rs',∀t∈Qr r,t.num < 6:=by
  intro r hr' t ht;obtain⟨⟨k,hk⟩,_⟩:=q77 r hr'
  have hb:k<=6:=by
   have qix:∀v∈List.range k,v∈(r.body.flatMap (·.args)).map (·.num):=by
    intro v hv;rw[List.mem_range] at hv;obtain⟨u,hu,h1,h2⟩:=hk.all v (Nat.zero_le _) hv;unfold Qr at hu;rcases List.mem_append.1 hu with hu | hu
    ·obtain⟨a,ha,w,hw,h3,h4⟩:=q3q r hr' u hu h1;exact List.mem_map.2 ⟨w,List.mem_flatMap.2 ⟨a,ha,hw⟩,by omega⟩
    ·exact List.mem_map.2 ⟨u,hu,h2⟩
   have Q7:=qla (List.range k) _ List.nodup_range qix;rw[List.length_range,List.length_map] at Q7;have:=qle (λa:Am=>a.args) 2 r.body (λa ha=>((q3 r hr').body a ha).1);have:=(q3 r hr').few;omega
  rcases hk.lt t ht with h | h <;> omega
 have qd0:∀a∈rs'.flatMap qy,∀t∈a.args,t.num < 6:=by
  intro a ha t ht;obtain⟨r,hr',ha'⟩:=List.mem_flatMap.1 ha;refine q9z r hr' t ?_;unfold Qr;rcases List.mem_cons.1 ha' with rfl | ha'
  ·exact List.mem_append_left _ ht
  ·exact List.mem_append_right _ (List.mem_flatMap.2 ⟨a,ha',ht⟩)
 have q9w:∀r∈rs',qcd r:=by
  intro r hr';have h1:=hsz r hr';have h2:=q3 r hr';refine⟨⟨h1.1.1,h2.head.1,λt ht=>⟨h1.1.2 t ht,?_⟩⟩,h2.few,λa ha=>⟨(h1.2 a ha).1,(h2.body a ha).1,λt ht=>⟨(h1.2 a ha).2 t ht,?_⟩⟩⟩
  ·have:=qd0 r.head (List.mem_flatMap.2 ⟨r,hr',List.mem_cons_self⟩) t ht;omega
  ·have:=qd0 a (List.mem_flatMap.2 ⟨r,hr',List.mem_cons_of_mem _ ha⟩) t ht;omega
 have hnm:=qpk rs' []
 have qde:∀y,y∈qa5 [] rs'↔∃t∈Qp (qap rs'),t.name≠eB/\y=t.name:=by
  intro y;rw[hnm,qtd];simp
 have quy:∀r∈rs',∀t∈r.head.args,t.name≠eB->t.name∈qa5 [] rs':=λr hr' t ht hne=>(qde _).2 ⟨t,List.mem_flatMap.2 ⟨r.head,List.mem_flatMap.2 ⟨r,hr',List.mem_cons_self⟩,ht⟩,hne,rfl⟩;have hok:qic rs':=⟨h8,q9w,λa ha=>⟨har a ha,by have:=qqw a ha;omega⟩,qd0,q3q⟩;have q3w:s.size<=1200:=by have:=qcs s;rw[<- qcc] at this;omega
 have hps:=qpu s (by omega) q3w;rw[h'] at hps
 have hpr:qdv s=.ok rs':=by
  cases hp:qdv s with
  | error ep=>rw[hp] at hps;cases hps
  | ok rs3=>
   rw[hp] at hps;simp only at hps;split at hps
   ·cases hps
   ·injection hps with hps;rw[hps]
 have q3y:∀(a:Am) (v:Nat),qdk a v↔∃t∈a.args,t.name=eB/\t.num=v:=by
  intro a v;unfold qdk;constructor
  ·rintro⟨t,h1,h2,h3⟩;exact⟨t,h1,(Q8 _).1 h2,h3⟩
  ·rintro⟨t,h1,h2,h3⟩;exact⟨t,h1,(Q8 _).2 h2,h3⟩
 have hsv:∀r∈rs',∀v,qdk r.head v->∃a∈r.body,qdk a v:=by
  intro r hr' v hv;obtain⟨t,h1,h2,h3⟩:=(q3y _ _).1 hv;obtain⟨a,ha,u,hu,h4,h5⟩:=q3q r hr' t h1 h2;exact⟨a,ha,(q3y _ _).2 ⟨u,hu,h4,h5.trans h3⟩⟩
 refine⟨⟨hpr,?_,hok,qry (by simp) hC,quy,?_⟩,⟨λr hr' a ha=>?_,hsv⟩,λNm n8 ne qix=>⟨λr hr'=>⟨(q3 r hr').few,λa ha=>?_,hsv r hr'⟩,n8,ne,λr hr' t ht he=>?_,?_⟩,?_,hnm⟩
 ·unfold qel;rw[<- qcc,if_neg hL,hpr];simp only;rw[qrd,qjw];rfl
 ·intro x hx;obtain⟨t,ht,_,rfl⟩:=(qde x).1 hx;obtain⟨a,ha,ht'⟩:=List.mem_flatMap.1 ht;obtain⟨r,hr',ha'⟩:=List.mem_flatMap.1 ha;rcases List.mem_cons.1 ha' with rfl | ha'
  ·exact ((q9w r hr').head.tms t ht').name
  ·exact (((q9w r hr').ams a ha').tms t ht').name
 ·have hm:a∈rs'.flatMap qy:=List.mem_flatMap.2 ⟨r,hr',ha⟩;exact⟨⟨by have:=qqw a hm;omega,qd0 a hm⟩,har a hm⟩
 ·have hm:a∈rs'.flatMap qy:=List.mem_flatMap.2 ⟨r,hr',ha⟩;exact⟨(qqw a hm).2,λt ht=>by have:=qd0 a hm t ht;omega⟩
 ·refine qix _ (quy r hr' t ht (λe=>?_));rw[e] at he;rw[show qg eB=true from qck] at he;cases he
 ·have:=qw0 rs' (λr hr'=>(q3 r hr').few);omega
 ·intro hm;obtain⟨t,_,h1,h2⟩:=(qde _).1 hm;exact h1 h2.symm
theorem qy4{s:ByteArray}{c:Int}{p:Nat}(hp:qaz s=.error (c,p)):(qel s).2.1=c:=by
 unfold qel;rw[<- qcc];by_cases hL:300 < (R s 0).length
 ·rw[if_pos hL];unfold qaz at hp;rw[if_pos hL] at hp;injection hp with hp;exact (congrArg Prod.fst hp)
 ·rw[if_neg hL];have hz:s.size<=1200:=by have:=qcs s;rw[<- qcc] at this;omega
  rw[qpu s (by omega) hz] at hp
  cases hq:qdv s with
  | error ep=>
   rw[hq] at hp;obtain⟨c',p'⟩:=ep;injection hp with hp;simp only[Prod.mk.injEq] at hp;exact hp.1
  | ok rs=>
   rw[hq] at hp;simp only at hp ⊢;split at hp
   ·rename_i hs;injection hp with hp;rw[qrd];simp only;rw[if_neg hs,hp]
   ·cases hp
def qbm(win lat que:Int):Prop:=(1<=win/\win<=1000)/\(0<=lat/\lat<=1000)/\1<=que/\que<=50
def qql(s:ByteArray)(win lat que:Int)(w:Wq)(e:Ending)(w':Wq):Prop:=
 match qaz s with
 | .error (c,_)=>e=.returned (.tuple #[.pointer none,.int .i64 c])/\Below w.heap.size w w'
 | .ok rs=>(qbm win lat que/\qk5 rs win lat que w e w')\/(¬qbm win lat que/\e=.returned (.tuple #[.pointer none,.int .i64 6])/\Below w.heap.size w w')
theorem q4k(s:ByteArray)(win lat que:Int)(w:Wq)(hs:s.size<=1048576)(hT:Lib.Utf8Tabs 0 1 w) :
  Calls Tryz.prog 39 #[.string s,.int .i64 win,.int .i64 lat,.int .i64 que] w (qql s win lat que w):=by
 have hrd:Hid _:=qno s w (by omega) hT
 cases hp:qaz s with
 | error cp=>
  obtain⟨c,p⟩:=cp;have hc0:c≠0:=qhv s c p hp
  have hu:qql s win lat que w=λe w'=>e=.returned (.tuple #[.pointer none,.int .i64 c])/\Below w.heap.size w w':=by
   funext e w';unfold qql;rw[hp]
  rw[hu];have hrc:(qel s).2.1=c:=qy4 hp
  have hr2:Hid (Calls Tryz.prog 30 #[.string s] w λe w'=>∃(p:Int),e=.returned (.tuple #[.slice none 0 0,.int .i64 c,.int .i64 p])/\Below w.heap.size w w'):=by
   refine Calls.mono hrd.out ?_;rintro e w' ⟨hb,⟨c',p',he,hc,hr⟩ | ⟨rs',v,b45,b87,he,hR,_,_,hr,_,_⟩⟩
   ·rw[hr] at hrc;obtain rfl:c'=c:=hrc;exact⟨p',he,hb⟩
   ·rw[hr] at hrc;exact absurd hrc.symm hc0
  have hcb:(c == 0)=false:=by simpa using hc0
  clear hrd hu hT hp hrc;go_enter Tryz.func39,Tryz.ntmps39;go_wp2_with fail;refine Calls.mono hr2.out ?_;rintro e' W1 ⟨p',rfl,hb1⟩;clear hr2;go_wp2;go_ret2;exact⟨rfl,hb1⟩
 | ok rs=>
  have qfq:=qkr s rs hp;by_cases ha:qbm win lat que
  ·refine (q6w s rs win lat que w qfq.new (by omega) hT ha.1 ha.2.1 ha.2.2).mono ?_;intro e w' h;unfold qql;rw[hp];exact .inl ⟨ha,h⟩
  ·have hr2:Hid (Calls Tryz.prog 30 #[.string s] w λe w'=>∃(ra:Option Addr) (rc:Nat),e=.returned (.tuple #[.slice ra rs.length rc,.int .i64 0,.int .i64 0])/\Below w.heap.size w w'):=by
    refine Calls.mono hrd.out ?_;rintro e w' ⟨hb,⟨c',p',he,hc,hr⟩ | ⟨rs',v,b45,b87,he,hR,_,_,hr,hp',_⟩⟩
    ·have:=qfq.new.rules;rw[hr] at this;exact absurd this hc
    ·have hrs:rs'=rs:=by
      have:=hp'.symm.trans qfq.new.parse;injection this
     subst hrs;obtain⟨ra,rc,hf⟩:=hR.form;subst hf;exact⟨ra,rc,he,hb⟩
   have hu:qql s win lat que w=λe w'=>(qbm win lat que/\qk5 rs win lat que w e w')\/(¬qbm win lat que/\e=.returned (.tuple #[.pointer none,.int .i64 6])/\Below w.heap.size w w'):=by
    funext e w';unfold qql;rw[hp]
   rw[hu];have HA:Hid (¬qbm win lat que):=ha
   have hwi:Hid (∀(n l m:Int) W,Calls Tryz.prog 43 #[.int .i64 n,.int .i64 l,.int .i64 m] W λe' w'=>e'=.returned (.bool (decide (l<=n) && decide (n<=m)))/\W=w'):=λn l m W=>by
    refine (qe6 n l m W).mono ?_;rintro e' w' ⟨h1,h2⟩;exact⟨h1,h2.symm⟩
   have Qcw:¬(1<=win/\win<=1000)\/((1<=win/\win<=1000)/\¬(0<=lat/\lat<=1000))\/((1<=win/\win<=1000)/\(0<=lat/\lat<=1000)/\¬(1<=que/\que<=50)):=by
    unfold qbm at ha;omega
   clear hrd hu hT hp ha qfq;go_enter Tryz.func39,Tryz.ntmps39;go_wp2_with fail;refine Calls.mono hr2.out ?_;rintro e' W1 ⟨ra,rc,rfl,hb1⟩;clear hr2;have HB:Hid (Below w.heap.size w W1):=hb1;go_wp2_with fail;refine (hwi.out win 1 1000 _).mono ?_;rintro e' w' ⟨rfl,hw'⟩;subst hw';rcases Qcw with hc | ⟨hc,hc2⟩ | ⟨hc,hc2,hc3⟩
   ·rw[show (decide (1<=win) && decide (win<=1000))=false by simpa using hc];clear hc hwi;go_wp2;go_ret2;exact .inr ⟨HA.out,rfl,HB.out⟩
   ·rw[show (decide (1<=win) && decide (win<=1000))=true by simpa using hc];go_wp2_with fail;refine (hwi.out lat 0 1000 _).mono ?_;rintro e' w' ⟨rfl,hw'⟩;subst hw';rw[show (decide (0<=lat) && decide (lat<=1000))=false by simpa using hc2];clear hc hc2 hwi;go_wp2;go_ret2;exact .inr ⟨HA.out,rfl,HB.out⟩
   ·rw[show (decide (1<=win) && decide (win<=1000))=true by simpa using hc];go_wp2_with fail;refine (hwi.out lat 0 1000 _).mono ?_;rintro e' w' ⟨rfl,hw'⟩;subst hw';rw[show (decide (0<=lat) && decide (lat<=1000))=true by simpa using hc2];go_wp2_with fail;refine (hwi.out que 1 50 _).mono ?_;rintro e' w' ⟨rfl,hw'⟩;subst hw';rw[show (decide (1<=que) && decide (que<=50))=false by simpa using hc3];clear hc hc2 hc3 hwi;go_wp2;go_ret2;exact .inr ⟨HA.out,rfl,HB.out⟩
