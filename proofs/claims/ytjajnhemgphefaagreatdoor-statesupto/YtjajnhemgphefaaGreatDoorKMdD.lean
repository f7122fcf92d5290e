/- A part -/
import Derived.Test.YtjajnhemgphefaaGreatDoorKRefT
import Derived.Lib.ItoaNum
import Derived.Deep.RegionLawGrows
import Derived.Maps.AppendAt
import Derived.BigRegion
set_option linter.all false
set_option maxRecDepth 100000
set_option maxHeartbeats 8000000
namespace Go.Proofs.YtjajnhemgphefaaGreatDoor
open Go renaming World->Wq,Value->Vq
open Go.RowKit Go.Shelf
variable {W W' X:Wq} {l aa:List By} {x rel:By} {N:Nat} {va vg:Vq}
def lk0(alone:Bool):Lk:=⟨0,false,alone,0,0,0,0⟩
def qay(s:By):Except (Int×Nat) (List Rl):=
 if 300 < (R s 0).length then .error (1,0)
 else if (Qw (lk0 false) (Q6 s)).1≠0 then .error (Qw (lk0 false) (Q6 s))
 else match qej ((Q6 s).length+1) (Q6 s) with
  | none=>.error (0,0)
  | some rs=>if (qbg rs).1≠0 then .error (qbg rs) else .ok rs
theorem qmd:∀(f:Nat) (l:List Rn) (i:Nat),(qbt f l i).length<=l.length
 | 0,l,i=>by simp[qbt]
 | f+1,[],i=>by simp[qbt]
 | f+1,r::l,i=>by
  unfold qbt;have h1:=qmd f (l.drop (tw l).length) (i+(1+(tw l).length));have h2:=qmd f l (i+1);have h3:=qmd f (l.drop 1) (i+2);rw[List.length_drop] at h1 h3
  repeat' split
  all_goals simp only[List.length_cons]
  all_goals omega
theorem qod(s:By):(Q6 s).length<=(R s 0).length+1:=by
 unfold Q6;have:=qmd (R s 0).length (R s 0) 0;simp;omega
theorem qe2(s:By):qef (Q6 s):=⟨_,_,rfl,rfl⟩
theorem q8u(rs:List Rl)(h:∀r∈rs,qhr r):(Qp (qap rs)).length<=8*rs.length:=by
 induction rs with
 | nil=>simp[qap,Qp]
 | cons r rs ih=>
  have h1:=h r zs;have h2:=ih (λr' dz=>h r' (zt dz))
  have e:Qp (qap (r::rs))=r.head.args++Qp r.body++Qp (qap rs):=by
   unfold qap Qp qx;simp only[List.flatMap_cons,List.flatMap_append,List.cons_append];rw[List.append_assoc]
  have hb:∀(bs:List Am),(∀a∈bs,a.args.length<=2)->(Qp bs).length<=2*bs.length:=by
   intro bs
   induction bs with
   | nil=>intro _;simp[Qp]
   | cons a bs ihb=>
    intro hh;have x1:=hh a zs;have x2:=ihb (λa' d9=>hh a' (zt d9));unfold Qp at x2 ⊢;simp only[List.flatMap_cons,List.length_append,List.length_cons];omega
  have h3:=hb r.body (λa ha=>(h1.body a ha).1);have h4:=h1.head.1;have h5:=h1.few;rw[e];simp only[List.length_append,List.length_cons];omega
theorem q8k{qs:List (Rl×Vq×Vq)}{rs:List Rl}(hq:qs.map (·.1)=rs)(h8:rs.length<=8)(h:∀r∈rs,qhr r):qkf qs:=by
 have hl:qs.length=rs.length:=by rw[<- hq];simp
 have hm:∀q∈qs,qhr q.1:=λq b4=>h q.1 (by rw[<- hq];exact List.mem_map.2 ⟨q,b4,rfl⟩);refine⟨by omega,λq b4=>by have:=(hm q b4).few;omega,?_,λa ha=>?_⟩
 .have:=q8u rs h;rw[qmt,hq];omega
 .obtain⟨q,b4,cb⟩:=List.mem_flatMap.1 ha;have hs:=hm q b4;rcases List.mem_cons.1 cb with rfl | cb
  .exact⟨by have:=hs.head.1;omega,λt ht=>by have:=hs.head.2 t ht;omega⟩
  .exact⟨by have:=(hs.body a cb).1;omega,λt ht=>by have:=(hs.body a cb).2 t ht;omega⟩
theorem qmm{B:Nat}{v:Vq}{ts:List RT}(h:W.ownsRow B 244 4 v ts.length (ts.flatMap rtC))(cl:0 < ts.length):∃g cap,v=Sc g ts.length cap/\qg3 W g ts:=by
 obtain⟨g,cap,e1,e2,e3,e4,e5⟩:=qb0 h q8o cl;refine⟨g,cap,e1,⟨e3,λj hj=>⟨e5 j 0 hj _ (by decide) rfl,e5 j 1 hj _ (by decide) rfl,e5 j 2 hj _ (by decide) rfl,e5 j 3 hj _ (by decide) rfl⟩⟩,?_⟩;exact qh h (by rw[e1];rfl)
def qc5(s:By)(e:Ending)(w':Wq):Prop:=
 match qay s with
 | .error (c,p)=>e=.returned (.tuple #[.slice none 0 0,.int .i64 c,.int .i64 p])
 | .ok rs=>∃v qs,e=.returned (.tuple #[v,.int .i64 0,.int .i64 0])/\qag w' v qs/\qs.map (·.1)=rs/\qkf qs/\rs.length<=8/\∀r∈rs,qhr r
theorem q1v(s:By)(w:Wq)(hs:s.size<=1048576) :
  Cs 64 #[.string s] w λe w'=>qc5 s e w'/\Below w.heap.size w w':=by
 obtain⟨N,hN⟩:∃N,N=w.heap.size:=⟨_,rfl⟩;have ag:=hN.symm;have bd:=qnj s w hs;rw[<- hN] at bd ⊢;by_cases ak:300 < (R s 0).length
 .have hD:qay s=.error (1,0):=by unfold qay;rw[if_pos ak]
  have HD:Hid (∀(e:Ending) (w':Wq),e=.returned (.tuple #[.slice none 0 0,.int .i64 1,.int .i64 0])->qc5 s e w'):=by
   intro e w' he;unfold qc5;rw[hD];exact he
  clear hD;generalize R s 0=L at *;go_enter Tryz.func64,Tryz.ntmps64;go_wp2_with fail;refine bd.mono ?_;rintro e W1 ⟨v1,rfl,a6,ay⟩;obtain⟨a1,c1,rfl⟩:=qd a6;clear a6 bd;go_wp2
  go_ret3
  exact⟨HD.out _ _ rfl,ay⟩
 .have hL:(R s 0).length<=300:=by omega
  have cp:=λW1=>qqz s W1 hs hL;have el:=qod s;have b9:=qe2 s
  have hD:qay s=if (Qw (lk0 false) (Q6 s)).1≠0 then .error (Qw (lk0 false) (Q6 s)) else match qej ((Q6 s).length+1) (Q6 s) with
   | none=>.error (0,0)
   | some rs=>if (qbg rs).1≠0 then .error (qbg rs) else .ok rs:=by unfold qay;rw[if_neg ak]
  generalize Q6 s=ts at *
  have cl:0 < ts.length:=by
   obtain⟨pre,E,h1,_⟩:=b9;rw[h1];simp
  have cg:=λ(g cap:Nat) (W:Wq) (h:qe7 W g ts)=>qwa g cap ts false W h (by omega);by_cases a8:(Qw (lk0 false) ts).1=0
  .obtain⟨rs,b3,ct,c3⟩:=qh5 (ts.length+1) ts (lk0 false) (by omega) rfl rfl rfl b9 a8 (by decide);rw[if_neg (by simpa using a8),b3] at hD;simp only at hD;have dn:=λ(g cap:Nat) (W:Wq) (h:qg3 W g ts)=>q5z g cap ts (ts.length+1) rs W h (by omega) b3;have h8:rs.length<=8:=by simp[lk0] at ct;exact ct
   have HD:Hid (qay s=if (qbg rs).1≠0 then .error (qbg rs) else .ok rs):=hD;have dm:Hid (∀r∈rs,qhr r):=c3
   have c9:Hid (∀(g cap:Nat) (W:Wq),qe7 W g ts->Cs 108 #[Sc g ts.length cap,.bool false] W λe w'=>(∃p:Nat,e=.returned (.tuple #[.int .i64 0,.int .i64 p]))/\Below W.heap.size W w'):=by
    intro g cap W h;refine (cg g cap W h).mono ?_;rintro e w' ⟨rfl,hb⟩;refine⟨⟨(Qw (lk0 false) ts).2,?_⟩,hb⟩;have e0:(Qw ⟨0,false,false,0,0,0,0⟩ ts).1=0:=a8;rw[e0];rfl
   clear cg hD b3 ct c3 a8 b9 ak;generalize R s 0=L at *;go_enter Tryz.func64,Tryz.ntmps64;go_wp2_with fail;refine bd.mono ?_;rintro e W1 ⟨v1,rfl,a6,ay⟩;obtain⟨a1,c1,rfl⟩:=qd a6;clear a6 bd;go_wp2_with fail;refine (cp W1).mono ?_;rintro e W2 ⟨v2,rfl,bn,av⟩;obtain⟨g,cap,rfl,bb⟩:=qmm bn cl;have bo:N<=W1.heap.size:=by have:=ay.size;omega
   have bt:Below N w W2:=ay.trans (av.mono bo);have ci:N<=W2.heap.size:=Nat.le_trans bo av.size;clear bn cp ay av;go_wp2_with fail;refine (c9.out g cap W2 bb.1).mono ?_;rintro e W3 ⟨⟨p3,rfl⟩,be⟩;have dj:=bb.below be bb.1.1;have cn:Below N w W3:=bt.trans (be.mono ci);have dh:N<=W3.heap.size:=Nat.le_trans ci be.size;clear be bb c9 bt;go_wp2_with fail;refine (dn g cap W3 dj).mono ?_;rintro e W4 ⟨v4,qs,rfl,hO,hq⟩;have cj:=hO.rules;have cq:Below N w W4:=cn.trans (hO.below.mono dh);have c6:N<=W4.heap.size:=Nat.le_trans dh hO.size;have cw:=q8k hq h8 dm.out;have bj:=q2b v4 qs W4 cj cw;rw[hq] at bj;clear dn hO cn dj;by_cases bu:(qbg rs).1=0
   .have bq:Hid (∀(e:Ending) (w':Wq),(∃v qs,e=.returned (.tuple #[v,.int .i64 0,.int .i64 0])/\qag w' v qs/\qs.map (·.1)=rs/\qkf qs/\rs.length<=8/\∀r∈rs,qhr r)->qc5 s e w'):=by
     intro e w' he;unfold qc5;rw[HD.out,if_neg (by simpa using bu)];exact he
    rw[bu] at bj;go_wp2_with fail;refine bj.mono ?_;rintro e W5 ⟨rfl,bi⟩;have d8:=cj.below bi;have cv:Below N w W5:=cq.trans (bi.mono c6);clear bj cj bi cq;go_wp2
    go_ret3
    exact⟨bq.out _ _ ⟨v4,qs,rfl,d8,hq,cw,h8,dm.out⟩,cv⟩
   .have bq:Hid (∀(e:Ending) (w':Wq),e=.returned (.tuple #[.slice none 0 0,.int .i64 (qbg rs).1,.int .i64 (qbg rs).2])->qc5 s e w'):=by
     intro e w' he;unfold qc5;rw[HD.out,if_pos bu];exact he
    generalize (qbg rs).1=se at *;generalize (qbg rs).2=si at *;have m0:(se == 0)=false:=by simpa using bu
    have m1:(se != 0)=true:=by simpa using bu
    go_wp2_with fail;refine bj.mono ?_;rintro e W5 ⟨rfl,bi⟩;have cv:Below N w W5:=cq.trans (bi.mono c6);clear bj cj bi cq;go_wp2
    go_ret3
    exact⟨bq.out _ _ rfl,cv⟩
  .rw[if_pos a8] at hD
   have bq:Hid (∀(e:Ending) (w':Wq),e=.returned (.tuple #[.slice none 0 0,.int .i64 (Qw (lk0 false) ts).1,.int .i64 (Qw (lk0 false) ts).2])->qc5 s e w'):=by
    intro e w' he;unfold qc5;rw[hD];exact he
   have dq:Hid (∀(g cap:Nat) (W:Wq),qe7 W g ts->Cs 108 #[Sc g ts.length cap,.bool false] W λe w'=>e=.returned (.tuple #[.int .i64 (Qw (lk0 false) ts).1,.int .i64 (Qw (lk0 false) ts).2])/\Below W.heap.size W w'):=cg;clear cg hD b9 ak;generalize (Qw (lk0 false) ts).1=oe at *;generalize (Qw (lk0 false) ts).2=op at *;generalize R s 0=L at *;have m0:(oe == 0)=false:=by simpa using a8
   have m1:(oe != 0)=true:=by simpa using a8
   go_enter Tryz.func64,Tryz.ntmps64;go_wp2_with fail;refine bd.mono ?_;rintro e W1 ⟨v1,rfl,a6,ay⟩;obtain⟨a1,c1,rfl⟩:=qd a6;clear a6 bd;go_wp2_with fail;refine (cp W1).mono ?_;rintro e W2 ⟨v2,rfl,bn,av⟩;obtain⟨g,cap,rfl,bb⟩:=qmm bn cl;have bo:N<=W1.heap.size:=by have:=ay.size;omega
   have bt:Below N w W2:=ay.trans (av.mono bo);have ci:N<=W2.heap.size:=Nat.le_trans bo av.size;clear bn cp ay av;go_wp2_with fail;refine (dq.out g cap W2 bb.1).mono ?_;rintro e W3 ⟨rfl,be⟩;have cn:Below N w W3:=bt.trans (be.mono ci);clear be bb dq bt;go_wp2
   go_ret3
   exact⟨bq.out _ _ rfl,cn⟩
def tmW(t:Tm):By:=if t.name.toList.isEmpty=true then ⟨#[88]⟩++Qfq t.num else t.name
def q85:Nat->List Tm->By
 | _,[]=>⟨#[]⟩
 | i,t::l=>(if 0 < i then ⟨#[44]⟩ else ⟨#[]⟩)++tmW t++q85 (i+1) l
def q86(a:Am):By:=(a.rel ++ ⟨#[40]⟩)++q85 0 a.args ++ ⟨#[41]⟩
theorem q0d(x:By):x ++ ⟨#[]⟩=x:=by show x++ByteArray.empty=x;simp
theorem q0s(x:By):(⟨#[]⟩:By)++x=x:=by show ByteArray.empty++x=x;simp
def q2r(K:Nat)(a:Am):Prop:=a.rel.size<=K/\∀t∈a.args,t.name.size<=K
def Qct(K:Nat)(r:Rl):Prop:=q2r K r.head/\∀a∈r.body,q2r K a
theorem qiu(K:Nat):∀(us:List RT) (vs:List By) (L:List Tm) (ch:List By) (n:Nat),(∀u∈us,u.text.size<=K)->qaf vs us=some (L,ch,n)->∀t∈L,t.name.size<=K
 | [],vs,L,ch,n,_,h=>by simp[qaf] at h
 | [a],vs,L,ch,n,_,h=>by simp[qaf] at h
 | a::b::us,vs,L,ch,n,hu,h=>by
  have ha:(qge vs a).name.size<=K:=by
   unfold qge;split
   .exact zz
   .exact hu a zs
  unfold qaf at h;split at h
  .simp only[Option.some.injEq,Prod.mk.injEq] at h;obtain⟨rfl,rfl,rfl⟩:=h;intro t ht;simp at ht;subst ht;exact ha
  .cases hr:qaf (qdp vs a) us with
   | none=>rw[hr] at h;simp at h
   | some r=>
    obtain⟨l',v',n'⟩:=r;rw[hr] at h;simp only[Option.some.injEq,Prod.mk.injEq] at h;obtain⟨rfl,rfl,rfl⟩:=h;have ih:=qiu K us _ _ _ _ (λu ap=>hu u (zt (zt ap))) hr;intro t ht;rcases List.mem_cons.1 ht with rfl | ht
    .exact ha
    .exact ih t ht
theorem quo(K:Nat):∀(n f:Nat) (us:List RT) (vs:List By) (bs:List Am) (m:Nat),us.length<=n->(∀u∈us,u.text.size<=K)->qea f vs us=some (bs,m)->∀a∈bs,q2r K a
 | n,f,us,vs,bs,m,hn,hu,h=>by
  obtain⟨t,d7,rfl,⟨_,rfl,_⟩ | ⟨_,r,p,a7,l,dw,k,f',dt,m',rfl,h1,h2,rfl,_⟩⟩:=qkt h
  .intro a ha;cases ha
  .cases n with
   | zero=>simp at hn
   | succ n=>
    have b5:∀u∈a7,u.text.size<=K:=λu ap=>hu u (zt (zt (zt ap)));have ih:=quo K n f' (a7.drop k) dw dt m' (by simp at hn ⊢;omega) (λu ap=>b5 u (List.mem_of_mem_drop ap)) h2;intro a ha;rcases List.mem_cons.1 ha with rfl | ha
    .exact⟨hu r (zt zs),qiu K a7 _ _ _ _ b5 h1⟩
    .exact ih a ha
theorem qwd(K:Nat):∀(n f:Nat) (us:List RT) (rs:List Rl),us.length<=n->(∀u∈us,u.text.size<=K)->qej f us=some rs->∀r∈rs,Qct K r
 | n,f,us,rs,hn,hu,h=>by
  obtain⟨t,d7,rfl,⟨_,rfl⟩ | ⟨_,p,a7,l,vs,k,bs,m,f',c8,rfl,h1,h2,h3,rfl⟩⟩:=qk9 h
  .intro r hr;cases hr
  .cases n with
   | zero=>simp at hn
   | succ n=>
    have b5:∀u∈a7,u.text.size<=K:=λu ap=>hu u (zt (zt ap));have c7:∀u∈a7.drop k,u.text.size<=K:=λu ap=>b5 u (List.mem_of_mem_drop ap);have ih:=qwd K n f' ((a7.drop k).drop (m+1)) c8 (by simp at hn ⊢;omega) (λu ap=>c7 u (List.mem_of_mem_drop ap)) h3;intro r hr;rcases List.mem_cons.1 hr with rfl | hr
    .exact⟨⟨hu t zs,qiu K a7 _ _ _ _ b5 h1⟩,quo K _ _ _ _ _ _ zl c7 h2⟩
    .exact ih r hr
theorem q3h(l:List Rn)(h:∀r∈l,r.text.size<=4):(cat l).size<=4*l.length:=by
 induction l with
 | nil=>exact Nat.le_refl 0
 | cons x l ih=>
  have h1:=h x zs;have h2:=ih (λr hr=>h r (zt hr));simp only[cat,ByteArray.size_append,List.length_cons];omega
theorem Qcb(l:List Rn):∀r∈tw l,r∈l:=λr hr=>by rw[qgs] at hr;exact List.mem_of_mem_take hr
theorem qj0:∀(f:Nat) (l:List Rn) (i:Nat),(∀r∈l,r.text.size<=4)->∀t∈qbt f l i,t.text.size<=4*l.length
 | 0,l,i,_,t,ht=>by simp[qbt] at ht
 | f+1,[],i,_,t,ht=>by simp[qbt] at ht
 | f+1,r::l,i,h,t,ht=>by
  have hr:=h r zs;have hl:∀x∈l,x.text.size<=4:=λx hx=>h x (zt hx);have hc:=q3h (tw l) (λx hx=>hl x (Qcb l x hx));have ek:=qzz l;have i1:=qj0 f (l.drop (tw l).length) (i+(1+(tw l).length)) (λx hx=>hl x (List.mem_of_mem_drop hx)) t;have i2:=qj0 f l (i+1) hl t;have i3:=qj0 f (l.drop 1) (i+2) (λx hx=>hl x (List.mem_of_mem_drop hx)) t;rw[List.length_drop] at i1 i3;simp only[List.length_cons];unfold qbt at ht;split at ht
  .rcases List.mem_cons.1 ht with rfl | ht
   .simp only[ByteArray.size_append];omega
   .have:=i1 ht;omega
  .split at ht
   .rcases List.mem_cons.1 ht with rfl | ht
    .simp only;omega
    .have:=i2 ht;omega
   .split at ht
    .rcases List.mem_cons.1 ht with rfl | ht
     .show (0:Nat)<=_;omega
     .have:=i3 ht;omega
    .split at ht
     .have:=i2 ht;omega
     .rcases List.mem_cons.1 ht with rfl | ht
      .simp only;omega
      .have:=i2 ht;omega
theorem qh4(s:By)(hL:(R s 0).length<=300):∀t∈Q6 s,t.text.size<=1200:=by
 intro t ht;unfold Q6 at ht;rcases List.mem_append.1 ht with ht | ht
 .have:=qj0 _ _ _ (λr hr=>(qw2 s s.size 0 (by omega) r hr).2) t ht;omega
 .simp at ht;subst ht;exact zz
theorem q1t(s:By)(rs:List Rl)(h:qay s=.ok rs):∀r∈rs,Qct 1200 r:=by
 unfold qay at h;split at h
 .cases h
 .rename_i hL;split at h
  .cases h
  .split at h
   .cases h
   .rename_i c8 hr;split at h
    .cases h
    .injection h with h;subst h;exact qwd 1200 _ _ _ _ zl (qh4 s (by omega)) hr
def q87:Nat->List Am->By
 | _,[]=>⟨#[]⟩
 | i,a::l=>(if i=0 then ⟨#[32,58,45,32]⟩ else ⟨#[44,32]⟩)++q86 a++q87 (i+1) l
def Qe5(r:Rl):By:=q86 r.head++q87 0 r.body ++ ⟨#[46,10]⟩
def q53:List Rl->By
 | []=>⟨#[]⟩
 | r::l=>Qe5 r++q53 l
def Qe4(s:By):By×Int×Nat:=
 match qay s with
 | .error (c,p)=>(⟨#[]⟩,c,p)
 | .ok rs=>(q53 rs,0,0)
theorem qh3(s:By)(c:Int)(p:Nat)(h:qay s=.error (c,p)):c≠0:=by
 unfold qay at h;split at h
 .injection h with h;injection h with h1 h2;omega
 .split at h
  .rename_i ho;injection h with h;rw[h] at ho;exact ho
  .rename_i ho;obtain⟨rs,b3,_,_⟩:=qh5 ((Q6 s).length+1) (Q6 s) (lk0 false) (by omega) rfl rfl rfl (qe2 s) (by unfold okO;simpa using ho) (by decide);rw[b3] at h;simp only at h;split at h
   .rename_i hs;injection h with h;rw[h] at hs;exact hs
   .cases h
structure Gr where
 rel:By
 args:List By
def qt(W:Wq)(v:Vq)(l:List By):Prop:=W.ownsRow 0 9 1 v l.length (l.map Value.string)
def gdC(p:Gr×Vq):List Vq:=[.string p.1.rel,p.2]
theorem q7i(p:Gr×Vq):(gdC p).length=2:=rfl
def gdV(p:Gr×Vq):Vq:=.agg #[.string p.1.rel,p.2]
structure qc3(W:Wq)(v:Vq)(ps:List (Gr×Vq)):Prop where
 row:W.ownsRow 0 226 2 v ps.length (ps.flatMap gdC)
 each:∀p∈ps,qt W p.2 p.1.args
theorem qt.below{v:Vq}(h:qt W v l)(hb:Below W.heap.size W W'):qt W' v l:=qk h hb
theorem qc3.below{v:Vq}{ps:List (Gr×Vq)}(h:qc3 W v ps)(hb:Below W.heap.size W W'):qc3 W' v ps:=⟨qk h.row hb,λp hp=>(h.each p hp).below hb⟩
theorem qt.cell{v:Vq}(h:qt W v l)(j:Nat)(hj:j < l.length):∃g cap,v=Sc g l.length cap/\g < W.heap.size/\W.cell? (Ad g j)=some (.string l[j]):=by
 unfold qt at h;rw[qj3] at h;obtain⟨g,cap,e1,e2,e3,e4,e5⟩:=qb0 h qmk (by omega);have:=e5 j 0 hj (.string l[j]) (by decide) rfl;rw[Nat.mul_one,Nat.add_zero] at this;exact⟨g,cap,e1,e3,this⟩
theorem qc3.cell{v:Vq}{ps:List (Gr×Vq)}(h:qc3 W v ps)(k:Nat)(hk:k < ps.length) :
  ∃g cap,v=Sc g ps.length cap/\g < W.heap.size/\W.cell? (Ad g (k*2))=some (.string ps[k].1.rel)/\W.cell? (Ad g (k*2+1))=some ps[k].2/\(∃a c,ps[k].2=.slice a ps[k].1.args.length c)/\qt W ps[k].2 ps[k].1.args:=by
 obtain⟨g,cap,e1,e2,e3,e4,e5⟩:=qb0 h.row q7i (by omega);have hA:=h.each ps[k] (zm hk);exact⟨g,cap,e1,e3,e5 k 0 hk _ (by decide) rfl,e5 k 1 hk _ (by decide) rfl,qd hA,hA⟩
theorem qxd{y:By}(h:x.toList=y.toList):x=y:=by
 rw[ByteArray.toList_eq,ByteArray.toList_eq] at h;exact ByteArray.ext (Array.toList_inj.1 h)
theorem qeo(x y:By):(x.toList == y.toList)=decide (x=y):=by
 rw[Bool.eq_iff_iff];simp only[beq_iff_eq,decide_eq_true_eq];exact⟨qxd,λh=>by rw[h]⟩
def qgp:List By->List By->Bool
 | [],[]=>true
 | x::l,y::m=>(x.toList == y.toList) && qgp l m
 | _,_=>false
def qek(a b:Gr):Bool:=(a.rel.toList == b.rel.toList) && qgp a.args b.args
theorem qnl:∀(l m:List By),qgp l m=true↔l=m
 | [],[]=>by simp[qgp]
 | [],y::m=>by simp[qgp]
 | x::l,[]=>by simp[qgp]
 | x::l,y::m=>by simp only[qgp,Bool.and_eq_true,qeo,decide_eq_true_eq,qnl l m,List.cons.injEq]
theorem qnk(a b:Gr):qek a b=true↔a=b:=by
 obtain⟨r,l⟩:=a;obtain⟨q,m⟩:=b;simp only[qek,Bool.and_eq_true,qeo,decide_eq_true_eq,qnl,Gr.mk.injEq]
theorem q13(l m:List By)(h:l.length≠m.length):qgp l m=false:=by
 cases hs:qgp l m with
 | false=>rfl
 | true=>exact absurd (congrArg List.length ((qnl l m).1 hs)) h
theorem qwf(p q:Gr×Vq)(w:Wq)(hp:qt w p.2 p.1.args)(hq:qt w q.2 q.1.args)(hl:p.1.args.length<=1000000) :
  Cs 118 #[gdV p,gdV q] w λe w'=>e=.returned (.bool (qek p.1 q.1))/\Below w.heap.size w w':=by
 obtain⟨⟨r1,l1⟩,v1⟩:=p;obtain⟨⟨r2,l2⟩,v2⟩:=q;unfold gdV;simp only at hp hq hl ⊢;obtain⟨a1,c1,rfl⟩:=qd hp;obtain⟨a2,c2,rfl⟩:=qd hq;have bf:Hid (∀O O',Below w.heap.size w ((w.alloc O).alloc O')):=λO O'=>((Below.refl _ w).alloc zl O).alloc (by simp) O'
 have dx:Hid (∀(O O':Obj) (j:Nat) (hj:j < l1.length),∃g,a1=some ⟨g,0,none⟩/\((w.alloc O).alloc O').cell? (Ad g j)=some (.string l1[j])):=by
  intro O O' j hj;obtain⟨g,cap,e1,hg,hc⟩:=hp.cell j hj;cases e1;exact⟨g,rfl,(Below.cell (bf.out O O') hg).trans hc⟩
 have ef:Hid (∀(O O':Obj) (j:Nat) (hj:j < l2.length),∃g,a2=some ⟨g,0,none⟩/\((w.alloc O).alloc O').cell? (Ad g j)=some (.string l2[j])):=by
  intro O O' j hj;obtain⟨g,cap,e1,hg,hc⟩:=hq.cell j hj;cases e1;exact⟨g,rfl,(Below.cell (bf.out O O') hg).trans hc⟩
 clear hp hq;have hS:qek ⟨r1,l1⟩ ⟨r2,l2⟩=((r1.toList == r2.toList) && qgp l1 l2):=rfl;rw[hS];clear hS
 cases hr:(r1.toList == r2.toList) with
 | false=>
  go_enter Tryz.func118,Tryz.ntmps118;go_wp2;go_ret;exact⟨by simp,bf.out _ _⟩
 | true=>
  by_cases aq:l1.length=l2.length
  .have h1:((l1.length:Int) == (l2.length:Int))=true:=by simp[aq]
   obtain⟨n,hn⟩:∃n,l2.length=n:=⟨_,rfl⟩;have dl:Hid (l2.length=n):=hn;have db:Hid (l1.length=n):=aq.trans hn;have e1:l1.length=n:=aq.trans hn;rw[e1] at hl ⊢;rw[hn];clear h1 aq hn e1;go_enter Tryz.func118,Tryz.ntmps118;go_wp2
   go_loopw [5] (λx wr=>∃k:Nat,x=.int .i64 k/\k<=n/\(∃d,wr=(((w.alloc (.cells #[.string r1,.slice a1 n c1] 226)).alloc (.cells #[.string r2,.slice a2 n c2] 226))).drewN d)/\Hid (qgp (l1.drop k) (l2.drop k)=qgp l1 l2)) (λx _=>n - (intOf x).toNat)
   case atStart=>exact⟨0,rfl,zz,⟨0,rfl⟩,rfl⟩
   case round=>
    obtain⟨k,rfl,cr,⟨d,rfl⟩,ab⟩:=hrel;by_cases am:k < n
    .have da:k < l1.length:=by rw[db.out];exact am
     have dp:k < l2.length:=by rw[dl.out];exact am
     obtain⟨g1,rfl,d1⟩:=dx.out (.cells #[.string r1,.slice a1 n c1] 226) (.cells #[.string r2,.slice a2 n c2] 226) k da;obtain⟨g2,rfl,d2⟩:=ef.out (.cells #[.string r1,Sc g1 n c1] 226) (.cells #[.string r2,.slice a2 n c2] 226) k dp;rw[List.drop_eq_getElem_cons da,List.drop_eq_getElem_cons dp] at ab;simp only[qgp] at ab;generalize l1[k]=x at *;generalize l2[k]=y at *
     cases hxy:(x.toList == y.toList) with
     | true=>
      rw[hxy] at ab;simp only[Bool.true_and] at ab;go_wp2;go_quiet (fail);go_wp2
      go_roundw
      case rel=>exact⟨k+1,by go_num,by omega,⟨_,rfl⟩,ab⟩
      case measure=>simp[intOf];omega
     | false=>
      rw[hxy] at ab;simp only[Bool.false_and] at ab;go_wp2;go_quiet (fail);go_wp2;go_ret;rw[<- ab.out];exact⟨by simp,qu (qu (bf.out _ _))⟩
    .have h1:l1.drop k=[]:=List.drop_eq_nil_of_le (by rw[db.out];omega);have h2:l2.drop k=[]:=List.drop_eq_nil_of_le (by rw[dl.out];omega);rw[h1,h2] at ab;go_wp2;go_ret;rw[<- ab.out];exact⟨by simp[qgp],qu (bf.out _ _)⟩
  .have hs:=q13 l1 l2 aq;rw[hs];have h1:((l1.length:Int) == (l2.length:Int))=false:=by simp;omega
   have h2:((l1.length:Int) != (l2.length:Int))=true:=by simp;omega
   go_enter Tryz.func118,Tryz.ntmps118;go_wp2;go_ret;exact⟨by simp,bf.out _ _⟩
def inG(l:List Gr)(g:Gr):Bool:=l.any (λx=>qek x g)
theorem q42(v:Vq)(ps:List (Gr×Vq))(q:Gr×Vq)(w:Wq)(hp:qc3 w v ps)(hq:qt w q.2 q.1.args)(hl:ps.length<=1000000)(ha:∀p∈ps,p.1.args.length<=1000000) :
  Cs 122 #[v,gdV q] w λe w'=>e=.returned (.bool (inG (ps.map (·.1)) q.1))/\Below w.heap.size w w':=by
 obtain⟨pa,pc,rfl⟩:=qd hp.row;obtain⟨⟨r2,l2⟩,v2⟩:=q;unfold gdV;simp only at hq ⊢;obtain⟨a2,c2,rfl⟩:=qd hq;obtain⟨N,hN⟩:∃N,N=w.heap.size:=⟨_,rfl⟩;have ag:=hN.symm;obtain⟨W0,b7⟩:∃W0,W0=w.alloc (.cells #[.string r2,.slice a2 l2.length c2] 226):=⟨_,rfl⟩;have di:W0.heap.size=N+1:=by rw[b7];simp[ag]
 have cf:Below N w W0:=by rw[b7];exact (Below.refl _ w).alloc (by omega) _
 have Qs:W0.heap[N]?=cC #[.string r2,.slice a2 l2.length c2] 226:=by rw[b7,<- ag];exact zn w _
 have c5:qc3 W0 (.slice pa ps.length pc) ps:=hp.below (by rw[ag];exact cf);have dk:qt W0 (.slice a2 l2.length c2) l2:=qt.below hq (by rw[ag];exact cf);have HP:Hid (qc3 W0 (.slice pa ps.length pc) ps):=c5;have HQ:Hid (qt W0 (.slice a2 l2.length c2) l2):=dk;have c4:Hid (Below N w W0):=cf;have ed:Hid _:=Qs;have cx:Hid (W0.heap.size=N+1):=di;rw[<- hN];clear hp hq hN c5 dk cf Qs di;go_enter Tryz.func122,Tryz.ntmps122;go_wp2
 go_loopw [5] (λx wr=>∃k:Nat,x=.int .i64 k/\k<=ps.length/\Below (N+1) W0 wr/\Hid (inG ((ps.drop k).map (·.1)) ⟨r2,l2⟩=inG (ps.map (·.1)) ⟨r2,l2⟩)) (λx _=>ps.length - (intOf x).toNat)
 case atStart=>exact⟨0,rfl,zz,by rw[b7];exact zr,rfl⟩
 case round=>
  obtain⟨k,rfl,cr,bc,ab⟩:=hrel;have Qas:Below W0.heap.size W0 wr:=by rw[cx.out];exact bc
  have Qel:=bc.size;rw[cx.out] at Qel;by_cases am:k < ps.length
  .obtain⟨g,cap,e1,hg,d0,d1,⟨x1,x2,hx⟩,hS⟩:=(HP.out.below Qas).cell k am;cases e1;have cu:wr.heap[N]?=cC #[.string r2,.slice a2 l2.length c2] 226:=(bc.block N (by omega)).trans ed.out;have b0:wr.cell? (Ad N 0)=some (.string r2):=zc cu
   have b1:wr.cell? (Ad N 1)=some (.slice a2 l2.length c2):=zc cu
   have cy:Hid (∀d,Cs 118 #[.agg #[.string ps[k].1.rel,ps[k].2],.agg #[.string r2,.slice a2 l2.length c2]] (wr.drewN d) λe w'=>e=.returned (.bool (qek ps[k].1 ⟨r2,l2⟩))/\Below (N+1) W0 w'):=by
    intro d;have hb:=qwf ps[k] (⟨r2,l2⟩,.slice a2 l2.length c2) (wr.drewN d) (hS.below (qu (Below.refl _ wr))) ((qt.below HQ.out Qas).below (qu (Below.refl _ wr))) (ha ps[k] (zm am));refine hb.mono ?_;rintro e w' ⟨rfl,eb⟩;exact⟨rfl,(qu bc).trans (eb.mono (by show N+1<=wr.heap.size;omega))⟩
   rw[List.drop_eq_getElem_cons am,List.map_cons] at ab;have a9:Hid ((qek ps[k].1 ⟨r2,l2⟩ || inG ((ps.drop (k+1)).map (·.1)) ⟨r2,l2⟩)=inG (ps.map (·.1)) ⟨r2,l2⟩):=ab;rw[hx] at d1 cy;generalize qek ps[k].1 ⟨r2,l2⟩=sb at *;generalize ps[k].1.rel=pr at *;generalize ps[k].1.args.length=pl at *;have em:Hid (Below (N+1) W0 wr):=bc;clear bc Qas hS hx ab cu;go_wp2
   go_region_with (go_at_call 118;refine (cy.out 1).mono ?_;rintro e w2 ⟨rfl,av⟩)
   all_goals
    cases sb with
    | true=>
     go_wp2;go_ret;rw[<- a9.out];exact⟨by simp,c4.out.trans (av.mono (by omega))⟩
    | false=>
     go_wp2
     go_roundw
     case rel=>exact⟨k+1,by go_num,by omega,av,by simpa using a9⟩
     case measure=>simp[intOf];omega
  .rw[List.drop_eq_nil_of_le (by omega)] at ab;go_wp2;go_ret;rw[<- ab.out];exact⟨by simp[inG],c4.out.trans (bc.mono (by omega))⟩
def qih(b:List By)(t:Tm):By:=if t.name.toList.isEmpty=true then b.getD t.num ⟨#[]⟩ else t.name
def qdt(a:Am)(b:List By):Gr:=⟨a.rel,a.args.map (qih b)⟩
structure qmq(N:Nat)(w X:Wq)(rel:By)(va vg:Vq)(aa:List By):Prop where
 below:Below N w X
 box:X.heap[N]?=cC #[.string rel,va] 145
 res:X.heap[N+1]?=cC #[.string ⟨#[]⟩,.slice none 0 0] 226
 gd:X.heap[N+2]?=cC #[.string rel,vg] 226
 own:X.ownsRow (N+3) 9 1 vg aa.length (aa.map Value.string)
theorem qmq.app{w Y:Wq}{af:Vq}{o:Obj}(h:qmq N w X rel va vg aa)(hw:w.heap.size=N)(hg:(X.alloc o).grownBy Y vg.ownBlock)(ho:Y.ownsRow (N+3) 9 1 af (aa.length+1) (aa.map Value.string++[.string x])) :
  qmq N w (Y.setCell (Ad (N+2) 1) af) rel va af (aa++[x]):=by
 have eh:N+3<=X.heap.size:=(zg h.gd).1;have dd:∀k,vg.ownBlock=some k->N+3<=k:=λk e=>(Qe h.own k e).1;have hk:∀k,k < N+3->Y.heap[k]?=X.heap[k]?:=λk hk=>(hg.block k (by simp;omega) (λe=>by have:=dd k e.symm;omega)).trans (Below.heap_alloc _ _ _ (by omega));refine⟨((h.below.alloc (by omega) o).grown hg (by simp;omega) (λk e=>by have:=dd k e;omega)).setCell (by simp) _,(Below.heap_setCell _ _ _ _ (by simp)).trans ((hk N (by omega)).trans h.box),(Below.heap_setCell _ _ _ _ (by simp)).trans ((hk (N+1) (by omega)).trans h.res),Qc ((hk (N+2) (by omega)).trans h.gd) 1 af,?_⟩;have h2:Y.ownsRow (N+3) 9 1 af (aa++[x]).length ((aa++[x]).map Value.string):=by simpa using ho
 exact qm h2 (λg d4 _=>Below.heap_setCell _ _ _ _ (λe=>by have:=(Qe ho g d4).1;simp at e;omega))
theorem qmq.fin{w:Wq}(h:qmq N w X rel va vg aa)(hw:w.heap.size=N)(a b:Vq) :
  ((X.setCell (Ad (N+1) 0) a).setCell (Ad (N+1) 1) b).ownsRow N 9 1 vg aa.length (aa.map Value.string)/\Below N w ((X.setCell (Ad (N+1) 0) a).setCell (Ad (N+1) 1) b):=by
 have hk:∀g,g≠N+1->((X.setCell (Ad (N+1) 0) a).setCell (Ad (N+1) 1) b).heap[g]?=X.heap[g]?:=λg hg=>(Below.heap_setCell _ _ _ _ hg).trans (Below.heap_setCell _ _ _ _ hg);exact⟨Qa (qm h.own (λg hg _=>hk g (by have:=(Qe h.own g hg).1;omega))) (by omega),(h.below.setCell (by simp) _).setCell (by simp) _⟩
theorem q8i(p:Am×Vq)(vb:Vq)(b:List By)(w:Wq)(hA:qa5 w p)(hb:qt w vb b)(hl:p.1.args.length<=1000)(hn:∀t∈p.1.args,t.name.toList.isEmpty=true->t.num < b.length)(ei:b.length<=1000000) :
  Cs 181 #[.agg #[.string p.1.rel,p.2],vb] w λe w'=>∃vg,e=.returned (.agg #[.string p.1.rel,vg])/\w'.ownsRow w.heap.size 9 1 vg (qdt p.1 b).args.length ((qdt p.1 b).args.map Value.string)/\Below w.heap.size w w':=by
 obtain⟨i0,hi,ck,cd,b8⟩:=info_parts Tryz.infoStr;obtain⟨⟨rel,args⟩,va⟩:=p;simp only at hl hn ⊢;obtain⟨a1,a2,hq⟩:=qd hA;simp only at hq;subst hq;obtain⟨b1,b2,rfl⟩:=qd hb;obtain⟨N,hN⟩:∃N,N=w.heap.size:=⟨_,rfl⟩;have ag:=hN.symm
 have HC:Hid (∀(X:Wq),Below N w X->∀(j:Nat) (hj:j < args.length),∃g,a1=some ⟨g,0,none⟩/\g < N/\X.cell? (Ad g (j*2))=some (.string args[j].name)/\X.cell? (Ad g (j*2+1))=some (.int .i64 args[j].num)):=by
  intro X hX j hj;obtain⟨g,cap,e1,hg,c0,c1⟩:=hA.cell j hj;cases e1;have au:g < N:=by rw[hN];exact hg
  exact⟨g,rfl,au,(Below.cell hX au).trans c0,(Below.cell hX au).trans c1⟩
 have dr:Hid (∀(X:Wq),Below N w X->∀(j:Nat) (hj:j < b.length),∃g,b1=some ⟨g,0,none⟩/\g < N/\X.cell? (Ad g j)=some (.string b[j])):=by
  intro X hX j hj;obtain⟨g,cap,e1,hg,c0⟩:=hb.cell j hj;cases e1;have au:g < N:=by rw[hN];exact hg
  exact⟨g,rfl,au,(Below.cell hX au).trans c0⟩
 have HT:Hid ((qdt ⟨rel,args⟩ b).args=args.map (qih b)):=rfl;generalize (qdt ⟨rel,args⟩ b).args=T at *;rw[<- hN];clear hA hb hN;go_enter Tryz.func181,Tryz.ntmps181;go_wp2
 go_loopw [6] (λx wr=>∃(k:Nat) (vg:Vq) (aa:List ByteArray),x=.int .i64 k/\k<=args.length/\qmq N w wr rel (.slice a1 args.length a2) vg aa/\aa.length<=k/\Hid (aa++(args.drop k).map (qih b)=T)) (λx _=>args.length - (intOf x).toNat)
 case atStart=>
  refine⟨0,_,[],rfl,zz,⟨(((Below.refl _ w).alloc (by omega) _).alloc (by simp;omega) _).alloc (by simp;omega) _,?_,?_,?_,zo⟩,Nat.le_refl _,HT.out.symm⟩
  .rw[Below.heap_alloc _ _ _ (by simp;omega),Below.heap_alloc _ _ _ (by simp;omega),<- ag];exact zn w _
  .rw[Below.heap_alloc _ _ _ (by simp;omega)];have:=zn (w.alloc (.cells #[.string rel,.slice a1 args.length a2] 145)) (.cells #[.string ⟨#[]⟩,.slice none 0 0] 226);rw[World.size_alloc,ag] at this;exact this
  .have:=zn ((w.alloc (.cells #[.string rel,.slice a1 args.length a2] 145)).alloc (.cells #[.string ⟨#[]⟩,.slice none 0 0] 226)) (.cells #[.string rel,.slice none 0 0] 226);rw[World.size_alloc,World.size_alloc,ag] at this;exact this
 case round=>
  obtain⟨k,vg,aa,rfl,cr,hP,dv,ab⟩:=hrel;have b0:wr.cell? (Ad N 0)=some (.string rel):=by simp[World.cell?,hP.box]
  have ec:wr.cell? (Ad N 1)=some (.slice a1 args.length a2):=by simp[World.cell?,hP.box]
  have g0:wr.cell? (Ad (N+2) 0)=some (.string rel):=by simp[World.cell?,hP.gd]
  have g1:wr.cell? (Ad (N+2) 1)=some vg:=by simp[World.cell?,hP.gd]
  by_cases am:k < args.length
  .obtain⟨g,rfl,au,c0,c1⟩:=HC.out wr hP.below k am;have cz:=hn args[k] (zm am);rw[List.drop_eq_getElem_cons am,List.map_cons] at ab;generalize args[k]=tm at *;obtain⟨nm,nu⟩:=tm;simp only at c0 c1 cz;obtain⟨y,hy⟩:∃y,qih b ⟨nm,nu⟩=y:=⟨_,rfl⟩;rw[hy] at ab;have Qha:N+3<=wr.heap.size:=(zg hP.gd).1;have cc:aa.length+1<=maxLen:=by unfold maxLen;omega
   have ca:(aa.length+1)*16<=140737488355328:=by omega
   have cm:Hid (∀O,N+3<=(wr.alloc O).heap.size):=λO=>by simp;omega
   have bh:∀u∈[Value.string y],u.oneCell'=true:=by simp[Value.oneCell']
   have HP:Hid (qmq N w wr rel (Sc g args.length a2) vg aa):=hP
   have hF:Hid (∀(O:Obj) (w1:Wq),(wr.alloc O).grownBy w1 vg.ownBlock->w1.cell? (Ad (N+2) 1)=some vg/\∀o,w1.frozen? (Ad (N+2) o)=false):=by
    intro O w1 hg;have h1:w1.heap[N+2]?=cC #[.string rel,vg] 226:=(hg.block (N+2) (by simp;omega) (λe=>by have:=(Qe HP.out.own _ e.symm).1;omega)).trans ((Below.heap_alloc _ _ _ (by omega)).trans HP.out.gd);exact⟨zc h1,λo=>by simp[World.frozen?,h1]⟩
   have a9:Hid ((aa++[y])++(args.drop (k+1)).map (qih b)=T):=by
    show _=_;rw[<- ab.out];simp
   by_cases h1:nm.toList.isEmpty=true
   .have df:=cz h1;obtain⟨g2,e2,Qdq,d0⟩:=dr.out wr hP.below nu df
    have co:y=b[nu]:=by
     rw[<- hy];unfold qih;rw[if_pos h1];simp[List.getD,List.getElem?_eq_getElem df]
    rw[<- co] at d0;subst e2;clear hP ab hy co
    go_wp2_with (at_builtin;refine wpList_append_own _ rfl (.tmp 36) (.tmp 38) 22 rfl (N+3) 9 i0 (.string ⟨#[]⟩) 1 16 Tryz.underlying22 hi ck cd b8 rfl (by decide) _ _ _ rfl (HP.out.own.alloc _) ⟨wr.heap.size,0,none⟩ 1 1 [.string y] rfl rfl (qcl _ _ _) bh cc ca (cm.out _) ?_;intro af w1 ae ac _;obtain⟨f1,f2⟩:=hF.out _ w1 ac;have HA:Hid (qmq N w (w1.setCell (Ad (N+2) 1) af) rel (Sc g args.length a2) af (aa++[y])):=HP.out.app ag ac ae;obtain⟨gg,gc,b6⟩:=ownsRow_succ ae;subst b6)
    go_roundw
    case rel=>exact⟨k+1,_,aa++[y],by go_num,by omega,HA.out,by simp;omega,a9⟩
    case measure=>simp[intOf];omega
   .have dc:nm.toList.isEmpty=false:=by simpa using h1
    have co:y=nm:=by rw[<- hy];unfold qih;rw[if_neg h1]
    subst co;clear hP ab hy h1
    go_wp2_with (at_builtin;refine wpList_append_own _ rfl (.tmp 36) (.tmp 38) 22 rfl (N+3) 9 i0 (.string ⟨#[]⟩) 1 16 Tryz.underlying22 hi ck cd b8 rfl (by decide) _ _ _ rfl (HP.out.own.alloc _) ⟨wr.heap.size,0,none⟩ 1 1 [.string y] rfl rfl (qcl _ _ _) bh cc ca (cm.out _) ?_;intro af w1 ae ac _;obtain⟨f1,f2⟩:=hF.out _ w1 ac;have HA:Hid (qmq N w (w1.setCell (Ad (N+2) 1) af) rel (Sc g args.length a2) af (aa++[y])):=HP.out.app ag ac ae;obtain⟨gg,gc,b6⟩:=ownsRow_succ ae;subst b6)
    go_roundw
    case rel=>exact⟨k+1,_,aa++[y],by go_num,by omega,HA.out,by simp;omega,a9⟩
    case measure=>simp[intOf];omega
  .rw[List.drop_eq_nil_of_le (by omega)] at ab;simp only[List.map_nil,List.append_nil] at ab;have hf:=hP.fin ag (.string rel) vg;have ah:=hP.res;obtain⟨az,ax,rfl⟩:=qd hP.own;have r0:wr.cell? (Ad (N+1) 0)=some (.string ⟨#[]⟩):=zc ah
   have r1:wr.cell? (Ad (N+1) 1)=some (.slice none 0 0):=zc ah
   have rf:∀o,wr.frozen? (Ad (N+1) o)=false:=λo=>by simp[World.frozen?,ah]
   have aj:(wr.setCell (Ad (N+1) 0) (.string rel)).cell? (Ad (N+1) 0)=some (.string rel):=by simp[World.cell?,Qc ah 0 (.string rel)]
   have ai:((wr.setCell (Ad (N+1) 0) (.string rel)).setCell (Ad (N+1) 1) (.slice az aa.length ax)).cell? (Ad (N+1) 1)=some (.slice az aa.length ax):=by simp[World.cell?,Qc (Qc ah 0 (.string rel)) 1 (.slice az aa.length ax)]
   have HF:Hid _:=hf;have bk:Hid _:=aj;have bv:Hid _:=ai;clear hP hf aj ai;go_wp2;have aj:=bk.out;have ai:=bv.out;refine bodyPost_ret (v:=.agg #[.string rel,.slice az aa.length ax]) (by simp[results,Tryz.results181,go_sem,aj,ai]) rfl ?_;rw[<- ab.out];exact⟨_,rfl,HF.out⟩
theorem qt8{P:Program}{de:Array Oper}{o:Oper}{a:Act}{w:Wq}{K:Act->Wq->Prop}{Q:Exit->Act->Wq->Prop}{E:Prop}(hg:o.guard=none)(s x:Operand)(t:TypeId)(d3:o.op=Op.call {callee:=Callee.builtin Builtin.append,args:=#[s,x],argTypes:=#[t,t]})(aw:Nat)(e:TypeId)(i:TypeInfo)(z:Vq)(size bytes:Nat)(h1:P.underlying t=some (.slice e))(h2:P.info? e=some i)(h3:i.zero=some z)(h4:i.size=size)(h5:i.bytes=bytes)(h6:z.cells.size=size)(h7:0 < size)(v:Vq)(n:Nat)(xs:List Vq)(hs:a.eval s=v)(qq:w.ownsRow aw e size v n xs)(ad:Addr)(m c:Nat)(ao:List Vq)(hx:a.eval x=.slice (some ad) m c)(hn:ao.length=m*size)(hc:∀j u,ao[j]?=some u->w.cell? (ad.add j)=some u)(bh:∀u∈ao,u.oneCell'=true)(b1:n+m<=maxLen)(b2:(n+m)*bytes<=140737488355328)(du:aw<=w.heap.size)(hK:∀v' w',w'.ownsRow aw e size v' (n+m) (xs++ao)->w.grownBy w' v.ownBlock->K (a.put o.dst v') w') :
  if Region.wanted o (yielded de a.tmps)=true then Oper.wp P o a w K Q else E:=by
 have hw:Region.wanted o (yielded de a.tmps)=true:=by simp[Region.wanted,hg]
 rw[if_pos hw];obtain⟨v',w',dy,r1,r2,_⟩:=run_append_own (P:=P) w aw t o.type e i z size bytes h1 h2 h3 h4 h5 h6 h7 v n xs qq ad m c ao hn hc bh b1 b2 du;unfold Oper.wp;simp[execOp,d3,resolve,invoke,builtin,hs,hx,dy,Result.andThen];exact hK v' w' r1 r2
def qf8(t:Tm):Bool:=t.name.toList.isEmpty
def qfw(a:Am):Option Gr:=if a.args.any qf8=true then none else some ⟨a.rel,a.args.map (·.name)⟩
def qfq(a:Am)(N:Nat)(e:Ending)(w':Wq):Prop:=
 match qfw a with
 | none=>e=.returned (.tuple #[.agg #[.string ⟨#[]⟩,.slice none 0 0],.bool false])
 | some g=>∃vg,e=.returned (.tuple #[.agg #[.string g.rel,vg],.bool true])/\w'.ownsRow N 9 1 vg g.args.length (g.args.map Value.string)
theorem q0y(p:Am×Vq)(w:Wq)(hA:qa5 w p)(hl:p.1.args.length<=1000) :
  Cs 115 #[.agg #[.string p.1.rel,p.2]] w λe w'=>qfq p.1 w.heap.size e w'/\Below w.heap.size w w':=by
 obtain⟨i0,hi,ck,cd,b8⟩:=info_parts Tryz.infoStr;obtain⟨⟨rel,args⟩,va⟩:=p;simp only at hl ⊢;obtain⟨a1,a2,hq⟩:=qd hA;simp only at hq;subst hq;obtain⟨N,hN⟩:∃N,N=w.heap.size:=⟨_,rfl⟩;have ag:=hN.symm
 have HC:Hid (∀(X:Wq),Below N w X->∀(j:Nat) (hj:j < args.length),∃g,a1=some ⟨g,0,none⟩/\g < N/\X.cell? (Ad g (j*2))=some (.string args[j].name)):=by
  intro X hX j hj;obtain⟨g,cap,e1,hg,c0,c1⟩:=hA.cell j hj;cases e1;have au:g < N:=by rw[hN];exact hg
  exact⟨g,rfl,au,(Below.cell hX au).trans c0⟩
 have ee:Hid (args.any qf8=true->∀(e:Ending) (w':Wq),e=.returned (.tuple #[.agg #[.string ⟨#[]⟩,.slice none 0 0],.bool false])->qfq ⟨rel,args⟩ N e w'):=by
  intro h e w' he;unfold qfq qfw;rw[if_pos h];exact he
 have eg:Hid (args.any qf8=false->∀(e:Ending) (w':Wq),(∃vg,e=.returned (.tuple #[.agg #[.string rel,vg],.bool true])/\w'.ownsRow N 9 1 vg (args.map (·.name)).length ((args.map (·.name)).map Value.string))->qfq ⟨rel,args⟩ N e w'):=by
  intro h e w' he;unfold qfq qfw;rw[if_neg (by rw[h];simp)];exact he
 rw[<- hN];clear hA hN;go_enter Tryz.func115,Tryz.ntmps115;go_wp2
 go_loopw [5] (λx wr=>∃(k:Nat) (vg:Vq) (aa:List ByteArray),x=.int .i64 k/\k<=args.length/\qmq N w wr rel (.slice a1 args.length a2) vg aa/\aa.length<=k/\Hid ((args.drop k).any qf8=args.any qf8)/\Hid (aa++(args.drop k).map (·.name)=args.map (·.name))) (λx _=>args.length - (intOf x).toNat)
 case atStart=>
  refine⟨0,_,[],rfl,zz,⟨(((Below.refl _ w).alloc (by omega) _).alloc (by simp;omega) _).alloc (by simp;omega) _,?_,?_,?_,zo⟩,Nat.le_refl _,rfl,rfl⟩
  .rw[Below.heap_alloc _ _ _ (by simp;omega),Below.heap_alloc _ _ _ (by simp;omega),<- ag];exact zn w _
  .rw[Below.heap_alloc _ _ _ (by simp;omega)];have:=zn (w.alloc (.cells #[.string rel,.slice a1 args.length a2] 145)) (.cells #[.string ⟨#[]⟩,.slice none 0 0] 226);rw[World.size_alloc,ag] at this;exact this
  .have:=zn ((w.alloc (.cells #[.string rel,.slice a1 args.length a2] 145)).alloc (.cells #[.string ⟨#[]⟩,.slice none 0 0] 226)) (.cells #[.string rel,.slice none 0 0] 226);rw[World.size_alloc,World.size_alloc,ag] at this;exact this
 case round=>
  obtain⟨k,vg,aa,rfl,cr,hP,dv,al,ab⟩:=hrel;have ec:wr.cell? (Ad N 1)=some (.slice a1 args.length a2):=by simp[World.cell?,hP.box]
  have g0:wr.cell? (Ad (N+2) 0)=some (.string rel):=by simp[World.cell?,hP.gd]
  have g1:wr.cell? (Ad (N+2) 1)=some vg:=by simp[World.cell?,hP.gd]
  have ah:=hP.res;have r0:wr.cell? (Ad (N+1) 0)=some (.string ⟨#[]⟩):=zc ah
  have r1:wr.cell? (Ad (N+1) 1)=some (.slice none 0 0):=zc ah
  have rf:∀o,wr.frozen? (Ad (N+1) o)=false:=λo=>by simp[World.frozen?,ah]
  by_cases am:k < args.length
  .obtain⟨g,rfl,au,c0⟩:=HC.out wr hP.below k am;rw[List.drop_eq_getElem_cons am] at ab al;simp only[List.map_cons,List.any_cons] at ab al;generalize args[k]=tm at *;obtain⟨nm,nu⟩:=tm;simp only[qf8] at c0 ab al;have Qha:N+3<=wr.heap.size:=(zg hP.gd).1;by_cases h1:nm.toList.isEmpty=true
   .rw[h1] at al;have dg:args.any qf8=true:=by rw[<- al.out];simp
    have q7:Hid (∀(e:Ending) (w':Wq),e=.returned (.tuple #[.agg #[.string ⟨#[]⟩,.slice none 0 0],.bool false])->qfq ⟨rel,args⟩ N e w'):=ee.out dg;have hf:=hP.fin ag (.string ⟨#[]⟩) (.slice none 0 0);have aj:(wr.setCell (Ad (N+1) 0) (.string ⟨#[]⟩)).cell? (Ad (N+1) 0)=some (.string ⟨#[]⟩):=by simp[World.cell?,Qc ah 0 (.string ⟨#[]⟩)]
    have ai:((wr.setCell (Ad (N+1) 0) (.string ⟨#[]⟩)).setCell (Ad (N+1) 1) (.slice none 0 0)).cell? (Ad (N+1) 1)=some (.slice none 0 0):=by simp[World.cell?,Qc (Qc ah 0 (.string ⟨#[]⟩)) 1 (.slice none 0 0)]
    have ce:Hid _:=hf;have bk:Hid _:=aj;have bv:Hid _:=ai;clear hP ab al dg hf aj ai ah;go_wp2;have aj:=bk.out;have ai:=bv.out;refine bodyPost_ret (v:=.tuple #[.agg #[.string ⟨#[]⟩,.slice none 0 0],.bool false]) (by simp[results,Tryz.results115,go_sem,aj,ai]) rfl ?_;exact⟨q7.out _ _ rfl,ce.out.2⟩
   .have dc:nm.toList.isEmpty=false:=by simpa using h1
    rw[dc] at al;simp only[Bool.false_or] at al;have ej:∀O,(wr.alloc O).cell? (Ad (N+1+1) 1)=some vg:=λO=>(Below.cell ((Below.refl wr.heap.size wr).alloc zl O) (by show N+2 < wr.heap.size;omega)).trans g1;have cc:aa.length+1<=maxLen:=by unfold maxLen;omega
    have ca:(aa.length+1)*16<=140737488355328:=by omega
    have bh:∀u∈[Value.string nm],u.oneCell'=true:=by simp[Value.oneCell']
    have HP:Hid (qmq N w wr rel (Sc g args.length a2) vg aa):=hP;have hA:Hid ((wr.alloc (.cells #[.string nm] 9)).ownsRow (N+3) 9 1 vg aa.length (aa.map Value.string)):=hP.own.alloc _;have ea:Hid (∀j u,[Value.string nm][j]?=some u->(wr.alloc (.cells #[.string nm] 9)).cell? ((⟨wr.heap.size,0,none⟩:Addr).add j)=some u):=qcl wr _ _
    have cm:Hid (N+3<=(wr.alloc (.cells #[.string nm] 9)).drew.heap.size):=by
     show N+3<=(wr.alloc _).heap.size;simp;omega
    have hF:Hid (∀(w1:Wq),(wr.alloc (.cells #[.string nm] 9)).drew.grownBy w1 vg.ownBlock->w1.cell? (Ad (N+2) 1)=some vg/\∀o,w1.frozen? (Ad (N+2) o)=false):=by
     intro w1 hg;have h1:w1.heap[N+2]?=cC #[.string rel,vg] 226:=(hg.block (N+2) (by show N+2 < (wr.alloc _).heap.size;simp;omega) (λe=>by have:=(Qe HP.out.own _ e.symm).1;omega)).trans ((Below.heap_alloc _ _ _ (by omega)).trans HP.out.gd);exact⟨zc h1,λo=>by simp[World.frozen?,h1]⟩
    have d5:Hid (∀(w1:Wq) (af:Vq),(wr.alloc (.cells #[.string nm] 9)).drew.grownBy w1 vg.ownBlock->w1.ownsRow (N+3) 9 1 af (aa.length+1) (aa.map Value.string++[.string nm])->qmq N w (w1.setCell (Ad (N+2) 1) af) rel (Sc g args.length a2) af (aa++[nm])):=by
     intro w1 af hg ho;exact HP.out.app ag (o:=.cells #[.string nm] 9) ⟨hg.os,hg.tape,hg.output,hg.size,hg.block⟩ ho
    have a9:Hid ((aa++[nm])++(args.drop (k+1)).map (·.name)=args.map (·.name)):=by
     show _=_;rw[<- ab.out];simp
    clear hP ab h1 ah;go_wp2
    go_region_law (refine qt8 rfl (.tmp 25) (.tmp 32) 22 rfl (N+3) 9 i0 (.string ⟨#[]⟩) 1 16 Tryz.underlying22 hi ck cd b8 rfl (by decide) vg aa.length (aa.map Value.string) (by simp[Act.eval,Act.put]) hA.out ⟨wr.heap.size,0,none⟩ 1 1 [.string nm] (by simp[Act.eval,Act.put]) rfl ea.out bh cc ca cm.out ?_;intro af w1 ae ac;obtain⟨f1,f2⟩:=hF.out w1 ac;have HA:Hid (qmq N w (w1.setCell (Ad (N+2) 1) af) rel (Sc g args.length a2) af (aa++[nm])):=d5.out w1 af ac ae;obtain⟨gg,gc,b6⟩:=ownsRow_succ ae;subst b6)
    all_goals
     go_wp2
     go_roundw
     case rel=>exact⟨k+1,_,aa++[nm],by go_num,by omega,HA.out,by simp;omega,al,a9⟩
     case measure=>simp[intOf];omega
  .rw[List.drop_eq_nil_of_le (by omega)] at ab al;simp only[List.map_nil,List.append_nil,List.any_nil] at ab al;have q7:=eg.out al.out.symm;have hf:=hP.fin ag (.string rel) vg;obtain⟨az,ax,rfl⟩:=qd hP.own;have aj:(wr.setCell (Ad (N+1) 0) (.string rel)).cell? (Ad (N+1) 0)=some (.string rel):=by simp[World.cell?,Qc ah 0 (.string rel)]
   have ai:((wr.setCell (Ad (N+1) 0) (.string rel)).setCell (Ad (N+1) 1) (.slice az aa.length ax)).cell? (Ad (N+1) 1)=some (.slice az aa.length ax):=by simp[World.cell?,Qc (Qc ah 0 (.string rel)) 1 (.slice az aa.length ax)]
   have ce:Hid _:=hf;have d6:Hid _:=q7;have bk:Hid _:=aj;have bv:Hid _:=ai;clear hP hf aj ai ah q7 al;go_wp2;have aj:=bk.out;have ai:=bv.out;refine bodyPost_ret (v:=.tuple #[.agg #[.string rel,.slice az aa.length ax],.bool true]) (by simp[results,Tryz.results115,go_sem,aj,ai]) rfl ?_;refine⟨d6.out _ _ ⟨_,rfl,?_⟩,ce.out.2⟩;rw[<- ab.out];exact ce.out.1
