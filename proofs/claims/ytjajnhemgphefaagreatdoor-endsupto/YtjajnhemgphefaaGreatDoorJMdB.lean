/- The document's own answer: does an atom stand in a list? -/
import Derived.Test.YtjajnhemgphefaaGreatDoorJRefT
import Derived.Lib.ItoaNum
set_option linter.unusedVariables false
set_option linter.unusedSimpArgs false
set_option maxRecDepth 100000
set_option maxHeartbeats 8000000
namespace Go.Proofs.YtjajnhemgphefaaGreatDoor
open Go renaming World->Wq,Value->Vq
open Go.RowKit Go.Shelf
variable {W W':Wq} {l:List ByteArray}
def lk0(alone:Bool):Lk:=⟨0,false,alone,0,0,0,0⟩
def qaz(s:ByteArray):Except (Int×Nat) (List Rl):=
 if 300 < (R s 0).length then .error (1,0)
 else if (Qv (lk0 false) (Q3 s)).1≠0 then .error (Qv (lk0 false) (Q3 s))
 else match qef ((Q3 s).length+1) (Q3 s) with
  | none=>.error (0,0)
  | some rs=>if (qbh rs).1≠0 then .error (qbh rs) else .ok rs
theorem qlx:∀(f:Nat) (l:List Rn) (i:Nat),(qbs f l i).length<=l.length
 | 0,l,i=>by simp[qbs]
 | f+1,[],i=>by simp[qbs]
 | f+1,r::l,i=>by
  unfold qbs;have h1:=qlx f (l.drop (tw l).length) (i+(1+(tw l).length));have h2:=qlx f l (i+1);have h3:=qlx f (l.drop 1) (i+2);rw[List.length_drop] at h1 h3
  repeat' split
  all_goals simp only[List.length_cons]
  all_goals omega
theorem qnp(s:ByteArray):(Q3 s).length<=(R s 0).length+1:=by
 unfold Q3;have:=qlx (R s 0).length (R s 0) 0;simp;omega
theorem qet(s:ByteArray):qeb (Q3 s):=⟨_,_,rfl,rfl⟩
theorem q7f(rs:List Rl)(h:∀r∈rs,qhj r):(Qp (qap rs)).length<=8*rs.length:=by
 induction rs with
 | nil=>simp[qap,Qp]
 | cons r rs ih=>
  have h1:=h r List.mem_cons_self;have h2:=ih (λr' hr'=>h r' (List.mem_cons_of_mem _ hr'))
  have e:Qp (qap (r::rs))=r.head.args++Qp r.body++Qp (qap rs):=by
   unfold qap Qp qy;simp only[List.flatMap_cons,List.flatMap_append,List.cons_append];rw[List.append_assoc]
  have hb:∀(bs:List Am),(∀a∈bs,a.args.length<=2)->(Qp bs).length<=2*bs.length:=by
   intro bs
   induction bs with
   | nil=>intro _;simp[Qp]
   | cons a bs ihb=>
    intro hh;have x1:=hh a List.mem_cons_self;have x2:=ihb (λa' ha'=>hh a' (List.mem_cons_of_mem _ ha'));unfold Qp at x2 ⊢;simp only[List.flatMap_cons,List.length_append,List.length_cons];omega
  have h3:=hb r.body (λa ha=>(h1.body a ha).1);have h4:=h1.head.1;have h5:=h1.few;rw[e];simp only[List.length_append,List.length_cons];omega
theorem q65{qs:List (Rl×Vq×Vq)}{rs:List Rl}(hq:qs.map (·.1)=rs)(h8:rs.length<=8)(h:∀r∈rs,qhj r):qjz qs:=by
 have hl:qs.length=rs.length:=by rw[<- hq];simp
 have hm:∀q∈qs,qhj q.1:=λq hq'=>h q.1 (by rw[<- hq];exact List.mem_map.2 ⟨q,hq',rfl⟩);refine⟨by omega,λq hq'=>by have:=(hm q hq').few;omega,?_,λa ha=>?_⟩
 ·have:=q7f rs h;rw[qmc,hq];omega
 ·obtain⟨q,hq',hqa⟩:=List.mem_flatMap.1 ha;have hs:=hm q hq';rcases List.mem_cons.1 hqa with rfl | hqa
  ·exact⟨by have:=hs.head.1;omega,λt ht=>by have:=hs.head.2 t ht;omega⟩
  ·exact⟨by have:=(hs.body a hqa).1;omega,λt ht=>by have:=(hs.body a hqa).2 t ht;omega⟩
theorem ql6{B:Nat}{v:Vq}{ts:List RT}(h:W.ownsRow B 244 4 v ts.length (ts.flatMap rtC))(hne:0 < ts.length):∃g cap,v=.slice (some ⟨g,0,none⟩) ts.length cap/\qgy W g ts:=by
 obtain⟨g,cap,e1,e2,e3,e4,e5⟩:=qbq h q69 hne;refine⟨g,cap,e1,⟨e3,λj hj=>⟨e5 j 0 hj _ (by decide) rfl,e5 j 1 hj _ (by decide) rfl,e5 j 2 hj _ (by decide) rfl,e5 j 3 hj _ (by decide) rfl⟩⟩,?_⟩;exact qi h (by rw[e1];rfl)
def qcx(s:ByteArray)(e:Ending)(w':Wq):Prop:=
 match qaz s with
 | .error (c,p)=>e=.returned (.tuple #[.slice none 0 0,.int .i64 c,.int .i64 p])
 | .ok rs=>∃v qs,e=.returned (.tuple #[v,.int .i64 0,.int .i64 0])/\qag w' v qs/\qs.map (·.1)=rs/\qjz qs/\rs.length<=8/\∀r∈rs,qhj r
theorem q02(s:ByteArray)(w:Wq)(hs:s.size<=1048576) :
  Calls Tryz.prog 64 #[.string s] w λe w'=>qcx s e w'/\Below w.heap.size w w':=by
 obtain⟨N,hN⟩:∃N,N=w.heap.size:=⟨_,rfl⟩;have hNr:=hN.symm;have hru:=qm0 s w hs;rw[<- hN] at hru ⊢;by_cases hlong:300 < (R s 0).length
 ·have hD:qaz s=.error (1,0):=by unfold qaz;rw[if_pos hlong]
  have HD:Hid (∀(e:Ending) (w':Wq),e=.returned (.tuple #[.slice none 0 0,.int .i64 1,.int .i64 0])->qcx s e w'):=by
   intro e w' he;unfold qcx;rw[hD];exact he
  clear hD;generalize R s 0=L at *;go_enter Tryz.func64,Tryz.ntmps64;go_wp2_with fail;refine hru.mono ?_;rintro e W1 ⟨v1,rfl,ho1,hb1⟩;obtain⟨a1,c1,rfl⟩:=qd ho1;clear ho1 hru;go_wp2
  go_ret3
  exact⟨HD.out _ _ rfl,hb1⟩
 ·have hL:(R s 0).length<=300:=by omega
  have htk:=λW1=>qqd s W1 hs hL;have hln:=qnp s;have qg7:=qet s
  have hD:qaz s=if (Qv (lk0 false) (Q3 s)).1≠0 then .error (Qv (lk0 false) (Q3 s)) else match qef ((Q3 s).length+1) (Q3 s) with
   | none=>.error (0,0)
   | some rs=>if (qbh rs).1≠0 then .error (qbh rs) else .ok rs:=by unfold qaz;rw[if_neg hlong]
  generalize Q3 s=ts at *
  have hne:0 < ts.length:=by
   obtain⟨pre,E,h1,_⟩:=qg7;rw[h1];simp
  have hov:=λ(g cap:Nat) (W:Wq) (h:qex W g ts)=>qvo g cap ts false W h (by omega);by_cases hoe:(Qv (lk0 false) ts).1=0
  ·obtain⟨rs,hr1,hr2,hr3⟩:=qhx (ts.length+1) ts (lk0 false) (by omega) rfl rfl rfl qg7 hoe (by decide);rw[if_neg (by simpa using hoe),hr1] at hD;simp only at hD;have hrd:=λ(g cap:Nat) (W:Wq) (h:qgy W g ts)=>q4x g cap ts (ts.length+1) rs W h (by omega) hr1;have h8:rs.length<=8:=by simp[lk0] at hr2;exact hr2
   have HD:Hid (qaz s=if (qbh rs).1≠0 then .error (qbh rs) else .ok rs):=hD;have HR3:Hid (∀r∈rs,qhj r):=hr3
   have q3k:Hid (∀(g cap:Nat) (W:Wq),qex W g ts->Calls Tryz.prog 108 #[.slice (some ⟨g,0,none⟩) ts.length cap,.bool false] W λe w'=>(∃p:Nat,e=.returned (.tuple #[.int .i64 0,.int .i64 p]))/\Below W.heap.size W w'):=by
    intro g cap W h;refine (hov g cap W h).mono ?_;rintro e w' ⟨rfl,hb⟩;refine⟨⟨(Qv (lk0 false) ts).2,?_⟩,hb⟩;have e0:(Qv ⟨0,false,false,0,0,0,0⟩ ts).1=0:=hoe;rw[e0];rfl
   clear hov hD hr1 hr2 hr3 hoe qg7 hlong;generalize R s 0=L at *;go_enter Tryz.func64,Tryz.ntmps64;go_wp2_with fail;refine hru.mono ?_;rintro e W1 ⟨v1,rfl,ho1,hb1⟩;obtain⟨a1,c1,rfl⟩:=qd ho1;clear ho1 hru;go_wp2_with fail;refine (htk W1).mono ?_;rintro e W2 ⟨v2,rfl,ho2,hb2⟩;obtain⟨g,cap,rfl,hTA⟩:=ql6 ho2 hne;have hN1:N<=W1.heap.size:=by have:=hb1.size;omega
   have qdz:Below N w W2:=hb1.trans (hb2.mono hN1);have hN2:N<=W2.heap.size:=Nat.le_trans hN1 hb2.size;clear ho2 htk hb1 hb2;go_wp2_with fail;refine (q3k.out g cap W2 hTA.1).mono ?_;rintro e W3 ⟨⟨p3,rfl⟩,hb3⟩;have q23:=hTA.below hb3 hTA.1.1;have qf5:Below N w W3:=qdz.trans (hb3.mono hN2);have hN3:N<=W3.heap.size:=Nat.le_trans hN2 hb3.size;clear hb3 hTA q3k qdz;go_wp2_with fail;refine (hrd g cap W3 q23).mono ?_;rintro e W4 ⟨v4,qs,rfl,hO,hq⟩;have hR4:=hO.rules;have qjv:Below N w W4:=qf5.trans (hO.below.mono hN3);have hN4:N<=W4.heap.size:=Nat.le_trans hN3 hO.size;have hok:=q65 hq h8 HR3.out;have hsd:=q1h v4 qs W4 hR4 hok;rw[hq] at hsd;clear hrd hO qf5 q23;by_cases hse:(qbh rs).1=0
   ·have HDD:Hid (∀(e:Ending) (w':Wq),(∃v qs,e=.returned (.tuple #[v,.int .i64 0,.int .i64 0])/\qag w' v qs/\qs.map (·.1)=rs/\qjz qs/\rs.length<=8/\∀r∈rs,qhj r)->qcx s e w'):=by
     intro e w' he;unfold qcx;rw[HD.out,if_neg (by simpa using hse)];exact he
    rw[hse] at hsd;go_wp2_with fail;refine hsd.mono ?_;rintro e W5 ⟨rfl,hb5⟩;have hR5:=hR4.below hb5;have qqt:Below N w W5:=qjv.trans (hb5.mono hN4);clear hsd hR4 hb5 qjv;go_wp2
    go_ret3
    exact⟨HDD.out _ _ ⟨v4,qs,rfl,hR5,hq,hok,h8,HR3.out⟩,qqt⟩
   ·have HDD:Hid (∀(e:Ending) (w':Wq),e=.returned (.tuple #[.slice none 0 0,.int .i64 (qbh rs).1,.int .i64 (qbh rs).2])->qcx s e w'):=by
     intro e w' he;unfold qcx;rw[HD.out,if_pos hse];exact he
    generalize (qbh rs).1=se at *;generalize (qbh rs).2=si at *;have m0:(se == 0)=false:=by simpa using hse
    have m1:(se != 0)=true:=by simpa using hse
    go_wp2_with fail;refine hsd.mono ?_;rintro e W5 ⟨rfl,hb5⟩;have qqt:Below N w W5:=qjv.trans (hb5.mono hN4);clear hsd hR4 hb5 qjv;go_wp2
    go_ret3
    exact⟨HDD.out _ _ rfl,qqt⟩
  ·rw[if_pos hoe] at hD
   have HDD:Hid (∀(e:Ending) (w':Wq),e=.returned (.tuple #[.slice none 0 0,.int .i64 (Qv (lk0 false) ts).1,.int .i64 (Qv (lk0 false) ts).2])->qcx s e w'):=by
    intro e w' he;unfold qcx;rw[hD];exact he
   have q3m:Hid (∀(g cap:Nat) (W:Wq),qex W g ts->Calls Tryz.prog 108 #[.slice (some ⟨g,0,none⟩) ts.length cap,.bool false] W λe w'=>e=.returned (.tuple #[.int .i64 (Qv (lk0 false) ts).1,.int .i64 (Qv (lk0 false) ts).2])/\Below W.heap.size W w'):=hov;clear hov hD qg7 hlong;generalize (Qv (lk0 false) ts).1=oe at *;generalize (Qv (lk0 false) ts).2=op at *;generalize R s 0=L at *;have m0:(oe == 0)=false:=by simpa using hoe
   have m1:(oe != 0)=true:=by simpa using hoe
   go_enter Tryz.func64,Tryz.ntmps64;go_wp2_with fail;refine hru.mono ?_;rintro e W1 ⟨v1,rfl,ho1,hb1⟩;obtain⟨a1,c1,rfl⟩:=qd ho1;clear ho1 hru;go_wp2_with fail;refine (htk W1).mono ?_;rintro e W2 ⟨v2,rfl,ho2,hb2⟩;obtain⟨g,cap,rfl,hTA⟩:=ql6 ho2 hne;have hN1:N<=W1.heap.size:=by have:=hb1.size;omega
   have qdz:Below N w W2:=hb1.trans (hb2.mono hN1);have hN2:N<=W2.heap.size:=Nat.le_trans hN1 hb2.size;clear ho2 htk hb1 hb2;go_wp2_with fail;refine (q3m.out g cap W2 hTA.1).mono ?_;rintro e W3 ⟨rfl,hb3⟩;have qf5:Below N w W3:=qdz.trans (hb3.mono hN2);clear hb3 hTA q3m qdz;go_wp2
   go_ret3
   exact⟨HDD.out _ _ rfl,qf5⟩
def tmW(t:Tm):ByteArray:=if t.name.toList.isEmpty=true then ⟨#[88]⟩++Qej t.num else t.name
def q7p:Nat->List Tm->ByteArray
 | _,[]=>⟨#[]⟩
 | i,t::l=>(if 0 < i then ⟨#[44]⟩ else ⟨#[]⟩)++tmW t++q7p (i+1) l
def q7q(a:Am):ByteArray:=(a.rel ++ ⟨#[40]⟩)++q7p 0 a.args ++ ⟨#[41]⟩
def q1x(K:Nat)(a:Am):Prop:=a.rel.size<=K/\∀t∈a.args,t.name.size<=K
def Qa8(K:Nat)(r:Rl):Prop:=q1x K r.head/\∀a∈r.body,q1x K a
theorem qii(K:Nat):∀(us:List RT) (vs:List ByteArray) (L:List Tm) (vsF:List ByteArray) (n:Nat),(∀u∈us,u.text.size<=K)->qab vs us=some (L,vsF,n)->∀t∈L,t.name.size<=K
 | [],vs,L,vsF,n,_,h=>by simp[qab] at h
 | [a],vs,L,vsF,n,_,h=>by simp[qab] at h
 | a::b::us,vs,L,vsF,n,hu,h=>by
  have ha:(qf2 vs a).name.size<=K:=by
   unfold qf2;split
   ·exact Nat.zero_le _
   ·exact hu a List.mem_cons_self
  unfold qab at h;split at h
  ·simp only[Option.some.injEq,Prod.mk.injEq] at h;obtain⟨rfl,rfl,rfl⟩:=h;intro t ht;simp at ht;subst ht;exact ha
  ·cases hr:qab (qdl vs a) us with
   | none=>rw[hr] at h;simp at h
   | some r=>
    obtain⟨l',v',n'⟩:=r;rw[hr] at h;simp only[Option.some.injEq,Prod.mk.injEq] at h;obtain⟨rfl,rfl,rfl⟩:=h;have ih:=qii K us _ _ _ _ (λu hu'=>hu u (List.mem_cons_of_mem _ (List.mem_cons_of_mem _ hu'))) hr;intro t ht;rcases List.mem_cons.1 ht with rfl | ht
    ·exact ha
    ·exact ih t ht
theorem qt1(K:Nat):∀(n f:Nat) (us:List RT) (vs:List ByteArray) (bs:List Am) (m:Nat),us.length<=n->(∀u∈us,u.text.size<=K)->qd5 f vs us=some (bs,m)->∀a∈bs,q1x K a
 | n,f,us,vs,bs,m,hn,hu,h=>by
  obtain⟨t,us1,rfl,⟨_,rfl,_⟩ | ⟨_,r,p,us2,l,vs',k,f',bs',m',rfl,h1,h2,rfl,_⟩⟩:=qkh h
  ·intro a ha;cases ha
  ·cases n with
   | zero=>simp at hn
   | succ n=>
    have hu2:∀u∈us2,u.text.size<=K:=λu hu'=>hu u (List.mem_cons_of_mem _ (List.mem_cons_of_mem _ (List.mem_cons_of_mem _ hu')));have ih:=qt1 K n f' (us2.drop k) vs' bs' m' (by simp at hn ⊢;omega) (λu hu'=>hu2 u (List.mem_of_mem_drop hu')) h2;intro a ha;rcases List.mem_cons.1 ha with rfl | ha
    ·exact⟨hu r (List.mem_cons_of_mem _ List.mem_cons_self),qii K us2 _ _ _ _ hu2 h1⟩
    ·exact ih a ha
theorem qvr(K:Nat):∀(n f:Nat) (us:List RT) (rs:List Rl),us.length<=n->(∀u∈us,u.text.size<=K)->qef f us=some rs->∀r∈rs,Qa8 K r
 | n,f,us,rs,hn,hu,h=>by
  obtain⟨t,us1,rfl,⟨_,rfl⟩ | ⟨_,p,us2,l,vs,k,bs,m,f',rs',rfl,h1,h2,h3,rfl⟩⟩:=qku h
  ·intro r hr;cases hr
  ·cases n with
   | zero=>simp at hn
   | succ n=>
    have hu2:∀u∈us2,u.text.size<=K:=λu hu'=>hu u (List.mem_cons_of_mem _ (List.mem_cons_of_mem _ hu'));have hu3:∀u∈us2.drop k,u.text.size<=K:=λu hu'=>hu2 u (List.mem_of_mem_drop hu');have ih:=qvr K n f' ((us2.drop k).drop (m+1)) rs' (by simp at hn ⊢;omega) (λu hu'=>hu3 u (List.mem_of_mem_drop hu')) h3;intro r hr;rcases List.mem_cons.1 hr with rfl | hr
    ·exact⟨⟨hu t List.mem_cons_self,qii K us2 _ _ _ _ hu2 h1⟩,qt1 K _ _ _ _ _ _ zl hu3 h2⟩
    ·exact ih r hr
theorem q2h(l:List Rn)(h:∀r∈l,r.text.size<=4):(cat l).size<=4*l.length:=by
 induction l with
 | nil=>exact Nat.le_refl 0
 | cons x l ih=>
  have h1:=h x List.mem_cons_self;have h2:=ih (λr hr=>h r (List.mem_cons_of_mem _ hr));simp only[cat,ByteArray.size_append,List.length_cons];omega
theorem Qap(l:List Rn):∀r∈tw l,r∈l:=λr hr=>by rw[qgj] at hr;exact List.mem_of_mem_take hr
theorem qjl:∀(f:Nat) (l:List Rn) (i:Nat),(∀r∈l,r.text.size<=4)->∀t∈qbs f l i,t.text.size<=4*l.length
 | 0,l,i,_,t,ht=>by simp[qbs] at ht
 | f+1,[],i,_,t,ht=>by simp[qbs] at ht
 | f+1,r::l,i,h,t,ht=>by
  have hr:=h r List.mem_cons_self;have hl:∀x∈l,x.text.size<=4:=λx hx=>h x (List.mem_cons_of_mem _ hx);have hc:=q2h (tw l) (λx hx=>hl x (Qap l x hx));have htl:=qzc l;have i1:=qjl f (l.drop (tw l).length) (i+(1+(tw l).length)) (λx hx=>hl x (List.mem_of_mem_drop hx)) t;have i2:=qjl f l (i+1) hl t;have i3:=qjl f (l.drop 1) (i+2) (λx hx=>hl x (List.mem_of_mem_drop hx)) t;rw[List.length_drop] at i1 i3;simp only[List.length_cons];unfold qbs at ht;split at ht
  ·rcases List.mem_cons.1 ht with rfl | ht
   ·simp only[ByteArray.size_append];omega
   ·have:=i1 ht;omega
  ·split at ht
   ·rcases List.mem_cons.1 ht with rfl | ht
    ·simp only;omega
    ·have:=i2 ht;omega
   ·split at ht
    ·rcases List.mem_cons.1 ht with rfl | ht
     ·show (0:Nat)<=_;omega
     ·have:=i3 ht;omega
    ·split at ht
     ·have:=i2 ht;omega
     ·rcases List.mem_cons.1 ht with rfl | ht
      ·simp only;omega
      ·have:=i2 ht;omega
theorem qhw(s:ByteArray)(hL:(R s 0).length<=300):∀t∈Q3 s,t.text.size<=1200:=by
 intro t ht;unfold Q3 at ht;rcases List.mem_append.1 ht with ht | ht
 ·have:=qjl _ _ _ (λr hr=>(qwg s s.size 0 (by omega) r hr).2) t ht;omega
 ·simp at ht;subst ht;exact Nat.zero_le _
theorem q00(s:ByteArray)(rs:List Rl)(h:qaz s=.ok rs):∀r∈rs,Qa8 1200 r:=by
 unfold qaz at h;split at h
 ·cases h
 ·rename_i hL;split at h
  ·cases h
  ·split at h
   ·cases h
   ·rename_i rs' hr;split at h
    ·cases h
    ·injection h with h;subst h;exact qvr 1200 _ _ _ _ zl (qhw s (by omega)) hr
def q7r:Nat->List Am->ByteArray
 | _,[]=>⟨#[]⟩
 | i,a::l=>(if i=0 then ⟨#[32,58,45,32]⟩ else ⟨#[44,32]⟩)++q7q a++q7r (i+1) l
def Qdv(r:Rl):ByteArray:=q7q r.head++q7r 0 r.body ++ ⟨#[46,10]⟩
def q41:List Rl->ByteArray
 | []=>⟨#[]⟩
 | r::l=>Qdv r++q41 l
def Qdu(s:ByteArray):ByteArray×Int×Nat:=
 match qaz s with
 | .error (c,p)=>(⟨#[]⟩,c,p)
 | .ok rs=>(q41 rs,0,0)
theorem qhv(s:ByteArray)(c:Int)(p:Nat)(h:qaz s=.error (c,p)):c≠0:=by
 unfold qaz at h;split at h
 ·injection h with h;injection h with h1 h2;omega
 ·split at h
  ·rename_i ho;injection h with h;rw[h] at ho;exact ho
  ·rename_i ho;obtain⟨rs,hr1,_,_⟩:=qhx ((Q3 s).length+1) (Q3 s) (lk0 false) (by omega) rfl rfl rfl (qet s) (by unfold okO;simpa using ho) (by decide);rw[hr1] at h;simp only at h;split at h
   ·rename_i hs;injection h with h;rw[h] at hs;exact hs
   ·cases h
structure Gr where
 rel:ByteArray
 args:List ByteArray
def qu(W:Wq)(v:Vq)(l:List ByteArray):Prop:=W.ownsRow 0 9 1 v l.length (l.map Value.string)
def gdC(p:Gr×Vq):List Vq:=[.string p.1.rel,p.2]
theorem q6a(p:Gr×Vq):(gdC p).length=2:=rfl
def gdV(p:Gr×Vq):Vq:=.agg #[.string p.1.rel,p.2]
structure qcu(W:Wq)(v:Vq)(ps:List (Gr×Vq)):Prop where
 row:W.ownsRow 0 226 2 v ps.length (ps.flatMap gdC)
 each:∀p∈ps,qu W p.2 p.1.args
theorem qu.below{v:Vq}(h:qu W v l)(hb:Below W.heap.size W W'):qu W' v l:=qk h hb
theorem qcu.below{v:Vq}{ps:List (Gr×Vq)}(h:qcu W v ps)(hb:Below W.heap.size W W'):qcu W' v ps:=⟨qk h.row hb,λp hp=>(h.each p hp).below hb⟩
theorem qu.cell{v:Vq}(h:qu W v l)(j:Nat)(hj:j < l.length):∃g cap,v=.slice (some ⟨g,0,none⟩) l.length cap/\g < W.heap.size/\W.cell? ⟨g,j,none⟩=some (.string l[j]):=by
 unfold qu at h;rw[qjo] at h;obtain⟨g,cap,e1,e2,e3,e4,e5⟩:=qbq h ql4 (by omega);have:=e5 j 0 hj (.string l[j]) (by decide) rfl;rw[Nat.mul_one,Nat.add_zero] at this;exact⟨g,cap,e1,e3,this⟩
theorem qcu.cell{v:Vq}{ps:List (Gr×Vq)}(h:qcu W v ps)(k:Nat)(hk:k < ps.length) :
  ∃g cap,v=.slice (some ⟨g,0,none⟩) ps.length cap/\g < W.heap.size/\W.cell? ⟨g,k*2,none⟩=some (.string ps[k].1.rel)/\W.cell? ⟨g,k*2+1,none⟩=some ps[k].2/\(∃a c,ps[k].2=.slice a ps[k].1.args.length c)/\qu W ps[k].2 ps[k].1.args:=by
 obtain⟨g,cap,e1,e2,e3,e4,e5⟩:=qbq h.row q6a (by omega);have hA:=h.each ps[k] (List.getElem_mem hk);exact⟨g,cap,e1,e3,e5 k 0 hk _ (by decide) rfl,e5 k 1 hk _ (by decide) rfl,qd hA,hA⟩
theorem qwr{x y:ByteArray}(h:x.toList=y.toList):x=y:=by
 rw[ByteArray.toList_eq,ByteArray.toList_eq] at h;exact ByteArray.ext (Array.toList_inj.1 h)
theorem qej(x y:ByteArray):(x.toList == y.toList)=decide (x=y):=by
 rw[Bool.eq_iff_iff];simp only[beq_iff_eq,decide_eq_true_eq];exact⟨qwr,λh=>by rw[h]⟩
def qgf:List ByteArray->List ByteArray->Bool
 | [],[]=>true
 | x::l,y::m=>(x.toList == y.toList) && qgf l m
 | _,_=>false
def qeg(a b:Gr):Bool:=(a.rel.toList == b.rel.toList) && qgf a.args b.args
theorem qm1:∀(l m:List ByteArray),qgf l m=true↔l=m
 | [],[]=>by simp[qgf]
 | [],y::m=>by simp[qgf]
 | x::l,[]=>by simp[qgf]
 | x::l,y::m=>by simp only[qgf,Bool.and_eq_true,qej,decide_eq_true_eq,qm1 l m,List.cons.injEq]
theorem qhf(a b:Gr):qeg a b=true↔a=b:=by
 obtain⟨r,l⟩:=a;obtain⟨q,m⟩:=b;simp only[qeg,Bool.and_eq_true,qej,decide_eq_true_eq,qm1,Gr.mk.injEq]
theorem q1b(l m:List ByteArray)(h:l.length≠m.length):qgf l m=false:=by
 cases hs:qgf l m with
 | false=>rfl
 | true=>exact absurd (congrArg List.length ((qm1 l m).1 hs)) h
theorem qvt(p q:Gr×Vq)(w:Wq)(hp:qu w p.2 p.1.args)(hq:qu w q.2 q.1.args)(hl:p.1.args.length<=1000000) :
  Calls Tryz.prog 118 #[gdV p,gdV q] w λe w'=>e=.returned (.bool (qeg p.1 q.1))/\Below w.heap.size w w':=by
 obtain⟨⟨r1,l1⟩,v1⟩:=p;obtain⟨⟨r2,l2⟩,v2⟩:=q;unfold gdV;simp only at hp hq hl ⊢;obtain⟨a1,c1,rfl⟩:=qd hp;obtain⟨a2,c2,rfl⟩:=qd hq;have hbw:Hid (∀O O',Below w.heap.size w ((w.alloc O).alloc O')):=λO O'=>((Below.refl _ w).alloc zl O).alloc (by simp) O'
 have HC1:Hid (∀(O O':Obj) (j:Nat) (hj:j < l1.length),∃g,a1=some ⟨g,0,none⟩/\((w.alloc O).alloc O').cell? ⟨g,j,none⟩=some (.string l1[j])):=by
  intro O O' j hj;obtain⟨g,cap,e1,hg,hc⟩:=hp.cell j hj;cases e1;exact⟨g,rfl,(Below.cell (hbw.out O O') hg).trans hc⟩
 have HC2:Hid (∀(O O':Obj) (j:Nat) (hj:j < l2.length),∃g,a2=some ⟨g,0,none⟩/\((w.alloc O).alloc O').cell? ⟨g,j,none⟩=some (.string l2[j])):=by
  intro O O' j hj;obtain⟨g,cap,e1,hg,hc⟩:=hq.cell j hj;cases e1;exact⟨g,rfl,(Below.cell (hbw.out O O') hg).trans hc⟩
 clear hp hq;have hS:qeg ⟨r1,l1⟩ ⟨r2,l2⟩=((r1.toList == r2.toList) && qgf l1 l2):=rfl;rw[hS];clear hS
 cases hr:(r1.toList == r2.toList) with
 | false=>
  go_enter Tryz.func118,Tryz.ntmps118;go_wp2;go_ret;exact⟨by simp,hbw.out _ _⟩
 | true=>
  by_cases Q7:l1.length=l2.length
  ·have h1:((l1.length:Int) == (l2.length:Int))=true:=by simp[Q7]
   obtain⟨n,hn⟩:∃n,l2.length=n:=⟨_,rfl⟩;have HN2:Hid (l2.length=n):=hn;have HN1:Hid (l1.length=n):=Q7.trans hn;have e1:l1.length=n:=Q7.trans hn;rw[e1] at hl ⊢;rw[hn];clear h1 Q7 hn e1;go_enter Tryz.func118,Tryz.ntmps118;go_wp2
   go_loopw [5] (λx wr=>∃k:Nat,x=.int .i64 k/\k<=n/\(∃d,wr=(((w.alloc (.cells #[.string r1,.slice a1 n c1] 226)).alloc (.cells #[.string r2,.slice a2 n c2] 226))).drewN d)/\Hid (qgf (l1.drop k) (l2.drop k)=qgf l1 l2)) (λx _=>n - (intOf x).toNat)
   case atStart=>exact⟨0,rfl,Nat.zero_le _,⟨0,rfl⟩,rfl⟩
   case round=>
    obtain⟨k,rfl,hle,⟨d,rfl⟩,hsp⟩:=hrel;by_cases hlt:k < n
    ·have hk1:k < l1.length:=by rw[HN1.out];exact hlt
     have hk2:k < l2.length:=by rw[HN2.out];exact hlt
     obtain⟨g1,rfl,d1⟩:=HC1.out (.cells #[.string r1,.slice a1 n c1] 226) (.cells #[.string r2,.slice a2 n c2] 226) k hk1;obtain⟨g2,rfl,d2⟩:=HC2.out (.cells #[.string r1,.slice (some ⟨g1,0,none⟩) n c1] 226) (.cells #[.string r2,.slice a2 n c2] 226) k hk2;rw[List.drop_eq_getElem_cons hk1,List.drop_eq_getElem_cons hk2] at hsp;simp only[qgf] at hsp;generalize l1[k]=x at *;generalize l2[k]=y at *
     cases hxy:(x.toList == y.toList) with
     | true=>
      rw[hxy] at hsp;simp only[Bool.true_and] at hsp;go_wp2;go_quiet (fail);go_wp2
      go_roundw
      case rel=>exact⟨k+1,by go_num,by omega,⟨_,rfl⟩,hsp⟩
      case measure=>simp[intOf];omega
     | false=>
      rw[hxy] at hsp;simp only[Bool.false_and] at hsp;go_wp2;go_quiet (fail);go_wp2;go_ret;rw[<- hsp.out];exact⟨by simp,qq (qq (hbw.out _ _))⟩
    ·have h1:l1.drop k=[]:=List.drop_eq_nil_of_le (by rw[HN1.out];omega);have h2:l2.drop k=[]:=List.drop_eq_nil_of_le (by rw[HN2.out];omega);rw[h1,h2] at hsp;go_wp2;go_ret;rw[<- hsp.out];exact⟨by simp[qgf],qq (hbw.out _ _)⟩
  ·have hs:=q1b l1 l2 Q7;rw[hs];have h1:((l1.length:Int) == (l2.length:Int))=false:=by simp;omega
   have h2:((l1.length:Int) != (l2.length:Int))=true:=by simp;omega
   go_enter Tryz.func118,Tryz.ntmps118;go_wp2;go_ret;exact⟨by simp,hbw.out _ _⟩
def inG(l:List Gr)(g:Gr):Bool:=l.any (λx=>qeg x g)
theorem qs8(l:List Gr)(g:Gr):inG l g=true↔g∈l:=by
 unfold inG;rw[List.any_eq_true];constructor
 ·rintro⟨x,hx,hs⟩;rw[qhf] at hs;rw[<- hs];exact hx
 ·intro h;exact⟨g,h,(qhf g g).2 rfl⟩
theorem qs9(v:Vq)(ps:List (Gr×Vq))(q:Gr×Vq)(w:Wq)(hp:qcu w v ps)(hq:qu w q.2 q.1.args)(hl:ps.length<=1000000)(ha:∀p∈ps,p.1.args.length<=1000000) :
  Calls Tryz.prog 122 #[v,gdV q] w λe w'=>e=.returned (.bool (inG (ps.map (·.1)) q.1))/\Below w.heap.size w w':=by
 obtain⟨pa,pc,rfl⟩:=qd hp.row;obtain⟨⟨r2,l2⟩,v2⟩:=q;unfold gdV;simp only at hq ⊢;obtain⟨a2,c2,rfl⟩:=qd hq;obtain⟨N,hN⟩:∃N,N=w.heap.size:=⟨_,rfl⟩;have hNr:=hN.symm;obtain⟨W0,hW0⟩:∃W0,W0=w.alloc (.cells #[.string r2,.slice a2 l2.length c2] 226):=⟨_,rfl⟩;have hs0:W0.heap.size=N+1:=by rw[hW0];simp[hNr]
 have hb0:Below N w W0:=by rw[hW0];exact (Below.refl _ w).alloc (by omega) _
 have qae:W0.heap[N]?=some (Obj.cells #[.string r2,.slice a2 l2.length c2] 226):=by rw[hW0,<- hNr];exact World.alloc_heap_new w _
 have hp0:qcu W0 (.slice pa ps.length pc) ps:=hp.below (by rw[hNr];exact hb0);have hq0:qu W0 (.slice a2 l2.length c2) l2:=qu.below hq (by rw[hNr];exact hb0);have HP:Hid (qcu W0 (.slice pa ps.length pc) ps):=hp0;have HQ:Hid (qu W0 (.slice a2 l2.length c2) l2):=hq0;have HB0:Hid (Below N w W0):=hb0;have HBX:Hid _:=qae;have HS0:Hid (W0.heap.size=N+1):=hs0;rw[<- hN];clear hp hq hN hp0 hq0 hb0 qae hs0;go_enter Tryz.func122,Tryz.ntmps122;go_wp2
 go_loopw [5] (λx wr=>∃k:Nat,x=.int .i64 k/\k<=ps.length/\Below (N+1) W0 wr/\Hid (inG ((ps.drop k).map (·.1)) ⟨r2,l2⟩=inG (ps.map (·.1)) ⟨r2,l2⟩)) (λx _=>ps.length - (intOf x).toNat)
 case atStart=>exact⟨0,rfl,Nat.zero_le _,by rw[hW0];exact Below.refl _ _,rfl⟩
 case round=>
  obtain⟨k,rfl,hle,hbe,hsp⟩:=hrel;have q9b:Below W0.heap.size W0 wr:=by rw[HS0.out];exact hbe
  have Qc7:=hbe.size;rw[HS0.out] at Qc7;by_cases hlt:k < ps.length
  ·obtain⟨g,cap,e1,hg,d0,d1,⟨x1,x2,hx⟩,hS⟩:=(HP.out.below q9b).cell k hlt;cases e1;have hbx:wr.heap[N]?=some (Obj.cells #[.string r2,.slice a2 l2.length c2] 226):=(hbe.block N (by omega)).trans HBX.out;have b0:wr.cell? ⟨N,0,none⟩=some (.string r2):=by simp[World.cell?,hbx]
   have b1:wr.cell? ⟨N,1,none⟩=some (.slice a2 l2.length c2):=by simp[World.cell?,hbx]
   have hsm:Hid (∀d,Calls Tryz.prog 118 #[.agg #[.string ps[k].1.rel,ps[k].2],.agg #[.string r2,.slice a2 l2.length c2]] (wr.drewN d) λe w'=>e=.returned (.bool (qeg ps[k].1 ⟨r2,l2⟩))/\Below (N+1) W0 w'):=by
    intro d;have hb:=qvt ps[k] (⟨r2,l2⟩,.slice a2 l2.length c2) (wr.drewN d) (hS.below (qq (Below.refl _ wr))) ((qu.below HQ.out q9b).below (qq (Below.refl _ wr))) (ha ps[k] (List.getElem_mem hlt));refine hb.mono ?_;rintro e w' ⟨rfl,hb'⟩;exact⟨rfl,(qq hbe).trans (hb'.mono (by show N+1<=wr.heap.size;omega))⟩
   rw[List.drop_eq_getElem_cons hlt,List.map_cons] at hsp;have qmr:Hid ((qeg ps[k].1 ⟨r2,l2⟩ || inG ((ps.drop (k+1)).map (·.1)) ⟨r2,l2⟩)=inG (ps.map (·.1)) ⟨r2,l2⟩):=hsp;rw[hx] at d1 hsm;generalize qeg ps[k].1 ⟨r2,l2⟩=sb at *;generalize ps[k].1.rel=pr at *;generalize ps[k].1.args.length=pl at *;have HBE:Hid (Below (N+1) W0 wr):=hbe;clear hbe q9b hS hx hsp hbx;go_wp2
   go_region_with (go_at_call 118;refine (hsm.out 1).mono ?_;rintro e w2 ⟨rfl,hb2⟩)
   all_goals
    cases sb with
    | true=>
     go_wp2;go_ret;rw[<- qmr.out];exact⟨by simp,HB0.out.trans (hb2.mono (by omega))⟩
    | false=>
     go_wp2
     go_roundw
     case rel=>exact⟨k+1,by go_num,by omega,hb2,by simpa using qmr⟩
     case measure=>simp[intOf];omega
  ·rw[List.drop_eq_nil_of_le (by omega)] at hsp;go_wp2;go_ret;rw[<- hsp.out];exact⟨by simp[inG],HB0.out.trans (hbe.mono (by omega))⟩
