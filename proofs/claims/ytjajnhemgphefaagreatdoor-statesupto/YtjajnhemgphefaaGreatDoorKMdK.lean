/- A part -/
import Derived.Test.YtjajnhemgphefaaGreatDoorKMdD
import Derived.Laws.CopyOwn
set_option linter.all false
set_option maxRecDepth 100000
set_option maxHeartbeats 8000000
namespace Go.Proofs.YtjajnhemgphefaaGreatDoor
open Go renaming World->Wq,Value->Vq
open Go.RowKit Go.Shelf
variable {X W Y:Wq} {N S:Nat} {a:Option Addr} {ps:List (Am×Vq)} {vo vm v1 v2:Vq} {out m:List By} {r1 r2:By}
theorem Qb9{l:Lk}{t:RT}(hw:l.want=4)(ha:l.alone=true)(h:(qw l t).e=0):(t.kind=44/\qw l t={l with want:=3})\/(t.kind=41/\qw l t={l with want:=6}):=by
 have hs:qw l t=qaa l t:=by unfold qw;simp[hw]
 rw[hs] at h ⊢;unfold qaa at h ⊢;simp only[hw,ha] at h ⊢;simp at h ⊢;by_cases h1:t.kind=44
 .left;simp[h1]
 .by_cases h2:t.kind=41
  .right;simp[h2]
  .simp[h1,h2] at h
theorem qo5:∀(n:Nat) (ts:List RT) (l:Lk) (vs:List By),ts.length<=n->l.want=3->l.e=0->l.alone=true->qef ts->okO l ts->
  ∃L ak k,qaf vs ts=some (L,ak,k)/\l.args+L.length<=2/\1<=L.length/\okO {l with want:=6,args:=l.args+L.length} (ts.drop k)/\qef (ts.drop k)/\(∀t∈L,t.num<=vs.length+L.length)/\ak.length<=vs.length+L.length
 | 0,ts,l,vs,hn,_,_,_,hE,_=>by
  have:ts=[]:=List.eq_nil_of_length_eq_zero (by omega);rw[this] at hE;exact absurd hE qa3
 | n+1,[],l,vs,hn,_,_,_,hE,_=>absurd hE qa3
 | n+1,t::us,l,vs,hn,hw,he,hal,hE,cc=>by
  obtain⟨h1,h2⟩:=qda cc (qkm (by rw[hw];decide) (by rw[hw];decide));obtain⟨hk,hg,hr,b3⟩:=q92 hw h1;have cn:=qad hE (by omega);rw[b3] at h2
  have ea:(qge vs t).num<=vs.length:=by
   unfold qge;split
   .exact List.findIdx_le_length
   .simp
  have dn:=qjp vs t
  cases us with
  | nil=>exact absurd cn qa3
  | cons b us=>
   obtain⟨h3,h4⟩:=qda h2 (qkm (by simp) (by simp));rcases Qb9 (l:={l with args:=l.args+1,want:=4}) rfl (by simpa using hal) h3 with⟨hb,qk0⟩ | ⟨hb,qk0⟩
   .rw[qk0] at h4;have cf:=qad cn (by omega);obtain⟨L,ak,k,r1,r2,r0,r3,r4,r5,r6⟩:=qo5 n us {l with args:=l.args+1,want:=3} (qdp vs t) (by simp at hn;omega) rfl he hal cf h4;refine⟨qge vs t::L,ak,k+2,?_,?_,by simp,?_,?_,?_,?_⟩
    .unfold qaf;rw[if_neg (by omega),r1]
    .simp at r2 ⊢;omega
    .simp only[List.length_cons,List.drop_succ_cons] at r3 ⊢;have e:l.args+(L.length+1)=l.args+1+L.length:=by omega
     rw[e];exact r3
    .simpa using r4
    .intro t' aq;simp only[List.length_cons];rcases List.mem_cons.1 aq with rfl | aq
     .omega
     .have:=r5 t' aq;omega
    .simp only[List.length_cons];omega
   .rw[qk0] at h4;have cf:=qad cn (by omega);refine⟨[qge vs t],qdp vs t,2,?_,by simpa using hg,by simp,by simpa using h4,by simpa using cf,?_,by simpa using dn⟩
    .unfold qaf;rw[if_pos hb]
    .intro t' aq;simp at aq;subst aq;simp;omega
def qqc:List RT->Option Am
 | t::_::us=>match qaf [] us with
  | some (l,_,_)=>some ⟨t.text,l⟩
  | none=>none
 | _=>none
def qgh(s:By):Option Am:=
 if 300 < (R s 0).length then none
 else if (Qw (lk0 true) (Q6 s)).1≠0 then none
 else qqc (Q6 s)
theorem qv7(ts:List RT)(hE:qef ts)(cc:okO (lk0 true) ts):∃t p us L ak k,ts=t::p::us/\qaf [] us=some (L,ak,k)/\L.length<=2/\1<=L.length/\(∀t∈L,t.num<=2):=by
 cases ts with
 | nil=>exact absurd hE qa3
 | cons t ts=>
  have ha:qas (lk0 true) t=false:=by unfold qas lk0;simp
  obtain⟨h1,h2⟩:=qda cc ha;obtain⟨kt,kr,d9,dv⟩:=q91 (l:=lk0 true) rfl h1;have E1:=qad hE (by omega);rw[dv] at h2
  cases ts with
  | nil=>exact absurd E1 qa3
  | cons p us=>
   obtain⟨g3,g4⟩:=qda h2 (qkm (by simp) (by simp));obtain⟨kp,ch⟩:=q6a (l:={lk0 true with rules:=(lk0 true).rules+1,body:=false,want:=2}) rfl g3;have E2:=qad E1 (by omega);rw[ch] at g4;obtain⟨L,ak,k,q1,q2,q0,q3,q4,q5,q6⟩:=qo5 us.length us {lk0 true with rules:=(lk0 true).rules+1,body:=false,args:=0,want:=3} [] zl rfl rfl rfl E2 g4;simp only[Nat.zero_add,List.length_nil] at q2 q5;exact⟨t,p,us,L,ak,k,rfl,q1,q2,q0,λt' aq=>by have:=q5 t' aq;omega⟩
def qen(s:By)(N:Nat)(e:Ending)(w':Wq):Prop:=
 match qgh s with
 | none=>e=.returned (.tuple #[.agg #[St ⟨#[]⟩,.slice none 0 0],.bool false])
 | some a=>∃va,e=.returned (.tuple #[.agg #[St a.rel,va],.bool true])/\w'.ownsRow N 215 2 va a.args.length (a.args.flatMap tmC)/\a.args.length<=2/\1<=a.args.length/\(∀t∈a.args,t.num<=2)/\q2r 1200 a
theorem qtc{T:Nat}{x y a b:Vq}(h:X.heap[N]?=cC #[x,y] T):(X.setCell (Ad N 0) a).cell? (Ad N 0)=some a/\((X.setCell (Ad N 0) a).setCell (Ad N 1) b).cell? (Ad N 1)=some b:=by
 refine⟨by simp[World.cell?,Qc h 0 a],by simp[World.cell?,Qc (Qc h 0 a) 1 b]⟩
theorem qzt(s:By)(w:Wq)(hs:s.size<=1048576) :
  Cs 114 #[St s] w λe w'=>qen s w.heap.size e w'/\Below w.heap.size w w':=by
 obtain⟨N,hN⟩:∃N,N=w.heap.size:=⟨_,rfl⟩;have ck:=hN.symm;rw[<- hN];obtain⟨W0,am⟩:∃W0,W0=w.alloc (.cells #[St ⟨#[]⟩,.slice none 0 0] 145):=⟨_,rfl⟩;have cr:W0.heap.size=N+1:=by rw[am];simp[ck]
 have c6:Below N w W0:=by rw[am];exact (Below.refl _ w).alloc (by omega) _
 have Qs:W0.heap[N]?=cC #[St ⟨#[]⟩,.slice none 0 0] 145:=by rw[am,<- ck];exact zn w _
 have ax:=qnj s W0 hs
 have cd:Hid (∀X,Below W0.heap.size W0 X->X.heap[N]?=cC #[St ⟨#[]⟩,.slice none 0 0] 145/\X.cell? (Ad N 0)=some (St ⟨#[]⟩)/\X.cell? (Ad N 1)=some (.slice none 0 0)/\(∀o,X.frozen? (Ad N o)=false)/\Below N w X):=by
  intro X hX;have h1:X.heap[N]?=cC #[St ⟨#[]⟩,.slice none 0 0] 145:=(hX.block N (by omega)).trans Qs;exact⟨h1,zc h1,zc h1,λo=>by simp[World.frozen?,h1],c6.trans (hX.mono (by omega))⟩
 have dk:Hid (W0.heap.size=N+1):=cr;have eb:Hid _:=am;clear hN cr c6 Qs;rw[am] at ax;by_cases ag:300 < (R s 0).length
 .have HD:Hid (∀(e:Ending) (w':Wq),e=.returned (.tuple #[.agg #[St ⟨#[]⟩,.slice none 0 0],.bool false])->qen s N e w'):=by
   intro e w' he;unfold qen qgh;rw[if_pos ag];exact he
  generalize R s 0=L at *;go_enter Tryz.func114,Tryz.ntmps114;go_wp2_with fail;refine ax.mono ?_;rintro e W1 ⟨v1,rfl,ac,ad⟩;rw[<- am] at ad;obtain⟨k1,k2,k3,k4,k5⟩:=cd.out W1 ad;have bb:=qtc (a:=St ⟨#[]⟩) (b:=.slice none 0 0) k1;have ci:Hid _:=bb;have HB:Hid (Below N w ((W1.setCell (Ad N 0) (St ⟨#[]⟩)).setCell (Ad N 1) (.slice none 0 0))):=(k5.setCell zl _).setCell zl _;obtain⟨a1,c1,rfl⟩:=qd ac;clear ac ax k1 k5 bb ad;go_wp2;obtain⟨q1,q2⟩:=ci.out;refine bodyPost_ret (v:=.tuple #[.agg #[St ⟨#[]⟩,.slice none 0 0],.bool false]) (by simp[results,Tryz.results114,go_sem,q1,q2]) rfl ?_;exact⟨HD.out _ _ rfl,HB.out⟩
 .have hL:(R s 0).length<=300:=by omega
  have b6:=λW1=>qqz s W1 hs hL;have d5:=qod s;have bt:=qe2 s;have b7:=qh4 s hL;have hD:qgh s=if (Qw (lk0 true) (Q6 s)).1≠0 then none else qqc (Q6 s):=by unfold qgh;rw[if_neg ag]
  generalize Q6 s=ts at *
  have c7:0 < ts.length:=by
   obtain⟨pre,E,h1,_⟩:=bt;rw[h1];simp
  have b4:=λ(g cap:Nat) (W:Wq) (h:qe7 W g ts)=>qwa g cap ts true W h (by omega);by_cases az:(Qw (lk0 true) ts).1=0
  .obtain⟨t,p,us,LL,ak,k,rfl,bk,cu,dz,ct⟩:=qv7 ts bt az;rw[if_neg (by simpa using az)] at hD;unfold qqc at hD;simp only[bk] at hD;have be:=qiu 1200 us _ _ _ _ (λu hu=>b7 u (zt (zt hu))) bk;have c9:=b7 t zs
   have HD:Hid (∀(e:Ending) (w':Wq),(∃va,e=.returned (.tuple #[.agg #[St t.text,va],.bool true])/\w'.ownsRow N 215 2 va LL.length (LL.flatMap tmC))->qen s N e w'):=by
    rintro e w' ⟨va,h1,h2⟩;unfold qen;rw[hD];exact⟨va,h1,h2,cu,dz,ct,c9,be⟩
   have da:Hid (∀(g cap:Nat) (W:Wq),qg3 W g (t::p::us)->Cs 177 #[Sc g (t::p::us).length cap,.int .i64 0,.slice none 0 0] W λe w'=>∃va v' M,e=.returned (.tuple #[.agg #[St t.text,va],.int .i64 M,v'])/\w'.ownsRow W.heap.size 215 2 va LL.length (LL.flatMap tmC)/\Below W.heap.size W w'):=by
    intro g cap W h;refine (qo6 g cap (t::p::us) 0 W.heap.size (.slice none 0 0) [] LL ak k W h (by omega) (by simp) zl (by simp) zo bk).mono ?_;rintro e w' ⟨va,v',rfl,h1,h2,h3⟩;exact⟨va,v',_,rfl,h1,qm0 h3 zl⟩
   have co:Hid (∀(g cap:Nat) (W:Wq),qe7 W g (t::p::us)->Cs 108 #[Sc g (t::p::us).length cap,.bool true] W λe w'=>(∃p:Nat,e=.returned (.tuple #[.int .i64 0,.int .i64 p]))/\Below W.heap.size W w'):=by
    intro g cap W h;refine (b4 g cap W h).mono ?_;rintro e w' ⟨rfl,hb⟩;refine⟨⟨(Qw (lk0 true) (t::p::us)).2,?_⟩,hb⟩;have e0:(Qw ⟨0,false,true,0,0,0,0⟩ (t::p::us)).1=0:=az;rw[e0];rfl
   clear b4 hD bk cu ct az bt ag b7 be c9;generalize t.text=tx at *;generalize (t::p::us)=ts at *;generalize R s 0=L at *;go_enter Tryz.func114,Tryz.ntmps114;go_wp2_with fail;refine ax.mono ?_;rintro e W1 ⟨v1,rfl,ac,ad⟩;rw[<- am] at ad;obtain⟨a1,c1,rfl⟩:=qd ac;clear ac ax;go_wp2_with fail;refine (b6 W1).mono ?_;rintro e W2 ⟨v2,rfl,a7,av⟩;obtain⟨g,cap,rfl,a6⟩:=qmm a7 c7;have aw:Below W0.heap.size W0 W2:=ad.trans (av.mono ad.size);clear a7 b6 ad av;go_wp2_with fail;refine (co.out g cap W2 a6.1).mono ?_;rintro e W3 ⟨⟨p3,rfl⟩,ai⟩;have c2:=a6.below ai a6.1.1;have a9:Below W0.heap.size W0 W3:=aw.trans (ai.mono aw.size);clear ai a6 co aw;go_wp2_with fail;refine (da.out g cap W3 c2).mono ?_;rintro e W4 ⟨va,v4,M,rfl,b8,cp⟩;have dd:Below W0.heap.size W0 W4:=a9.trans (cp.mono a9.size);obtain⟨k1,k2,k3,k4,k5⟩:=cd.out W4 dd;have ed:N+1<=W3.heap.size:=by have:=a9.size;rw[dk.out] at this;exact this
   have bh:N < W4.heap.size:=(zg k1).1;obtain⟨a4,c4,rfl⟩:=qd b8;have kA:Hid (∀O,(W4.alloc O).heap[N]?=cC #[St ⟨#[]⟩,.slice none 0 0] 145):=λO=>(Below.heap_alloc _ _ _ bh).trans k1;have bb:Hid (∀O,((W4.alloc O).setCell (Ad N 0) (St tx)).cell? (Ad N 0)=some (St tx)/\(((W4.alloc O).setCell (Ad N 0) (St tx)).setCell (Ad N 1) (.slice a4 LL.length c4)).cell? (Ad N 1)=some (.slice a4 LL.length c4)):=λO=>qtc (kA.out O)
   have q7:Hid (∀O,(((W4.alloc O).setCell (Ad N 0) (St tx)).setCell (Ad N 1) (.slice a4 LL.length c4)).ownsRow N 215 2 (.slice a4 LL.length c4) LL.length (LL.flatMap tmC)/\Below N w (((W4.alloc O).setCell (Ad N 0) (St tx)).setCell (Ad N 1) (.slice a4 LL.length c4))):=by
    intro O;refine⟨Qa (B:=W3.heap.size) (qm (b8.alloc O) (λg' b9 _=>?_)) (by omega),((k5.alloc (by omega) O).setCell zl _).setCell zl _⟩;have h1:=(Qe b8 g' b9).1;rw[Below.heap_setCell _ _ _ _ (by simp;omega),Below.heap_setCell _ _ _ _ (by simp;omega)]
   have d3:∀O,(W4.alloc O).cell? (Ad N 0)=some (St ⟨#[]⟩):=λO=>by simp[World.cell?,kA.out O]
   have d4:∀O,(W4.alloc O).cell? (Ad N 1)=some (.slice none 0 0):=λO=>by simp[World.cell?,kA.out O]
   have eg:∀O o,(W4.alloc O).frozen? (Ad N o)=false:=λO o=>by simp[World.frozen?,kA.out O]
   clear da b8 cp dd a9 c2 k1 k5;have ef:N≠W4.heap.size:=by omega
   go_wp2;have cj:=Qc (Qc (kA.out (.cells #[St tx,.slice a4 LL.length c4] 145)) 0 (St tx)) 1 (.slice a4 LL.length c4);rw[World.setCell_alloc_past _ _ _ _ bh,World.setCell_alloc_past _ _ _ _ (by simpa using bh)] at cj;have cl:=q7.out (.cells #[St tx,.slice a4 LL.length c4] 145);rw[World.setCell_alloc_past _ _ _ _ bh,World.setCell_alloc_past _ _ _ _ (by simpa using bh)] at cl;have q1:(((W4.setCell (Ad N 0) (St tx)).setCell (Ad N 1) (.slice a4 LL.length c4)).alloc (.cells #[St tx,.slice a4 LL.length c4] 145)).cell? (Ad N 0)=some (St tx):=by simp only[World.cell?,cj];rfl
   have q2:(((W4.setCell (Ad N 0) (St tx)).setCell (Ad N 1) (.slice a4 LL.length c4)).alloc (.cells #[St tx,.slice a4 LL.length c4] 145)).cell? (Ad N 1)=some (.slice a4 LL.length c4):=by simp only[World.cell?,cj];rfl
   refine bodyPost_ret (v:=.tuple #[.agg #[St tx,.slice a4 LL.length c4],.bool true]) (by simp[results,Tryz.results114,go_sem,q1,q2]) rfl ?_;exact⟨HD.out _ _ ⟨_,rfl,cl.1⟩,cl.2⟩
  .rw[if_pos az] at hD
   have HD:Hid (∀(e:Ending) (w':Wq),e=.returned (.tuple #[.agg #[St ⟨#[]⟩,.slice none 0 0],.bool false])->qen s N e w'):=by
    intro e w' he;unfold qen;rw[hD];exact he
   have c3:Hid (∀(g cap:Nat) (W:Wq),qe7 W g ts->Cs 108 #[Sc g ts.length cap,.bool true] W λe w'=>e=.returned (.tuple #[.int .i64 (Qw (lk0 true) ts).1,.int .i64 (Qw (lk0 true) ts).2])/\Below W.heap.size W w'):=b4;clear b4 hD bt ag b7;generalize (Qw (lk0 true) ts).1=oe at *;generalize (Qw (lk0 true) ts).2=op at *;generalize R s 0=L at *;have m0:(oe == 0)=false:=by simpa using az
   have m1:(oe != 0)=true:=by simpa using az
   go_enter Tryz.func114,Tryz.ntmps114;go_wp2_with fail;refine ax.mono ?_;rintro e W1 ⟨v1,rfl,ac,ad⟩;rw[<- am] at ad;obtain⟨a1,c1,rfl⟩:=qd ac;clear ac ax;go_wp2_with fail;refine (b6 W1).mono ?_;rintro e W2 ⟨v2,rfl,a7,av⟩;obtain⟨g,cap,rfl,a6⟩:=qmm a7 c7;have aw:Below W0.heap.size W0 W2:=ad.trans (av.mono ad.size);clear a7 b6 ad av;go_wp2_with fail;refine (c3.out g cap W2 a6.1).mono ?_;rintro e W3 ⟨rfl,ai⟩;have a9:Below W0.heap.size W0 W3:=aw.trans (ai.mono aw.size);obtain⟨k1,k2,k3,k4,k5⟩:=cd.out W3 a9;have bb:=qtc (a:=St ⟨#[]⟩) (b:=.slice none 0 0) k1;have ci:Hid _:=bb;have HB:Hid (Below N w ((W3.setCell (Ad N 0) (St ⟨#[]⟩)).setCell (Ad N 1) (.slice none 0 0))):=(k5.setCell zl _).setCell zl _;clear ai a6 c3 aw k1 k5 bb a9;go_wp2;obtain⟨q1,q2⟩:=ci.out;refine bodyPost_ret (v:=.tuple #[.agg #[St ⟨#[]⟩,.slice none 0 0],.bool false]) (by simp[results,Tryz.results114,go_sem,q1,q2]) rfl ?_;exact⟨HD.out _ _ rfl,HB.out⟩
def qkl:Nat->List By->By
 | _,[]=>⟨#[]⟩
 | i,x::l=>(if 0 < i then ⟨#[44]⟩ else ⟨#[]⟩)++x++qkl (i+1) l
def qga(g:Gr):By:=(g.rel ++ ⟨#[40]⟩)++qkl 0 g.args ++ ⟨#[41]⟩
theorem q6j(p:Gr×Vq)(w:Wq)(hA:qt w p.2 p.1.args)(hr:p.1.rel.size<=2000)(hl:p.1.args.length<=1000)(hn:∀t∈p.1.args,t.size<=2000) :
  Cs 125 #[gdV p] w λe w'=>e=.returned (St (qga p.1))/\Below w.heap.size w w':=by
 obtain⟨⟨rel,args⟩,va⟩:=p;unfold gdV;simp only at hr hl hn hA ⊢;obtain⟨a1,a2,rfl⟩:=qd hA
 have HC:Hid (∀(O:Obj) (j:Nat) (hj:j < args.length),∃g,a1=some ⟨g,0,none⟩/\(w.alloc O).cell? (Ad g j)=some (St args[j])):=by
  intro O j hj;obtain⟨g,cap,e1,hg,c0⟩:=hA.cell j hj;cases e1;have hb:Below w.heap.size w (w.alloc O):=(Below.refl _ w).alloc zl O;exact⟨g,rfl,(Below.cell hb hg).trans c0⟩
 have de:Hid (∀O,Below w.heap.size w (w.alloc O)):=λO=>(Below.refl _ w).alloc zl O;clear hA;have al:(⟨#[40]⟩:By).size=1:=rfl;have ao:(⟨#[44]⟩:By).size=1:=rfl;have eh:(⟨#[41]⟩:By).size=1:=rfl;have bk:rel.size+1<=3000:=by omega
 have hW:Hid (qga ⟨rel,args⟩=(rel ++ ⟨#[40]⟩)++qkl 0 args ++ ⟨#[41]⟩):=rfl;generalize qga ⟨rel,args⟩=T at *;go_enter Tryz.func125,Tryz.ntmps125;go_wp2
 go_loopw [3,4] (λx p wr=>∃(k:Nat) (sx:ByteArray),x=.string sx/\p=.int .i64 k/\k<=args.length/\wr=w.alloc (.cells #[.string rel,.slice a1 args.length a2] 226)/\sx.size<=2001+k*4000/\Hid (T=sx++qkl k (args.drop k) ++ ⟨#[41]⟩)) (λ_ p _=>args.length - (intOf p).toNat)
 case atStart=>exact⟨0,_,rfl,rfl,zz,rfl,by rw[ByteArray.size_append];omega,hW⟩
 case round=>
  obtain⟨k,sx,rfl,rfl,cw,rfl,be,ab⟩:=hrel;by_cases ae:k < args.length
  .obtain⟨g,rfl,c0⟩:=HC.out (.cells #[St rel,.slice a1 args.length a2] 226) k ae;have hm:=hn args[k] (zm ae);rw[List.drop_eq_getElem_cons ae] at ab;generalize args[k]=nm at *;simp only[qkl] at ab;have ad:sx.size+1<=100000000:=by omega
   by_cases h0:k=0
   .subst h0;rw[if_neg (by decide)] at ab
    have hT:Hid (T=sx++nm++qkl 1 (args.drop 1) ++ ⟨#[41]⟩):=by
     show _=_;rw[ab.out,q0s];simp only[ByteArray.append_assoc]
    have av:sx.size+nm.size<=100000000:=by omega
    have ai:Hid ((sx++nm).size<=2001+1*4000):=by show _<=_;rw[ByteArray.size_append];omega
    clear ab;go_wp2
    go_roundw
    case rel=>exact⟨1,_,rfl,by go_num,by omega,by trivial,ai.out,hT⟩
    case measure=>simp[intOf];omega
   .rw[if_pos (by omega)] at ab
    have hT:Hid (T=sx ++ ⟨#[44]⟩++nm++qkl (k+1) (args.drop (k+1)) ++ ⟨#[41]⟩):=by
     show _=_;rw[ab.out];simp only[ByteArray.append_assoc]
    have d8:0 < k:=by omega
    have av:(sx ++ ⟨#[44]⟩).size+nm.size<=100000000:=by rw[ByteArray.size_append];omega
    have ai:Hid ((sx ++ ⟨#[44]⟩++nm).size<=2001+(k+1)*4000):=by show _<=_;rw[ByteArray.size_append,ByteArray.size_append];omega
    clear ab;go_wp2
    go_roundw
    case rel=>exact⟨k+1,_,rfl,by go_num,by omega,by trivial,ai.out,hT⟩
    case measure=>simp[intOf];omega
  .rw[List.drop_eq_nil_of_le (by omega)] at ab;simp only[qkl,q0d] at ab;have ad:sx.size+1<=100000000:=by omega
   go_wp2;go_ret;rw[ab.out];exact⟨rfl,de.out _⟩
def qao:List By:=List.replicate 8 ⟨#[]⟩
theorem qvy(z:Vq)(n:Nat):(madeCells #[z] (n*1)).toList=List.replicate n z:=by
 unfold madeCells;rw[Nat.mul_one];apply List.ext_getElem
 .simp
 .intro i h1 h2;simp[Nat.mod_one]
theorem qp3(n:Nat):(madeCells (Value.string ⟨#[]⟩).cells (n*1)).toList=(List.replicate n (⟨#[]⟩:By)).map Value.string:=by
 have:(Value.string ⟨#[]⟩).cells=#[St ⟨#[]⟩]:=rfl;rw[this,qvy];simp
theorem Qe0:(madeCells (Value.string ⟨#[]⟩).cells (8*1)).toList=qao.map Value.string:=qp3 8
theorem qk6(w:Wq):Cs 124 #[] w λe w'=>∃v,e=.returned v/\w'.ownsRow w.heap.size 9 1 v 8 (qao.map Value.string)/\Below w.heap.size w w':=by
 obtain⟨i0,hi,a8,al,ao⟩:=info_parts Tryz.infoStr;have hc:i0.bytes*8<=281474976710656:=by rw[ao];decide
 have hm:8<=maxLen:=by unfold maxLen;decide
 go_enter Tryz.func124,Tryz.ntmps124
 go_wp2_with (at_make;refine wpList_make_full _ rfl _ _ 22 rfl w.heap.size 9 i0 (St ⟨#[]⟩) 1 Tryz.underlying22 hi a8 al .i64 .i64 _ _ 8 rfl rfl rfl rfl hc hm zl ?_;intro w1 ap ay)
 go_ret;rw[Qe0] at ap;exact⟨_,rfl,ap,(Below.refl _ w).grown ay zl (λk hk=>by cases hk)⟩
structure qal(W:Wq)(a:Option Addr)(ps:List (Am×Vq)):Prop where
 cells:∀(k:Nat) (hk:k < ps.length),∃g af,a=some ⟨g,af,none⟩/\g < W.heap.size/\W.cell? (Ad g (af+k*2))=some (St ps[k].1.rel)/\W.cell? (Ad g (af+k*2+1))=some ps[k].2
 each:∀p∈ps,qa5 W p
theorem qal.below{W':Wq}(h:qal W a ps)(hb:Below W.heap.size W W'):qal W' a ps:=
 ⟨λk hk=>by
  obtain⟨g,af,e,hg,c0,c1⟩:=h.cells k hk
  exact⟨g,af,e,Nat.lt_of_lt_of_le hg hb.size,(Below.cell hb hg).trans c0,(Below.cell hb hg).trans c1⟩,λp hp=>(h.each p hp).kept (Kp.ofBelow (S:=0) hb)⟩
theorem Qz.at{c:Nat}(h:Qz W (.slice a ps.length c) ps):qal W a ps:=
 ⟨λk hk=>by
  obtain⟨g,cap,e,hg,c0,c1,_⟩:=h.cell k hk;cases e
  exact⟨g,0,rfl,hg,by rw[Nat.zero_add];exact c0,by rw[Nat.zero_add];exact c1⟩,h.each⟩
theorem qal.drop{g af:Nat}(h:qal W (some ⟨g,af,none⟩) ps)(i:Nat):qal W (some ⟨g,af+i*2,none⟩) (ps.drop i):=
 ⟨λk hk=>by
  rw[List.length_drop] at hk;obtain⟨g',dh,e,hg,c0,c1⟩:=h.cells (i+k) (by omega);cases e;refine⟨g,af+i*2,rfl,hg,?_,?_⟩
  .rw[List.getElem_drop];have e:af+i*2+k*2=af+(i+k)*2:=by omega
   rw[e];exact c0
  .rw[List.getElem_drop];have e:af+i*2+k*2+1=af+(i+k)*2+1:=by omega
   rw[e];exact c1,λp hp=>h.each p (List.mem_of_mem_drop hp)⟩
theorem qi2(a:Option Addr)(c:Nat)(ps:List (Am×Vq))(n:Nat)(w:Wq)(hp:qal w a ps)(hl:ps.length<=1000)(hn:n<=1000000)(hm:∀p∈ps,p.1.args.length<=1000000/\∀t∈p.1.args,t.num<=1000000) :
  Cs 246 #[.slice a ps.length c,.int .i64 n] w λe w'=>e=.returned (.bool (qy (ps.map (·.1)) n))/\w'=w:=by
 have HP:Hid (qal w a ps):=hp;clear hp;go_enter Tryz.func246,Tryz.ntmps246;go_wp2
 go_loopw [5] (λp wr=>∃i:Nat,p=.int .i64 i/\i<=ps.length/\wr=w/\Hid (qy ((ps.drop i).map (·.1)) n=qy (ps.map (·.1)) n)) (λp _=>ps.length - (intOf p).toNat)
 case atStart=>exact⟨0,rfl,zz,rfl,rfl⟩
 case round=>
  obtain⟨i,rfl,cw,cb,ab⟩:=hrel;obtain rfl:w=wr:=cb.symm;by_cases ae:i < ps.length
  .obtain⟨g,af,rfl,hg,c0,c1⟩:=HP.out.cells i ae;have ce:=HP.out.each ps[i] (zm ae);obtain⟨x1,x2,hx⟩:=qd ce;rw[List.drop_eq_getElem_cons ae] at ab;have df:=hm ps[i] (zm ae);rw[hx] at c1;generalize ps[i]=p at *;simp only[List.map_cons,qy,List.any_cons] at ab
   have dq:Hid (∀(j:Nat) (hj:j < p.1.args.length),∃g2,x1=some ⟨g2,0,none⟩/\w.cell? (Ad g2 (j*2))=some (St p.1.args[j].name)/\w.cell? (Ad g2 (j*2+1))=some (.int .i64 p.1.args[j].num)):=by
    intro j hj;obtain⟨g2,d2,e2,_,d0,d1⟩:=ce.cell j hj;rw[hx] at e2;cases e2;exact⟨g2,rfl,d0,d1⟩
   have bu:Hid ((p.1.args.any (qhm n) || qy ((ps.drop (i+1)).map (·.1)) n)=qy (ps.map (·.1)) n):=ab;obtain⟨d7,bq⟩:=df;clear ab ce hx c0;generalize p.1.args=args at *;go_wp2
   go_loopw [6] (λp wr=>∃k:Nat,p=.int .i64 k/\k<=args.length/\wr=w/\Hid (((args.drop k).any (qhm n) || qy ((ps.drop (i+1)).map (·.1)) n)=qy (ps.map (·.1)) n)) (λp _=>args.length - (intOf p).toNat)
   case atStart=>exact⟨0,rfl,zz,rfl,bu⟩
   case round=>
    obtain⟨k,rfl,dm,cb,aa⟩:=hrel;obtain rfl:w=wr:=cb.symm;by_cases bc:k < args.length
    .obtain⟨g2,rfl,d0,d1⟩:=dq.out k bc;have dt:=bq args[k] (zm bc);rw[List.drop_eq_getElem_cons bc] at aa;generalize args[k]=tm at *;obtain⟨nm,nu⟩:=tm;simp only[List.any_cons] at aa d0 d1 dt;by_cases h1:nm.toList.isEmpty=true
     .by_cases h2:nu=n
      .subst h2;have hT:qhm nu ⟨nm,nu⟩=true:=by unfold qhm;simp[h1]
       rw[hT] at aa;go_wp2;go_ret;rw[<- aa.out];exact⟨by simp,rfl⟩
      .have hT:qhm n ⟨nm,nu⟩=false:=by unfold qhm;simp[h2]
       rw[hT] at aa;have m2:((nu:Int) == (n:Int))=false:=by simp;omega
       go_wp2
       go_roundw
       case rel=>exact⟨k+1,by go_num,by omega,by trivial,by simpa using aa⟩
       case measure=>simp[intOf];omega
     .have dr:nm.toList.isEmpty=false:=by simpa using h1
      have hT:qhm n ⟨nm,nu⟩=false:=by unfold qhm;simp[dr]
      rw[hT] at aa;clear h1;go_wp2
      go_roundw
      case rel=>exact⟨k+1,by go_num,by omega,by trivial,by simpa using aa⟩
      case measure=>simp[intOf];omega
    .rw[List.drop_eq_nil_of_le (by omega)] at aa;simp only[List.any_nil,Bool.false_or] at aa;go_wp2
     go_roundw
     case rel=>exact⟨i+1,by go_num,by omega,by trivial,aa⟩
     case measure=>simp[intOf];omega
  .rw[List.drop_eq_nil_of_le (by omega)] at ab;go_wp2;go_ret;rw[<- ab.out];exact⟨rfl,rfl⟩
def qsk(x y:By):Bool:=Op.bytesLess x.toList y.toList
def qgw(x:By):List By->List By
 | []=>[x]
 | y::l=>if qsk x y=true then x::y::l else y::qgw x l
def qel(out l:List By):List By:=l.foldl (λo x=>qgw x o) out
theorem qvp(x:By)(l:List By):(qgw x l).length=l.length+1:=by
 induction l with
 | nil=>rfl
 | cons y l ih=>unfold qgw;split <;> simp[ih]
structure qg2(N S:Nat)(w X:Wq)(vo:Vq)(out:List By)(vm:Vq)(m:List By):Prop where
 ns:N<=S
 size:S<=X.heap.size
 below:Below N w X
 oown:X.ownsRow N 9 1 vo out.length (out.map Value.string)
 oS:∀g,vo.ownBlock=some g->g < S
 mown:X.ownsRow S 9 1 vm m.length (m.map Value.string)
theorem qg2.app{w:Wq}{db:Vq}{x:By}{o:Obj}(h:qg2 N S w X vo out vm m)(hg:(X.alloc o).grownBy Y vm.ownBlock)(ho:Y.ownsRow S 9 1 db (m.length+1) (m.map Value.string++[St x])):qg2 N S w Y vo out db (m++[x]):=by
 have h1:=h.ns;have h2:=h.size;have be:=hg.size;simp at be;have cz:∀k,vm.ownBlock=some k->S<=k:=λk e=>(Qe h.mown k e).1;refine⟨h.ns,by omega,(h.below.alloc (by omega) o).grown hg (by simp;omega) (λk e=>by have:=cz k e;omega),?_,h.oS,by simpa using ho⟩;refine qm h.oown (λg b9 ae=>?_);exact (hg.block g (by simp;omega) (λe=>by have:=cz g e.symm;have:=h.oS g b9;omega)).trans (Below.heap_alloc _ _ _ ae)
theorem qg2.drewN{w:Wq}(h:qg2 N S w X vo out vm m)(q:Nat):qg2 N S w (X.drewN q) vo out vm m:=⟨h.ns,h.size,qu h.below,h.oown,h.oS,h.mown⟩
theorem qg2.room{w:Wq}(h:qg2 N S w X vo out vm m):∀O,S<=(X.alloc O).heap.size:=λO=>by have:=h.size;simp;omega
theorem qyv(v:Vq)(l:List By)(w:Wq)(hA:qt w v l)(hl:l.length<=100000) :
  Cs 126 #[v] w λe w'=>∃v',e=.returned v'/\w'.ownsRow w.heap.size 9 1 v' (qel [] l).length ((qel [] l).map Value.string)/\Below w.heap.size w w':=by
 obtain⟨i0,hi,a8,al,ao⟩:=info_parts Tryz.infoStr;obtain⟨a1,a2,rfl⟩:=qd hA;obtain⟨N,hN⟩:∃N,N=w.heap.size:=⟨_,rfl⟩;have ck:=hN.symm
 have HC:Hid (∀(X:Wq),Below N w X->∀(j:Nat) (hj:j < l.length),∃g,a1=some ⟨g,0,none⟩/\g < N/\X.cell? (Ad g j)=some (St l[j])):=by
  intro X hX j hj;obtain⟨g,cap,e1,hg,c0⟩:=hA.cell j hj;cases e1;have cq:g < N:=by rw[hN];exact hg
  exact⟨g,rfl,cq,(Below.cell hX cq).trans c0⟩
 have bi:∀(x:By),∀u∈[Value.string x],u.oneCell'=true:=λx=>by simp[Value.oneCell']
 rw[<- hN];clear hA hN;generalize hTT:qel [] l=T at *;go_enter Tryz.func126,Tryz.ntmps126;go_wp2
 go_loopw [3,4] (λo p wr=>∃(i:Nat) (vo:Vq) (out:List ByteArray),vo=o/\p=.int .i64 i/\i<=l.length/\N<=wr.heap.size/\Below N w wr/\wr.ownsRow N 9 1 vo out.length (out.map Value.string)/\out.length<=i/\Hid (qel out (l.drop i)=T)) (λ_ p _=>l.length - (intOf p).toNat)
 case atStart=>exact⟨0,_,[],rfl,rfl,zz,by omega,zr,zo,Nat.le_refl _,hTT⟩
 case round=>
  obtain⟨i,vo,out,rfl,rfl,cw,du,bv,qq,ee,ab⟩:=hrel;by_cases ae:i < l.length
  .obtain⟨gl,rfl,Qhz,_⟩:=HC.out wr bv i ae
   have dx:Hid (∀X,Below N w X->X.cell? (Ad gl i)=some (St l[i])):=by
    intro X hX;obtain⟨g',e',_,c⟩:=HC.out X hX i ae
    cases e';exact c
   rw[List.drop_eq_getElem_cons ae] at ab;simp only[qel,List.foldl_cons] at ab;generalize l[i]=x at *;have bu:Hid (qel (qgw x out) (l.drop (i+1))=T):=ab;obtain⟨S,hS⟩:∃S,S=wr.heap.size:=⟨_,rfl⟩;have b3:qg2 N S w wr vo out (.slice none 0 0) []:=⟨by omega,by omega,bv,qq,λg hg=>by have:=(Qe qq g hg).2.1;omega,zo⟩;have cv:Hid (qg2 N S w wr vo out (.slice none 0 0) []):=b3;obtain⟨oa,oc,dg⟩:=qd qq;subst dg;clear ab b3 qq bv du hS;go_wp2
   go_loopw [5,6,7] (λo q p wr=>∃(k:Nat) (vm:Vq) (m:List ByteArray) (b:Bool),vm=o/\q=.bool b/\p=.int .i64 k/\k<=out.length/\qg2 N S w wr (.slice oa out.length oc) out vm m/\m.length<=k+(if b=true then 1 else 0)/\Hid (m++(if b=true then out.drop k else qgw x (out.drop k))=qgw x out)) (λ_ _ p _=>out.length - (intOf p).toNat)
   case atStart=>exact⟨0,_,[],false,rfl,rfl,rfl,zz,cv.out,by simp,rfl⟩
   case round=>
    clear cv;obtain⟨k,vm,m,b,rfl,rfl,rfl,dm,hS,cg,aa⟩:=hrel;have cx:=dx.out wr hS.below;have Qh6:m.length<=k+1:=by split at cg <;> omega
    have HS:Hid (qg2 N S w wr (.slice oa out.length oc) out vm m):=hS;have b0:m.length+1<=maxLen:=by unfold maxLen;omega
    have bo:(m.length+1)*16<=140737488355328:=by omega
    have b5:Hid (∀O,S<=(wr.alloc O).heap.size):=hS.room;by_cases bc:k < out.length
    .obtain⟨go,ec,e1,dl,cy⟩:=qt.cell (Qa hS.oown zz) k bc;cases e1;rw[List.drop_eq_getElem_cons bc] at aa;have Qh0:go < S:=hS.oS go rfl
     have bd:Hid (∀(O:Obj) (w1:Wq),(wr.alloc O).grownBy w1 vm.ownBlock->w1.cell? (Ad go k)=some (St out[k])):=by
      intro O w1 hg;have h1:w1.heap[go]?=wr.heap[go]?:=(hg.block go (by simp;omega) (λe=>by have:=(Qe HS.out.mown _ e.symm).1;omega)).trans (Below.heap_alloc _ _ _ dl);exact (World.cell?_of_block (w:=wr) h1).trans cy
     generalize out[k]=y at *;obtain⟨ma,mc,bj⟩:=qd hS.mown;subst bj;have d6:m.length+2<=200000:=by omega
     clear hS
     cases b with
     | true=>
      simp only[if_true] at aa cg
      have bn:Hid ((m++[y])++(if true=true then out.drop (k+1) else qgw x (out.drop (k+1)))=qgw x out):=by
       show _=_;rw[<- aa.out];simp
      go_wp2;go_quiet (fail);have HSd:Hid (qg2 N S w (wr.drewN nq) (Sc go out.length oc) out (.slice ma m.length mc) m):=HS.out.drewN nq;have Qa5:Hid (∀(O:Obj) (w1:Wq),((wr.drewN nq).alloc O).grownBy w1 (Value.slice ma m.length mc).ownBlock->w1.cell? (Ad go k)=some (St y)):=λO w1 hg=>bd.out O w1 ⟨hg.os,hg.tape,hg.output,hg.size,hg.block⟩;have bf:Hid (∀O,S<=((wr.drewN nq).alloc O).heap.size):=HSd.out.room;have c8:(wr.drewN nq).cell? (Ad gl i)=some (St x):=cx;have c5:(wr.drewN nq).cell? (Ad go k)=some (St y):=cy;generalize wr.drewN nq=wd at *;clear HS bd cx cy b5
      go_wp2_with (at_builtin;refine wpList_append_own _ rfl (.tmp 40) (.tmp 45) 22 rfl S 9 i0 (St ⟨#[]⟩) 1 16 Tryz.underlying22 hi a8 al ao rfl (by decide) _ _ _ rfl (HSd.out.mown.alloc _) ⟨wd.heap.size,0,none⟩ 1 1 [St y] rfl rfl (qcl _ _ _) (bi y) b0 bo (bf.out _) ?_;intro aj w1 ac au _;have ah:Hid (qg2 N S w w1 (Sc go out.length oc) out aj (m++[y])):=HSd.out.app au ac)
      go_roundw
      case rel=>exact⟨k+1,aj,m++[y],true,rfl,rfl,by go_num,by omega,ah.out,by simp;omega,bn⟩
      case measure=>simp[intOf];omega
     | false=>
      simp only[Bool.false_eq_true,if_false,qgw] at aa cg
      cases hxy:qsk x y with
      | true=>
       rw[hxy] at aa;simp only[if_true] at aa;unfold qsk at hxy;have Qf7:(m++[x]).length+1<=maxLen:=by unfold maxLen;simp;omega
       have Qf8:((m++[x]).length+1)*16<=140737488355328:=by simp;omega
       have bn:Hid ((m++[x]++[y])++(if true=true then out.drop (k+1) else qgw x (out.drop (k+1)))=qgw x out):=by
        show _=_;rw[<- aa.out];simp
       go_wp2;go_quiet (fail);have HSd:Hid (qg2 N S w (wr.drewN nq) (Sc go out.length oc) out (.slice ma m.length mc) m):=HS.out.drewN nq;have Qa5:Hid (∀(O:Obj) (w1:Wq),((wr.drewN nq).alloc O).grownBy w1 (Value.slice ma m.length mc).ownBlock->w1.cell? (Ad go k)=some (St y)):=λO w1 hg=>bd.out O w1 ⟨hg.os,hg.tape,hg.output,hg.size,hg.block⟩;have bf:Hid (∀O,S<=((wr.drewN nq).alloc O).heap.size):=HSd.out.room;have c8:(wr.drewN nq).cell? (Ad gl i)=some (St x):=cx;have c5:(wr.drewN nq).cell? (Ad go k)=some (St y):=cy;generalize wr.drewN nq=wd at *;clear HS bd cx cy b5
       go_wp2_with (first | (at_builtin;refine wpList_append_own _ rfl (.tmp 33) (.tmp 38) 22 rfl S 9 i0 (St ⟨#[]⟩) 1 16 Tryz.underlying22 hi a8 al ao rfl (by decide) _ _ _ rfl (HSd.out.mown.alloc _) ⟨wd.heap.size,0,none⟩ 1 1 [St x] rfl rfl (qcl _ _ _) (bi x) b0 bo (bf.out _) ?_;intro aj w1 ac au _;have ah:Hid (qg2 N S w w1 (Sc go out.length oc) out aj (m++[x])):=HSd.out.app au ac;have ei:w1.cell? (Ad go k)=some (St y):=Qa5.out _ w1 au;have Qf9:Hid (∀O,S<=(w1.alloc O).heap.size):=ah.out.room;obtain⟨gm,cm,bj⟩:=ownsRow_succ ac;subst bj) | (at_builtin;refine wpList_append_own _ rfl (.tmp 40) (.tmp 45) 22 rfl S 9 i0 (St ⟨#[]⟩) 1 16 Tryz.underlying22 hi a8 al ao rfl (by decide) _ _ _ rfl (ah.out.mown.alloc _) ⟨w1.heap.size,0,none⟩ 1 1 [St y] rfl rfl (qcl _ _ _) (bi y) Qf7 Qf8 (Qf9.out _) ?_;intro dc w2 a7 dp _;have dy:Hid (qg2 N S w w2 (Sc go out.length oc) out dc (m++[x]++[y])):=ah.out.app dp a7))
       go_roundw
       case rel=>exact⟨k+1,dc,m++[x]++[y],true,rfl,rfl,by go_num,by omega,dy.out,by simp;omega,bn⟩
       case measure=>simp[intOf];omega
      | false=>
       rw[hxy] at aa;simp only[Bool.false_eq_true,if_false] at aa;unfold qsk at hxy
       have bn:Hid ((m++[y])++(if false=true then out.drop (k+1) else qgw x (out.drop (k+1)))=qgw x out):=by
        show _=_;rw[<- aa.out];simp
       go_wp2;go_quiet (fail);have HSd:Hid (qg2 N S w (wr.drewN nq) (Sc go out.length oc) out (.slice ma m.length mc) m):=HS.out.drewN nq;have Qa5:Hid (∀(O:Obj) (w1:Wq),((wr.drewN nq).alloc O).grownBy w1 (Value.slice ma m.length mc).ownBlock->w1.cell? (Ad go k)=some (St y)):=λO w1 hg=>bd.out O w1 ⟨hg.os,hg.tape,hg.output,hg.size,hg.block⟩;have bf:Hid (∀O,S<=((wr.drewN nq).alloc O).heap.size):=HSd.out.room;have c8:(wr.drewN nq).cell? (Ad gl i)=some (St x):=cx;have c5:(wr.drewN nq).cell? (Ad go k)=some (St y):=cy;generalize wr.drewN nq=wd at *;clear HS bd cx cy b5
       go_wp2_with (at_builtin;refine wpList_append_own _ rfl (.tmp 40) (.tmp 45) 22 rfl S 9 i0 (St ⟨#[]⟩) 1 16 Tryz.underlying22 hi a8 al ao rfl (by decide) _ _ _ rfl (HSd.out.mown.alloc _) ⟨wd.heap.size,0,none⟩ 1 1 [St y] rfl rfl (qcl _ _ _) (bi y) b0 bo (bf.out _) ?_;intro aj w1 ac au _;have ah:Hid (qg2 N S w w1 (Sc go out.length oc) out aj (m++[y])):=HSd.out.app au ac)
       go_roundw
       case rel=>exact⟨k+1,aj,m++[y],false,rfl,rfl,by go_num,by omega,ah.out,by simp;omega,bn⟩
       case measure=>simp[intOf];omega
    .rw[List.drop_eq_nil_of_le (by omega)] at aa;obtain⟨ma,mc,bj⟩:=qd hS.mown;subst bj;clear hS
     cases b with
     | true=>
      simp only[if_true,List.append_nil] at aa;have bq:Hid (m=qgw x out):=aa;go_wp2
      go_roundw
      case rel=>
       refine⟨i+1,_,m,rfl,by go_num,by omega,Nat.le_trans HS.out.ns HS.out.size,HS.out.below,Qa HS.out.mown HS.out.ns,?_,by rw[bq.out];exact bu⟩;rw[bq.out,qvp];omega
      case measure=>simp[intOf];omega
     | false=>
      simp only[Bool.false_eq_true,if_false,qgw] at aa
      go_wp2_with (at_builtin;refine wpList_append_own _ rfl (.tmp 49) (.tmp 54) 22 rfl S 9 i0 (St ⟨#[]⟩) 1 16 Tryz.underlying22 hi a8 al ao rfl (by decide) _ _ _ rfl (HS.out.mown.alloc _) ⟨wr.heap.size,0,none⟩ 1 1 [St x] rfl rfl (qcl _ _ _) (bi x) b0 bo (b5.out _) ?_;intro aj w1 ac au _;have ah:Hid (qg2 N S w w1 (.slice oa out.length oc) out aj (m++[x])):=HS.out.app au ac)
      go_roundw
      case rel=>
       refine⟨i+1,aj,m++[x],rfl,by go_num,by omega,Nat.le_trans ah.out.ns ah.out.size,ah.out.below,Qa ah.out.mown ah.out.ns,?_,by rw[aa.out];exact bu⟩;rw[aa.out,qvp];omega
      case measure=>simp[intOf];omega
  .rw[List.drop_eq_nil_of_le (by omega)] at ab;have di:out=T:=ab.out;subst di;go_wp2;go_ret;exact⟨vo,rfl,qq,bv⟩
def qg(x:By):Bool:=x.toList.isEmpty
def eqB(x y:By):Bool:=x.toList == y.toList
def qgv:List Tm->List By->List By->Option (List By)
 | [],_,b=>some b
 | t::ts,[],b=>none
 | t::ts,x::xs,b=>
  if qg t.name=false then (if eqB t.name x=true then qgv ts xs b else none)
  else if qg (b.getD t.num ⟨#[]⟩)=true then qgv ts xs (b.set t.num x)
  else if eqB (b.getD t.num ⟨#[]⟩) x=true then qgv ts xs b else none
def qcd(a:Am)(g:Gr)(b:List By):Option (List By):=if eqB a.rel g.rel=true/\a.args.length=g.args.length then qgv a.args g.args b else none
def q6x(b o:List By):Prop:=o.length=b.length/\∀n,qg (b.getD n ⟨#[]⟩)=false->o.getD n ⟨#[]⟩=b.getD n ⟨#[]⟩
theorem q6x.set{b o:List By}(h:q6x b o)(n:Nat)(x:By)(hn:qg (o.getD n ⟨#[]⟩)=true):q6x b (o.set n x):=by
 refine⟨by rw[List.length_set];exact h.1,λm hm=>?_⟩;have h1:=h.2 m hm;by_cases e:m=n
 .subst e;rw[h1] at hn;rw[hn] at hm;cases hm
 .rw[<- h1];simp only[List.getD_eq_getElem?_getD,List.getElem?_set];rw[if_neg (λh=>e h.symm)]
theorem q88(b:List By):∀(ts:List Tm) (xs o:List By) (i:Nat) (h1:i < ts.length) (h2:i < xs.length),q6x b o->qg (qih b ts[i])=false->eqB (qih b ts[i]) xs[i]=false->qgv ts xs o=none
 | t::ts,x::xs,o,0,h1,h2,hE,he,hq=>by
  simp only[List.getElem_cons_zero] at he hq;unfold qgv;unfold qih at he hq;by_cases hn:t.name.toList.isEmpty=true
  .rw[if_pos hn] at he hq;have ca:qg t.name=true:=hn;rw[if_neg (by rw[ca];simp),hE.2 _ he,if_neg (by rw[he];simp),if_neg (by rw[hq];simp)]
  .have ca:qg t.name=false:=by unfold qg;simpa using hn
   rw[if_neg hn] at hq;rw[if_pos ca,if_neg (by rw[hq];simp)]
 | t::ts,x::xs,o,i+1,h1,h2,hE,he,hq=>by
  simp only[List.getElem_cons_succ] at he hq;have ih:=λo' dw=>q88 b ts xs o' i (by simpa using h1) (by simpa using h2) dw he hq;unfold qgv;split
  .split
   .exact ih o hE
   .rfl
  .split
   .rename_i dj;exact ih _ (hE.set _ _ dj)
   .split
    .exact ih o hE
    .rfl
structure qeu(N:Nat)(w X:Wq)(r1:By)(v1:Vq)(r2:By)(v2:Vq)(out:List By):Prop where
 below:Below N w X
 b1:X.heap[N]?=cC #[St r1,v1] 145
 b2:X.heap[N+1]?=cC #[St r2,v2] 226
 row:X.heap[N+2]?=some (Obj.cells (out.map Value.string).toArray 9)
theorem qeu.alloc{w:Wq}(h:qeu N w X r1 v1 r2 v2 out)(o:Obj):qeu N w (X.alloc o) r1 v1 r2 v2 out:=by
 have hs:N+3<=X.heap.size:=(zg h.row).1;exact⟨h.below.alloc (by omega) o,(Below.heap_alloc _ _ _ (by omega)).trans h.b1,(Below.heap_alloc _ _ _ (by omega)).trans h.b2,(Below.heap_alloc _ _ _ (by omega)).trans h.row⟩
theorem qeu.drewN{w:Wq}(h:qeu N w X r1 v1 r2 v2 out)(q:Nat):qeu N w (X.drewN q) r1 v1 r2 v2 out:=⟨qu h.below,h.b1,h.b2,h.row⟩
theorem qeu.like{w:Wq}(h:qeu N w X r1 v1 r2 v2 out)(hh:Y.heap=X.heap)(h1:Y.os=X.os)(h2:Y.tape=X.tape)(h3:Y.output=X.output):qeu N w Y r1 v1 r2 v2 out:=
 ⟨⟨h1.trans h.below.os,h2.trans h.below.tape,h3.trans h.below.output,by rw[hh];exact h.below.size,λk hk=>by rw[hh];exact h.below.block k hk⟩,by rw[hh];exact h.b1,by rw[hh];exact h.b2,by rw[hh];exact h.row⟩
theorem qeu.set{w:Wq}(h:qeu N w X r1 v1 r2 v2 out)(k:Nat)(x:By):qeu N w (X.setCell (Ad (N+2) k) (St x)) r1 v1 r2 v2 (out.set k x):=by
 refine⟨h.below.setCell (by simp) _,(Below.heap_setCell _ _ _ _ (by simp)).trans h.b1,(Below.heap_setCell _ _ _ _ (by simp)).trans h.b2,?_⟩;rw[Qc h.row k (St x)];congr 2;rw[<- Array.toList_inj];simp[List.map_set]
theorem qeu.cell{w:Wq}(h:qeu N w X r1 v1 r2 v2 out)(k:Nat)(hk:k < out.length):X.cell? (Ad (N+2) k)=some (St (out.getD k ⟨#[]⟩)):=by
 simp[World.cell?,h.row,List.getElem?_eq_getElem hk]
theorem qeu.own{w:Wq}(h:qeu N w X r1 v1 r2 v2 out)(hl:out.length<=1000):X.ownsRow N 9 1 (Sc (N+2) out.length out.length) out.length (out.map Value.string):=
 ⟨by simp,.inr ⟨N+2,out.length,(out.map Value.string).toArray,rfl,by omega,h.row,Nat.le_refl _,by unfold maxLen;omega,by simp,by rw[Nat.mul_one];exact List.take_of_length_le (by simp)⟩⟩
