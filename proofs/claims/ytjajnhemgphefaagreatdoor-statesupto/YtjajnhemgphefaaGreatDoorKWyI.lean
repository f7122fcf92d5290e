/- A part -/
import Derived.BigQuiet
import Derived.KernelRfl
import Derived.Test.YtjajnhemgphefaaGreatDoorKEgY
import Derived.Test.YtjajnhemgphefaaGreatDoorKWyD
import Derived.Sort.Walk0
set_option linter.all false
set_option maxRecDepth 100000
set_option maxHeartbeats 4000000
namespace Go.Proofs.YtjajnhemgphefaaGreatDoor
open Go renaming World->Wq,Value->Vq
open Go.RowKit Go.Shelf Go.Maps
variable {W3 V:Wq} {N B:Nat} {vr vn:Vq} {win lat que:Int} {us:List By}
def qa4(ns:List By)(rs:List Rl):List By:=rs.foldl (λns r=>nmL ns (Qr r)) ns
theorem qv2{rs:List Rl}{k:Nat}(h:k < rs.length):qa4 [] (rs.take (k+1))=nmL (qa4 [] (rs.take k)) (Qr rs[k]):=by
 unfold qa4;rw[List.take_succ_eq_append_getElem h,List.foldl_append];rfl
def q1p(rs:List Rl)(win lat que:Int)(M:Gd->Option Int):Eg:=⟨rs,win,lat,que,0,qa4 [] rs,[],M,[]⟩
structure qy3(s:By)(rs:List Rl):Prop where
 parse:qd0 s=.ok rs
 rules:(qeq s).2.1=0
 ok:qim rs
 n8:∀k,(qa4 [] (rs.take k)).length<=8
 nrs:∀r∈rs,∀t∈r.head.args,t.name≠eB->t.name∈qa4 [] rs
 nsz:∀x∈qa4 [] rs,x.size<=1200
def qlk(rs:List Rl)(win lat que:Int)(w:Wq)(en:Ending)(w':Wq):Prop:=
 ∃(be:Nat) (S:Nat->Prop) (M:Gd->Option Int),en=.returned (.tuple #[Pt be,Ii 0])/\qcv rs (Qo rs) M/\qb4 w' S be (q1p rs win lat que M)/\(∀k,S k->w.heap.size<=k)/\Below w.heap.size w w'
def NwI(W3:Wq)(N B:Nat)(vr:Vq)(win lat que:Int)(us:List By)(vn:Vq)(V:Wq):Prop:=
 V.heap[N]?=cC #[vr,Ii win,Ii lat,Ii que,Ii 0,vn,.slice none 0 0,.map (some B),.slice none 0 0] 101/\V.ownsRow (N+1) 9 1 vn us.length (us.map Value.string)/\Chg W3 V (λj=>j=N)
theorem NwI.rk(h:NwI W3 N B vr win lat que us vn V){c0:Array Vq}(h3:W3.heap[N]?=cC c0 101):qf W3 V:=by
 intro k c t ht hc;refine (h.2.2.block k (zg hc).1 (λe=>?_)).trans hc;rw[e,h3] at hc;cases hc;rcases ht with h | h | h <;> cases h
theorem NwI.next{V2 W6:Wq}{ak:List By}{vn':Vq}(h:NwI W3 N B vr win lat que us vn V)(bn:W3.heap.size=N+1)(hb:Below V.heap.size V V2)(cn:qz (N+1) V2 W6)(ho:W6.ownsRow (N+1) 9 1 vn' ak.length (ak.map Value.string)) :
  W6.cell? (Ad N 5)=some vn/\W6.frozen? (Ad N 5)=false/\NwI W3 N B vr win lat que ak vn' (W6.setCell (Ad N 5) vn'):=by
 obtain⟨h1,h2,h3⟩:=h;have b0:N+1<=V.heap.size:=by have:=h3.size;omega
 have ai:Below (N+1) V W6:=(hb.mono b0).trans (qmj cn (by have:=hb.size;omega));have b6:=(ai.block N (by omega)).trans h1;refine⟨zc b6,by simp[World.frozen?,b6],Qd b6 5 vn',Qg ho ⟨N,5,none⟩ vn' (Qf ho b6 (by decide)),?_⟩;have hc:Chg W3 W6 (λj=>j=N):=⟨ai.os.trans h3.os,ai.tape.trans h3.tape,ai.output.trans h3.output,Nat.le_trans h3.size ai.size,λj hj hn=>(ai.block j (by omega)).trans (h3.block j hj hn)⟩;exact hc.setCell (Ad N 5) vn' (λ_=>rfl)
theorem q77(s:By)(rs:List Rl)(win lat que:Int)(w:Wq)(ab:qy3 s rs)(hs:s.size<=4611686018427387904)(hT:Lib.Utf8Tabs 0 1 w)(h1:1<=win/\win<=1000)(h2:0<=lat/\lat<=1000)(h3:1<=que/\que<=50) :
  Cs 39 #[St s,Ii win,Ii lat,Ii que] w (qlk rs win lat que w):=by
 have bk:Hid (Cs 30 #[St s] w λe w'=>∃(ra:Option Addr) (rc ad ae:Nat),e=.returned (.tuple #[.slice ra rs.length rc,Ii 0,Ii 0])/\Qb w' w.heap.size ad ae (.slice ra rs.length rc) rs/\Below w.heap.size w w'):=by
  refine (qoc s w hs hT).mono ?_;rintro e w' ⟨hb,⟨c,p,_,hc,hr⟩ | ⟨cb,v,ad,ae,he,hR,_,_,_,hp,_⟩⟩
  .have:=ab.rules;rw[hr] at this;exact absurd this hc
  .have cc:cb=rs:=by
    have:=hp.symm.trans ab.parse;injection this
   subst cc;obtain⟨ra,rc,hf⟩:=hR.form;subst hf;exact⟨ra,rc,ad,ae,he,hR,hb⟩
 have a6:Hid (∀(n l m:Int) W,l<=n->n<=m->Cs 43 #[Ii n,Ii l,Ii m] W λe' w'=>e'=.returned (.bool true)/\W=w'):=λn l m W a b=>by
  refine (qfi n l m W).mono ?_;rintro e' w' ⟨h1,h2⟩;rw[show (decide (l<=n) && decide (n<=m))=true by simp[a,b]] at h1;exact⟨h1,h2.symm⟩
 have H1:Hid _:=h1;have H2:Hid _:=h2;have H3:Hid _:=h3;have ah:Hid _:=ab;clear h1 h2 h3 ab hT;go_enter Tryz.func39,Tryz.ntmps39;go_wp2_with fail;refine Calls.mono bk.out ?_;rintro e' W1 ⟨ra,rc,ad,ae,rfl,hR,bj⟩;go_wp2_with fail;refine (a6.out win 1 1000 _ H1.out.1 H1.out.2).mono ?_;rintro e' w' ⟨rfl,af⟩;subst af;go_wp2_with fail;refine (a6.out lat 0 1000 _ H2.out.1 H2.out.2).mono ?_;rintro e' w' ⟨rfl,af⟩;subst af;go_wp2_with fail;refine (a6.out que 1 50 _ H3.out.1 H3.out.2).mono ?_;rintro e' w' ⟨rfl,af⟩;subst af;go_wp2_with fail;have aj:(qa4 [] rs).length<=8:=by have:=ah.out.n8 rs.length;rw[List.take_length] at this;exact this
 have bq:Hid (Cs 75 #[.slice ra rs.length rc,.slice none 0 0] W1 λe' w'=>∃B M,e'=.returned (.map (some B))/\qd4 w' B 5000 M/\qcv rs (Qo rs) M/\Below W1.heap.size W1 w'):=by
  refine (qsi (arR rs) rs [] (uni (qcz rs) (qa4 [] rs)) _ _ w.heap.size ad ae 0 W1 (q9v ah.out.ok aj ah.out.nsz ah.out.nrs ⟨by simp,by simp⟩) hR ⟨rfl,.inl ⟨rfl,rfl⟩⟩).mono ?_;rintro e' w' ⟨B,M,h1,h2,h3,_,h4⟩;exact⟨B,M,h1,MdL.at' h2,h3,h4⟩
 refine Calls.mono bq.out ?_;rintro e' W2 ⟨B,M,rfl,bc,bt,ay⟩;have al:Below w.heap.size w W2:=bj.trans (ay.mono bj.size);have bo:Qb W2 w.heap.size ad ae (.slice ra rs.length rc) rs:=hR.rk (qf.ofBelow ay);obtain⟨N,hN⟩:∃N,W2.heap.size=N:=⟨_,rfl⟩;obtain⟨W3,av⟩:∃W3,W2.alloc (.cells #[.slice ra rs.length rc,Ii win,Ii lat,Ii que,Ii 0,.slice none 0 0,.slice none 0 0,.map (some B),.slice none 0 0] 101)=W3:=⟨_,rfl⟩;have b7:Hid _:=bt;have e3:W3.heap[N]?=cC #[.slice ra rs.length rc,Ii win,Ii lat,Ii que,Ii 0,.slice none 0 0,.slice none 0 0,.map (some B),.slice none 0 0] 101:=by rw[<- av,<- hN];exact zn W2 _
 have bn:W3.heap.size=N+1:=by rw[<- av,<- hN];simp
 have ao:Below W2.heap.size W2 W3:=by rw[<- av];exact (Below.refl _ W2).alloc zl _
 have bb:Hid (Qb W3 w.heap.size ad ae (.slice ra rs.length rc) rs):=bo.rk (qf.ofBelow ao);have ch:Hid (qd4 W3 B 5000 M):=bc.below ao;have cj:Hid (Below w.heap.size w W3):=al.trans (ao.mono al.size);have a7:Hid (w.heap.size<=N):=by show _<=_;rw[<- hN];exact al.size
 have Qay:Hid (NwI W3 N B (.slice ra rs.length rc) win lat que [] (.slice none 0 0) W3):=⟨e3,⟨rfl,.inl ⟨rfl,rfl⟩⟩,Chg.refl _ _⟩;have au:Hid _:=e3;have ax:Hid _:=bn
 have b8:Hid (∀k (hk:k < rs.length) (wr:Wq) (us:List By) (vn:Vq),NwI W3 N B (.slice ra rs.length rc) win lat que us vn wr->us.length<=8->∃g fa fn fc ga gn gc,ra=some ⟨g,0,none⟩/\wr.cell? (Ad g (k*3))=some (St (rs[k]).head.rel)/\wr.cell? (Ad g (k*3+1))=some (.slice fa fn fc)/\wr.cell? (Ad g (k*3+2))=some (.slice ga gn gc)/\
   Hid (Cs 76 #[vn,.func (.func 141) #[] #[Pt (wr.heap.size+1)]] ((wr.alloc (.cells #[St (rs[k]).head.rel,.slice fa fn fc,.slice ga gn gc] 136)).drew.alloc (.cells #[St (rs[k]).head.rel,.slice fa fn fc,.slice ga gn gc] 136)) λe w'=>∃(pa:Option Addr) (pc:Nat),e=.returned (.slice pa (nmL us (Qr rs[k])).length pc)/\w'.cell? (Ad N 5)=some vn/\w'.frozen? (Ad N 5)=false/\Hid (NwI W3 N B (.slice ra rs.length rc) win lat que (nmL us (Qr rs[k])) (.slice pa (nmL us (Qr rs[k])).length pc) (w'.setCell (Ad N 5) (.slice pa (nmL us (Qr rs[k])).length pc))))):=λk hk wr us vn aa co=>by
  have cd:=bb.out.rk (aa.rk au.out);obtain⟨g,c',v0,vb,q1,q2,q3,q4,q5⟩:=qdb cd hk;obtain⟨fa,fc,cf⟩:=q5.1.form;obtain⟨ga,gc,ca⟩:=q5.2.form;subst cf ca;cases q1;refine⟨g,fa,_,fc,ga,_,gc,rfl,q2,q3,q4,?_⟩;have an:Below wr.heap.size wr ((wr.alloc (.cells #[St (rs[k]).head.rel,.slice fa (rs[k]).head.args.length fc,.slice ga (rs[k]).body.length gc] 136)).drew.alloc (.cells #[St (rs[k]).head.rel,.slice fa (rs[k]).head.args.length fc,.slice ga (rs[k]).body.length gc] 136)):=(((Below.refl _ wr).alloc zl _).drew).alloc (by show _<=(wr.alloc _).heap.size;simp) _;have b5:N+1<=wr.heap.size:=by have:=aa.2.2.size;have:=ax.out;omega
  refine (qlm rs[k] _ _ vn us (N+1) ad ae (wr.heap.size+1) _ (ah.out.ok.rok _ (zm hk)) (q5.rk (qf.ofBelow an)) ?_ (qk aa.2.1 an) (by have:=an.size;omega) (by omega)).mono ?_
  .have:=zn (wr.alloc (.cells #[St (rs[k]).head.rel,.slice fa (rs[k]).head.args.length fc,.slice ga (rs[k]).body.length gc] 136)).drew (.cells #[St (rs[k]).head.rel,.slice fa (rs[k]).head.args.length fc,.slice ga (rs[k]).body.length gc] 136);rw[show (wr.alloc (.cells #[St (rs[k]).head.rel,.slice fa (rs[k]).head.args.length fc,.slice ga (rs[k]).body.length gc] 136)).drew.heap.size=wr.heap.size+1 by show (wr.alloc _).heap.size=_;simp] at this;exact this
  .rintro e w' ⟨v',h1,h2,h3⟩;obtain⟨pa,pc,b4⟩:=qo h2;subst b4;obtain⟨k1,k2,k3⟩:=aa.next ax.out an h3 h2;exact⟨pa,pc,h1,k1,k2,k3⟩
 clear bq bk bt hR al ay bo bc ao e3;go_wp2_with fail
 go_loopw [48] (λvi wr=>∃(k:Nat) (vn:Vq),vi=.int .i64 k/\k<=rs.length/\Hid (NwI W3 N B (.slice ra rs.length rc) win lat que (qa4 [] (rs.take k)) vn wr)) (λvi _=>rs.length - (intOf vi).toNat)
 case atStart=>exact⟨0,_,rfl,zz,Qay⟩
 case round=>
  obtain⟨k,vn,rfl,hk,aa⟩:=hrel;by_cases bd:k < rs.length
  .have i1:(k:Int) < (rs.length:Int):=by omega
   have h8:rs.length<=8:=ah.out.ok.r8;obtain⟨g,fa,fn,fc,ga,gn,gc,e0,q0,q1,q2,aw⟩:=b8.out k bd wr _ vn aa.out (ah.out.n8 k);cases e0;have b3:Hid _:=qv2 bd;obtain⟨na,nc,ck⟩:=qo aa.out.2.1;subst ck;have bu:=aa.out.1;have b5:N+1<=wr.heap.size:=by have:=aa.out.2.2.size;have:=ax.out;omega
   have c5:∀O,(wr.alloc O).cell? (Ad N 5)=some (.slice na (qa4 [] (rs.take k)).length nc):=λO=>cell_later ((Below.refl wr.heap.size wr).alloc zl O) (by simp[World.cell?,bu]);have ac:N≠wr.heap.size:=by omega
   clear bu;generalize (rs[k]).head.rel=rel at *;generalize nmL (qa4 [] (rs.take k)) (Qr rs[k])=ak at *;obtain⟨V1,ap⟩:∃V1,(wr.alloc (.cells #[St rel,.slice fa fn fc,.slice ga gn gc] 136)).drew=V1:=⟨_,rfl⟩;have bv:V1.heap.size=wr.heap.size+1:=by rw[<- ap];show (wr.alloc _).heap.size=_;simp
   have eV:V1.heap[wr.heap.size]?=cC #[St rel,.slice fa fn fc,.slice ga gn gc] 136:=by rw[<- ap];exact zn wr _
   have p0:V1.cell? (Ad wr.heap.size 0)=some (St rel):=zc eV
   have p1:V1.cell? (Ad wr.heap.size 1)=some (.slice fa fn fc):=zc eV
   have p2:V1.cell? (Ad wr.heap.size 2)=some (.slice ga gn gc):=zc eV
   have p5:V1.cell? (Ad N 5)=some (.slice na (qa4 [] (rs.take k)).length nc):=by rw[<- ap];exact c5 _
   rw[ap] at aw;obtain⟨V2,am⟩:∃V2,V1.alloc (.cells #[St rel,.slice fa fn fc,.slice ga gn gc] 136)=V2:=⟨_,rfl⟩;have r5:V2.cell? (Ad N 5)=some (.slice na (qa4 [] (rs.take k)).length nc):=by rw[<- am];exact cell_later ((Below.refl V1.heap.size V1).alloc zl _) p5
   rw[am] at aw
   have a8:Hid (Cs 77 #[.agg #[St rel,.slice fa fn fc,.slice ga gn gc]] V1 λe w'=>e=.returned (.func (.func 141) #[] #[Pt (wr.heap.size+1)])/\V2=w'):=by
    refine (qnf _ _ _ _ rfl V1).mono ?_;rintro e w' ⟨h1,h2⟩;rw[bv] at h1;exact⟨h1,by rw[h2,am]⟩
   clear eV am bv c5;go_wp2_with fail
   first | (go_region_with (first | (go_at_call 77;refine Calls.mono a8.out ?_;rintro e' w' ⟨rfl,af⟩;subst af) | (go_at_call 76;refine Calls.mono aw.out ?_;rintro e' W6 ⟨pa,pc,rfl,t5,y5,ci⟩))) | fail
   all_goals (
    go_wp2;refine⟨⟨k+1,.slice pa ak.length pc,by go_num,by omega,?_⟩,by simp[intOf];omega⟩;rw[b3.out]
    exact ci)
  .have cm:k=rs.length:=by omega
   subst cm;rw[List.take_length] at aa
   have q7:Hid (qlk rs win lat que w (.returned (.tuple #[Pt N,Ii 0])) wr):=by
    obtain⟨k1,k2,k3⟩:=aa.out;have hm:∀j es c,W3.heap[j]?=some (Obj.map es c)->wr.heap[j]?=some (Obj.map es c):=λj es c hj=>(k3.block j (zg hj).1 (λe=>by rw[e,au.out] at hj;cases hj)).trans hj;refine⟨N,λj=>j=N\/vn.ownBlock=some j,M,rfl,b7.out,⟨_,_,_,_,_,_,_,_,[],λ_ _=>False,⟨k1,bb.out.rk (aa.out.rk au.out),qet k2 zz,⟨rfl,.inl ⟨rfl,rfl⟩⟩,ch.out.kept hm,rfl,⟨rfl,.inl ⟨rfl,rfl⟩⟩,λi hi _=>by simp at hi,λ_ _ _ _ h=>h.elim,λ_ _ h=>h.elim,⟨.inl rfl,λg hg=>(by cases hg),λg hg=>(by cases hg),λg hg=>.inr hg⟩,λj hj=>?_⟩⟩,λj hj=>?_,?_⟩
    .rcases hj with rfl | hj
     .exact⟨_,_,k1,.inl rfl⟩
     .obtain⟨_,c,cl⟩:=qe k2 hj;exact⟨_,_,cl,.inr (.inr (.inr (.inr (.inr rfl))))⟩
    .rcases hj with rfl | hj
     .exact a7.out
     .have:=(qe k2 hj).1;have:=a7.out;omega
    .have h1:=cj.out;exact⟨k3.os.trans h1.os,k3.tape.trans h1.tape,k3.output.trans h1.output,Nat.le_trans h1.size k3.size,λj hj=>(k3.block j (by have:=h1.size;omega) (by have:=a7.out;omega)).trans (h1.block j hj)⟩
   go_wp2;go_ret2;exact q7.out
end Go.Proofs.YtjajnhemgphefaaGreatDoor
namespace Go.Proofs.YtjajnhemgphefaaGreatDoor
open Go renaming World->Wq,Value->Vq
open Go.RowKit
def qkn(c n:Int):Int:=if c < 0 then (-(c+1)) % n else c % n
theorem qt0(c n:Int)(hn:0 < n):0<=qkn c n/\qkn c n < n:=by
 unfold qkn;split
 .exact⟨Int.emod_nonneg _ (by omega),Int.emod_lt_of_pos _ hn⟩
 .exact⟨Int.emod_nonneg _ (by omega),Int.emod_lt_of_pos _ hn⟩
theorem q5v(c n:Int)(hc:c < 0) : -(c+1).tmod n=qkn c n:=by
 unfold qkn;rw[if_pos hc];obtain⟨a,ha⟩:∃a,a=-(c+1):=⟨_,rfl⟩;have:c+1=-a:=by omega
 rw[this,Int.neg_tmod,Int.neg_neg,Int.neg_neg,Int.tmod_eq_emod_of_nonneg (by omega)]
end Go.Proofs.YtjajnhemgphefaaGreatDoor
namespace Go.Proofs.YtjajnhemgphefaaGreatDoor
open Go renaming World->Wq,Value->Vq
open Go.RowKit Go.Shelf Go.Maps
theorem q12(x y:Gd×Int):qwe x y=true↔x=y:=by
 unfold qwe;simp only[Bool.and_eq_true,beq_iff_eq,qcy];constructor
 .rintro⟨⟨h1,h2,h3⟩,h4⟩;obtain⟨⟨a,b,c⟩,d⟩:=x;obtain⟨⟨a',b',c'⟩,d'⟩:=y;simp only at h1 h2 h3 h4;rw[qiw h1,qiw h2,qiw h3,h4]
 .rintro rfl;simp
theorem Qb3{s:By}{rs:List Rl}(h:qy3 s rs){win lat que:Int}(h1:1<=win/\win<=1000)(h2:0<=lat/\lat<=1000)(h3:1<=que/\que<=50){M:Gd->Option Int}(hM:qcv rs (Qo rs) M):qde (q1p rs win lat que M):=by
 have aj:(qa4 [] rs).length<=8:=by have:=h.n8 rs.length;rw[List.take_length] at this;exact this
 refine⟨h.ok,h1,h2,h3,⟨by show (0:Int)<=0;decide,by show (0:Int)<=1000000;decide⟩,aj,h.nsz,h.nrs,by show (0:Nat)<=24;decide,λd hd=>(by cases hd),?_,by show (0:Nat)<=3;decide,λf hf=>(by cases hf)⟩;exact qp2 (F:=[]) h.ok h.nrs ⟨by simp,by simp⟩ hM
section
variable {w W:Wq} {be:Nat} {bs:List Nat} {e:Eg}
end
def bPa:By:=⟨#[112,97,116,104]⟩
def bEd:By:=⟨#[101,100,103,101]⟩
def qy1:By:=⟨#[112,97,116,104,40,88,44,89,41,58,45,101,100,103,101,40,88,44,89,41,46,32,112,97,116,104,40,88,44,90,41,58,45,112,97,116,104,40,88,44,89,41,44,101,100,103,101,40,89,44,90,41,46]⟩
def rsP:List Rl:=qzw bPa bEd
theorem q8h:Lib.runeCount qy1=53:=by kernel_rfl
theorem qzv:qd0 qy1=.ok rsP:=by kernel_rfl
theorem q8g:qdk rsP=(0,0):=by kernel_rfl
theorem q9x:rsP.flatMap qx=[⟨bPa,[v0T,v1T]⟩,⟨bEd,[v0T,v1T]⟩,⟨bPa,[v0T,v1T]⟩,⟨bPa,[v0T,v2T]⟩,⟨bEd,[v2T,v1T]⟩]:=rfl
theorem q5s:arR rsP bPa=2:=by kernel_rfl
theorem q9y:arR rsP bEd=2:=by kernel_rfl
theorem Qhi:qim rsP:=by
 have hA:∀(x:By) (t u:Tm),x.size<=1200->qw5 t->qw5 u->qkr ⟨x,[t,u]⟩:=λx t u hx h1 h2=>⟨hx,Nat.le_refl 2,λv hv=>by
  simp only[List.mem_cons,List.not_mem_nil,or_false] at hv;rcases hv with rfl | rfl
  .exact h1
  .exact h2⟩
 have h0:qw5 v0T:=⟨by decide,by decide⟩;have h1:qw5 v1T:=⟨by decide,by decide⟩;have h2:qw5 v2T:=⟨by decide,by decide⟩;refine⟨by decide,λr hr=>?_,λa ha=>?_,λa ha t ht=>?_,λr hr t ht ac=>?_⟩
 .simp only[rsP,qzw,List.mem_cons,List.not_mem_nil,or_false] at hr;rcases hr with rfl | rfl
  .exact⟨hA _ _ _ (by decide) h0 h1,by decide,λa ha=>by simp only[List.mem_cons,List.not_mem_nil,or_false] at ha;subst ha;exact hA _ _ _ (by decide) h0 h1⟩
  .exact⟨hA _ _ _ (by decide) h0 h1,by decide,λa ha=>by
    simp only[List.mem_cons,List.not_mem_nil,or_false] at ha;rcases ha with rfl | rfl
    .exact hA _ _ _ (by decide) h0 h2
    .exact hA _ _ _ (by decide) h2 h1⟩
 .rw[q9x] at ha;simp only[List.mem_cons,List.not_mem_nil,or_false] at ha;rcases ha with rfl | rfl | rfl | rfl | rfl
  .exact⟨q5s.symm,.inr rfl⟩
  .exact⟨q9y.symm,.inr rfl⟩
  .exact⟨q5s.symm,.inr rfl⟩
  .exact⟨q5s.symm,.inr rfl⟩
  .exact⟨q9y.symm,.inr rfl⟩
 .rw[q9x] at ha;simp only[List.mem_cons,List.not_mem_nil,or_false] at ha;rcases ha with rfl | rfl | rfl | rfl | rfl <;> (simp only[List.mem_cons,List.not_mem_nil,or_false] at ht;rcases ht with rfl | rfl <;> decide)
 .simp only[rsP,qzw,List.mem_cons,List.not_mem_nil,or_false] at hr;rcases hr with rfl | rfl
  .exact⟨⟨bEd,[v0T,v1T]⟩,zs,t,ht,ac,rfl⟩
  .simp only[List.mem_cons,List.not_mem_nil,or_false] at ht;rcases ht with rfl | rfl
   .exact⟨⟨bPa,[v0T,v2T]⟩,zs,v0T,zs,rfl,rfl⟩
   .exact⟨⟨bEd,[v2T,v1T]⟩,List.mem_cons_of_mem _ zs,v1T,List.mem_cons_of_mem _ zs,rfl,rfl⟩
theorem q5t:qa4 [] (rsP.take 1)=[]:=by kernel_rfl
theorem qzu:qa4 [] rsP=[]:=by kernel_rfl
theorem Qe1:qy3 qy1 rsP:=by
 refine⟨qzv,?_,Qhi,λk=>?_,λr hr t ht ac=>?_,λx hx=>?_⟩
 .unfold qeq;rw[q8h,if_neg (by decide),qzv];simp only;rw[q8g,if_pos rfl]
 .match k with
  | 0=>exact zz
  | 1=>rw[q5t];exact zz
  | k+2=>
   have h:rsP.take (k+2)=rsP:=List.take_of_length_le (by show (2:Nat)<=k+2;omega);rw[h,qzu];exact zz
 .simp only[rsP,qzw,List.mem_cons,List.not_mem_nil,or_false] at hr;rcases hr with rfl | rfl <;> (simp only[List.mem_cons,List.not_mem_nil,or_false] at ht;rcases ht with rfl | rfl <;> exact absurd rfl ac)
 .rw[qzu] at hx;cases hx
end Go.Proofs.YtjajnhemgphefaaGreatDoor
namespace Go.Proofs.YtjajnhemgphefaaGreatDoor
open Go renaming World->Wq,Value->Vq
open Go.RowKit Go.Shelf
variable {win:Int} {ar:By->Nat} {ds:List (Gd×Int×Bool)} {M:Gd->Option Int} {hs:List Gr}
abbrev Fk:=Gr×Int×Bool
def qmz(win:Int)(fs:List Fk)(t:Int):List Gr:=(fs.filter (λf=>f.2.2 && decide (t < f.2.1+win))).map (·.1)
def qra(win:Int)(ds:List (Gd×Int×Bool)):List (Gd×Int):=(ds.filter (λd=>d.2.2)).map (λd=>(d.1,d.2.1+win))
theorem qv0{fs:List Fk}{t:Int}{g:Gr}:g∈qmz win fs t↔∃f∈fs,f.2.2=true/\t < f.2.1+win/\f.1=g:=by
 unfold qmz;rw[List.mem_map];constructor
 .rintro⟨f,hf,rfl⟩;obtain⟨h1,h2⟩:=List.mem_filter.1 hf;simp only[Bool.and_eq_true,decide_eq_true_eq] at h2;exact⟨f,h1,h2.1,h2.2,rfl⟩
 .rintro⟨f,hf,h1,h2,rfl⟩;exact⟨f,List.mem_filter.2 ⟨hf,by simp[h1,h2]⟩,rfl⟩
def qgj(ds:List (Gd×Int×Bool))(fs:List Fk):Prop:=fs=ds.map (λd=>(qbr d.1,d.2.1,d.2.2))
theorem q0w{R:List Rl}{fs:List Fk}(hR:qd8 ar R)(hs:qgj ds fs)(ha:∀d∈ds,ArE ar d.1){t:Int}(ht:t < 2000000):qlh ar R (qra win ds++Qo R) t (qmz win fs t):=by
 have Qgk:∀x∈Qo R,∃r∈R,r.body=[]/\x=(qb Qm r.head,2000000):=λx hx=>by
  obtain⟨r,hr,e⟩:=List.mem_filterMap.1 hx;split at e
  .rename_i h0;exact⟨r,hr,h0,(Option.some.inj e).symm⟩
  .cases e
 refine⟨λx hx he=>?_,λg hg=>?_,λr hr h0=>?_⟩
 .rcases List.mem_append.1 hx with hx | hx
  .obtain⟨d,hd,rfl⟩:=List.mem_map.1 hx;obtain⟨h1,h2⟩:=List.mem_filter.1 hd;refine⟨ha d h1,.inl (qv0.2 ⟨(qbr d.1,d.2.1,d.2.2),?_,h2,he,rfl⟩)⟩;rw[hs];exact List.mem_map.2 ⟨d,h1,rfl⟩
  .obtain⟨r,hr,h0,rfl⟩:=Qgk x hx;have hc:=qpp (hR.safe r hr) h0;obtain⟨h2,h3⟩:=hR.two r hr r.head zs;refine⟨(qht h2.1 h3).2 (λt ht=>?_),.inr ⟨r,hr,h0,rfl⟩⟩;have ac:=hc t ht;unfold ofT;rw[if_neg (by show ¬qg t.name=true;rw[ac];decide)];exact ac
 .obtain⟨f,hf,h1,h2,rfl⟩:=qv0.1 hg;rw[hs] at hf;obtain⟨d,hd,rfl⟩:=List.mem_map.1 hf;exact⟨(d.1,d.2.1+win),List.mem_append_left _ (List.mem_map.2 ⟨d,List.mem_filter.2 ⟨hd,h1⟩,rfl⟩),h2,rfl⟩
 .exact⟨(qb Qm r.head,2000000),List.mem_append_right _ (List.mem_filterMap.2 ⟨r,hr,by rw[if_pos h0]⟩),ht,rfl⟩
theorem q1j{R:List Rl}{fs:List Fk}(hR:qd8 ar R)(hs:qgj ds fs)(ha:∀d∈ds,ArE ar d.1)(hM:qcv R (qra win ds++Qo R) M){t:Int}(ht:t < 2000000)(g:Gd):(∃u,M g=some u/\t < u)↔Dv R (qmz win fs t) (qbr g):=by
 rw[<- q7d hR (q0w (win:=win) hR hs ha ht) g];exact⟨λ⟨u,h1,h2⟩=>hM.sound g u h1 t h2,λh=>hM.complete t g h⟩
theorem q2c{R:List Rl}{m:Int}{fs:List Fk}(hR:qd8 ar R)(hs:qgj ds fs)(ha:∀d∈ds,ArE ar d.1)(hM:qcv R (qra win ds++Qo R) M)(hm:m < 2000000)(hb:∀d∈ds,d.2.2=true->m < d.2.1+win)(g:Gd):(M g).isSome=true↔Dv R (qmz win fs m) (qbr g):=by
 rw[<- q1j hR hs ha hM hm g];constructor
 .intro h;obtain⟨u,hu⟩:=Option.isSome_iff_exists.1 h;refine⟨u,hu,?_⟩;obtain⟨d,hd,rfl⟩:=hM.end_mem hu;rcases List.mem_append.1 hd with hd | hd
  .obtain⟨x,hx,rfl⟩:=List.mem_map.1 hd;exact hb x (List.mem_filter.1 hx).1 (List.mem_filter.1 hx).2
  .obtain⟨r,hr,e⟩:=List.mem_filterMap.1 hd;split at e
   .rw[<- Option.some.inj e];exact hm
   .cases e
 .rintro⟨u,hu,_⟩;rw[hu];rfl
theorem qsl(x y:By):qsk x y=true↔x.data.toList < y.data.toList:=by
 unfold qsk;rw[bytesLess_eq,decide_eq_true_eq,qcy,qcy]
theorem qnb(x:By):∀l,(qgw x l).Perm (x::l)
 | []=>.refl _
 | y::l=>by
  unfold qgw;split
  .exact .refl _
  .exact ((qnb x l).cons y).trans (.swap x y l)
theorem qn2(x:By):∀l:List By,l.Pairwise (λa b=>a.data.toList<=b.data.toList)->(qgw x l).Pairwise (λa b=>a.data.toList<=b.data.toList)
 | [],_=>List.pairwise_singleton _ _
 | y::l,h=>by
  have h':=List.pairwise_cons.1 h;unfold qgw;split
  .rename_i hl;have bh:x.data.toList<=y.data.toList:=List.le_of_lt ((qsl _ _).1 hl);refine List.pairwise_cons.2 ⟨λz hz=>?_,h⟩;rcases List.mem_cons.1 hz with rfl | hz
   .exact bh
   .exact List.le_trans bh (h'.1 z hz)
  .rename_i hl;refine List.pairwise_cons.2 ⟨λz hz=>?_,qn2 x l h'.2⟩;rcases List.mem_cons.1 ((qnb x l).mem_iff.1 hz) with rfl | hz
   .exact List.not_lt.1 (λh=>hl ((qsl _ _).2 h))
   .exact h'.1 z hz
theorem qqu:∀(l out:List By),out.Pairwise (λa b=>a.data.toList<=b.data.toList)->(qel out l).Pairwise (λa b=>a.data.toList<=b.data.toList)/\(qel out l).Perm (l++out)
 | [],out,h=>⟨h,.refl _⟩
 | x::l,out,h=>by
  obtain⟨h1,h2⟩:=qqu l (qgw x out) (qn2 x out h);unfold qel at h1 h2 ⊢;rw[List.foldl_cons];refine⟨h1,h2.trans ?_⟩;exact ((qnb x out).append_left l).trans List.perm_middle
theorem qof(l:List By):(qel [] l).map (λx=>x.data.toList)=qdj (l.map (λx=>x.data.toList)):=by
 obtain⟨h1,h2⟩:=qqu l [] List.Pairwise.nil;rw[List.append_nil] at h2;rw[<- qqv (h2.map _)];symm;unfold qdj;refine List.mergeSort_of_pairwise ?_;rw[List.pairwise_map];exact h1.imp (λh=>by simpa using h)
theorem qxb{g:Gd}:qc6 ar g↔ArE ar g:=by
 have h:∀x:By,(x≠eB)↔qg x=false:=λx=>by
  constructor
  .intro hx
   cases he:qg x with
   | false=>rfl
   | true=>exact absurd ((qbo x).1 he) hx
  .intro he hx;rw[(qbo x).2 hx] at he;cases he
 have h':∀x:By,(x=eB)↔qg x=true:=λx=>(qbo x).symm;unfold qc6 ArE;rw[h,h,h']
theorem Qae{x y:By}(h:x.data.toList=y.data.toList):x=y:=by
 obtain⟨x⟩:=x;obtain⟨y⟩:=y;simp only[ByteArray.mk.injEq];exact Array.toList_inj.1 h
theorem q2k(g:Gd):qga (qbr g)=qcb g:=by
 apply Qae;unfold qga qcb qn4 qit qbr qg;split
 .simp[qkl,Lib.join]
 .simp[qkl,Lib.join]
theorem qzh{a:Am}(ha:qln ar a){x y:By}(hg:qc6 ar ⟨a.rel,x,y⟩):(Q3 Qm a x y).isSome=true↔(qcd a (qbr ⟨a.rel,x,y⟩) qao).isSome=true:=by
 have a9:qg (⟨#[97]⟩:By)=false:=by decide +kernel
 have h2:a.args.length=1\/a.args.length=2:=by
  rcases qiq ha hg with⟨t,e1,_⟩ | ⟨t,u,e1,_⟩
  .left;rw[e1];rfl
  .right;rw[e1];rfl
 have a8:∀z∈(qbr (⟨a.rel,x,y⟩:Gd)).args,qg z=false:=λz hz=>by
  obtain⟨h3,h4⟩:=qxb.1 hg;unfold qbr at hz;simp only at hz h3 h4;split at hz
  .rw[List.mem_singleton] at hz;rw[hz];exact h3
  .rename_i hy;rcases List.mem_cons.1 hz with rfl | hz
   .exact h3
   .rw[List.mem_singleton] at hz;rw[hz];simpa using hy
 have aj:∀t∈a.args,t.num < qao.length:=λt ht=>by have:=ha.2 t ht;show t.num < 8;omega
 constructor
 .intro h;obtain⟨m,hm⟩:=Option.isSome_iff_exists.1 h;obtain⟨_,e1⟩:=qfj ha hg hm;have ce:=(qht (p:=m) h2 ha.1).1 (by rw[e1];exact qxb.1 hg)
  have hs:∀v,qg ((λv=>if qg (m.get v)=true then (⟨#[97]⟩:By) else m.get v) v)=false:=λv=>by
   show qg (if _ then _ else _)=false;split
   .exact a9
   .rename_i h;simpa using h
  have e2:qbr (qb m a)=qbz (λv=>if qg (m.get v)=true then (⟨#[97]⟩:By) else m.get v) a:=qd3 h2 (λt ht ag=>by
   have h5:=ce t ht;unfold ofT at h5;rw[if_pos (by exact ag)] at h5;show _=if _ then _ else _
   rw[if_neg (by rw[h5];decide)]) (λt ht=>qjv hs t)
  rw[e1] at e2;obtain⟨c,hc,_⟩:=qha (λv=>if qg (m.get v)=true then (⟨#[97]⟩:By) else m.get v) a.args qao aj (λv hv=>by rw[qg7] at hv;cases hv) hs;rw[e2];unfold qcd qbz;rw[if_pos ⟨(qhx _ _).2 rfl,by simp⟩,hc];rfl
 .intro h;obtain⟨c,hc⟩:=Option.isSome_iff_exists.1 h;obtain⟨f1,f2,f3⟩:=qow hc;obtain⟨i1,i2,i3,i4,i5⟩:=qjr _ _ _ _ f3 f2 a8 aj
  have hs:∀v,qg ((λv=>if qg (c.getD v eBy)=true then (⟨#[97]⟩:By) else c.getD v eBy) v)=false:=λv=>by
   show qg (if _ then _ else _)=false;split
   .exact a9
   .rename_i h;simpa using h
  have e1:qbr (⟨a.rel,x,y⟩:Gd)=qbz (λv=>if qg (c.getD v eBy)=true then (⟨#[97]⟩:By) else c.getD v eBy) a:=by
   have e2:qbr (⟨a.rel,x,y⟩:Gd)=⟨a.rel,(qbr (⟨a.rel,x,y⟩:Gd)).args⟩:=rfl;rw[e2,i3];unfold qbz;congr 1;refine List.map_congr_left (λt ht=>?_);unfold qih inT;by_cases ag:qg t.name=true
   .rw[if_pos ag,if_pos (by exact ag)];show _=if _ then _ else _;rw[if_neg (by rw[(i4 t.num).2 (.inr ⟨t,ht,ag,rfl⟩)];decide)]
   .rw[if_neg ag,if_neg (by exact ag)]
  have e3:qb (qsp (λv=>if qg (c.getD v eBy)=true then (⟨#[97]⟩:By) else c.getD v eBy)) a=⟨a.rel,x,y⟩:=qjk (by
   rw[e1]
   exact qd3 h2 (λt ht _=>qsq _ (ha.2 t ht)) (λt ht=>qjv hs t))
  obtain⟨m,hm,_⟩:=qe8 (n:=Qm) (p:=qsp (λv=>if qg (c.getD v eBy)=true then (⟨#[97]⟩:By) else c.getD v eBy)) ha (by rw[e3];exact hg) (λk hk=>by
   exfalso;apply hk
   match k with
   | 0=>rfl
   | 1=>rfl
   | 2=>rfl
   | 3=>rfl
   | 4=>rfl
   | 5=>rfl
   | k+6=>rfl)
  rw[e3] at hm;rw[hm];rfl
theorem q3c(hM:∀g,(M g).isSome=true↔qbr g∈hs)(az:hs.Nodup)(aq:∀h∈hs,∃g,qbr g=h)(ab:∀g,(M g).isSome=true->qc6 ar g/\g.x.size<=2000/\g.y.size<=2000){a:Am}(ha:qln ar a){gs:List Gd}(hf:qxl M a gs):(gs.map qbr).Perm (hs.filter (λh=>(qcd a h qao).isSome)):=by
 obtain⟨ks,k1,k2,rfl⟩:=hf
 have hk:∀k∈ks,qc6 ar ⟨a.rel,k.1,k.2⟩/\(M ⟨a.rel,k.1,k.2⟩).isSome=true:=λk hk=>by
  have:=(k2 k.1 k.2).1 hk;exact⟨(ab _ this.2.2).1,this.2.2⟩
 have b9:∀l:List (By×By),(∀k∈l,qc6 ar ⟨a.rel,k.1,k.2⟩/\(M ⟨a.rel,k.1,k.2⟩).isSome=true)->(l.filterMap (λk=>Q3 Qm a k.1 k.2)).map (λp=>qb p a)=(l.filter (λk=>(Q3 Qm a k.1 k.2).isSome)).map (λk=>(⟨a.rel,k.1,k.2⟩:Gd)):=by
  intro l
  induction l with
  | nil=>intro _;rfl
  | cons k l ih=>
   intro hl;have bf:=ih (λk hk=>hl k (zt hk))
   cases hm:Q3 Qm a k.1 k.2 with
   | none=>rw[List.filterMap_cons_none (by exact hm),List.filter_cons_of_neg (by rw[hm];decide),bf]
   | some p=>
    rw[List.filterMap_cons_some (by exact hm),List.filter_cons_of_pos (by rw[hm];rfl),List.map_cons,List.map_cons,bf,(qfj ha (hl k zs).1 hm).2]
 rw[b9 ks hk];refine (List.perm_ext_iff_of_nodup ?_ (az.sublist List.filter_sublist)).2 (λh=>?_)
 .rw[List.map_map,List.nodup_iff_pairwise_ne,List.pairwise_map];refine List.Pairwise.imp (λ{p q} ac e=>?_) (List.nodup_iff_pairwise_ne.1 (k1.sublist List.filter_sublist));have:=qjk e;simp only[Gd.mk.injEq,true_and] at this;exact ac (Prod.ext this.1 this.2)
 .rw[List.mem_map,List.mem_filter];constructor
  .rintro⟨g,hg,rfl⟩;obtain⟨k,cg,rfl⟩:=List.mem_map.1 hg;obtain⟨h1,h2⟩:=List.mem_filter.1 cg;exact⟨(hM _).1 (hk k h1).2,(qzh ha (hk k h1).1).1 h2⟩
  .rintro⟨h1,h2⟩;obtain⟨g,rfl⟩:=aq h h1;have bi:=(hM g).2 h1;obtain⟨o1,o2,o3⟩:=ab g bi
   have hrel:a.rel=g.rel:=by
    obtain⟨c,hc⟩:=Option.isSome_iff_exists.1 h2;exact (qow hc).1
   obtain⟨gr,gx,gy⟩:=g;simp only at hrel o2 o3;subst hrel;refine⟨⟨a.rel,gx,gy⟩,List.mem_map.2 ⟨(gx,gy),List.mem_filter.2 ⟨(k2 gx gy).2 ⟨Nat.le_trans o2 (by unfold maxLen;decide),Nat.le_trans o3 (by unfold maxLen;decide),bi⟩,(qzh ha o1).2 h2⟩,rfl⟩,rfl⟩
theorem q3d(hM:∀g,(M g).isSome=true↔qbr g∈hs)(az:hs.Nodup)(aq:∀h∈hs,∃g,qbr g=h)(ab:∀g,(M g).isSome=true->qc6 ar g/\g.x.size<=2000/\g.y.size<=2000){a:Am}(ha:qln ar a){gs:List Gd}(hf:qxl M a gs):qdw gs=(qel [] ((hs.filter (λh=>(qcd a h qao).isSome)).map qga)).map (λx=>x.data.toList):=by
 rw[qof];unfold qdw;refine qqv ?_;rw[List.map_map];have h:=(q3c hM az aq ab ha hf).map (λh=>(qga h).data.toList);rw[List.map_map] at h;refine List.Perm.trans (List.Perm.of_eq ?_) h;refine List.map_congr_left (λg _=>?_);show _=(qga (qbr g)).data.toList;rw[q2k]
