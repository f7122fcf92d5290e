/- A part -/
import Derived.Test.YtjajnhemgphefaaGreatDoorKWzF
import Derived.Test.YtjajnhemgphefaaGreatDoorCards
import Derived.Test.YtjajnhemgphefaaGreatDoorTie
import Derived.ProofKit
import Derived.OpenShut
import Derived.Carry
import Derived.Deep.DeepHandedRow
import Derived.Lib.LaidU8T
import Derived.SevenTiedAt
import Derived.Deep.Slices
set_option linter.all false
set_option maxRecDepth 100000
set_option maxHeartbeats 2000000
namespace Go.Proofs.YtjajnhemgphefaaGreatDoor
open Go renaming World->Wq,Value->Vq
open Go.RowKit Go.Shelf
variable {W W':Wq} {F:Nat->Eg->Er->Prop} {ps:List Pr}
theorem qg1.keep2{p:Pr}(h:qg1 W p){ex:Nat->Prop}(hc:Chg W W' ex)(hU:∀k,p.U k->¬ex k)(hn:∀k,k < W.heap.size->ex k->NTy W k)(hr:qli W W'):qg1 W' p:=by
 have hk:∀k,p.U k->W'.heap[k]?=W.heap[k]?:=λk hk=>hc.block k (h.uty k hk).lt (hU k hk);exact⟨h.x.keepN hc (λk hk=>hU k (.inl hk)) hn,h.y.keep hc.size (λk al=>hk k (.inr al)) hr,λk al=>(h.ty k al).same (hk k (.inr al)),h.sep⟩
theorem LwI.add{n:Nat}{w:Wq}{Q:Nat->Prop}{vl ad ab aa:Vq}{W1 W2:Wq}{bw:Nat}(h:LwI F n w Q vl ps W)(aj:w.heap.size<=bw)(Qs:W.heap[bw]?=cC #[vl,ab,aa] 31)(hb:Below W.heap.size W W1){p:Pr}(hp:qg1 W1 p)(b5:qq9 F n p)(hU:∀k,p.U k->W.heap.size<=k){O:Obj}(hg:(W1.alloc O).grownBy W2 vl.ownBlock)(ho:W2.ownsRow w.heap.size 81 2 ad (ps.length+1) (ps.flatMap prC++prC p)) :
  W2.cell? (Ad bw 0)=some vl/\W2.frozen? (Ad bw 0)=false/\(W2.setCell (Ad bw 0) ad).heap[bw]?=cC #[ad,ab,aa] 31/\LwI F n w Q ad (ps++[p]) (W2.setCell (Ad bw 0) ad)/\Chg W (W2.setCell (Ad bw 0) ad) (λk=>k=bw\/vl.ownBlock=some k):=by
 have d7:bw < W.heap.size:=(zg Qs).1
 have fa:vl.ownBlock≠some bw:=λe=>by
  obtain⟨c,hc⟩:=qh h.row e;rw[Qs] at hc;cases hc
 have cy:=hb.size;have fp:(W1.alloc O).heap.size=W1.heap.size+1:=by simp
 have cn:=hg.size;have h1:W1.heap[bw]?=cC #[vl,ab,aa] 31:=(hb.block bw d7).trans Qs;have h2:W2.heap[bw]?=cC #[vl,ab,aa] 31:=((hg.block bw (by omega) (λe=>fa e.symm)).trans (Below.heap_alloc W1 O bw (by omega))).trans h1;have ai:=h.same (λ_ _=>id) hb
 have av:Chg W1 (W2.setCell (Ad bw 0) ad) (λk=>k=bw\/vl.ownBlock=some k):=by
  refine Chg.setCell ?_ ⟨bw,0,none⟩ ad (λ_=>.inl rfl);exact ((Chg.refl W1 (λk=>k=bw\/vl.ownBlock=some k)).alloc O).grown hg (λk hk _=>.inr hk)
 have hN:∀k,k < W1.heap.size->(k=bw\/vl.ownBlock=some k)->NTy W1 k:=λk hk he=>by
  rcases he with rfl | he
  .exact⟨_,_,h1,by decide⟩
  .obtain⟨c,hc⟩:=qh ai.row he;exact⟨_,_,hc,by decide⟩
 have hR:qli W1 (W2.setCell (Ad bw 0) ad):=λk c t ht hk=>by
  refine av.block k (zg hk).1 (λe=>?_);rcases e with rfl | e
  .rw[h1] at hk;cases hk;rcases ht with ht | ht | ht <;> cases ht
  .obtain⟨c',aq⟩:=qh ai.row e;rw[hk] at aq;cases aq;rcases ht with ht | ht | ht <;> cases ht
 have hX:∀k,XTy W1 k->¬(k=bw\/vl.ownBlock=some k):=λk hk e=>by
  rcases e with rfl | e
  .exact XTy.not h1 (by decide) (by decide) hk
  .obtain⟨c',aq⟩:=qh ai.row e;exact XTy.not aq (by decide) (by decide) hk
 refine⟨zc h2,by simp[World.frozen?,h2],Qd h2 0 ad,⟨?_,λq hq=>?_,λq hq k hk=>?_,λi j q r hq hr di k hk al=>?_,?_,λk hk=>?_⟩,?_⟩
 .rw[List.length_append,List.flatMap_append]
  have:=Qg ho ⟨bw,0,none⟩ ad (λg ev e=>by
   obtain⟨c,hc⟩:=qh ho ev;have e':g=bw:=e
   rw[e',h2] at hc;cases hc)
  simpa using this
 .rcases List.mem_append.1 hq with hq | hq
  .exact⟨(ai.each q hq).1.keep2 av (λk hk=>hX k ((ai.each q hq).1.uty k hk)) hN hR,(h.each q hq).2⟩
  .simp only[List.mem_cons,List.not_mem_nil,or_false] at hq;subst hq;exact⟨hp.keep2 av (λk hk=>hX k (hp.uty k hk)) hN hR,b5⟩
 .rcases List.mem_append.1 hq with hq | hq
  .exact h.low q hq k hk
  .simp only[List.mem_cons,List.not_mem_nil,or_false] at hq;subst hq;have h5:=hU k hk;have:=h.below.size;exact⟨by omega,λhQ=>by have:=h.q k hQ;omega⟩
 .have cl:∀(i:Nat) (q:Pr),(ps++[p])[i]?=some q->(ps[i]?=some q/\i < ps.length)\/(i=ps.length/\q=p):=λi q hq=>by
   by_cases hi:i < ps.length
   .rw[List.getElem?_append_left hi] at hq;exact .inl ⟨hq,hi⟩
   .rw[List.getElem?_append_right (by omega)] at hq;have bv:=(List.getElem?_eq_some_iff.1 hq).1;simp at bv;have e:i=ps.length:=by omega
    subst e;simp at hq;exact .inr ⟨rfl,hq.symm⟩
  rcases cl i q hq with⟨dm,hi⟩ | ⟨hi,e1⟩
  .rcases cl j r hr with⟨ch,hj⟩ | ⟨hj,e2⟩
   .exact h.sep i j q r dm ch di k hk al
   .have:=((h.each q (List.mem_of_getElem? dm)).1.uty k hk).lt;have:=hU k (e2 ▸ al);omega
  .rcases cl j r hr with⟨ch,hj⟩ | ⟨hj,e2⟩
   .have:=((h.each r (List.mem_of_getElem? ch)).1.uty k al).lt;have:=hU k (e1 ▸ hk);omega
   .exact di (hi.trans hj.symm)
 .exact ai.below.trans (av.below ai.below.size (λk hk=>by
   rcases hk with rfl | hk
   .exact aj
   .exact (qe h.row hk).1))
 .have:=h.q k hk;have:=av.size;omega
 .have:=(Chg.ofBelow (λk=>k=bw\/vl.ownBlock=some k) hb).trans av;exact this
def q94(F:Nat->Eg->Er->Prop)(n:Nat)(w:Wq)(Q:Nat->Prop)(bw:Nat)(vl ab aa:Vq)(ps:List Pr)(G:Prop)(W W':Wq):Prop:=
 ∃ad ak,W'.heap[bw]?=cC #[ad,ab,aa] 31/\LwI F n w Q ad ak W'/\ps.length<=ak.length/\ak.length<=ps.length+1/\(G->ak.length=ps.length+1)/\Chg W W' (λk=>k=bw\/vl.ownBlock=some k)
theorem Tryz.infoPair:(Tryz.prog.info? 81).map (λi=>(i.zero,i.size,i.bytes))=some (some (.agg #[.pointer none,.pointer none]),2,16):=by kernel_rfl
theorem qo7(hF:FOk F){n:Nat}{w:Wq}{Q:Nat->Prop}{vl ab aa:Vq}{ps:List Pr}{W:Wq}{bw:Nat}(h:LwI F n w Q vl ps W)(aj:w.heap.size<=bw)(Qs:W.heap[bw]?=cC #[vl,ab,aa] 31)(fl:ps.length<=10000000)(o:Stp)(hs:o.s.size<=1048576)(hT:Lib.Utf8Tabs 0 1 W) :
  Cs 33 #[Pt bw,o.v] W λen W'=>en=.returned (.bool true)/\q94 F n w Q bw vl ab aa ps ((∃rs,qay o.s=.ok rs)/\qbm o.a o.b o.c) W W':=by
 unfold Stp.v;obtain⟨kd,ke,s,a,b,c⟩:=o;simp only at hs ⊢;obtain⟨N,hN⟩:∃N,W.heap.size=N:=⟨_,rfl⟩;obtain⟨W0,ag⟩:∃W0,W.alloc (.cells #[Ii kd,Ii ke,St s,Ii a,Ii b,Ii c] 34)=W0:=⟨_,rfl⟩;have af:Below W.heap.size W W0:=by rw[<- ag];exact (Below.refl _ W).alloc zl _
 have ae:W0.heap[N]?=cC #[Ii kd,Ii ke,St s,Ii a,Ii b,Ii c] 34:=by rw[<- ag,<- hN];exact zn W _
 have de:=Utf8Tabs_below hT af
 have HC:Hid (∀Y,Below W0.heap.size W0 Y->Y.cell? (Ad N 2)=some (St s)/\Y.cell? (Ad N 3)=some (Ii a)/\Y.cell? (Ad N 4)=some (Ii b)/\Y.cell? (Ad N 5)=some (Ii c)):=λY hY=>by
  have h2:=(hY.block N (zg ae).1).trans ae;exact⟨zc h2,zc h2,zc h2,zc h2⟩
 obtain⟨c2,c3,c4,c5⟩:=HC.out W0 zr;have a6:Hid (Below W.heap.size W W0):=af;have HI:Hid (LwI F n w Q vl ps W):=h;have bb:Hid (∀Y,Cs 66 #[St s,Ii a,Ii b,Ii c] Y (qs2 s a b c Y)):=λY=>q5m s a b c Y hs;have ay:Hid (Cs 39 #[St s,Ii a,Ii b,Ii c] W0 (qq8 s a b c W0)):=q5l s a b c W0 hs de;have a9:Hid (W.heap[bw]?=cC #[vl,ab,aa] 31):=Qs;have co:Hid (∀Y,Below W.heap.size W Y->(¬((∃rs,qay s=.ok rs)/\qbm a b c))->q94 F n w Q bw vl ab aa ps ((∃rs,qay s=.ok rs)/\qbm a b c) W Y):=λY hY hG=>⟨vl,ps,(hY.block bw (zg a9.out).1).trans a9.out,HI.out.same (λ_ _=>id) hY,Nat.le_refl _,Nat.le_succ _,λg=>absurd g hG,Chg.ofBelow _ hY⟩;obtain⟨la,lc,ca⟩:=qo h.row;subst ca;obtain⟨i0,hi,e6,cy,cn⟩:=info_parts Tryz.infoPair;clear af ae de h hT Qs;by_cases hG:(∃rs,qay s=.ok rs)/\qbm a b c
 .obtain⟨⟨rs,hp⟩,ha⟩:=hG;have dy:=qk5 s rs hp
  have bd:Hid (Cs 39 #[St s,Ii a,Ii b,Ii c] W0 (qlk rs a b c W0)):=by
   refine Calls.mono ay.out ?_;intro e w' hh;unfold qq8 at hh;rw[hp] at hh;rcases hh with⟨_,hh⟩ | ⟨h5,_⟩
   .exact hh
   .exact absurd ha h5
  have bn:Hid (∀Y,Cs 66 #[St s,Ii a,Ii b,Ii c] Y λe w'=>Below Y.heap.size Y w'/\∃(b':Nat) (T:Nat->Prop) (st:List Gr),e=.returned (.tuple #[Pt b',Ii 0])/\qfc rs [] (nmL [] (Qp (qap rs))) st/\ErM w' T b' (qp7 rs a b c st)/\∀k,T k->Y.heap.size<=k):=λY=>by
   refine Calls.mono (bb.out Y) ?_;intro e w' hh;unfold qs2 at hh;rw[hp] at hh;rcases hh with⟨h0,⟨_,hh⟩ | ⟨h5,_⟩⟩
   .exact⟨h0,hh⟩
   .exact absurd ha h5
  have HGd:Hid (qw4 s rs):=dy;have HA:Hid (qbm a b c):=ha;clear ay bb co dy ha hp;go_enter Tryz.func33,Tryz.ntmps33;go_wp2_with fail;refine Calls.mono bd.out ?_;rintro e' W1 ⟨be,S,M,rfl,hM,hE,hS,ah⟩;obtain⟨d2,d3,d4,d5⟩:=HC.out W1 ah;have bt:Hid (Below W0.heap.size W0 W1):=ah;have HE:Hid (qb4 W1 S be (q1p rs a b c M)/\(∀k,S k->W0.heap.size<=k)/\qcv rs (Qo rs) M):=⟨hE,hS,hM⟩;clear c2 c3 c4 c5 bd hE hS hM ah;go_wp2_with fail;refine Calls.mono (bn.out W1) ?_;rintro e' W2 ⟨au,bz,T,st,rfl,dp,dd,cm⟩;clear d2 d3 d4 d5 bn;obtain⟨p,ap⟩:∃p:Pr,⟨be,bz,q1p rs a b c M,qp7 rs a b c st,[],S,λk=>T k/\RTy W2 k⟩=p:=⟨_,rfl⟩;have Qew:=a6.out.size;have Qhh:=bt.out.size;have bq:Below W.heap.size W W2:=(a6.out.trans (bt.out.mono Qew)).trans (au.mono (by omega))
  have dq:qg1 W2 p/\qq9 F n p/\∀k,p.U k->W.heap.size<=k:=by
   rw[<- ap];refine⟨⟨HE.out.1.below au,dd.narrow,λk hk=>hk.2,λk hk al=>?_⟩,⟨Qb3 HGd.out.new HA.out.1 HA.out.2.1 HA.out.2.2 HE.out.2.2,q78 HGd.out HA.out HE.out.2.2 dp,by simp[qp7],hF.new n rs a b c M st⟩,λk hk=>?_⟩
   .have h5:=(HE.out.1.tyW k hk).lt;have:=cm k al.1;omega
   .rcases hk with hk | hk
    .have:=HE.out.2.1 k hk;omega
    .have:=cm k hk.1;omega
  have cj:Hid _:=dq;have Qeg:prC p=[Pt be,Pt bz]:=by rw[<- ap];rfl
  have eo:Hid _:=Qeg
  have ef:Hid (∀(O:Obj) (w1:Wq) (ad:Vq),(W2.alloc O).grownBy w1 (Value.slice la ps.length lc).ownBlock->w1.ownsRow w.heap.size 81 2 ad (ps.length+1) (ps.flatMap prC++[Pt be,Pt bz])->w1.cell? (Ad bw 0)=some (.slice la ps.length lc)/\w1.frozen? (Ad bw 0)=false/\Hid (q94 F n w Q bw (.slice la ps.length lc) ab aa ps ((∃rs,qay s=.ok rs)/\qbm a b c) W (w1.setCell (Ad bw 0) ad))):=λO w1 ad hg ho=>by
   rw[<- eo.out] at ho;obtain⟨k1,k2,k3,k4,k5⟩:=HI.out.add aj a9.out bq cj.out.1 cj.out.2.1 cj.out.2.2 hg ho;exact⟨k1,k2,ad,ps++[p],k3,k4,by simp,by simp,λ_=>by simp,k5⟩
  have ek:Hid (W2.ownsRow w.heap.size 81 2 (.slice la ps.length lc) ps.length (ps.flatMap prC)):=qk HI.out.row bq;have dj:W2.heap[bw]?=cC #[.slice la ps.length lc,ab,aa] 31:=(bq.block bw (zg a9.out).1).trans a9.out;have l0:W2.cell? (Ad bw 0)=some (.slice la ps.length lc):=zc dj
  have ea:Hid (∀O,w.heap.size<=(W2.alloc O).heap.size):=λO=>by have:=bq.size;have:=HI.out.below.size;simp;omega
  clear dq Qeg dp dd cm au bq dj Qew Qhh ap
  go_wp2_with (at_builtin;refine wpList_append_own _ rfl _ _ 27 rfl w.heap.size 81 i0 _ 2 16 Tryz.underlying27 hi e6 cy cn rfl (by decide) _ ps.length (ps.flatMap prC) rfl (ek.out.alloc _) ⟨W2.heap.size,0,none⟩ 1 _ [Pt be,Pt bz] rfl rfl (qei _ _ _ _) (by simp[Value.oneCell']) (by unfold maxLen;omega) (by omega) (ea.out _) ?_;intro fo w1 b9 dn _;obtain⟨g',ao,el⟩:=ownsRow_succ b9;subst el;obtain⟨s0,y0,q7⟩:=ef.out _ _ _ dn b9;clear b9 dn)
  go_ret;exact⟨rfl,q7.out⟩
 .obtain⟨cd,dv,bd,bn⟩:∃cd:Int,cd≠0/\Hid (Cs 39 #[St s,Ii a,Ii b,Ii c] W0 λe w'=>e=.returned (.tuple #[.pointer none,Ii cd])/\Below W0.heap.size W0 w')/\Hid (∀Y,Cs 66 #[St s,Ii a,Ii b,Ii c] Y λe w'=>e=.returned (.tuple #[.pointer none,Ii cd])/\Below Y.heap.size Y w'):=by
   cases hp:qay s with
   | error cp=>
    obtain⟨cd,pl⟩:=cp;refine⟨cd,qh3 s cd pl hp,?_,λY=>?_⟩
    .refine Calls.mono ay.out ?_;intro e w' hh;unfold qq8 at hh;rw[hp] at hh;exact hh
    .refine Calls.mono (bb.out Y) ?_;intro e w' hh;unfold qs2 at hh;rw[hp] at hh;exact⟨hh.2,hh.1⟩
   | ok rs=>
    have da:¬qbm a b c:=λha=>hG ⟨⟨rs,hp⟩,ha⟩;refine⟨6,by decide,?_,λY=>?_⟩
    .refine Calls.mono ay.out ?_;intro e w' hh;unfold qq8 at hh;rw[hp] at hh;rcases hh with⟨h5,_⟩ | ⟨_,hh⟩
     .exact absurd h5 da
     .exact hh
    .refine Calls.mono (bb.out Y) ?_;intro e w' hh;unfold qs2 at hh;rw[hp] at hh;rcases hh with⟨h0,⟨h5,_⟩ | ⟨_,hh⟩⟩
     .exact absurd h5 da
     .exact⟨hh,h0⟩
  have fm:(cd == 0)=false:=by simpa using dv
  have Qhr:(cd != 0)=true:=by simpa using dv
  have HG:Hid _:=hG;clear ay bb hG;go_enter Tryz.func33,Tryz.ntmps33;go_wp2_with fail;refine Calls.mono bd.out ?_;rintro e' W1 ⟨rfl,ah⟩;obtain⟨d2,d3,d4,d5⟩:=HC.out W1 ah;have bt:Hid (Below W0.heap.size W0 W1):=ah;clear c2 c3 c4 c5 bd ah;go_wp2_with fail;refine Calls.mono (bn.out W1) ?_;rintro e' W2 ⟨rfl,au⟩;have ew:Hid (Below W.heap.size W W2):=(a6.out.trans (bt.out.mono a6.out.size)).trans (au.mono (by have:=a6.out.size;have:=bt.out.size;omega));clear d2 d3 d4 d5 bn au;go_wp2;go_ret;exact⟨rfl,co.out _ ew.out HG.out⟩
abbrev LlT:=Nat->Nat->Wq->Vq->Vq->(Nat->Prop)->Prop
structure qwz(LL:LlT):Prop where
 keep:∀B n W W' ab aa Q ex,LL B n W ab aa Q->Chg W W' ex->(∀k,Q k->¬ex k)->LL B n W' ab aa Q
 more:∀B n W ab aa Q,LL B n W ab aa Q->LL B (n+1) W ab aa Q
 ty:∀B n W ab aa Q,LL B n W ab aa Q->∀k,Q k->∃c t,W.heap[k]?=cC c t/\t≠31/\t≠81
structure qmo(F:Nat->Eg->Er->Prop)(LL:LlT)(n:Nat)(w:Wq)(bw:Nat)(W:Wq)(vl ab aa:Vq)(ps:List Pr)(Q:Nat->Prop):Prop where
 box:W.heap[bw]?=cC #[vl,ab,aa] 31
 inv:LwI F n w Q vl ps W
 one:1<=ps.length
 few:ps.length<=n
 ll:LL w.heap.size n W ab aa Q
def qj8(F:Nat->Eg->Er->Prop)(LL:LlT)(n:Nat)(w:Wq)(bw:Nat)(W:Wq):Prop:=∃vl ab aa ps Q,qmo F LL n w bw W vl ab aa ps Q
def qs5(F:Nat->Eg->Er->Prop)(LL:LlT)(TT:Wq->Prop)(o:Stp):Prop:=∀n w bw W,qj8 F LL n w bw W->w.heap.size<=bw->n<=2000000->TT w->
  Cs 15 #[Pt bw,o.v] W λen W'=>en=.returned (.bool true)/\qj8 F LL (n+1) w bw W'
theorem qmo.below{LL:LlT}(hF:FOk F)(hL:qwz LL){n:Nat}{w:Wq}{bw:Nat}{W W':Wq}{vl ab aa:Vq}{ps:List Pr}{Q:Nat->Prop}(h:qmo F LL n w bw W vl ab aa ps Q)(hb:Below W.heap.size W W'):qmo F LL n w bw W' vl ab aa ps Q:=
 ⟨(hb.block bw (zg h.box).1).trans h.box,h.inv.same (λ_ _=>id) hb,h.one,h.few,hL.keep _ _ _ _ _ _ _ (λ_=>False) h.ll (Chg.ofBelow _ hb) (λ_ _=>id)⟩
theorem qmo.more{LL:LlT}(hF:FOk F)(hL:qwz LL){n:Nat}{w:Wq}{bw:Nat}{W:Wq}{vl ab aa:Vq}{ps:List Pr}{Q:Nat->Prop}(h:qmo F LL n w bw W vl ab aa ps Q):qmo F LL (n+1) w bw W vl ab aa ps Q:=
 ⟨h.box,h.inv.same (hF.mono n) zr,h.one,by have:=h.few;omega,hL.more _ _ _ _ _ _ h.ll⟩
theorem qmo.change{LL:LlT}(hF:FOk F)(hL:qwz LL){n:Nat}{w:Wq}{bw:Nat}{W W':Wq}{vl ab aa:Vq}{ps:List Pr}{Q:Nat->Prop}(h:qmo F LL n w bw W vl ab aa ps Q){i:Nat}{p p':Pr}(hi:ps[i]?=some p)(hp:qbf p W p' W')(b5:qq9 F n p'):qmo F LL n w bw W' vl ab aa (ps.set i p') Q:=by
 have a8:p∈ps:=List.mem_of_getElem? hi;refine⟨(hp.2.2.2.2.block bw (zg h.box).1 (λe=>XTy.not h.box (by decide) (by decide) ((h.inv.each p a8).1.uty bw e))).trans h.box,h.inv.change (λ_ _=>id) hi hp b5,by rw[List.length_set];exact h.one,by rw[List.length_set];exact h.few,hL.keep _ _ _ _ _ _ _ p.U h.ll hp.2.2.2.2 (λk hk hu=>(h.inv.low p a8 k hu).2 hk)⟩
theorem qt1{B:Nat}{v:Vq}(h:W.ownsRow B 81 2 v ps.length (ps.flatMap prC)){k:Nat}(hk:k < ps.length) :
  ∃g cap,v=Sc g ps.length cap/\W.cell? (Ad g (k*2))=some (Pt (ps[k].bx))/\W.cell? (Ad g (k*2+1))=some (Pt (ps[k].bz))/\g < W.heap.size:=by
 obtain⟨g,cap,e1,_,h2,_,hc⟩:=qb0 h (λ_=>rfl) (by omega);exact⟨g,cap,e1,hc k 0 hk _ (by decide) rfl,hc k 1 hk _ (by decide) rfl,h2⟩
theorem q2d{LL:LlT}(hF:FOk F)(hL:qwz LL){TT:Wq->Prop}(aw:∀w,TT w->Lib.Utf8Tabs 0 1 w)(o:Stp)(hk:o.kind=2)(hs:o.s.size<=1048576):qs5 F LL TT o:=by
 rintro n w bw W ⟨vl,ab,aa,ps,Q,h⟩ aj hn hT
 replace hT:=aw w hT
 obtain⟨kd,ke,s,a,b,c⟩:=o;simp only at hk hs;subst hk;obtain⟨N,hN⟩:∃N,W.heap.size=N:=⟨_,rfl⟩;obtain⟨W0,ag⟩:∃W0,W.alloc (.cells #[Ii 2,Ii ke,St s,Ii a,Ii b,Ii c] 34)=W0:=⟨_,rfl⟩;have af:Below W.heap.size W W0:=by rw[<- ag];exact (Below.refl _ W).alloc zl _
 have ae:W0.heap[N]?=cC #[Ii 2,Ii ke,St s,Ii a,Ii b,Ii c] 34:=by rw[<- ag,<- hN];exact zn W _
 have h0:=h.below hF hL af
 have bc:Hid (Cs 33 #[Pt bw,.agg #[Ii 2,Ii ke,St s,Ii a,Ii b,Ii c]] W0 λen W'=>en=.returned (.bool true)/\qj8 F LL (n+1) w bw W'):=by
  refine (qo7 hF h0.inv aj h0.box (by have:=h0.few;omega) ⟨2,ke,s,a,b,c⟩ hs (Utf8Tabs_below hT h0.inv.below)).mono ?_;rintro en W' ⟨k1,ad,ak,k2,k3,k4,k5,k6,k7⟩;refine⟨k1,ad,ab,aa,ak,Q,k2,k3.same (hF.mono n) zr,by have:=h0.one;omega,by have:=h0.few;omega,hL.keep _ _ _ _ _ _ _ _ (hL.more _ _ _ _ _ _ h0.ll) k7 (λk hk e=>?_)⟩;obtain⟨cc,t,hc,h1,h2⟩:=hL.ty _ _ _ _ _ _ h0.ll k hk;rcases e with rfl | e
  .rw[h0.box] at hc;cases hc;exact h1 rfl
  .obtain⟨c',aq⟩:=qh h0.inv.row e;rw[hc] at aq;cases aq;exact h2 rfl
 have c0:W0.cell? (Ad N 0)=some (Ii 2):=zc ae
 have c1:W0.cell? (Ad N 1)=some (Ii ke):=zc ae
 have c2:W0.cell? (Ad N 2)=some (St s):=zc ae
 have c3:W0.cell? (Ad N 3)=some (Ii a):=zc ae
 have c4:W0.cell? (Ad N 4)=some (Ii b):=zc ae
 have c5:W0.cell? (Ad N 5)=some (Ii c):=zc ae
 unfold Stp.v;clear h h0 af ae hT;go_enter Tryz.func15,Tryz.ntmps15;go_wp2_with fail;refine Calls.mono bc.out ?_;rintro e' W1 ⟨rfl,ai⟩;have ei:Hid _:=ai;clear bc ai c0 c1 c2 c3 c4 c5;go_wp2;go_ret;exact⟨rfl,ei.out⟩
def q82(F:Nat->Eg->Er->Prop)(LL:LlT)(TT:Wq->Prop)(o:Stp):Prop:=∀n w bw W vl ab aa ps Q (i:Nat) (p:Pr),qmo F LL n w bw W vl ab aa ps Q->ps[i]?=some p->w.heap.size<=bw->n<=2000000->TT w->
  Cs 36 #[Pt bw,p.v,o.v] W λen W'=>en=.returned (.bool true)/\qj8 F LL (n+1) w bw W'
def q2s(F:Nat->Eg->Er->Prop)(LL:LlT)(TT:Wq->Prop)(o:Stp):Prop:=o.kind=5\/o.kind=6->q82 F LL TT o
theorem qnn{LL:LlT}(hF:FOk F)(hL:qwz LL){TT:Wq->Prop}(aw:∀w,TT w->Lib.Utf8Tabs 0 1 w)(o:Stp)(hk:o.kind=3\/o.kind=4\/o.kind=5\/o.kind=6)(bo:q2s F LL TT o)(hs:o.s.size<=1048576)(he : -9223372036854775808<=o.e/\o.e<=9223372036854775807):qs5 F LL TT o:=by
 rintro n w bw W ⟨vl,ab,aa,ps,Q,h⟩ aj hn hT;have ez:Hid (TT w):=hT
 replace hT:=aw w hT
 obtain⟨kd,ke,s,a,b,c⟩:=o;simp only at hk hs he;have Qfc:Hid (q2s F LL TT ⟨kd,ke,s,a,b,c⟩):=bo;clear bo;obtain⟨N,hN⟩:∃N,W.heap.size=N:=⟨_,rfl⟩;obtain⟨W0,ag⟩:∃W0,W.alloc (.cells #[Ii kd,Ii ke,St s,Ii a,Ii b,Ii c] 34)=W0:=⟨_,rfl⟩;have af:Below W.heap.size W W0:=by rw[<- ag];exact (Below.refl _ W).alloc zl _
 have ae:W0.heap[N]?=cC #[Ii kd,Ii ke,St s,Ii a,Ii b,Ii c] 34:=by rw[<- ag,<- hN];exact zn W _
 have h0:=h.below hF hL af;obtain⟨la,lc,ca⟩:=qo h.inv.row;subst ca;have H0:Hid (qmo F LL n w bw W0 (.slice la ps.length lc) ab aa ps Q):=h0
 have HC:Hid (∀Y,Below W0.heap.size W0 Y->Y.cell? (Ad N 0)=some (Ii kd)/\Y.cell? (Ad N 1)=some (Ii ke)/\Y.cell? (Ad N 2)=some (St s)/\Y.cell? (Ad N 3)=some (Ii a)/\Y.cell? (Ad N 4)=some (Ii b)/\Y.cell? (Ad N 5)=some (Ii c)/\Y.cell? (Ad bw 0)=some (.slice la ps.length lc)):=λY hY=>by
  have h2:=(hY.block N (zg ae).1).trans ae;have h3:=(hY.block bw (zg h0.box).1).trans h0.box;exact⟨zc h2,zc h2,zc h2,zc h2,zc h2,zc h2,zc h3⟩
 obtain⟨c0,c1,c2,c3,c4,c5,cb⟩:=HC.out W0 zr;have cx:Hid (∀Y,Cs 34 #[Ii ke,Ii ps.length] Y λe w'=>∃r:Nat,r < ps.length/\e=.returned (Ii r)/\Y=w'):=λY=>q1f ke ps.length Y h0.one (by have:=h0.few;omega) he;have ff:=h0.one;have fv:=h0.few;have HT:Hid _:=hT;unfold Stp.v;clear h h0 af ae hT;obtain⟨g,e7,e1,_,_,fk⟩:=qt1 H0.out.inv.row (k:=0) (by omega);cases e1
 have bh:Hid (∀Y,Below W0.heap.size W0 Y->Y.cell? (Ad bw 0)=some (Sc g ps.length lc)/\Y.cell? (Ad N 1)=some (Ii ke)/\(∀(r:Nat) (hr:r < ps.length),Y.cell? (Ad g (r*2))=some (Pt (ps[r].bx)))/\∀(r:Nat) (hr:r < ps.length),Y.cell? (Ad g (r*2+1))=some (Pt (ps[r].bz))):=λY hY=>by
  obtain⟨_,d1,_,_,_,_,db⟩:=HC.out Y hY;refine⟨db,d1,λr hr=>?_,λr hr=>?_⟩
  .obtain⟨g',ao,e1,e2,e3,_⟩:=qt1 (qk H0.out.inv.row hY) hr
   cases e1;exact e2
  .obtain⟨g',ao,e1,e2,e3,_⟩:=qt1 (qk H0.out.inv.row hY) hr
   cases e1;exact e3
 have cz:=bh.out W0.drew zr.drew;have dw:Hid (∀O,_):=λO=>bh.out (W0.alloc O) (zr.alloc zl O);have c9:Hid (∀O v,_):=λO v=>bh.out ((W0.alloc O).setCell (Ad W0.heap.size 0) v) ((zr.alloc zl O).setCell (p:=⟨W0.heap.size,0,none⟩) zl v);have dt:Hid (∀O v u,_):=λO v u=>bh.out (((W0.alloc O).setCell (Ad W0.heap.size 0) v).setCell (Ad W0.heap.size 1) u) (((zr.alloc zl O).setCell (p:=⟨W0.heap.size,0,none⟩) zl v).setCell (p:=⟨W0.heap.size,1,none⟩) zl u);rcases hk with rfl | rfl | rfl | rfl
 all_goals go_enter Tryz.func15,Tryz.ntmps15
 all_goals go_wp2_with fail
 all_goals (go_region_held3 (λw'=>w'.cell? (Ad bw 0)=some (Sc g ps.length lc)/\w'.cell? (Ad N 1)=some (Ii ke)/\(∀(r:Nat) (hr:r < ps.length),w'.cell? (Ad g (r*2))=some (Pt (ps[r].bx)))/\∀(r:Nat) (hr:r < ps.length),w'.cell? (Ad g (r*2+1))=some (Pt (ps[r].bz))) (first | with_reducible exact cz | with_reducible assumption | exact dw.out _ | exact c9.out _ _ | exact dt.out _ _ _) (first | (go_at_call 34;refine Calls.mono (cx.out _) ?_;rintro e' w' ⟨r,hr,rfl,eg⟩;subst eg) | go_simp))
 all_goals (
   obtain⟨p,ap⟩:∃p,ps[r]=p:=⟨_,rfl⟩;have hi:ps[r]?=some p:=by rw[List.getElem?_eq_getElem hr,ap]
   rw[ap];obtain⟨W1,cv⟩:∃W1,(W0.alloc (.cells #[Pt p.bx,Pt p.bz] 81)).drew=W1:=⟨_,rfl⟩;obtain⟨NP,d8⟩:∃NP,W0.heap.size=NP:=⟨_,rfl⟩;have ah:Below W0.heap.size W0 W1:=by rw[<- cv];exact (zr.alloc zl _).drew
   have cg:W1.heap[NP]?=cC #[Pt p.bx,Pt p.bz] 81:=by rw[<- cv,<- d8];exact zn W0 _
   obtain⟨d0,d1,d2,d3,d4,d5,db⟩:=HC.out W1 ah;have q0:W1.cell? (Ad NP 0)=some (Pt p.bx):=zc cg
   have q1:W1.cell? (Ad NP 1)=some (Pt p.bz):=zc cg
   have h1:=H0.out.below hF hL ah;have cw:=Utf8Tabs_below HT.out h1.inv.below;have b7:=h1.inv.each p (List.mem_of_getElem? hi)
   have dh:Hid (∀k:Int,k=3\/k=4->Cs 35 #[.agg #[Pt p.bx,Pt p.bz],.agg #[Ii k,Ii ke,St s,Ii a,Ii b,Ii c]] W1 λen W'=>en=.returned (.bool true)/\qj8 F LL (n+1) w bw W'):=λk hk=>by
    refine (q1m hF b7.1 b7.2 ⟨k,ke,s,a,b,c⟩ hk hs cw).mono ?_;rintro en W' ⟨k1,p',k2,k3⟩;exact⟨k1,_,_,_,_,_,(h1.change hF hL hi k2 k3).more hF hL⟩
   have dk:Hid (∀k:Int,q2s F LL TT ⟨k,ke,s,a,b,c⟩->(k=5\/k=6)->Cs 36 #[Pt bw,.agg #[Pt p.bx,Pt p.bz],.agg #[Ii k,Ii ke,St s,Ii a,Ii b,Ii c]] W1 λen W'=>en=.returned (.bool true)/\qj8 F LL (n+1) w bw W'):=λk ha hk=>ha hk n w bw W1 _ _ _ ps Q r p h1 hi aj hn ez.out;clear ap cz dw c9 dt bh cx ah cg h1 cw b7 c0 c1 c2 c3 c4 c5 cb
   go_wp2_with (first | (go_at_call 35;refine Calls.mono (dh.out _ (by simp)) ?_;rintro e' W2 ⟨rfl,a7⟩;have df:Hid _:=a7;clear a7 dh) | (go_at_call 36;refine Calls.mono (dk.out _ Qfc.out (by simp)) ?_;rintro e' W2 ⟨rfl,a7⟩;have df:Hid _:=a7;clear a7 dk))
   go_ret
   exact⟨rfl,df.out⟩)
def qo1(W:Wq)(v:Vq)(os:List Stp):Prop:=∃a c,v=.slice a os.length c/\∀(i:Nat) (h:i < os.length),∃g ac,a=some ⟨g,ac,none⟩/\g < W.heap.size/\
 W.cell? (Ad g (ac+i*6))=some (Ii os[i].kind)/\W.cell? (Ad g (ac+i*6+1))=some (Ii os[i].e)/\W.cell? (Ad g (ac+i*6+2))=some (St os[i].s)/\W.cell? (Ad g (ac+i*6+3))=some (Ii os[i].a)/\W.cell? (Ad g (ac+i*6+4))=some (Ii os[i].b)/\W.cell? (Ad g (ac+i*6+5))=some (Ii os[i].c)
def q20(F:Nat->Eg->Er->Prop)(LL:LlT)(TT:Wq->Prop):Prop:=∀n w bw W,qj8 F LL n w bw W->n<=3000000->TT w->Cs 38 #[Pt bw] W λen W'=>en=.returned (.bool true)/\Below W.heap.size W W'
theorem q45(l:List Int):l.flatMap (λx=>[Value.int .i64 x])=l.map (Value.int .i64):=by
 induction l with
 | nil=>rfl
 | cons x l ih=>rw[List.flatMap_cons,ih];rfl
theorem q5u:∃rs,qay qy1=.ok rs:=by
 cases hp:qay qy1 with
 | ok rs=>exact⟨rs,rfl⟩
 | error cp=>
  obtain⟨c,p⟩:=cp;have h:=qzs hp;rw[Qe1.rules] at h;exact absurd h.symm (qh3 qy1 c p hp)
theorem qo1.below{v:Vq}{os:List Stp}(h:qo1 W v os)(hb:Below W.heap.size W W'):qo1 W' v os:=by
 obtain⟨a,c,h1,h2⟩:=h;refine⟨a,c,h1,λi hi=>?_⟩;obtain⟨g,ac,e,hg,c0,c1,c2,c3,c4,c5⟩:=h2 i hi;exact⟨g,ac,e,Nat.lt_of_lt_of_le hg hb.size,(hb.cell (p:=⟨g,ac+i*6,none⟩) hg).trans c0,(hb.cell (p:=⟨g,ac+i*6+1,none⟩) hg).trans c1,(hb.cell (p:=⟨g,ac+i*6+2,none⟩) hg).trans c2,(hb.cell (p:=⟨g,ac+i*6+3,none⟩) hg).trans c3,(hb.cell (p:=⟨g,ac+i*6+4,none⟩) hg).trans c4,(hb.cell (p:=⟨g,ac+i*6+5,none⟩) hg).trans c5⟩
theorem q1w{LL:LlT}(hF:FOk F)(hL:qwz LL){TT:Wq->Prop}(aw:∀w,TT w->Lib.Utf8Tabs 0 1 w)(ed:∀B W,LL B 1 W (.slice none 0 0) (.slice none 0 0) (λ_=>False))(az:q20 F LL TT)(os:List Stp)(ks:List Int)(ck ct:Vq)(W:Wq)(b3:qo1 W ck os)(ci:W.ownsRow 0 3 1 ct ks.length (ks.map (Value.int .i64)))(fg:os.length<=1048576)(fi:ks.length<=100)(cr:∀o∈os,o.kind∈ks->qs5 F LL TT o)(hT:TT W) :
  Cs 16 #[ck,ct] W λen W'=>en=.returned (.bool true)/\Below W.heap.size W W':=by
 have et:Hid (∀Y,Below W.heap.size W Y->qo1 Y ck os):=λY hY=>b3.below hY;obtain⟨sa,sc,rfl,b3⟩:=b3;obtain⟨ka,kc,fe⟩:=qd ci;subst fe;obtain⟨bw,aj⟩:∃bw,W.heap.size=bw:=⟨_,rfl⟩;obtain⟨W0,ag⟩:∃W0,W.alloc (.cells #[.slice none 0 0,.slice none 0 0,.slice none 0 0] 31)=W0:=⟨_,rfl⟩;have af:Below W.heap.size W W0:=by rw[<- ag];exact (Below.refl _ W).alloc zl _
 have Qs:W0.heap[bw]?=cC #[.slice none 0 0,.slice none 0 0,.slice none 0 0] 31:=by rw[<- ag,<- aj];exact zn W _
 have dr:LwI F 1 W (λ_=>False) (.slice none 0 0) [] W0:=⟨zo,λp hp=>(by cases hp),λp hp=>(by cases hp),λi j p q hp=>(by simp at hp),af,λk hk=>hk.elim⟩
 have bc:Hid (Cs 33 #[Pt bw,.agg #[Ii 2,Ii 0,St ⟨#[112,97,116,104,40,88,44,89,41,58,45,101,100,103,101,40,88,44,89,41,46,32,112,97,116,104,40,88,44,90,41,58,45,112,97,116,104,40,88,44,89,41,44,101,100,103,101,40,89,44,90,41,46]⟩,Ii 10,Ii 2,Ii 20]] W0 λen W'=>en=.returned (.bool true)/\∃(la:Option Addr) (lc:Nat),W'.cell? (Ad bw 0)=some (.slice la 1 lc)/\Hid (qj8 F LL 1 W bw W')):=by
  refine (qo7 hF dr (by omega) Qs (by simp) ⟨2,0,qy1,10,2,20⟩ (by decide) (Utf8Tabs_below (aw W hT) af)).mono ?_;rintro en W' ⟨k1,ad,ak,k2,k3,k4,k5,k6,k7⟩;have hl:ak.length=1:=k6 ⟨q5u,by unfold qbm;decide⟩;obtain⟨la,lc,hf⟩:=qo k3.row;subst hf;rw[hl] at k2;refine⟨k1,la,lc,zc k2,.slice la ak.length lc,_,_,ak,_,by rw[hl];exact k2,k3,by omega,by omega,ed _ _⟩
 have fb:Hid (∀Y,Below W.heap.size W Y->∀(k:Nat) (hk:k < ks.length),∃g,ka=some ⟨g,0,none⟩/\Y.cell? (Ad g k)=some (Ii ks[k])):=λY hY k hk=>by
  have ho:=qk ci hY
  have e9:Y.ownsRow 0 3 1 (.slice ka ks.length kc) ks.length (ks.flatMap (λx=>[Value.int .i64 x])):=by
   rw[q45];exact ho
  obtain⟨g,cap,e1,_,_,_,hc⟩:=qb0 e9 (λ_=>rfl) (by omega);simp only[Value.slice.injEq] at e1;exact⟨g,e1.1,by simpa using hc k 0 hk _ (by decide) rfl⟩
 have ee:Hid (∀o∈os,o.kind∈ks->qs5 F LL TT o):=cr;have HT:Hid _:=hT;have eh:Hid (W.heap.size<=bw):=by show _<=_;omega
 have dc:Hid (∀n Y,qj8 F LL n W bw Y->Below W.heap.size W Y):=λn Y hh=>by
  obtain⟨_,_,_,_,_,hv⟩:=hh;exact hv.inv.below
 clear b3 ci hT af Qs dr cr;go_enter Tryz.func16,Tryz.ntmps16;go_wp2_with fail;refine Calls.mono bc.out ?_;rintro e' W1 ⟨rfl,la,lc,l0,an⟩;clear bc;go_wp2_with fail
 go_loopw [7] (λp wr=>∃i:Nat,p=.int .i64 i/\i<=os.length/\Hid (qj8 F LL (i+1) W bw wr)) (λp _=>os.length - (intOf p).toNat)
 case atStart=>exact⟨0,rfl,zz,an⟩
 case round=>
  clear an l0;obtain⟨i,rfl,c6,an⟩:=hrel;by_cases bv:i < os.length
  .have i1:(i:Int) < (os.length:Int):=by omega
   obtain⟨fj,fq,e0,Qj⟩:=et.out wr (dc.out _ _ an.out);cases e0;obtain⟨g,ac,e1,hg,c0,c1,c2,c3,c4,c5⟩:=Qj i bv;cases e1
   have dg:Hid (∀Y,Below wr.heap.size wr Y->Below W.heap.size W Y/\qj8 F LL (i+1) W bw Y):=λY hY=>by
    obtain⟨vl,ab,aa,ps,Q,hv⟩:=an.out;exact⟨hv.inv.below.trans (hY.mono hv.inv.below.size),vl,ab,aa,ps,Q,hv.below hF hL hY⟩
   obtain⟨o,ho⟩:∃o,os[i]=o:=⟨_,rfl⟩;rw[ho] at c0 c1 c2 c3 c4 c5;have ej:Hid (o∈os):=by rw[<- ho];exact List.getElem_mem bv
   have dz:Hid (∀Y,Below wr.heap.size wr Y->Y.cell? (Ad g (ac+i*6))=some (Ii o.kind)/\Y.cell? (Ad g (ac+i*6+1))=some (Ii o.e)/\Y.cell? (Ad g (ac+i*6+2))=some (St o.s)/\Y.cell? (Ad g (ac+i*6+3))=some (Ii o.a)/\Y.cell? (Ad g (ac+i*6+4))=some (Ii o.b)/\Y.cell? (Ad g (ac+i*6+5))=some (Ii o.c)):=λY hb=>⟨(hb.cell (p:=⟨g,ac+i*6,none⟩) hg).trans c0,(hb.cell (p:=⟨g,ac+i*6+1,none⟩) hg).trans c1,(hb.cell (p:=⟨g,ac+i*6+2,none⟩) hg).trans c2,(hb.cell (p:=⟨g,ac+i*6+3,none⟩) hg).trans c3,(hb.cell (p:=⟨g,ac+i*6+4,none⟩) hg).trans c4,(hb.cell (p:=⟨g,ac+i*6+5,none⟩) hg).trans c5⟩;clear Qj ho c0 c1 c2 c3 c4 c5 an;have Qdd:Hid (Below wr.heap.size wr wr):=zr;go_wp2_with fail
   go_loopw [8,9] (λq p d9=>∃(k:Nat) (bk:Bool),q=.bool bk/\p=.int .i64 k/\k<=ks.length/\Hid (bk=(ks.take k).any (λx=>o.kind == x))/\Hid (Below wr.heap.size wr d9)) (λ_ p _=>ks.length - (intOf p).toNat)
   case atStart=>exact⟨0,false,rfl,rfl,zz,rfl,Qdd⟩
   case round=>
    clear Qdd;obtain⟨k,bk,rfl,rfl,ft,b4,am⟩:=hrel;obtain⟨c0,c1,c2,c3,c4,c5⟩:=dz.out _ am.out;by_cases cq:k < ks.length
    .have k1:(k:Int) < (ks.length:Int):=by omega
     obtain⟨gk,e1,fr⟩:=fb.out _ (dg.out _ am.out).1 k cq;cases e1
     have dx:(ks.take (k+1)).any (λx=>o.kind == x)=(bk || (o.kind == ks[k])):=by
      rw[List.take_succ_eq_append_getElem cq,List.any_append,<- b4.out];simp
     have bi:Hid _:=dx;clear dx
     cases bk with
     | true=>
      go_wp2_with fail
      try go_quiet (fail)
      go_wp2;refine⟨⟨k+1,true,rfl,by go_num,by omega,by rw[bi.out];rfl,by first | exact am | exact qu am.out⟩,by simp[intOf];omega⟩
     | false=>
      by_cases b0:o.kind=ks[k]
      .rw[show (false || (o.kind == ks[k]))=true by simp[b0]] at bi;go_wp2_with fail
       try go_quiet (fail)
       go_wp2;refine⟨⟨k+1,true,by simp[b0],by go_num,by omega,by rw[bi.out];rfl,by first | exact am | exact qu am.out⟩,by simp[intOf];omega⟩
      .rw[show (false || (o.kind == ks[k]))=false by simp[b0]] at bi;go_wp2_with fail
       try go_quiet (fail)
       go_wp2;refine⟨⟨k+1,false,by simp[b0],by go_num,by omega,by rw[bi.out];rfl,by first | exact am | exact qu am.out⟩,by simp[intOf];omega⟩
    .have k1:¬(k:Int) < (ks.length:Int):=by omega
     have Qdf:Hid (bk=ks.any (λx=>o.kind == x)):=by rw[List.take_of_length_le (by omega)] at b4;exact b4
     obtain⟨c8,bu⟩:=dg.out _ am.out
     have dl:Hid (qj8 F LL (i+1+1) W bw wr):=by
      obtain⟨vl,ab,aa,ps,Q,hv⟩:=bu;exact⟨vl,ab,aa,ps,Q,hv.more hF hL⟩
     clear b4
     cases bk with
     | false=>
      clear c8 bu;go_wp2;refine⟨⟨i+1,by go_num,by omega,dl⟩,by simp[intOf];omega⟩
     | true=>
      have a8:o.kind∈ks:=by
       have:=Qdf.out.symm;rw[List.any_eq_true] at this;obtain⟨x,hx,he⟩:=this;have:o.kind=x:=by simpa using he
       rw[this];exact hx
      have b6:Hid _:=ee.out o ej.out a8 (i+1) W bw wr bu eh.out (by omega) HT.out
      have du:Hid (∀Y,qj8 F LL (i+1+1) W bw Y->Cs 38 #[Pt bw] Y λen W'=>en=.returned (.bool true)/\Hid (qj8 F LL (i+1+1) W bw W')):=λY hY=>by
       refine (az (i+1+1) W bw Y hY (by omega) HT.out).mono ?_;rintro en W' ⟨q1,q2⟩;obtain⟨vl,ab,aa,ps,Q,hv⟩:=hY;exact⟨q1,vl,ab,aa,ps,Q,hv.below hF hL q2⟩
      unfold Stp.v at b6;clear c8 bu dl a8 Qdf;go_wp2_with fail;refine Calls.mono b6.out ?_;rintro e' W5 ⟨rfl,cu⟩;have c7:=du.out W5 cu;clear b6 du cu c0 c1 c2 c3 c4 c5;go_wp2_with fail;refine Calls.mono c7 ?_;rintro e' W6 ⟨rfl,e8⟩;clear c7;go_wp2;refine⟨⟨i+1,by go_num,by omega,e8⟩,by simp[intOf];omega⟩
  .have i1:¬(i:Int) < (os.length:Int):=by omega
   have hB:Hid (Below W.heap.size W wr):=dc.out _ _ an.out;clear an;go_wp2;go_ret;exact⟨rfl,by first | exact hB.out | (have:=hB.out;rw[aj] at this;exact this)⟩
end Go.Proofs.YtjajnhemgphefaaGreatDoor
namespace Go.Proofs.YtjajnhemgphefaaGreatDoor
open Go renaming World->Wq,Value->Vq
open Go.ChangeShapes Go.WideShapes Go.ChangeAt Go.RowKit Go.Shelf
variable {b ac:Nat} {W:Wq} {H:Type}
theorem own:ownKnob Tryz.prog.godebug=none:=by kernel_rfl
theorem q5d:laidOutB Tryz.prog=true:=by kernel_rfl
theorem q3i:Tryz.prog.cellsOf 3=1:=by kernel_rfl
theorem q3j:Tryz.prog.cellsOf 9=1:=by kernel_rfl
theorem q0p:Tryz.prog.cellsOf 34=6:=by kernel_rfl
theorem Qab{k:Nat}:(⟨b,ac,none⟩:Addr).add k=⟨b,ac+k,none⟩:=by
 unfold Addr.add;split
 .rename_i h;subst h;rfl
 .rfl
theorem q7c{v:Vq}(h:W.cell? (Ad b ac)=some v):b < W.heap.size:=by
 cases hh:W.heap[b]? with
 | none=>simp[World.cell?,hh] at h
 | some o=>exact (zg hh).1
theorem qo9:∀(l:List (DataW H)) (d:DataW H),d∈l->Rows.uptoBulk d<=Rows.uptoBulkAll l
 | [],d,h=>by cases h
 | x::l,d,h=>by
  have e:Rows.uptoBulkAll (x::l)=Rows.uptoBulk x+Rows.uptoBulkAll l:=by simp only[Rows.uptoBulkAll]
  rw[e];rcases List.mem_cons.1 h with rfl | h
  .omega
  .have:=qo9 l d h;omega
theorem qup:∀(l:List (DataW H)),(∀d∈l,1<=Rows.uptoBulk d)->l.length<=Rows.uptoBulkAll l
 | [],_=>zz
 | x::l,h=>by
  have e:Rows.uptoBulkAll (x::l)=Rows.uptoBulk x+Rows.uptoBulkAll l:=by simp only[Rows.uptoBulkAll]
  have h1:=h x zs;have h2:=qup l (λd hd=>h d (zt hd));rw[e,List.length_cons];omega
def q83(z:Int):Prop:=-9223372036854775808<=z/\z<=9223372036854775807
theorem q6c{H:Type}{enc:TypeId×Vq->H}{b8:Nat}{ax:Nat->Bool}{held:Bool}{ce:Nat}{a0:Option Addr}{len cap:Nat}{x:DataW H×List MemPlace}(h:DataW.trod enc Tryz.prog W b8 ax held ce 36 [.slice a0 len cap]=some x) :
  ∃l:List Stp,qo1 W (.slice a0 len cap) l/\(∀o∈l,q83 o.e)/\(Rows.uptoBulk x.1<=1048576->l.length<=1048576/\∀o∈l,o.s.size<=1048576):=by
 rcases Go.Deep.open_slice Tryz.underlying36 h with⟨bj,_⟩ | ⟨a,fc,ao,m,n,D,Pl,bj,_,hl,hm,ec,em,hx⟩
 .simp only[List.cons.injEq,Value.slice.injEq,and_true] at bj;obtain⟨rfl,rfl,rfl⟩:=bj;exact⟨[],⟨none,0,rfl,λi hi=>absurd hi (Nat.not_lt_zero _)⟩,λy hy=>(by cases hy),λ_=>⟨by simp,λy hy=>(by cases hy)⟩⟩
 .simp only[List.cons.injEq,Value.slice.injEq,and_true] at bj;obtain⟨rfl,rfl,rfl⟩:=bj;have fh:len<=m:=by rw[ec];split <;> omega
  have each:∀i,i < len->∃z:Stp,W.cell? (a.add (i*6))=some (Ii z.kind)/\W.cell? (a.add (i*6+1))=some (Ii z.e)/\W.cell? (a.add (i*6+2))=some (St z.s)/\W.cell? (a.add (i*6+3))=some (Ii z.a)/\W.cell? (a.add (i*6+4))=some (Ii z.b)/\W.cell? (a.add (i*6+5))=some (Ii z.c)/\q83 z.e/\z.s.size+1<=Rows.uptoBulk (D i):=by
   intro i hi;obtain⟨ey,h1,h2⟩:=hx i (by omega);rw[q0p] at h1;obtain⟨_,cf,Qj⟩:=World.cells?_some h1;obtain⟨xs,k,_,ep,_,d6,hf⟩:=DataW.trod_struct Tryz.underlying34 h2;have Qhe:xs.length=6:=d6
   match xs,Qhe,ey,cf with
   | [y0,y1,y2,y3,y4,y5],_,[v0,v1,v2,v3,v4,v5],_=>
    have g0:=hf 0 _ rfl;have g1:=hf 1 _ rfl;have g2:=hf 2 _ rfl;have g3:=hf 3 _ rfl;have g4:=hf 4 _ rfl;have g5:=hf 5 _ rfl;simp[q3i,q3j] at g0 g1 g2 g3 g4 g5;obtain⟨n0,e0,_,w0⟩:=DataW.trod_int Tryz.underlying3 g0;obtain⟨n1,e1,_,w1⟩:=DataW.trod_int Tryz.underlying3 g1;obtain⟨s2,e2,t2,_⟩:=DataW.trod_string Tryz.underlying9 g2;obtain⟨n3,e3,_,w3⟩:=DataW.trod_int Tryz.underlying3 g3;obtain⟨n4,e4,_,w4⟩:=DataW.trod_int Tryz.underlying3 g4;obtain⟨n5,e5,_,w5⟩:=DataW.trod_int Tryz.underlying3 g5;simp only[List.cons.injEq,and_true] at e0 e1 e2 e3 e4 e5;subst e0 e1 e2 e3 e4 e5;have c0:=Qj 0 (by decide);have c1:=Qj 1 (by decide);have c2:=Qj 2 (by decide);have c3:=Qj 3 (by decide);have c4:=Qj 4 (by decide);have c5:=Qj 5 (by decide);rw[Go.Deep.add_add] at c0 c1 c2 c3 c4 c5;refine⟨⟨n0,n1,s2,n3,n4,n5⟩,by simpa using c0,by simpa using c1,by simpa using c2,by simpa using c3,by simpa using c4,by simpa using c5,bounds_i64 w1,?_⟩
    have hd:D i=.agg [y0.1,y1.1,y2.1,y3.1,y4.1,y5.1]:=by
     have:=(Prod.ext_iff.1 ep).1;simpa using this
    rw[hd];have e1:Rows.uptoBulk (DataW.agg [y0.1,y1.1,y2.1,y3.1,y4.1,y5.1])=Rows.uptoBulkAll [y0.1,y1.1,y2.1,y3.1,y4.1,y5.1]+1:=by simp only[Rows.uptoBulk]
    have e2:=qo9 [y0.1,y1.1,y2.1,y3.1,y4.1,y5.1] y2.1 (by simp);have e3:Rows.uptoBulk y2.1=s2.data.toList.length+1:=by rw[t2];simp only[Rows.uptoBulk]
    have e4:s2.data.toList.length=s2.size:=by simp
    show s2.size+1<=_;omega
  haveI:Inhabited Stp:=⟨⟨0,0,⟨#[]⟩,0,0,0⟩⟩;obtain⟨f,hf⟩:=Go.Deep.choose_lt each
  have eb:0 < len->∃b ac,a=⟨b,ac,none⟩:=λh0=>by
   obtain⟨b,ac,pr⟩:=a
   cases pr with
   | none=>exact⟨b,ac,rfl⟩
   | some q=>
    exfalso;have bf:=(hf 0 h0).1;have e0:(⟨b,ac,some q⟩:Addr).add (0*6)=⟨b,ac,some q⟩:=by simp[Addr.add]
    rw[e0] at bf;simp only[World.cell?] at bf;split at bf
    .simp at bf
    .cases bf
  refine⟨(List.range len).map f,⟨some a,cap,by simp,λi hi=>?_⟩,λy hy=>?_,λhb=>?_⟩
  .have eu:i < len:=by simpa using hi
   obtain⟨c0,c1,c2,c3,c4,c5,_⟩:=hf i eu;obtain⟨b,ac,rfl⟩:=eb (by omega);rw[Qab] at c0 c1 c2 c3 c4 c5;refine⟨b,ac,rfl,q7c c0,?_,?_,?_,?_,?_,?_⟩
   .simpa using c0
   .simpa [Nat.add_assoc] using c1
   .simpa [Nat.add_assoc] using c2
   .simpa [Nat.add_assoc] using c3
   .simpa [Nat.add_assoc] using c4
   .simpa [Nat.add_assoc] using c5
  .obtain⟨i,hi,rfl⟩:=List.mem_map.1 hy;exact (hf i (List.mem_range.1 hi)).2.2.2.2.2.2.1
  .rw[em] at hb;have e1:Rows.uptoBulk (DataW.slice ((List.range len).map D) ((List.range (m - len)).map λj=>D (len+j)))=Rows.uptoBulkAll ((List.range len).map D)+Rows.uptoBulkAll ((List.range (m - len)).map λj=>D (len+j))+1:=by simp only[Rows.uptoBulk]
   have fs:Rows.uptoBulkAll ((List.range len).map D)<=1048576:=by
    have:Rows.uptoBulk (DataW.slice ((List.range len).map D) ((List.range (m - len)).map λj=>D (len+j)))<=1048576:=hb;omega
   have c6:=qup ((List.range len).map D) (λd hd=>by
    obtain⟨i,hi,rfl⟩:=List.mem_map.1 hd;have:=(hf i (List.mem_range.1 hi)).2.2.2.2.2.2.2
    omega)
   rw[List.length_map,List.length_range] at c6;refine⟨by rw[List.length_map,List.length_range];omega,λo ho=>?_⟩;obtain⟨i,hi,rfl⟩:=List.mem_map.1 ho;have h5:=(hf i (List.mem_range.1 hi)).2.2.2.2.2.2.2;have h6:=qo9 ((List.range len).map D) (D i) (List.mem_map.2 ⟨i,hi,rfl⟩);omega
def Qfb:Ren:=
 {f:=λn=>n
  t:=fun
   | 5=>5
   | 119=>355
   | 138=>357
   | 139=>358
   | n=>n
  g:=fun
   | 3=>0
   | 4=>1
   | n=>n}
theorem q8x:U8Types Tryz.prog Qfb:={
 t5:=by kernel_rfl
 t119:=by kernel_rfl
 t138:=by kernel_rfl
 t139:=by kernel_rfl}
theorem q8w:U8Extra Tryz.prog Qfb:={
 n3:=by kernel_rfl
 n4:=by kernel_rfl
 y3:=by kernel_rfl
 y4:=by kernel_rfl
 c5:=by kernel_rfl
 c119:=by kernel_rfl
 c138:=by kernel_rfl}
theorem qxk:Rows.laid_unicode_utf8_first=Lib.firstData:=by kernel_rfl
theorem qui:(Rows.laid_unicode_utf8_acceptRanges:DataW Unit)=Lib.acceptData:=by kernel_rfl
def Qez:DataW Unit->Vq
 | .lit (.int k z)=>.int k z
 | _=>.int .u8 0
def q8m:DataW Unit->Array Vq
 | .agg ds=>(ds.map Qez).toArray
 | _=>#[]
def Qe2:DataW Unit->List Vq
 | .agg es=>es.map Qez
 | _=>[]
def Qhj:DataW Unit->Array Vq
 | .agg ds=>(ds.flatMap Qe2).toArray
 | _=>#[]
def lay(h:Array Obj)(g:Nat)(c:Array Vq):Array Obj:=h.modify g fun
 | .cells _ t frozen=>.cells c t frozen
 | o=>o
def q5e(w:Wq):Wq:=
 {w with heap:=lay (lay (lay (lay (lay w.heap 0 (q8m Rows.laid_unicode_utf8_first)) 1 (Qhj Rows.laid_unicode_utf8_acceptRanges)) 2 (q8m Rows.laid_internal_strconv_uint64pow10)) 4 (q8m Rows.laid_math_bits_deBruijn32tab)) 5 (q8m Rows.laid_math_bits_deBruijn64tab)}
