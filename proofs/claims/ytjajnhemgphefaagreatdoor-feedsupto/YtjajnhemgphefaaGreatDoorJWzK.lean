/- A part -/
import Derived.Test.YtjajnhemgphefaaGreatDoorJWzF
import Derived.Test.YtjajnhemgphefaaGreatDoorCards
import Derived.Test.YtjajnhemgphefaaGreatDoorTie
import Derived.ProofKit
import Derived.OpenShut
import Derived.Carry
import Derived.Deep.DeepHandedRow
import Derived.Lib.LaidU8T
import Derived.SevenTiedAt
import Derived.Deep.Slices
set_option linter.all false
set_option maxRecDepth 100000
set_option maxHeartbeats 2000000
open List renaming length->aB,range->aY,mem_of_getElem?->aZ,mem_map->bC,mem_range->bD,mem_cons->bF,length_range->bG,not_mem_nil->bH,mem_append->bI,length_set->bJ,length_map->bL,cons->bO
open Go.World renaming cell?->aC,frozen?->aD,ownsRow->aE
open Go.Value renaming ownBlock->aF,slice->aH,string->aI,agg->aJ,bool->aK,tuple->aL,int->aM
open Go.Obj renaming cells->aN
open Go.Ending renaming returned->aO
open Go.IntKind renaming i64->aP
open Or renaming inl->aQ,inr->aR
open Option renaming some->aV,none->aW
open Go.Calls renaming mono->aX
open Nat renaming add_assoc->bB
open Go.RowKit.Below renaming refl->bE
open Go.RowKit renaming Below->bQ
open Go.Proofs.Tryz renaming underlying3->bT,prog->bU
open Go.DataW renaming trod_int->bX
open Go.Lib renaming Utf8Tabs->bZ
open Go.Proofs renaming Utf8Tabs_below->cA
namespace Go.Proofs.YtjajnhemgphefaaGreatDoor
open Go renaming World->Wq,Value->Vq
open Go.RowKit Go.Shelf
variable {W W':Wq} {F:Nat->Eg->Er->Prop} {ps:List Pr}
theorem iw.keep2{p:Pr}(h:iw W p){ex:Nat->Prop}(A:dD W W' ex)(C:∀k,p.U k->¬ex k)(E:∀k,k<W.heap.size->ex k->kM W k)(G:mV W W'):iw W' p:=by have d:∀k,p.U k->W'.heap[k]?=W.heap[k]?:=λk d=>A.block k (h.uty k d).lt (C k d);exact⟨h.x.keepN A (λk d=>C k (aQ d)) E,h.y.keep A.size (λk z=>d k (aR z)) G,λk z=>(h.ty k z).same (d k (aR z)),h.sep⟩
theorem kV.add{n:Nat}{w:Wq}{Q:Nat->Prop}{C ad ab aa:Vq}{W1 W2:Wq}{d:Nat}(h:kV F n w Q C ps W)(ak:w.heap.size<=d)(an:W.heap[d]?=cC #[C,ab,aa] 31)(M:bQ W.heap.size W W1){p:Pr}(hp:iw W1 p)(cf:js F n p)(hU:∀k,p.U k->W.heap.size<=k){O:Obj}(hg:(W1.alloc O).grownBy W2 (aF C))(ho:aE W2 w.heap.size 81 2 ad (aB ps+1) (ps.flatMap lk++lk p)):aC W2 (Ad d 0)=aV C/\aD W2 (Ad d 0)=false/\(W2.setCell (Ad d 0) ad).heap[d]?=cC #[ad,ab,aa] 31/\kV F n w Q ad (ps++[p]) (W2.setCell (Ad d 0) ad)/\dD W (W2.setCell (Ad d 0) ad) (λk=>k=d\/aF C=aV k):=by
 have ey:d<W.heap.size:=(zg an).1;have d9:aF C≠aV d:=λe=>by have⟨c,hc⟩:=qh h.row e;rw[an] at hc;cases hc
 have dw:=M.size;have f0:(W1.alloc O).heap.size=W1.heap.size+1:=by simp
 have dl:=hg.size;have h1:W1.heap[d]?=cC #[C,ab,aa] 31:=(M.block d ey).trans an;have h2:W2.heap[d]?=cC #[C,ab,aa] 31:=((hg.block d (by omega) (λe=>d9 e.symm)).trans (Below.heap_alloc W1 O d (by omega))).trans h1;have E:=h.same (λ_ _=>id) M;have ax:dD W1 (W2.setCell (Ad d 0) ad) (λk=>k=d\/aF C=aV k):=by refine dD.setCell ?_ ⟨d,0,aW⟩ ad (λ_=>aQ rfl);exact ((dD.refl W1 (λk=>k=d\/aF C=aV k)).alloc O).grown hg (λk z _=>aR z)
 have hN:∀k,k<W1.heap.size->(k=d\/aF C=aV k)->kM W1 k:=λk z he=>by
  rcases he with rfl|he
  .exact⟨_,_,h1,by decide⟩
  .have⟨c,hc⟩:=qh E.row he;exact⟨_,_,hc,by decide⟩
 have hR:mV W1 (W2.setCell (Ad d 0) ad):=λk c t G z=>by
  refine ax.block k (zg z).1 (λe=>?_);rcases e with rfl|e
  .grind
  .have⟨c',au⟩:=qh E.row e;rw[z] at au;cases au;rcases G with G|G|G<;>cases G
 have hX:∀k,io W1 k->¬(k=d\/aF C=aV k):=λk z e=>by
  rcases e with rfl|e
  .grind [io.not]
  .have⟨c',au⟩:=qh E.row e;exact io.not au (by decide) (by decide) z
 refine⟨zc h2,by simp[aD,h2],qw h2 0 ad,⟨?_,λq A=>?_,λq A k z=>?_,λi j q r A hr em k z Z=>?_,?_,λk z=>?_⟩,?_⟩
 .grind [Qk,qh]
 .rcases bI.1 A with A|A
  .exact⟨(E.each q A).1.keep2 ax (λk z=>hX k ((E.each q A).1.uty k z)) hN hR,(h.each q A).2⟩
  .simp only[bF,bH,or_false] at A;subst A;exact⟨hp.keep2 ax (λk z=>hX k (hp.uty k z)) hN hR,cf⟩
 .rcases bI.1 A with A|A
  .exact h.low q A k z
  .simp only[bF,bH,or_false] at A;subst A;have h5:=hU k z;have:=h.below.size;exact⟨by omega,λhQ=>by have:=h.q k hQ;omega⟩
 .have ct:∀(i:Nat) (q:Pr),(ps++[p])[i]?=aV q->(ps[i]?=aV q/\i<aB ps)\/(i=aB ps/\q=p):=λi q A=>by
   by_cases hi:i<aB ps;{grind};{grind}
  rcases ct i q A with⟨dq,hi⟩|⟨hi,e1⟩
  .rcases ct j r hr with⟨ce,hj⟩|⟨hj,e2⟩
   .exact h.sep i j q r dq ce em k z Z
   .have:=((h.each q (aZ dq)).1.uty k z).lt;have:=hU k (e2 ▸ Z);omega
  .rcases ct j r hr with⟨ce,hj⟩|⟨hj,e2⟩
   .have:=((h.each r (aZ ce)).1.uty k Z).lt;have:=hU k (e1 ▸ z);omega
   .grind
 .exact E.below.trans (ax.below E.below.size (λk z=>by
   rcases z with rfl|z
   .exact ak
   .exact (qd h.row z).1))
 .have:=h.q k z;have:=ax.size;omega
 .have:=(dD.ofBelow (λk=>k=d\/aF C=aV k) M).trans ax;exact this
def wl(F:Nat->Eg->Er->Prop)(n:Nat)(w:Wq)(Q:Nat->Prop)(bw:Nat)(vl ab aa:Vq)(ps:List Pr)(G:Prop)(W W':Wq):Prop:=
 ∃ad al,W'.heap[bw]?=aV (aN #[ad,ab,aa] 31)/\kV F n w Q ad al W'/\aB ps<=aB al/\aB al<=aB ps+1/\(G->aB al=aB ps+1)/\dD W W' (λk=>k=bw\/aF vl=aV k)
theorem Tryz.infoPair:(Tryz.prog.info? 81).map (λi=>(i.zero,i.size,i.bytes))=aV (aV (aJ #[.pointer aW,.pointer aW]),2,16):=by kernel_rfl
theorem AM(hF:ng F){n:Nat}{w:Wq}{Q:Nat->Prop}{vl ab aa:Vq}{ps:List Pr}{W:Wq}{z:Nat}(h:kV F n w Q vl ps W)(ak:w.heap.size<=z)(an:W.heap[z]?=cC #[vl,ab,aa] 31)(fv:aB ps<=10000000)(o:gU)(hs:o.s.size<=1048576)(hT:bZ 0 1 W):Cs 33 #[Pt z,o.v] W λen W'=>en=aO (aK true)/\wl F n w Q z vl ab aa ps ((∃rs,gv o.s=.ok rs)/\iY o.a o.b o.c) W W':=by
 unfold gU.v;have⟨kd,ke,s,a,b,c⟩:=o;simp only at hs ⊢;obtain⟨N,hN⟩:∃N,W.heap.size=N:=⟨_,rfl⟩;obtain⟨W0,ag⟩:∃W0,W.alloc (aN #[Ii kd,Ii ke,St s,Ii a,Ii b,Ii c] 34)=W0:=⟨_,rfl⟩;have af:bQ W.heap.size W W0:=by rw[<-ag];exact (bE _ W).alloc zl _
 have ae:W0.heap[N]?=cC #[Ii kd,Ii ke,St s,Ii a,Ii b,Ii c] 34:=by rw[<-ag,<-hN];exact zn W _
 have cy:=cA hT af;have HC:Hid (∀Y,bQ W0.heap.size W0 Y->aC Y (Ad N 2)=aV (St s)/\aC Y (Ad N 3)=aV (Ii a)/\aC Y (Ad N 4)=aV (Ii b)/\aC Y (Ad N 5)=aV (Ii c)):=λY hY=>by have h2:=(hY.block N (zg ae).1).trans ae;exact⟨zc h2,zc h2,zc h2,zc h2⟩
 have⟨c2,c3,c4,c5⟩:=HC.o W0 zr;have bd:=aA af;have HI:=aA h;have a8:Hid (∀Y,Cs 66 #[St s,Ii a,Ii b,Ii c] Y (mZ s a b c Y)):=λY=>F5 s a b c Y hs;have bb:Hid (Cs 39 #[St s,Ii a,Ii b,Ii c] W0 (mq s a b c W0)):=Ji s a b c W0 hs cy;have bn:=aA an;have da:Hid (∀Y,bQ W.heap.size W Y->(¬((∃rs,gv s=.ok rs)/\iY a b c))->wl F n w Q z vl ab aa ps ((∃rs,gv s=.ok rs)/\iY a b c) W Y):=λY hY hG=>⟨vl,ps,(hY.block z (zg bn.o).1).trans bn.o,HI.o.same (λ_ _=>id) hY,Nat.le_refl _,Nat.le_succ _,λg=>absurd g hG,dD.ofBelow _ hY⟩;have⟨la,lc,co⟩:=qq h.row;subst co;have⟨i0,hi,ek,dw,dl⟩:=info_parts Tryz.infoPair;clear af ae cy h hT an;by_cases hG:(∃rs,gv s=.ok rs)/\iY a b c
 .have⟨⟨rs,hp⟩,ha⟩:=hG;have c9:=uH s rs hp
  have az:Hid (Cs 39 #[St s,Ii a,Ii b,Ii c] W0 (rp rs a b c W0)):=by
   refine aX bb.o ?_;intro e w' d;unfold mq at d;rw[hp] at d;rcases d with⟨_,d⟩|⟨E,_⟩
   .exact d
   .exact absurd ha E
  have bj:Hid (∀Y,Cs 66 #[St s,Ii a,Ii b,Ii c] Y λe w'=>bQ Y.heap.size Y w'/\∃(b':Nat) (T:Nat->Prop) (st:List Gr),e=aO (aL #[Pt b',Ii 0])/\nE rs [] (dG [] (Q0 (dM rs))) st/\jF w' T b' (nM rs a b c st)/\∀k,T k->Y.heap.size<=k):=λY=>by
   refine aX (a8.o Y) ?_;intro e w' d;unfold mZ at d;rw[hp] at d;rcases d with⟨h0,⟨_,d⟩|⟨E,_⟩⟩;{exact⟨h0,d⟩};{exact absurd ha E}
  have G:=aA c9;have HA:=aA ha;clear bb a8 da c9 ha hp;go_enter Tryz.func33,Tryz.ntmps33;go_wp2_with fail;refine aX az.o ?_;rintro e' W1 ⟨be,S,M,rfl,hM,hE,hS,Z⟩;have⟨d2,d3,d4,d5⟩:=HC.o W1 Z;have bq:=aA Z;have HE:Hid (gN W1 S be (oZ rs a b c M)/\(∀k,S k->W0.heap.size<=k)/\ia rs (Qx rs) M):=⟨hE,hS,hM⟩;clear c2 c3 c4 c5 az hE hS hM Z;go_wp2_with fail;refine aX (bj.o W1) ?_;rintro e' W2 ⟨aw,bz,T,st,rfl,d8,dp,b9⟩;clear d2 d3 d4 d5 bj;obtain⟨p,av⟩:∃p:Pr,⟨be,bz,oZ rs a b c M,nM rs a b c st,[],S,λk=>T k/\gX W2 k⟩=p:=⟨_,rfl⟩;have Qiv:=bd.o.size;have Qlq:=bq.o.size;have bu:bQ W.heap.size W W2:=(bd.o.trans (bq.o.mono Qiv)).trans (aw.mono (by omega))
  have cu:iw W2 p/\js F n p/\∀k,p.U k->W.heap.size<=k:=by
   rw[<-av];refine⟨⟨HE.o.1.below aw,dp.narrow,λk C=>C.2,λk C ai=>?_⟩,⟨Dg G.o.new HA.o.1 HA.o.2.1 HA.o.2.2 HE.o.2.2,CB G.o HA.o HE.o.2.2 d8,by simp[nM],hF.new n _ rs a b c M st G.o⟩,λk C=>?_⟩;{have E:=(HE.o.1.tyW k C).lt;have:=b9 k ai.1;omega}
   .rcases C with C|C
    .have:=HE.o.2.1 k C;omega
    .have:=b9 k C.1;omega
  have cr:=aA cu;have Qh6:lk p=[Pt be,Pt bz]:=by{rw[<-av];rfl};have e8:=aA Qh6;have ep:Hid (∀(O:Obj) (w1:Wq) (ad:Vq),(W2.alloc O).grownBy w1 (aF (aH la (aB ps) lc))->aE w1 w.heap.size 81 2 ad (aB ps+1) (ps.flatMap lk++[Pt be,Pt bz])->aC w1 (Ad z 0)=aV (aH la (aB ps) lc)/\aD w1 (Ad z 0)=false/\Hid (wl F n w Q z (aH la (aB ps) lc) ab aa ps ((∃rs,gv s=.ok rs)/\iY a b c) W (w1.setCell (Ad z 0) ad))):=λO w1 ad hg ho=>by{rw[<-e8.o] at ho;have⟨k1,k2,k3,k4,k5⟩:=HI.o.add ak bn.o bu cr.o.1 cr.o.2.1 cr.o.2.2 hg ho;exact⟨k1,k2,ad,ps++[p],k3,k4,by simp,by simp,λ_=>by simp,k5⟩};have e9:Hid (aE W2 w.heap.size 81 2 (aH la (aB ps) lc) (aB ps) (ps.flatMap lk)):=qj HI.o.row bu;have di:W2.heap[z]?=cC #[aH la (aB ps) lc,ab,aa] 31:=(bu.block z (zg bn.o).1).trans bn.o;have l0:aC W2 (Ad z 0)=aV (aH la (aB ps) lc):=zc di;have el:Hid (∀O,w.heap.size<=(W2.alloc O).heap.size):=λO=>by{have:=bu.size;have:=HI.o.below.size;simp;omega};clear cu Qh6 d8 dp b9 aw bu di Qiv Qlq av
  go_wp2_with (at_builtin;refine wpList_append_own _ rfl _ _ 27 rfl w.heap.size 81 i0 _ 2 16 Tryz.underlying27 hi ek dw dl rfl (by decide) _ (aB ps) (ps.flatMap lk) rfl (e9.o.alloc _) ⟨W2.heap.size,0,aW⟩ 1 _ [Pt be,Pt bz] rfl rfl (mo _ _ _ _) (by simp[Value.oneCell']) (by unfold maxLen;omega) (by omega) (el.o _) ?_;intro fk w1 ck dd _;have⟨g',aq,fe⟩:=ownsRow_succ ck;subst fe;have⟨s0,y0,Qf⟩:=ep.o _ _ _ dd ck;clear ck dd)
  go_ret;exact⟨rfl,Qf.o⟩
 .obtain⟨A,dn,az,bj⟩:∃A:Int,A≠0/\Hid (Cs 39 #[St s,Ii a,Ii b,Ii c] W0 λe w'=>e=aO (aL #[.pointer aW,Ii A])/\bQ W0.heap.size W0 w')/\Hid (∀Y,Cs 66 #[St s,Ii a,Ii b,Ii c] Y λe w'=>e=aO (aL #[.pointer aW,Ii A])/\bQ Y.heap.size Y w'):=by
   cases hp:gv s with
   |error cp=>
    have⟨A,pl⟩:=cp;refine⟨A,tH s A pl hp,?_,λY=>?_⟩;{refine aX bb.o ?_;intro e w' d;unfold mq at d;rw[hp] at d;exact d};{refine aX (a8.o Y) ?_;intro e w' d;unfold mZ at d;rw[hp] at d;exact⟨d.2,d.1⟩}
   |ok rs=>
    have c6:¬iY a b c:=λha=>hG ⟨⟨rs,hp⟩,ha⟩;refine⟨6,by decide,?_,λY=>?_⟩
    .refine aX bb.o ?_;intro e w' d;unfold mq at d;rw[hp] at d;rcases d with⟨E,_⟩|⟨_,d⟩
     .exact absurd E c6
     .exact d
    .refine aX (a8.o Y) ?_;intro e w' d;unfold mZ at d;rw[hp] at d;rcases d with⟨h0,⟨E,_⟩|⟨_,d⟩⟩;{exact absurd E c6};{exact⟨d,h0⟩}
  have fy:(A == 0)=false:=by{simpa using dn};have Ql1:(A != 0)=true:=by{simpa using dn};have HG:=aA hG;clear bb a8 hG;go_enter Tryz.func33,Tryz.ntmps33;go_wp2_with fail;refine aX az.o ?_;rintro e' W1 ⟨rfl,Z⟩;have⟨d2,d3,d4,d5⟩:=HC.o W1 Z;have bq:=aA Z;clear c2 c3 c4 c5 az Z;go_wp2_with fail;refine aX (bj.o W1) ?_;rintro e' W2 ⟨rfl,aw⟩;have fa:Hid (bQ W.heap.size W W2):=(bd.o.trans (bq.o.mono bd.o.size)).trans (aw.mono (by have:=bd.o.size;have:=bq.o.size;omega));clear d2 d3 d4 d5 bj aw;go_wp2;go_ret;exact⟨rfl,da.o _ fa.o HG.o⟩
abbrev kX:=Nat->Nat->Wq->Vq->Vq->(Nat->Prop)->Prop
structure oG(LL:kX):Prop where
 keep:∀B n W W' ab aa Q ex,LL B n W ab aa Q->dD W W' ex->(∀k,Q k->¬ex k)->LL B n W' ab aa Q
 more:∀B n W ab aa Q,LL B n W ab aa Q->LL B (n+1) W ab aa Q
 ty:∀B n W ab aa Q,LL B n W ab aa Q->∀k,Q k->∃c t,W.heap[k]?=cC c t/\t≠31/\t≠81
structure l9(F:Nat->Eg->Er->Prop)(LL:kX)(n:Nat)(w:Wq)(bw:Nat)(W:Wq)(vl ab aa:Vq)(ps:List Pr)(Q:Nat->Prop):Prop where
 box:W.heap[bw]?=cC #[vl,ab,aa] 31
 inv:kV F n w Q vl ps W
 one:1<=aB ps
 few:aB ps<=n
 ll:LL w.heap.size n W ab aa Q
def jV(F:Nat->Eg->Er->Prop)(LL:kX)(n:Nat)(w:Wq)(bw:Nat)(W:Wq):Prop:=∃vl ab aa ps Q,l9 F LL n w bw W vl ab aa ps Q
def wH(F:Nat->Eg->Er->Prop)(LL:kX)(TT:Wq->Prop)(o:gU):Prop:=∀n w bw W,jV F LL n w bw W->w.heap.size<=bw->n<=2000000->TT w->
  Calls bU 15 #[.pointer (aV ⟨bw,0,aW⟩),o.v] W λen W'=>en=aO (aK true)/\jV F LL (n+1) w bw W'
theorem l9.below{LL:kX}(E:ng F)(C:oG LL){n:Nat}{w:Wq}{d:Nat}{W W':Wq}{A ab aa:Vq}{ps:List Pr}{Q:Nat->Prop}(h:l9 F LL n w d W A ab aa ps Q)(z:bQ W.heap.size W W'):l9 F LL n w d W' A ab aa ps Q:=
 ⟨(z.block d (zg h.box).1).trans h.box,h.inv.same (λ_ _=>id) z,h.one,h.few,C.keep _ _ _ _ _ _ _ (λ_=>False) h.ll (dD.ofBelow _ z) (λ_ _=>id)⟩
theorem l9.more{LL:kX}(A:ng F)(C:oG LL){n:Nat}{w:Wq}{d:Nat}{W:Wq}{z ab aa:Vq}{ps:List Pr}{Q:Nat->Prop}(h:l9 F LL n w d W z ab aa ps Q):l9 F LL (n+1) w d W z ab aa ps Q:=
 ⟨h.box,h.inv.same (A.mono n) zr,h.one,by have:=h.few;omega,C.more _ _ _ _ _ _ h.ll⟩
theorem l9.change{LL:kX}(hF:ng F)(M:oG LL){n:Nat}{w:Wq}{d:Nat}{W W':Wq}{E ab aa:Vq}{ps:List Pr}{Q:Nat->Prop}(h:l9 F LL n w d W E ab aa ps Q){i:Nat}{p p':Pr}(C:ps[i]?=aV p)(z:Q7 p W p' W')(G:js F n p'):l9 F LL n w d W' E ab aa (ps.set i p') Q:=by have A:p∈ps:=aZ C;refine⟨(z.2.2.2.2.block d (zg h.box).1 (λe=>io.not h.box (by decide) (by decide) ((h.inv.each p A).1.uty d e))).trans h.box,h.inv.change (λ_ _=>id) C z G,by rw[bJ];exact h.one,by rw[bJ];exact h.few,M.keep _ _ _ _ _ _ _ p.U h.ll z.2.2.2.2 (λk O Z=>(h.inv.low p A k Z).2 O)⟩
theorem uN{B:Nat}{v:Vq}(h:aE W B 81 2 v (aB ps) (ps.flatMap lk)){k:Nat}(z:k<aB ps):∃g d,v=Sc g (aB ps) d/\aC W (Ad g (k*2))=aV (Pt (ps[k].bx))/\aC W (Ad g (k*2+1))=aV (Pt (ps[k].bz))/\g<W.heap.size:=by have⟨g,d,e1,_,h2,_,hc⟩:=iI h (λ_=>rfl) (by omega);exact⟨g,d,e1,hc k 0 z _ (by decide) rfl,hc k 1 z _ (by decide) rfl,h2⟩
theorem GB{LL:kX}(C:ng F)(d:oG LL){TT:Wq->Prop}(bf:∀w,TT w->bZ 0 1 w)(o:gU)(A:o.kind=2)(hs:o.s.size<=1048576):wH F LL TT o:=by
 rintro n w Z W ⟨vl,ab,aa,ps,Q,h⟩ ak hn z
 replace z:=bf w z
 have⟨kd,ke,s,a,b,c⟩:=o;simp only at A hs;subst A;obtain⟨N,hN⟩:∃N,W.heap.size=N:=⟨_,rfl⟩;obtain⟨W0,G⟩:∃W0,W.alloc (aN #[Ii 2,Ii ke,St s,Ii a,Ii b,Ii c] 34)=W0:=⟨_,rfl⟩;have E:bQ W.heap.size W W0:=by rw[<-G];exact (bE _ W).alloc zl _
 have ae:W0.heap[N]?=cC #[Ii 2,Ii ke,St s,Ii a,Ii b,Ii c] 34:=by rw[<-G,<-hN];exact zn W _
 have h0:=h.below C d E
 have O:Hid (Cs 33 #[Pt Z,aJ #[Ii 2,Ii ke,St s,Ii a,Ii b,Ii c]] W0 λen W'=>en=aO (aK true)/\jV F LL (n+1) w Z W'):=by
  refine (AM C h0.inv ak h0.box (by have:=h0.few;omega) ⟨2,ke,s,a,b,c⟩ hs (cA z h0.inv.below)).mono ?_;rintro en W' ⟨k1,ad,al,k2,k3,k4,k5,k6,k7⟩;refine⟨k1,ad,ab,aa,al,Q,k2,k3.same (C.mono n) zr,by have:=h0.one;omega,by have:=h0.few;omega,d.keep _ _ _ _ _ _ _ _ (d.more _ _ _ _ _ _ h0.ll) k7 (λk A e=>?_)⟩;have⟨cc,t,hc,h1,h2⟩:=d.ty _ _ _ _ _ _ h0.ll k A;rcases e with rfl|e
  .rw[h0.box] at hc;cases hc;exact h1 rfl
  .have⟨c',au⟩:=qh h0.inv.row e;rw[hc] at au;cases au;exact h2 rfl
 have c0:aC W0 (Ad N 0)=aV (Ii 2):=zc ae;have c1:aC W0 (Ad N 1)=aV (Ii ke):=zc ae;have c2:aC W0 (Ad N 2)=aV (St s):=zc ae;have c3:aC W0 (Ad N 3)=aV (Ii a):=zc ae;have c4:aC W0 (Ad N 4)=aV (Ii b):=zc ae;have c5:aC W0 (Ad N 5)=aV (Ii c):=zc ae;unfold gU.v;clear h h0 E ae z;go_enter Tryz.func15,Tryz.ntmps15;go_wp2_with fail;refine aX O.o ?_;rintro e' W1 ⟨rfl,M⟩;have ev:=aA M;clear O M c0 c1 c2 c3 c4 c5;go_wp2;go_ret;exact⟨rfl,ev.o⟩
def Jy(F:Nat->Eg->Er->Prop)(LL:kX)(TT:Wq->Prop)(o:gU):Prop:=∀n w bw W vl ab aa ps Q (i:Nat) (p:Pr),l9 F LL n w bw W vl ab aa ps Q->ps[i]?=aV p->w.heap.size<=bw->n<=2000000->TT w->
  Calls bU 36 #[.pointer (aV ⟨bw,0,aW⟩),p.v,o.v] W λen W'=>en=aO (aK true)/\jV F LL (n+1) w bw W'
def x8(F:Nat->Eg->Er->Prop)(o:gU):Prop:=o.kind=7\/o.kind=8->∀n p W,iw W p->js F n p->n<=2000000->bZ 0 1 W->
  Calls bU 37 #[p.v,o.v] W λen W'=>en=aO (aK true)/\∃p',Q7 p W p' W'/\js F (n+1) p'
def A7(F:Nat->Eg->Er->Prop)(LL:kX)(TT:Wq->Prop)(o:gU):Prop:=o.kind=5\/o.kind=6->Jy F LL TT o
theorem sX{LL:kX}(E:ng F)(Z:oG LL){TT:Wq->Prop}(bf:∀w,TT w->bZ 0 1 w)(o:gU)(C:o.kind=3\/o.kind=4\/o.kind=5\/o.kind=6\/o.kind=7\/o.kind=8)(a9:A7 F LL TT o)(cz:x8 F o)(hs:o.s.size<=1048576)(he : -9223372036854775808<=o.e/\o.e<=9223372036854775807):wH F LL TT o:=by
 rintro n w d W ⟨vl,ab,aa,ps,Q,h⟩ ak hn hT;have ej:=aA hT
 replace hT:=bf w hT
 have⟨kd,ke,s,a,b,c⟩:=o;simp only at C hs he;have Qjb:=aA a9;have e7:=aA cz;clear a9 cz;obtain⟨N,hN⟩:∃N,W.heap.size=N:=⟨_,rfl⟩;obtain⟨W0,ag⟩:∃W0,W.alloc (aN #[Ii kd,Ii ke,St s,Ii a,Ii b,Ii c] 34)=W0:=⟨_,rfl⟩;have af:bQ W.heap.size W W0:=by rw[<-ag];exact (bE _ W).alloc zl _
 have ae:W0.heap[N]?=cC #[Ii kd,Ii ke,St s,Ii a,Ii b,Ii c] 34:=by rw[<-ag,<-hN];exact zn W _
 have h0:=h.below E Z af;have⟨la,lc,co⟩:=qq h.inv.row;subst co;have H0:=aA h0;have HC:Hid (∀Y,bQ W0.heap.size W0 Y->aC Y (Ad N 0)=aV (Ii kd)/\aC Y (Ad N 1)=aV (Ii ke)/\aC Y (Ad N 2)=aV (St s)/\aC Y (Ad N 3)=aV (Ii a)/\aC Y (Ad N 4)=aV (Ii b)/\aC Y (Ad N 5)=aV (Ii c)/\aC Y (Ad d 0)=aV (aH la (aB ps) lc)):=λY hY=>by have M:=(hY.block N (zg ae).1).trans ae;have h3:=(hY.block d (zg h0.box).1).trans h0.box;exact⟨zc M,zc M,zc M,zc M,zc M,zc M,zc h3⟩
 have⟨c0,c1,c2,c3,c4,c5,cb⟩:=HC.o W0 zr;have dz:Hid (∀Y,Cs 34 #[Ii ke,Ii (aB ps)] Y λe w'=>∃r:Nat,r<aB ps/\e=aO (Ii r)/\Y=w'):=λY=>GI ke (aB ps) Y h0.one (by have:=h0.few;omega) he;have fs:=h0.one;have fl:=h0.few;have HT:=aA hT;unfold gU.v;clear h h0 af ae hT;have⟨g,et,e1,_,_,fp⟩:=uN H0.o.inv.row (k:=0) (by omega);cases e1
 have a6:Hid (∀Y,bQ W0.heap.size W0 Y->aC Y (Ad d 0)=aV (Sc g (aB ps) lc)/\aC Y (Ad N 1)=aV (Ii ke)/\(∀(r:Nat) (z:r<aB ps),aC Y (Ad g (r*2))=aV (Pt (ps[r].bx)))/\∀(r:Nat) (z:r<aB ps),aC Y (Ad g (r*2+1))=aV (Pt (ps[r].bz))):=λY hY=>by
  have⟨_,d1,_,_,_,_,db⟩:=HC.o Y hY;refine⟨db,d1,λr z=>?_,λr z=>?_⟩
  .have⟨g',aq,e1,e2,e3,_⟩:=uN (qj H0.o.inv.row hY) z
   cases e1;exact e2
  .have⟨g',aq,e1,e2,e3,_⟩:=uN (qj H0.o.inv.row hY) z
   cases e1;exact e3
 have dc:=a6.o W0.drew zr.drew;have dx:Hid (∀O,_):=λO=>a6.o (W0.alloc O) (zr.alloc zl O);have dm:Hid (∀O v,_):=λO v=>a6.o ((W0.alloc O).setCell (Ad W0.heap.size 0) v) ((zr.alloc zl O).setCell (p:=⟨W0.heap.size,0,aW⟩) zl v);have cw:Hid (∀O v u,_):=λO v u=>a6.o (((W0.alloc O).setCell (Ad W0.heap.size 0) v).setCell (Ad W0.heap.size 1) u) (((zr.alloc zl O).setCell (p:=⟨W0.heap.size,0,aW⟩) zl v).setCell (p:=⟨W0.heap.size,1,aW⟩) zl u);rcases C with rfl|rfl|rfl|rfl|rfl|rfl
 all_goals go_enter Tryz.func15,Tryz.ntmps15
 all_goals go_wp2_with fail
 all_goals (go_region_held3 (λw'=>aC w' (Ad d 0)=aV (Sc g (aB ps) lc)/\aC w' (Ad N 1)=aV (Ii ke)/\(∀(r:Nat) (z:r<aB ps),aC w' (Ad g (r*2))=aV (Pt (ps[r].bx)))/\∀(r:Nat) (z:r<aB ps),aC w' (Ad g (r*2+1))=aV (Pt (ps[r].bz))) (first|with_reducible exact dc|with_reducible assumption|exact dx.o _|exact dm.o _ _|exact cw.o _ _ _) (first|(go_at_call 34;refine aX (dz.o _) ?_;rintro e' w' ⟨r,z,rfl,eg⟩;subst eg)|go_simp))
 all_goals (
   obtain⟨p,av⟩:∃p,ps[r]=p:=⟨_,rfl⟩;have hi:ps[r]?=aV p:=by{rw[List.getElem?_eq_getElem z,av]};rw[av];obtain⟨W1,dj⟩:∃W1,(W0.alloc (aN #[Pt p.bx,Pt p.bz] 81)).drew=W1:=⟨_,rfl⟩;obtain⟨NP,fh⟩:∃NP,W0.heap.size=NP:=⟨_,rfl⟩;have ah:bQ W0.heap.size W0 W1:=by{rw[<-dj];exact (zr.alloc zl _).drew};have cn:W1.heap[NP]?=cC #[Pt p.bx,Pt p.bz] 81:=by{rw[<-dj,<-fh];exact zn W0 _};have⟨d0,d1,d2,d3,d4,d5,db⟩:=HC.o W1 ah;have q0:aC W1 (Ad NP 0)=aV (Pt p.bx):=zc cn;have q1:aC W1 (Ad NP 1)=aV (Pt p.bz):=zc cn;have G:=H0.o.below E Z ah;have cq:=cA HT.o G.inv.below;have b0:=G.inv.each p (aZ hi);have dt:Hid (∀k:Int,k=3\/k=4->Cs 35 #[aJ #[Pt p.bx,Pt p.bz],aJ #[Ii k,Ii ke,St s,Ii a,Ii b,Ii c]] W1 λen W'=>en=aO (aK true)/\jV F LL (n+1) w d W'):=λk C=>by{refine (Fb E b0.1 b0.2 ⟨k,ke,s,a,b,c⟩ C hs cq).mono ?_;rintro en W' ⟨k1,p',k2,k3⟩;exact⟨k1,_,_,_,_,_,(G.change E Z hi k2 k3).more E Z⟩};have dy:Hid (∀k:Int,A7 F LL TT ⟨k,ke,s,a,b,c⟩->(k=5\/k=6)->Cs 36 #[Pt d,aJ #[Pt p.bx,Pt p.bz],aJ #[Ii k,Ii ke,St s,Ii a,Ii b,Ii c]] W1 λen W'=>en=aO (aK true)/\jV F LL (n+1) w d W'):=λk ha C=>ha C n w d W1 _ _ _ ps Q r p G hi ak hn ej.o;have du:Hid (∀k:Int,x8 F ⟨k,ke,s,a,b,c⟩->(k=7\/k=8)->Cs 37 #[aJ #[Pt p.bx,Pt p.bz],aJ #[Ii k,Ii ke,St s,Ii a,Ii b,Ii c]] W1 λen W'=>en=aO (aK true)/\jV F LL (n+1) w d W'):=λk hf C=>by{refine (hf C n p W1 b0.1 b0.2 hn cq).mono ?_;rintro en W' ⟨k1,p',k2,k3⟩;exact⟨k1,_,_,_,_,_,(G.more E Z).change E Z hi k2 k3⟩};clear av dc dx dm cw a6 dz ah cn G cq b0 c0 c1 c2 c3 c4 c5 cb
   go_wp2_with (first|(go_at_call 35;refine aX (dt.o _ (by simp)) ?_;rintro e' W2 ⟨rfl,A⟩;have cj:=aA A;clear A dt)|(go_at_call 36;refine aX (dy.o _ Qjb.o (by simp)) ?_;rintro e' W2 ⟨rfl,A⟩;have cj:=aA A;clear A dy)|(go_at_call 37;refine aX (du.o _ e7.o (by simp)) ?_;rintro e' W2 ⟨rfl,A⟩;have cj:=aA A;clear A du))
   go_ret
   exact⟨rfl,cj.o⟩)
def pj(W:Wq)(v:Vq)(os:List gU):Prop:=∃a c,v=aH a (aB os) c/\∀(i:Nat) (h:i<aB os),∃g ac,a=aV ⟨g,ac,aW⟩/\g<W.heap.size/\
 aC W ⟨g,ac+i*6,aW⟩=aV (aM aP os[i].kind)/\aC W ⟨g,ac+i*6+1,aW⟩=aV (aM aP os[i].e)/\aC W ⟨g,ac+i*6+2,aW⟩=aV (aI os[i].s)/\aC W ⟨g,ac+i*6+3,aW⟩=aV (aM aP os[i].a)/\aC W ⟨g,ac+i*6+4,aW⟩=aV (aM aP os[i].b)/\aC W ⟨g,ac+i*6+5,aW⟩=aV (aM aP os[i].c)
def zq(F:Nat->Eg->Er->Prop)(LL:kX)(TT:Wq->Prop):Prop:=∀n w bw W,jV F LL n w bw W->n<=3000000->TT w->Calls bU 38 #[.pointer (aV ⟨bw,0,aW⟩)] W λen W'=>en=aO (aK true)/\bQ W.heap.size W W'
theorem C2(l:List Int):l.flatMap (λx=>[aM aP x])=l.map (aM aP):=by
 induction l with
 |nil=>rfl
 |cons x l ih=>rw[List.flatMap_cons,ih];rfl
theorem Cv:∃rs,gv o9=.ok rs:=by
 cases hp:gv o9 with
 |ok rs=>exact⟨rs,rfl⟩
 |error cp=>have⟨c,p⟩:=cp;have h:=BP hp;rw[CJ.rules] at h;exact absurd h.symm (tH o9 c p hp)
theorem pj.below{v:Vq}{z:List gU}(h:pj W v z)(d:bQ W.heap.size W W'):pj W' v z:=by have⟨a,c,h1,h2⟩:=h;refine⟨a,c,h1,λi A=>?_⟩;have⟨g,ac,e,hg,c0,c1,c2,c3,c4,c5⟩:=h2 i A;exact⟨g,ac,e,Nat.lt_of_lt_of_le hg d.size,(d.cell (p:=⟨g,ac+i*6,aW⟩) hg).trans c0,(d.cell (p:=⟨g,ac+i*6+1,aW⟩) hg).trans c1,(d.cell (p:=⟨g,ac+i*6+2,aW⟩) hg).trans c2,(d.cell (p:=⟨g,ac+i*6+3,aW⟩) hg).trans c3,(d.cell (p:=⟨g,ac+i*6+4,aW⟩) hg).trans c4,(d.cell (p:=⟨g,ac+i*6+5,aW⟩) hg).trans c5⟩
theorem ES{LL:kX}(hF:ng F)(hL:oG LL){TT:Wq->Prop}(bf:∀w,TT w->bZ 0 1 w)(ef:∀B W,LL B 1 W (aH aW 0 0) (aH aW 0 0) (λ_=>False))(bv:zq F LL TT)(z:List gU)(ks:List Int)(ch dk:Vq)(W:Wq)(b4:pj W ch z)(b8:aE W 0 3 1 dk (aB ks) (ks.map (aM aP)))(fq:aB z<=1048576)(fz:aB ks<=100)(d7:∀o∈z,o.kind∈ks->wH F LL TT o)(hT:TT W):Cs 16 #[ch,dk] W λen W'=>en=aO (aK true)/\bQ W.heap.size W W':=by
 have ff:Hid (∀Y,bQ W.heap.size W Y->pj Y ch z):=λY C=>b4.below C;obtain⟨sa,sc,rfl,b4⟩:=b4;have⟨ka,kc,e6⟩:=qe b8;subst e6;obtain⟨d,ak⟩:∃d,W.heap.size=d:=⟨_,rfl⟩;obtain⟨W0,ag⟩:∃W0,W.alloc (aN #[aH aW 0 0,aH aW 0 0,aH aW 0 0] 31)=W0:=⟨_,rfl⟩;have af:bQ W.heap.size W W0:=by rw[<-ag];exact (bE _ W).alloc zl _
 have an:W0.heap[d]?=cC #[aH aW 0 0,aH aW 0 0,aH aW 0 0] 31:=by rw[<-ag,<-ak];exact zn W _
 have de:kV F 1 W (λ_=>False) (aH aW 0 0) [] W0:=⟨zo,λp hp=>(by cases hp),λp hp=>(by cases hp),λi j p q hp=>(by simp at hp),af,λk hk=>hk.elim⟩;have bi:Hid (Cs 33 #[Pt d,aJ #[Ii 2,Ii 0,St ⟨#[112,97,116,104,40,88,44,89,41,58,45,101,100,103,101,40,88,44,89,41,46,32,112,97,116,104,40,88,44,90,41,58,45,112,97,116,104,40,88,44,89,41,44,101,100,103,101,40,89,44,90,41,46]⟩,Ii 10,Ii 2,Ii 20]] W0 λen W'=>en=aO (aK true)/\∃(la:Option Addr) (lc:Nat),aC W' (Ad d 0)=aV (aH la 1 lc)/\Hid (jV F LL 1 W d W')):=by refine (AM hF de (by omega) an (by simp) ⟨2,0,o9,10,2,20⟩ (by decide) (cA (bf W hT) af)).mono ?_;rintro en W' ⟨k1,ad,al,k2,k3,k4,k5,k6,k7⟩;have hl:aB al=1:=k6 ⟨Cv,by unfold iY;decide⟩;have⟨la,lc,hf⟩:=qq k3.row;subst hf;rw[hl] at k2;refine⟨k1,la,lc,zc k2,aH la (aB al) lc,_,_,al,_,by rw[hl];exact k2,k3,by omega,by omega,ef _ _⟩
 have eo:Hid (∀Y,bQ W.heap.size W Y->∀(k:Nat) (hk:k<aB ks),∃g,ka=aV ⟨g,0,aW⟩/\aC Y (Ad g k)=aV (Ii ks[k])):=λY C k hk=>by
  have ho:=qj b8 C;have eu:aE Y 0 3 1 (aH ka (aB ks) kc) (aB ks) (ks.flatMap (λx=>[aM aP x])):=by rw[C2];exact ho
  have⟨g,cap,e1,_,_,_,hc⟩:=iI eu (λ_=>rfl) (by omega);simp only[aH.injEq] at e1;exact⟨g,e1.1,by simpa using hc k 0 hk _ (by decide) rfl⟩
 have fj:Hid (∀o∈z,o.kind∈ks->wH F LL TT o):=d7;have HT:Hid _:=hT;have fg:Hid (W.heap.size<=d):=by show _<=_;omega
 have df:Hid (∀n Y,jV F LL n W d Y->bQ W.heap.size W Y):=λn Y hh=>by have⟨_,_,_,_,_,hv⟩:=hh;exact hv.inv.below
 clear b4 b8 hT af an de d7;go_enter Tryz.func16,Tryz.ntmps16;go_wp2_with fail;refine aX bi.o ?_;rintro e' W1 ⟨rfl,la,lc,l0,E⟩;clear bi;go_wp2_with fail
 go_loopw [7] (λp wr=>∃i:Nat,p=aM aP i/\i<=aB z/\Hid (jV F LL (i+1) W d wr)) (λp _=>aB z-(intOf p).toNat)
 case atStart=>exact⟨0,rfl,zz,E⟩
 case round=>
  clear E l0;obtain⟨i,rfl,dh,E⟩:=hrel;by_cases c7:i<aB z
  .have i1:(i:Int)<(aB z:Int):=by omega
   have⟨fx,fm,e0,Ql⟩:=ff.o wr (df.o _ _ E.o);cases e0;have⟨g,ac,e1,hg,c0,c1,c2,c3,c4,c5⟩:=Ql i c7;cases e1;have c8:Hid (∀Y,bQ wr.heap.size wr Y->bQ W.heap.size W Y/\jV F LL (i+1) W d Y):=λY C=>by have⟨vl,ab,aa,ps,Q,hv⟩:=E.o;exact⟨hv.inv.below.trans (C.mono hv.inv.below.size),vl,ab,aa,ps,Q,hv.below hF hL C⟩
   obtain⟨o,ho⟩:∃o,z[i]=o:=⟨_,rfl⟩;rw[ho] at c0 c1 c2 c3 c4 c5;have ez:Hid (o∈z):=by rw[<-ho];exact List.getElem_mem c7
   have ew:Hid (∀Y,bQ wr.heap.size wr Y->aC Y (Ad g (ac+i*6))=aV (Ii o.kind)/\aC Y (Ad g (ac+i*6+1))=aV (Ii o.e)/\aC Y (Ad g (ac+i*6+2))=aV (St o.s)/\aC Y (Ad g (ac+i*6+3))=aV (Ii o.a)/\aC Y (Ad g (ac+i*6+4))=aV (Ii o.b)/\aC Y (Ad g (ac+i*6+5))=aV (Ii o.c)):=λY M=>⟨(M.cell (p:=⟨g,ac+i*6,aW⟩) hg).trans c0,(M.cell (p:=⟨g,ac+i*6+1,aW⟩) hg).trans c1,(M.cell (p:=⟨g,ac+i*6+2,aW⟩) hg).trans c2,(M.cell (p:=⟨g,ac+i*6+3,aW⟩) hg).trans c3,(M.cell (p:=⟨g,ac+i*6+4,aW⟩) hg).trans c4,(M.cell (p:=⟨g,ac+i*6+5,aW⟩) hg).trans c5⟩;clear Ql ho c0 c1 c2 c3 c4 c5 E;have Z:Hid (bQ wr.heap.size wr wr):=zr;go_wp2_with fail
   go_loopw [8,9] (λq p fb=>∃(k:Nat) (G:Bool),q=aK G/\p=aM aP k/\k<=aB ks/\Hid (G=(ks.take k).any (λx=>o.kind == x))/\Hid (bQ wr.heap.size wr fb)) (λ_ p _=>aB ks-(intOf p).toNat)
   case atStart=>exact⟨0,false,rfl,rfl,zz,rfl,Z⟩
   case round=>
    clear Z;obtain⟨k,G,rfl,rfl,fw,b6,A⟩:=hrel;have⟨c0,c1,c2,c3,c4,c5⟩:=ew.o _ A.o;by_cases cv:k<aB ks
    .have k1:(k:Int)<(aB ks:Int):=by omega
     have⟨gk,e1,fo⟩:=eo.o _ (c8.o _ A.o).1 k cv;cases e1;have dr:(ks.take (k+1)).any (λx=>o.kind == x)=(G || (o.kind == ks[k])):=by rw[List.take_succ_eq_append_getElem cv,List.any_append,<-b6.o];simp
     have ay:Hid _:=dr;clear dr
     cases G with
     |true=>
      go_wp2_with fail
      try go_quiet (fail)
      go_wp2;refine⟨⟨k+1,true,rfl,by go_num,by omega,by rw[ay.o];rfl,by first|exact A|exact qy A.o⟩,by simp[intOf];omega⟩
     |false=>
      by_cases b5:o.kind=ks[k]
      .rw[show (false || (o.kind == ks[k]))=true by simp[b5]] at ay;go_wp2_with fail
       try go_quiet (fail)
       go_wp2;refine⟨⟨k+1,true,by simp[b5],by go_num,by omega,by rw[ay.o];rfl,by first|exact A|exact qy A.o⟩,by simp[intOf];omega⟩
      .rw[show (false || (o.kind == ks[k]))=false by simp[b5]] at ay;go_wp2_with fail
       try go_quiet (fail)
       go_wp2;refine⟨⟨k+1,false,by simp[b5],by go_num,by omega,by rw[ay.o];rfl,by first|exact A|exact qy A.o⟩,by simp[intOf];omega⟩
    .have k1:¬(k:Int)<(aB ks:Int):=by omega
     have Qgz:Hid (G=ks.any (λx=>o.kind == x)):=by rw[List.take_of_length_le (by omega)] at b6;exact b6
     have⟨d6,b7⟩:=c8.o _ A.o;have O:Hid (jV F LL (i+1+1) W d wr):=by have⟨vl,ab,aa,ps,Q,hv⟩:=b7;exact⟨vl,ab,aa,ps,Q,hv.more hF hL⟩
     clear b6
     cases G with
     |false=>clear d6 b7;go_wp2;refine⟨⟨i+1,by go_num,by omega,O⟩,by simp[intOf];omega⟩
     |true=>
      have a7:o.kind∈ks:=by
       have:=Qgz.o.symm;rw[List.any_eq_true] at this;have⟨x,hx,he⟩:=this;have:o.kind=x:=by simpa using he
       rw[this];exact hx
      have cl:Hid _:=fj.o o ez.o a7 (i+1) W d wr b7 fg.o (by omega) HT.o;have cx:Hid (∀Y,jV F LL (i+1+1) W d Y->Cs 38 #[Pt d] Y λen W'=>en=aO (aK true)/\Hid (jV F LL (i+1+1) W d W')):=λY C=>by refine (bv (i+1+1) W d Y C (by omega) HT.o).mono ?_;rintro en W' ⟨q1,q2⟩;have⟨vl,ab,aa,ps,Q,hv⟩:=C;exact⟨q1,vl,ab,aa,ps,Q,hv.below hF hL q2⟩
      unfold gU.v at cl;clear d6 b7 O a7 Qgz;go_wp2_with fail;refine aX cl.o ?_;rintro e' W5 ⟨rfl,dg⟩;have dv:=cx.o W5 dg;clear cl cx dg c0 c1 c2 c3 c4 c5;go_wp2_with fail;refine aX dv ?_;rintro e' W6 ⟨rfl,eb⟩;clear dv;go_wp2;refine⟨⟨i+1,by go_num,by omega,eb⟩,by simp[intOf];omega⟩
  .have i1:¬(i:Int)<(aB z:Int):=by omega
   have hB:Hid (bQ W.heap.size W wr):=df.o _ _ E.o;clear E;go_wp2;go_ret;exact⟨rfl,by first|exact hB.o|(have:=hB.o;rw[ak] at this;exact this)⟩
end Go.Proofs.YtjajnhemgphefaaGreatDoor
namespace Go.Proofs.YtjajnhemgphefaaGreatDoor
open Go renaming World->Wq,Value->Vq
open Go.ChangeShapes Go.WideShapes Go.ChangeAt Go.RowKit Go.Shelf
variable {b ac:Nat} {W:Wq} {H:Type}
theorem own:ownKnob Tryz.prog.godebug=none:=by kernel_rfl
theorem EZ:laidOutB bU=true:=by kernel_rfl
theorem Ct:Tryz.prog.cellsOf 3=1:=by kernel_rfl
theorem II:Tryz.prog.cellsOf 9=1:=by kernel_rfl
theorem D1:Tryz.prog.cellsOf 34=6:=by kernel_rfl
theorem C9{k:Nat}:(⟨b,ac,aW⟩:Addr).add k=⟨b,ac+k,aW⟩:=by
 unfold Addr.add;split
 .rename_i h;subst h;rfl
 .rfl
theorem IX{v:Vq}(h:aC W (Ad b ac)=aV v):b<W.heap.size:=by
 cases hh:W.heap[b]? with
 |none=>simp[aC,hh] at h
 |some o=>exact (zg hh).1
theorem w9:∀(l:List (DataW H)) (d:DataW H),d∈l->Rows.uptoBulk d<=Rows.uptoBulkAll l
 |[],d,h=>by cases h
 |x::l,d,h=>by
  have e:Rows.uptoBulkAll (x::l)=Rows.uptoBulk x+Rows.uptoBulkAll l:=by simp only[Rows.uptoBulkAll]
  rw[e];rcases bF.1 h with rfl|h
  .omega
  .have:=w9 l d h;omega
theorem yL:∀(l:List (DataW H)),(∀d∈l,1<=Rows.uptoBulk d)->aB l<=Rows.uptoBulkAll l
 |[],_=>zz
 |x::l,h=>by
  have e:Rows.uptoBulkAll (x::l)=Rows.uptoBulk x+Rows.uptoBulkAll l:=by{simp only[Rows.uptoBulkAll]};have z:=h x zs;have A:=yL l (λd hd=>h d (zt hd));rw[e,List.length_cons];omega
def BD(z:Int):Prop:=-9223372036854775808<=z/\z<=9223372036854775807
theorem Jo{H:Type}{enc:TypeId×Vq->H}{ci:Nat}{bh:Nat->Bool}{held:Bool}{cg:Nat}{a0:Option Addr}{len cap:Nat}{x:DataW H×List MemPlace}(h:DataW.trod enc Tryz.prog W ci bh held cg 36 [.slice a0 len cap]=some x):∃l:List gU,pj W (.slice a0 len cap) l/\(∀o∈l,BD o.e)/\(Rows.uptoBulk x.1<=1048576->l.length<=1048576/\∀o∈l,o.s.size<=1048576):=by
 rcases Go.Deep.open_slice Tryz.underlying36 h with⟨bc,_⟩|⟨a,ed,aq,m,n,D,Pl,bc,_,hl,hm,fc,ei,hx⟩
 .simp only[bO.injEq,Value.slice.injEq,and_true] at bc;obtain⟨rfl,rfl,rfl⟩:=bc;exact⟨[],⟨none,0,rfl,λi hi=>absurd hi (Nat.not_lt_zero _)⟩,λy hy=>(by cases hy),λ_=>⟨by simp,λy hy=>(by cases hy)⟩⟩
 .simp only[bO.injEq,Value.slice.injEq,and_true] at bc;obtain⟨rfl,rfl,rfl⟩:=bc;have fr:len<=m:=by rw[fc];split<;>omega
  have each:∀i,i<len->∃z:gU,W.cell? (a.add (i*6))=some (.int .i64 z.kind)/\W.cell? (a.add (i*6+1))=some (.int .i64 z.e)/\W.cell? (a.add (i*6+2))=some (.string z.s)/\W.cell? (a.add (i*6+3))=some (.int .i64 z.a)/\W.cell? (a.add (i*6+4))=some (.int .i64 z.b)/\W.cell? (a.add (i*6+5))=some (.int .i64 z.c)/\BD z.e/\z.s.size+1<=Rows.uptoBulk (D i):=by
   intro i hi;obtain⟨ee,h1,h2⟩:=hx i (by omega);rw[D1] at h1;obtain⟨_,ca,Ql⟩:=World.cells?_some h1;obtain⟨xs,k,_,ea,_,eh,hf⟩:=DataW.trod_struct Tryz.underlying34 h2;have Qln:xs.length=6:=eh
   match xs,Qln,ee,ca with
   |[y0,y1,y2,y3,y4,y5],_,[v0,v1,v2,v3,v4,v5],_=>
    have g0:=hf 0 _ rfl;have g1:=hf 1 _ rfl;have g2:=hf 2 _ rfl;have g3:=hf 3 _ rfl;have g4:=hf 4 _ rfl;have g5:=hf 5 _ rfl;simp[Ct,II] at g0 g1 g2 g3 g4 g5;obtain⟨n0,e0,_,w0⟩:=DataW.trod_int Tryz.underlying3 g0;obtain⟨n1,e1,_,w1⟩:=DataW.trod_int Tryz.underlying3 g1;obtain⟨s2,e2,t2,_⟩:=DataW.trod_string Tryz.underlying9 g2;obtain⟨n3,e3,_,w3⟩:=DataW.trod_int Tryz.underlying3 g3;obtain⟨n4,e4,_,w4⟩:=DataW.trod_int Tryz.underlying3 g4;obtain⟨n5,e5,_,w5⟩:=DataW.trod_int Tryz.underlying3 g5;simp only[bO.injEq,and_true] at e0 e1 e2 e3 e4 e5;subst e0 e1 e2 e3 e4 e5;have c0:=Ql 0 (by decide);have c1:=Ql 1 (by decide);have c2:=Ql 2 (by decide);have c3:=Ql 3 (by decide);have c4:=Ql 4 (by decide);have c5:=Ql 5 (by decide);rw[Go.Deep.add_add] at c0 c1 c2 c3 c4 c5;refine⟨⟨n0,n1,s2,n3,n4,n5⟩,by simpa using c0,by simpa using c1,by simpa using c2,by simpa using c3,by simpa using c4,by simpa using c5,bounds_i64 w1,?_⟩;have hd:D i=.agg [y0.1,y1.1,y2.1,y3.1,y4.1,y5.1]:=by have:=(Prod.ext_iff.1 ea).1;simpa using this
    rw[hd];have e1:Rows.uptoBulk (DataW.agg [y0.1,y1.1,y2.1,y3.1,y4.1,y5.1])=Rows.uptoBulkAll [y0.1,y1.1,y2.1,y3.1,y4.1,y5.1]+1:=by simp only[Rows.uptoBulk]
    have e2:=w9 [y0.1,y1.1,y2.1,y3.1,y4.1,y5.1] y2.1 (by simp);have e3:Rows.uptoBulk y2.1=s2.data.toList.length+1:=by rw[t2];simp only[Rows.uptoBulk]
    have e4:s2.data.toList.length=s2.size:=by simp
    show s2.size+1<=_;omega
  haveI:Inhabited gU:=⟨⟨0,0,⟨#[]⟩,0,0,0⟩⟩;obtain⟨f,hf⟩:=Go.Deep.choose_lt each
  have fi:0<len->∃b ac,a=⟨b,ac,none⟩:=λh0=>by
   obtain⟨b,ac,pr⟩:=a
   cases pr with
   |none=>exact⟨b,ac,rfl⟩
   |some q=>
    exfalso;have b3:=(hf 0 h0).1;have e0:(⟨b,ac,some q⟩:Addr).add (0*6)=⟨b,ac,some q⟩:=by simp[Addr.add]
    rw[e0] at b3;simp only[World.cell?] at b3;split at b3
    .simp at b3
    .cases b3
  refine⟨(aY len).map f,⟨some a,cap,by simp,λi hi=>?_⟩,λy hy=>?_,λhb=>?_⟩
  .have ec:i<len:=by simpa using hi
   obtain⟨c0,c1,c2,c3,c4,c5,_⟩:=hf i ec;obtain⟨b,ac,rfl⟩:=fi (by omega);rw[C9] at c0 c1 c2 c3 c4 c5;refine⟨b,ac,rfl,IX c0,?_,?_,?_,?_,?_,?_⟩
   .simpa using c0
   .simpa [bB] using c1
   .simpa [bB] using c2
   .simpa [bB] using c3
   .simpa [bB] using c4
   .simpa [bB] using c5
  .obtain⟨i,hi,rfl⟩:=bC.1 hy;exact (hf i (bD.1 hi)).2.2.2.2.2.2.1
  .rw[ei] at hb;have e1:Rows.uptoBulk (DataW.slice ((aY len).map D) ((aY (m-len)).map λj=>D (len+j)))=Rows.uptoBulkAll ((aY len).map D)+Rows.uptoBulkAll ((aY (m-len)).map λj=>D (len+j))+1:=by simp only[Rows.uptoBulk]
   have ft:Rows.uptoBulkAll ((aY len).map D)<=1048576:=by have:Rows.uptoBulk (DataW.slice ((aY len).map D) ((aY (m-len)).map λj=>D (len+j)))<=1048576:=hb;omega
   have dh:=yL ((aY len).map D) (λd hd=>by
    obtain⟨i,hi,rfl⟩:=bC.1 hd;have:=(hf i (bD.1 hi)).2.2.2.2.2.2.2
    omega)
   rw[bL,bG] at dh;refine⟨by rw[bL,bG];omega,λo ho=>?_⟩;obtain⟨i,hi,rfl⟩:=bC.1 ho;have h5:=(hf i (bD.1 hi)).2.2.2.2.2.2.2;have h6:=w9 ((aY len).map D) (D i) (bC.2 ⟨i,hi,rfl⟩);omega
def zS:Ren:=
 {f:=λn=>n
  t:=fun
   |5=>5
   |119=>355
   |138=>357
   |139=>358
   |n=>n
  g:=fun
   |3=>0
   |4=>1
   |n=>n}
theorem Jb:U8Types bU zS:={
 t5:=by kernel_rfl
 t119:=by kernel_rfl
 t138:=by kernel_rfl
 t139:=by kernel_rfl}
theorem D6:U8Extra bU zS:={
 n3:=by kernel_rfl
 n4:=by kernel_rfl
 y3:=by kernel_rfl
 y4:=by kernel_rfl
 c5:=by kernel_rfl
 c119:=by kernel_rfl
 c138:=by kernel_rfl}
theorem EP:Rows.laid_unicode_utf8_first=Lib.firstData:=by kernel_rfl
theorem DJ:(Rows.laid_unicode_utf8_acceptRanges:DataW Unit)=Lib.acceptData:=by kernel_rfl
def xN:DataW Unit->Vq
 |.lit (.int k z)=>.int k z
 |_=>.int .u8 0
def sG:DataW Unit->Array Vq
 |.agg ds=>(ds.map xN).toArray
 |_=>#[]
def JI:DataW Unit->List Vq
 |.agg es=>es.map xN
 |_=>[]
def C4:DataW Unit->Array Vq
 |.agg ds=>(ds.flatMap JI).toArray
 |_=>#[]
def r9(h:Array Obj)(g:Nat)(c:Array Vq):Array Obj:=h.modify g fun
 |aN _ t frozen=>aN c t frozen
 |o=>o
def vS(w:Wq):Wq:=
 {w with heap:=r9 (r9 (r9 (r9 (r9 w.heap 0 (sG Rows.laid_unicode_utf8_first)) 1 (C4 Rows.laid_unicode_utf8_acceptRanges)) 2 (sG Rows.laid_internal_strconv_uint64pow10)) 4 (sG Rows.laid_math_bits_deBruijn32tab)) 5 (sG Rows.laid_math_bits_deBruijn64tab)}
