/- A part -/
import Derived.BigQuiet
import Derived.KernelRfl
import Derived.Test.YtjajnhemgphefaaGreatDoorJEgY
import Derived.Test.YtjajnhemgphefaaGreatDoorJWyD
import Derived.Sort.Walk0
set_option linter.all false
set_option maxRecDepth 100000
set_option maxHeartbeats 4000000
open List renaming length->aB,mem_cons->aX,not_mem_nil->aY,mem_filter->aZ,mem_map->bB,mem_filterMap->bF,pairwise_cons->bG,nodup_iff_pairwise_ne->bH,take_length->bI,map_congr_left->bL,filter_sublist->bO,map_map->bT,pairwise_map->bU,mem_append->bZ,Pairwise->cA,map_cons->cD,Perm->cF
open Go.World renaming cell?->aC,frozen?->aD,ownsRow->aE
open Go.Value renaming ownBlock->aF,slice->aH,string->aI,agg->aJ,bool->aK,tuple->aL,int->aM
open Go.Obj renaming cells->aN,map->cG
open Go.Ending renaming returned->aO
open Go.IntKind renaming i64->aP
open Or renaming inl->aQ,inr->aR
open Option renaming some->aV,none->aW,isSome_iff_exists->bC
open Nat renaming le_trans->bD
open Go.RowKit.Below renaming refl->bE
open Go.Calls renaming mono->bJ
open Int renaming emod_lt_of_pos->bQ,emod_nonneg->bX,neg_neg->cE
open Go.RowKit renaming Below->cH
namespace Go.Proofs.YtjajnhemgphefaaGreatDoor
open Go renaming World->Wq,Value->Vq
open Go.RowKit Go.Shelf Go.Maps
variable {W3 V:Wq} {N B:Nat} {vr vn:Vq} {win lat que:Int} {us:List ByteArray}
def gw(ns:List ByteArray)(rs:List Rl):List ByteArray:=rs.foldl (λns r=>dG ns (Q4 r)) ns
theorem I1{rs:List Rl}{k:Nat}(h:k<aB rs):gw [] (rs.take (k+1))=dG (gw [] (rs.take k)) (Q4 rs[k]):=by grind [gw,List.take_succ_eq_append_getElem]
def oZ(rs:List Rl)(win lat que:Int)(M:Gd->Option Int):Eg:=⟨rs,win,lat,que,0,gw [] rs,[],M,[]⟩
structure tQ(s:ByteArray)(rs:List Rl):Prop where
 parse:jA s=.ok rs
 rules:(lp s).2.1=0
 ok:jv rs
 n8:∀k,aB (gw [] (rs.take k))<=8
 nrs:∀r∈rs,∀t∈r.head.args,t.name≠eB->t.name∈gw [] rs
 nsz:∀x∈gw [] rs,x.size<=1200
def rp(rs:List Rl)(win lat que:Int)(w:Wq)(en:Ending)(w':Wq):Prop:=
 ∃(be:Nat) (S:Nat->Prop) (M:Gd->Option Int),en=aO (aL #[.pointer (aV ⟨be,0,aW⟩),aM aP 0])/\ia rs (Qx rs) M/\gN w' S be (oZ rs win lat que M)/\(∀k,S k->w.heap.size<=k)/\cH w.heap.size w w'
def mR(W3:Wq)(N B:Nat)(vr:Vq)(win lat que:Int)(us:List ByteArray)(vn:Vq)(V:Wq):Prop:=
 V.heap[N]?=aV (aN #[vr,aM aP win,aM aP lat,aM aP que,aM aP 0,vn,aH aW 0 0,.map (aV B),aH aW 0 0] 101)/\aE V (N+1) 9 1 vn (aB us) (us.map aI)/\dD W3 V (λj=>j=N)
theorem mR.rk(h:mR W3 N B vr win lat que us vn V){z:Array Vq}(A:W3.heap[N]?=cC z 101):qf W3 V:=by intro k c t C d;refine (h.2.2.block k (zg d).1 (λe=>?_)).trans d;rw[e,A] at d;cases d;rcases C with h|h|h<;>cases h
theorem mR.next{C W6:Wq}{A:List ByteArray}{vn':Vq}(h:mR W3 N B vr win lat que us vn V)(bc:W3.heap.size=N+1)(E:cH V.heap.size V C)(O:Qa (N+1) C W6)(G:aE W6 (N+1) 9 1 vn' (aB A) (A.map aI)):aC W6 (Ad N 5)=aV vn/\aD W6 (Ad N 5)=false/\mR W3 N B vr win lat que A vn' (W6.setCell (Ad N 5) vn'):=by
 have⟨h1,h2,h3⟩:=h;have M:N+1<=V.heap.size:=by grind
 have d:cH (N+1) V W6:=(E.mono M).trans (sU O (by have:=E.size;omega));have z:=(d.block N (by omega)).trans h1;refine⟨zc z,by simp[aD,z],qw z 5 vn',Qk G ⟨N,5,aW⟩ vn' (Qe G z (by decide)),?_⟩;have Z:dD W3 W6 (λj=>j=N):=⟨d.os.trans h3.os,d.tape.trans h3.tape,d.output.trans h3.output,bD h3.size d.size,λj hj hn=>(d.block j (by omega)).trans (h3.block j hj hn)⟩;exact Z.setCell (Ad N 5) vn' (λ_=>rfl)
theorem GL(s:ByteArray)(rs:List Rl)(win lat que:Int)(w:Wq)(ab:tQ s rs)(hs:s.size<=4611686018427387904)(hT:Lib.Utf8Tabs 0 1 w)(E:1<=win/\win<=1000)(h2:0<=lat/\lat<=1000)(h3:1<=que/\que<=50):Cs 39 #[St s,Ii win,Ii lat,Ii que] w (rp rs win lat que w):=by
 have bv:Hid (Cs 30 #[St s] w λe w'=>∃(G:Option Addr) (rc ae ad:Nat),e=aO (aL #[aH G (aB rs) rc,Ii 0,Ii 0])/\Qn w' w.heap.size ae ad (aH G (aB rs) rc) rs/\cH w.heap.size w w'):=by
  refine (Cc s w hs hT).mono ?_;rintro e w' ⟨hb,⟨c,p,_,hc,hr⟩|⟨ch,v,ae,ad,he,hR,_,_,_,hp,_⟩⟩;{have:=ab.rules;rw[hr] at this;exact absurd this hc}
  .have cb:ch=rs:=by{have:=hp.symm.trans ab.parse;injection this};subst cb;have⟨G,rc,hf⟩:=hR.form;subst hf;exact⟨G,rc,ae,ad,he,hR,hb⟩
 have aq:Hid (∀(n l m:Int) W,l<=n->n<=m->Cs 43 #[Ii n,Ii l,Ii m] W λe' w'=>e'=aO (aK true)/\W=w'):=λn l m W a b=>by grind [qI]
 have H1:=aA E;have H2:=aA h2;have H3:=aA h3;have ag:=aA ab;clear E h2 h3 ab hT;go_enter Tryz.func39,Tryz.ntmps39;go_wp2_with fail;refine bJ bv.o ?_;rintro e' W1 ⟨G,rc,ae,ad,rfl,hR,bq⟩;go_wp2_with fail;refine (aq.o win 1 1000 _ H1.o.1 H1.o.2).mono ?_;rintro e' w' ⟨rfl,af⟩;subst af;go_wp2_with fail;refine (aq.o lat 0 1000 _ H2.o.1 H2.o.2).mono ?_;rintro e' w' ⟨rfl,af⟩;subst af;go_wp2_with fail;refine (aq.o que 1 50 _ H3.o.1 H3.o.2).mono ?_;rintro e' w' ⟨rfl,af⟩;subst af;go_wp2_with fail;have ah:aB (gw [] rs)<=8:=by have:=ag.o.n8 (aB rs);rw[bI] at this;exact this
 have a9:Hid (Cs 75 #[aH G (aB rs) rc,aH aW 0 0] W1 λe' w'=>∃B M,e'=aO (.map (aV B))/\eT w' B 5000 M/\ia rs (Qx rs) M/\cH W1.heap.size W1 w'):=by refine (Cb (dH rs) rs [] (gD (gF rs) (gw [] rs)) _ _ w.heap.size ae ad 0 W1 (yo ag.o.ok ah ag.o.nsz ag.o.nrs ⟨by simp,by simp⟩) hR ⟨rfl,aQ ⟨rfl,rfl⟩⟩).mono ?_;rintro e' w' ⟨B,M,E,h2,h3,_,h4⟩;exact⟨B,M,E,g9.at' h2,h3,h4⟩
 refine bJ a9.o ?_;rintro e' W2 ⟨B,M,rfl,bn,bj,az⟩;have ao:cH w.heap.size w W2:=bq.trans (az.mono bq.size);have bu:Qn W2 w.heap.size ae ad (aH G (aB rs) rc) rs:=hR.rk (qf.ofBelow az);obtain⟨N,hN⟩:∃N,W2.heap.size=N:=⟨_,rfl⟩;obtain⟨W3,a7⟩:∃W3,W2.alloc (aN #[aH G (aB rs) rc,Ii win,Ii lat,Ii que,Ii 0,aH aW 0 0,aH aW 0 0,.map (aV B),aH aW 0 0] 101)=W3:=⟨_,rfl⟩;have ce:=aA bj;have e3:W3.heap[N]?=cC #[aH G (aB rs) rc,Ii win,Ii lat,Ii que,Ii 0,aH aW 0 0,aH aW 0 0,.map (aV B),aH aW 0 0] 101:=by rw[<-a7,<-hN];exact zn W2 _
 have bc:W3.heap.size=N+1:=by rw[<-a7,<-hN];simp
 have ap:cH W2.heap.size W2 W3:=by rw[<-a7];exact (bE _ W2).alloc zl _
 have bd:Hid (Qn W3 w.heap.size ae ad (aH G (aB rs) rc) rs):=bu.rk (qf.ofBelow ap);have b4:Hid (eT W3 B 5000 M):=bn.below ap;have b9:Hid (cH w.heap.size w W3):=ao.trans (ap.mono ao.size);have av:Hid (w.heap.size<=N):=by show _<=_;rw[<-hN];exact ao.size
 have Qd4:Hid (mR W3 N B (aH G (aB rs) rc) win lat que [] (aH aW 0 0) W3):=⟨e3,⟨rfl,aQ ⟨rfl,rfl⟩⟩,dD.refl _ _⟩;have aw:=aA e3;have ax:=aA bc
 have ck:Hid (∀k (hk:k<aB rs) (wr:Wq) (us:List ByteArray) (vn:Vq),mR W3 N B (aH G (aB rs) rc) win lat que us vn wr->aB us<=8->∃g d fn z A gn C,G=aV ⟨g,0,aW⟩/\aC wr (Ad g (k*3))=aV (St (rs[k]).head.rel)/\aC wr (Ad g (k*3+1))=aV (aH d fn z)/\aC wr (Ad g (k*3+2))=aV (aH A gn C)/\
   Hid (Cs 76 #[vn,.func (.func 141) #[] #[Pt (wr.heap.size+1)]] ((wr.alloc (aN #[St (rs[k]).head.rel,aH d fn z,aH A gn C] 136)).drew.alloc (aN #[St (rs[k]).head.rel,aH d fn z,aH A gn C] 136)) λe w'=>∃(pa:Option Addr) (pc:Nat),e=aO (aH pa (aB (dG us (Q4 rs[k]))) pc)/\aC w' (Ad N 5)=aV vn/\aD w' (Ad N 5)=false/\Hid (mR W3 N B (aH G (aB rs) rc) win lat que (dG us (Q4 rs[k])) (aH pa (aB (dG us (Q4 rs[k]))) pc) (w'.setCell (Ad N 5) (aH pa (aB (dG us (Q4 rs[k]))) pc))))):=λk hk wr us vn aa co=>by
  have b0:=bd.o.rk (aa.rk aw.o);have⟨g,c',v0,vb,q1,q2,q3,q4,q5⟩:=n9 b0 hk;have⟨d,z,ci⟩:=q5.1.form;have⟨A,C,b5⟩:=q5.2.form;subst ci b5;cases q1;refine⟨g,d,_,z,A,_,C,rfl,q2,q3,q4,?_⟩;have al:cH wr.heap.size wr ((wr.alloc (aN #[St (rs[k]).head.rel,aH d (aB (rs[k]).head.args) z,aH A (aB (rs[k]).body) C] 136)).drew.alloc (aN #[St (rs[k]).head.rel,aH d (aB (rs[k]).head.args) z,aH A (aB (rs[k]).body) C] 136)):=(((bE _ wr).alloc zl _).drew).alloc (by show _<=(wr.alloc _).heap.size;simp) _;have cg:N+1<=wr.heap.size:=by{have:=aa.2.2.size;have:=ax.o;omega};refine (A5 rs[k] _ _ vn us (N+1) ae ad (wr.heap.size+1) _ (ag.o.ok.rok _ (zm hk)) (q5.rk (qf.ofBelow al)) ?_ (qj aa.2.1 al) (by have:=al.size;omega) (by omega)).mono ?_;{have:=zn (wr.alloc (aN #[St (rs[k]).head.rel,aH d (aB (rs[k]).head.args) z,aH A (aB (rs[k]).body) C] 136)).drew (aN #[St (rs[k]).head.rel,aH d (aB (rs[k]).head.args) z,aH A (aB (rs[k]).body) C] 136);rw[show (wr.alloc (aN #[St (rs[k]).head.rel,aH d (aB (rs[k]).head.args) z,aH A (aB (rs[k]).body) C] 136)).drew.heap.size=wr.heap.size+1 by show (wr.alloc _).heap.size=_;simp] at this;exact this};{rintro e w' ⟨v',E,h2,h3⟩;have⟨pa,pc,cj⟩:=qq h2;subst cj;have⟨k1,k2,k3⟩:=aa.next ax.o al h3 h2;exact⟨pa,pc,E,k1,k2,k3⟩}
 clear a9 bv bj hR ao az bu bn ap e3;go_wp2_with fail
 go_loopw [48] (λvi wr=>∃(k:Nat) (vn:Vq),vi=aM aP k/\k<=aB rs/\Hid (mR W3 N B (aH G (aB rs) rc) win lat que (gw [] (rs.take k)) vn wr)) (λvi _=>aB rs-(intOf vi).toNat)
 case atStart=>exact⟨0,_,rfl,zz,Qd4⟩
 case round=>
  obtain⟨k,vn,rfl,hk,aa⟩:=hrel;by_cases bb:k<aB rs
  .have i1:(k:Int)<(aB rs:Int):=by{omega};have h8:aB rs<=8:=ag.o.ok.r8;have⟨g,d,fn,z,A,gn,C,e0,q0,q1,q2,a8⟩:=ck.o k bb wr _ vn aa.o (ag.o.n8 k);cases e0;have cl:Hid _:=I1 bb;have⟨na,nc,b8⟩:=qq aa.o.2.1;subst b8;have bk:=aa.o.1;have cg:N+1<=wr.heap.size:=by{have:=aa.o.2.2.size;have:=ax.o;omega};have c5:∀O,aC (wr.alloc O) (Ad N 5)=aV (aH na (aB (gw [] (rs.take k))) nc):=λO=>cell_later ((bE wr.heap.size wr).alloc zl O) (by simp[aC,bk]);have ac:N≠wr.heap.size:=by{omega};clear bk;generalize (rs[k]).head.rel=rel at *;generalize dG (gw [] (rs.take k)) (Q4 rs[k])=aj at *;obtain⟨V1,am⟩:∃V1,(wr.alloc (aN #[St rel,aH d fn z,aH A gn C] 136)).drew=V1:=⟨_,rfl⟩;have bh:V1.heap.size=wr.heap.size+1:=by{rw[<-am];show (wr.alloc _).heap.size=_;simp};have eV:V1.heap[wr.heap.size]?=cC #[St rel,aH d fn z,aH A gn C] 136:=by{rw[<-am];exact zn wr _};have p0:∀j,aC V1 (Ad wr.heap.size j)=([St rel,aH d fn z,aH A gn C]:List Vq)[j]?:=λj=>by{simp[aC,eV]};have p5:aC V1 (Ad N 5)=aV (aH na (aB (gw [] (rs.take k))) nc):=by{rw[<-am];exact c5 _};rw[am] at a8;obtain⟨V2,an⟩:∃V2,V1.alloc (aN #[St rel,aH d fn z,aH A gn C] 136)=V2:=⟨_,rfl⟩;have r5:aC V2 (Ad N 5)=aV (aH na (aB (gw [] (rs.take k))) nc):=by{rw[<-an];exact cell_later ((bE V1.heap.size V1).alloc zl _) p5};rw[an] at a8;have a6:Hid (Cs 77 #[aJ #[St rel,aH d fn z,aH A gn C]] V1 λe w'=>e=aO (.func (.func 141) #[] #[Pt (wr.heap.size+1)])/\V2=w'):=by{refine (wL _ _ _ _ rfl V1).mono ?_;rintro e w' ⟨E,h2⟩;rw[bh] at E;exact⟨E,by rw[h2,an]⟩};clear eV an bh c5;go_wp2_with fail
   first|(go_region_with (first|(go_at_call 77;refine bJ a6.o ?_;rintro e' w' ⟨rfl,af⟩;subst af)|(go_at_call 76;refine bJ a8.o ?_;rintro e' W6 ⟨pa,pc,rfl,t5,y5,cd⟩)))|fail
   all_goals (
    go_wp2;refine⟨⟨k+1,aH pa (aB aj) pc,by go_num,by omega,?_⟩,by simp[intOf];omega⟩;rw[cl.o]
    exact cd)
  .have b7:k=aB rs:=by{omega};subst b7;rw[bI] at aa
   have Qf:Hid (rp rs win lat que w (aO (aL #[Pt N,Ii 0])) wr):=by
    have⟨k1,k2,k3⟩:=aa.o;have hm:∀j es c,W3.heap[j]?=aV (cG es c)->wr.heap[j]?=aV (cG es c):=λj es c Z=>(k3.block j (zg Z).1 (λe=>by rw[e,aw.o] at Z;cases Z)).trans Z;refine⟨N,λj=>j=N\/aF vn=aV j,M,rfl,ce.o,⟨_,_,_,_,_,_,_,_,[],λ_ _=>False,⟨k1,bd.o.rk (aa.o.rk aw.o),l6 k2 zz,⟨rfl,aQ ⟨rfl,rfl⟩⟩,b4.o.kept hm,rfl,⟨rfl,aQ ⟨rfl,rfl⟩⟩,λi hi _=>by simp at hi,λ_ _ _ _ h=>h.elim,λ_ _ h=>h.elim,⟨aQ rfl,λg hg=>(by cases hg),λg hg=>(by cases hg),λg hg=>aR hg⟩,λj Z=>?_⟩⟩,λj Z=>?_,?_⟩
    .rcases Z with rfl|Z
     .exact⟨_,_,k1,aQ rfl⟩
     .have⟨_,c,ca⟩:=qd k2 Z;exact⟨_,_,ca,aR (aR (aR (aR (aR rfl))))⟩
    .rcases Z with rfl|Z
     .exact av.o
     .have:=(qd k2 Z).1;have:=av.o;omega
    .have E:=b9.o;exact⟨k3.os.trans E.os,k3.tape.trans E.tape,k3.output.trans E.output,bD E.size k3.size,λj Z=>(k3.block j (by have:=E.size;omega) (by have:=av.o;omega)).trans (E.block j Z)⟩
   go_wp2;go_ret2;exact Qf.o
end Go.Proofs.YtjajnhemgphefaaGreatDoor
namespace Go.Proofs.YtjajnhemgphefaaGreatDoor
open Go renaming World->Wq,Value->Vq
open Go.RowKit
def mt(c n:Int):Int:=if c<0 then (-(c+1)) % n else c % n
theorem JN(c n:Int)(d:0<n):0<=mt c n/\mt c n<n:=by
 unfold mt;split
 .exact⟨bX _ (by omega),bQ _ d⟩
 .exact⟨bX _ (by omega),bQ _ d⟩
theorem Jf(c n:Int)(d:c<0) : -(c+1).tmod n=mt c n:=by
 unfold mt;rw[if_pos d];obtain⟨a,z⟩:∃a,a=-(c+1):=⟨_,rfl⟩;have:c+1=-a:=by omega
 rw[this,Int.neg_tmod,cE,cE,Int.tmod_eq_emod_of_nonneg (by omega)]
end Go.Proofs.YtjajnhemgphefaaGreatDoor
namespace Go.Proofs.YtjajnhemgphefaaGreatDoor
open Go renaming World->Wq,Value->Vq
open Go.RowKit Go.Shelf Go.Maps
def bP:ByteArray:=⟨#[112]⟩
theorem He(x y:Gd×Int):rd x y=true↔x=y:=by
 unfold rd;simp only[Bool.and_eq_true,beq_iff_eq,jQ];constructor
 .rintro⟨⟨z,A,C⟩,E⟩;have⟨⟨a,b,c⟩,d⟩:=x;have⟨⟨a',b',c'⟩,d'⟩:=y;simp only at z A C E;rw[nJ z,nJ A,nJ C,E]
 .rintro rfl;simp
structure lB(w:Wq)(be:Nat)(bs:List Nat)(e:Eg)(W:Wq):Prop where
 eng:∃S:Nat->Prop,gN W S be e/\∀k,S k->w.heap.size<=k/\k∉bs
 lt:∀b∈bs,b<W.heap.size
 below:cH w.heap.size w W
 ok:dV e
theorem Dg{s:ByteArray}{rs:List Rl}(h:tQ s rs){win lat que:Int}(A:1<=win/\win<=1000)(C:0<=lat/\lat<=1000)(E:1<=que/\que<=50){M:Gd->Option Int}(G:ia rs (Qx rs) M):dV (oZ rs win lat que M):=by
 have z:aB (gw [] rs)<=8:=by have:=h.n8 (aB rs);rw[bI] at this;exact this
 refine⟨h.ok,A,C,E,⟨by show (0:Int)<=0;decide,by show (0:Int)<=1000000;decide⟩,z,h.nsz,h.nrs,by show (0:Nat)<=24;decide,λd hd=>(by cases hd),?_,by show (0:Nat)<=3;decide,λf O=>(by cases O)⟩;exact uC (F:=[]) h.ok h.nrs ⟨by simp,by simp⟩ G
def uP(bs:List Nat)(W W':Wq):Prop:=∀b∈bs,W'.heap[b]?=W.heap[b]?
theorem lB.step{w W W':Wq}{be:Nat}{bs:List Nat}{e e':Eg}(h:lB w be bs e W){S:Nat->Prop}(z:∀k,S k->w.heap.size<=k/\k∉bs)(C:Qm S be e' W W')(ab:dV e'):lB w be bs e' W'/\uP bs W W':=by
 have⟨S',j1,j2,j3⟩:=C;refine⟨⟨⟨S',j1,λk A=>?_⟩,λb d=>Nat.lt_of_lt_of_le (h.lt b d) j3.size,?_,ab⟩,λb d=>j3.block b (h.lt b d) (λhs=>(z b hs).2 d)⟩
 .rcases j2 k A with hs|hs
  .exact z k hs
  .exact⟨bD h.below.size hs,λd=>by have:=h.lt k d;omega⟩
 .exact h.below.trans (dD.below j3 h.below.size (λk A=>(z k A).1))
theorem lB.same{w W W':Wq}{be:Nat}{bs:List Nat}{e:Eg}(h:lB w be bs e W)(d:cH W.heap.size W W'):lB w be bs e W'/\uP bs W W':=by have⟨S,h1,h2⟩:=h.eng;exact h.step h2 (Qm.same h1 d) h.ok
theorem lB.alloc{w W:Wq}{be:Nat}{bs:List Nat}{e:Eg}(h:lB w be bs e W)(O:Obj):lB w be (W.heap.size::bs) e (W.alloc O)/\uP bs W (W.alloc O):=by
 have⟨⟨S,h1,h2⟩,h3,h4,h5⟩:=h;have d:cH W.heap.size W (W.alloc O):=(bE _ W).alloc zl O;refine⟨⟨⟨S,h1.below d,λk z=>⟨(h2 k z).1,λA=>?_⟩⟩,λb ak=>?_,h4.alloc h4.size O,h5⟩,λb ak=>d.block b (h3 b ak)⟩
 .rcases aX.1 A with rfl|A
  .have⟨_,_,_,_,_,_,_,_,_,_,hv⟩:=h1;have:=(hv.typ _ z).lt;omega
  .grind
 .rcases aX.1 ak with rfl|ak
  .simp
  .have:=h3 b ak;simp;omega
theorem lB.drew{w W:Wq}{be:Nat}{bs:List Nat}{e:Eg}(h:lB w be bs e W):lB w be bs e W.drew:=(h.same (bE _ W).drew).1
section
variable {w W:Wq} {be:Nat} {bs:List Nat} {e:Eg}
end
def qS:ByteArray:=⟨#[112,97,116,104]⟩
def ru:ByteArray:=⟨#[101,100,103,101]⟩
def o9:ByteArray:=⟨#[112,97,116,104,40,88,44,89,41,58,45,101,100,103,101,40,88,44,89,41,46,32,112,97,116,104,40,88,44,90,41,58,45,112,97,116,104,40,88,44,89,41,44,101,100,103,101,40,89,44,90,41,46]⟩
def kz:List Rl:=tz qS ru
theorem FO:Lib.runeCount o9=53:=by kernel_rfl
theorem A1:jA o9=.ok kz:=by kernel_rfl
theorem Hi:jP kz=(0,0):=by kernel_rfl
theorem zH:kz.flatMap qz=[⟨qS,[mE,ms]⟩,⟨ru,[mE,ms]⟩,⟨qS,[mE,ms]⟩,⟨qS,[mE,qP]⟩,⟨ru,[qP,ms]⟩]:=rfl
theorem wz:dH kz qS=2:=by kernel_rfl
theorem Ce:dH kz ru=2:=by kernel_rfl
theorem FY:jv kz:=by
 have A:∀(x:ByteArray) (t u:Tm),x.size<=1200->oq t->oq u->kC ⟨x,[t,u]⟩:=λx t u O z C=>⟨O,Nat.le_refl 2,λv M=>by
  simp only[aX,aY,or_false] at M;rcases M with rfl|rfl
  .exact z
  .exact C⟩
 have h0:oq mE:=⟨by decide,by decide⟩;have z:oq ms:=⟨by decide,by decide⟩;have C:oq qP:=⟨by decide,by decide⟩;refine⟨by decide,λr E=>?_,λa d=>?_,λa d t G=>?_,λr E t G Z=>?_⟩
 .simp only[kz,tz,aX,aY,or_false] at E;rcases E with rfl|rfl
  .exact⟨A _ _ _ (by decide) h0 z,by decide,λa d=>by simp only[aX,aY,or_false] at d;subst d;exact A _ _ _ (by decide) h0 z⟩
  .exact⟨A _ _ _ (by decide) h0 z,by decide,λa d=>by
    simp only[aX,aY,or_false] at d;rcases d with rfl|rfl
    .exact A _ _ _ (by decide) h0 C
    .exact A _ _ _ (by decide) C z⟩
 .rw[zH] at d;simp only[aX,aY,or_false] at d;rcases d with rfl|rfl|rfl|rfl|rfl
  .exact⟨wz.symm,aR rfl⟩
  .exact⟨Ce.symm,aR rfl⟩
  .exact⟨wz.symm,aR rfl⟩
  .exact⟨wz.symm,aR rfl⟩
  .exact⟨Ce.symm,aR rfl⟩
 .rw[zH] at d;simp only[aX,aY,or_false] at d;rcases d with rfl|rfl|rfl|rfl|rfl<;>(simp only[aX,aY,or_false] at G;rcases G with rfl|rfl<;>decide)
 .grind [kz,tz,ru,mE,ms,qS,qP,zs,List.mem_cons_of_mem]
theorem IF:gw [] (kz.take 1)=[]:=by kernel_rfl
theorem zA:gw [] kz=[]:=by kernel_rfl
theorem CJ:tQ o9 kz:=by
 refine⟨A1,?_,FY,λk=>?_,λr d t z A=>?_,λx C=>?_⟩
 .grind [lp,FO,A1,Hi]
 .match k with
  |0=>exact zz
  |1=>rw[IF];exact zz
  |k+2=>have h:kz.take (k+2)=kz:=List.take_of_length_le (by show (2:Nat)<=k+2;omega);rw[h,zA];exact zz
 .simp only[kz,tz,aX,aY,or_false] at d;rcases d with rfl|rfl<;>(simp only[aX,aY,or_false] at z;rcases z with rfl|rfl<;>exact absurd rfl A)
 .grind [zA]
end Go.Proofs.YtjajnhemgphefaaGreatDoor
namespace Go.Proofs.YtjajnhemgphefaaGreatDoor
open Go renaming World->Wq,Value->Vq
open Go.RowKit Go.Shelf
variable {win:Int} {ar:ByteArray->Nat} {ds:List (Gd×Int×Bool)} {M:Gd->Option Int} {hs:List Gr}
abbrev Fk:=Gr×Int×Bool
def lr(win:Int)(fs:List Fk)(t:Int):List Gr:=(fs.filter (λf=>f.2.2 && decide (t<f.2.1+win))).map (·.1)
def mw(win:Int)(ds:List (Gd×Int×Bool)):List (Gd×Int):=(ds.filter (λd=>d.2.2)).map (λd=>(d.1,d.2.1+win))
theorem BV{d:List Fk}{t:Int}{g:Gr}:g∈lr win d t↔∃f∈d,f.2.2=true/\t<f.2.1+win/\f.1=g:=by
 unfold lr;rw[bB];constructor
 .grind
 .rintro⟨f,C,z,A,rfl⟩;exact⟨f,aZ.2 ⟨C,by simp[z,A]⟩,rfl⟩
def kK(ds:List (Gd×Int×Bool))(fs:List Fk):Prop:=fs=ds.map (λd=>(dR d.1,d.2.1,d.2.2))
theorem Gv{R:List Rl}{Z:List Fk}(hR:mH ar R)(hs:kK ds Z)(ha:∀d∈ds,mC ar d.1){t:Int}(M:t<2000000):tD ar R (mw win ds++Qx R) t (lr win Z t):=by
 have G:∀x∈Qx R,∃r∈R,r.body=[]/\x=(qb Qs r.head,2000000):=λx z=>by
  have⟨r,A,e⟩:=bF.1 z;split at e;{grind};{cases e}
 refine⟨λx z he=>?_,λg hg=>?_,λr A h0=>?_⟩
 .rcases bZ.1 z with z|z
  .obtain⟨d,hd,rfl⟩:=bB.1 z;have⟨E,C⟩:=aZ.1 hd;refine⟨ha d E,aQ (BV.2 ⟨(dR d.1,d.2.1,d.2.2),?_,C,he,rfl⟩)⟩;rw[hs];exact bB.2 ⟨d,E,rfl⟩
  .obtain⟨r,A,h0,rfl⟩:=G x z;have hc:=zO (hR.safe r A) h0;have⟨C,h3⟩:=hR.two r A r.head zs;refine⟨(uf C.1 h3).2 (λt M=>?_),aR ⟨r,A,h0,rfl⟩⟩;have O:=hc t M;unfold dI;rw[if_neg (by show ¬qi t.name=true;rw[O];decide)];exact O
 .obtain⟨f,hf,E,C,rfl⟩:=BV.1 hg;rw[hs] at hf;obtain⟨d,hd,rfl⟩:=bB.1 hf;exact⟨(d.1,d.2.1+win),List.mem_append_left _ (bB.2 ⟨d,aZ.2 ⟨hd,E⟩,rfl⟩),C,rfl⟩
 .exact⟨(qb Qs r.head,2000000),List.mem_append_right _ (bF.2 ⟨r,A,by rw[if_pos h0]⟩),M,rfl⟩
theorem H6{R:List Rl}{z:List Fk}(C:mH ar R)(hs:kK ds z)(O:∀d∈ds,mC ar d.1)(A:ia R (mw win ds++Qx R) M){t:Int}(Z:t<2000000)(g:Gd):(∃u,M g=aV u/\t<u)↔Dv R (lr win z t) (dR g):=by rw[<-IC C (Gv (win:=win) C hs O Z) g];exact⟨λ⟨u,E,G⟩=>A.sound g u E t G,λh=>A.complete t g h⟩
theorem G2{R:List Rl}{m:Int}{z:List Fk}(E:mH ar R)(hs:kK ds z)(G:∀d∈ds,mC ar d.1)(A:ia R (mw win ds++Qx R) M)(Z:m<2000000)(O:∀d∈ds,d.2.2=true->m<d.2.1+win)(g:Gd):(M g).isSome=true↔Dv R (lr win z m) (dR g):=by
 rw[<-H6 E hs G A Z g];constructor
 .intro h;have⟨u,hu⟩:=bC.1 h;refine⟨u,hu,?_⟩;obtain⟨d,hd,rfl⟩:=A.end_mem hu;rcases bZ.1 hd with hd|hd
  .obtain⟨x,C,rfl⟩:=bB.1 hd;exact O x (aZ.1 C).1 (aZ.1 C).2
  .have⟨r,hr,e⟩:=bF.1 hd;split at e;{grind};{cases e}
 .grind
theorem Ab(x y:ByteArray):pD x y=true↔x.data.toList<y.data.toList:=by unfold pD;rw[bytesLess_eq,decide_eq_true_eq,jQ,jQ]
theorem wO(x:ByteArray):∀l,(iT x l).Perm (x::l)
 |[]=>.refl _
 |y::l=>by
  unfold iT;split;{exact .refl _};{exact ((wO x l).cons y).trans (.swap x y l)}
theorem xy(x:ByteArray):∀l:List ByteArray,l.Pairwise (λa b=>a.data.toList<=b.data.toList)->(iT x l).Pairwise (λa b=>a.data.toList<=b.data.toList)
 |[],_=>List.pairwise_singleton _ _
 |y::l,h=>by
  have A:=bG.1 h;unfold iT;split;{grind [Ab,List.le_of_lt,bG.2,aX.1,List.le_trans]}
  .rename_i C;refine bG.2 ⟨λz d=>?_,xy x l A.2⟩;rcases aX.1 ((wO x l).mem_iff.1 d) with rfl|d
   .grind [Ab]
   .grind
theorem rX:∀(l out:List ByteArray),out.Pairwise (λa b=>a.data.toList<=b.data.toList)->(jy out l).Pairwise (λa b=>a.data.toList<=b.data.toList)/\(jy out l).Perm (l++out)
 |[],out,h=>⟨h,.refl _⟩
 |x::l,out,h=>by have⟨h1,h2⟩:=rX l (iT x out) (xy x out h);unfold jy at h1 h2 ⊢;rw[List.foldl_cons];refine⟨h1,h2.trans ?_⟩;exact ((wO x out).append_left l).trans List.perm_middle
theorem GY(l:List ByteArray):(jy [] l).map (λx=>x.data.toList)=fO (l.map (λx=>x.data.toList)):=by have⟨h1,h2⟩:=rX l [] cA.nil;rw[List.append_nil] at h2;rw[<-uh (h2.map _)];symm;unfold fO;refine List.mergeSort_of_pairwise ?_;rw[bU];exact h1.imp (λh=>by simpa using h)
theorem uI{g:Gd}:eO ar g↔mC ar g:=by grind [eB,qi,ou,eO,mC]
theorem oi{x y:ByteArray}(h:x.data.toList=y.data.toList):x=y:=by have⟨x⟩:=x;have⟨y⟩:=y;simp only[ByteArray.mk.injEq];exact Array.toList_inj.1 h
theorem uv(x y:ByteArray):(x++y).data.toList=x.data.toList++y.data.toList:=by simp
theorem wm(g:Gd):j8 (dR g)=dY g:=by
 apply oi;unfold j8 dY mT lz dR qi;split
 .simp[mA,uv,Lib.join]
 .simp[mA,uv,Lib.join]
theorem xM{a:Am}(A:jO ar a){x y:ByteArray}(E:eO ar ⟨a.rel,x,y⟩):(Q6 Qs a x y).isSome=true↔(fE a (dR ⟨a.rel,x,y⟩) gP).isSome=true:=by
 have cp:qi (⟨#[97]⟩:ByteArray)=false:=by decide +kernel
 have M:aB a.args=1\/aB a.args=2:=by grind [rD]
 have a6:∀z∈(dR (⟨a.rel,x,y⟩:Gd)).args,qi z=false:=λz Z=>by
  have⟨h3,h4⟩:=uI.1 E;unfold dR at Z;simp only at Z h3 h4;split at Z;{grind};{grind}
 have ah:∀t∈a.args,t.num<aB gP:=λt d=>by have:=A.2 t d;show t.num<8;omega
 constructor
 .intro h;have⟨m,hm⟩:=bC.1 h;have⟨_,C⟩:=tj A E hm;have G:=(uf (p:=m) M A.1).1 (by rw[C];exact uI.1 E);have hs:∀v,qi ((λv=>if qi (m.get v)=true then (⟨#[97]⟩:ByteArray) else m.get v) v)=false:=λv=>by grind
  have e2:dR (qb m a)=gu (λv=>if qi (m.get v)=true then (⟨#[97]⟩:ByteArray) else m.get v) a:=pY M (λt d cc=>by
   have O:=G t d;unfold dI at O;rw[if_pos (by exact cc)] at O;show _=if _ then _ else _
   rw[if_neg (by rw[O];decide)]) (λt d=>qD hs t)
  rw[C] at e2;have⟨c,hc,_⟩:=ri (λv=>if qi (m.get v)=true then (⟨#[97]⟩:ByteArray) else m.get v) a.args gP ah (λv hv=>by rw[rJ] at hv;cases hv) hs;rw[e2];unfold fE gu;rw[if_pos ⟨(nj _ _).2 rfl,by simp⟩,hc];rfl
 .intro h;have⟨c,hc⟩:=bC.1 h;have⟨f1,f2,f3⟩:=pv hc;have⟨i1,i2,i3,i4,i5⟩:=px _ _ _ _ f3 f2 a6 ah;have hs:∀v,qi ((λv=>if qi (c.getD v dK)=true then (⟨#[97]⟩:ByteArray) else c.getD v dK) v)=false:=λv=>by{grind};have C:dR (⟨a.rel,x,y⟩:Gd)=gu (λv=>if qi (c.getD v dK)=true then (⟨#[97]⟩:ByteArray) else c.getD v dK) a:=by grind [dR,Gd,gu,je,iJ,qi,bL]
  have e3:qb (rS (λv=>if qi (c.getD v dK)=true then (⟨#[97]⟩:ByteArray) else c.getD v dK)) a=⟨a.rel,x,y⟩:=rP (by
   rw[C]
   exact pY M (λt d _=>xK _ (A.2 t d)) (λt d=>qD hs t))
  have⟨m,hm,_⟩:=wY (n:=Qs) (p:=rS (λv=>if qi (c.getD v dK)=true then (⟨#[97]⟩:ByteArray) else c.getD v dK)) A (by rw[e3];exact E) (λk hk=>by
   exfalso;apply hk
   match k with
   |0=>rfl
   |1=>rfl
   |2=>rfl
   |3=>rfl
   |4=>rfl
   |5=>rfl
   |k+6=>rfl)
  rw[e3] at hm;rw[hm];rfl
theorem zw(hM:∀g,(M g).isSome=true↔dR g∈hs)(ay:hs.Nodup)(Z:∀h∈hs,∃g,dR g=h)(ab:∀g,(M g).isSome=true->eO ar g/\g.x.size<=2000/\g.y.size<=2000){a:Am}(G:jO ar a){gs:List Gd}(hf:nB M a gs):(gs.map dR).Perm (hs.filter (λh=>(fE a h gP).isSome)):=by
 obtain⟨ks,k1,k2,rfl⟩:=hf;have d:∀k∈ks,eO ar ⟨a.rel,k.1,k.2⟩/\(M ⟨a.rel,k.1,k.2⟩).isSome=true:=λk d=>by grind
 have b3:∀l:List (ByteArray×ByteArray),(∀k∈l,eO ar ⟨a.rel,k.1,k.2⟩/\(M ⟨a.rel,k.1,k.2⟩).isSome=true)->(l.filterMap (λk=>Q6 Qs a k.1 k.2)).map (λp=>qb p a)=(l.filter (λk=>(Q6 Qs a k.1 k.2).isSome)).map (λk=>(⟨a.rel,k.1,k.2⟩:Gd)):=by
  intro l
  induction l with
  |nil=>intro _;rfl
  |cons k l ih=>
   intro O;have z:=ih (λk d=>O k (zt d))
   cases hm:Q6 Qs a k.1 k.2 with
   |none=>rw[List.filterMap_cons_none (by exact hm),List.filter_cons_of_neg (by rw[hm];decide),z]
   |some p=>rw[List.filterMap_cons_some (by exact hm),List.filter_cons_of_pos (by rw[hm];rfl),cD,cD,z,(tj G (O k zs).1 hm).2]
 rw[b3 ks d];refine (List.perm_ext_iff_of_nodup ?_ (ay.sublist bO)).2 (λh=>?_)
 .rw[bT,bH,bU];refine cA.imp (λ{p q} ac e=>?_) (bH.1 (k1.sublist bO));have:=rP e;simp only[Gd.mk.injEq,true_and] at this;exact ac (Prod.ext this.1 this.2)
 .rw[bB,aZ];constructor;{grind [xM]}
  .rintro⟨C,E⟩;obtain⟨g,rfl⟩:=Z h C;have A:=(hM g).2 C;have⟨o1,o2,o3⟩:=ab g A;have hrel:a.rel=g.rel:=by{have⟨c,hc⟩:=bC.1 E;exact (pv hc).1};have⟨gr,gx,gy⟩:=g;simp only at hrel o2 o3;subst hrel;refine⟨⟨a.rel,gx,gy⟩,bB.2 ⟨(gx,gy),aZ.2 ⟨(k2 gx gy).2 ⟨bD o2 (by unfold maxLen;decide),bD o3 (by unfold maxLen;decide),A⟩,(xM G o1).2 E⟩,rfl⟩,rfl⟩
theorem EM(A:∀g,(M g).isSome=true↔dR g∈hs)(z:hs.Nodup)(d:∀h∈hs,∃g,dR g=h)(ab:∀g,(M g).isSome=true->eO ar g/\g.x.size<=2000/\g.y.size<=2000){a:Am}(C:jO ar a){gs:List Gd}(E:nB M a gs):so gs=(jy [] ((hs.filter (λh=>(fE a h gP).isSome)).map j8)).map (λx=>x.data.toList):=by rw[GY];unfold so;refine uh ?_;rw[bT];have h:=(zw A z d ab C E).map (λh=>(j8 h).data.toList);rw[bT] at h;refine cF.trans (cF.of_eq ?_) h;refine bL (λg _=>?_);show _=(j8 (dR g)).data.toList;rw[wm]
