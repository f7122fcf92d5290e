/- A part -/
import Derived.Test.YtjajnhemgphefaaGreatDoorJWyS
set_option linter.all false
set_option maxRecDepth 100000
set_option maxHeartbeats 4000000
open List renaming length->aB,length_map->aX,take_succ_eq_append_getElem->aZ,map_map->bB,mem_map->bD,length_take->bF,filter_map->bG,append_nil->bH
open Go.World renaming cell?->aC,frozen?->aD,ownsRow->aE
open Go.Value renaming ownBlock->aF,slice->aH,bool->aK,tuple->aL,int->aM,oneCell'->bE
open Go.Obj renaming cells->aN
open Go.Ending renaming returned->aO
open Go.IntKind renaming i64->aP
open Or renaming inl->aQ,inr->aR
open Option renaming some->aV,none->aW
open Go.RowKit.Below renaming heap_setCell->aY,heap_alloc->bC
open Nat renaming min_eq_left->bI,le_trans->bJ
open Go renaming wpList_append_own->bL
namespace Go.Proofs.YtjajnhemgphefaaGreatDoor
open Go renaming World->Wq,Value->Vq
open Go.RowKit Go.Shelf
variable {win m:Int} {l ak:List ((Gr×Int×Bool)×Vq)} {W2 X Y W:Wq} {M b:Nat} {vk vw:Vq} {an:List (Gr×Vq)} {T:Nat->Prop} {y:Er}
def g8(win m:Int)(l:List ((Gr×Int×Bool)×Vq)):List ((Gr×Int×Bool)×Vq):=(l.filter (λf=>!decide (f.1.2.1+win<=m))).map (λf=>((f.1.1,f.1.2.1,decide (f.1.2.1<=m)),f.2))
def iK(win m:Int)(l:List ((Gr×Int×Bool)×Vq)):List (Gr×Vq):=((g8 win m l).filter (λf=>f.1.2.2)).map (λf=>(f.1.1,f.2))
theorem zX(win m:Int)(l:List ((Gr×Int×Bool)×Vq)){k:Nat}(h:k<aB l):g8 win m (l.take (k+1))=g8 win m (l.take k)++(if l[k].1.2.1+win<=m then [] else [((l[k].1.1,l[k].1.2.1,decide (l[k].1.2.1<=m)),l[k].2)]):=by grind [g8,aZ]
theorem FN(win m:Int)(l:List ((Gr×Int×Bool)×Vq)){k:Nat}(h:k<aB l):iK win m (l.take (k+1))=iK win m (l.take k)++(if l[k].1.2.1+win<=m then [] else if l[k].1.2.1<=m then [(l[k].1.1,l[k].2)] else []):=by grind [iK,zX]
theorem yc(win m:Int)(l:List ((Gr×Int×Bool)×Vq)):aB (g8 win m l)<=aB l:=by grind [g8]
theorem FB(win m:Int)(l:List ((Gr×Int×Bool)×Vq)):aB (iK win m l)<=aB l:=by grind [iK,yc]
theorem BI(win m:Int)(l:List ((Gr×Int×Bool)×Vq)):(g8 win m l).map (·.1)=jJ win m (l.map (·.1)):=by unfold g8 jJ;rw[bG,bB,bB];rfl
theorem ID(win m:Int)(l:List ((Gr×Int×Bool)×Vq)):(iK win m l).map (·.1)=pA win m (l.map (·.1)):=by unfold iK pA;rw[<-BI,bG,bB,bB];rfl
theorem vL{p:(Gr×Int×Bool)×Vq}(h:p∈g8 win m l):∃q∈l,q.1.1=p.1.1/\q.2=p.2:=by grind [g8]
theorem AD{p:Gr×Vq}(h:p∈iK win m l):∃q∈l,q.1.1=p.1/\q.2=p.2:=by grind [iK,vL]
structure im(W2:Wq)(M:Nat)(X:Wq)(vk vw:Vq)(ak:List ((Gr×Int×Bool)×Vq))(an:List (Gr×Vq)):Prop where
 below:Below W2.heap.size W2 X
 size:M<=X.heap.size
 kept:aE X M 233 4 vk (aB ak) (ak.flatMap jC)
 now:aE X M 226 2 vw (aB an) (an.flatMap jX)
theorem im.keep(h:im W2 M X vk vw ak an)(d:Below X.heap.size X Y):im W2 M Y vk vw ak an:=
 ⟨h.below.trans (d.mono h.below.size),bJ h.size d.size,qj h.kept d,qj h.now d⟩
theorem im.set(h:im W2 M X vk vw ak an)(C:W2.heap.size=M)(a:Addr)(v:Vq)(E:M<=a.block)(z:aF vk≠aV a.block)(A:aF vw≠aV a.block):im W2 M (X.setCell a v) vk vw ak an:=
 ⟨h.below.setCell (by omega) v,by simpa using h.size,Qk h.kept a v (λg d e=>z (by rw[<-e];exact d)),Qk h.now a v (λg d e=>A (by rw[<-e];exact d))⟩
theorem im.addK{vk':Vq}(h:im W2 M X vk vw ak an)(C:W2.heap.size=M)(p:(Gr×Int×Bool)×Vq){O:Obj}(d:(X.alloc O).grownBy Y (aF vk))(E:aE Y M 233 4 vk' (aB ak+1) (ak.flatMap jC++jC p)):im W2 M Y vk' vw (ak++[p]) an:=by
 refine⟨(h.below.alloc h.below.size O).grown d (by have:=h.below.size;simp;omega) (λk e=>by have:=(qd h.kept e).1;omega),by have:=d.size;have:=h.size;simp at *;omega,?_,qn h.now (λg A z=>(d.block g (by simp;omega) (λe=>?_)).trans (bC X O g z))⟩
 .grind
 .have⟨c,hc⟩:=qh h.kept e.symm;have⟨c',a6⟩:=qh h.now A;rw[hc] at a6;cases a6
theorem im.addN{z:Vq}(h:im W2 M X vk vw ak an)(E:W2.heap.size=M)(p:Gr×Vq){O:Obj}(d:(X.alloc O).grownBy Y (aF vw))(G:aE Y M 226 2 z (aB an+1) (an.flatMap jX++jX p)):im W2 M Y vk z ak (an++[p]):=by
 refine⟨(h.below.alloc h.below.size O).grown d (by have:=h.below.size;simp;omega) (λk e=>by have:=(qd h.now e).1;omega),by have:=d.size;have:=h.size;simp at *;omega,qn h.kept (λg C A=>(d.block g (by simp;omega) (λe=>?_)).trans (bC X O g A)),?_⟩
 .have⟨c,hc⟩:=qh h.now e.symm;have⟨c',a6⟩:=qh h.kept C;rw[hc] at a6;cases a6
 .grind
def jd(y:Er)(ck:Int)(st:List Gr)(i:Nat):Er:={y with clock:=ck,mark:=ck-y.lat,facts:=jJ y.win (ck-y.lat) y.facts,state:=st,feeds:=(y.feeds.take i).map (iZ y.que (ck-y.lat) y.state st)++y.feeds.drop i}
theorem Qu.trans'{W1:Wq}{d:Nat->Prop}{E A:Er}(h:(jF W1 d b E/\∀k,d k->T k\/W.heap.size<=k)/\dD W W1 T)(k:Qu d b A W1 W2):Qu T b A W W2:=by
 have⟨⟨h1,h2⟩,h3⟩:=h;have⟨⟨T2,k1,k2⟩,k3⟩:=k;have M:=h3.size;refine⟨⟨T2,k1,λj G=>?_⟩,⟨k3.os.trans h3.os,k3.tape.trans h3.tape,k3.output.trans h3.output,bJ h3.size k3.size,λi z C=>(k3.block i (Nat.lt_of_lt_of_le z h3.size) (λe=>?_)).trans (h3.block i z C)⟩⟩
 .grind
 .grind
def oM(T:Nat->Prop)(b:Nat)(y:Er)(c:Int)(W:Wq)(e:Ending)(w':Wq):Prop:=∃y' r,mU y c y' r/\e=aO (aL #[aM aP r.1,aM aP r.2])/\Qu T b y' W w'
theorem oM.mk{c:Int}{e:Ending}{w':Wq}(d:Er)(r:Int×Int)(h:mU y c d r)(z:e=aO (aL #[Ii r.1,Ii r.2]))(A:Qu T b d W w'):oM T b y c W e w':=⟨d,r,h,z,A⟩
theorem Jq{vr vf vn vs vd:Vq}{qs:List (Rl×Vq×Vq)}{z:List ((Gr×Int×Bool)×Vq)}{G:List (Gr×Vq)}{ds:List (Fr×Vq×Vq)}(h:eI W T b y vr vf vn vs vd qs z G ds)(hz:sV y)(dh:yG y)(c:Int)(bn:∀i f,y.feeds[i]?=aV f->∀m st,aB st<=2048->(∀g∈st,ja y.rs y.names g)->wy b i f y.state y.que m st):Cs 68 #[Pt b,Ii c] W (oM T b y c W):=by
 have⟨va,vc,d3⟩:=qe h.rules.row;have⟨fa,fc,du⟩:=qe h.facts;have⟨sa,sc,dx⟩:=qe h.state.row;have⟨da,dc,d9⟩:=qe h.feeds;subst d3 du dx d9;have fg:b<W.heap.size:=h.lt b h.own;have HH:Hid (eI W T b y (aH va (aB qs) vc) (aH fa (aB z) fc) vn (aH sa (aB G) sc) (aH da (aB ds) dc) qs z G ds):=h;have q2:aC W (Ad b 2)=aV (Ii y.lat):=by simp[aC,h.box]
 have q4:aC W (Ad b 4)=aV (Ii y.clock):=by simp[aC,h.box]
 have q5:aC W (Ad b 5)=aV (Ii y.mark):=by simp[aC,h.box]
 have z4:aD W (Ad b 4)=false:=by simp[aD,h.box]
 have fh:=hz.clock;have e9:=hz.lat;have fe:=hz.mark;have e5:=hz.win;have HZ:Hid (sV y):=hz;have co:Hid (yG y):=dh;have eb:Hid (∀i f,y.feeds[i]?=aV f->∀m st,aB st<=2048->(∀g∈st,ja y.rs y.names g)->wy b i f y.state y.que m st):=bn;clear h hz dh bn;by_cases hc:0<=c/\c<=1000000
 .have t0:¬c<0:=by omega
  have t1:¬1000000<c:=by omega
  obtain⟨d,au⟩:∃d,gp y c=d:=⟨_,rfl⟩;have Ql5:0<=d/\d<=1000000:=by rw[<-au];unfold gp;split<;>omega
  have HT:Hid (∀y' r,((d-y.lat<=y.mark/\y'={y with clock:=d}/\r=(y.mark,0))\/(y.mark<d-y.lat/\r=(d-y.lat,0)/\∃st,nE y.rs (pA y.win (d-y.lat) y.facts) y.names st/\y'={y with clock:=d,mark:=d-y.lat,facts:=jJ y.win (d-y.lat) y.facts,state:=st,feeds:=y.feeds.map (iZ y.que (d-y.lat) y.state st)}))->mU y c y' r):=λy' r hh=>aR ⟨hc,by rw[au];exact hh⟩;obtain⟨y0,ae⟩:∃y0:Er,{y with clock:=d}=y0:=⟨_,rfl⟩;obtain⟨W0,bd⟩:∃W0,(if y.clock<c then W.setCell (Ad b 4) (Ii d) else W)=W0:=⟨_,rfl⟩
  have aj:eI W0 T b y0 (aH va (aB qs) vc) (aH fa (aB z) fc) vn (aH sa (aB G) sc) (aH da (aB ds) dc) qs z G ds/\dD W W0 T:=by
   rw[<-bd,<-ae];by_cases af:y.clock<c
   .rw[if_pos af];exact⟨HH.o.num (by simp) (λk A=>aY W ⟨b,4,aW⟩ _ k A) rfl rfl rfl rfl rfl (qw HH.o.box 4 _),(dD.refl W T).setCell _ _ (λ_=>HH.o.own)⟩
   .rw[if_neg af];have he:d=y.clock:=by rw[<-au];unfold gp;rw[if_neg af]
    rw[he];exact⟨HH.o,dD.refl W T⟩
  have av:Hid _:=aj;have p2:aC W0 (Ad b 2)=aV (Ii y.lat):=by rw[<-ae] at aj;simp[aC,aj.1.box]
  have p4:aC W0 (Ad b 4)=aV (Ii d):=by rw[<-ae] at aj;simp[aC,aj.1.box]
  have p5:aC W0 (Ad b 5)=aV (Ii y.mark):=by rw[<-ae] at aj;simp[aC,aj.1.box]
  have p8:aC W0 (Ad b 8)=aV (aH sa (aB G) sc):=by simp[aC,aj.1.box]
  have y5:aD W0 (Ad b 5)=false:=by simp[aD,aj.1.box]
  have eo:Hid (gp y c=d):=au
  have em:(y.clock<c/\d=c/\W.setCell (Ad b 4) (Ii d)=W0)\/(¬y.clock<c/\y.clock=d/\W=W0/\¬d<c):=by
   rw[<-bd,<-au];unfold gp;by_cases af:y.clock<c
   .rw[if_pos af,if_pos af];exact aQ ⟨af,rfl,rfl⟩
   .rw[if_neg af,if_neg af];exact aR ⟨af,rfl,rfl,af⟩
  clear au aj hc bd;go_enter Tryz.func68,Tryz.ntmps68;rcases em with⟨af,rfl,bd⟩|⟨af,ej,rfl,cy⟩
  all_goals go_wp2_with fail
  all_goals go_quiet (fail)
  have ai:eI (W0.drewN nq) T b y0 (aH va (aB qs) vc) (aH fa (aB z) fc) vn (aH sa (aB G) sc) (aH da (aB ds) dc) qs z G ds/\dD W (W0.drewN nq) T:=⟨av.o.1.below (qy zr),av.o.2.trans (dD.ofBelow _ (qy zr))⟩;clear q2 q4 q5 z4 p2 p4 p5 p8 y5 av;generalize W0.drewN nq=W1 at *;clear bd
  rotate_left 1
  have ai:eI (W.drewN nq) T b y0 (aH va (aB qs) vc) (aH fa (aB z) fc) vn (aH sa (aB G) sc) (aH da (aB ds) dc) qs z G ds/\dD W (W.drewN nq) T:=⟨av.o.1.below (qy zr),av.o.2.trans (dD.ofBelow _ (qy zr))⟩;clear q2 q4 q5 z4 p2 p4 p5 p8 y5 av cy ej;generalize W.drewN nq=W1 at *
  all_goals (
   have b9:Hid _:=ai;have p2:aC W1 (Ad b 2)=aV (Ii y.lat):=by rw[<-ae] at ai;simp[aC,ai.1.box]
   have p4:aC W1 (Ad b 4)=aV (Ii d):=by rw[<-ae] at ai;simp[aC,ai.1.box]
   have p5:aC W1 (Ad b 5)=aV (Ii y.mark):=by rw[<-ae] at ai;simp[aC,ai.1.box]
   have z5:aD W1 (Ad b 5)=false:=by simp[aD,ai.1.box]
   have cd:=ai.1.box;rw[<-ae] at cd;clear ai;by_cases cl:d-y.lat<=y.mark
   .have hT:Hid (mU y _ y0 (y.mark,0)):=HT.o y0 (y.mark,0) (aQ ⟨cl,ae.symm,rfl⟩);have hP:Hid (Qu T b y0 W W1):=⟨⟨T,⟨_,_,_,_,_,_,_,_,_,b9.o.1⟩,λk A=>aQ A⟩,b9.o.2⟩;go_wp2;go_ret2;exact oM.mk y0 (y.mark,0) hT.o rfl hP.o
   .have ek:0<=d-y.lat/\d-y.lat<=1000000/\y.mark<d-y.lat:=by omega
    obtain⟨W2,b5⟩:∃W2,(W1.setCell (Ad b 5) (Ii (d-y.lat))).drew=W2:=⟨_,rfl⟩;obtain⟨y1,ag⟩:∃y1:Er,{y with clock:=d,mark:=d-y.lat}=y1:=⟨_,rfl⟩;have bc:W2.heap[b]?=cC #[aH va (aB qs) vc,Ii y.win,Ii y.lat,Ii y.que,Ii d,Ii (d-y.lat),aH fa (aB z) fc,vn,aH sa (aB G) sc,aH da (aB ds) dc] 222:=by rw[<-b5];exact qw (w:=W1) cd 5 _
    have c7:eI W2 T b y1 (aH va (aB qs) vc) (aH fa (aB z) fc) vn (aH sa (aB G) sc) (aH da (aB ds) dc) qs z G ds/\dD W W2 T:=by refine⟨b9.o.1.num (by rw[<-b5];show (W1.setCell _ _).heap.size=_;simp) (λk A=>by rw[<-b5];exact aY W1 ⟨b,5,aW⟩ _ k A) (by rw[<-ag,<-ae]) (by rw[<-ag,<-ae]) (by rw[<-ag,<-ae]) (by rw[<-ag,<-ae]) (by rw[<-ag,<-ae]) (by rw[<-ag];exact bc),?_⟩;rw[<-b5];exact (b9.o.2.setCell _ _ (λ_=>HH.o.own)).drew
    have ca:Hid _:=c7;have s2:aC W1.drew (Ad b 2)=aV (Ii y.lat):=p2;have s4:aC W1.drew (Ad b 4)=aV (Ii d):=p4;have r2:aC W2 (Ad b 2)=aV (Ii y.lat):=zc bc;have r4:aC W2 (Ad b 4)=aV (Ii d):=zc bc;have r8:aC W2 (Ad b 8)=aV (aH sa (aB G) sc):=zc bc;have ez:aP.wrap (d-y.lat)=d-y.lat:=pE _ (by omega) (by omega);have cn:Hid (∀Y,Below W2.heap.size W2 Y->eI Y T b y1 (aH va (aB qs) vc) (aH fa (aB z) fc) vn (aH sa (aB G) sc) (aH da (aB ds) dc) qs z G ds/\dD W Y T):=λY hY=>⟨ca.o.1.below hY,ca.o.2.trans (dD.ofBelow _ hY)⟩;have Qhc:aB z<=24:=by have:=HZ.o.f24;rw[<-HH.o.factsm,aX] at this;exact this
    have HC:Hid (∀Y,Below W2.heap.size W2 Y->aC Y (Ad b 6)=aV (aH fa (aB z) fc)/\aC Y (Ad b 1)=aV (Ii y.win)/\aC Y (Ad b 5)=aV (Ii (d-y.lat))):=λY hY=>by have⟨h2,_⟩:=cn.o Y hY;have hb:=h2.box;rw[<-ag] at hb;exact⟨zc hb,zc hb,zc hb⟩
    have HF:Hid (∀Y,Below W2.heap.size W2 Y->∀(k:Nat) (A:k<aB z),∃(gf:Nat) (u1:Option Addr) (u2:Nat),fa=aV ⟨gf,0,aW⟩/\z[k].2=aH u1 (aB z[k].1.1.args) u2/\aC Y (Ad gf (k*4))=aV (St z[k].1.1.rel)/\aC Y (Ad gf (k*4+1))=aV (aH u1 (aB z[k].1.1.args) u2)/\aC Y (Ad gf (k*4+2))=aV (Ii z[k].1.2.1)/\aC Y (Ad gf (k*4+3))=aV (aK z[k].1.2.2)/\0<=z[k].1.2.1/\z[k].1.2.1<=1000000):=λY hY k A=>by have⟨h2,_⟩:=cn.o Y hY;have⟨gf,cap,e1,_,_,_,e2⟩:=iI h2.facts (λ_=>rfl) (by omega);have⟨s1,_⟩:=h2.facte z[k] (zm A);have⟨u1,u2,e3⟩:=qe s1;have cv:=(HZ.o.facts z[k].1 (by rw[<-HH.o.factsm];exact bD.2 ⟨_,List.getElem_mem A,rfl⟩)).2;have e4:=e2 k 1 A _ (by decide) rfl;rw[e3] at e4;simp only[aH.injEq] at e1;exact⟨gf,u1,u2,e1.1,e3,e2 k 0 A _ (by decide) rfl,e4,e2 k 2 A _ (by decide) rfl,e2 k 3 A _ (by decide) rfl,cv⟩
    clear c7 bc cd cl;go_wp2_with fail
    (go_region_held3 (λw'=>aC w' (Ad b 2)=aV (Ii y.lat)/\aC w' (Ad b 4)=aV (Ii d)) (first|with_reducible exact⟨s2,s4⟩|with_reducible exact⟨r2,r4⟩|with_reducible assumption) (go_simp))
    obtain⟨M,hM⟩:∃M,W2.heap.size=M:=⟨_,rfl⟩;have dl:Hid (im W2 M W2 (aH aW 0 0) (aH aW 0 0) (g8 y.win (d-y.lat) (z.take 0)) (iK y.win (d-y.lat) (z.take 0))):=⟨zr,by omega,zo,zo⟩;have⟨i0,hi,dy,cv,de⟩:=info_parts Tryz.infoGround;have⟨j0,hj,Qir,Qis,Qit⟩:=info_parts Tryz.infoFact;have a8:Hid (W2.heap.size=M):=hM;clear s2 s4 r2 r4 p2 p4 p5 z5 hM;go_wp2_with fail
    go_loopw [7,8,9] (λo1 o2 p wr=>∃(i:Nat) (vk vw:Vq),vk=o1/\vw=o2/\p=aM aP i/\i<=aB z/\Hid (im W2 M wr vk vw (g8 y.win (d-y.lat) (z.take i)) (iK y.win (d-y.lat) (z.take i)))) (λ_ _ p _=>aB z-(intOf p).toNat)
    case atStart=>exact⟨0,_,_,rfl,rfl,rfl,zz,dl⟩
    case round=>
     clear dl;obtain⟨i,vk,vw,rfl,rfl,rfl,cl,ac⟩:=hrel;have⟨ka,kc,d8⟩:=qq ac.o.kept;have⟨wa,wc,dz⟩:=qq ac.o.now;subst d8 dz;have⟨d6,d1,d5⟩:=HC.o wr ac.o.below;have ct:=yc y.win (d-y.lat) (z.take i);have cx:=FB y.win (d-y.lat) (z.take i);rw[bF] at ct cx;by_cases ah:i<aB z
     .have i1:(i:Int)<(aB z:Int):=by omega
      have⟨gf,u1,u2,dq,e3,f0,f1,f2,f3,cr,ed⟩:=HF.o wr ac.o.below i ah;have b4:=zX y.win (d-y.lat) z ah;have b6:=FN y.win (d-y.lat) z ah;rw[e3] at b4 b6;obtain⟨C,cw⟩:∃C,z[i].1.1=C:=⟨_,rfl⟩;obtain⟨tk,cu⟩:∃tk,z[i].1.2.1=tk:=⟨_,rfl⟩;obtain⟨bk,dn⟩:∃bk,z[i].1.2.2=bk:=⟨_,rfl⟩;rw[cw,cu] at b4 b6;rw[cw] at f0 f1;rw[cu] at f2 cr ed;rw[dn] at f3;have bh:Hid _:=b4;have am:Hid _:=b6;clear b4 b6 cw cu dn e3;subst dq;generalize g8 y.win (d-y.lat) (z.take i)=ak at *;generalize iK y.win (d-y.lat) (z.take i)=an at *;obtain⟨W3,cq⟩:∃W3,wr.alloc (aN #[St C.rel,aH u1 (aB C.args) u2,Ii tk,aK bk] 233)=W3:=⟨_,rfl⟩;obtain⟨NB,dk⟩:∃NB,wr.heap.size=NB:=⟨_,rfl⟩;have c9:Below wr.heap.size wr W3:=by rw[<-cq];exact (Below.refl _ wr).alloc zl _
      have cp:Hid (im W2 M W3 (aH ka (aB ak) kc) (aH wa (aB an) wc) ak an):=ac.o.keep c9
      have b7:Hid (aF (aH ka (aB ak) kc)≠aV NB/\aF (aH wa (aB an) wc)≠aV NB/\M<=NB):=by
       refine⟨λe=>?_,λe=>?_,by have:=ac.o.size;omega⟩
       .have⟨c,hc⟩:=qh ac.o.kept e;have:=(zg hc).1;omega
       .have⟨c,hc⟩:=qh ac.o.now e;have:=(zg hc).1;omega
      have ce:W3.heap[NB]?=cC #[St C.rel,aH u1 (aB C.args) u2,Ii tk,aK bk] 233:=by rw[<-cq,<-dk];exact zn wr _
      have g2:aC W3 (Ad NB 2)=aV (Ii tk):=zc ce;have⟨_,c1,c5⟩:=HC.o W3 cp.o.below;have db:Hid _:=ce;have et:aP.wrap (tk+y.win)=tk+y.win:=pE _ (by omega) (by omega);clear ac c9 ce;go_wp2_with fail;go_quiet (fail);have b0:Hid (im W2 M (W3.drewN nq) (aH ka (aB ak) kc) (aH wa (aB an) wc) ak an):=cp.o.keep (qy zr);have bi:Hid ((W3.drewN nq).heap[NB]?=cC #[St C.rel,aH u1 (aB C.args) u2,Ii tk,aK bk] 233):=db.o;generalize W3.drewN nq=W4 at *;clear g2 c1 c5 d6 d1 d5 f0 f1 f2 f3 cq dk cp db;by_cases c4:tk+y.win<=d-y.lat
      .have cj:Hid (im W2 M W4 (aH ka (aB ak) kc) (aH wa (aB an) wc) (g8 y.win (d-y.lat) (z.take (i+1))) (iK y.win (d-y.lat) (z.take (i+1)))):=by have h5:=bh.o;have h6:=am.o;rw[if_pos c4,bH] at h5 h6;rw[h5,h6];exact b0.o
       clear bh am;go_wp2;refine⟨⟨i+1,_,_,rfl,rfl,by go_num,by omega,cj⟩,by simp[intOf];omega⟩
      .rw[if_neg c4] at bh am;have g2:aC W4 (Ad NB 2)=aV (Ii tk):=by simp[aC,bi.o]
       have g3:aC W4 (Ad NB 3)=aV (aK bk):=by simp[aC,bi.o]
       have z3:aD W4 (Ad NB 3)=false:=by simp[aD,bi.o]
       have⟨_,c1,c5⟩:=HC.o W4 b0.o.below;have df:aC W4.drew (Ad NB 2)=aV (Ii tk):=g2;have c3:aC W4.drew (Ad b 5)=aV (Ii (d-y.lat)):=c5;obtain⟨bb,az⟩:∃bb,decide (tk<=d-y.lat)=bb:=⟨_,rfl⟩;obtain⟨W5,dd⟩:∃W5,(W4.setCell (Ad NB 3) (aK bb)).drew=W5:=⟨_,rfl⟩;have aq:Hid (im W2 M W5 (aH ka (aB ak) kc) (aH wa (aB an) wc) ak an):=by rw[<-dd];exact (b0.o.set a8.o ⟨NB,3,aW⟩ _ b7.o.2.2 b7.o.1 b7.o.2.1).keep zr.drew
       have ax:W5.heap[NB]?=cC #[St C.rel,aH u1 (aB C.args) u2,Ii tk,aK bb] 233:=by rw[<-dd];exact qw (w:=W4) bi.o 3 _
       have x0:aC W5 (Ad NB 0)=aV (St C.rel):=zc ax;have x1:aC W5 (Ad NB 1)=aV (aH u1 (aB C.args) u2):=zc ax;have x2:aC W5 (Ad NB 2)=aV (Ii tk):=zc ax;have x3:aC W5 (Ad NB 3)=aV (aK bb):=zc ax;have⟨_,_,x5⟩:=HC.o W5 aq.o.below;have dj:Hid _:=ax;have Qgk:Hid (g8 y.win (d-y.lat) (z.take (i+1))=ak++[((C,tk,bb),aH u1 (aB C.args) u2)]):=by rw[<-az];exact bh.o
       clear b0 ax bi bh;go_wp2_with fail
       (go_region_held3 (λw'=>aC w' (Ad NB 2)=aV (Ii tk)/\aC w' (Ad b 5)=aV (Ii (d-y.lat))) (first|with_reducible exact⟨df,c3⟩|with_reducible exact⟨x2,x5⟩|with_reducible assumption) (go_simp))
       clear df c3 c1 c5 g2 g3 z3
       cases bb with
       |true=>
        have cz:tk<=d-y.lat:=by simpa using az
        rw[if_pos cz] at am;clear az;have ec:Hid (aE W5 M 226 2 (aH wa (aB an) wc) (aB an) (an.flatMap jX)):=aq.o.now;have ci:Hid (∀O,M<=(W5.alloc O).heap.size):=λO=>by have:=aq.o.size;simp;omega
        have d7:Hid (∀(Y:Wq) (v':Vq) (O:Obj),(W5.alloc O).grownBy Y (aF (aH wa (aB an) wc))->aE Y M 226 2 v' (aB an+1) (an.flatMap jX++[St C.rel,aH u1 (aB C.args) u2])->im W2 M Y (aH ka (aB ak) kc) v' ak (an++[(C,aH u1 (aB C.args) u2)])/\aC Y (Ad NB 0)=aV (St C.rel)/\aC Y (Ad NB 1)=aV (aH u1 (aB C.args) u2)/\aC Y (Ad NB 2)=aV (Ii tk)/\aC Y (Ad NB 3)=aV (aK true)):=λY v' O E ho=>by have Qed:NB<W5.heap.size:=(zg dj.o).1;have h9:=((E.block NB (by simp;omega) (λe=>b7.o.2.1 e.symm)).trans (bC W5 O NB Qed)).trans dj.o;exact⟨aq.o.addN a8.o (C,aH u1 (aB C.args) u2) E ho,zc h9,zc h9,zc h9,zc h9⟩
        have ea:Hid (∀(X:Wq) (aw:Vq),im W2 M X (aH ka (aB ak) kc) aw ak (an++[(C,aH u1 (aB C.args) u2)])->∀(Y:Wq) (v':Vq) (O:Obj),(X.alloc O).grownBy Y (aF (aH ka (aB ak) kc))->aE Y M 233 4 v' (aB ak+1) (ak.flatMap jC++[St C.rel,aH u1 (aB C.args) u2,Ii tk,aK true])->im W2 M Y v' aw (g8 y.win (d-y.lat) (z.take (i+1))) (iK y.win (d-y.lat) (z.take (i+1)))):=λX aw hX Y v' O E ho=>by rw[Qgk.o,am.o];exact hX.addK a8.o ((C,tk,true),aH u1 (aB C.args) u2) E ho
        go_wp2_with (first|(at_builtin;refine bL _ rfl _ _ 217 rfl M 226 i0 _ 2 40 Tryz.underlying217 hi dy cv de rfl (by decide) _ (aB an) (an.flatMap jX) rfl (ec.o.alloc _) ⟨W5.heap.size,0,aW⟩ 1 _ [St C.rel,aH u1 (aB C.args) u2] rfl rfl (mo _ _ _ _) (by simp[bE]) (by unfold maxLen;omega) (by omega) (ci.o _) ?_;intro c0 w1 bf a7 _;have⟨Qf1,o0,o1,o2,o3⟩:=d7.o _ _ _ a7 bf;have a9:Hid (im W2 M w1 (aH ka (aB ak) kc) c0 ak (an++[(C,aH u1 (aB C.args) u2)])):=Qf1;clear Qf1;clear bf a7)|(at_builtin;refine bL _ rfl _ _ 219 rfl M 233 j0 _ 4 56 Tryz.underlying219 hj Qir Qis Qit rfl (by decide) _ (aB ak) (ak.flatMap jC) rfl (aE.alloc a9.o.kept _) ⟨w1.heap.size,0,aW⟩ 1 _ [St C.rel,aH u1 (aB C.args) u2,Ii tk,aK true] rfl rfl (mF _ _ _ _ _ _) (by simp[bE]) (by unfold maxLen;omega) (by omega) (by have:=a9.o.size;simp;omega) ?_;intro eu w2 c8 dm _;have el:Hid _:=ea.o _ _ a9.o _ _ _ dm c8;clear c8 dm))
        refine⟨⟨i+1,_,_,rfl,rfl,by go_num,by omega,el⟩,by simp[intOf];omega⟩
       |false=>
        have cz:¬tk<=d-y.lat:=by simpa using az
        rw[if_neg cz,bH] at am;clear az;have d4:Hid (aE W5 M 233 4 (aH ka (aB ak) kc) (aB ak) (ak.flatMap jC)):=aq.o.kept;have ci:Hid (∀O,M<=(W5.alloc O).heap.size):=λO=>by have:=aq.o.size;simp;omega
        have dw:Hid (∀(Y:Wq) (v':Vq) (O:Obj),(W5.alloc O).grownBy Y (aF (aH ka (aB ak) kc))->aE Y M 233 4 v' (aB ak+1) (ak.flatMap jC++[St C.rel,aH u1 (aB C.args) u2,Ii tk,aK false])->im W2 M Y v' (aH wa (aB an) wc) (g8 y.win (d-y.lat) (z.take (i+1))) (iK y.win (d-y.lat) (z.take (i+1)))):=λY v' O E ho=>by rw[Qgk.o,am.o];exact aq.o.addK a8.o ((C,tk,false),aH u1 (aB C.args) u2) E ho
        go_wp2_with (at_builtin;refine bL _ rfl _ _ 219 rfl M 233 j0 _ 4 56 Tryz.underlying219 hj Qir Qis Qit rfl (by decide) _ (aB ak) (ak.flatMap jC) rfl (d4.o.alloc _) ⟨W5.heap.size,0,aW⟩ 1 _ [St C.rel,aH u1 (aB C.args) u2,Ii tk,aK false] rfl rfl (mF _ _ _ _ _ _) (by simp[bE]) (by unfold maxLen;omega) (by omega) (ci.o _) ?_;intro c0 w1 bf a7 _;have a9:Hid _:=dw.o _ _ _ a7 bf;clear bf a7)
        refine⟨⟨i+1,_,_,rfl,rfl,by go_num,by omega,a9⟩,by simp[intOf];omega⟩
     .have i1:¬(i:Int)<(aB z:Int):=by omega
      rw[List.take_of_length_le (by omega)] at ac ct cx ⊢;have⟨ab,dg⟩:=cn.o wr ac.o.below;obtain⟨W6,bu⟩:∃W6,wr.setCell (Ad b 6) (aH ka (aB (g8 y.win (d-y.lat) z)) kc)=W6:=⟨_,rfl⟩
      have ay:eI W6 (gQ T W2 W6) b {y1 with facts:=jJ y.win (d-y.lat) y.facts} (aH va (aB qs) vc) (aH ka (aB (g8 y.win (d-y.lat) z)) kc) vn (aH sa (aB G) sc) (aH da (aB ds) dc) qs (g8 y.win (d-y.lat) z) G ds/\dD W W6 T/\gM W6 (aH wa (aB (iK y.win (d-y.lat) z)) wc) (iK y.win (d-y.lat) z):=by
       have ao:∀k,k<wr.heap.size->k≠b->W6.heap[k]?=wr.heap[k]?:=λk _ A=>by rw[<-bu];exact aY wr ⟨b,6,aW⟩ _ k A
       have d2:W6.heap.size=wr.heap.size:=by rw[<-bu];simp
       have eg:=ac.o.below.size;have dt:∀k,T k->k<W2.heap.size:=ca.o.1.lt;have ad:∀k,T k->gQ T W2 W6 k:=λk A=>aQ A;have cb:∀(u:Vq) {U m n:Nat} {xs:List Vq},aE wr M U m u n xs->∀k,aF u=aV k->gQ T W2 W6 k:=λu _ _ _ _ hu k A=>by have⟨h5,c,hc⟩:=qd hu A;have h6:=(zg hc).1;have:=a8.o;exact aR ⟨by omega,by omega⟩
       refine⟨ab.put ad (λk A=>?_) ao rfl rfl rfl ?_ (Qj (ab.row ao (by decide) ac.o.kept) zz) (cb _ ac.o.kept) ?_ (λp Z=>?_) ⟨ab.row ao (by decide) ab.state.row,λp Z=>ab.row ao (by decide) (ab.state.each p Z)⟩ (λg E=>ad g (ab.stateT g E)) (by rw[ab.statem]) (λp Z g E=>ad g (ab.statee p Z g E)) (λg E=>⟨λp Z=>?_,(ab.sepN g E).2⟩),?_,⟨Qj (ab.row ao (by decide) ac.o.now) zz,λp Z=>?_⟩⟩
       .rcases A with A|A
        .have:=dt k A;omega
        .exact A.2
       .have hb:=ab.box;rw[<-bu];exact qw hb 6 _
       .rw[BI,HH.o.factsm]
       .have⟨q,hq,e1,e2⟩:=vL Z;have:=ab.facte q hq;rw[e1,e2] at this;exact⟨ab.row ao (by decide) this.1,λg E=>ad g (this.2 g E)⟩
       .have⟨q,hq,e1,e2⟩:=vL Z;have:=(ab.sepN g E).1 q hq;rw[e2] at this;exact this
       .rw[<-bu];exact dg.setCell _ _ (λ_=>HH.o.own)
       .have⟨q,hq,e1,e2⟩:=AD Z;have:=(ab.facte q hq).1;rw[e1,e2] at this;exact ab.row ao (by decide) this
      have be:Hid _:=ay;have z6:aD wr (Ad b 6)=false:=by simp[aD,ab.box]
      have e0:aC W6 (Ad b 0)=aV (aH va (aB qs) vc):=by simp[aC,ay.1.box]
      have dp:Hid _:=Cl qs (iK y.win (d-y.lat) z) y.names (aH va (aB qs) vc) (aH wa (aB (iK y.win (d-y.lat) z)) wc) W6 ay.1.rules ay.2.2 (by have:=HZ.o.r8;rw[<-HH.o.rsm,aX] at this;omega) (by omega) (by rw[HH.o.rsm];exact co.o.fine) (λp Z=>by
       rw[HH.o.rsm];have⟨q,hq,e1,e2⟩:=AD Z;rw[<-e1]
       exact co.o.gr q.1 (by rw[<-HH.o.factsm];exact bD.2 ⟨q,hq,rfl⟩))
      clear ay ab dg ac cx ct;go_wp2_with fail;refine Calls.mono dp.o ?_;clear dp;rintro e' W7 ⟨ff,bj,rfl,al,b3⟩;have⟨ta,tc,eh⟩:=qq al.row;subst eh;rw[HH.o.rsm,ID,HH.o.factsm] at b3;obtain⟨W8,b8⟩:∃W8,W7.setCell (Ad b 8) (aH ta (aB bj) tc)=W8:=⟨_,rfl⟩;obtain⟨st,ac⟩:∃st,bj.map (·.1)=st:=⟨_,rfl⟩;rw[ac] at b3;have Qal:Below W6.heap.size W6 W7:=al.below;have aa:=be.o.1.below Qal
      have bv:eI W8 (gQ (gQ T W2 W6) W6 W8) b {y with clock:=d,mark:=d-y.lat,facts:=jJ y.win (d-y.lat) y.facts,state:=st} (aH va (aB qs) vc) (aH ka (aB (g8 y.win (d-y.lat) z)) kc) vn (aH ta (aB bj) tc) (aH da (aB ds) dc) qs (g8 y.win (d-y.lat) z) bj ds/\dD W W8 T/\gM W8 (aH sa (aB G) sc) G:=by
       have ap:∀k,k<W7.heap.size->k≠b->W8.heap[k]?=W7.heap[k]?:=λk _ A=>by rw[<-b8];exact aY W7 ⟨b,8,aW⟩ _ k A
       have es:W8.heap.size=W7.heap.size:=by rw[<-b8];simp
       have eg:=Qal.size;have ad:∀k,gQ T W2 W6 k->gQ (gQ T W2 W6) W6 W8 k:=λk A=>aQ A;have cb:∀(u:Vq) {U m n:Nat} {xs:List Vq},aE W7 0 U m u n xs->(∀k,aF u=aV k->W6.heap.size<=k)->∀k,aF u=aV k->gQ (gQ T W2 W6) W6 W8 k:=λu _ _ _ _ hu hl k A=>by have⟨c,hc⟩:=qh hu A;have h6:=(zg hc).1;exact aR ⟨hl k A,by omega⟩
       have Qhs:∀p∈bj,(∃q∈g8 y.win (d-y.lat) z,q.2=p.2)\/∀g,aF p.2=aV g->W6.heap.size<=g:=λp Z=>by
        rcases al.loc p Z with h5|h5
        .have⟨q,hq,e⟩:=bD.1 h5;unfold iK at hq;obtain⟨f,hf,rfl⟩:=bD.1 hq;exact aQ ⟨f,(List.mem_filter.1 hf).1,e⟩
        .exact aR h5
       refine⟨aa.put ad (λk A=>?_) ap (by rw[<-ag]) (by rw[<-ag]) (by rw[<-ag]) ?_ (aa.row ap (by decide) aa.facts) (λg E=>ad g (aa.factsT g E)) aa.factsm (λp Z=>⟨aa.row ap (by decide) (aa.facte p Z).1,λg E=>ad g ((aa.facte p Z).2 g E)⟩) ⟨Qj (aa.row ap (by decide) al.row) zz,λp Z=>aa.row ap (by decide) (al.each p Z)⟩ (cb _ (Qj al.row zz) (λk A=>(qd al.row A).1)) ac (λp Z g E=>?_) (λg E=>⟨(aa.sepN g E).1,λp Z e=>?_⟩),?_,⟨aa.row ap (by decide) aa.state.row,λp Z=>aa.row ap (by decide) (aa.state.each p Z)⟩⟩
       .rcases A with A|A
        .have:=aa.lt k A;omega
        .exact A.2
       .have hb:=aa.box;rw[<-b8];rw[<-ag] at hb;exact qw hb 8 _
       .rcases Qhs p Z with⟨q,hq,e⟩|h5
        .rw[<-e] at E;exact ad g ((aa.facte q hq).2 g E)
        .exact cb p.2 (al.each p Z) h5 g E
       .rcases Qhs p Z with⟨q,hq,e'⟩|h5
        .rw[<-e'] at e;exact (aa.sepN g E).1 q hq e
        .have:=h5 g e;have:=be.o.1.lt g (be.o.1.namesT g E);omega
       .rw[<-b8];exact (be.o.2.1.trans (dD.ofBelow _ Qal)).setCell _ _ (λ_=>HH.o.own)
      have e8:aC W7 (Ad b 8)=aV (aH sa (aB G) sc):=by simp[aC,aa.box]
      have z8:aD W7 (Ad b 8)=false:=by simp[aD,aa.box]
      have de:W.heap.size<=W2.heap.size:=ca.o.2.size;have d2:W.heap.size<=W6.heap.size:=be.o.2.1.size
      have di:Hid (Qu T b (jd y d st 0) W W8/\gM W8 (aH sa (aB G) sc) G):=by
       have cr:jd y d st 0={y with clock:=d,mark:=d-y.lat,facts:=jJ y.win (d-y.lat) y.facts,state:=st}:=by unfold jd;simp
       show Qu T b (jd y d st 0) W W8/\_;rw[cr];refine⟨⟨⟨gQ (gQ T W2 W6) W6 W8,⟨_,_,_,_,_,_,_,_,_,bv.1⟩,λk A=>?_⟩,bv.2.1⟩,bv.2.2⟩;rcases A with (A|A)|A
       .exact aQ A
       .right;omega
       .right;omega
      have cf:Hid (nE y.rs (pA y.win (d-y.lat) y.facts) y.names st):=b3;have ew:aB ds=aB y.feeds:=by rw[<-HH.o.feedsm,aX]
      have h3:=HZ.o.f3;have ei:Hid (G.map (·.1)=y.state):=HH.o.statem;have cc:Hid (∀i,i<=aB y.feeds->aB (jd y d st i).feeds=aB y.feeds):=λi hi=>by unfold jd;simp;omega
      have HCe:Hid (∀Y i,i<=aB y.feeds->Qu T b (jd y d st i) W Y->∃(xa:Option Addr) (xc:Nat),aC Y (Ad b 9)=aV (aH xa (aB y.feeds) xc)/\aC Y (Ad b 5)=aV (Ii (d-y.lat))):=λY i hi hP=>by
       have⟨⟨T',⟨ev,vf',vn',ep,e7,ey,en,fb,dv,hv⟩,_⟩,_⟩:=hP;have⟨xa,xc,hx⟩:=qe hv.feeds;have hl:aB dv=aB y.feeds:=by rw[<-cc.o i hi,<-hv.feedsm,aX]
       subst hx;rw[hl] at hv;exact⟨xa,xc,by simp[aC,hv.box],by simp[aC,hv.box];rfl⟩
      clear bv aa al Qal b3;go_wp2_with fail
      go_loopw [11] (λp wr=>∃i:Nat,p=aM aP i/\i<=aB y.feeds/\Hid (Qu T b (jd y d st i) W wr/\gM wr (aH sa (aB G) sc) G)) (λp _=>aB y.feeds-(intOf p).toNat)
      case atStart=>exact⟨0,rfl,zz,di⟩
      case round=>
       clear di e8 z8 e0 z6 d6 d1 d5;obtain⟨j,rfl,ch,hP⟩:=hrel;have⟨xa,xc,x9,x5⟩:=HCe.o wr j ch hP.o.1;by_cases ah:j<aB y.feeds
       .have i2:(j:Int)<(aB y.feeds:Int):=by omega
        have bn:Hid (Cs 120 #[Pt b,Ii (j:Int),aH sa (aB G) sc] wr λe w'=>e=aO (aL #[])/\Hid (Qu T b (jd y d st (j+1)) W w'/\gM w' (aH sa (aB G) sc) G)):=by
         have⟨⟨⟨T',c2,ee⟩,ef⟩,bq⟩:=hP.o;have Qkm:(jd y d st j).feeds[j]?=aV y.feeds[j]:=by unfold jd;simp only;rw[List.getElem?_append_right (by simp;omega)];simp[bI ch]
         refine (eb.o j y.feeds[j] (List.getElem?_eq_getElem ah) (d-y.lat) st (cf.o.1.few co.o.fine) cf.o.1.ok wr T' _ _ G c2 Qkm bq ei.o rfl rfl rfl).mono ?_;rintro e w' ⟨k1,k2,k3⟩;have cj:{jd y d st j with feeds:=(jd y d st j).feeds.set j (iZ y.que (d-y.lat) y.state st y.feeds[j])}=jd y d st (j+1):=by unfold jd;simp only[Er.mk.injEq,true_and];rw[List.set_append_right _ _ (by simp;omega)];simp only[aX,bF,bI ch,Nat.sub_self];rw[aZ ah,List.map_append,List.append_assoc,List.drop_eq_getElem_cons ah];rfl
         rw[cj] at k2;refine⟨k1,Qu.trans' ⟨⟨c2,ee⟩,ef⟩ k2,⟨qn bq.row (λg E _=>?_),λp Z=>qn (bq.each p Z) (λg E _=>?_)⟩⟩
         .have⟨c,hc⟩:=qh bq.row E;exact k3 g c _ (by decide) (by decide) hc
         .have⟨c,hc⟩:=qh (bq.each p Z) E;exact k3 g c _ (by decide) (by decide) hc
        clear hP;go_wp2_with fail;refine Calls.mono bn.o ?_;rintro e' W9 ⟨rfl,d0⟩;clear bn;go_wp2;refine⟨⟨j+1,by go_num,by omega,d0⟩,by simp[intOf];omega⟩
       .have i2:¬(j:Int)<(aB y.feeds:Int):=by omega
        have c6:j=aB y.feeds:=by omega
        have hT:Hid (mU y _ (jd y d st (aB y.feeds)) (d-y.lat,0)):=HT.o _ _ (aR ⟨ek.2.2,rfl,st,cf.o,by unfold jd;simp⟩);have dr:Hid (Qu T b (jd y d st (aB y.feeds)) W wr):=by rw[<-c6];exact hP.o.1
        clear hP c6;go_wp2;go_ret2
        exact oM.mk _ _ hT.o rfl dr.o)
 .have hT:Hid (mU y c y (0,6)):=aQ ⟨hc,rfl,rfl⟩;have hS:Hid (∀Y,Below W.heap.size W Y->Qu T b y W Y):=λY hY=>Qu.same ⟨_,_,_,_,_,_,_,_,_,HH.o⟩ hY;by_cases e6:c<0
  .clear hc;go_enter Tryz.func68,Tryz.ntmps68;go_wp2;go_ret2;exact oM.mk y (0,6) hT.o rfl (hS.o _ zr)
  .have fi:1000000<c:=by omega
   clear hc;go_enter Tryz.func68,Tryz.ntmps68;go_wp2;go_ret2;exact oM.mk y (0,6) hT.o rfl (hS.o _ zr)
