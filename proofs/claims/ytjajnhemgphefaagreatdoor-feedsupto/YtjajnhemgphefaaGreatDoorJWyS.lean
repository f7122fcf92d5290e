/- A part -/
import Derived.Test.YtjajnhemgphefaaGreatDoorJWyQ
set_option linter.all false
set_option maxRecDepth 100000
set_option maxHeartbeats 4000000
open List renaming length->aB,length_map->bB,mem_map->bC
open Go.World renaming cell?->aC,frozen?->aD,ownsRow->aE
open Go.Value renaming ownBlock->aF,slice->aH,string->aI,agg->aJ,bool->aK,tuple->aL,int->aM
open Go.Obj renaming cells->aN
open Go.Ending renaming returned->aO
open Go.IntKind renaming i64->aP
open Or renaming inl->aQ,inr->aR
open Option renaming some->aV,none->aW
open Go.Calls renaming mono->aX
open Go.RowKit.Below renaming heap_setCell->aY,heap_alloc->aZ
open Go.RowKit renaming Below->bD
namespace Go.Proofs.YtjajnhemgphefaaGreatDoor
open Go renaming World->Wq,Value->Vq
open Go.RowKit Go.Shelf
variable {W W':Wq} {T:Nat->Prop} {b:Nat} {y y':Er} {vr vf vn vs vd:Vq} {qs:List (Rl×Vq×Vq)} {fs:List ((Gr×Int×Bool)×Vq)} {ss:List (Gr×Vq)} {ds:List (Fr×Vq×Vq)}
theorem Tryz.infoFact:(Tryz.prog.info? 233).map (λi=>(i.zero,i.size,i.bytes))=aV (aV (aJ #[St ⟨#[]⟩,aH aW 0 0,Ii 0,aK false]),4,56):=by kernel_rfl
structure sV(y:Er):Prop where
 r8:aB y.rs<=8
 body:∀r∈y.rs,aB r.body<=3
 win:1<=y.win/\y.win<=1000
 lat:0<=y.lat/\y.lat<=1000
 que:1<=y.que/\y.que<=50
 mark:0<=y.mark/\y.mark<=1000000
 clock:0<=y.clock/\y.clock<=1000000
 f24:aB y.facts<=24
 facts:∀f∈y.facts,aB f.1.args<=2/\0<=f.2.1/\f.2.1<=1000000
 n8:aB y.names<=8
 st:aB y.state<=2048
 f3:aB y.feeds<=3
theorem Ja(h:eI W T b y vr vf vn vs vd qs fs ss ds)(hz:sV y)(s:ByteArray)(hs:s.size<=1048576)(t:Int):Cs 67 #[Pt b,St s,Ii t] W λe w'=>e=aO (Ii (iv y s t).1)/\Qu T b (iv y s t).2 W w':=by
 have⟨va,vc,el⟩:=qe h.rules.row;have⟨fa,fc,ec⟩:=qe h.facts;have⟨na,nc,cx⟩:=qe h.names;have fw:b<W.heap.size:=h.lt b h.own;have c4:Hid (Cs 114 #[St s] W λe w'=>mK s W.heap.size e w'/\bD W.heap.size W w'):=DH s W hs;go_enter Tryz.func67,Tryz.ntmps67;go_wp2_with fail;refine aX c4.o ?_;rintro e' W1 ⟨h1,ai⟩
 obtain⟨a,oa,oc,a8,he,dh,ev,dp,az⟩:∃(a:Am) (oa:Option Addr) (oc:Nat) (a8:Bool),e'=aO (aL #[aJ #[St a.rel,aH oa (aB a.args) oc],aK a8])/\aE W1 W.heap.size 215 2 (aH oa (aB a.args) oc) (aB a.args) (a.args.flatMap iV)/\aB a.args<=2/\(a8=true->lw s=aV a)/\(a8=false->lw s=aW):=by
  unfold mK at h1
  cases ho:lw s with
  |none=>rw[ho] at h1;exact⟨⟨⟨#[]⟩,[]⟩,aW,0,false,h1,zo,by simp,λh=>(by cases h),λ_=>rfl⟩
  |some a=>rw[ho] at h1;have⟨fi,k1,k2,k3,k4,k5,k6⟩:=h1;obtain⟨oa,oc,rfl⟩:=qe k2;exact⟨a,oa,oc,true,k1,k2,k3,λ_=>rfl,λh=>(by cases h)⟩
 subst he;have bf:Hid (bD W.heap.size W W1):=ai;obtain⟨N,hN⟩:∃N,W.heap.size=N:=⟨_,rfl⟩;obtain⟨V,hV⟩:∃V,W1.alloc (aN #[St a.rel,aH oa (aB a.args) oc] 145)=V:=⟨_,rfl⟩;have c9:bD N W V:=by rw[<-hV,<-hN];exact ai.alloc ai.size _
 have b0:V.heap[W1.heap.size]?=cC #[St a.rel,aH oa (aB a.args) oc] 145:=by rw[<-hV];exact zn W1 _
 have c3:aE V N 215 2 (aH oa (aB a.args) oc) (aB a.args) (a.args.flatMap iV):=by rw[<-hV,<-hN];exact dh.alloc _
 have di:Hid _:=I7 (a,aH oa (aB a.args) oc) V (Qj c3 zz) (by show aB a.args<=1000;omega);have HV:Hid (bD N W V/\V.heap[W1.heap.size]?=cC #[St a.rel,aH oa (aB a.args) oc] 145):=⟨c9,b0⟩;have v0:aC V (Ad W1.heap.size 0)=aV (St a.rel):=zc b0;have v1:aC V (Ad W1.heap.size 1)=aV (aH oa (aB a.args) oc):=zc b0;clear c4 h1 ai dh c3 c9 b0;go_wp2_with fail;refine aX di.o ?_;clear di v0 v1;rintro e' W2 ⟨G,ag⟩
 obtain⟨g,z,d,fb,he,dq,d7,d0⟩:∃(g:Gr) (z:Option Addr) (d:Nat) (fb:Bool),e'=aO (aL #[aJ #[St g.rel,aH z (aB g.args) d],aK fb])/\aE W2 V.heap.size 9 1 (aH z (aB g.args) d) (aB g.args) (g.args.map aI)/\(fb=true->lX a=aV g)/\(fb=false->lX a=aW):=by
  unfold oN at G
  cases ho:lX a with
  |none=>simp only[ho] at G;exact⟨⟨⟨#[]⟩,[]⟩,aW,0,false,G,zo,λh=>(by cases h),λ_=>rfl⟩
  |some g=>simp only[ho] at G;have⟨vg,k1,k2⟩:=G;obtain⟨z,d,rfl⟩:=qe k2;exact⟨g,z,d,true,k1,k2,λ_=>rfl,λh=>(by cases h)⟩
 subst he;clear G;obtain⟨X,hX⟩:∃X,W2.alloc (aN #[St g.rel,aH z (aB g.args) d] 226)=X:=⟨_,rfl⟩;have b3:bD V.heap.size V X:=by rw[<-hX];exact ag.alloc ag.size _
 have d5:bD N W X:=HV.o.1.trans (b3.mono (by have:=HV.o.1.size;omega));have bv:X.heap[W2.heap.size]?=cC #[St g.rel,aH z (aB g.args) d] 226:=by rw[<-hX];exact zn W2 _
 have b5:X.heap[W1.heap.size]?=cC #[St a.rel,aH oa (aB a.args) oc] 145:=(b3.block _ (zg HV.o.2).1).trans HV.o.2;have dc:aE X V.heap.size 9 1 (aH z (aB g.args) d) (aB g.args) (g.args.map aI):=by rw[<-hX];exact dq.alloc _
 have a0:aC X (Ad W1.heap.size 0)=aV (St a.rel):=zc b5;have hq:aB qs<=1000:=by have:=hz.r8;rw[<-h.rsm,bB] at this;omega
 have ck:∀q∈qs,aB q.1.body<=900:=λq hq=>by have:=hz.body q.1 (by rw[<-h.rsm];exact bC.2 ⟨q,hq,rfl⟩);omega
 have cv:dM y.rs=Q8 qs:=by rw[<-h.rsm];unfold dM Q8;rw[List.flatMap_map]
 have dg:Hid (aB fs=aB y.facts):=by show _=_;rw[<-h.factsm,bB]
 subst el ec cx;obtain⟨NA,cg⟩:∃NA,W1.heap.size=NA:=⟨_,rfl⟩;obtain⟨A,cr⟩:∃A,W2.heap.size=A:=⟨_,rfl⟩;rw[cg] at b5 a0;rw[cr] at bv;have ee:=b3.size;have dw:=HV.o.1.size;have c2:Hid (W.heap.size<=V.heap.size):=dw;have Qju:N<=NA/\NA<V.heap.size:=by have h1:=HV.o.2;rw[cg] at h1;refine⟨?_,(zg h1).1⟩;have:NA<V.heap.size:=(zg h1).1;rw[<-hV] at this;simp at this;have G:W.heap.size<=W1.heap.size:=bf.o.size;omega
 have Qjv:V.heap.size<=A:=by rw[<-cr];exact ag.size
 have HX:Hid (∀Y,bD X.heap.size X Y->bD N W Y/\eI Y T b y (aH va (aB qs) vc) (aH fa (aB fs) fc) (aH na (aB y.names) nc) vs vd qs fs ss ds/\Y.heap[NA]?=cC #[St a.rel,aH oa (aB a.args) oc] 145/\Y.heap[A]?=cC #[St g.rel,aH z (aB g.args) d] 226/\aE Y V.heap.size 9 1 (aH z (aB g.args) d) (aB g.args) (g.args.map aI)):=λY hY=>by have h1:bD N W Y:=d5.trans (hY.mono (by omega));exact⟨h1,h.below (hN ▸ h1),(hY.block _ (by omega)).trans b5,(hY.block _ (zg bv).1).trans bv,qj dc hY⟩
 have Qgi:Hid _:=JB (HX.o X zr).2.1 hq ck a.rel;have HC:Hid (∀Y,bD X.heap.size X Y->aC Y (Ad b 0)=aV (aH va (aB qs) vc)/\aC Y (Ad NA 0)=aV (St a.rel)):=λY hY=>by have⟨_,G,h3,_⟩:=HX.o Y hY;exact⟨by simp[aC,G.box],zc h3⟩
 have dx:Hid (∀Y,bD X.heap.size X Y->Cs 117 #[aH va (aB qs) vc,St a.rel] Y.drew λe w'=>e=aO (Ii (fU (dM y.rs) a.rel:Int))/\(aC w' (Ad b 0)=aV (aH va (aB qs) vc)/\aC w' (Ad NA 0)=aV (St a.rel))/\Hid (bD X.heap.size X w')):=λY hY=>by have⟨_,G,h3,_⟩:=HX.o Y.drew hY.drew;rw[cv];refine (sZ _ qs a.rel Y.drew G.rules hq ck).mono ?_;rintro e w' ⟨k1,k2⟩;have k3:bD X.heap.size X w':=hY.drew.trans (k2.mono hY.drew.size);exact⟨k1,HC.o w' k3,k3⟩
 clear d5 ag dq b3 b5 bv dc hV HV bf ee Qjv Qju;go_wp2_with fail;refine aX Qgi.o ?_;rintro e' W3 ⟨rfl,an⟩;have Qgh:=dx.o W3 an;have⟨c0,z0⟩:=HC.o W3.drew an.drew;clear Qgi a0 dx hX;go_wp2_with fail
 first|(go_region_held3 (λw'=>aC w' (Ad b 0)=aV (aH va (aB qs) vc)/\aC w' (Ad NA 0)=aV (St a.rel)) (first|with_reducible exact⟨c0,z0⟩|with_reducible assumption) (first|(go_at_call 117;refine aX Qgh ?_;rintro e' W4 ⟨rfl,cu,d6⟩)|go_simp))|fail
 obtain⟨ar,b7⟩:∃ar,fU (Q8 qs) a.rel=ar:=⟨_,rfl⟩;obtain⟨bb,cb⟩:∃bb,mh y.rs a.rel=bb:=⟨_,rfl⟩;have dk:Hid (fU (dM y.rs) a.rel=ar):=by show _=_;rw[cv];exact b7
 have d1:Hid (mh y.rs a.rel=bb):=cb;rw[b7,cb];clear b7 cb Qgh cu c0 z0 an;have HS:Hid (∀Y,bD X.heap.size X Y->Qu T b y W Y):=λY hY=>Qu.same ⟨_,_,_,_,_,_,_,_,_,h⟩ (hN ▸ (HX.o Y hY).1);have ak:Hid (bD X.heap.size X W4):=d6.o;have da:Hid (∀Y,bD X.heap.size X Y->aC Y (Ad NA 1)=aV (aH oa (aB a.args) oc)/\aC Y (Ad b 1)=aV (Ii y.win)/\aC Y (Ad b 5)=aV (Ii y.mark)/\aC Y (Ad b 6)=aV (aH fa (aB fs) fc)/\aC Y (Ad b 7)=aV (aH na (aB y.names) nc)):=λY hY=>by have⟨_,G,h3,_⟩:=HX.o Y hY;exact⟨zc h3,by simp[aC,G.box],by simp[aC,G.box],by simp[aC,G.box],by simp[aC,G.box]⟩
 have HI:Hid (iv y s t=match lw s with
  |none=>(2,y)
  |some a=>match lX a with
   |none=>(2,y)
   |some g=>if mh y.rs a.rel=false then (7,y) else if fU (dM y.rs) a.rel≠a.args.length then (4,y) else if ¬(0<=t/\t<=1000000) then (6,y) else if t+y.win<=y.mark then (8,y) else if y.facts.any (λf=>jt f.1 g && decide (f.2.1=t))=true then (9,y) else if 24<=aB y.facts\/8<aB (dP y.names g.args) then (10,y) else (0,{y with names:=dP y.names g.args,facts:=y.facts++[(g,t,false)]})):=rfl
 have⟨p1,p2,p3,p4,p5⟩:=da.o W4 ak.o;have Qmr:=hz.win;have ft:=hz.mark;have HZ:Hid (sV y):=hz;have HH:Hid (eI W T b y (aH va (aB qs) vc) (aH fa (aB fs) fc) (aH na (aB y.names) nc) vs vd qs fs ss ds):=h;clear cv ck hq d6 h hz HC cg cr dw
 cases a8 with
 |false=>
  have M:Hid (iv y s t=(2,y)):=by show _=_;rw[HI.o,az rfl]
  clear HI;go_wp2;go_ret;rw[M.o];exact⟨rfl,HS.o _ ak.o⟩
 |true=>
  have cl:=dp rfl
  cases fb with
  |false=>
   have M:Hid (iv y s t=(2,y)):=by show _=_;rw[HI.o,cl];simp only[d0 rfl]
   clear HI;go_wp2;go_ret;rw[M.o];exact⟨rfl,HS.o _ ak.o⟩
  |true=>
   have am:=d7 rfl;have ab:Hid (iv y s t=if bb=false then (7,y) else if ar≠a.args.length then (4,y) else if ¬(0<=t/\t<=1000000) then (6,y) else if t+y.win<=y.mark then (8,y) else if y.facts.any (λf=>jt f.1 g && decide (f.2.1=t))=true then (9,y) else if 24<=aB y.facts\/8<aB (dP y.names g.args) then (10,y) else (0,{y with names:=dP y.names g.args,facts:=y.facts++[(g,t,false)]})):=by show _=_;rw[HI.o,cl];simp only[am,dk.o,d1.o]
   have fh:aB g.args<=2:=by
    unfold lX at am;split at am
    .cases am
    .injection am with am;subst am;simpa using ev
   clear HI dp az d7 d0 cl am dk d1
   cases bb with
   |false=>
    have M:Hid (iv y s t=(7,y)):=by show _=_;rw[ab.o,if_pos rfl]
    clear ab;go_wp2;go_ret;rw[M.o];exact⟨rfl,HS.o _ ak.o⟩
   |true=>
    rw[if_neg (by decide)] at ab;by_cases ha:ar=aB a.args
    .rw[if_neg (by simpa using ha)] at ab;have cz:(ar:Int)=(aB a.args:Int):=by omega
     by_cases dv:0<=t
     .by_cases dt:t<=1000000
      .rw[if_neg (by simp[dv,dt])] at ab;have t0:¬t<0:=by omega
       have t1:¬1000000<t:=by omega
       by_cases dd:t+y.win<=y.mark
       .have M:Hid (iv y s t=(8,y)):=by show _=_;rw[ab.o,if_pos dd]
        clear ab;go_wp2_with fail;go_quiet (fail);go_wp2;go_ret;rw[M.o];exact⟨rfl,HS.o _ (qy ak.o)⟩
       .rw[if_neg dd] at ab;go_wp2_with fail;go_quiet (fail);have dz:Hid (bD X.heap.size X (W4.drewN nq)):=qy ak.o;generalize W4.drewN nq=W5 at *;clear p1 p2 p3 p4 p5 ak;have HF:Hid (∀Y,bD X.heap.size X Y->∀(k:Nat) (E:k<aB fs),∃(gf:Nat) (u1:Option Addr) (u2:Nat),fa=aV ⟨gf,0,aW⟩/\fs[k].2=aH u1 (aB fs[k].1.1.args) u2/\aC Y (Ad gf (k*4))=aV (St fs[k].1.1.rel)/\aC Y (Ad gf (k*4+1))=aV (aH u1 (aB fs[k].1.1.args) u2)/\aC Y (Ad gf (k*4+2))=aV (Ii fs[k].1.2.1)/\qv Y (aH u1 (aB fs[k].1.1.args) u2) fs[k].1.1.args/\aB fs[k].1.1.args<=2):=λY hY k E=>by have⟨_,G,_⟩:=HX.o Y hY;have⟨gf,cap,e1,_,_,_,e2⟩:=iI G.facts (λ_=>rfl) (by omega);have⟨s1,_⟩:=G.facte fs[k] (zm E);have⟨u1,u2,e3⟩:=qe s1;have bj:=(HZ.o.facts fs[k].1 (by rw[<-G.factsm];exact bC.2 ⟨_,List.getElem_mem E,rfl⟩)).1;have e4:=e2 k 1 E _ (by decide) rfl;rw[e3] at s1 e4;simp only[aH.injEq] at e1;exact⟨gf,u1,u2,e1.1,e3,e2 k 0 E _ (by decide) rfl,e4,e2 k 2 E _ (by decide) rfl,s1,bj⟩
        have HG:Hid (∀Y,bD X.heap.size X Y->aC Y (Ad b 6)=aV (aH fa (aB fs) fc)/\aC Y (Ad A 0)=aV (St g.rel)/\aC Y (Ad A 1)=aV (aH z (aB g.args) d)/\qv Y (aH z (aB g.args) d) g.args):=λY hY=>by have⟨_,G,_,h4,h5⟩:=HX.o Y hY;exact⟨by simp[aC,G.box],zc h4,zc h4,Qj h5 zz⟩
        have c8:Hid (y.facts.any (λf=>jt f.1 g && decide (f.2.1=t))=(fs.drop 0).any (λf=>jt f.1.1 g && decide (f.1.2.1=t))):=by show _=_;rw[<-HH.o.factsm,List.any_map];rfl
        have Qhc:aB fs<=24:=by have:=HZ.o.f24;have:=dg.o;omega
        generalize y.facts.any (λf=>jt f.1 g && decide (f.2.1=t))=twice at *;go_wp2_with fail
        go_loopw [13] (λp wr=>∃i:Nat,p=aM aP i/\i<=aB fs/\Hid (bD X.heap.size X wr)/\Hid (twice=(fs.drop i).any (λf=>jt f.1.1 g && decide (f.1.2.1=t)))) (λp _=>aB fs-(intOf p).toNat)
        case atStart=>exact⟨0,rfl,zz,dz,c8⟩
        case round=>
         clear c8 dz;obtain⟨i,rfl,ep,aj,ah⟩:=hrel;have⟨c6,n0,n1,d8⟩:=HG.o wr aj.o;by_cases ad:i<aB fs
         .have i1:(i:Int)<(aB fs:Int):=by omega
          obtain⟨gf,u1,u2,rfl,e3,f0,f1,f2,e8,c1⟩:=HF.o wr aj.o i ad;rw[List.drop_eq_getElem_cons ad,List.any_cons] at ah;have⟨w6,m0,m1,Qgp⟩:=HG.o wr.drew aj.o.drew;have⟨e9,_,_,ci,bd,g0,g1,g2,Qgn,_⟩:=HF.o wr.drew aj.o.drew i ad;cases ci;rw[e3] at bd;cases bd
          have bc:Hid (Cs 118 #[aJ #[St fs[i].1.1.rel,aH u1 (aB fs[i].1.1.args) u2],aJ #[St g.rel,aH z (aB g.args) d]] wr.drew λe w'=>e=aO (aK (jt fs[i].1.1 g))/\(aC w' (Ad b 6)=aV (Sc gf (aB fs) fc)/\aC w' (Ad gf (i*4))=aV (St fs[i].1.1.rel)/\aC w' (Ad gf (i*4+1))=aV (aH u1 (aB fs[i].1.1.args) u2)/\aC w' (Ad A 0)=aV (St g.rel)/\aC w' (Ad A 1)=aV (aH z (aB g.args) d))/\aC w' (Ad gf (i*4+2))=aV (Ii fs[i].1.2.1)/\Hid (bD X.heap.size X w')):=by
           refine (xx (fs[i].1.1,aH u1 (aB fs[i].1.1.args) u2) (g,aH z (aB g.args) d) wr.drew Qgn Qgp (by show aB fs[i].1.1.args<=1000000;omega)).mono ?_;rintro e w' ⟨k1,k2⟩;have k3:bD X.heap.size X w':=aj.o.drew.trans (k2.mono aj.o.drew.size);have⟨j6,j0,j1,_⟩:=HG.o w' k3;have⟨e9,_,_,ci,bd,l0,l1,l2,_,_⟩:=HF.o w' k3 i ad;cases ci;rw[e3] at bd;cases bd;exact⟨k1,⟨j6,l0,l1,j0,j1⟩,l2,k3⟩
          clear d8 e8 Qgp Qgn g2 e3;go_wp2_with fail
          first|(go_region_held3 (λw'=>aC w' (Ad b 6)=aV (Sc gf (aB fs) fc)/\aC w' (Ad gf (i*4))=aV (St fs[i].1.1.rel)/\aC w' (Ad gf (i*4+1))=aV (aH u1 (aB fs[i].1.1.args) u2)/\aC w' (Ad A 0)=aV (St g.rel)/\aC w' (Ad A 1)=aV (aH z (aB g.args) d)) (first|with_reducible exact⟨w6,g0,g1,m0,m1⟩|with_reducible assumption) (first|(go_at_call 118;refine aX bc.o ?_;rintro e' W6 ⟨rfl,cu,en,be⟩)|go_simp))|fail
          have⟨j6,l0,l1,j0,j1⟩:=cu;clear w6 m0 m1 g0 g1 bc aj c6 n0 n1 f0 f1 f2;have eh:Hid (fs[i].1.2.1=fs[i].1.2.1):=rfl;obtain⟨tm,ct⟩:∃tm,fs[i].1.2.1=tm:=⟨_,rfl⟩;obtain⟨sb,cj⟩:∃sb,jt fs[i].1.1 g=sb:=⟨_,rfl⟩;rw[ct,cj] at ah;rw[ct] at en;rw[cj];clear ct cj eh
          cases sb with
          |false=>rw[Bool.false_and,Bool.false_or] at ah;go_wp2;refine⟨⟨i+1,by go_num,by omega,be,ah⟩,by simp[intOf];omega⟩
          |true=>
           by_cases he:tm=t
           .rw[show (true && decide (tm=t))=true by simp[he],Bool.true_or] at ah;have Qev:twice=true:=ah.o;subst Qev;rw[if_pos rfl] at ab;have M:Hid (iv y s t=(9,y)):=ab;clear ab;go_wp2_with fail
            try go_quiet (fail)
            go_wp2;go_ret;rw[M.o];exact⟨rfl,HS.o _ (by first|exact be.o|exact qy be.o)⟩
           .rw[show (true && decide (tm=t))=false by simp[he],Bool.false_or] at ah;go_wp2_with fail
            try go_quiet (fail)
            go_wp2;refine⟨⟨i+1,by go_num,by omega,by first|exact be|exact qy be.o,ah⟩,by simp[intOf];omega⟩
         .have i1:¬(i:Int)<(aB fs:Int):=by omega
          rw[List.drop_eq_nil_of_le (by omega)] at ah;have Qev:twice=false:=ah.o;subst Qev;rw[if_neg (by decide)] at ab;have c7:aC wr (Ad b 7)=aV (aH na (aB y.names) nc):=(da.o wr aj.o).2.2.2.2;clear ah;have⟨_,b8,_,dy,co⟩:=HX.o wr aj.o;have hT:∀k,T k->k<W.heap.size:=HH.o.lt;have d4:=(HX.o wr aj.o).1;have Qcg:∀k,aF (aH z (aB g.args) d)=aV k->V.heap.size<=k:=λk E=>(qd co E).1;have Qgd:Hid (l8 W T b y (aH va (aB qs) vc) (aH fa (aB fs) fc) (aH na (aB y.names) nc) vs vd qs fs ss ds wr (aH na (aB y.names) nc) (dP y.names (g.args.take 0))/\wr.heap[A]?=cC #[St g.rel,aH z (aB g.args) d] 226/\qv wr (aH z (aB g.args) d) g.args/\∀k,aF (aH na (aB y.names) nc)=aV k->aF (aH z (aB g.args) d)≠aV k):=by refine⟨⟨dD.ofBelow _ (hN ▸ d4),b8,b8.names,⟨[],by simp[dP]⟩,aQ rfl⟩,dy,Qj co zz,λk E ae=>?_⟩;have h1:=Qcg k ae;have G:=hT k (HH.o.namesT k E);have h3:=c2.o;omega
          have fk:aB y.names<=8:=HZ.o.n8;have dj:Hid (∀k,T k->k<W.heap.size):=hT;clear b8 dy co d4 Qcg hT n0 n1 d8;go_wp2_with fail
          go_loopw [15,16] (λo p wr=>∃(i:Nat) (vo:Vq),vo=o/\p=aM aP i/\i<=aB g.args/\Hid (l8 W T b y (aH va (aB qs) vc) (aH fa (aB fs) fc) (aH na (aB y.names) nc) vs vd qs fs ss ds wr vo (dP y.names (g.args.take i))/\wr.heap[A]?=aV (aN #[aI g.rel,aH z (aB g.args) d] 226)/\qv wr (aH z (aB g.args) d) g.args/\∀k,aF vo=aV k->aF (aH z (aB g.args) d)≠aV k)) (λ_ p _=>aB g.args-(intOf p).toNat)
          case atStart=>exact⟨0,_,rfl,rfl,zz,Qgd⟩
          case round=>
           clear Qgd;obtain⟨j,vo,rfl,rfl,ep,Z⟩:=hrel;have⟨cn,cy,ew⟩:=qe Z.o.1.row;subst ew;have n1:aC wr (Ad A 1)=aV (aH z (aB g.args) d):=by simp[aC,Z.o.2.1]
           have cd:=yE (g.args.take j) y.names;rw[List.length_take] at cd;by_cases ad:j<aB g.args
           .have i2:(j:Int)<(aB g.args:Int):=by omega
            have⟨gg,eo,e0,fo,ff⟩:=Z.o.2.2.1.cell j ad;cases e0;have de:Hid _:=GG 0 _ _ g.args[j] wr zz (by omega) Z.o.1.row;have bh:dP y.names (g.args.take (j+1))=Qq (dP y.names (g.args.take j)) g.args[j]:=by unfold dP;rw[List.take_succ_eq_append_getElem ad,List.foldl_append];rfl
            have eb:Hid _:=bh;clear bh;go_wp2_with fail;refine aX de.o ?_;rintro e' W7 ⟨v',rfl,r1,r2,b4,cq⟩
            have em:Hid (l8 W T b y (aH va (aB qs) vc) (aH fa (aB fs) fc) (aH na (aB y.names) nc) vs vd qs fs ss ds W7 v' (dP y.names (g.args.take (j+1)))/\W7.heap[A]?=cC #[St g.rel,Sc gg (aB g.args) d] 226/\qv W7 (Sc gg (aB g.args) d) g.args/\∀k,aF v'=aV k->aF (aH (aV ⟨gg,0,aW⟩) (aB g.args) d)≠aV k):=by
             have⟨q1,q2,q3,q4⟩:=Z.o;have Qkw:A<wr.heap.size:=(zg q2).1;refine⟨by rw[eb.o];exact q1.step dj.o _ r1 r2 b4 cq,(b4.block A Qkw (λe=>?_)).trans q2,qn q3 (λk E ad=>b4.block k ad (λe=>q4 k e.symm E)),λk E ae=>?_⟩
             .have⟨c,hc⟩:=qh q1.row e.symm;rw[q2] at hc;cases hc
             .rcases cq with h5|h5
              .rw[h5] at E;exact q4 k E ae
              .have:=h5 k E;have⟨c,hc⟩:=qh q3 ae;have:=(zg hc).1;omega
            clear Z de r1 r2 b4 cq;go_wp2;refine⟨⟨j+1,v',rfl,by go_num,by omega,em⟩,by simp[intOf];omega⟩
           .have i2:¬(j:Int)<(aB g.args:Int):=by omega
            have bh:g.args.take j=g.args:=List.take_of_length_le (by omega);rw[bh] at Z cd ⊢;obtain⟨ay,b9⟩:∃n,aB (dP y.names g.args)=n:=⟨_,rfl⟩;rw[b9] at Z cd ab ⊢;have p6:aC wr (Ad b 6)=aV (aH fa (aB fs) fc):=by simp[aC,Z.o.1.er.box]
            have p7:aC wr (Ad b 7)=aV (aH na (aB y.names) nc):=by simp[aC,Z.o.1.er.box]
            have z7:aD wr (Ad b 7)=false:=by simp[aD,Z.o.1.er.box]
            have m0:aC wr (Ad A 0)=aV (St g.rel):=by simp[aC,Z.o.2.1]
            rw[<-dg.o] at ab;clear bh;by_cases hF:24<=aB fs\/8<ay
            .rw[if_pos hF] at ab;have M:Hid (iv y s t=(10,y)):=ab;have dr:Hid (∀q,Qu T b y W (wr.drewN q)):=λq=>by have h5:bD wr.heap.size wr (wr.drewN q):=qy zr;exact⟨⟨T,⟨_,_,_,_,_,_,_,_,_,(Z.o.1.keep h5).er⟩,λk E=>aQ E⟩,(Z.o.1.keep h5).chg⟩
             have d2:Hid (Qu T b y W wr):=⟨⟨T,⟨_,_,_,_,_,_,_,_,_,Z.o.1.er⟩,λk E=>aQ E⟩,Z.o.1.chg⟩;clear ab;by_cases fm:24<=aB fs
             .have x1:(24:Int)<=(aB fs:Int):=by omega
              go_wp2_with fail
              try go_quiet (fail)
              go_wp2;go_ret;rw[M.o];exact⟨rfl,by first|exact d2.o|exact dr.o _⟩
             .have x1:¬(24:Int)<=(aB fs:Int):=by omega
              have x2:(8:Int)<(ay:Int):=by omega
              go_wp2_with fail
              try go_quiet (fail)
              go_wp2;go_ret;rw[M.o];exact⟨rfl,by first|exact d2.o|exact dr.o _⟩
            .rw[if_neg hF] at ab;have x1:¬(24:Int)<=(aB fs:Int):=by omega
             have x2:¬(8:Int)<(ay:Int):=by omega
             obtain⟨C,a7⟩:∃C,wr.setCell (Ad b 7) (aH cn ay cy)=C:=⟨_,rfl⟩;have M:Hid (iv y s t=(0,{y with names:=dP y.names g.args,facts:=y.facts++[(g,t,false)]})):=ab;have fr:Hid _:=Z;have⟨q1,q2,q3,q4⟩:=Z.o;have Qgm:A≠b:=λe=>by rw[e,q1.er.box] at q2;cases q2
             have Qav:C.heap[b]?=cC #[aH va (aB qs) vc,Ii y.win,Ii y.lat,Ii y.que,Ii y.clock,Ii y.mark,aH fa (aB fs) fc,aH cn ay cy,vs,vd] 222:=by rw[<-a7];exact qw q1.er.box 7 _
             have av:C.heap[A]?=cC #[St g.rel,aH z (aB g.args) d] 226:=by rw[<-a7];exact (aY wr ⟨b,7,aW⟩ _ A Qgm).trans q2
             have s6:aC C.drew (Ad b 6)=aV (aH fa (aB fs) fc):=by show aC C _=_;simp[aC,Qav]
             have s0:aC C.drew (Ad A 0)=aV (St g.rel):=by show aC C _=_;simp[aC,av]
             have s1:aC C.drew (Ad A 1)=aV (aH z (aB g.args) d):=by show aC C _=_;simp[aC,av]
             obtain⟨O,hO⟩:∃O,aN #[St g.rel,aH z (aB g.args) d,Ii t,aK false] 233 (0,0)=O:=⟨_,rfl⟩;have ea:Hid (aE (C.alloc O) 0 233 4 (aH fa (aB fs) fc) (aB fs) (fs.flatMap jC)):=by refine aE.alloc (qn (W:=wr) q1.er.facts (λk E _=>?_)) O;rw[<-a7];refine aY wr ⟨b,7,aW⟩ _ k (λe=>?_);have⟨c,hc⟩:=qh q1.er.facts E;have e':k=b:=e;rw[e',q1.er.box] at hc;cases hc
             have fp:Hid (aC (C.alloc O) (Ad A 0)=aV (St g.rel)/\aC (C.alloc O) (Ad A 1)=aV (aH z (aB g.args) d)):=by have:=(aZ C O A (zg av).1).trans av;exact⟨zc this,zc this⟩
             have fv:aC (C.alloc O).drew (Ad b 6)=aV (aH fa (aB fs) fc):=by have:=(aZ C O b (zg Qav).1).trans Qav;show aC (C.alloc O) _=_;simp[aC,this]
             have ey:Hid (∀(j:Nat) (u:Vq),[aI g.rel,aH z (aB g.args) d,Ii t,aK false][j]?=aV u->aC (C.alloc O) ((⟨C.heap.size,0,aW⟩:Addr).add j)=aV u):=by rw[<-hO];exact mF _ _ _ _ _ _
             have Qau:∀k,aF (aH z (aB g.args) d)=aV k->W.heap.size<=k:=λk E=>by have h1:=(qd (HX.o X zr).2.2.2.2 E).1;have:=c2.o;omega
             have db:=dj.o
             have Qf:Hid (∀(w1:Wq) (v':Vq),aE w1 0 233 4 v' (aB fs+1) (fs.flatMap jC++[St g.rel,aH z (aB g.args) d,Ii t,aK false])->(C.alloc O).grownBy w1 (aF (aH fa (aB fs) fc))->(aF v'=aF (aH fa (aB fs) fc)\/aF v'=aV (C.alloc O).heap.size)->aC w1 (Ad b 6)=aV (aH fa (aB fs) fc)/\aD w1 (Ad b 6)=false/\aC w1 (Ad A 0)=aV (St g.rel)/\aC w1 (Ad A 1)=aV (aH z (aB g.args) d)/\aC (w1.setCell (Ad b 6) v') (Ad A 0)=aV (St g.rel)/\aC (w1.setCell (Ad b 6) v') (Ad A 1)=aV (aH z (aB g.args) d)/\Hid (Qu T b {y with names:=dP y.names g.args,facts:=y.facts++[(g,t,false)]} W (w1.setCell (Ad b 6) v'))):=λw1 v' ho hg e6=>by
              have al:((wr.setCell (Ad b 7) (aH cn ay cy)).alloc O).grownBy w1 (aF (aH fa (aB fs) fc)):=by rw[a7];exact hg
              have⟨k1,k2,k3⟩:=q1.inserted db g t q3 Qau q4 O al ho (by rw[a7];exact e6);have Qez:w1.heap[A]?=cC #[St g.rel,aH z (aB g.args) d] 226:=by have ad:A<C.heap.size:=(zg av).1;refine ((hg.block A (by simp;omega) (λe=>?_)).trans (aZ C O A ad)).trans av;have⟨c,hc⟩:=qh q1.er.facts e.symm;rw[q2] at hc;cases hc
              have Qip:(w1.setCell (Ad b 6) v').heap[A]?=cC #[St g.rel,aH z (aB g.args) d] 226:=(aY w1 ⟨b,6,aW⟩ v' A Qgm).trans Qez;exact⟨k1,k2,zc Qez,zc Qez,zc Qip,zc Qip,k3⟩
             clear Z q1 q2 q3 q4 Qav av ab Qau db;have⟨i0,fe,ei,bj,dm⟩:=info_parts Tryz.infoFact;have eu:aB fs+1<=maxLen:=by unfold maxLen;omega
             have ef:(aB fs+1)*56<=140737488355328:=by omega
             go_wp2_with fail
             (go_region_law (first|(refine tV rfl (.tmp 142) (.tmp 146) 219 rfl 0 233 i0 (aJ #[St ⟨#[]⟩,aH aW 0 0,Ii 0,aK false]) 4 56 Tryz.underlying219 fe ei bj dm rfl (by decide) (aH fa (aB fs) fc) (aB fs) (fs.flatMap jC) (by simp[Act.eval,Act.put]) ea.o ⟨C.heap.size,0,aW⟩ 1 1 [St g.rel,aH z (aB g.args) d,Ii t,aK false] (by simp[Act.eval,Act.put]) rfl ey.o (by simp[Value.oneCell']) eu ef zz ?_;intro v' w1 af aa a9;have⟨g',ej,e7⟩:=ownsRow_succ af;subst e7;have⟨f6,y6,f0,f1,f2,f3,es⟩:=Qf.o w1 _ af ⟨aa.os,aa.tape,aa.output,aa.size,aa.block⟩ a9)|go_simp))
             all_goals clear af aa a9
             all_goals go_wp2
             all_goals go_ret
             all_goals (rw[M.o];exact⟨rfl,es.o⟩)
      .have M:Hid (iv y s t=(6,y)):=by show _=_;rw[ab.o,if_pos (by simp[dt])]
       have t0:¬t<0:=by omega
       have t1:1000000<t:=by omega
       clear ab;go_wp2;go_ret;rw[M.o];exact⟨rfl,HS.o _ ak.o⟩
     .have M:Hid (iv y s t=(6,y)):=by show _=_;rw[ab.o,if_pos (by simp[dv])]
      have t0:t<0:=by omega
      clear ab;go_wp2;go_ret;rw[M.o];exact⟨rfl,HS.o _ ak.o⟩
    .have M:Hid (iv y s t=(4,y)):=by show _=_;rw[ab.o,if_pos (by simpa using ha)]
     have cz:¬((ar:Int)=(aB a.args:Int)):=by omega
     clear ab;go_wp2;go_ret;rw[M.o];exact⟨rfl,HS.o _ ak.o⟩
structure yG(y:Er):Prop where
 fine:jM y.rs y.names
 gr:∀f∈y.facts,ja y.rs y.names f.1
 st:∀g∈y.state,ja y.rs y.names g
theorem FL{R:List Rl}{d:List ByteArray}(h:jM R d){g:Gr}(z:ja R d g):aB g.args<=2:=by have⟨a,ha,_,h2⟩:=z.rel;have⟨r,hr,cz⟩:=List.mem_flatMap.1 ha;have:=((h.each r hr).args a cz).1;omega
def nM(rs:List Rl)(win lat que:Int)(st:List Gr):Er:=⟨rs,win,lat,que,0,0,[],dG [] (Q0 (dM rs)),st,[]⟩
def mZ(s:ByteArray)(win lat que:Int)(w:Wq)(e:Ending)(w':Wq):Prop:=
 bD w.heap.size w w'/\match gv s with
 |.error (c,_)=>e=aO (aL #[.pointer aW,aM aP c])
 |.ok rs=>(iY win lat que/\∃(b:Nat) (T:Nat->Prop) (st:List Gr),e=aO (aL #[.pointer (aV ⟨b,0,aW⟩),aM aP 0])/\nE rs [] (dG [] (Q0 (dM rs))) st/\jF w' T b (nM rs win lat que st)/\∀k,T k->w.heap.size<=k)\/(¬iY win lat que/\e=aO (aL #[.pointer aW,aM aP 6]))
theorem F5(s:ByteArray)(win d que:Int)(w:Wq)(hs:s.size<=1048576):Cs 66 #[St s,Ii win,Ii d,Ii que] w (mZ s win d que w):=by
 have b6:Hid _:=IB s w hs
 cases z:gv s with
 |error cp=>
  have⟨c,p⟩:=cp;have et:c≠0:=tH s c p z;have hu:mZ s win d que w=λe w'=>bD w.heap.size w w'/\e=aO (aL #[.pointer aW,Ii c]):=by{funext e w';unfold mZ;rw[z]};rw[hu];have fq:(c == 0)=false:=by{simpa using et};have HP:=aA z;clear hu z;go_enter Tryz.func66,Tryz.ntmps66;go_wp2_with fail;refine aX b6.o ?_;rintro e' W1 ⟨M,ai⟩;unfold l5 at M;rw[HP.o] at M;subst M;go_wp2;go_ret2;exact⟨ai,rfl⟩
 |ok rs=>
  have aq:=uH s rs z;have hu:mZ s win d que w=λe w'=>bD w.heap.size w w'/\((iY win d que/\∃(b:Nat) (T:Nat->Prop) (st:List Gr),e=aO (aL #[Pt b,Ii 0])/\nE rs [] (dG [] (Q0 (dM rs))) st/\jF w' T b (nM rs win d que st)/\∀k,T k->w.heap.size<=k)\/(¬iY win d que/\e=aO (aL #[.pointer aW,Ii 6]))):=by{funext e w';unfold mZ;rw[z]};rw[hu];have Qcc:jM rs (dG [] (Q0 (dM rs))):=by{have h8:=aq.new.n8 (aB rs);rw[List.take_length,aq.names] at h8;refine aq.fine _ h8 ?_ (λx hx=>by rw[<-aq.names];exact hx);have:=aq.ne;rw[aq.names] at this;exact this};have du:=aA Qcc;have HP:=aA z;clear hu z Qcc aq;go_enter Tryz.func66,Tryz.ntmps66;go_wp2_with fail;refine aX b6.o ?_;rintro e' W1 ⟨M,ai⟩;unfold l5 at M;rw[HP.o] at M;obtain⟨v,qs,rfl,hR,bn,C,h8,bc⟩:=M;obtain⟨va,vc,rfl⟩:=qe hR.row;have bf:=aA ai;by_cases E:iY win d que
  .have HA:=aA E;have⟨⟨a1,a2⟩,⟨a3,a4⟩,a5,a6⟩:=E;have e5:aB qs<=1000:=C.few;have ap:Hid _:=Bu (aH va (aB qs) vc) qs W1 hR C.few C.body C.tms (λa E=>(C.args a E).1);have HR:=aA hR;have HQ:=aA bn;have Qj3:Q8 qs=dM rs:=by{rw[vX,bn]};rw[Qj3] at ap;have fl:=aA C;clear hR bn C bc ai b6;go_wp2_with fail;refine aX ap.o ?_;rintro e' W2 ⟨vn,rfl,bq⟩;have⟨na,nc,cx⟩:=qe bq.own;subst cx;have Z:bD W1.heap.size W1 W2:=bq.below;have d9:Hid _:=Cl qs [] (dG [] (Q0 (dM rs))) (aH va (aB qs) vc) (aH aW 0 0) W2 (HR.o.below Z) ⟨zo,λp z=>by cases z⟩ e5 (by simp) (by rw[HQ.o];exact du.o) (λp z=>by cases z);have cf:=aA bq;clear bq ap;go_wp2_with fail;refine aX d9.o ?_;rintro e' W3 ⟨vs,ax,rfl,ca,ch⟩;have⟨sa,sc,eg⟩:=qq ca.row;subst eg;have G:=aA ca;have ez:Hid (nE rs [] (dG [] (Q0 (dM rs))) (ax.map (·.1))):=by{rw[HQ.o] at ch;exact ch};clear ca ch d9 Z;go_wp2;go_ret2;have Z:bD W1.heap.size W1 W2:=cf.o.below;have an:bD W2.heap.size W2 W3:=G.o.below;have bj:=bf.o.size;have dm:=Z.size;have fg:=an.size;have c5:bD w.heap.size w W3:=(bf.o.trans (Z.mono bj)).trans (an.mono (by omega));refine⟨c5.alloc c5.size _,aQ ⟨HA.o,W3.heap.size,λk=>w.heap.size<=k/\k<W3.heap.size+1,ax.map (·.1),rfl,ez.o,⟨aH va (aB qs) vc,aH aW 0 0,aH na (aB (dG [] (Q0 (dM rs)))) nc,aH sa (aB ax) sc,aH aW 0 0,qs,[],ax,[],?_⟩,λk hk=>hk.1⟩⟩;have bu:∀O,bD W3.heap.size W3 (W3.alloc O):=λO=>(Below.refl _ W3).alloc zl O;have df:aE W3 W1.heap.size 9 1 (aH na (aB (dG [] (Q0 (dM rs)))) nc) (aB (dG [] (Q0 (dM rs)))) ((dG [] (Q0 (dM rs))).map aI):=qj cf.o.own an;refine⟨zn W3 _,⟨by omega,by omega⟩,λk hk=>by simp;omega,(((HR.o.below Z).below an).below (bu _)),HQ.o,zo,λg A=>(by cases A),rfl,λp z=>(by cases z),Qj (qj df (bu _)) zz,λg A=>?_,⟨Qj (qj G.o.row (bu _)) zz,λp z=>(G.o.each p z).below (bu _)⟩,λg A=>?_,rfl,λp z g A=>?_,zo,λg A=>(by cases A),rfl,λp z=>(by cases z),λg A=>⟨λp z=>(by cases z),λp z e=>?_⟩,λi j p q g hi=>by simp at hi⟩;{have⟨h5,c,hc⟩:=qd df A;have:=(zg hc).1;exact⟨by omega,by omega⟩};{have⟨h5,c,hc⟩:=qd G.o.row A;have:=(zg hc).1;exact⟨by omega,by omega⟩}
   .have⟨c,hc⟩:=qh (G.o.each p z) A;have:=(zg hc).1;rcases G.o.loc p z with h5|h5
    .cases h5
    .have:=h5 g A;exact⟨by omega,by omega⟩
   .have⟨h5,c,hc⟩:=qd cf.o.own A;have:=(zg hc).1;rcases G.o.loc p z with h6|h6
    .cases h6
    .have:=h6 g e;omega
  .have HA:=aA E;have Qf:=aA ai;clear hR bn C bc ai b6 du HP;have hW:¬1<=win\/(1<=win/\¬win<=1000)\/(1<=win/\win<=1000):=by{omega};have hL:¬0<=d\/(0<=d/\¬d<=1000)\/(0<=d/\d<=1000):=by{omega};have hQ:¬1<=que\/(1<=que/\¬que<=50)\/(1<=que/\que<=50):=by omega
   rcases hW with x1|⟨x1,x2⟩|⟨x1,x2⟩<;>rcases hL with y1|⟨y1,y2⟩|⟨y1,y2⟩<;>rcases hQ with z1|⟨z1,z2⟩|⟨z1,z2⟩
   case inr.inr.inr.inr.inr.inr=>exact absurd ⟨⟨x1,x2⟩,⟨y1,y2⟩,z1,z2⟩ E
   case inr.inr.inr.inr.inr.inl=>
    clear E;have d3:decide (que<=50)=false:=by{simp;omega};go_wp2;go_ret2;exact⟨Qf.o,aR ⟨HA.o,rfl⟩⟩
   all_goals (clear E;go_wp2;go_ret2;exact⟨Qf.o,aR ⟨HA.o,rfl⟩⟩)
theorem eI.put{T':Nat->Prop}{vf' bk:Vq}{Z:List ((Gr×Int×Bool)×Vq)}{bi:List (Gr×Vq)}(h:eI W T b y vr vf vn vs vd qs fs ss ds)(hT:∀k,T k->T' k)(ad:∀k,T' k->k<W'.heap.size)(hk:∀k,k<W.heap.size->k≠b->W'.heap[k]?=W.heap[k]?)(cw:y'.rs=y.rs)(ap:y'.names=y.names)(ce:y'.feeds=y.feeds)(box:W'.heap[b]?=cC #[vr,Ii y'.win,Ii y'.lat,Ii y'.que,Ii y'.clock,Ii y'.mark,vf',vn,bk,vd] 222)(facts:aE W' 0 233 4 vf' (aB Z) (Z.flatMap jC))(d:∀g,aF vf'=aV g->T' g)(z:Z.map (·.1)=y'.facts)(G:∀p∈Z,qv W' p.2 p.1.1.args/\∀g,aF p.2=aV g->T' g)(state:gM W' bk bi)(A:∀g,aF bk=aV g->T' g)(E:bi.map (·.1)=y'.state)(C:∀p∈bi,∀g,aF p.2=aV g->T' g)(sepN:∀g,aF vn=aV g->(∀p∈Z,aF p.2≠aV g)/\∀p∈bi,aF p.2≠aV g):eI W' T' b y' vr vf' vn bk vd qs Z bi ds:=by
 have cc:∀(k:Nat) (c:Array Vq) (u:TypeId),u≠222->W.heap[k]?=cC c u->W'.heap[k]?=W.heap[k]?:=λk c u hu M=>hk k (zg M).1 (λe=>by subst e;rw[h.box] at M;cases M;exact hu rfl)
 have Q2:∀{B U m n:Nat} {u:Vq} {xs:List Vq},U≠222->aE W B U m u n xs->aE W' B U m u n xs:=λhU ho=>qn ho (λg al _=>by
  have⟨c,M⟩:=qh ho al
  exact cc g c _ hU M)
 have dl:∀{v:Vq} {l:List Rc},dJ W v l->dJ W' v l:=λ{v l} hr=>by
  refine hr.keep (λg al=>?_);rcases hr with⟨rfl,_⟩|⟨g',fj,cap,ed,rfl,h2,_⟩
  .cases al
  .cases al;exact cc g' ed _ (by decide) h2
 exact⟨box,hT _ h.own,ad,h.rules.keep (λk c u ht M=>cc k c u (by rcases ht with rfl|rfl|rfl<;>decide) M),by rw[cw];exact h.rsm,facts,d,z,G,by rw[ap];exact Q2 (by decide) h.names,λg O=>hT _ (h.namesT g O),state,A,E,C,Q2 (by decide) h.feeds,λg O=>hT _ (h.feedsT g O),by rw[ce];exact h.feedsm,λp hp=>⟨⟨dl (h.feede p hp).1.1,λg O=>hT _ ((h.feede p hp).1.2 g O)⟩,dl (h.feede p hp).2.1,λg O=>hT _ ((h.feede p hp).2.2 g O)⟩,sepN,h.sepQ⟩
theorem eI.row(h:eI W T b y vr vf vn vs vd qs fs ss ds)(A:∀k,k<W.heap.size->k≠b->W'.heap[k]?=W.heap[k]?){B U m n:Nat}{u:Vq}{xs:List Vq}(z:U≠222)(d:aE W B U m u n xs):aE W' B U m u n xs:=
 qn d (λg al ad=>by
  have⟨c,hc⟩:=qh d al
  exact A g ad (λe=>by subst e;rw[h.box] at hc;cases hc;exact z rfl))
theorem eI.num(h:eI W T b y vr vf vn vs vd qs fs ss ds)(Z:W'.heap.size=W.heap.size)(O:∀k,k≠b->W'.heap[k]?=W.heap[k]?)(G:y'.rs=y.rs)(A:y'.names=y.names)(E:y'.feeds=y.feeds)(C:y'.facts=y.facts)(M:y'.state=y.state)(z:W'.heap[b]?=cC #[vr,Ii y'.win,Ii y'.lat,Ii y'.que,Ii y'.clock,Ii y'.mark,vf,vn,vs,vd] 222):eI W' T b y' vr vf vn vs vd qs fs ss ds:=
 have ae:∀k,k<W.heap.size->k≠b->W'.heap[k]?=W.heap[k]?:=λk _=>O k
 h.put (λ_=>id) (λk ae=>by rw[Z];exact h.lt k ae) ae G A E z (h.row ae (by decide) h.facts) h.factsT (by rw[C];exact h.factsm) (λp d=>⟨h.row ae (by decide) (h.facte p d).1,(h.facte p d).2⟩) ⟨h.row ae (by decide) h.state.row,λp d=>h.row ae (by decide) (h.state.each p d)⟩ h.stateT (by rw[M];exact h.statem) h.statee h.sepN
theorem Qu.trans{W1 W2:Wq}{A C:Er}(h:Qu T b A W W1)(k:∀d,jF W1 d b A->Qu d b C W1 W2):Qu T b C W W2:=by
 have⟨⟨d,h1,h2⟩,h3⟩:=h;have⟨⟨T2,k1,k2⟩,k3⟩:=k d h1;have M:=h3.size;refine⟨⟨T2,k1,λj G=>?_⟩,⟨k3.os.trans h3.os,k3.tape.trans h3.tape,k3.output.trans h3.output,Nat.le_trans h3.size k3.size,λi z E=>(k3.block i (Nat.lt_of_lt_of_le z h3.size) (λe=>?_)).trans (h3.block i z E)⟩⟩
 .grind
 .grind
def qJ(W W':Wq):Prop:=∀(k:Nat) (c:Array Vq) (t:TypeId),t≠246->t≠71->W.heap[k]?=aV (aN c t (0,0))->W'.heap[k]?=W.heap[k]?
def wy(b i:Nat)(f:Fr)(dn:List Gr)(que m:Int)(st:List Gr):Prop:=∀(W:Wq) (T:Nat->Prop) (y:Er) (vw:Vq) (sw:List (Gr×Vq)),jF W T b y->y.feeds[i]?=aV f->gM W vw sw->sw.map (·.1)=dn->y.que=que->y.mark=m->y.state=st->
  Calls Tryz.prog 120 #[.pointer (aV ⟨b,0,aW⟩),aM aP (i:Int),vw] W λe w'=>e=aO (aL #[])/\Qu T b {y with feeds:=y.feeds.set i (iZ que m dn st f)} W w'/\qJ W w'
