/- A part -/
import Derived.Test.YtjajnhemgphefaaGreatDoorQWyQ
set_option linter.all false
set_option maxRecDepth 100000
set_option maxHeartbeats 4000000
open List renaming length->aD,length_map->bC,mem_map->bD,take_succ_eq_append_getElem->bE,map_map->bG,drop_eq_getElem_cons->bI,take_of_length_le->bL,length_take->bO,filter_map->bQ,getElem_mem->bT,append_nil->bX,mem_filter->bZ,drop_eq_nil_of_le->cA,map_cons->cF
open Go.World renaming cell?->aE,frozen?->aF,ownsRow->aH
open Go.Value renaming ownBlock->aI,slice->aJ,string->aK,agg->aL,bool->aM,tuple->aN,int->aO,oneCell'->bJ
open Go.Obj renaming cells->aP
open Go.Ending renaming returned->aQ
open Go.IntKind renaming i64->aR
open Or renaming inl->aS,inr->aU
open Option renaming some->aX,none->aY
open Go.Calls renaming mono->bB
open Go.RowKit.Below renaming heap_setCell->bF,heap_alloc->bH,refl->cG
open Nat renaming le_trans->bU,lt_of_lt_of_le->cD,min_eq_left->cE
open Go.RowKit renaming Below->cH
open Go renaming wpList_append_own->cI,Addr->cJ,info_parts->cL
namespace Go.Proofs.YtjajnhemgphefaaGreatDoor
open Go renaming World->Wq,Value->Vq
open Go.RowKit Go.Shelf
variable {W W' W1 W2 X Y:Wq} {T:Nat->Prop} {b M:Nat} {y y' y1 y2:Er} {vr vf vn vs vd vk vw:Vq} {qs:List (Rl×Vq×Vq)} {fs l ak:List ((Gr×Int×Bool)×Vq)} {ss an:List (Gr×Vq)} {ds:List (Fr×Vq×Vq)} {win m:Int}
def Tryz.e:(Tryz.prog.info? 233).map (λi=>(i.zero,i.size,i.bytes))=aX (aX (aL #[St ⟨#[]⟩,aJ aY 0 0,Ii 0,aM false]),4,56):=by kernel_rfl
structure wJ(y:Er):Prop where
 o:aD y.z<=8
 n:∀r∈y.z,aD r.n<=3
 j:1<=y.j/\y.j<=1000
 u:0<=y.u/\y.u<=1000
 w:1<=y.w/\y.w<=50
 h:0<=y.h/\y.h<=1000000
 g:0<=y.g/\y.g<=1000000
 a:aD y.v<=24
 v:∀f∈y.v,aD f.1.d<=2/\0<=f.2.1/\f.2.1<=1000000
 A:aD y.c<=8
 d:aD y.n<=2048
 c:aD y.a<=3
theorem G8(h:fV W T b y vr vf vn vs vd qs fs ss ds)(hz:wJ y)(s:ByteArray)(hs:s.size<=1048576)(t:Int):Cs 67 #[Pt b,St s,Ii t] W λe w'=>e=aQ (Ii (lI y s t).1)/\Q0 T b (lI y s t).2 W w':=by
 have⟨va,vc,ed⟩:=qd h.u.h;have⟨fa,fc,du⟩:=qd h.v;have⟨na,nc,h7⟩:=qd h.c;have dt:=aA (Ep s W hs);go_enter Tryz.func67,Tryz.ntmps67;go_wp2_with fail;refine bB dt.o ?_;rintro e' W1 ⟨h1,ao⟩;obtain⟨a,oa,oc,dv,he,eg,ja,ec,a9⟩:∃(a:Am)(oa:Option cJ)(oc:Nat)(dv:Bool),e'=aQ (aN #[aL #[St a.j,aJ oa (aD a.d) oc],aM dv])/\aH W1 W.heap.size 215 2 (aJ oa (aD a.d) oc) (aD a.d) (a.d.flatMap jL)/\aD a.d<=2/\(dv=true->jW s=aX a)/\(dv=false->jW s=aY):=by
  unfold ry at h1;cases ho:jW s with
  |none=>rw[ho] at h1;exact⟨⟨⟨#[]⟩,[]⟩,aY,0,false,h1,zo,by simp,λh=>(by cases h),λ_=>rfl⟩
  |some a=>rw[ho] at h1;have⟨kh,k1,k2,k3,k4,k5,k6⟩:=h1;obtain⟨oa,oc,rfl⟩:=qd k2;exact⟨a,oa,oc,true,k1,k2,k3,λ_=>rfl,λh=>(by cases h)⟩
 subst he;have ct:=aA ao;obtain⟨N,hN⟩:=aC W.heap.size;obtain⟨V,hV⟩:=aC (W1.alloc (aP #[St a.j,aJ oa (aD a.d) oc] 145));have dz:cH N W V:=by rw[<-hV,<-hN];exact ao.l ao.s _
 have b4:V.heap[W1.heap.size]?=cC #[St a.j,aJ oa (aD a.d) oc] 145:=hV▸zn W1 _
 have dp:aH V N 215 2 (aJ oa (aD a.d) oc) (aD a.d) (a.d.flatMap jL):=by rw[<-hV,<-hN];exact eg.l _
 have ei:Hid _:=Fv (a,aJ oa (aD a.d) oc) V (qz dp zz) (by show aD a.d<=1000;omega);have HV:Hid (cH N W V/\V.heap[W1.heap.size]?=cC #[St a.j,aJ oa (aD a.d) oc] 145):=⟨dz,b4⟩;have v0:=cZz b4;clear dt h1 ao eg dp dz b4;go_wp2_with fail;refine bB ei.o ?_;clear ei v0;rintro e' W2 ⟨G,ap⟩;obtain⟨g,A,z,fb,he,ek,e6,ew⟩:∃(g:Gr)(A:Option cJ)(z:Nat)(fb:Bool),e'=aQ (aN #[aL #[St g.j,aJ A (aD g.d) z],aM fb])/\aH W2 V.heap.size 9 1 (aJ A (aD g.d) z) (aD g.d) (g.d.map aK)/\(fb=true->nT a=aX g)/\(fb=false->nT a=aY):=by
  unfold tZ at G;cases ho:nT a with
  |none=>simp only[ho] at G;exact⟨⟨⟨#[]⟩,[]⟩,aY,0,false,G,zo,λh=>(by cases h),λ_=>rfl⟩
  |some g=>simp only[ho] at G;have⟨vg,k1,k2⟩:=G;obtain⟨A,z,rfl⟩:=qd k2;exact⟨g,A,z,true,k1,k2,λ_=>rfl,λh=>(by cases h)⟩
 subst he;clear G;obtain⟨X,hX⟩:=aC (W2.alloc (aP #[St g.j,aJ A (aD g.d) z] 226));have cl:cH V.heap.size V X:=hX▸ap.l ap.s _
 have dm:=HV.o.1.t (cl.m (by have:=HV.o.1.s;omega));have b0:X.heap[W2.heap.size]?=cC #[St g.j,aJ A (aD g.d) z] 226:=hX▸zn W2 _
 have fx:=(cl.b _ (zg HV.o.2).1).t HV.o.2;have d7:aH X V.heap.size 9 1 (aJ A (aD g.d) z) (aD g.d) (g.d.map aK):=hX▸ek.l _
 have a0:aE X (Ad W1.heap.size 0)=aX (St a.j):=zc fx;have hq:aD qs<=1000:=by have:=hz.o;rw[<-h.G,bC] at this;omega
 have dg:∀q∈qs,aD q.1.n<=900:=λq hq=>by have:=hz.n q.1 (h.G▸bD.2 ⟨q,hq,rfl⟩);omega
 have f5:fK y.z=Q9 qs:=by rw[<-h.G];unfold fK Q9;rw[List.flatMap_map]
 have iy:Hid (aD fs=aD y.v):=by show _=_;rw[<-h.s,bC]
 subst ed du h7;obtain⟨NA,gq⟩:=aC W1.heap.size;obtain⟨C,es⟩:=aC W2.heap.size;rw[gq] at fx a0;rw[es] at b0;have j7:=cl.s;have ji:=HV.o.1.s;have ik:=aA ji;have Qnj:N<=NA/\NA<V.heap.size:=by have h1:=HV.o.2;rw[gq] at h1;refine⟨?_,(zg h1).1⟩;have:NA<V.heap.size:=(zg h1).1;rw[<-hV] at this;simp at this;have G:=ct.o.s;omega
 have Qnk:V.heap.size<=C:=es▸ap.s
 have HX:Hid (∀Y,cH X.heap.size X Y->cH N W Y/\fV Y T b y (aJ va (aD qs) vc) (aJ fa (aD fs) fc) (aJ na (aD y.c) nc) vs vd qs fs ss ds/\Y.heap[NA]?=cC #[St a.j,aJ oa (aD a.d) oc] 145/\Y.heap[C]?=cC #[St g.j,aJ A (aD g.d) z] 226/\aH Y V.heap.size 9 1 (aJ A (aD g.d) z) (aD g.d) (g.d.map aK)):=λY hY=>by have h1:=dm.t (hY.m (by omega));exact⟨h1,h.f (hN ▸ h1),(hY.b _ (by omega)).t fx,(hY.b _ (zg b0).1).t b0,qh d7 hY⟩
 have Qj3:Hid _:=I3 (HX.o X zr).2.1 hq dg a.j;have HC:Hid (∀Y,cH X.heap.size X Y->aE Y (Ad b 0)=aX (aJ va (aD qs) vc)/\aE Y (Ad NA 0)=aX (St a.j)):=λY hY=>by have⟨_,G,h3,_⟩:=HX.o Y hY;exact⟨by simp[aE,G.A],zc h3⟩
 have jk:Hid (∀Y,cH X.heap.size X Y->Cs 117 #[aJ va (aD qs) vc,St a.j] Y.drew λe w'=>e=aQ (Ii (gX (fK y.z) a.j:Int))/\(aE w' (Ad b 0)=aX (aJ va (aD qs) vc)/\aE w' (Ad NA 0)=aX (St a.j))/\Hid (cH X.heap.size X w')):=λY hY=>by have⟨_,G,h3,_⟩:=HX.o Y.drew hY.drew;rw[f5];refine (xL _ qs a.j Y.drew G.u hq dg).m ?_;rintro e w' ⟨k1,k2⟩;have k3:=hY.drew.t (k2.m hY.drew.s);exact⟨k1,HC.o w' k3,k3⟩
 clear dm ap ek cl fx b0 d7 hV HV ct j7 Qnk Qnj;go_wp2_with fail;refine bB Qj3.o ?_;rintro e' W3 ⟨rfl,aq⟩;have Qj2:=jk.o W3 aq;have⟨c0,z0⟩:=HC.o W3.drew aq.drew;clear Qj3 a0 jk hX;go_wp2_with fail;first|(go_region_held3 (λw'=>aE w' (Ad b 0)=aX (aJ va (aD qs) vc)/\aE w' (Ad NA 0)=aX (St a.j)) (first|with_reducible exact⟨c0,z0⟩|with_reducible assumption) (first|(go_at_call 117;refine bB Qj2 ?_;rintro e' W4 ⟨rfl,bi,jw⟩)|go_simp))|fail
 obtain⟨ar,f4⟩:=aC (gX (Q9 qs) a.j);obtain⟨bb,bu⟩:=aC (sC y.z a.j);have i4:Hid (gX (fK y.z) a.j=ar):=by show _=_;rwa[f5]
 have jo:=aA bu;rw[f4,bu];clear f4 bu Qj2 bi c0 z0 aq;have HS:=aA λY hY=>Q0.u ⟨_,_,_,_,_,_,_,_,_,h⟩ (hN ▸ (HX.o Y hY).1);have am:=aA jw.o;have ir:Hid (∀Y,cH X.heap.size X Y->aE Y (Ad NA 1)=aX (aJ oa (aD a.d) oc)/\aE Y (Ad b 1)=aX (Ii y.j)/\aE Y (Ad b 5)=aX (Ii y.h)/\aE Y (Ad b 6)=aX (aJ fa (aD fs) fc)/\aE Y (Ad b 7)=aX (aJ na (aD y.c) nc)):=λY hY=>by have⟨_,G,h3,_⟩:=HX.o Y hY;exact⟨zc h3,by simp[aE,G.A],by simp[aE,G.A],by simp[aE,G.A],by simp[aE,G.A]⟩
 have HI:Hid (lI y s t=match jW s with
  |none=>(2,y)
  |some a=>match nT a with
   |none=>(2,y)
   |some g=>if sC y.z a.j=false then (7,y) else if gX (fK y.z) a.j≠a.d.length then (4,y) else if ¬(0<=t/\t<=1000000) then (6,y) else if t+y.j<=y.h then (8,y) else if y.v.any (λf=>nO f.1 g && decide (f.2.1=t))=true then (9,y) else if 24<=aD y.v\/8<aD (fR y.c g.d) then (10,y) else (0,{y with c:=fR y.c g.d,v:=y.v++[(g,t,false)]})):=rfl
 have⟨p1,p2,p3,p4,p5⟩:=ir.o W4 am.o;have Qpg:=hz.j;have Qab:=hz.h;have HZ:=aA hz;have HH:=aA h;clear f5 dg hq jw h hz HC gq es ji;cases dv with
 |false=>have hi:Hid (lI y s t=(2,y)):=by{show _=_;rw[HI.o,a9 rfl]};clear HI;go_wp2;go_ret;rw[hi.o];exact⟨rfl,HS.o _ am.o⟩
 |true=>
  have ai:=ec rfl;cases fb with
  |false=>have hi:Hid (lI y s t=(2,y)):=by{show _=_;rw[HI.o,ai];simp only[ew rfl]};clear HI;go_wp2;go_ret;rw[hi.o];exact⟨rfl,HS.o _ am.o⟩
  |true=>
   have ag:=e6 rfl;have E:Hid (lI y s t=if bb=false then (7,y) else if ar≠a.d.length then (4,y) else if ¬(0<=t/\t<=1000000) then (6,y) else if t+y.j<=y.h then (8,y) else if y.v.any (λf=>nO f.1 g && decide (f.2.1=t))=true then (9,y) else if 24<=aD y.v\/8<aD (fR y.c g.d) then (10,y) else (0,{y with c:=fR y.c g.d,v:=y.v++[(g,t,false)]})):=by{show _=_;rw[HI.o,ai];simp only[ag,i4.o,jo.o]};have lx:aD g.d<=2:=by{unfold nT at ag;split at ag;{cases ag};{injection ag with ag;subst ag;simpa using ja}};clear HI ec a9 e6 ew ai ag i4 jo;cases bb with
   |false=>have hi:Hid (lI y s t=(7,y)):=by{show _=_;rw[E.o,if_pos rfl]};clear E;go_wp2;go_ret;rw[hi.o];exact⟨rfl,HS.o _ am.o⟩
   |true=>
    rw[if_neg (by decide)] at E;by_cases ha:ar=aD a.d
    .rw[if_neg (by simpa using ha)] at E;have ij:(ar:Int)=(aD a.d:Int):=by{omega};by_cases b6:0<=t
     .by_cases dh:t<=1000000
      .rw[if_neg (by simp[b6,dh])] at E;have t0:¬t<0:=by{omega};have t1:¬1000000<t:=by{omega};by_cases d9:t+y.j<=y.h;{have hi:Hid (lI y s t=(8,y)):=by{show _=_;rw[E.o,if_pos d9]};clear E;go_wp2_with fail;go_quiet (fail);go_wp2;go_ret;rw[hi.o];exact⟨rfl,HS.o _ (qx am.o)⟩};rw[if_neg d9] at E;go_wp2_with fail;go_quiet (fail);have b7:Hid (cH X.heap.size X (W4.drewN nq)):=qx am.o;generalize W4.drewN nq=W5 at *;clear p1 p2 p3 p4 p5 am;have HF:Hid (∀Y,cH X.heap.size X Y->∀(k:Nat)(M:k<aD fs),∃(gf:Nat)(u1:Option cJ)(u2:Nat),fa=aX ⟨gf,0,aY⟩/\fs[k].2=aJ u1 (aD fs[k].1.1.d) u2/\aE Y (Ad gf (k*4))=aX (St fs[k].1.1.j)/\aE Y (Ad gf (k*4+1))=aX (aJ u1 (aD fs[k].1.1.d) u2)/\aE Y (Ad gf (k*4+2))=aX (Ii fs[k].1.2.1)/\qv Y (aJ u1 (aD fs[k].1.1.d) u2) fs[k].1.1.d/\aD fs[k].1.1.d<=2):=λY hY k M=>by{have⟨_,G,_⟩:=HX.o Y hY;have⟨gf,cap,e1,_,_,_,e2⟩:=lH G.v (λ_=>rfl) (by omega);have⟨s1,_⟩:=G.r fs[k] (zm M);have⟨u1,u2,e3⟩:=qd s1;have az:=(HZ.o.v fs[k].1 (G.s▸bD.2 ⟨_,bT M,rfl⟩)).1;have e4:=e2 k 1 M _ (by decide) rfl;rw[e3] at s1 e4;simp only[aJ.injEq] at e1;exact⟨gf,u1,u2,e1.1,e3,e2 k 0 M _ (by decide) rfl,e4,e2 k 2 M _ (by decide) rfl,s1,az⟩};have HG:Hid (∀Y,cH X.heap.size X Y->aE Y (Ad b 6)=aX (aJ fa (aD fs) fc)/\aE Y (Ad C 0)=aX (St g.j)/\aE Y (Ad C 1)=aX (aJ A (aD g.d) z)/\qv Y (aJ A (aD g.d) z) g.d):=λY hY=>by{have⟨_,G,_,h4,h5⟩:=HX.o Y hY;exact⟨by simp[aE,G.A],zc h4,zc h4,qz h5 zz⟩};have ip:Hid (y.v.any (λf=>nO f.1 g && decide (f.2.1=t))=(fs.drop 0).any (λf=>nO f.1.1 g && decide (f.1.2.1=t))):=by{show _=_;rw[<-HH.o.s,List.any_map];rfl};have Qfu:aD fs<=24:=by{have:=HZ.o.a;have:=iy.o;omega};generalize y.v.any (λf=>nO f.1 g && decide (f.2.1=t))=twice at *;go_wp2_with fail;go_loopw [13] (λp wr=>∃i:Nat,p=aO aR i/\i<=aD fs/\Hid (cH X.heap.size X wr)/\Hid (twice=(fs.drop i).any (λf=>nO f.1.1 g && decide (f.1.2.1=t)))) (λp _=>aD fs-(intOf p).toNat)
       case atStart=>exact⟨0,rfl,zz,b7,ip⟩
       clear ip b7;obtain⟨i,rfl,c9,al,bh⟩:=hrel;have⟨c6,n0,n1,e7⟩:=HG.o wr al.o;by_cases ab:i<aD fs
       .have i1:(i:Int)<(aD fs:Int):=by{omega};obtain⟨gf,u1,u2,rfl,e3,f0,f1,f2,lh,c2⟩:=HF.o wr al.o i ab;rw[bI ab,List.any_cons] at bh;have⟨w6,m0,m1,Qkb⟩:=HG.o wr.drew al.o.drew;have⟨jp,_,_,gy,d4,g0,g1,g2,Qj9,_⟩:=HF.o wr.drew al.o.drew i ab;cases gy;rw[e3] at d4;cases d4;have dx:Hid (Cs 118 #[aL #[St fs[i].1.1.j,aJ u1 (aD fs[i].1.1.d) u2],aL #[St g.j,aJ A (aD g.d) z]] wr.drew λe w'=>e=aQ (aM (nO fs[i].1.1 g))/\(aE w' (Ad b 6)=aX (Sc gf (aD fs) fc)/\aE w' (Ad gf (i*4))=aX (St fs[i].1.1.j)/\aE w' (Ad gf (i*4+1))=aX (aJ u1 (aD fs[i].1.1.d) u2)/\aE w' (Ad C 0)=aX (St g.j)/\aE w' (Ad C 1)=aX (aJ A (aD g.d) z))/\aE w' (Ad gf (i*4+2))=aX (Ii fs[i].1.2.1)/\Hid (cH X.heap.size X w')):=by{refine (FW (fs[i].1.1,aJ u1 (aD fs[i].1.1.d) u2) (g,aJ A (aD g.d) z) wr.drew Qj9 Qkb (by show aD fs[i].1.1.d<=1000000;omega)).m ?_;rintro e w' ⟨k1,k2⟩;have k3:=al.o.drew.t (k2.m al.o.drew.s);have⟨j6,j0,j1,_⟩:=HG.o w' k3;have⟨jp,_,_,gy,d4,l0,l1,l2,_,_⟩:=HF.o w' k3 i ab;cases gy;rw[e3] at d4;cases d4;exact⟨k1,⟨j6,l0,l1,j0,j1⟩,l2,k3⟩};clear e7 lh Qkb Qj9 g2 e3;go_wp2_with fail;(first|(go_region_held3 (λw'=>aE w' (Ad b 6)=aX (Sc gf (aD fs) fc)/\aE w' (Ad gf (i*4))=aX (St fs[i].1.1.j)/\aE w' (Ad gf (i*4+1))=aX (aJ u1 (aD fs[i].1.1.d) u2)/\aE w' (Ad C 0)=aX (St g.j)/\aE w' (Ad C 1)=aX (aJ A (aD g.d) z)) (first|with_reducible exact⟨w6,g0,g1,m0,m1⟩|with_reducible assumption) (first|(go_at_call 118;refine bB dx.o ?_;rintro e' W6 ⟨rfl,bi,cg,b5⟩)|go_simp))|fail);have⟨j6,l0,l1,j0,j1⟩:=bi;clear w6 m0 m1 g0 g1 dx al c6 n0 n1 f0 f1 f2;have fi:Hid (fs[i].1.2.1=fs[i].1.2.1):=rfl;obtain⟨tm,cu⟩:=aC (fs[i].1.2.1);obtain⟨sb,de⟩:=aC (nO fs[i].1.1 g);rw[cu,de] at bh;rw[cu] at cg;rw[de];clear cu de fi;cases sb with
        |false=>rw[Bool.false_and,Bool.false_or] at bh;go_wp2;refine⟨⟨i+1,by go_num,by omega,b5,bh⟩,by simp[intOf];omega⟩
        |true=>by_cases he:tm=t;{rw[show (true && decide (tm=t))=true by simp[he],Bool.true_or] at bh;have Qik:=bh.o;subst Qik;rw[if_pos rfl] at E;have hi:=aA E;clear E;go_wp2_with fail;(try go_quiet (fail));go_wp2;go_ret;rw[hi.o];exact⟨rfl,HS.o _ (by first|exact b5.o|exact qx b5.o)⟩};rw[show (true && decide (tm=t))=false by simp[he],Bool.false_or] at bh;go_wp2_with fail;(try go_quiet (fail));go_wp2;refine⟨⟨i+1,by go_num,by omega,by first|exact b5|exact qx b5.o,bh⟩,by simp[intOf];omega⟩
       have i1:¬(i:Int)<(aD fs:Int):=by{omega};rw[cA (by omega)] at bh;have Qik:twice=false:=bh.o;subst Qik;rw[if_neg (by decide)] at E;have c7:=(ir.o wr al.o).2.2.2.2;clear bh;have⟨_,aa,_,jm,g5⟩:=HX.o wr al.o;have hT:=HH.o.lt;have jv:=(HX.o wr al.o).1;have Qfw:∀k,aI (aJ A (aD g.d) z)=aX k->V.heap.size<=k:=λk M=>(qe g5 M).1;have Qjx:Hid (rJ W T b y (aJ va (aD qs) vc) (aJ fa (aD fs) fc) (aJ na (aD y.c) nc) vs vd qs fs ss ds wr (aJ na (aD y.c) nc) (fR y.c (g.d.take 0))/\wr.heap[C]?=cC #[St g.j,aJ A (aD g.d) z] 226/\qv wr (aJ A (aD g.d) z) g.d/\∀k,aI (aJ na (aD y.c) nc)=aX k->aI (aJ A (aD g.d) z)≠aX k):=by{refine⟨⟨fC.d _ (hN ▸ jv),aa,aa.c,⟨[],by simp[fR]⟩,aS rfl⟩,jm,qz g5 zz,λk M a7=>?_⟩;have h1:=Qfw k a7;have G:=hT k (HH.o.B k M);have h3:=ik.o;omega};have me:=HZ.o.A;have i3:=aA hT;clear aa jm g5 jv Qfw hT n0 n1 e7;go_wp2_with fail;go_loopw [15,16] (λo p wr=>∃(i:Nat)(vo:Vq),vo=o/\p=aO aR i/\i<=aD g.d/\Hid (rJ W T b y (aJ va (aD qs) vc) (aJ fa (aD fs) fc) (aJ na (aD y.c) nc) vs vd qs fs ss ds wr vo (fR y.c (g.d.take i))/\wr.heap[C]?=aX (aP #[aK g.j,aJ A (aD g.d) z] 226)/\qv wr (aJ A (aD g.d) z) g.d/\∀k,aI vo=aX k->aI (aJ A (aD g.d) z)≠aX k)) (λ_ p _=>aD g.d-(intOf p).toNat)
       case atStart=>exact⟨0,_,rfl,rfl,zz,Qjx⟩
       clear Qjx;obtain⟨j,vo,rfl,rfl,c9,aj⟩:=hrel;have⟨g4,ig,kr⟩:=qd aj.o.1.h;subst kr;have n1:aE wr (Ad C 1)=aX (aJ A (aD g.d) z):=by{simp[aE,aj.o.2.1]};have gh:=ES (g.d.take j) y.c;rw[bO] at gh;by_cases ab:j<aD g.d;{have i2:(j:Int)<(aD g.d:Int):=by{omega};have⟨gg,ki,e0,mi,lu⟩:=aj.o.2.2.1.d j ab;cases e0;have il:Hid _:=Nk 0 _ _ g.d[j] wr zz (by omega) aj.o.1.h;have ax:fR y.c (g.d.take (j+1))=Qs (fR y.c (g.d.take j)) g.d[j]:=by{unfold fR;rw[bE ab,List.foldl_append];rfl};have ca:=aA ax;clear ax;go_wp2_with fail;refine bB il.o ?_;rintro e' W7 ⟨v',rfl,r1,r2,fq,g6⟩;have b3:Hid (rJ W T b y (aJ va (aD qs) vc) (aJ fa (aD fs) fc) (aJ na (aD y.c) nc) vs vd qs fs ss ds W7 v' (fR y.c (g.d.take (j+1)))/\W7.heap[C]?=cC #[St g.j,Sc gg (aD g.d) z] 226/\qv W7 (Sc gg (aD g.d) z) g.d/\∀k,aI v'=aX k->aI (aJ (aX ⟨gg,0,aY⟩) (aD g.d) z)≠aX k):=by{have⟨q1,q2,q3,q4⟩:=aj.o;have Qop:=(zg q2).1;refine⟨ca.o▸q1.d i3.o _ r1 r2 fq g6,(fq.b C Qop (λe=>?_)).t q2,qm q3 (λk M ab=>fq.b k ab (λe=>q4 k e.s M)),λk M a7=>?_⟩;{have⟨c,hc⟩:=qg q1.h e.s;rw[q2] at hc;cases hc};obtain h5|h5:=g6;{rw[h5] at M;exact q4 k M a7};have:=h5 k M;have⟨c,hc⟩:=qg q3 a7;have:=(zg hc).1;omega};clear aj il r1 r2 fq g6;go_wp2;refine⟨⟨j+1,v',rfl,by go_num,by omega,b3⟩,by simp[intOf];omega⟩};have i2:¬(j:Int)<(aD g.d:Int):=by{omega};have ax:g.d.take j=g.d:=bL (by omega);rw[ax] at aj gh ⊢;obtain⟨db,f8⟩:∃n,aD (fR y.c g.d)=n:=⟨_,rfl⟩;rw[f8] at aj gh E ⊢;have p6:=cZz aj.o.1.a.A;have z7:aF wr (Ad b 7)=false:=by{simp[aF,aj.o.1.a.A]};have m0:aE wr (Ad C 0)=aX (St g.j):=by{simp[aE,aj.o.2.1]};rw[<-iy.o] at E;clear ax;by_cases hF:24<=aD fs\/8<db;{rw[if_pos hF] at E;have hi:=aA E;have jq:Hid (Q0 T b y W wr):=⟨⟨T,⟨_,_,_,_,_,_,_,_,_,aj.o.1.a⟩,λk M=>aS M⟩,aj.o.1.f⟩;clear E;by_cases mf:24<=aD fs;{have x1:(24:Int)<=(aD fs:Int):=by{omega};go_wp2_with fail;(try go_quiet (fail));go_wp2;go_ret;rw[hi.o];exact⟨rfl,by first|exact jq.o|exact hS2.o _⟩};have x1:¬(24:Int)<=(aD fs:Int):=by{omega};have x2:(8:Int)<(db:Int):=by{omega};go_wp2_with fail;(try go_quiet (fail));go_wp2;go_ret;rw[hi.o];exact⟨rfl,by first|exact jq.o|exact hS2.o _⟩};rw[if_neg hF] at E;have x1:¬(24:Int)<=(aD fs:Int):=by{omega};have x2:¬(8:Int)<(db:Int):=by{omega};obtain⟨X1,dr⟩:=aC (wr.setCell (Ad b 7) (aJ g4 db ig));have hi:=aA E;have⟨q1,q2,q3,q4⟩:=aj.o;have Qj8:C≠b:=λe=>by{rw[e,q1.a.A] at q2;cases q2};have Qd9:X1.heap[b]?=cC #[aJ va (aD qs) vc,Ii y.j,Ii y.u,Ii y.w,Ii y.g,Ii y.h,aJ fa (aD fs) fc,aJ g4 db ig,vs,vd] 222:=dr▸qw q1.a.A 7 _;have Qat:X1.heap[C]?=cC #[St g.j,aJ A (aD g.d) z] 226:=dr▸(bF wr ⟨b,7,aY⟩ _ C Qj8).t q2;have s6:aE X1.drew (Ad b 6)=aX (aJ fa (aD fs) fc):=by{show aE X1 _=_;simp[aE,Qd9]};have s0:aE X1.drew (Ad C 0)=aX (St g.j):=by{show aE X1 _=_;simp[aE,Qat]};have s1:aE X1.drew (Ad C 1)=aX (aJ A (aD g.d) z):=by{show aE X1 _=_;simp[aE,Qat]};obtain⟨O,hO⟩:=aC (aP #[St g.j,aJ A (aD g.d) z,Ii t,aM false] 233 (0,0));have kw:Hid (aH (X1.alloc O) 0 233 4 (aJ fa (aD fs) fc) (aD fs) (fs.flatMap nU)):=by{refine aH.l (qm (W:=wr) q1.a.v (λk M _=>?_)) O;rw[<-dr];refine bF wr ⟨b,7,aY⟩ _ k (λe=>?_);have⟨c,hc⟩:=qg q1.a.v M;have e':k=b:=e;rw[e',q1.a.A] at hc;cases hc};have mp:aE (X1.alloc O).drew (Ad b 6)=aX (aJ fa (aD fs) fc):=by{have:=(bH X1 O b (zg Qd9).1).t Qd9;show aE (X1.alloc O) _=_;simp[aE,this]};have kt:Hid (∀(j:Nat)(u:Vq),[aK g.j,aJ A (aD g.d) z,Ii t,aM false][j]?=aX u->aE (X1.alloc O) ((⟨X1.heap.size,0,aY⟩:cJ).add j)=aX u):=hO▸sL _ _ _ _ _ _;have Qd8:∀k,aI (aJ A (aD g.d) z)=aX k->W.heap.size<=k:=λk M=>by{have h1:=(qe (HX.o X zr).2.2.2.2 M).1;have:=ik.o;omega};have it:=i3.o;have Qd:Hid (∀(w1:Wq)(v':Vq),aH w1 0 233 4 v' (aD fs+1) (fs.flatMap nU++[St g.j,aJ A (aD g.d) z,Ii t,aM false])->(X1.alloc O).grownBy w1 (aI (aJ fa (aD fs) fc))->(aI v'=aI (aJ fa (aD fs) fc)\/aI v'=aX (X1.alloc O).heap.size)->aE w1 (Ad b 6)=aX (aJ fa (aD fs) fc)/\aF w1 (Ad b 6)=false/\aE w1 (Ad C 0)=aX (St g.j)/\aE w1 (Ad C 1)=aX (aJ A (aD g.d) z)/\aE (w1.setCell (Ad b 6) v') (Ad C 0)=aX (St g.j)/\aE (w1.setCell (Ad b 6) v') (Ad C 1)=aX (aJ A (aD g.d) z)/\Hid (Q0 T b {y with c:=fR y.c g.d,v:=y.v++[(g,t,false)]} W (w1.setCell (Ad b 6) v'))):=λw1 v' ho hg lf=>by{have a8:((wr.setCell (Ad b 7) (aJ g4 db ig)).alloc O).grownBy w1 (aI (aJ fa (aD fs) fc)):=dr▸hg;have⟨k1,k2,k3⟩:=q1.g it g t q3 Qd8 q4 O a8 ho (dr▸lf);have Qin:w1.heap[C]?=cC #[St g.j,aJ A (aD g.d) z] 226:=by{have ab:=(zg Qat).1;refine ((hg.b C (by simp;omega) (λe=>?_)).t (bH X1 O C ab)).t Qat;have⟨c,hc⟩:=qg q1.a.v e.s;rw[q2] at hc;cases hc};have Qmg:(w1.setCell (Ad b 6) v').heap[C]?=cC #[St g.j,aJ A (aD g.d) z] 226:=(bF w1 ⟨b,6,aY⟩ v' C Qj8).t Qin;exact⟨k1,k2,zc Qin,zc Qin,zc Qmg,zc Qmg,k3⟩};clear aj q1 q2 q3 q4 Qd9 Qat E Qd8 it;have⟨i0,cz,d8,az,co⟩:=cL Tryz.e;have j8:aD fs+1<=maxLen:=by{unfold maxLen;omega};have kg:(aD fs+1)*56<=140737488355328:=by{omega};go_wp2_with fail;(go_region_law (first|(refine zu rfl (.tmp 142) (.tmp 146) 219 rfl 0 233 i0 (aL #[St ⟨#[]⟩,aJ aY 0 0,Ii 0,aM false]) 4 56 Tryz.underlying219 cz d8 az co rfl (by decide) (aJ fa (aD fs) fc) (aD fs) (fs.flatMap nU) (by simp[Act.eval,Act.put]) kw.o ⟨X1.heap.size,0,aY⟩ 1 1 [St g.j,aJ A (aD g.d) z,Ii t,aM false] (by simp[Act.eval,Act.put]) rfl kt.o (by simp[bJ]) j8 kg zz ?_;intro v' w1 be ac dw;have⟨g',j9,lg⟩:=ownsRow_succ be;subst lg;have⟨f6,y6,f0,f1,f2,f3,k9⟩:=Qd.o w1 _ be ⟨ac.os,ac.tape,ac.output,ac.size,ac.b⟩ dw)|go_simp));(all_goals clear be ac dw);(all_goals go_wp2);(all_goals go_ret);all_goals (rw[hi.o];exact⟨rfl,k9.o⟩)
      have hi:Hid (lI y s t=(6,y)):=by{show _=_;rw[E.o,if_pos (by simp[dh])]};have t0:¬t<0:=by{omega};have t1:1000000<t:=by{omega};clear E;go_wp2;go_ret;rw[hi.o];exact⟨rfl,HS.o _ am.o⟩
     have hi:Hid (lI y s t=(6,y)):=by{show _=_;rw[E.o,if_pos (by simp[b6])]};have t0:t<0:=by{omega};clear E;go_wp2;go_ret;rw[hi.o];exact⟨rfl,HS.o _ am.o⟩
    have hi:Hid (lI y s t=(4,y)):=by{show _=_;rw[E.o,if_pos (ha)]};have ij:¬((ar:Int)=(aD a.d:Int)):=by{omega};clear E;go_wp2;go_ret;rw[hi.o];exact⟨rfl,HS.o _ am.o⟩
structure Aq(y:Er):Prop where
 a:oL y.z y.c
 c:∀f∈y.v,mJ y.z y.c f.1
 d:∀g∈y.n,mJ y.z y.c g
def B0{R:List Rl}{z:List ByteArray}(h:oL R z){g:Gr}(A:mJ R z g):aD g.d<=2:=by have⟨a,ha,_,h2⟩:=A.j;have⟨r,hr,ij⟩:=List.mem_flatMap.1 ha;have:=((h.z r hr).d a ij).1;lia
def sO(y:Er)(s:ByteArray)(r:Int×Int):Prop:=
 match jW s with
 |none=>r=(0,2)
 |some a=>match nT a with
  |none=>r=(0,2)
  |some g=>if oB y.z a≠0 then r=(0,oB y.z a) else if lV y.n g=false then r=(0,0)
   else ∃P:Int->Bool,(∀t,P t=true↔Dv y.z (lG y.j y.v t) g)/\r=(pM P 2000000 ((y.v.filter (λf=>f.2.2)).map (λf=>f.2.1+y.j)),0)
def kY(win en:Int)(l:List ((Gr×Int×Bool)×Vq)):List (Gr×Vq):=(l.filter (λf=>f.1.2.2 && decide (en<f.1.2.1+win))).map (λf=>(f.1.1,f.2))
def Ic(win en:Int)(l:List ((Gr×Int×Bool)×Vq)):aD (kY win en l)<=aD l:=by grind [kY]
def NK(win en:Int)(l:List ((Gr×Int×Bool)×Vq)){k:Nat}(h:k<aD l):kY win en (l.take (k+1))=kY win en (l.take k)++(if (l[k].1.2.2 && decide (en<l[k].1.2.1+win))=true then [(l[k].1.1,l[k].2)] else []):=by grind [kY,bE]
def NU(h:fV W T b y vr vf vn vs vd qs fs ss ds)(hz:wJ y)(cv:Aq y)(s:ByteArray)(hs:s.size<=1048576):Cs 69 #[Pt b,St s] W λe w'=>(∃r,sO y s r/\e=aQ (aN #[Ii r.1,Ii r.2]))/\cH W.heap.size W w':=by
 have⟨va,vc,ed⟩:=qd h.u.h;have⟨fa,fc,du⟩:=qd h.v;have⟨sa,sc,d2⟩:=qd h.n.h;subst ed du d2;have hq:aD qs<=1000:=by have:=hz.o;rw[<-h.G,bC] at this;omega
 have dg:∀q∈qs,aD q.1.n<=900:=λq hq=>by have:=hz.n q.1 (h.G▸bD.2 ⟨q,hq,rfl⟩);omega
 have dt:Hid _:=Fp h hq dg s hs;go_enter Tryz.func69,Tryz.ntmps69;go_wp2_with fail;refine bB dt.o ?_;rintro e' W1 ⟨h1,ao⟩
 obtain⟨a,oa,oc,cc,he,eg,ja,ec,a9⟩:∃(a:Am)(oa:Option cJ)(oc:Nat)(cc:Int),e'=aQ (aN #[aL #[St a.j,aJ oa (aD a.d) oc],Ii cc])/\aH W1 W.heap.size 215 2 (aJ oa (aD a.d) oc) (aD a.d) (a.d.flatMap jL)/\aD a.d<=2/\(cc≠2->jW s=aX a/\cc=oB y.z a)/\(cc=2->jW s=aY):=by
  unfold ut at h1
  cases ho:jW s with
  |none=>rw[ho] at h1;exact⟨⟨⟨#[]⟩,[]⟩,aY,0,2,h1,zo,by simp,λh=>absurd rfl h,λ_=>rfl⟩
  |some a=>
   rw[ho] at h1;have⟨kh,k1,k2,k3,k4,k5,k6⟩:=h1;obtain⟨oa,oc,rfl⟩:=qd k2;refine⟨a,oa,oc,_,k1,k2,k3,λ_=>⟨rfl,rfl⟩,λh=>?_⟩;unfold oB at h;split at h;{cases h};{split at h<;>cases h}
 subst he;have ct:=aA ao;obtain⟨N,hN⟩:=aC W.heap.size;obtain⟨V,hV⟩:=aC (W1.alloc (aP #[St a.j,aJ oa (aD a.d) oc] 145));have dz:cH N W V:=by rw[<-hV,<-hN];exact ao.l ao.s _
 have b4:V.heap[W1.heap.size]?=cC #[St a.j,aJ oa (aD a.d) oc] 145:=hV▸zn W1 _
 have dp:aH V N 215 2 (aJ oa (aD a.d) oc) (aD a.d) (a.d.flatMap jL):=by rw[<-hV,<-hN];exact eg.l _
 have ei:Hid _:=Fv (a,aJ oa (aD a.d) oc) V (qz dp zz) (by show aD a.d<=1000;omega);have HV:=aA dz;have v0:aE V (Ad W1.heap.size 0)=aX (St a.j):=zc b4;have v1:aE V (Ad W1.heap.size 1)=aX (aJ oa (aD a.d) oc):=zc b4;clear dt h1 ao eg dp dz b4;go_wp2_with fail;refine bB ei.o ?_;clear ei v0 v1;rintro e' W2 ⟨z,ap⟩
 obtain⟨g,A,C,fb,he,ek,e6,ew⟩:∃(g:Gr)(A:Option cJ)(C:Nat)(fb:Bool),e'=aQ (aN #[aL #[St g.j,aJ A (aD g.d) C],aM fb])/\aH W2 V.heap.size 9 1 (aJ A (aD g.d) C) (aD g.d) (g.d.map aK)/\(fb=true->nT a=aX g)/\(fb=false->nT a=aY):=by
  unfold tZ at z
  cases ho:nT a with
  |none=>simp only[ho] at z;exact⟨⟨⟨#[]⟩,[]⟩,aY,0,false,z,zo,λh=>(by cases h),λ_=>rfl⟩
  |some g=>simp only[ho] at z;have⟨vg,k1,k2⟩:=z;obtain⟨A,C,rfl⟩:=qd k2;exact⟨g,A,C,true,k1,k2,λ_=>rfl,λh=>(by cases h)⟩
 subst he;clear z;obtain⟨X,hX⟩:=aC (W2.alloc (aP #[St g.j,aJ A (aD g.d) C] 226));obtain⟨NG,es⟩:=aC W2.heap.size;have cl:cH V.heap.size V X:=hX▸ap.l ap.s _
 have dm:=HV.o.t (cl.m (by have:=HV.o.s;omega));have b0:X.heap[NG]?=cC #[St g.j,aJ A (aD g.d) C] 226:=by rw[<-hX,<-es];exact zn W2 _
 have d7:aH X V.heap.size 9 1 (aJ A (aD g.d) C) (aD g.d) (g.d.map aK):=hX▸ek.l _
 have HX:Hid (∀Y,cH X.heap.size X Y->cH N W Y/\fV Y T b y (aJ va (aD qs) vc) (aJ fa (aD fs) fc) vn (aJ sa (aD ss) sc) vd qs fs ss ds/\aE Y (Ad NG 0)=aX (St g.j)/\aE Y (Ad NG 1)=aX (aJ A (aD g.d) C)/\qv Y (aJ A (aD g.d) C) g.d):=λY hY=>by have h1:=dm.t (hY.m (by have:=dm.s;omega));have z:=(hY.b _ (zg b0).1).t b0;exact⟨h1,h.f (hN ▸ h1),zc z,zc z,qz (qh d7 hY) zz⟩
 have ae:aD ss<=2048:=by have:=hz.d;rwa[<-h.t,bC] at this
 have jb:∀p∈ss,aD p.1.d<=1000000:=λp hp=>by have:=B0 cv.a (cv.d p.1 (h.t▸bD.2 ⟨p,hp,rfl⟩));omega
 have jf:Hid (∀Y,cH X.heap.size X Y->Cs 122 #[aJ sa (aD ss) sc,aL #[St g.j,aJ A (aD g.d) C]] Y λe w'=>e=aQ (aM (lV y.n g))/\(aE w' (Ad b 8)=aX (aJ sa (aD ss) sc)/\aE w' (Ad NG 0)=aX (St g.j)/\aE w' (Ad NG 1)=aX (aJ A (aD g.d) C))/\Hid (cH X.heap.size X w')):=λY hY=>by have⟨k1,k2,k3,k4,k5⟩:=HX.o Y hY;refine (y9 _ ss (g,aJ A (aD g.d) C) Y k2.n k5 (by omega) jb).m ?_;rintro e w' ⟨l1,l2⟩;have l3:=hY.t (l2.m hY.s);have⟨m1,m2,m3,m4,m5⟩:=HX.o w' l3;rw[h.t] at l1;exact⟨l1,⟨by simp[aE,m2.A],m3,m4⟩,l3⟩
 have ep:=aA λY hY=>hN ▸ (HX.o Y hY).1
 have HU:Hid (∀r,(match jW s with
  |none=>r=(0,2)
  |some a=>match nT a with
   |none=>r=(0,2)
   |some g=>if oB y.z a≠0 then r=(0,oB y.z a) else if lV y.n g=false then r=(0,0)
    else ∃P:Int->Bool,(∀t,P t=true↔Dv y.z (lG y.j y.v t) g)/\r=(pM P 2000000 ((y.v.filter (λf=>f.2.2)).map (λf=>f.2.1+y.j)),0))->sO y s r):=λr hr=>hr
 have HZ:=aA hz;have bf:=aA cv;have HH:=aA h;clear dm ap ek cl b0 d7 hV HV ct h hz cv ae jb dg;have⟨_,k2,n0,n1,_⟩:=HX.o X zr;have⟨_,jj,m0,m1,_⟩:=HX.o X.drew zr.drew;have c8:aE X.drew (Ad b 8)=aX (aJ sa (aD ss) sc):=by simp[aE,jj.A]
 have Qj5:=jf.o X.drew zr.drew;clear k2 jj;by_cases cg:cc=2
 .have hu:=aA (HU.o _ (by rw[a9 cg]));subst cg;clear HU;go_wp2;go_ret2;exact⟨⟨_,hu.o,rfl⟩,ep.o _ zr⟩
 .have⟨ai,bi⟩:=ec cg;have Qny:(cc == 2)=false:=by simpa using cg
  cases fb with
  |false=>have hu:Hid (sO y s (0,2)):=HU.o _ (by rw[ai];simp only[ew rfl]);clear HU;go_wp2;go_ret2;exact⟨⟨_,hu.o,rfl⟩,ep.o _ zr⟩
  |true=>
   have ag:=e6 rfl;by_cases ci:cc=0
   .have eh:Hid (∀r,(if lV y.n g=false then r=(0,0) else ∃P:Int->Bool,(∀t,P t=true↔Dv y.z (lG y.j y.v t) g)/\r=(pM P 2000000 ((y.v.filter (λf=>f.2.2)).map (λf=>f.2.1+y.j)),0))->sO y s r):=λr hr=>HU.o _ (by rw[ai];simp only[ag];rw[if_neg (by rw[<-bi,ci];decide)];exact hr);subst ci;clear HU ec a9 e6 ew ai bi cg Qny;go_wp2_with fail
    first|(go_region_held3 (λw'=>aE w' (Ad b 8)=aX (aJ sa (aD ss) sc)/\aE w' (Ad NG 0)=aX (St g.j)/\aE w' (Ad NG 1)=aX (aJ A (aD g.d) C)) (first|with_reducible exact⟨c8,m0,m1⟩|with_reducible assumption) (first|(go_at_call 122;refine bB Qj5 ?_;rintro e' W3 ⟨rfl,bi,aq⟩)|go_simp))|fail
    clear bi Qj5 jf n0 n1 m0 m1 c8;obtain⟨ib,jc⟩:=aC (lV y.n g);rw[jc] at eh ⊢;clear jc
    cases ib with
    |false=>have hu:=aA (eh.o _ (by rw[if_pos rfl]));clear eh;go_wp2;go_ret2;exact⟨⟨_,hu.o,rfl⟩,ep.o _ aq.o⟩
    |true=>
     obtain⟨P,hP⟩:∃P:Int->Bool,∀t,P t=true↔Dv y.z (lG y.j y.v t) g:=⟨λt=>@decide (Dv y.z (lG y.j y.v t) g) (Classical.propDecidable _),λt=>by simp⟩
     have i7:Hid (sO y s (pM P 2000000 (((fs.drop 0).filter (λf=>f.1.2.2)).map (λf=>f.1.2.1+y.j)),0)):=eh.o _ (by
      rw[if_neg (by decide)];refine⟨P,hP,?_⟩
      rw[<-HH.o.s,bQ,bG];rfl)
     have HP:=aA hP;have Qpg:=HZ.o.j;have Qfu:aD fs<=24:=by{have:=HZ.o.a;rwa[<-HH.o.s,bC] at this};have HF:Hid (∀Y,cH X.heap.size X Y->∀(k:Nat)(hk:k<aD fs),∃(gf:Nat)(u1:Option cJ)(u2:Nat),fa=aX ⟨gf,0,aY⟩/\fs[k].2=aJ u1 (aD fs[k].1.1.d) u2/\aE Y (Ad gf (k*4))=aX (St fs[k].1.1.j)/\aE Y (Ad gf (k*4+1))=aX (aJ u1 (aD fs[k].1.1.d) u2)/\aE Y (Ad gf (k*4+2))=aX (Ii fs[k].1.2.1)/\aE Y (Ad gf (k*4+3))=aX (aM fs[k].1.2.2)/\0<=fs[k].1.2.1/\fs[k].1.2.1<=1000000):=λY hY k hk=>by{have⟨_,z,_⟩:=HX.o Y hY;have⟨gf,cap,e1,_,_,_,e2⟩:=lH z.v (λ_=>rfl) (by omega);have⟨s1,_⟩:=z.r fs[k] (zm hk);have⟨u1,u2,e3⟩:=qd s1;have az:=(HZ.o.v fs[k].1 (z.s▸bD.2 ⟨_,bT hk,rfl⟩)).2;have e4:=e2 k 1 hk _ (by decide) rfl;rw[e3] at e4;simp only[aJ.injEq] at e1;exact⟨gf,u1,u2,e1.1,e3,e2 k 0 hk _ (by decide) rfl,e4,e2 k 2 hk _ (by decide) rfl,e2 k 3 hk _ (by decide) rfl,az⟩};have HC:Hid (∀Y,cH X.heap.size X Y->aE Y (Ad b 6)=aX (aJ fa (aD fs) fc)/\aE Y (Ad b 1)=aX (Ii y.j)):=λY hY=>by{have⟨_,z,_⟩:=HX.o Y hY;exact⟨by simp[aE,z.A],by simp[aE,z.A]⟩};obtain⟨R0,hy⟩:=aC (pM P 2000000 (((fs.drop 0).filter (λf=>f.1.2.2)).map (λf=>f.1.2.1+y.j)));rw[hy] at i7;have h0:=aA hy;clear hy eh hP;go_wp2_with fail
     go_loopw [11,12] (λo p wr=>∃(i:Nat)(G:Int),o=aO aR G/\p=aO aR i/\i<=aD fs/\0<=G/\G<=2000000/\Hid (cH X.heap.size X wr)/\Hid (pM P G (((fs.drop i).filter (λf=>f.1.2.2)).map (λf=>f.1.2.1+y.j))=R0)) (λ_ p _=>aD fs-(intOf p).toNat)
     case atStart=>exact⟨0,2000000,rfl,rfl,zz,by decide,by decide,aq,h0⟩
     case round=>
      clear h0 aq;obtain⟨i,G,rfl,rfl,c9,gw,hm,al,bn⟩:=hrel;have⟨c6,c1⟩:=HC.o wr al.o;by_cases ab:i<aD fs
      .have i1:(i:Int)<(aD fs:Int):=by{omega};have⟨gf,u1,u2,c2,e3,f0,f1,f2,f3,b6,dh⟩:=HF.o wr al.o i ab;rw[bI ab] at bn;obtain⟨tm,cu⟩:=aC (fs[i].1.2.1);obtain⟨bg,gz⟩:=aC (fs[i].1.2.2);rw[cu] at f2 b6 dh;rw[gz] at f3;rw[List.filter_cons,gz] at bn;have fi:=aA cu;clear cu gz e3 f0 f1;subst c2;go_wp2_with fail;go_quiet (fail);have cx:Hid (cH X.heap.size X (wr.drewN nq)):=qx al.o;have iv:aE (wr.drewN nq) (Ad b 6)=aX (Sc gf (aD fs) fc):=c6;have ko:aE (wr.drewN nq) (Ad gf (i*4+3))=aX (aM bg):=f3;generalize wr.drewN nq=wq at *;clear c6 f2 f3 al c1;by_cases dq:bg=true/\tm+y.j<G
       .obtain⟨rfl,kz⟩:=dq;have g8:¬G<=tm+y.j:=by{omega};rw[if_pos rfl,cF] at bn;obtain⟨en,jr⟩:=aC (tm+y.j);have cd:Hid (pM P (if P en=true then G else en) (((fs.drop (i+1)).filter (λf=>f.1.2.2)).map (λf=>f.1.2.1+y.j))=R0):=by{have h5:=bn.o;unfold pM at h5;rwa[fi.o,if_neg g8,jr] at h5};have l5:=aA jr;have Qpz:0<=en/\en<=1001000:=by{omega};obtain⟨M,hM⟩:=aC wq.heap.size;have ey:Hid (cH X.heap.size X wq/\M<=wq.heap.size/\aH wq M 226 2 (aJ aY 0 0) (aD (kY y.j en (fs.take 0))) ((kY y.j en (fs.take 0)).flatMap lD)):=⟨cx.o,by omega,zo⟩;have⟨i0,hi,d8,az,co⟩:=cL Tryz.b;have lq:Hid (X.heap.size<=M):=by{have:=cx.o.s;show _<=_;omega};clear hM bn;go_wp2_with fail
        go_loopw [14,15] (λo p wr=>∃(k:Nat)(vl:Vq),vl=o/\p=aO aR k/\k<=aD fs/\Hid (cH X.heap.size X wr/\M<=wr.heap.size/\aH wr M 226 2 vl (aD (kY y.j en (fs.take k))) ((kY y.j en (fs.take k)).flatMap lD))) (λ_ p _=>aD fs-(intOf p).toNat)
        case atStart=>exact⟨0,_,rfl,rfl,zz,ey⟩
        case round=>
         clear ey iv ko kz g8 cx;obtain⟨k,vl,rfl,rfl,mg,E⟩:=hrel;have⟨la,lc,ld⟩:=qq E.o.2.2;subst ld;have⟨d6,d1⟩:=HC.o wr E.o.1;have jh:=Ic y.j en (fs.take k);rw[bO] at jh;by_cases dj:k<aD fs
         .have k1:(k:Int)<(aD fs:Int):=by{omega};have⟨jp,v1,v2,Qoa,e3,f0,f1,f2,f3,Qpd,Qpe⟩:=HF.o wr E.o.1 k dj;cases Qoa;have ax:=NK y.j en fs dj;rw[e3] at ax;obtain⟨gk,cy⟩:=aC (fs[k].1.1);obtain⟨tk,ia⟩:=aC (fs[k].1.2.1);obtain⟨bk,dl⟩:=aC (fs[k].1.2.2);rw[cy,ia,dl] at ax;rw[cy] at f0 f1;rw[ia] at f2 Qpd Qpe;rw[dl] at f3;have ca:=aA ax;clear ax cy ia dl e3;generalize kY y.j en (fs.take k)=acc at *;have ev:Hid (∀q,cH X.heap.size X (wr.drewN q)/\M<=(wr.drewN q).heap.size/\aH (wr.drewN q) M 226 2 (aJ la (aD acc) lc) (aD acc) (acc.flatMap lD)):=λq=>⟨qx E.o.1,E.o.2.1,E.o.2.2⟩;by_cases cz:bk=true/\en<tk+y.j
          .obtain⟨rfl,Qk7⟩:=cz;go_wp2_with fail;go_quiet (fail);have ch:Hid _:=ev.o nq;have iv:aE (wr.drewN nq) (Ad b 6)=aX (Sc gf (aD fs) fc):=d6;have mr:aE (wr.drewN nq) (Ad gf (k*4))=aX (St gk.j):=f0;have mm:aE (wr.drewN nq) (Ad gf (k*4+1))=aX (aJ v1 (aD gk.d) v2):=f1;have Qoj:(true && decide (en<tk+y.j))=true:=by{simp[Qk7]};rw[if_pos Qoj] at ca;generalize wr.drewN nq=wd at *;clear ev E d6 d1 f0 f1 f2 f3;have jx:=aA ch.o.2.2;have iu:Hid (∀O,M<=(wd.alloc O).heap.size):=λO=>by{have:=ch.o.2.1;simp;omega};have di:Hid (∀(Y:Wq)(v':Vq)(O:Obj),(wd.alloc O).grownBy Y (aI (aJ la (aD acc) lc))->aH Y M 226 2 v' (aD acc+1) (acc.flatMap lD++[St gk.j,aJ v1 (aD gk.d) v2])->cH X.heap.size X Y/\M<=Y.heap.size/\aH Y M 226 2 v' (aD (kY y.j en (fs.take (k+1)))) ((kY y.j en (fs.take (k+1))).flatMap lD)):=λY v' O hg ho=>by{have lj:=iu.o O;refine⟨(ch.o.1.l ch.o.1.s O).grown hg (by have:=ch.o.1.s;simp;omega) (λq e=>by have h5:=(qe ch.o.2.2 e).1;have:=lq.o;omega),bU lj hg.size,?_⟩;rwa[ca.o,List.length_append,List.flatMap_append]};clear ch
           go_wp2_with (at_builtin;refine cI _ rfl _ _ 217 rfl M 226 i0 _ 2 40 Tryz.underlying217 hi d8 az co rfl (by decide) _ (aD acc) (acc.flatMap lD) rfl (jx.o.l _) ⟨wd.heap.size,0,aY⟩ 1 _ [St gk.j,aJ v1 (aD gk.d) v2] rfl rfl (rx _ _ _ _) (by simp[bJ]) (by unfold maxLen;omega) (by omega) (iu.o _) ?_;intro fe w1 ai ag _;have em:Hid _:=di.o _ _ _ ag ai;clear ai ag)
           refine⟨⟨k+1,fe,rfl,by go_num,by omega,em⟩,by simp[intOf];omega⟩
          .have gl:(bk && decide (en<tk+y.j))=false:=by
            cases bk with
            |false=>rfl
            |true=>simpa using cz
           have b3:Hid (∀q,cH X.heap.size X (wr.drewN q)/\M<=(wr.drewN q).heap.size/\aH (wr.drewN q) M 226 2 (aJ la (aD acc) lc) (aD (kY y.j en (fs.take (k+1)))) ((kY y.j en (fs.take (k+1))).flatMap lD)):=λq=>by have h5:=ca.o;rw[gl,if_neg (by decide),bX] at h5;rw[h5];exact ev.o q
           cases bk with
           |false=>clear gl cz ca ev E;go_wp2_with fail;go_quiet (fail);have em:Hid _:=b3.o nq;go_wp2;refine⟨⟨k+1,_,rfl,by go_num,by omega,em⟩,by simp[intOf];omega⟩
           |true=>
            have Qk7:¬en<tk+y.j:=by{simpa using cz};clear gl cz ca ev E;go_wp2_with fail;go_quiet (fail);have em:Hid _:=b3.o nq;go_wp2;refine⟨⟨k+1,_,rfl,by go_num,by omega,em⟩,by simp[intOf];omega⟩
         .have k1:¬(k:Int)<(aD fs:Int):=by{omega};rw[bL (by omega)] at E jh ⊢;have⟨_,aa,_,_,_⟩:=HX.o wr E.o.1;have d0:aE wr (Ad b 0)=aX (aJ va (aD qs) vc):=by simp[aE,aa.A]
          have Qk3:jS wr (aJ la (aD (kY y.j en fs)) lc) (kY y.j en fs):=⟨qz E.o.2.2 zz,λp hp=>by
           unfold kY at hp;obtain⟨f,hf,rfl⟩:=bD.1 hp
           exact (aa.r f (bZ.1 hf).1).1⟩
          have Qkl:(kY y.j en fs).map (·.1)=lG y.j y.v en:=by unfold kY lG;rw[<-aa.s,bQ,bG,bG];rfl
          have b8:Hid _:=Aj qs (kY y.j en fs) y.c (aJ va (aD qs) vc) (aJ la (aD (kY y.j en fs)) lc) wr aa.u Qk3 hq (by omega) (aa.G▸bf.o.a) (λp hp=>by
           rw[aa.G];unfold kY at hp;obtain⟨f,hf,rfl⟩:=bD.1 hp
           exact bf.o.c f.1 (aa.s▸bD.2 ⟨f,(bZ.1 hf).1,rfl⟩))
          have kk:=aA Qkl;have j5:=aA aa.G;have jt:=aA E.o.1;clear Qk3 Qkl aa E;go_wp2_with fail;refine bB b8.o ?_;clear b8;rintro e' W5 ⟨vm,bj,rfl,fo,ea⟩;have⟨ma,mc,kf⟩:=qq fo.h;subst kf;have hw:=jt.o.t (fo.f.m jt.o.s);have⟨_,_,n0,n1,e7⟩:=HX.o W5 hw;rw[j5.o,kk.o] at ea;have Qk8:Hid _:=y9 (aJ ma (aD bj) mc) bj (g,aJ A (aD g.d) C) W5 fo.a e7 (by have:=ea.1.I bf.o.a;rw[bC] at this;omega) (λp hp=>by have:=B0 bf.o.a (ea.1.o p.1 (bD.2 ⟨p,hp,rfl⟩));omega);have de:Hid (lV (bj.map (·.1)) g=P en):=by{show _=_;rw[Bool.eq_iff_iff,BR,HP.o,ea.2]};have b7:=aA hw;clear fo ea hw e7;go_wp2_with fail;refine bB Qk8.o ?_;clear Qk8;rintro e' W6 ⟨rfl,b5⟩;have Qkj:=aA (b7.o.t (b5.m b7.o.s));simp only[de.o];clear de b5 n0 n1
          cases hpe:P en with
          |true=>rw[hpe,if_pos rfl] at cd;clear hpe;go_wp2;refine⟨⟨i+1,G,rfl,by go_num,by omega,gw,hm,Qkj,cd⟩,by simp[intOf];omega⟩
          |false=>rw[hpe,if_neg (by decide)] at cd;clear hpe;go_wp2;refine⟨⟨i+1,en,rfl,by go_num,by omega,by omega,by omega,Qkj,cd⟩,by simp[intOf];omega⟩
       .have cd:Hid (pM P G (((fs.drop (i+1)).filter (λf=>f.1.2.2)).map (λf=>f.1.2.1+y.j))=R0):=by
         have h5:=bn.o;show _=_
         cases bg with
         |false=>simpa using h5
         |true=>rw[if_pos rfl,cF] at h5;unfold pM at h5;rwa[fi.o,if_pos (by simp at dq;omega)] at h5
        clear bn
        cases bg with
        |false=>
         clear dq;go_wp2_with fail
         try go_quiet (fail)
         go_wp2;refine⟨⟨i+1,G,rfl,by go_num,by omega,gw,hm,by first|exact cx|exact qx cx.o,cd⟩,by simp[intOf];omega⟩
        |true=>
         have g8:G<=tm+y.j:=by{simp at dq;omega};clear dq;go_wp2_with fail
         try go_quiet (fail)
         go_wp2;refine⟨⟨i+1,G,rfl,by go_num,by omega,gw,hm,by first|exact cx|exact qx cx.o,cd⟩,by simp[intOf];omega⟩
      .have i1:¬(i:Int)<(aD fs:Int):=by{omega};rw[cA (by omega)] at bn;have kj:=aA bn;clear bn;go_wp2;go_ret2;refine⟨⟨R0,0,i7.o,?_⟩,hN▸ep.o _ al.o⟩;rw[<-kj.o];rfl
   .have hu:Hid (sO y s (0,cc)):=HU.o _ (by rw[ai];simp only[ag];rw[if_pos (by rw[<-bi];exact ci),bi]);have mo:(cc == 0)=false:=by{simpa using ci};clear HU bi;go_wp2;go_ret2;exact⟨⟨_,hu.o,rfl⟩,ep.o _ zr⟩
def tT(rs:List Rl)(win lat que:Int)(st:List Gr):Er:=⟨rs,win,lat,que,0,0,[],fF [] (Q3 (fK rs)),st,[]⟩
def tq(s:ByteArray)(win lat que:Int)(w:Wq)(e:Ending)(w':Wq):Prop:=
 cH w.heap.size w w'/\match iT s with
 |.error (c,_)=>e=aQ (aN #[.pointer aY,aO aR c])
 |.ok rs=>(mM win lat que/\∃(b:Nat) (T:Nat->Prop) (st:List Gr),e=aQ (aN #[.pointer (aX ⟨b,0,aY⟩),aO aR 0])/\tD rs [] (fF [] (Q3 (fK rs))) st/\oA w' T b (tT rs win lat que st)/\∀k,T k->w.heap.size<=k)\/(¬mM win lat que/\e=aQ (aN #[.pointer aY,aO aR 6]))
theorem Iq(s:ByteArray)(win z que:Int)(w:Wq)(hs:s.size<=1048576):Cs 66 #[St s,Ii win,Ii z,Ii que] w (tq s win z que w):=by
 have fz:Hid _:=EA s w hs;cases A:iT s with
 |error cp=>have⟨c,p⟩:=cp;have ci:c≠0:=xO s c p A;have hu:tq s win z que w=λe w'=>cH w.heap.size w w'/\e=aQ (aN #[.pointer aY,Ii c]):=by{funext e w';unfold tq;rw[A]};rw[hu];have ml:(c == 0)=false:=by{simpa using ci};have HP:=aA A;clear hu A;go_enter Tryz.func66,Tryz.ntmps66;go_wp2_with fail;refine bB fz.o ?_;rintro e' W1 ⟨h1,ao⟩;unfold qE at h1;rw[HP.o] at h1;subst h1;go_wp2;go_ret2;exact⟨ao,rfl⟩
 |ok rs=>
  have G:=Cx s rs A;have hu:tq s win z que w=λe w'=>cH w.heap.size w w'/\((mM win z que/\∃(b:Nat)(T:Nat->Prop)(st:List Gr),e=aQ (aN #[Pt b,Ii 0])/\tD rs [] (fF [] (Q3 (fK rs))) st/\oA w' T b (tT rs win z que st)/\∀k,T k->w.heap.size<=k)\/(¬mM win z que/\e=aQ (aN #[.pointer aY,Ii 6]))):=by{funext e w';unfold tq;rw[A]};rw[hu];have ix:oL rs (fF [] (Q3 (fK rs))):=by{have h8:=G.d.A (aD rs);rw[List.take_length,G.c] at h8;refine G.a _ h8 ?_ (λx hx=>by rwa[<-G.c]);have:=G.q;rwa[G.c] at this};have bf:=aA ix;have HP:=aA A;clear hu A ix G;go_enter Tryz.func66,Tryz.ntmps66;go_wp2_with fail;refine bB fz.o ?_;rintro e' W1 ⟨h1,ao⟩;unfold qE at h1;rw[HP.o] at h1;obtain⟨v,qs,rfl,hR,fg,M,h8,dx⟩:=h1;obtain⟨va,vc,rfl⟩:=qd hR.h;have ct:=aA ao;by_cases E:mM win z que;{have HA:=aA E;have⟨⟨a1,a2⟩,⟨a3,a4⟩,a5,a6⟩:=E;have k7:=M.I;have ce:Hid _:=C1 (aJ va (aD qs) vc) qs W1 hR M.I M.n M.c (λa E=>(M.d a E).1);have HR:=aA hR;have HQ:=aA fg;have Qns:Q9 qs=fK rs:=by{rw[A4,fg]};rw[Qns] at ce;clear hR fg M dx ao fz;go_wp2_with fail;refine bB ce.o ?_;rintro e' W2 ⟨vn,rfl,fh⟩;have⟨na,nc,h7⟩:=qd fh.z;subst h7;have ap:=fh.f;have b8:Hid _:=Aj qs [] (fF [] (Q3 (fK rs))) (aJ va (aD qs) vc) (aJ aY 0 0) W2 (HR.o.f ap) ⟨zo,λp A=>by cases A⟩ k7 (by simp) (HQ.o▸bf.o) (λp A=>by cases A);have gp:=aA fh;clear fh ce;go_wp2_with fail;refine bB b8.o ?_;rintro e' W3 ⟨vs,bj,rfl,f9,gt⟩;have⟨sa,sc,d2⟩:=qq f9.h;subst d2;have cw:=aA f9;have ku:Hid (tD rs [] (fF [] (Q3 (fK rs))) (bj.map (·.1))):=by{rwa[HQ.o] at gt};clear f9 gt b8 ap;go_wp2;go_ret2;have ap:=gp.o.f;have aq:=cw.o.f;have az:=ct.o.s;have co:=ap.s;have lv:=aq.s;have ju:=(ct.o.t (ap.m az)).t (aq.m (by omega));refine⟨ju.l ju.s _,aS ⟨HA.o,W3.heap.size,λk=>w.heap.size<=k/\k<W3.heap.size+1,bj.map (·.1),rfl,ku.o,⟨aJ va (aD qs) vc,aJ aY 0 0,aJ na (aD (fF [] (Q3 (fK rs)))) nc,aJ sa (aD bj) sc,aJ aY 0 0,qs,[],bj,[],?_⟩,λk hk=>hk.1⟩⟩;have fj:=λO=>(cG _ W3).l zl O;have iw:=qh gp.o.z aq;refine⟨zn W3 _,⟨by omega,by omega⟩,λk hk=>by simp;omega,(((HR.o.f ap).f aq).f (fj _)),HQ.o,zo,λg C=>(by cases C),rfl,λp A=>(by cases A),qz (qh iw (fj _)) zz,λg C=>?_,⟨qz (qh cw.o.h (fj _)) zz,λp A=>(cw.o.z p A).f (fj _)⟩,λg C=>?_,rfl,λp A g C=>?_,zo,λg C=>(by cases C),rfl,λp A=>(by cases A),λg C=>⟨λp A=>(by cases A),λp A e=>?_⟩,λi j p q g hi=>by simp at hi⟩;{have⟨h5,c,hc⟩:=qe iw C;have:=(zg hc).1;exact⟨by omega,by omega⟩};{have⟨h5,c,hc⟩:=qe cw.o.h C;have:=(zg hc).1;exact⟨by omega,by omega⟩};{have⟨c,hc⟩:=qg (cw.o.z p A) C;have:=(zg hc).1;obtain h5|h5:=cw.o.c p A;{cases h5};have:=h5 g C;exact⟨by omega,by omega⟩};have⟨h5,c,hc⟩:=qe gp.o.z C;have:=(zg hc).1;obtain h6|h6:=cw.o.c p A;{cases h6};have:=h6 g e;omega};have HA:=aA E;have Qd:=aA ao;clear hR fg M dx ao fz bf HP;have hW:¬1<=win\/(1<=win/\¬win<=1000)\/(1<=win/\win<=1000):=by{omega};have hL:¬0<=z\/(0<=z/\¬z<=1000)\/(0<=z/\z<=1000):=by{omega};have hQ:¬1<=que\/(1<=que/\¬que<=50)\/(1<=que/\que<=50):=by{omega};obtain x1|⟨x1,x2⟩|⟨x1,x2⟩:=hW<;>obtain y1|⟨y1,y2⟩|⟨y1,y2⟩:=hL<;>obtain z1|⟨z1,z2⟩|⟨z1,z2⟩:=hQ
  case inr.inr.inr.inr.inr.inr=>exact absurd ⟨⟨x1,x2⟩,⟨y1,y2⟩,z1,z2⟩ E
  case inr.inr.inr.inr.inr.inl=>clear E;have d3:decide (que<=50)=false:=by{simp;omega};go_wp2;go_ret2;exact⟨Qd.o,aU ⟨HA.o,rfl⟩⟩
  all_goals (clear E;go_wp2;go_ret2;exact⟨Qd.o,aU ⟨HA.o,rfl⟩⟩)
def fV.H{T':Nat->Prop}{vf' dy:Vq}{b9:List ((Gr×Int×Bool)×Vq)}{dk:List (Gr×Vq)}(h:fV W T b y vr vf vn vs vd qs fs ss ds)(hT:∀k,T k->T' k)(ab:∀k,T' k->k<W'.heap.size)(hk:∀k,k<W.heap.size->k≠b->W'.heap[k]?=W.heap[k]?)(g9:y'.z=y.z)(ce:y'.c=y.c)(gj:y'.a=y.a)(box:W'.heap[b]?=cC #[vr,Ii y'.j,Ii y'.u,Ii y'.w,Ii y'.g,Ii y'.h,vf',vn,dy,vd] 222)(facts:aH W' 0 233 4 vf' (aD b9) (b9.flatMap nU))(z:∀g,aI vf'=aX g->T' g)(A:b9.map (·.1)=y'.v)(M:∀p∈b9,qv W' p.2 p.1.1.d/\∀g,aI p.2=aX g->T' g)(state:jS W' dy dk)(C:∀g,aI dy=aX g->T' g)(G:dk.map (·.1)=y'.n)(E:∀p∈dk,∀g,aI p.2=aX g->T' g)(sepN:∀g,aI vn=aX g->(∀p∈b9,aI p.2≠aX g)/\∀p∈dk,aI p.2≠aX g):fV W' T' b y' vr vf' vn dy vd qs b9 dk ds:=by
 have ge:∀(k:Nat) (c:Array Vq) (u:TypeId),u≠222->W.heap[k]?=cC c u->W'.heap[k]?=W.heap[k]?:=λk c u hu O=>hk k (zg O).1 (λe=>by subst e;rw[h.A] at O;cases O;exact hu rfl);have Qv:∀{B U m n:Nat}{u:Vq}{xs:List Vq},U≠222->aH W B U m u n xs->aH W' B U m u n xs:=λhU ho=>qm ho (λg a8 _=>by
  have⟨c,O⟩:=qg ho a8
  exact ge g c _ hU O)
 have i8:∀{v:Vq}{l:List Rc},fI W v l->fI W' v l:=λ{v l} hr=>by refine hr.E (λg a8=>?_);obtain⟨rfl,_⟩|⟨g',l6,cap,j3,rfl,h2,_⟩:=hr;{cases a8};cases a8;exact ge g' j3 _ (by lia) h2
 exact⟨box,hT _ h.z,ab,h.u.E (λk c u ht O=>ge k c u (by obtain rfl|rfl|rfl:=ht<;>decide) O),g9▸h.G,facts,z,A,M,ce▸Qv (by decide) h.c,λg hg=>hT _ (h.B g hg),state,C,G,E,Qv (by lia) h.a,λg hg=>hT _ (h.x g hg),gj▸h.w,λp hp=>⟨⟨i8 (h.o p hp).1.1,λg hg=>hT _ ((h.o p hp).1.2 g hg)⟩,i8 (h.o p hp).2.1,λg hg=>hT _ ((h.o p hp).2.2 g hg)⟩,sepN,h.J⟩
def fV.h(h:fV W T b y vr vf vn vs vd qs fs ss ds)(E:∀k,k<W.heap.size->k≠b->W'.heap[k]?=W.heap[k]?){B U m n:Nat}{u:Vq}{xs:List Vq}(C:U≠222)(z:aH W B U m u n xs):aH W' B U m u n xs:=
 qm z (λg A ab=>by
  have⟨c,hc⟩:=qg z A
  exact E g ab (λe=>by subst e;rw[h.A] at hc;cases hc;exact C rfl))
def fV.d(h:fV W T b y vr vf vn vs vd qs fs ss ds)(hz:W'.heap.size=W.heap.size)(hk:∀k,k≠b->W'.heap[k]?=W.heap[k]?)(M:y'.z=y.z)(G:y'.c=y.c)(O:y'.a=y.a)(E:y'.v=y.v)(ae:y'.n=y.n)(C:W'.heap[b]?=cC #[vr,Ii y'.j,Ii y'.u,Ii y'.w,Ii y'.g,Ii y'.h,vf,vn,vs,vd] 222):fV W' T b y' vr vf vn vs vd qs fs ss ds:=
 have z:∀k,k<W.heap.size->k≠b->W'.heap[k]?=W.heap[k]?:=λk _=>hk k
 h.H (λ_=>id) (λk z=>by rw[hz];exact h.lt k z) z M G O C (h.h z (by lia) h.v) h.C (E▸h.s) (λp A=>⟨h.h z (by lia) (h.r p A).1,(h.r p A).2⟩) ⟨h.h z (by lia) h.n.h,λp A=>h.h z (by lia) (h.n.z p A)⟩ h.F (ae▸h.t) h.D h.I
def Q0.trans(h:Q0 T b y1 W W1)(k:∀z,oA W1 z b y1->Q0 z b y2 W1 W2):Q0 T b y2 W W2:=by
 have⟨⟨z,h1,h2⟩,h3⟩:=h;have⟨⟨T2,k1,k2⟩,k3⟩:=k z h1;have G:=h3.size;refine⟨⟨T2,k1,λj E=>?_⟩,⟨k3.os.t h3.os,k3.tape.t h3.tape,k3.output.t h3.output,bU h3.size k3.size,λi A C=>(k3.h i (cD A h3.size) (λe=>?_)).t (h3.h i A C)⟩⟩
 .grind
 grind
def wE(W W':Wq):Prop:=∀(k:Nat) (c:Array Vq) (t:TypeId),t≠246->t≠71->W.heap[k]?=aX (aP c t (0,0))->W'.heap[k]?=W.heap[k]?
def BD(b i:Nat)(f:Fr)(io:List Gr)(que m:Int)(st:List Gr):Prop:=∀(W:Wq) (T:Nat->Prop) (y:Er) (vw:Vq) (sw:List (Gr×Vq)),oA W T b y->y.a[i]?=aX f->jS W vw sw->sw.map (·.1)=io->y.w=que->y.h=m->y.n=st->
  Calls Tryz.prog 120 #[.pointer (aX ⟨b,0,aY⟩),aO aR (i:Int),vw] W λe w'=>e=aQ (aN #[])/\Q0 T b {y with a:=y.a.set i (mD que m io st f)} W w'/\wE W w'
def kM(win m:Int)(l:List ((Gr×Int×Bool)×Vq)):List ((Gr×Int×Bool)×Vq):=(l.filter (λf=>!decide (f.1.2.1+win<=m))).map (λf=>((f.1.1,f.1.2.1,decide (f.1.2.1<=m)),f.2))
def lY(win m:Int)(l:List ((Gr×Int×Bool)×Vq)):List (Gr×Vq):=((kM win m l).filter (λf=>f.1.2.2)).map (λf=>(f.1.1,f.2))
theorem G0(win m:Int)(l:List ((Gr×Int×Bool)×Vq)){k:Nat}(h:k<aD l):kM win m (l.take (k+1))=kM win m (l.take k)++(if l[k].1.2.1+win<=m then [] else [((l[k].1.1,l[k].1.2.1,decide (l[k].1.2.1<=m)),l[k].2)]):=by grind [kM,bE]
def Nl(win m:Int)(l:List ((Gr×Int×Bool)×Vq)){k:Nat}(h:k<aD l):lY win m (l.take (k+1))=lY win m (l.take k)++(if l[k].1.2.1+win<=m then [] else if l[k].1.2.1<=m then [(l[k].1.1,l[k].2)] else []):=by grind [lY,G0]
theorem D6(win m:Int)(l:List ((Gr×Int×Bool)×Vq)):aD (kM win m l)<=aD l:=by grind [kM]
def O3(win m:Int)(l:List ((Gr×Int×Bool)×Vq)):aD (lY win m l)<=aD l:=by grind [lY,D6]
def Dy(win m:Int)(l:List ((Gr×Int×Bool)×Vq)):(kM win m l).map (·.1)=oV win m (l.map (·.1)):=by unfold kM oV;rw[bQ,bG,bG];rfl
def I5(win m:Int)(l:List ((Gr×Int×Bool)×Vq)):(lY win m l).map (·.1)=vT win m (l.map (·.1)):=by unfold lY vT;rw[<-Dy,bQ,bG,bG];rfl
theorem AF{p:(Gr×Int×Bool)×Vq}(h:p∈kM win m l):∃q∈l,q.1.1=p.1.1/\q.2=p.2:=by grind [kM]
def EU{p:Gr×Vq}(h:p∈lY win m l):∃q∈l,q.1.1=p.1/\q.2=p.2:=by grind [lY,AF]
structure lE(W2:Wq)(M:Nat)(X:Wq)(vk vw:Vq)(ak:List ((Gr×Int×Bool)×Vq))(an:List (Gr×Vq)):Prop where
 f:cH W2.heap.size W2 X
 size:M<=X.heap.size
 o:aH X M 233 4 vk (aD ak) (ak.flatMap nU)
 a:aH X M 226 2 vw (aD an) (an.flatMap lD)
def lE.E(h:lE W2 M X vk vw ak an)(z:cH X.heap.size X Y):lE W2 M Y vk vw ak an:=
 ⟨h.f.t (z.m h.f.s),bU h.size z.s,qh h.o z,qh h.a z⟩
def lE.u(h:lE W2 M X vk vw ak an)(E:W2.heap.size=M)(a:cJ)(v:Vq)(G:M<=a.block)(A:aI vk≠aX a.block)(C:aI vw≠aX a.block):lE W2 M (X.setCell a v) vk vw ak an:=
 ⟨h.f.c (by lia) v,by simpa using h.size,Qj h.o a v (λg z e=>A (e▸z)),Qj h.a a v (λg z e=>C (e▸z))⟩
def lE.c{vk':Vq}(h:lE W2 M X vk vw ak an)(C:W2.heap.size=M)(p:(Gr×Int×Bool)×Vq){O:Obj}(z:(X.alloc O).grownBy Y (aI vk))(E:aH Y M 233 4 vk' (aD ak+1) (ak.flatMap nU++nU p)):lE W2 M Y vk' vw (ak++[p]) an:=by
 refine⟨(h.f.l h.f.s O).grown z (by have:=h.f.s;simp;lia) (λk e=>by have:=(qe h.o e).1;lia),by have:=z.size;have:=h.size;simp at *;lia,?_,qm h.a (λg A ab=>(z.b g (by simp;lia) (λe=>?_)).t (bH X O g ab))⟩
 .grind
 have⟨c,hc⟩:=qg h.o e.s;have⟨c',eb⟩:=qg h.a A;rw[hc] at eb;cases eb
def lE.d{A:Vq}(h:lE W2 M X vk vw ak an)(E:W2.heap.size=M)(p:Gr×Vq){O:Obj}(z:(X.alloc O).grownBy Y (aI vw))(G:aH Y M 226 2 A (aD an+1) (an.flatMap lD++lD p)):lE W2 M Y vk A ak (an++[p]):=by
 refine⟨(h.f.l h.f.s O).grown z (by have:=h.f.s;simp;lia) (λk e=>by have:=(qe h.a e).1;lia),by have:=z.size;have:=h.size;simp at *;lia,qm h.o (λg C ab=>(z.b g (by simp;lia) (λe=>?_)).t (bH X O g ab)),?_⟩
 .have⟨c,hc⟩:=qg h.a e.s;have⟨c',eb⟩:=qg h.o C;rw[hc] at eb;cases eb
 grind
def mU(y:Er)(ck:Int)(st:List Gr)(i:Nat):Er:={y with g:=ck,h:=ck-y.u,v:=oV y.j (ck-y.u) y.v,n:=st,a:=(y.a.take i).map (mD y.w (ck-y.u) y.n st)++y.a.drop i}
def Q0.a{z:Nat->Prop}(h:(oA W1 z b y1/\∀k,z k->T k\/W.heap.size<=k)/\fC W W1 T)(k:Q0 z b y2 W1 W2):Q0 T b y2 W W2:=by
 have⟨⟨h1,h2⟩,h3⟩:=h;have⟨⟨T2,k1,k2⟩,k3⟩:=k;have G:=h3.size;refine⟨⟨T2,k1,λj E=>?_⟩,⟨k3.os.t h3.os,k3.tape.t h3.tape,k3.output.t h3.output,bU h3.size k3.size,λi A C=>(k3.h i (cD A h3.size) (λe=>?_)).t (h3.h i A C)⟩⟩
 .grind
 grind
def vu(T:Nat->Prop)(b:Nat)(y:Er)(c:Int)(W:Wq)(e:Ending)(w':Wq):Prop:=∃y' r,sQ y c y' r/\e=aQ (aN #[aO aR r.1,aO aR r.2])/\Q0 T b y' W w'
def vu.mk{c:Int}{e:Ending}{w':Wq}(y':Er)(r:Int×Int)(h:sQ y c y' r)(z:e=aQ (aN #[Ii r.1,Ii r.2]))(A:Q0 T b y' W w'):vu T b y c W e w':=⟨y',r,h,z,A⟩
theorem LW(h:fV W T b y vr vf vn vs vd qs fs ss ds)(hz:wJ y)(cv:Aq y)(c:Int)(eu:∀i f,y.a[i]?=aX f->∀m st,aD st<=2048->(∀g∈st,mJ y.z y.c g)->BD b i f y.n y.w m st):Cs 68 #[Pt b,Ii c] W (vu T b y c W):=by
 have⟨va,vc,ed⟩:=qd h.u.h;have⟨fa,fc,du⟩:=qd h.v;have⟨sa,sc,d2⟩:=qd h.n.h;have⟨da,dc,kp⟩:=qd h.a;subst ed du d2 kp;have HH:Hid (fV W T b y (aJ va (aD qs) vc) (aJ fa (aD fs) fc) vn (aJ sa (aD ss) sc) (aJ da (aD ds) dc) qs fs ss ds):=h;have q2:aE W (Ad b 2)=aX (Ii y.u):=by simp[aE,h.A]
 have q4:aE W (Ad b 4)=aX (Ii y.g):=by simp[aE,h.A]
 have q5:aE W (Ad b 5)=aX (Ii y.h):=by simp[aE,h.A]
 have z4:aF W (Ad b 4)=false:=by simp[aF,h.A]
 have ms:=hz.g;have mh:=hz.u;have mn:=hz.h;have mb:=hz.j;have HZ:Hid (wJ y):=hz;have bf:Hid (Aq y):=cv;have kv:Hid (∀i f,y.a[i]?=aX f->∀m st,aD st<=2048->(∀g∈st,mJ y.z y.c g)->BD b i f y.n y.w m st):=eu;clear h hz cv eu;by_cases hc:0<=c/\c<=1000000
 .have t0:¬c<0:=by{omega};have t1:¬1000000<c:=by{omega};obtain⟨z,c3⟩:=aC (jA y c);have Qpw:0<=z/\z<=1000000:=by{rw[<-c3];unfold jA;split<;>omega};have HT:Hid (∀y' r,((z-y.u<=y.h/\y'={y with g:=z}/\r=(y.h,0))\/(y.h<z-y.u/\r=(z-y.u,0)/\∃st,tD y.z (vT y.j (z-y.u) y.v) y.c st/\y'={y with g:=z,h:=z-y.u,v:=oV y.j (z-y.u) y.v,n:=st,a:=y.a.map (mD y.w (z-y.u) y.n st)}))->sQ y c y' r):=λy' r hh=>aU ⟨hc,by rw[c3];exact hh⟩;obtain⟨y0,aw⟩:=aC ({y with g:=z});obtain⟨W0,ej⟩:=aC ((if y.g<c then W.setCell (Ad b 4) (Ii z) else W));have bq:fV W0 T b y0 (aJ va (aD qs) vc) (aJ fa (aD fs) fc) vn (aJ sa (aD ss) sc) (aJ da (aD ds) dc) qs fs ss ds/\fC W W0 T:=by{rw[<-ej,<-aw];by_cases ay:y.g<c;{rw[if_pos ay];exact⟨HH.o.d (by simp) (λk A=>bF W ⟨b,4,aY⟩ _ k A) rfl rfl rfl rfl rfl (qw HH.o.A 4 _),(fC.j W T).i _ _ (λ_=>HH.o.z)⟩};rw[if_neg ay];have he:z=y.g:=by{rw[<-c3];unfold jA;rw[if_neg ay]};rw[he];exact⟨HH.o,fC.j W T⟩};have c4:Hid _:=bq;have p2:aE W0 (Ad b 2)=aX (Ii y.u):=by{rw[<-aw] at bq;simp[aE,bq.1.A]};have p4:aE W0 (Ad b 4)=aX (Ii z):=by{rw[<-aw] at bq;simp[aE,bq.1.A]};have p5:aE W0 (Ad b 5)=aX (Ii y.h):=by{rw[<-aw] at bq;simp[aE,bq.1.A]};have p8:aE W0 (Ad b 8)=aX (aJ sa (aD ss) sc):=by{simp[aE,bq.1.A]};have y5:aF W0 (Ad b 5)=false:=by{simp[aF,bq.1.A]};have ls:Hid (jA y c=z):=c3;have lm:(y.g<c/\z=c/\W.setCell (Ad b 4) (Ii z)=W0)\/(¬y.g<c/\y.g=z/\W=W0/\¬z<c):=by{rw[<-ej,<-c3];unfold jA;by_cases ay:y.g<c;{rw[if_pos ay,if_pos ay];exact aS ⟨ay,rfl,rfl⟩};rw[if_neg ay,if_neg ay];exact aU ⟨ay,rfl,rfl,ay⟩};clear c3 bq hc ej;go_enter Tryz.func68,Tryz.ntmps68;rcases lm with⟨ay,rfl,ej⟩|⟨ay,lk,rfl,ie⟩;all_goals go_wp2_with fail
  all_goals go_quiet (fail)
  have bd:fV (W0.drewN nq) T b y0 (aJ va (aD qs) vc) (aJ fa (aD fs) fc) vn (aJ sa (aD ss) sc) (aJ da (aD ds) dc) qs fs ss ds/\fC W (W0.drewN nq) T:=⟨c4.o.1.f (qx zr),c4.o.2.trans (fC.d _ (qx zr))⟩;clear q2 q4 q5 z4 p2 p4 p5 p8 y5 c4;generalize W0.drewN nq=W1 at *;clear ej;rotate_left 1;have bd:fV (W.drewN nq) T b y0 (aJ va (aD qs) vc) (aJ fa (aD fs) fc) vn (aJ sa (aD ss) sc) (aJ da (aD ds) dc) qs fs ss ds/\fC W (W.drewN nq) T:=⟨c4.o.1.f (qx zr),c4.o.2.trans (fC.d _ (qx zr))⟩;clear q2 q4 q5 z4 p2 p4 p5 p8 y5 c4 ie lk;generalize W.drewN nq=W1 at *;all_goals (
   have fw:Hid _:=bd;have p2:aE W1 (Ad b 2)=aX (Ii y.u):=by rw[<-aw] at bd;simp[aE,bd.1.A]
   have p4:aE W1 (Ad b 4)=aX (Ii z):=by rw[<-aw] at bd;simp[aE,bd.1.A]
   have p5:aE W1 (Ad b 5)=aX (Ii y.h):=by rw[<-aw] at bd;simp[aE,bd.1.A]
   have z5:aF W1 (Ad b 5)=false:=by simp[aF,bd.1.A]
   have ih:=bd.1.A;rw[<-aw] at ih;clear bd;by_cases c9:z-y.u<=y.h
   .have hT:Hid (sQ y _ y0 (y.h,0)):=HT.o y0 (y.h,0) (aS ⟨c9,aw.s,rfl⟩);have hP:Hid (Q0 T b y0 W W1):=⟨⟨T,⟨_,_,_,_,_,_,_,_,_,fw.o.1⟩,λk A=>aS A⟩,fw.o.2⟩;go_wp2;go_ret2;exact vu.mk y0 (y.h,0) hT.o rfl hP.o
   .have ln:0<=z-y.u/\z-y.u<=1000000/\y.h<z-y.u:=by omega
    obtain⟨W2,fp⟩:=aC ((W1.setCell (Ad b 5) (Ii (z-y.u))).drew);obtain⟨y1,bc⟩:=aC ({y with g:=z,h:=z-y.u});have e5:W2.heap[b]?=cC #[aJ va (aD qs) vc,Ii y.j,Ii y.u,Ii y.w,Ii z,Ii (z-y.u),aJ fa (aD fs) fc,vn,aJ sa (aD ss) sc,aJ da (aD ds) dc] 222:=by rw[<-fp];exact qw (w:=W1) ih 5 _
    have i5:fV W2 T b y1 (aJ va (aD qs) vc) (aJ fa (aD fs) fc) vn (aJ sa (aD ss) sc) (aJ da (aD ds) dc) qs fs ss ds/\fC W W2 T:=by refine⟨fw.o.1.d (by rw[<-fp];show (W1.setCell _ _).heap.size=_;simp) (λk A=>by rw[<-fp];exact bF W1 ⟨b,5,aY⟩ _ k A) (by rw[<-bc,<-aw]) (by rw[<-bc,<-aw]) (by rw[<-bc,<-aw]) (by rw[<-bc,<-aw]) (by rw[<-bc,<-aw]) (by rw[<-bc];exact e5),?_⟩;rw[<-fp];exact (fw.o.2.i _ _ (λ_=>HH.o.z)).drew
    have fy:Hid _:=i5;have s2:aE W1.drew (Ad b 2)=aX (Ii y.u):=p2;have s4:aE W1.drew (Ad b 4)=aX (Ii z):=p4;have r2:aE W2 (Ad b 2)=aX (Ii y.u):=zc e5;have r4:aE W2 (Ad b 4)=aX (Ii z):=zc e5;have r8:aE W2 (Ad b 8)=aX (aJ sa (aD ss) sc):=zc e5;have l9:aR.wrap (z-y.u)=z-y.u:=wG _ (by omega) (by omega);have gx:Hid (∀Y,cH W2.heap.size W2 Y->fV Y T b y1 (aJ va (aD qs) vc) (aJ fa (aD fs) fc) vn (aJ sa (aD ss) sc) (aJ da (aD ds) dc) qs fs ss ds/\fC W Y T):=λY hY=>⟨fy.o.1.f hY,fy.o.2.trans (fC.d _ hY)⟩;have Qfu:aD fs<=24:=by have:=HZ.o.a;rw[<-HH.o.s,bC] at this;exact this
    have HC:Hid (∀Y,cH W2.heap.size W2 Y->aE Y (Ad b 6)=aX (aJ fa (aD fs) fc)/\aE Y (Ad b 1)=aX (Ii y.j)/\aE Y (Ad b 5)=aX (Ii (z-y.u))):=λY hY=>by have⟨h2,_⟩:=gx.o Y hY;have hb:=h2.A;rw[<-bc] at hb;exact⟨zc hb,zc hb,zc hb⟩
    have HF:Hid (∀Y,cH W2.heap.size W2 Y->∀(k:Nat) (A:k<aD fs),∃(gf:Nat) (u1:Option cJ) (u2:Nat),fa=aX ⟨gf,0,aY⟩/\fs[k].2=aJ u1 (aD fs[k].1.1.d) u2/\aE Y (Ad gf (k*4))=aX (St fs[k].1.1.j)/\aE Y (Ad gf (k*4+1))=aX (aJ u1 (aD fs[k].1.1.d) u2)/\aE Y (Ad gf (k*4+2))=aX (Ii fs[k].1.2.1)/\aE Y (Ad gf (k*4+3))=aX (aM fs[k].1.2.2)/\0<=fs[k].1.2.1/\fs[k].1.2.1<=1000000):=λY hY k A=>by have⟨h2,_⟩:=gx.o Y hY;have⟨gf,cap,e1,_,_,_,e2⟩:=lH h2.v (λ_=>rfl) (by omega);have⟨s1,_⟩:=h2.r fs[k] (zm A);have⟨u1,u2,e3⟩:=qd s1;have az:=(HZ.o.v fs[k].1 (by rw[<-HH.o.s];exact bD.2 ⟨_,bT A,rfl⟩)).2;have e4:=e2 k 1 A _ (by decide) rfl;rw[e3] at e4;simp only[aJ.injEq] at e1;exact⟨gf,u1,u2,e1.1,e3,e2 k 0 A _ (by decide) rfl,e4,e2 k 2 A _ (by decide) rfl,e2 k 3 A _ (by decide) rfl,az⟩
    clear i5 e5 ih c9;go_wp2_with fail
    (go_region_held3 (λw'=>aE w' (Ad b 2)=aX (Ii y.u)/\aE w' (Ad b 4)=aX (Ii z)) (first|with_reducible exact⟨s2,s4⟩|with_reducible exact⟨r2,r4⟩|with_reducible assumption) (go_simp))
    obtain⟨M,hM⟩:=aC W2.heap.size;have ey:Hid (lE W2 M W2 (aJ aY 0 0) (aJ aY 0 0) (kM y.j (z-y.u) (fs.take 0)) (lY y.j (z-y.u) (fs.take 0))):=⟨zr,by omega,zo,zo⟩;have⟨i0,hi,d8,az,co⟩:=cL Tryz.b;have⟨j0,hj,Qmi,Qmj,Qmk⟩:=cL Tryz.e;have ee:Hid (W2.heap.size=M):=hM;clear s2 s4 r2 r4 p2 p4 p5 z5 hM;go_wp2_with fail
    go_loopw [7,8,9] (λo1 o2 p wr=>∃(i:Nat) (vk vw:Vq),vk=o1/\vw=o2/\p=aO aR i/\i<=aD fs/\Hid (lE W2 M wr vk vw (kM y.j (z-y.u) (fs.take i)) (lY y.j (z-y.u) (fs.take i)))) (λ_ _ p _=>aD fs-(intOf p).toNat)
    case atStart=>exact⟨0,_,_,rfl,rfl,rfl,zz,ey⟩
    case round=>
     clear ey;obtain⟨i,vk,vw,rfl,rfl,rfl,c9,ae⟩:=hrel;have⟨ka,kc,kn⟩:=qq ae.o.o;have⟨wa,wc,kb⟩:=qq ae.o.a;subst kn kb;have⟨d6,d1,d5⟩:=HC.o wr ae.o.f;have dj:=D6 y.j (z-y.u) (fs.take i);have ic:=O3 y.j (z-y.u) (fs.take i);rw[bO] at dj ic;by_cases ab:i<aD fs
     .have i1:(i:Int)<(aD fs:Int):=by omega
      have⟨gf,u1,u2,c2,e3,f0,f1,f2,f3,b6,dh⟩:=HF.o wr ae.o.f i ab;have fm:=G0 y.j (z-y.u) fs ab;have fr:=Nl y.j (z-y.u) fs ab;rw[e3] at fm fr;obtain⟨C,cy⟩:=aC (fs[i].1.1);obtain⟨tk,ax⟩:=aC (fs[i].1.2.1);obtain⟨bk,dl⟩:=aC (fs[i].1.2.2);rw[cy,ax] at fm fr;rw[cy] at f0 f1;rw[ax] at f2 b6 dh;rw[dl] at f3;have eo:Hid _:=fm;have cb:Hid _:=fr;clear fm fr cy ax dl e3;subst c2;generalize kM y.j (z-y.u) (fs.take i)=ak at *;generalize lY y.j (z-y.u) (fs.take i)=an at *;obtain⟨W3,g7⟩:=aC (wr.alloc (aP #[St C.j,aJ u1 (aD C.d) u2,Ii tk,aM bk] 233));obtain⟨NB,jn⟩:=aC wr.heap.size;have aq:cH wr.heap.size wr W3:=by rw[<-g7];exact (cG _ wr).l zl _
      have gv:Hid (lE W2 M W3 (aJ ka (aD ak) kc) (aJ wa (aD an) wc) ak an):=ae.o.E aq
      have ft:Hid (aI (aJ ka (aD ak) kc)≠aX NB/\aI (aJ wa (aD an) wc)≠aX NB/\M<=NB):=by
       refine⟨λe=>?_,λe=>?_,by have:=ae.o.size;omega⟩
       .have⟨c,hc⟩:=qg ae.o.o e;have:=(zg hc).1;omega
       .have⟨c,hc⟩:=qg ae.o.a e;have:=(zg hc).1;omega
      have gi:W3.heap[NB]?=cC #[St C.j,aJ u1 (aD C.d) u2,Ii tk,aM bk] 233:=by rw[<-g7,<-jn];exact zn wr _
      have g2:aE W3 (Ad NB 2)=aX (Ii tk):=zc gi;have⟨_,c1,c5⟩:=HC.o W3 gv.o.f;have i9:Hid _:=gi;have ly:aR.wrap (tk+y.j)=tk+y.j:=wG _ (by omega) (by omega);clear ae aq gi;go_wp2_with fail;go_quiet (fail);have fk:Hid (lE W2 M (W3.drewN nq) (aJ ka (aD ak) kc) (aJ wa (aD an) wc) ak an):=gv.o.E (qx zr);have am:Hid ((W3.drewN nq).heap[NB]?=cC #[St C.j,aJ u1 (aD C.d) u2,Ii tk,aM bk] 233):=i9.o;generalize W3.drewN nq=W4 at *;clear g2 c1 c5 d6 d1 d5 f0 f1 f2 f3 g7 jn gv i9;by_cases d9:tk+y.j<=z-y.u
      .have b3:Hid (lE W2 M W4 (aJ ka (aD ak) kc) (aJ wa (aD an) wc) (kM y.j (z-y.u) (fs.take (i+1))) (lY y.j (z-y.u) (fs.take (i+1)))):=by have h5:=eo.o;have h6:=cb.o;rw[if_pos d9,bX] at h5 h6;rw[h5,h6];exact fk.o
       clear eo cb;go_wp2;refine⟨⟨i+1,_,_,rfl,rfl,by go_num,by omega,b3⟩,by simp[intOf];omega⟩
      .rw[if_neg d9] at eo cb;have g2:aE W4 (Ad NB 2)=aX (Ii tk):=by simp[aE,am.o]
       have g3:aE W4 (Ad NB 3)=aX (aM bk):=by simp[aE,am.o]
       have z3:aF W4 (Ad NB 3)=false:=by simp[aF,am.o]
       have⟨_,c1,c5⟩:=HC.o W4 fk.o.f;have je:aE W4.drew (Ad NB 2)=aX (Ii tk):=g2;have iq:aE W4.drew (Ad b 5)=aX (Ii (z-y.u)):=c5;obtain⟨bb,bu⟩:=aC (decide (tk<=z-y.u));obtain⟨W5,jd⟩:=aC ((W4.setCell (Ad NB 3) (aM bb)).drew);have cr:Hid (lE W2 M W5 (aJ ka (aD ak) kc) (aJ wa (aD an) wc) ak an):=by rw[<-jd];exact (fk.o.u ee.o ⟨NB,3,aY⟩ _ ft.o.2.2 ft.o.1 ft.o.2.1).E zr.drew
       have df:W5.heap[NB]?=cC #[St C.j,aJ u1 (aD C.d) u2,Ii tk,aM bb] 233:=by rw[<-jd];exact qw (w:=W4) am.o 3 _
       have x0:aE W5 (Ad NB 0)=aX (St C.j):=zc df;have x1:aE W5 (Ad NB 1)=aX (aJ u1 (aD C.d) u2):=zc df;have x2:aE W5 (Ad NB 2)=aX (Ii tk):=zc df;have x3:aE W5 (Ad NB 3)=aX (aM bb):=zc df;have⟨_,_,x5⟩:=HC.o W5 cr.o.f;have b7:Hid _:=df;have Qj6:Hid (kM y.j (z-y.u) (fs.take (i+1))=ak++[((C,tk,bb),aJ u1 (aD C.d) u2)]):=by rw[<-bu];exact eo.o
       clear fk df am eo;go_wp2_with fail
       (go_region_held3 (λw'=>aE w' (Ad NB 2)=aX (Ii tk)/\aE w' (Ad b 5)=aX (Ii (z-y.u))) (first|with_reducible exact⟨je,iq⟩|with_reducible exact⟨x2,x5⟩|with_reducible assumption) (go_simp))
       clear je iq c1 c5 g2 g3 z3
       cases bb with
       |true=>
        have ii:tk<=z-y.u:=by simpa using bu
        rw[if_pos ii] at cb;clear bu;have kx:Hid (aH W5 M 226 2 (aJ wa (aD an) wc) (aD an) (an.flatMap lD)):=cr.o.a;have gs:Hid (∀O,M<=(W5.alloc O).heap.size):=λO=>by have:=cr.o.size;simp;omega
        have km:Hid (∀(Y:Wq) (v':Vq) (O:Obj),(W5.alloc O).grownBy Y (aI (aJ wa (aD an) wc))->aH Y M 226 2 v' (aD an+1) (an.flatMap lD++[St C.j,aJ u1 (aD C.d) u2])->lE W2 M Y (aJ ka (aD ak) kc) v' ak (an++[(C,aJ u1 (aD C.d) u2)])/\aE Y (Ad NB 0)=aX (St C.j)/\aE Y (Ad NB 1)=aX (aJ u1 (aD C.d) u2)/\aE Y (Ad NB 2)=aX (Ii tk)/\aE Y (Ad NB 3)=aX (aM true)):=λY v' O E ho=>by have Qhv:NB<W5.heap.size:=(zg b7.o).1;have h9:=((E.b NB (by simp;omega) (λe=>ft.o.2.1 e.s)).t (bH W5 O NB Qhv)).t b7.o;exact⟨cr.o.d ee.o (C,aJ u1 (aD C.d) u2) E ho,zc h9,zc h9,zc h9,zc h9⟩
        have kq:Hid (∀(X:Wq) (dd:Vq),lE W2 M X (aJ ka (aD ak) kc) dd ak (an++[(C,aJ u1 (aD C.d) u2)])->∀(Y:Wq) (v':Vq) (O:Obj),(X.alloc O).grownBy Y (aI (aJ ka (aD ak) kc))->aH Y M 233 4 v' (aD ak+1) (ak.flatMap nU++[St C.j,aJ u1 (aD C.d) u2,Ii tk,aM true])->lE W2 M Y v' dd (kM y.j (z-y.u) (fs.take (i+1))) (lY y.j (z-y.u) (fs.take (i+1)))):=λX dd hX Y v' O E ho=>by rw[Qj6.o,cb.o];exact hX.c ee.o ((C,tk,true),aJ u1 (aD C.d) u2) E ho
        go_wp2_with (first|(at_builtin;refine cI _ rfl _ _ 217 rfl M 226 i0 _ 2 40 Tryz.underlying217 hi d8 az co rfl (by decide) _ (aD an) (an.flatMap lD) rfl (kx.o.l _) ⟨W5.heap.size,0,aY⟩ 1 _ [St C.j,aJ u1 (aD C.d) u2] rfl rfl (rx _ _ _ _) (by simp[bJ]) (by unfold maxLen;omega) (by omega) (gs.o _) ?_;intro fe w1 ai ag _;have⟨Qjm,o0,o1,o2,o3⟩:=km.o _ _ _ ag ai;have ef:Hid (lE W2 M w1 (aJ ka (aD ak) kc) fe ak (an++[(C,aJ u1 (aD C.d) u2)])):=Qjm;clear Qjm;clear ai ag)|(at_builtin;refine cI _ rfl _ _ 219 rfl M 233 j0 _ 4 56 Tryz.underlying219 hj Qmi Qmj Qmk rfl (by decide) _ (aD ak) (ak.flatMap nU) rfl (aH.l ef.o.o _) ⟨w1.heap.size,0,aY⟩ 1 _ [St C.j,aJ u1 (aD C.d) u2,Ii tk,aM true] rfl rfl (sL _ _ _ _ _ _) (by simp[bJ]) (by unfold maxLen;omega) (by omega) (by have:=ef.o.size;simp;omega) ?_;intro lz w2 i6 js _;have lp:Hid _:=kq.o _ _ ef.o _ _ _ js i6;clear i6 js))
        refine⟨⟨i+1,_,_,rfl,rfl,by go_num,by omega,lp⟩,by simp[intOf];omega⟩
       |false=>
        have ii:¬tk<=z-y.u:=by simpa using bu
        rw[if_neg ii,bX] at cb;clear bu;have kl:Hid (aH W5 M 233 4 (aJ ka (aD ak) kc) (aD ak) (ak.flatMap nU)):=cr.o.o;have gs:Hid (∀O,M<=(W5.alloc O).heap.size):=λO=>by have:=cr.o.size;simp;omega
        have j4:Hid (∀(Y:Wq) (v':Vq) (O:Obj),(W5.alloc O).grownBy Y (aI (aJ ka (aD ak) kc))->aH Y M 233 4 v' (aD ak+1) (ak.flatMap nU++[St C.j,aJ u1 (aD C.d) u2,Ii tk,aM false])->lE W2 M Y v' (aJ wa (aD an) wc) (kM y.j (z-y.u) (fs.take (i+1))) (lY y.j (z-y.u) (fs.take (i+1)))):=λY v' O E ho=>by rw[Qj6.o,cb.o];exact cr.o.c ee.o ((C,tk,false),aJ u1 (aD C.d) u2) E ho
        go_wp2_with (at_builtin;refine cI _ rfl _ _ 219 rfl M 233 j0 _ 4 56 Tryz.underlying219 hj Qmi Qmj Qmk rfl (by decide) _ (aD ak) (ak.flatMap nU) rfl (kl.o.l _) ⟨W5.heap.size,0,aY⟩ 1 _ [St C.j,aJ u1 (aD C.d) u2,Ii tk,aM false] rfl rfl (sL _ _ _ _ _ _) (by simp[bJ]) (by unfold maxLen;omega) (by omega) (gs.o _) ?_;intro fe w1 ai ag _;have ef:Hid _:=j4.o _ _ _ ag ai;clear ai ag)
        refine⟨⟨i+1,_,_,rfl,rfl,by go_num,by omega,ef⟩,by simp[intOf];omega⟩
     .have i1:¬(i:Int)<(aD fs:Int):=by omega
      rw[bL (by omega)] at ae dj ic ⊢;have⟨aa,jg⟩:=gx.o wr ae.o.f;obtain⟨W6,e9⟩:=aC (wr.setCell (Ad b 6) (aJ ka (aD (kM y.j (z-y.u) fs)) kc))
      have dn:fV W6 (jZ T W2 W6) b {y1 with v:=oV y.j (z-y.u) y.v} (aJ va (aD qs) vc) (aJ ka (aD (kM y.j (z-y.u) fs)) kc) vn (aJ sa (aD ss) sc) (aJ da (aD ds) dc) qs (kM y.j (z-y.u) fs) ss ds/\fC W W6 T/\jS W6 (aJ wa (aD (lY y.j (z-y.u) fs)) wc) (lY y.j (z-y.u) fs):=by
       have cf:∀k,k<wr.heap.size->k≠b->W6.heap[k]?=wr.heap[k]?:=λk _ A=>by rw[<-e9];exact bF wr ⟨b,6,aY⟩ _ k A
       have kd:W6.heap.size=wr.heap.size:=by rw[<-e9];simp
       have mj:=ae.o.f.s;have jz:∀k,T k->k<W2.heap.size:=fy.o.1.lt;have ah:∀k,T k->jZ T W2 W6 k:=λk A=>aS A;have di:∀(u:Vq) {U m n:Nat} {xs:List Vq},aH wr M U m u n xs->∀k,aI u=aX k->jZ T W2 W6 k:=λu _ _ _ _ hu k A=>by have⟨h5,c,hc⟩:=qe hu A;have h6:=(zg hc).1;have:=ee.o;exact aU ⟨by omega,by omega⟩
       refine⟨aa.H ah (λk A=>?_) cf rfl rfl rfl ?_ (qz (aa.h cf (by decide) ae.o.o) zz) (di _ ae.o.o) ?_ (λp G=>?_) ⟨aa.h cf (by decide) aa.n.h,λp G=>aa.h cf (by decide) (aa.n.z p G)⟩ (λg E=>ah g (aa.F g E)) (by rw[aa.t]) (λp G g E=>ah g (aa.D p G g E)) (λg E=>⟨λp G=>?_,(aa.I g E).2⟩),?_,⟨qz (aa.h cf (by decide) ae.o.a) zz,λp G=>?_⟩⟩
       .rcases A with A|A
        .have:=jz k A;omega
        .exact A.2
       .have hb:=aa.A;rw[<-e9];exact qw hb 6 _
       .rw[Dy,HH.o.s]
       .have⟨q,hq,e1,e2⟩:=AF G;have:=aa.r q hq;rw[e1,e2] at this;exact⟨aa.h cf (by decide) this.1,λg E=>ah g (this.2 g E)⟩
       .have⟨q,hq,e1,e2⟩:=AF G;have:=(aa.I g E).1 q hq;rw[e2] at this;exact this
       .rw[<-e9];exact jg.i _ _ (λ_=>HH.o.z)
       .have⟨q,hq,e1,e2⟩:=EU G;have:=(aa.r q hq).1;rw[e1,e2] at this;exact aa.h cf (by decide) this
      have el:Hid _:=dn;have z6:aF wr (Ad b 6)=false:=by simp[aF,aa.A]
      have e0:aE W6 (Ad b 0)=aX (aJ va (aD qs) vc):=by simp[aE,dn.1.A]
      have b8:Hid _:=Aj qs (lY y.j (z-y.u) fs) y.c (aJ va (aD qs) vc) (aJ wa (aD (lY y.j (z-y.u) fs)) wc) W6 dn.1.u dn.2.2 (by have:=HZ.o.o;rw[<-HH.o.G,bC] at this;omega) (by omega) (by rw[HH.o.G];exact bf.o.a) (λp G=>by
       rw[HH.o.G];have⟨q,hq,e1,e2⟩:=EU G;rw[<-e1]
       exact bf.o.c q.1 (by rw[<-HH.o.s];exact bD.2 ⟨q,hq,rfl⟩))
      clear dn aa jg ae ic dj;go_wp2_with fail;refine bB b8.o ?_;clear b8;rintro e' W7 ⟨mq,et,rfl,bv,fl⟩;have⟨ta,tc,k8⟩:=qq bv.h;subst k8;rw[HH.o.G,I5,HH.o.s] at fl;obtain⟨W8,fv⟩:=aC (W7.setCell (Ad b 8) (aJ ta (aD et) tc));obtain⟨st,ae⟩:=aC (et.map (·.1));rw[ae] at fl;have Qhc:cH W6.heap.size W6 W7:=bv.f;have af:=el.o.1.f Qhc
      have ff:fV W8 (jZ (jZ T W2 W6) W6 W8) b {y with g:=z,h:=z-y.u,v:=oV y.j (z-y.u) y.v,n:=st} (aJ va (aD qs) vc) (aJ ka (aD (kM y.j (z-y.u) fs)) kc) vn (aJ ta (aD et) tc) (aJ da (aD ds) dc) qs (kM y.j (z-y.u) fs) et ds/\fC W W8 T/\jS W8 (aJ sa (aD ss) sc) ss:=by
       have cn:∀k,k<W7.heap.size->k≠b->W8.heap[k]?=W7.heap[k]?:=λk _ A=>by rw[<-fv];exact bF W7 ⟨b,8,aY⟩ _ k A
       have lw:W8.heap.size=W7.heap.size:=by rw[<-fv];simp
       have ah:∀k,jZ T W2 W6 k->jZ (jZ T W2 W6) W6 W8 k:=λk A=>aS A;have di:∀(u:Vq) {U m n:Nat} {xs:List Vq},aH W7 0 U m u n xs->(∀k,aI u=aX k->W6.heap.size<=k)->∀k,aI u=aX k->jZ (jZ T W2 W6) W6 W8 k:=λu _ _ _ _ hu hl k A=>by have⟨c,hc⟩:=qg hu A;have h6:=(zg hc).1;exact aU ⟨hl k A,by omega⟩
       have Qli:∀p∈et,(∃q∈kM y.j (z-y.u) fs,q.2=p.2)\/∀g,aI p.2=aX g->W6.heap.size<=g:=λp G=>by
        rcases bv.c p G with h5|h5
        .have⟨q,hq,e⟩:=bD.1 h5;unfold lY at hq;obtain⟨f,hf,rfl⟩:=bD.1 hq;exact aS ⟨f,(bZ.1 hf).1,e⟩
        .exact aU h5
       refine⟨af.H ah (λk A=>?_) cn (by rw[<-bc]) (by rw[<-bc]) (by rw[<-bc]) ?_ (af.h cn (by decide) af.v) (λg E=>ah g (af.C g E)) af.s (λp G=>⟨af.h cn (by decide) (af.r p G).1,λg E=>ah g ((af.r p G).2 g E)⟩) ⟨qz (af.h cn (by decide) bv.h) zz,λp G=>af.h cn (by decide) (bv.z p G)⟩ (di _ (qz bv.h zz) (λk A=>(qe bv.h A).1)) ae (λp G g E=>?_) (λg E=>⟨(af.I g E).1,λp G e=>?_⟩),?_,⟨af.h cn (by decide) af.n.h,λp G=>af.h cn (by decide) (af.n.z p G)⟩⟩
       .rcases A with A|A
        .have:=af.lt k A;omega
        .exact A.2
       .have hb:=af.A;rw[<-fv];rw[<-bc] at hb;exact qw hb 8 _
       .rcases Qli p G with⟨q,hq,e⟩|h5
        .rw[<-e] at E;exact ah g ((af.r q hq).2 g E)
        .exact di p.2 (bv.z p G) h5 g E
       .rcases Qli p G with⟨q,hq,e'⟩|h5
        .rw[<-e'] at e;exact (af.I g E).1 q hq e
        .have:=h5 g e;have:=el.o.1.lt g (el.o.1.B g E);omega
       .rw[<-fv];exact (el.o.2.1.trans (fC.d _ Qhc)).i _ _ (λ_=>HH.o.z)
      have e8:aE W7 (Ad b 8)=aX (aJ sa (aD ss) sc):=by simp[aE,af.A]
      have z8:aF W7 (Ad b 8)=false:=by simp[aF,af.A]
      have co:W.heap.size<=W2.heap.size:=fy.o.2.size;have kd:W.heap.size<=W6.heap.size:=el.o.2.1.size
      have jl:Hid (Q0 T b (mU y z st 0) W W8/\jS W8 (aJ sa (aD ss) sc) ss):=by
       have b6:mU y z st 0={y with g:=z,h:=z-y.u,v:=oV y.j (z-y.u) y.v,n:=st}:=by unfold mU;simp
       show Q0 T b (mU y z st 0) W W8/\_;rw[b6];refine⟨⟨⟨jZ (jZ T W2 W6) W6 W8,⟨_,_,_,_,_,_,_,_,_,ff.1⟩,λk A=>?_⟩,ff.2.1⟩,ff.2.2⟩;rcases A with (A|A)|A
       .exact aS A
       .right;omega
       .right;omega
      have gm:Hid (tD y.z (vT y.j (z-y.u) y.v) y.c st):=fl;have l7:aD ds=aD y.a:=by rw[<-HH.o.w,bC]
      have h3:=HZ.o.c;have li:Hid (ss.map (·.1)=y.n):=HH.o.t;have gb:Hid (∀i,i<=aD y.a->aD (mU y z st i).a=aD y.a):=λi hi=>by unfold mU;simp;omega
      have HCe:Hid (∀Y i,i<=aD y.a->Q0 T b (mU y z st i) W Y->∃(xa:Option cJ) (xc:Nat),aE Y (Ad b 9)=aX (aJ xa (aD y.a) xc)/\aE Y (Ad b 5)=aX (Ii (z-y.u))):=λY i hi hP=>by
       have⟨⟨T',⟨l4,vf',vn',dy,lr,l8,b9,dk,j2,hv⟩,_⟩,_⟩:=hP;have⟨xa,xc,hx⟩:=qd hv.a;have hl:aD j2=aD y.a:=by rw[<-gb.o i hi,<-hv.w,bC]
       subst hx;rw[hl] at hv;exact⟨xa,xc,by simp[aE,hv.A],by simp[aE,hv.A];rfl⟩
      clear ff af bv Qhc fl;go_wp2_with fail
      go_loopw [11] (λp wr=>∃i:Nat,p=aO aR i/\i<=aD y.a/\Hid (Q0 T b (mU y z st i) W wr/\jS wr (aJ sa (aD ss) sc) ss)) (λp _=>aD y.a-(intOf p).toNat)
      case atStart=>exact⟨0,rfl,zz,jl⟩
      case round=>
       clear jl e8 z8 e0 z6 d6 d1 d5;obtain⟨j,rfl,gu,hP⟩:=hrel;have⟨xa,xc,x9,x5⟩:=HCe.o wr j gu hP.o.1;by_cases ab:j<aD y.a
       .have i2:(j:Int)<(aD y.a:Int):=by omega
        have eu:Hid (Cs 120 #[Pt b,Ii (j:Int),aJ sa (aD ss) sc] wr λe w'=>e=aQ (aN #[])/\Hid (Q0 T b (mU y z st (j+1)) W w'/\jS w' (aJ sa (aD ss) sc) ss)):=by
         have⟨⟨⟨T',im,ky⟩,k0⟩,ez⟩:=hP.o;have Qod:(mU y z st j).a[j]?=aX y.a[j]:=by unfold mU;simp only;rw[List.getElem?_append_right (by simp;omega)];simp[cE gu]
         refine (kv.o j y.a[j] (List.getElem?_eq_getElem ab) (z-y.u) st (gm.o.1.I bf.o.a) gm.o.1.o wr T' _ _ ss im Qod ez li.o rfl rfl rfl).m ?_;rintro e w' ⟨k1,k2,k3⟩;have b3:{mU y z st j with a:=(mU y z st j).a.set j (mD y.w (z-y.u) y.n st y.a[j])}=mU y z st (j+1):=by unfold mU;simp only[Er.mk.injEq,true_and];rw[List.set_append_right _ _ (by simp;omega)];simp only[bC,bO,cE gu,Nat.sub_self];rw[bE ab,List.map_append,List.append_assoc,bI ab];rfl
         rw[b3] at k2;refine⟨k1,Q0.a ⟨⟨im,ky⟩,k0⟩ k2,⟨qm ez.h (λg E _=>?_),λp G=>qm (ez.z p G) (λg E _=>?_)⟩⟩
         .have⟨c,hc⟩:=qg ez.h E;exact k3 g c _ (by decide) (by decide) hc
         .have⟨c,hc⟩:=qg (ez.z p G) E;exact k3 g c _ (by decide) (by decide) hc
        clear hP;go_wp2_with fail;refine bB eu.o ?_;rintro e' W9 ⟨rfl,ke⟩;clear eu;go_wp2;refine⟨⟨j+1,by go_num,by omega,ke⟩,by simp[intOf];omega⟩
       .have i2:¬(j:Int)<(aD y.a:Int):=by omega
        have iz:j=aD y.a:=by omega
        have hT:Hid (sQ y _ (mU y z st (aD y.a)) (z-y.u,0)):=HT.o _ _ (aU ⟨ln.2.2,rfl,st,gm.o,by unfold mU;simp⟩);have jy:Hid (Q0 T b (mU y z st (aD y.a)) W wr):=by rw[<-iz];exact hP.o.1
        clear hP iz;go_wp2;go_ret2
        exact vu.mk _ _ hT.o rfl jy.o)
 have hT:Hid (sQ y c y (0,6)):=aS ⟨hc,rfl,rfl⟩;have hS:Hid (∀Y,cH W.heap.size W Y->Q0 T b y W Y):=λY hY=>Q0.u ⟨_,_,_,_,_,_,_,_,_,HH.o⟩ hY;by_cases ci:c<0
 .clear hc;go_enter Tryz.func68,Tryz.ntmps68;go_wp2;go_ret2;exact vu.mk y (0,6) hT.o rfl (hS.o _ zr)
 have mt:1000000<c:=by omega
 clear hc;go_enter Tryz.func68,Tryz.ntmps68;go_wp2;go_ret2;exact vu.mk y (0,6) hT.o rfl (hS.o _ zr)
