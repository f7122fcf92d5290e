/- A part -/
import Derived.Test.YtjajnhemgphefaaGreatDoorKWyQ
set_option linter.all false
set_option maxRecDepth 100000
set_option maxHeartbeats 4000000
namespace Go.Proofs.YtjajnhemgphefaaGreatDoor
open Go renaming World->Wq,Value->Vq
open Go.RowKit Go.Shelf
variable {W W':Wq} {T:Nat->Prop} {b:Nat} {y y':Er} {vr vf vn vs vd:Vq} {qs:List (Rl×Vq×Vq)} {fs:List ((Gr×Int×Bool)×Vq)} {ss:List (Gr×Vq)} {ds:List (Fr×Vq×Vq)}
theorem Tryz.infoFact:(Tryz.prog.info? 233).map (λi=>(i.zero,i.size,i.bytes))=some (some (.agg #[St ⟨#[]⟩,.slice none 0 0,Ii 0,.bool false]),4,56):=by kernel_rfl
structure qz4(y:Er):Prop where
 r8:y.rs.length<=8
 body:∀r∈y.rs,r.body.length<=3
 win:1<=y.win/\y.win<=1000
 lat:0<=y.lat/\y.lat<=1000
 que:1<=y.que/\y.que<=50
 mark:0<=y.mark/\y.mark<=1000000
 clock:0<=y.clock/\y.clock<=1000000
 f24:y.facts.length<=24
 facts:∀f∈y.facts,f.1.args.length<=2/\0<=f.2.1/\f.2.1<=1000000
 n8:y.names.length<=8
 st:y.state.length<=2048
 f3:y.feeds.length<=3
theorem qvq(h:qcm W T b y vr vf vn vs vd qs fs ss ds)(hz:qz4 y)(s:By)(hs:s.size<=1048576)(t:Int) :
  Cs 67 #[Pt b,St s,Ii t] W λe w'=>e=.returned (Ii (qf4 y s t).1)/\qan T b (qf4 y s t).2 W w':=by
 obtain⟨va,vc,ed⟩:=qd h.rules.row;obtain⟨fa,fc,ev⟩:=qd h.facts;obtain⟨na,nc,cj⟩:=qd h.names;have fy:b < W.heap.size:=h.lt b h.own;have d5:Hid (Cs 114 #[St s] W λe w'=>qen s W.heap.size e w'/\Below W.heap.size W w'):=qzt s W hs;go_enter Tryz.func67,Tryz.ntmps67;go_wp2_with fail;refine Calls.mono d5.out ?_;rintro e' W1 ⟨h1,ag⟩
 obtain⟨a,oa,oc,bh,he,d2,e9,d4,be⟩:∃(a:Am) (oa:Option Addr) (oc:Nat) (bh:Bool),e'=.returned (.tuple #[.agg #[St a.rel,.slice oa a.args.length oc],.bool bh])/\W1.ownsRow W.heap.size 215 2 (.slice oa a.args.length oc) a.args.length (a.args.flatMap tmC)/\a.args.length<=2/\(bh=true->qgh s=some a)/\(bh=false->qgh s=none):=by
  unfold qen at h1
  cases ho:qgh s with
  | none=>
   rw[ho] at h1;exact⟨⟨⟨#[]⟩,[]⟩,none,0,false,h1,zo,by simp,λh=>(by cases h),λ_=>rfl⟩
  | some a=>
   rw[ho] at h1;obtain⟨fk,k1,k2,k3,k4,k5,k6⟩:=h1;obtain⟨oa,oc,rfl⟩:=qd k2;exact⟨a,oa,oc,true,k1,k2,k3,λ_=>rfl,λh=>(by cases h)⟩
 subst he;have bj:Hid (Below W.heap.size W W1):=ag;obtain⟨N,hN⟩:∃N,W.heap.size=N:=⟨_,rfl⟩;obtain⟨V,hV⟩:∃V,W1.alloc (.cells #[St a.rel,.slice oa a.args.length oc] 145)=V:=⟨_,rfl⟩;have df:Below N W V:=by rw[<- hV,<- hN];exact ag.alloc ag.size _
 have bn:V.heap[W1.heap.size]?=cC #[St a.rel,.slice oa a.args.length oc] 145:=by rw[<- hV];exact zn W1 _
 have dx:V.ownsRow N 215 2 (.slice oa a.args.length oc) a.args.length (a.args.flatMap tmC):=by rw[<- hV,<- hN];exact d2.alloc _
 have dd:Hid _:=q0y (a,.slice oa a.args.length oc) V (Qa dx zz) (by show a.args.length<=1000;omega);have HV:Hid (Below N W V/\V.heap[W1.heap.size]?=cC #[St a.rel,.slice oa a.args.length oc] 145):=⟨df,bn⟩;have v0:V.cell? (Ad W1.heap.size 0)=some (St a.rel):=zc bn
 have v1:V.cell? (Ad W1.heap.size 1)=some (.slice oa a.args.length oc):=zc bn
 clear d5 h1 ag d2 dx df bn;go_wp2_with fail;refine Calls.mono dd.out ?_;clear dd v0 v1;rintro e' W2 ⟨h2,af⟩
 obtain⟨g,ga,gc,fb,he,da,dq,dl⟩:∃(g:Gr) (ga:Option Addr) (gc:Nat) (fb:Bool),e'=.returned (.tuple #[.agg #[St g.rel,.slice ga g.args.length gc],.bool fb])/\W2.ownsRow V.heap.size 9 1 (.slice ga g.args.length gc) g.args.length (g.args.map Value.string)/\(fb=true->qfw a=some g)/\(fb=false->qfw a=none):=by
  unfold qfq at h2
  cases ho:qfw a with
  | none=>
   simp only[ho] at h2;exact⟨⟨⟨#[]⟩,[]⟩,none,0,false,h2,zo,λh=>(by cases h),λ_=>rfl⟩
  | some g=>
   simp only[ho] at h2;obtain⟨vg,k1,k2⟩:=h2;obtain⟨ga,gc,rfl⟩:=qd k2;exact⟨g,ga,gc,true,k1,k2,λ_=>rfl,λh=>(by cases h)⟩
 subst he;clear h2;obtain⟨X,hX⟩:∃X,W2.alloc (.cells #[St g.rel,.slice ga g.args.length gc] 226)=X:=⟨_,rfl⟩;have b5:Below V.heap.size V X:=by rw[<- hX];exact af.alloc af.size _
 have d6:Below N W X:=HV.out.1.trans (b5.mono (by have:=HV.out.1.size;omega));have bq:X.heap[W2.heap.size]?=cC #[St g.rel,.slice ga g.args.length gc] 226:=by rw[<- hX];exact zn W2 _
 have bv:X.heap[W1.heap.size]?=cC #[St a.rel,.slice oa a.args.length oc] 145:=(b5.block _ (zg HV.out.2).1).trans HV.out.2;have c5:X.ownsRow V.heap.size 9 1 (.slice ga g.args.length gc) g.args.length (g.args.map Value.string):=by rw[<- hX];exact da.alloc _
 have a0:X.cell? (Ad W1.heap.size 0)=some (St a.rel):=zc bv
 have hq:qs.length<=1000:=by have:=hz.r8;rw[<- h.rsm,List.length_map] at this;omega
 have cn:∀q∈qs,q.1.body.length<=900:=λq hq=>by have:=hz.body q.1 (by rw[<- h.rsm];exact List.mem_map.2 ⟨q,hq,rfl⟩);omega
 have cd:qap y.rs=Qt qs:=by rw[<- h.rsm];unfold qap Qt;rw[List.flatMap_map]
 have dw:Hid (fs.length=y.facts.length):=by show _=_;rw[<- h.factsm,List.length_map]
 subst ed ev cj;obtain⟨NA,cf⟩:∃NA,W1.heap.size=NA:=⟨_,rfl⟩;obtain⟨NG,cc⟩:∃NG,W2.heap.size=NG:=⟨_,rfl⟩;rw[cf] at bv a0;rw[cc] at bq;have ff:=b5.size;have dh:=HV.out.1.size;have dv:Hid (W.heap.size<=V.heap.size):=dh
 have Qfu:N<=NA/\NA < V.heap.size:=by
  have h1:=HV.out.2;rw[cf] at h1;refine⟨?_,(zg h1).1⟩;have:NA < V.heap.size:=(zg h1).1;rw[<- hV] at this;simp at this;have h2:W.heap.size<=W1.heap.size:=bj.out.size;omega
 have Qfv:V.heap.size<=NG:=by rw[<- cc];exact af.size
 have HX:Hid (∀Y,Below X.heap.size X Y->Below N W Y/\qcm Y T b y (.slice va qs.length vc) (.slice fa fs.length fc) (.slice na y.names.length nc) vs vd qs fs ss ds/\Y.heap[NA]?=cC #[St a.rel,.slice oa a.args.length oc] 145/\Y.heap[NG]?=cC #[St g.rel,.slice ga g.args.length gc] 226/\Y.ownsRow V.heap.size 9 1 (.slice ga g.args.length gc) g.args.length (g.args.map Value.string)):=λY hY=>by
  have h1:Below N W Y:=d6.trans (hY.mono (by omega));exact⟨h1,h.below (hN ▸ h1),(hY.block _ (by omega)).trans bv,(hY.block _ (zg bq).1).trans bq,qk c5 hY⟩
 have Qc3:Hid _:=q0l (HX.out X zr).2.1 hq cn a.rel
 have HC:Hid (∀Y,Below X.heap.size X Y->Y.cell? (Ad b 0)=some (.slice va qs.length vc)/\Y.cell? (Ad NA 0)=some (St a.rel)):=λY hY=>by
  obtain⟨_,h2,h3,_⟩:=HX.out Y hY;exact⟨by simp[World.cell?,h2.box],zc h3⟩
 have dy:Hid (∀Y,Below X.heap.size X Y->Cs 117 #[.slice va qs.length vc,St a.rel] Y.drew λe w'=>e=.returned (Ii (qac (qap y.rs) a.rel:Int))/\(w'.cell? (Ad b 0)=some (.slice va qs.length vc)/\w'.cell? (Ad NA 0)=some (St a.rel))/\Hid (Below X.heap.size X w')):=λY hY=>by
  obtain⟨_,h2,h3,_⟩:=HX.out Y.drew hY.drew;rw[cd];refine (qhu _ qs a.rel Y.drew h2.rules hq cn).mono ?_;rintro e w' ⟨k1,k2⟩;have k3:Below X.heap.size X w':=hY.drew.trans (k2.mono hY.drew.size);exact⟨k1,HC.out w' k3,k3⟩
 clear d6 af da b5 bv bq c5 hV HV bj ff Qfv Qfu;go_wp2_with fail;refine Calls.mono Qc3.out ?_;rintro e' W3 ⟨rfl,ao⟩;have Qc2:=dy.out W3 ao;obtain⟨c0,z0⟩:=HC.out W3.drew ao.drew;clear Qc3 a0 dy hX;go_wp2_with fail
 first | (go_region_held3 (λw'=>w'.cell? (Ad b 0)=some (.slice va qs.length vc)/\w'.cell? (Ad NA 0)=some (St a.rel)) (first | with_reducible exact⟨c0,z0⟩ | with_reducible assumption) (first | (go_at_call 117;refine Calls.mono Qc2 ?_;rintro e' W4 ⟨rfl,cb,c9⟩) | go_simp)) | fail
 obtain⟨ar,co⟩:∃ar,qac (Qt qs) a.rel=ar:=⟨_,rfl⟩;obtain⟨bb,cm⟩:∃bb,qfs y.rs a.rel=bb:=⟨_,rfl⟩;have dp:Hid (qac (qap y.rs) a.rel=ar):=by show _=_;rw[cd];exact co
 have c4:Hid (qfs y.rs a.rel=bb):=cm;rw[co,cm];clear co cm Qc2 cb c0 z0 ao;have HS:Hid (∀Y,Below X.heap.size X Y->qan T b y W Y):=λY hY=>qan.same ⟨_,_,_,_,_,_,_,_,_,h⟩ (hN ▸ (HX.out Y hY).1);have ak:Hid (Below X.heap.size X W4):=c9.out
 have di:Hid (∀Y,Below X.heap.size X Y->Y.cell? (Ad NA 1)=some (.slice oa a.args.length oc)/\Y.cell? (Ad b 1)=some (Ii y.win)/\Y.cell? (Ad b 5)=some (Ii y.mark)/\Y.cell? (Ad b 6)=some (.slice fa fs.length fc)/\Y.cell? (Ad b 7)=some (.slice na y.names.length nc)):=λY hY=>by
  obtain⟨_,h2,h3,_⟩:=HX.out Y hY;exact⟨zc h3,by simp[World.cell?,h2.box],by simp[World.cell?,h2.box],by simp[World.cell?,h2.box],by simp[World.cell?,h2.box]⟩
 have HI:Hid (qf4 y s t=match qgh s with
  | none=>(2,y)
  | some a=>match qfw a with
   | none=>(2,y)
   | some g=>if qfs y.rs a.rel=false then (7,y) else if qac (qap y.rs) a.rel≠a.args.length then (4,y) else if ¬(0<=t/\t<=1000000) then (6,y) else if t+y.win<=y.mark then (8,y) else if y.facts.any (λf=>qek f.1 g && decide (f.2.1=t))=true then (9,y) else if 24<=y.facts.length\/8 < (qa7 y.names g.args).length then (10,y) else (0,{y with names:=qa7 y.names g.args,facts:=y.facts++[(g,t,false)]})):=rfl
 obtain⟨p1,p2,p3,p4,p5⟩:=di.out W4 ak.out;have Qh9:=hz.win;have fl:=hz.mark;have HZ:Hid (qz4 y):=hz;have HH:Hid (qcm W T b y (.slice va qs.length vc) (.slice fa fs.length fc) (.slice na y.names.length nc) vs vd qs fs ss ds):=h;clear cd cn hq c9 h hz HC cf cc dh
 cases bh with
 | false=>
  have hi:Hid (qf4 y s t=(2,y)):=by show _=_;rw[HI.out,be rfl]
  clear HI;go_wp2;go_ret;rw[hi.out];exact⟨rfl,HS.out _ ak.out⟩
 | true=>
  have ca:=d4 rfl
  cases fb with
  | false=>
   have hi:Hid (qf4 y s t=(2,y)):=by show _=_;rw[HI.out,ca];simp only[dl rfl]
   clear HI;go_wp2;go_ret;rw[hi.out];exact⟨rfl,HS.out _ ak.out⟩
  | true=>
   have an:=dq rfl
   have ab:Hid (qf4 y s t=if bb=false then (7,y) else if ar≠a.args.length then (4,y) else if ¬(0<=t/\t<=1000000) then (6,y) else if t+y.win<=y.mark then (8,y) else if y.facts.any (λf=>qek f.1 g && decide (f.2.1=t))=true then (9,y) else if 24<=y.facts.length\/8 < (qa7 y.names g.args).length then (10,y) else (0,{y with names:=qa7 y.names g.args,facts:=y.facts++[(g,t,false)]})):=by
    show _=_;rw[HI.out,ca];simp only[an,dp.out,c4.out]
   have fo:g.args.length<=2:=by
    unfold qfw at an;split at an
    .cases an
    .injection an with an;subst an;simpa using e9
   clear HI d4 be dq dl ca an dp c4
   cases bb with
   | false=>
    have hi:Hid (qf4 y s t=(7,y)):=by show _=_;rw[ab.out,if_pos rfl]
    clear ab;go_wp2;go_ret;rw[hi.out];exact⟨rfl,HS.out _ ak.out⟩
   | true=>
    rw[if_neg (by decide)] at ab;by_cases ha:ar=a.args.length
    .rw[if_neg (by simpa using ha)] at ab;have cu:(ar:Int)=(a.args.length:Int):=by omega
     by_cases dz:0<=t
     .by_cases ea:t<=1000000
      .rw[if_neg (by simp[dz,ea])] at ab;have t0:¬t < 0:=by omega
       have t1:¬1000000 < t:=by omega
       by_cases dk:t+y.win<=y.mark
       .have hi:Hid (qf4 y s t=(8,y)):=by show _=_;rw[ab.out,if_pos dk]
        clear ab;go_wp2_with fail;go_quiet (fail);go_wp2;go_ret;rw[hi.out];exact⟨rfl,HS.out _ (qu ak.out)⟩
       .rw[if_neg dk] at ab;go_wp2_with fail;go_quiet (fail);have db:Hid (Below X.heap.size X (W4.drewN nq)):=qu ak.out;generalize W4.drewN nq=W5 at *;clear p1 p2 p3 p4 p5 ak
        have HF:Hid (∀Y,Below X.heap.size X Y->∀(k:Nat) (hk:k < fs.length),∃(gf:Nat) (u1:Option Addr) (u2:Nat),fa=some ⟨gf,0,none⟩/\fs[k].2=.slice u1 fs[k].1.1.args.length u2/\Y.cell? (Ad gf (k*4))=some (St fs[k].1.1.rel)/\Y.cell? (Ad gf (k*4+1))=some (.slice u1 fs[k].1.1.args.length u2)/\Y.cell? (Ad gf (k*4+2))=some (Ii fs[k].1.2.1)/\qt Y (.slice u1 fs[k].1.1.args.length u2) fs[k].1.1.args/\fs[k].1.1.args.length<=2):=λY hY k hk=>by
         obtain⟨_,h2,_⟩:=HX.out Y hY;obtain⟨gf,cap,e1,_,_,_,e2⟩:=qb0 h2.facts (λ_=>rfl) (by omega);obtain⟨s1,_⟩:=h2.facte fs[k] (zm hk);obtain⟨u1,u2,e3⟩:=qd s1;have a9:=(HZ.out.facts fs[k].1 (by rw[<- h2.factsm];exact List.mem_map.2 ⟨_,List.getElem_mem hk,rfl⟩)).1;have e4:=e2 k 1 hk _ (by decide) rfl;rw[e3] at s1 e4;simp only[Value.slice.injEq] at e1;exact⟨gf,u1,u2,e1.1,e3,e2 k 0 hk _ (by decide) rfl,e4,e2 k 2 hk _ (by decide) rfl,s1,a9⟩
        have HG:Hid (∀Y,Below X.heap.size X Y->Y.cell? (Ad b 6)=some (.slice fa fs.length fc)/\Y.cell? (Ad NG 0)=some (St g.rel)/\Y.cell? (Ad NG 1)=some (.slice ga g.args.length gc)/\qt Y (.slice ga g.args.length gc) g.args):=λY hY=>by
         obtain⟨_,h2,_,h4,h5⟩:=HX.out Y hY;exact⟨by simp[World.cell?,h2.box],zc h4,zc h4,Qa h5 zz⟩
        have de:Hid (y.facts.any (λf=>qek f.1 g && decide (f.2.1=t))=(fs.drop 0).any (λf=>qek f.1.1 g && decide (f.1.2.1=t))):=by
         show _=_;rw[<- HH.out.factsm,List.any_map];rfl
        have Qdp:fs.length<=24:=by have:=HZ.out.f24;have:=dw.out;omega
        generalize y.facts.any (λf=>qek f.1 g && decide (f.2.1=t))=twice at *;go_wp2_with fail
        go_loopw [13] (λp wr=>∃i:Nat,p=.int .i64 i/\i<=fs.length/\Hid (Below X.heap.size X wr)/\Hid (twice=(fs.drop i).any (λf=>qek f.1.1 g && decide (f.1.2.1=t)))) (λp _=>fs.length - (intOf p).toNat)
        case atStart=>exact⟨0,rfl,zz,db,de⟩
        case round=>
         clear de db;obtain⟨i,rfl,ek,aj,ai⟩:=hrel;obtain⟨c6,n0,n1,d1⟩:=HG.out wr aj.out;by_cases ad:i < fs.length
         .have i1:(i:Int) < (fs.length:Int):=by omega
          obtain⟨gf,u1,u2,rfl,e3,f0,f1,f2,ee,d7⟩:=HF.out wr aj.out i ad;rw[List.drop_eq_getElem_cons ad,List.any_cons] at ai;obtain⟨w6,m0,m1,Qc9⟩:=HG.out wr.drew aj.out.drew;obtain⟨en,_,_,cl,az,g0,g1,g2,Qc8,_⟩:=HF.out wr.drew aj.out.drew i ad
          cases cl
          rw[e3] at az
          cases az
          have a8:Hid (Cs 118 #[.agg #[St fs[i].1.1.rel,.slice u1 fs[i].1.1.args.length u2],.agg #[St g.rel,.slice ga g.args.length gc]] wr.drew λe w'=>e=.returned (.bool (qek fs[i].1.1 g))/\(w'.cell? (Ad b 6)=some (Sc gf fs.length fc)/\w'.cell? (Ad gf (i*4))=some (St fs[i].1.1.rel)/\w'.cell? (Ad gf (i*4+1))=some (.slice u1 fs[i].1.1.args.length u2)/\w'.cell? (Ad NG 0)=some (St g.rel)/\w'.cell? (Ad NG 1)=some (.slice ga g.args.length gc))/\w'.cell? (Ad gf (i*4+2))=some (Ii fs[i].1.2.1)/\Hid (Below X.heap.size X w')):=by
           refine (qwf (fs[i].1.1,.slice u1 fs[i].1.1.args.length u2) (g,.slice ga g.args.length gc) wr.drew Qc8 Qc9 (by show fs[i].1.1.args.length<=1000000;omega)).mono ?_;rintro e w' ⟨k1,k2⟩;have k3:Below X.heap.size X w':=aj.out.drew.trans (k2.mono aj.out.drew.size);obtain⟨j6,j0,j1,_⟩:=HG.out w' k3;obtain⟨en,_,_,cl,az,l0,l1,l2,_,_⟩:=HF.out w' k3 i ad
           cases cl
           rw[e3] at az
           cases az
           exact⟨k1,⟨j6,l0,l1,j0,j1⟩,l2,k3⟩
          clear d1 ee Qc9 Qc8 g2 e3;go_wp2_with fail
          first | (go_region_held3 (λw'=>w'.cell? (Ad b 6)=some (Sc gf fs.length fc)/\w'.cell? (Ad gf (i*4))=some (St fs[i].1.1.rel)/\w'.cell? (Ad gf (i*4+1))=some (.slice u1 fs[i].1.1.args.length u2)/\w'.cell? (Ad NG 0)=some (St g.rel)/\w'.cell? (Ad NG 1)=some (.slice ga g.args.length gc)) (first | with_reducible exact⟨w6,g0,g1,m0,m1⟩ | with_reducible assumption) (first | (go_at_call 118;refine Calls.mono a8.out ?_;rintro e' W6 ⟨rfl,cb,ef,bc⟩) | go_simp)) | fail
          obtain⟨j6,l0,l1,j0,j1⟩:=cb;clear w6 m0 m1 g0 g1 a8 aj c6 n0 n1 f0 f1 f2;have eu:Hid (fs[i].1.2.1=fs[i].1.2.1):=rfl;obtain⟨tm,b9⟩:∃tm,fs[i].1.2.1=tm:=⟨_,rfl⟩;obtain⟨sb,cx⟩:∃sb,qek fs[i].1.1 g=sb:=⟨_,rfl⟩;rw[b9,cx] at ai;rw[b9] at ef;rw[cx];clear b9 cx eu
          cases sb with
          | false=>
           rw[Bool.false_and,Bool.false_or] at ai;go_wp2;refine⟨⟨i+1,by go_num,by omega,bc,ai⟩,by simp[intOf];omega⟩
          | true=>
           by_cases he:tm=t
           .rw[show (true && decide (tm=t))=true by simp[he],Bool.true_or] at ai;have Qbr:twice=true:=ai.out;subst Qbr;rw[if_pos rfl] at ab;have hi:Hid (qf4 y s t=(9,y)):=ab;clear ab;go_wp2_with fail
            try go_quiet (fail)
            go_wp2;go_ret;rw[hi.out];exact⟨rfl,HS.out _ (by first | exact bc.out | exact qu bc.out)⟩
           .rw[show (true && decide (tm=t))=false by simp[he],Bool.false_or] at ai;go_wp2_with fail
            try go_quiet (fail)
            go_wp2;refine⟨⟨i+1,by go_num,by omega,by first | exact bc | exact qu bc.out,ai⟩,by simp[intOf];omega⟩
         .have i1:¬(i:Int) < (fs.length:Int):=by omega
          rw[List.drop_eq_nil_of_le (by omega)] at ai;have Qbr:twice=false:=ai.out;subst Qbr;rw[if_neg (by decide)] at ab;have c7:wr.cell? (Ad b 7)=some (.slice na y.names.length nc):=(di.out wr aj.out).2.2.2.2;clear ai;obtain⟨_,cw,_,d8,cg⟩:=HX.out wr aj.out;have hT:∀k,T k->k < W.heap.size:=HH.out.lt;have dn:=(HX.out wr aj.out).1;have dj:∀k,(Value.slice ga g.args.length gc).ownBlock=some k->V.heap.size<=k:=λk hk=>(qe cg hk).1
          have Qc0:Hid (qoz W T b y (.slice va qs.length vc) (.slice fa fs.length fc) (.slice na y.names.length nc) vs vd qs fs ss ds wr (.slice na y.names.length nc) (qa7 y.names (g.args.take 0))/\wr.heap[NG]?=cC #[St g.rel,.slice ga g.args.length gc] 226/\qt wr (.slice ga g.args.length gc) g.args/\∀k,(Value.slice na y.names.length nc).ownBlock=some k->(Value.slice ga g.args.length gc).ownBlock≠some k):=by
           refine⟨⟨Chg.ofBelow _ (hN ▸ dn),cw,cw.names,⟨[],by simp[qa7]⟩,.inl rfl⟩,d8,Qa cg zz,λk hk ae=>?_⟩;have h1:=dj k ae;have h2:=hT k (HH.out.namesT k hk);have h3:=dv.out;omega
          have fp:y.names.length<=8:=HZ.out.n8;have c3:Hid (∀k,T k->k < W.heap.size):=hT;clear cw d8 cg dn dj hT n0 n1 d1;go_wp2_with fail
          go_loopw [15,16] (λo p wr=>∃(i:Nat) (vo:Vq),vo=o/\p=.int .i64 i/\i<=g.args.length/\Hid (qoz W T b y (.slice va qs.length vc) (.slice fa fs.length fc) (.slice na y.names.length nc) vs vd qs fs ss ds wr vo (qa7 y.names (g.args.take i))/\wr.heap[NG]?=some (Obj.cells #[.string g.rel,.slice ga g.args.length gc] 226)/\qt wr (.slice ga g.args.length gc) g.args/\∀k,vo.ownBlock=some k->(Value.slice ga g.args.length gc).ownBlock≠some k)) (λ_ p _=>g.args.length - (intOf p).toNat)
          case atStart=>exact⟨0,_,rfl,rfl,zz,Qc0⟩
          case round=>
           clear Qc0;obtain⟨j,vo,rfl,rfl,ek,ac⟩:=hrel;obtain⟨ch,b8,fe⟩:=qd ac.out.1.row;subst fe;have n1:wr.cell? (Ad NG 1)=some (.slice ga g.args.length gc):=by simp[World.cell?,ac.out.2.1]
           have ci:=quk (g.args.take j) y.names;rw[List.length_take] at ci;by_cases ad:j < g.args.length
           .have i2:(j:Int) < (g.args.length:Int):=by omega
            obtain⟨gg,e8,e0,fj,fx⟩:=ac.out.2.2.1.cell j ad;cases e0;have dc:Hid _:=qw9 0 _ _ g.args[j] wr zz (by omega) ac.out.1.row
            have bi:qa7 y.names (g.args.take (j+1))=Qh (qa7 y.names (g.args.take j)) g.args[j]:=by
             unfold qa7;rw[List.take_succ_eq_append_getElem ad,List.foldl_append];rfl
            have e6:Hid _:=bi;clear bi;go_wp2_with fail;refine Calls.mono dc.out ?_;rintro e' W7 ⟨v',rfl,r1,r2,bk,b7⟩
            have eh:Hid (qoz W T b y (.slice va qs.length vc) (.slice fa fs.length fc) (.slice na y.names.length nc) vs vd qs fs ss ds W7 v' (qa7 y.names (g.args.take (j+1)))/\W7.heap[NG]?=cC #[St g.rel,Sc gg g.args.length gc] 226/\qt W7 (Sc gg g.args.length gc) g.args/\∀k,v'.ownBlock=some k->(Value.slice (some ⟨gg,0,none⟩) g.args.length gc).ownBlock≠some k):=by
             obtain⟨q1,q2,q3,q4⟩:=ac.out;have Qgs:NG < wr.heap.size:=(zg q2).1;refine⟨by rw[e6.out];exact q1.step c3.out _ r1 r2 bk b7,(bk.block NG Qgs (λe=>?_)).trans q2,qm q3 (λk hk ad=>bk.block k ad (λe=>q4 k e.symm hk)),λk hk ae=>?_⟩
             .obtain⟨c,hc⟩:=qh q1.row e.symm;rw[q2] at hc;cases hc
             .rcases b7 with h5 | h5
              .rw[h5] at hk;exact q4 k hk ae
              .have:=h5 k hk;obtain⟨c,hc⟩:=qh q3 ae;have:=(zg hc).1;omega
            clear ac dc r1 r2 bk b7;go_wp2;refine⟨⟨j+1,v',rfl,by go_num,by omega,eh⟩,by simp[intOf];omega⟩
           .have i2:¬(j:Int) < (g.args.length:Int):=by omega
            have bi:g.args.take j=g.args:=List.take_of_length_le (by omega);rw[bi] at ac ci ⊢;obtain⟨aw,ce⟩:∃n,(qa7 y.names g.args).length=n:=⟨_,rfl⟩;rw[ce] at ac ci ab ⊢;have p6:wr.cell? (Ad b 6)=some (.slice fa fs.length fc):=by simp[World.cell?,ac.out.1.er.box]
            have p7:wr.cell? (Ad b 7)=some (.slice na y.names.length nc):=by simp[World.cell?,ac.out.1.er.box]
            have z7:wr.frozen? (Ad b 7)=false:=by simp[World.frozen?,ac.out.1.er.box]
            have m0:wr.cell? (Ad NG 0)=some (St g.rel):=by simp[World.cell?,ac.out.2.1]
            rw[<- dw.out] at ab;clear bi;by_cases hF:24<=fs.length\/8 < aw
            .rw[if_pos hF] at ab;have hi:Hid (qf4 y s t=(10,y)):=ab
             have dg:Hid (∀q,qan T b y W (wr.drewN q)):=λq=>by
              have h5:Below wr.heap.size wr (wr.drewN q):=qu zr;exact⟨⟨T,⟨_,_,_,_,_,_,_,_,_,(ac.out.1.keep h5).er⟩,λk hk=>.inl hk⟩,(ac.out.1.keep h5).chg⟩
             have d9:Hid (qan T b y W wr):=⟨⟨T,⟨_,_,_,_,_,_,_,_,_,ac.out.1.er⟩,λk hk=>.inl hk⟩,ac.out.1.chg⟩;clear ab;by_cases fh:24<=fs.length
             .have x1:(24:Int)<=(fs.length:Int):=by omega
              go_wp2_with fail
              try go_quiet (fail)
              go_wp2;go_ret;rw[hi.out];exact⟨rfl,by first | exact d9.out | exact dg.out _⟩
             .have x1:¬(24:Int)<=(fs.length:Int):=by omega
              have x2:(8:Int) < (aw:Int):=by omega
              go_wp2_with fail
              try go_quiet (fail)
              go_wp2;go_ret;rw[hi.out];exact⟨rfl,by first | exact d9.out | exact dg.out _⟩
            .rw[if_neg hF] at ab;have x1:¬(24:Int)<=(fs.length:Int):=by omega
             have x2:¬(8:Int) < (aw:Int):=by omega
             obtain⟨X1,bf⟩:∃X1,wr.setCell (Ad b 7) (.slice ch aw b8)=X1:=⟨_,rfl⟩;have hi:Hid (qf4 y s t=(0,{y with names:=qa7 y.names g.args,facts:=y.facts++[(g,t,false)]})):=ab;have fq:Hid _:=ac;obtain⟨q1,q2,q3,q4⟩:=ac.out;have Qc7:NG≠b:=λe=>by rw[e,q1.er.box] at q2;cases q2
             have bt:X1.heap[b]?=cC #[.slice va qs.length vc,Ii y.win,Ii y.lat,Ii y.que,Ii y.clock,Ii y.mark,.slice fa fs.length fc,.slice ch aw b8,vs,vd] 222:=by rw[<- bf];exact Qd q1.er.box 7 _
             have ap:X1.heap[NG]?=cC #[St g.rel,.slice ga g.args.length gc] 226:=by rw[<- bf];exact (Below.heap_setCell wr ⟨b,7,none⟩ _ NG Qc7).trans q2
             have s6:X1.drew.cell? (Ad b 6)=some (.slice fa fs.length fc):=by show X1.cell? _=_;simp[World.cell?,bt]
             have s0:X1.drew.cell? (Ad NG 0)=some (St g.rel):=by show X1.cell? _=_;simp[World.cell?,ap]
             have s1:X1.drew.cell? (Ad NG 1)=some (.slice ga g.args.length gc):=by show X1.cell? _=_;simp[World.cell?,ap]
             obtain⟨O,hO⟩:∃O,Obj.cells #[St g.rel,.slice ga g.args.length gc,Ii t,.bool false] 233 (0,0)=O:=⟨_,rfl⟩
             have ej:Hid ((X1.alloc O).ownsRow 0 233 4 (.slice fa fs.length fc) fs.length (fs.flatMap fcC)):=by
              refine World.ownsRow.alloc (qm (W:=wr) q1.er.facts (λk hk _=>?_)) O;rw[<- bf];refine Below.heap_setCell wr ⟨b,7,none⟩ _ k (λe=>?_);obtain⟨c,hc⟩:=qh q1.er.facts hk;have e':k=b:=e;rw[e',q1.er.box] at hc;cases hc
             have fr:Hid ((X1.alloc O).cell? (Ad NG 0)=some (St g.rel)/\(X1.alloc O).cell? (Ad NG 1)=some (.slice ga g.args.length gc)):=by
              have:=(Below.heap_alloc X1 O NG (zg ap).1).trans ap;exact⟨zc this,zc this⟩
             have fi:(X1.alloc O).drew.cell? (Ad b 6)=some (.slice fa fs.length fc):=by
              have:=(Below.heap_alloc X1 O b (zg bt).1).trans bt;show (X1.alloc O).cell? _=_;simp[World.cell?,this]
             have ey:Hid (∀(j:Nat) (u:Vq),[Value.string g.rel,.slice ga g.args.length gc,Ii t,.bool false][j]?=some u->(X1.alloc O).cell? ((⟨X1.heap.size,0,none⟩:Addr).add j)=some u):=by rw[<- hO];exact qb1 _ _ _ _ _ _
             have du:∀k,(Value.slice ga g.args.length gc).ownBlock=some k->W.heap.size<=k:=λk hk=>by
              have h1:=(qe (HX.out X zr).2.2.2.2 hk).1;have:=dv.out;omega
             have c2:=c3.out
             have q7:Hid (∀(w1:Wq) (v':Vq),w1.ownsRow 0 233 4 v' (fs.length+1) (fs.flatMap fcC++[St g.rel,.slice ga g.args.length gc,Ii t,.bool false])->(X1.alloc O).grownBy w1 (Value.slice fa fs.length fc).ownBlock->(v'.ownBlock=(Value.slice fa fs.length fc).ownBlock\/v'.ownBlock=some (X1.alloc O).heap.size)->w1.cell? (Ad b 6)=some (.slice fa fs.length fc)/\w1.frozen? (Ad b 6)=false/\w1.cell? (Ad NG 0)=some (St g.rel)/\w1.cell? (Ad NG 1)=some (.slice ga g.args.length gc)/\(w1.setCell (Ad b 6) v').cell? (Ad NG 0)=some (St g.rel)/\(w1.setCell (Ad b 6) v').cell? (Ad NG 1)=some (.slice ga g.args.length gc)/\Hid (qan T b {y with names:=qa7 y.names g.args,facts:=y.facts++[(g,t,false)]} W (w1.setCell (Ad b 6) v'))):=λw1 v' ho hg e5=>by
              have am:((wr.setCell (Ad b 7) (.slice ch aw b8)).alloc O).grownBy w1 (Value.slice fa fs.length fc).ownBlock:=by rw[bf];exact hg
              obtain⟨k1,k2,k3⟩:=q1.inserted c2 g t q3 du q4 O am ho (by rw[bf];exact e5)
              have Qbu:w1.heap[NG]?=cC #[St g.rel,.slice ga g.args.length gc] 226:=by
               have ad:NG < X1.heap.size:=(zg ap).1;refine ((hg.block NG (by simp;omega) (λe=>?_)).trans (Below.heap_alloc X1 O NG ad)).trans ap;obtain⟨c,hc⟩:=qh q1.er.facts e.symm;rw[q2] at hc;cases hc
              have Qeq:(w1.setCell (Ad b 6) v').heap[NG]?=cC #[St g.rel,.slice ga g.args.length gc] 226:=(Below.heap_setCell w1 ⟨b,6,none⟩ v' NG Qc7).trans Qbu;exact⟨k1,k2,zc Qbu,zc Qbu,zc Qeq,zc Qeq,k3⟩
             clear ac q1 q2 q3 q4 bt ap ab du c2;obtain⟨i0,ep,e7,a9,cz⟩:=info_parts Tryz.infoFact;have fg:fs.length+1<=maxLen:=by unfold maxLen;omega
             have el:(fs.length+1)*56<=140737488355328:=by omega
             go_wp2_with fail
             (go_region_law (first | (refine qji rfl (.tmp 142) (.tmp 146) 219 rfl 0 233 i0 (.agg #[St ⟨#[]⟩,.slice none 0 0,Ii 0,.bool false]) 4 56 Tryz.underlying219 ep e7 a9 cz rfl (by decide) (.slice fa fs.length fc) fs.length (fs.flatMap fcC) (by simp[Act.eval,Act.put]) ej.out ⟨X1.heap.size,0,none⟩ 1 1 [St g.rel,.slice ga g.args.length gc,Ii t,.bool false] (by simp[Act.eval,Act.put]) rfl ey.out (by simp[Value.oneCell']) fg el zz ?_;intro v' w1 ah aa a7;obtain⟨g',em,es⟩:=ownsRow_succ ah;subst es;obtain⟨f6,y6,f0,f1,f2,f3,eg⟩:=q7.out w1 _ ah ⟨aa.os,aa.tape,aa.output,aa.size,aa.block⟩ a7) | go_simp))
             all_goals clear ah aa a7
             all_goals go_wp2
             all_goals go_ret
             all_goals (rw[hi.out];exact⟨rfl,eg.out⟩)
      .have hi:Hid (qf4 y s t=(6,y)):=by show _=_;rw[ab.out,if_pos (by simp[ea])]
       have t0:¬t < 0:=by omega
       have t1:1000000 < t:=by omega
       clear ab;go_wp2;go_ret;rw[hi.out];exact⟨rfl,HS.out _ ak.out⟩
     .have hi:Hid (qf4 y s t=(6,y)):=by show _=_;rw[ab.out,if_pos (by simp[dz])]
      have t0:t < 0:=by omega
      clear ab;go_wp2;go_ret;rw[hi.out];exact⟨rfl,HS.out _ ak.out⟩
    .have hi:Hid (qf4 y s t=(4,y)):=by show _=_;rw[ab.out,if_pos (by simpa using ha)]
     have cu:¬((ar:Int)=(a.args.length:Int)):=by omega
     clear ab;go_wp2;go_ret;rw[hi.out];exact⟨rfl,HS.out _ ak.out⟩
structure qwy(y:Er):Prop where
 fine:qdy y.rs y.names
 gr:∀f∈y.facts,qj7 y.rs y.names f.1
 st:∀g∈y.state,qj7 y.rs y.names g
theorem Qao{R:List Rl}{Nm:List By}(h:qdy R Nm){g:Gr}(hg:qj7 R Nm g):g.args.length<=2:=by
 obtain⟨a,ha,_,h2⟩:=hg.rel;obtain⟨r,hr,cu⟩:=List.mem_flatMap.1 ha;have:=((h.each r hr).args a cu).1;omega
def qp7(rs:List Rl)(win lat que:Int)(st:List Gr):Er:=⟨rs,win,lat,que,0,0,[],nmL [] (Qp (qap rs)),st,[]⟩
def qs2(s:By)(win lat que:Int)(w:Wq)(e:Ending)(w':Wq):Prop:=
 Below w.heap.size w w'/\match qay s with
 | .error (c,_)=>e=.returned (.tuple #[.pointer none,Ii c])
 | .ok rs=>(qbm win lat que/\∃(b:Nat) (T:Nat->Prop) (st:List Gr),e=.returned (.tuple #[Pt b,Ii 0])/\qfc rs [] (nmL [] (Qp (qap rs))) st/\ErM w' T b (qp7 rs win lat que st)/\∀k,T k->w.heap.size<=k)\/(¬qbm win lat que/\e=.returned (.tuple #[.pointer none,Ii 6]))
theorem q5m(s:By)(win lat que:Int)(w:Wq)(hs:s.size<=1048576) :
  Cs 66 #[St s,Ii win,Ii lat,Ii que] w (qs2 s win lat que w):=by
 have b0:Hid _:=q1v s w hs
 cases hp:qay s with
 | error cp=>
  obtain⟨c,p⟩:=cp;have eo:c≠0:=qh3 s c p hp
  have hu:qs2 s win lat que w=λe w'=>Below w.heap.size w w'/\e=.returned (.tuple #[.pointer none,Ii c]):=by
   funext e w';unfold qs2;rw[hp]
  rw[hu];have fv:(c == 0)=false:=by simpa using eo
  have HP:Hid _:=hp;clear hu hp;go_enter Tryz.func66,Tryz.ntmps66;go_wp2_with fail;refine Calls.mono b0.out ?_;rintro e' W1 ⟨h1,ag⟩;unfold qc5 at h1;rw[HP.out] at h1;subst h1;go_wp2;go_ret2;exact⟨ag,rfl⟩
 | ok rs=>
  have av:=qk5 s rs hp
  have hu:qs2 s win lat que w=λe w'=>Below w.heap.size w w'/\((qbm win lat que/\∃(b:Nat) (T:Nat->Prop) (st:List Gr),e=.returned (.tuple #[Pt b,Ii 0])/\qfc rs [] (nmL [] (Qp (qap rs))) st/\ErM w' T b (qp7 rs win lat que st)/\∀k,T k->w.heap.size<=k)\/(¬qbm win lat que/\e=.returned (.tuple #[.pointer none,Ii 6]))):=by
   funext e w';unfold qs2;rw[hp]
  rw[hu]
  have eb:qdy rs (nmL [] (Qp (qap rs))):=by
   have h8:=av.new.n8 rs.length;rw[List.take_length,av.names] at h8;refine av.fine _ h8 ?_ (λx hx=>by rw[<- av.names];exact hx);have:=av.ne;rw[av.names] at this;exact this
  have dt:Hid _:=eb;have HP:Hid _:=hp;clear hu hp eb av;go_enter Tryz.func66,Tryz.ntmps66;go_wp2_with fail;refine Calls.mono b0.out ?_;rintro e' W1 ⟨h1,ag⟩;unfold qc5 at h1;rw[HP.out] at h1;obtain⟨v,qs,rfl,hR,b6,al,h8,a8⟩:=h1;obtain⟨va,vc,rfl⟩:=qd hR.row;have bj:Hid (Below w.heap.size w W1):=ag;by_cases ha:qbm win lat que
  .have HA:Hid (qbm win lat que):=ha;obtain⟨⟨a1,a2⟩,⟨a3,a4⟩,a5,a6⟩:=ha;have ei:qs.length<=1000:=al.few;have aq:Hid _:=qso (.slice va qs.length vc) qs W1 hR al.few al.body al.tms (λa ha=>(al.args a ha).1);have HR:Hid (qag W1 (.slice va qs.length vc) qs):=hR;have HQ:Hid (qs.map (·.1)=rs):=b6;have Qf1:Qt qs=qap rs:=by rw[qmt,b6]
   rw[Qf1] at aq;have fm:Hid (qkf qs):=al;clear hR b6 al a8 ag b0;go_wp2_with fail;refine Calls.mono aq.out ?_;rintro e' W2 ⟨vn,rfl,b3⟩;obtain⟨na,nc,cj⟩:=qd b3.own;subst cj;have af:Below W1.heap.size W1 W2:=b3.below;have d0:Hid _:=qp1 qs [] (nmL [] (Qp (qap rs))) (.slice va qs.length vc) (.slice none 0 0) W2 (HR.out.below af) ⟨zo,λp hp=>by cases hp⟩ ei (by simp) (by rw[HQ.out];exact dt.out) (λp hp=>by cases hp);have cq:Hid (qgc W1.heap.size W1 W2 (.slice na (nmL [] (Qp (qap rs))).length nc) (nmL [] (Qp (qap rs)))):=b3;clear b3 aq;go_wp2_with fail;refine Calls.mono d0.out ?_;rintro e' W3 ⟨vs,ay,rfl,cy,cv⟩;obtain⟨sa,sc,ec⟩:=qo cy.row;subst ec;have au:Hid (qfd [] W2.heap.size W2 W3 (.slice sa ay.length sc) ay):=cy;have ew:Hid (qfc rs [] (nmL [] (Qp (qap rs))) (ay.map (·.1))):=by rw[HQ.out] at cv;exact cv
   clear cy cv d0 af;go_wp2;go_ret2;have af:Below W1.heap.size W1 W2:=cq.out.below;have ao:Below W2.heap.size W2 W3:=au.out.below;have a9:=bj.out.size;have cz:=af.size;have fw:=ao.size;have c8:Below w.heap.size w W3:=(bj.out.trans (af.mono a9)).trans (ao.mono (by omega));refine⟨c8.alloc c8.size _,.inl ⟨HA.out,W3.heap.size,λk=>w.heap.size<=k/\k < W3.heap.size+1,ay.map (·.1),rfl,ew.out,⟨.slice va qs.length vc,.slice none 0 0,.slice na (nmL [] (Qp (qap rs))).length nc,.slice sa ay.length sc,.slice none 0 0,qs,[],ay,[],?_⟩,λk hk=>hk.1⟩⟩;have b4:∀O,Below W3.heap.size W3 (W3.alloc O):=λO=>(Below.refl _ W3).alloc zl O;have c1:W3.ownsRow W1.heap.size 9 1 (.slice na (nmL [] (Qp (qap rs))).length nc) (nmL [] (Qp (qap rs))).length ((nmL [] (Qp (qap rs))).map Value.string):=qk cq.out.own ao;refine⟨zn W3 _,⟨by omega,by omega⟩,λk hk=>by simp;omega,(((HR.out.below af).below ao).below (b4 _)),HQ.out,zo,λg hg=>(by cases hg),rfl,λp hp=>(by cases hp),Qa (qk c1 (b4 _)) zz,λg hg=>?_,⟨Qa (qk au.out.row (b4 _)) zz,λp hp=>(au.out.each p hp).below (b4 _)⟩,λg hg=>?_,rfl,λp hp g hg=>?_,zo,λg hg=>(by cases hg),rfl,λp hp=>(by cases hp),λg hg=>⟨λp hp=>(by cases hp),λp hp e=>?_⟩,λi j p q g hi=>by simp at hi⟩
   .obtain⟨h5,c,hc⟩:=qe c1 hg;have:=(zg hc).1;exact⟨by omega,by omega⟩
   .obtain⟨h5,c,hc⟩:=qe au.out.row hg;have:=(zg hc).1;exact⟨by omega,by omega⟩
   .obtain⟨c,hc⟩:=qh (au.out.each p hp) hg;have:=(zg hc).1;rcases au.out.loc p hp with h5 | h5
    .cases h5
    .have:=h5 g hg;exact⟨by omega,by omega⟩
   .obtain⟨h5,c,hc⟩:=qe cq.out.own hg;have:=(zg hc).1;rcases au.out.loc p hp with h6 | h6
    .cases h6
    .have:=h6 g e;omega
  .have HA:Hid (¬qbm win lat que):=ha;have q7:Hid (Below w.heap.size w W1):=ag;clear hR b6 al a8 ag b0 dt HP;have hW:¬1<=win\/(1<=win/\¬win<=1000)\/(1<=win/\win<=1000):=by omega
   have hL:¬0<=lat\/(0<=lat/\¬lat<=1000)\/(0<=lat/\lat<=1000):=by omega
   have hQ:¬1<=que\/(1<=que/\¬que<=50)\/(1<=que/\que<=50):=by omega
   rcases hW with x1 | ⟨x1,x2⟩ | ⟨x1,x2⟩ <;> rcases hL with y1 | ⟨y1,y2⟩ | ⟨y1,y2⟩ <;> rcases hQ with z1 | ⟨z1,z2⟩ | ⟨z1,z2⟩
   case inr.inr.inr.inr.inr.inr=>exact absurd ⟨⟨x1,x2⟩,⟨y1,y2⟩,z1,z2⟩ ha
   case inr.inr.inr.inr.inr.inl=>
    clear ha;have d3:decide (que<=50)=false:=by simp;omega
    go_wp2;go_ret2;exact⟨q7.out,.inr ⟨HA.out,rfl⟩⟩
   all_goals (clear ha;go_wp2;go_ret2;exact⟨q7.out,.inr ⟨HA.out,rfl⟩⟩)
theorem qcm.put{T':Nat->Prop}{bo bu:Vq}{ax:List ((Gr×Int×Bool)×Vq)}{bd:List (Gr×Vq)}(h:qcm W T b y vr vf vn vs vd qs fs ss ds)(hT:∀k,T k->T' k)(ad:∀k,T' k->k < W'.heap.size)(hk:∀k,k < W.heap.size->k≠b->W'.heap[k]?=W.heap[k]?)(ck:y'.rs=y.rs)(aq:y'.names=y.names)(ct:y'.feeds=y.feeds)(box:W'.heap[b]?=cC #[vr,Ii y'.win,Ii y'.lat,Ii y'.que,Ii y'.clock,Ii y'.mark,bo,vn,bu,vd] 222)(facts:W'.ownsRow 0 233 4 bo ax.length (ax.flatMap fcC))(factsT:∀g,bo.ownBlock=some g->T' g)(factsm:ax.map (·.1)=y'.facts)(facte:∀p∈ax,qt W' p.2 p.1.1.args/\∀g,p.2.ownBlock=some g->T' g)(state:qc3 W' bu bd)(stateT:∀g,bu.ownBlock=some g->T' g)(statem:bd.map (·.1)=y'.state)(statee:∀p∈bd,∀g,p.2.ownBlock=some g->T' g)(sepN:∀g,vn.ownBlock=some g->(∀p∈ax,p.2.ownBlock≠some g)/\∀p∈bd,p.2.ownBlock≠some g):qcm W' T' b y' vr bo vn bu vd qs ax bd ds:=by
 have cr:∀(k:Nat) (c:Array Vq) (u:TypeId),u≠222->W.heap[k]?=cC c u->W'.heap[k]?=W.heap[k]?:=λk c u hu hc=>hk k (zg hc).1 (λe=>by subst e;rw[h.box] at hc;cases hc;exact hu rfl)
 have Qv:∀{B U m n:Nat} {u:Vq} {xs:List Vq},U≠222->W.ownsRow B U m u n xs->W'.ownsRow B U m u n xs:=λhU ho=>qm ho (λg am _=>by
  obtain⟨c,hc⟩:=qh ho am
  exact cr g c _ hU hc)
 have dr:∀{v:Vq} {l:List Rc},qmr W v l->qmr W' v l:=λ{v l} hr=>by
  refine hr.keep (λg am=>?_);rcases hr with⟨rfl,_⟩ | ⟨g',ft,cap,et,rfl,h2,_⟩
  .cases am
  .cases am
   exact cr g' et _ (by decide) h2
 exact⟨box,hT _ h.own,ad,h.rules.keep (λk c u ht hc=>cr k c u (by rcases ht with rfl | rfl | rfl <;> decide) hc),by rw[ck];exact h.rsm,facts,factsT,factsm,facte,by rw[aq];exact Qv (by decide) h.names,λg hg=>hT _ (h.namesT g hg),state,stateT,statem,statee,Qv (by decide) h.feeds,λg hg=>hT _ (h.feedsT g hg),by rw[ct];exact h.feedsm,λp hp=>⟨⟨dr (h.feede p hp).1.1,λg hg=>hT _ ((h.feede p hp).1.2 g hg)⟩,dr (h.feede p hp).2.1,λg hg=>hT _ ((h.feede p hp).2.2 g hg)⟩,sepN,h.sepQ⟩
theorem qcm.row(h:qcm W T b y vr vf vn vs vd qs fs ss ds)(hk:∀k,k < W.heap.size->k≠b->W'.heap[k]?=W.heap[k]?){B U m n:Nat}{u:Vq}{xs:List Vq}(hU:U≠222)(ho:W.ownsRow B U m u n xs):W'.ownsRow B U m u n xs:=
 qm ho (λg am ad=>by
  obtain⟨c,hc⟩:=qh ho am
  exact hk g ad (λe=>by subst e;rw[h.box] at hc;cases hc;exact hU rfl))
theorem qcm.num(h:qcm W T b y vr vf vn vs vd qs fs ss ds)(hz:W'.heap.size=W.heap.size)(hk:∀k,k≠b->W'.heap[k]?=W.heap[k]?)(ck:y'.rs=y.rs)(aq:y'.names=y.names)(ct:y'.feeds=y.feeds)(d7:y'.facts=y.facts)(ez:y'.state=y.state)(box:W'.heap[b]?=cC #[vr,Ii y'.win,Ii y'.lat,Ii y'.que,Ii y'.clock,Ii y'.mark,vf,vn,vs,vd] 222):qcm W' T b y' vr vf vn vs vd qs fs ss ds:=
 have ae:∀k,k < W.heap.size->k≠b->W'.heap[k]?=W.heap[k]?:=λk _=>hk k
 h.put (λ_=>id) (λk ae=>by rw[hz];exact h.lt k ae) ae ck aq ct box (h.row ae (by decide) h.facts) h.factsT (by rw[d7];exact h.factsm) (λp hp=>⟨h.row ae (by decide) (h.facte p hp).1,(h.facte p hp).2⟩) ⟨h.row ae (by decide) h.state.row,λp hp=>h.row ae (by decide) (h.state.each p hp)⟩ h.stateT (by rw[ez];exact h.statem) h.statee h.sepN
theorem qan.trans{W1 W2:Wq}{y1 y2:Er}(h:qan T b y1 W W1)(k:∀T1,ErM W1 T1 b y1->qan T1 b y2 W1 W2):qan T b y2 W W2:=by
 obtain⟨⟨T1,h1,h2⟩,h3⟩:=h;obtain⟨⟨T2,k1,k2⟩,k3⟩:=k T1 h1;have hz:=h3.size;refine⟨⟨T2,k1,λj hj=>?_⟩,⟨k3.os.trans h3.os,k3.tape.trans h3.tape,k3.output.trans h3.output,Nat.le_trans h3.size k3.size,λi hi hn=>(k3.block i (Nat.lt_of_lt_of_le hi h3.size) (λe=>?_)).trans (h3.block i hi hn)⟩⟩
 .rcases k2 j hj with h4 | h4
  .exact h2 j h4
  .right;omega
 .rcases h2 i e with h4 | h4
  .exact hn h4
  .omega
def Qcr(W W':Wq):Prop:=∀(k:Nat) (c:Array Vq) (t:TypeId),t≠246->t≠71->W.heap[k]?=cC c t->W'.heap[k]?=W.heap[k]?
def qw0(b i:Nat)(dm:List Gr)(que m:Int)(st:List Gr):Prop:=∀(W:Wq) (T:Nat->Prop) (y:Er) (f:Fr) (vw:Vq) (sw:List (Gr×Vq)),ErM W T b y->y.feeds[i]?=some f->qc3 W vw sw->sw.map (·.1)=dm->y.que=que->y.mark=m->y.state=st->
  Cs 120 #[Pt b,Ii (i:Int),vw] W λe w'=>e=.returned (.tuple #[])/\qan T b {y with feeds:=y.feeds.set i (qv1 que m dm st f)} W w'/\Qcr W w'
