/- The document's own engine: a fact is brought. -/
import Derived.Test.YtjajnhemgphefaaGreatDoorJWyN
import Derived.Test.YtjajnhemgphefaaGreatDoorJEgV
set_option linter.unusedVariables false
set_option linter.unusedSimpArgs false
set_option maxRecDepth 100000
set_option maxHeartbeats 4000000
namespace Go.Proofs.YtjajnhemgphefaaGreatDoor
open Go renaming World->Wq,Value->Vq
open Go.RowKit Go.Shelf
theorem Tryz.infoFact:(Tryz.prog.info? 233).map (λi=>(i.zero,i.size,i.bytes))=some (some (.agg #[.string ⟨#[]⟩,.slice none 0 0,.int .i64 0,.bool false]),4,56):=by kernel_rfl
structure qwc(y:Er):Prop where
 r8:y.rs.length<=8
 body:∀r∈y.rs,r.body.length<=3
 win:1<=y.win/\y.win<=1000
 lat:0<=y.lat/\y.lat<=1000
 que:1<=y.que/\y.que<=50
 mark:0<=y.mark/\y.mark<=1000000
 clock:0<=y.clock/\y.clock<=1000000
 f24:y.facts.length<=24
 facts:∀f∈y.facts,f.1.args.length<=2/\0<=f.2.1/\f.2.1<=1000000
 n8:y.names.length<=8
 st:y.state.length<=2048
 f3:y.feeds.length<=3
theorem qu4{W:Wq}{T:Nat->Prop}{b:Nat}{y:Er}{vr vf vn vs vd:Vq}{qs:List (Rl×Vq×Vq)}{fs:List ((Gr×Int×Bool)×Vq)}{ss:List (Gr×Vq)}{ds:List (Fr×Vq×Vq)}(h:qb2 W T b y vr vf vn vs vd qs fs ss ds)(hz:qwc y)(s:ByteArray)(hs:s.size<=1048576)(t:Int) :
  Calls Tryz.prog 67 #[.pointer (some ⟨b,0,none⟩),.string s,.int .i64 t] W λe w'=>e=.returned (.int .i64 (qfs y s t).1)/\qao T b (qfs y s t).2 W w':=by
 obtain⟨va,vc,hvr⟩:=qd h.rules.row;obtain⟨fa,fc,hvf⟩:=qd h.facts;obtain⟨na,nc,hvn⟩:=qd h.names;have qsv:b < W.heap.size:=h.lt b h.own;have hon:Hid (Calls Tryz.prog 114 #[.string s] W λe w'=>qei s W.heap.size e w'/\Below W.heap.size W w'):=qy6 s W hs;go_enter Tryz.func67,Tryz.ntmps67;go_wp2_with fail;refine Calls.mono hon.out ?_;rintro e' W1 ⟨h1,hb1⟩
 obtain⟨a,oa,oc,okb,he,hrA,hl2,qn1,hok0⟩:∃(a:Am) (oa:Option Addr) (oc:Nat) (okb:Bool),e'=.returned (.tuple #[.agg #[.string a.rel,.slice oa a.args.length oc],.bool okb])/\W1.ownsRow W.heap.size 215 2 (.slice oa a.args.length oc) a.args.length (a.args.flatMap tmC)/\a.args.length<=2/\(okb=true->qgq s=some a)/\(okb=false->qgq s=none):=by
  unfold qei at h1
  cases ho:qgq s with
  | none=>
   rw[ho] at h1;exact⟨⟨⟨#[]⟩,[]⟩,none,0,false,h1,World.ownsRow_nil _ _ _ _,by simp,λh=>(by cases h),λ_=>rfl⟩
  | some a=>
   rw[ho] at h1;obtain⟨va',k1,k2,k3,k4,k5,k6⟩:=h1;obtain⟨oa,oc,rfl⟩:=qd k2;exact⟨a,oa,oc,true,k1,k2,k3,λ_=>rfl,λh=>(by cases h)⟩
 subst he;have HB1:Hid (Below W.heap.size W W1):=hb1;obtain⟨N,hN⟩:∃N,W.heap.size=N:=⟨_,rfl⟩;obtain⟨V,hV⟩:∃V,W1.alloc (.cells #[.string a.rel,.slice oa a.args.length oc] 145)=V:=⟨_,rfl⟩;have hbV:Below N W V:=by rw[<- hV,<- hN];exact hb1.alloc hb1.size _
 have hVM:V.heap[W1.heap.size]?=some (Obj.cells #[.string a.rel,.slice oa a.args.length oc] 145):=by rw[<- hV];exact World.alloc_heap_new W1 _
 have hrV:V.ownsRow N 215 2 (.slice oa a.args.length oc) a.args.length (a.args.flatMap tmC):=by rw[<- hV,<- hN];exact hrA.alloc _
 have hfx:Hid _:=qri (a,.slice oa a.args.length oc) V (Qm hrV (Nat.zero_le _)) (by show a.args.length<=1000;omega);have HV:Hid (Below N W V/\V.heap[W1.heap.size]?=some (Obj.cells #[.string a.rel,.slice oa a.args.length oc] 145)):=⟨hbV,hVM⟩;have v0:V.cell? ⟨W1.heap.size,0,none⟩=some (.string a.rel):=by simp[World.cell?,hVM]
 have v1:V.cell? ⟨W1.heap.size,1,none⟩=some (.slice oa a.args.length oc):=by simp[World.cell?,hVM]
 clear hon h1 hb1 hrA hrV hbV hVM;go_wp2_with fail;refine Calls.mono hfx.out ?_;clear hfx v0 v1;rintro e' W2 ⟨h2,hb2⟩
 obtain⟨g,ga,gc,fb,he,hrG,hf1,hf0⟩:∃(g:Gr) (ga:Option Addr) (gc:Nat) (fb:Bool),e'=.returned (.tuple #[.agg #[.string g.rel,.slice ga g.args.length gc],.bool fb])/\W2.ownsRow V.heap.size 9 1 (.slice ga g.args.length gc) g.args.length (g.args.map Value.string)/\(fb=true->qdd a=some g)/\(fb=false->qdd a=none):=by
  unfold qeo at h2
  cases ho:qdd a with
  | none=>
   simp only[ho] at h2;exact⟨⟨⟨#[]⟩,[]⟩,none,0,false,h2,World.ownsRow_nil _ _ _ _,λh=>(by cases h),λ_=>rfl⟩
  | some g=>
   simp only[ho] at h2;obtain⟨vg,k1,k2⟩:=h2;obtain⟨ga,gc,rfl⟩:=qd k2;exact⟨g,ga,gc,true,k1,k2,λ_=>rfl,λh=>(by cases h)⟩
 subst he;clear h2;obtain⟨X,hX⟩:∃X,W2.alloc (.cells #[.string g.rel,.slice ga g.args.length gc] 226)=X:=⟨_,rfl⟩;have hbX:Below V.heap.size V X:=by rw[<- hX];exact hb2.alloc hb2.size _
 have hXW:Below N W X:=HV.out.1.trans (hbX.mono (by have:=HV.out.1.size;omega));have hXG:X.heap[W2.heap.size]?=some (Obj.cells #[.string g.rel,.slice ga g.args.length gc] 226):=by rw[<- hX];exact World.alloc_heap_new W2 _
 have hXA:X.heap[W1.heap.size]?=some (Obj.cells #[.string a.rel,.slice oa a.args.length oc] 145):=(hbX.block _ (zg HV.out.2).1).trans HV.out.2;have hrX:X.ownsRow V.heap.size 9 1 (.slice ga g.args.length gc) g.args.length (g.args.map Value.string):=by rw[<- hX];exact hrG.alloc _
 have a0:X.cell? ⟨W1.heap.size,0,none⟩=some (.string a.rel):=by simp[World.cell?,hXA]
 have hq:qs.length<=1000:=by have:=hz.r8;rw[<- h.rsm,List.length_map] at this;omega
 have hqb:∀q∈qs,q.1.body.length<=900:=λq hq=>by have:=hz.body q.1 (by rw[<- h.rsm];exact List.mem_map.2 ⟨q,hq,rfl⟩);omega
 have qnz:qap y.rs=Qt qs:=by rw[<- h.rsm];unfold qap Qt;rw[List.flatMap_map]
 have HFL:Hid (fs.length=y.facts.length):=by show _=_;rw[<- h.factsm,List.length_map]
 subst hvr hvf hvn;obtain⟨NA,hNA⟩:∃NA,W1.heap.size=NA:=⟨_,rfl⟩;obtain⟨NG,hNG⟩:∃NG,W2.heap.size=NG:=⟨_,rfl⟩;rw[hNA] at hXA a0;rw[hNG] at hXG;have hVX:=hbX.size;have hNV:=HV.out.1.size;have HVN:Hid (W.heap.size<=V.heap.size):=hNV
 have Qeo:N<=NA/\NA < V.heap.size:=by
  have h1:=HV.out.2;rw[hNA] at h1;refine⟨?_,(zg h1).1⟩;have:NA < V.heap.size:=(zg h1).1;rw[<- hV] at this;simp at this;have h2:W.heap.size<=W1.heap.size:=HB1.out.size;omega
 have Qep:V.heap.size<=NG:=by rw[<- hNG];exact hb2.size
 have HX:Hid (∀Y,Below X.heap.size X Y->Below N W Y/\qb2 Y T b y (.slice va qs.length vc) (.slice fa fs.length fc) (.slice na y.names.length nc) vs vd qs fs ss ds/\Y.heap[NA]?=some (Obj.cells #[.string a.rel,.slice oa a.args.length oc] 145)/\Y.heap[NG]?=some (Obj.cells #[.string g.rel,.slice ga g.args.length gc] 226)/\Y.ownsRow V.heap.size 9 1 (.slice ga g.args.length gc) g.args.length (g.args.map Value.string)):=λY hY=>by
  have h1:Below N W Y:=hXW.trans (hY.mono (by omega));exact⟨h1,h.below (hN ▸ h1),(hY.block _ (by omega)).trans hXA,(hY.block _ (zg hXG).1).trans hXG,qk hrX hY⟩
 have Qbj:Hid _:=qzx (HX.out X (Below.refl _ _)).2.1 hq hqb a.rel
 have HC:Hid (∀Y,Below X.heap.size X Y->Y.cell? ⟨b,0,none⟩=some (.slice va qs.length vc)/\Y.cell? ⟨NA,0,none⟩=some (.string a.rel)):=λY hY=>by
  obtain⟨_,h2,h3,_⟩:=HX.out Y hY;exact⟨by simp[World.cell?,h2.box],by simp[World.cell?,h3]⟩
 have hAr:Hid (∀Y,Below X.heap.size X Y->Calls Tryz.prog 117 #[.slice va qs.length vc,.string a.rel] Y.drew λe w'=>e=.returned (.int .i64 (qac (qap y.rs) a.rel:Int))/\(w'.cell? ⟨b,0,none⟩=some (.slice va qs.length vc)/\w'.cell? ⟨NA,0,none⟩=some (.string a.rel))/\Hid (Below X.heap.size X w')):=λY hY=>by
  obtain⟨_,h2,h3,_⟩:=HX.out Y.drew hY.drew;rw[qnz];refine (qhl _ qs a.rel Y.drew h2.rules hq hqb).mono ?_;rintro e w' ⟨k1,k2⟩;have k3:Below X.heap.size X w':=hY.drew.trans (k2.mono hY.drew.size);exact⟨k1,HC.out w' k3,k3⟩
 clear hXW hb2 hrG hbX hXA hXG hrX hV HV HB1 hVX Qep Qeo;go_wp2_with fail;refine Calls.mono Qbj.out ?_;rintro e' W3 ⟨rfl,hb3⟩;have Qbi:=hAr.out W3 hb3;obtain⟨c0,z0⟩:=HC.out W3.drew hb3.drew;clear Qbj a0 hAr hX;go_wp2_with fail
 first | (go_region_held3 (λw'=>w'.cell? ⟨b,0,none⟩=some (.slice va qs.length vc)/\w'.cell? ⟨NA,0,none⟩=some (.string a.rel)) (first | with_reducible exact⟨c0,z0⟩ | with_reducible assumption) (first | (go_at_call 117;refine Calls.mono Qbi ?_;rintro e' W4 ⟨rfl,hcc,hb4⟩) | go_simp)) | fail
 obtain⟨ar,har⟩:∃ar,qac (Qt qs) a.rel=ar:=⟨_,rfl⟩;obtain⟨bb,hbb⟩:∃bb,qfh y.rs a.rel=bb:=⟨_,rfl⟩;have HAR:Hid (qac (qap y.rs) a.rel=ar):=by show _=_;rw[qnz];exact har
 have HBB:Hid (qfh y.rs a.rel=bb):=hbb;rw[har,hbb];clear har hbb Qbi hcc c0 z0 hb3;have HS:Hid (∀Y,Below X.heap.size X Y->qao T b y W Y):=λY hY=>qao.same ⟨_,_,_,_,_,_,_,_,_,h⟩ (hN ▸ (HX.out Y hY).1);have HB4:Hid (Below X.heap.size X W4):=hb4.out
 have HC4:Hid (∀Y,Below X.heap.size X Y->Y.cell? ⟨NA,1,none⟩=some (.slice oa a.args.length oc)/\Y.cell? ⟨b,1,none⟩=some (.int .i64 y.win)/\Y.cell? ⟨b,5,none⟩=some (.int .i64 y.mark)/\Y.cell? ⟨b,6,none⟩=some (.slice fa fs.length fc)/\Y.cell? ⟨b,7,none⟩=some (.slice na y.names.length nc)):=λY hY=>by
  obtain⟨_,h2,h3,_⟩:=HX.out Y hY;exact⟨by simp[World.cell?,h3],by simp[World.cell?,h2.box],by simp[World.cell?,h2.box],by simp[World.cell?,h2.box],by simp[World.cell?,h2.box]⟩
 have HI:Hid (qfs y s t=match qgq s with
  | none=>(2,y)
  | some a=>match qdd a with
   | none=>(2,y)
   | some g=>if qfh y.rs a.rel=false then (7,y) else if qac (qap y.rs) a.rel≠a.args.length then (4,y) else if ¬(0<=t/\t<=1000000) then (6,y) else if t+y.win<=y.mark then (8,y) else if y.facts.any (λf=>qeg f.1 g && decide (f.2.1=t))=true then (9,y) else if 24<=y.facts.length\/8 < (qa8 y.names g.args).length then (10,y) else (0,{y with names:=qa8 y.names g.args,facts:=y.facts++[(g,t,false)]})):=rfl
 obtain⟨p1,p2,p3,p4,p5⟩:=HC4.out W4 HB4.out;have Qf8:=hz.win;have q73:=hz.mark;have HZ:Hid (qwc y):=hz;have HH:Hid (qb2 W T b y (.slice va qs.length vc) (.slice fa fs.length fc) (.slice na y.names.length nc) vs vd qs fs ss ds):=h;clear qnz hqb hq hb4 h hz HC hNA hNG hNV
 cases okb with
 | false=>
  have hi:Hid (qfs y s t=(2,y)):=by show _=_;rw[HI.out,hok0 rfl]
  clear HI;go_wp2;go_ret;rw[hi.out];exact⟨rfl,HS.out _ HB4.out⟩
 | true=>
  have ho1:=qn1 rfl
  cases fb with
  | false=>
   have hi:Hid (qfs y s t=(2,y)):=by show _=_;rw[HI.out,ho1];simp only[hf0 rfl]
   clear HI;go_wp2;go_ret;rw[hi.out];exact⟨rfl,HS.out _ HB4.out⟩
  | true=>
   have hg1:=hf1 rfl
   have HI2:Hid (qfs y s t=if bb=false then (7,y) else if ar≠a.args.length then (4,y) else if ¬(0<=t/\t<=1000000) then (6,y) else if t+y.win<=y.mark then (8,y) else if y.facts.any (λf=>qeg f.1 g && decide (f.2.1=t))=true then (9,y) else if 24<=y.facts.length\/8 < (qa8 y.names g.args).length then (10,y) else (0,{y with names:=qa8 y.names g.args,facts:=y.facts++[(g,t,false)]})):=by
    show _=_;rw[HI.out,ho1];simp only[hg1,HAR.out,HBB.out]
   have hgl:g.args.length<=2:=by
    unfold qdd at hg1;split at hg1
    ·cases hg1
    ·injection hg1 with hg1;subst hg1;simpa using hl2
   clear HI qn1 hok0 hf1 hf0 ho1 hg1 HAR HBB
   cases bb with
   | false=>
    have hi:Hid (qfs y s t=(7,y)):=by show _=_;rw[HI2.out,if_pos rfl]
    clear HI2;go_wp2;go_ret;rw[hi.out];exact⟨rfl,HS.out _ HB4.out⟩
   | true=>
    rw[if_neg (by decide)] at HI2;by_cases ha:ar=a.args.length
    ·rw[if_neg (by simpa using ha)] at HI2;have ha':(ar:Int)=(a.args.length:Int):=by omega
     by_cases ht0:0<=t
     ·by_cases ht1:t<=1000000
      ·rw[if_neg (by simp[ht0,ht1])] at HI2;have t0:¬t < 0:=by omega
       have t1:¬1000000 < t:=by omega
       by_cases hov:t+y.win<=y.mark
       ·have hi:Hid (qfs y s t=(8,y)):=by show _=_;rw[HI2.out,if_pos hov]
        clear HI2;go_wp2_with fail;go_quiet (fail);go_wp2;go_ret;rw[hi.out];exact⟨rfl,HS.out _ (qq HB4.out)⟩
       ·rw[if_neg hov] at HI2;go_wp2_with fail;go_quiet (fail);have HB5:Hid (Below X.heap.size X (W4.drewN nq)):=qq HB4.out;generalize W4.drewN nq=W5 at *;clear p1 p2 p3 p4 p5 HB4
        have HF:Hid (∀Y,Below X.heap.size X Y->∀(k:Nat) (hk:k < fs.length),∃(gf:Nat) (u1:Option Addr) (u2:Nat),fa=some ⟨gf,0,none⟩/\fs[k].2=.slice u1 fs[k].1.1.args.length u2/\Y.cell? ⟨gf,k*4,none⟩=some (.string fs[k].1.1.rel)/\Y.cell? ⟨gf,k*4+1,none⟩=some (.slice u1 fs[k].1.1.args.length u2)/\Y.cell? ⟨gf,k*4+2,none⟩=some (.int .i64 fs[k].1.2.1)/\qu Y (.slice u1 fs[k].1.1.args.length u2) fs[k].1.1.args/\fs[k].1.1.args.length<=2):=λY hY k hk=>by
         obtain⟨_,h2,_⟩:=HX.out Y hY;obtain⟨gf,cap,e1,_,_,_,e2⟩:=qbq h2.facts (λ_=>rfl) (by omega);obtain⟨s1,_⟩:=h2.facte fs[k] (List.getElem_mem hk);obtain⟨u1,u2,e3⟩:=qd s1;have hz1:=(HZ.out.facts fs[k].1 (by rw[<- h2.factsm];exact List.mem_map.2 ⟨_,List.getElem_mem hk,rfl⟩)).1;have e4:=e2 k 1 hk _ (by decide) rfl;rw[e3] at s1 e4;simp only[Value.slice.injEq] at e1;exact⟨gf,u1,u2,e1.1,e3,e2 k 0 hk _ (by decide) rfl,e4,e2 k 2 hk _ (by decide) rfl,s1,hz1⟩
        have HG:Hid (∀Y,Below X.heap.size X Y->Y.cell? ⟨b,6,none⟩=some (.slice fa fs.length fc)/\Y.cell? ⟨NG,0,none⟩=some (.string g.rel)/\Y.cell? ⟨NG,1,none⟩=some (.slice ga g.args.length gc)/\qu Y (.slice ga g.args.length gc) g.args):=λY hY=>by
         obtain⟨_,h2,_,h4,h5⟩:=HX.out Y hY;exact⟨by simp[World.cell?,h2.box],by simp[World.cell?,h4],by simp[World.cell?,h4],Qm h5 (Nat.zero_le _)⟩
        have HP0:Hid (y.facts.any (λf=>qeg f.1 g && decide (f.2.1=t))=(fs.drop 0).any (λf=>qeg f.1.1 g && decide (f.1.2.1=t))):=by
         show _=_;rw[<- HH.out.factsm,List.any_map];rfl
        have q7x:fs.length<=24:=by have:=HZ.out.f24;have:=HFL.out;omega
        generalize y.facts.any (λf=>qeg f.1 g && decide (f.2.1=t))=twice at *;go_wp2_with fail
        go_loopw [13] (λp wr=>∃i:Nat,p=.int .i64 i/\i<=fs.length/\Hid (Below X.heap.size X wr)/\Hid (twice=(fs.drop i).any (λf=>qeg f.1.1 g && decide (f.1.2.1=t)))) (λp _=>fs.length - (intOf p).toNat)
        case atStart=>exact⟨0,rfl,Nat.zero_le _,HB5,HP0⟩
        case round=>
         clear HP0 HB5;obtain⟨i,rfl,hle,hbw,htw⟩:=hrel;obtain⟨c6,n0,n1,hSg⟩:=HG.out wr hbw.out;by_cases hlt:i < fs.length
         ·have i1:(i:Int) < (fs.length:Int):=by omega
          obtain⟨gf,u1,u2,rfl,e3,f0,f1,f2,hSf,hfa⟩:=HF.out wr hbw.out i hlt;rw[List.drop_eq_getElem_cons hlt,List.any_cons] at htw;obtain⟨w6,m0,m1,Qbq⟩:=HG.out wr.drew hbw.out.drew;obtain⟨gf',_,_,e0',e3',g0,g1,g2,Qbp,_⟩:=HF.out wr.drew hbw.out.drew i hlt
          cases e0'
          rw[e3] at e3'
          cases e3'
          have hsm:Hid (Calls Tryz.prog 118 #[.agg #[.string fs[i].1.1.rel,.slice u1 fs[i].1.1.args.length u2],.agg #[.string g.rel,.slice ga g.args.length gc]] wr.drew λe w'=>e=.returned (.bool (qeg fs[i].1.1 g))/\(w'.cell? ⟨b,6,none⟩=some (.slice (some ⟨gf,0,none⟩) fs.length fc)/\w'.cell? ⟨gf,i*4,none⟩=some (.string fs[i].1.1.rel)/\w'.cell? ⟨gf,i*4+1,none⟩=some (.slice u1 fs[i].1.1.args.length u2)/\w'.cell? ⟨NG,0,none⟩=some (.string g.rel)/\w'.cell? ⟨NG,1,none⟩=some (.slice ga g.args.length gc))/\w'.cell? ⟨gf,i*4+2,none⟩=some (.int .i64 fs[i].1.2.1)/\Hid (Below X.heap.size X w')):=by
           refine (qvt (fs[i].1.1,.slice u1 fs[i].1.1.args.length u2) (g,.slice ga g.args.length gc) wr.drew Qbp Qbq (by show fs[i].1.1.args.length<=1000000;omega)).mono ?_;rintro e w' ⟨k1,k2⟩;have k3:Below X.heap.size X w':=hbw.out.drew.trans (k2.mono hbw.out.drew.size);obtain⟨j6,j0,j1,_⟩:=HG.out w' k3;obtain⟨gf',_,_,e0',e3',l0,l1,l2,_,_⟩:=HF.out w' k3 i hlt
           cases e0'
           rw[e3] at e3'
           cases e3'
           exact⟨k1,⟨j6,l0,l1,j0,j1⟩,l2,k3⟩
          clear hSg hSf Qbq Qbp g2 e3;go_wp2_with fail
          first | (go_region_held3 (λw'=>w'.cell? ⟨b,6,none⟩=some (.slice (some ⟨gf,0,none⟩) fs.length fc)/\w'.cell? ⟨gf,i*4,none⟩=some (.string fs[i].1.1.rel)/\w'.cell? ⟨gf,i*4+1,none⟩=some (.slice u1 fs[i].1.1.args.length u2)/\w'.cell? ⟨NG,0,none⟩=some (.string g.rel)/\w'.cell? ⟨NG,1,none⟩=some (.slice ga g.args.length gc)) (first | with_reducible exact⟨w6,g0,g1,m0,m1⟩ | with_reducible assumption) (first | (go_at_call 118;refine Calls.mono hsm.out ?_;rintro e' W6 ⟨rfl,hcc,hc2,hb6⟩) | go_simp)) | fail
          obtain⟨j6,l0,l1,j0,j1⟩:=hcc;clear w6 m0 m1 g0 g1 hsm hbw c6 n0 n1 f0 f1 f2;have hTM:Hid (fs[i].1.2.1=fs[i].1.2.1):=rfl;obtain⟨tm,htm⟩:∃tm,fs[i].1.2.1=tm:=⟨_,rfl⟩;obtain⟨sb,hsb⟩:∃sb,qeg fs[i].1.1 g=sb:=⟨_,rfl⟩;rw[htm,hsb] at htw;rw[htm] at hc2;rw[hsb];clear htm hsb hTM
          cases sb with
          | false=>
           rw[Bool.false_and,Bool.false_or] at htw;go_wp2;refine⟨⟨i+1,by go_num,by omega,hb6,htw⟩,by simp[intOf];omega⟩
          | true=>
           by_cases he:tm=t
           ·rw[show (true && decide (tm=t))=true by simp[he],Bool.true_or] at htw;have q94:twice=true:=htw.out;subst q94;rw[if_pos rfl] at HI2;have hi:Hid (qfs y s t=(9,y)):=HI2;clear HI2;go_wp2_with fail
            try go_quiet (fail)
            go_wp2;go_ret;rw[hi.out];exact⟨rfl,HS.out _ (by first | exact hb6.out | exact qq hb6.out)⟩
           ·rw[show (true && decide (tm=t))=false by simp[he],Bool.false_or] at htw;go_wp2_with fail
            try go_quiet (fail)
            go_wp2;refine⟨⟨i+1,by go_num,by omega,by first | exact hb6 | exact qq hb6.out,htw⟩,by simp[intOf];omega⟩
         ·have i1:¬(i:Int) < (fs.length:Int):=by omega
          rw[List.drop_eq_nil_of_le (by omega)] at htw;have q94:twice=false:=htw.out;subst q94;rw[if_neg (by decide)] at HI2;have c7:wr.cell? ⟨b,7,none⟩=some (.slice na y.names.length nc):=(HC4.out wr hbw.out).2.2.2.2;clear htw;obtain⟨_,hEw,_,hGw,hRw⟩:=HX.out wr hbw.out;have hT:∀k,T k->k < W.heap.size:=HH.out.lt;have hWw:=(HX.out wr hbw.out).1;have q7y:∀k,(Value.slice ga g.args.length gc).ownBlock=some k->V.heap.size<=k:=λk hk=>(qe hRw hk).1
          have Qbg:Hid (qoa W T b y (.slice va qs.length vc) (.slice fa fs.length fc) (.slice na y.names.length nc) vs vd qs fs ss ds wr (.slice na y.names.length nc) (qa8 y.names (g.args.take 0))/\wr.heap[NG]?=some (Obj.cells #[.string g.rel,.slice ga g.args.length gc] 226)/\qu wr (.slice ga g.args.length gc) g.args/\∀k,(Value.slice na y.names.length nc).ownBlock=some k->(Value.slice ga g.args.length gc).ownBlock≠some k):=by
           refine⟨⟨Chg.ofBelow _ (hN ▸ hWw),hEw,hEw.names,⟨[],by simp[qa8]⟩,.inl rfl⟩,hGw,Qm hRw (Nat.zero_le _),λk hk hk'=>?_⟩;have h1:=q7y k hk';have h2:=hT k (HH.out.namesT k hk);have h3:=HVN.out;omega
          have hn8:y.names.length<=8:=HZ.out.n8;have HTT:Hid (∀k,T k->k < W.heap.size):=hT;clear hEw hGw hRw hWw q7y hT n0 n1 hSg;go_wp2_with fail
          go_loopw [15,16] (λo p wr=>∃(i:Nat) (vo:Vq),vo=o/\p=.int .i64 i/\i<=g.args.length/\Hid (qoa W T b y (.slice va qs.length vc) (.slice fa fs.length fc) (.slice na y.names.length nc) vs vd qs fs ss ds wr vo (qa8 y.names (g.args.take i))/\wr.heap[NG]?=some (Obj.cells #[.string g.rel,.slice ga g.args.length gc] 226)/\qu wr (.slice ga g.args.length gc) g.args/\∀k,vo.ownBlock=some k->(Value.slice ga g.args.length gc).ownBlock≠some k)) (λ_ p _=>g.args.length - (intOf p).toNat)
          case atStart=>exact⟨0,_,rfl,rfl,Nat.zero_le _,Qbg⟩
          case round=>
           clear Qbg;obtain⟨j,vo,rfl,rfl,hle,hAd⟩:=hrel;obtain⟨oa2,oc2,hvo⟩:=qd hAd.out.1.row;subst hvo;have n1:wr.cell? ⟨NG,1,none⟩=some (.slice ga g.args.length gc):=by simp[World.cell?,hAd.out.2.1]
           have hal:=qty (g.args.take j) y.names;rw[List.length_take] at hal;by_cases hlt:j < g.args.length
           ·have i2:(j:Int) < (g.args.length:Int):=by omega
            obtain⟨gg,gcap,e0,hgg,hcg⟩:=hAd.out.2.2.1.cell j hlt;cases e0;have qcv:Hid _:=qwn 0 _ _ g.args[j] wr (Nat.zero_le _) (by omega) hAd.out.1.row
            have htk:qa8 y.names (g.args.take (j+1))=Qc (qa8 y.names (g.args.take j)) g.args[j]:=by
             unfold qa8;rw[List.take_succ_eq_append_getElem hlt,List.foldl_append];rfl
            have HTK:Hid _:=htk;clear htk;go_wp2_with fail;refine Calls.mono qcv.out ?_;rintro e' W7 ⟨v',rfl,r1,r2,hg7,hv7⟩
            have hnx:Hid (qoa W T b y (.slice va qs.length vc) (.slice fa fs.length fc) (.slice na y.names.length nc) vs vd qs fs ss ds W7 v' (qa8 y.names (g.args.take (j+1)))/\W7.heap[NG]?=some (Obj.cells #[.string g.rel,.slice (some ⟨gg,0,none⟩) g.args.length gc] 226)/\qu W7 (.slice (some ⟨gg,0,none⟩) g.args.length gc) g.args/\∀k,v'.ownBlock=some k->(Value.slice (some ⟨gg,0,none⟩) g.args.length gc).ownBlock≠some k):=by
             obtain⟨q1,q2,q3,q4⟩:=hAd.out;have Qfm:NG < wr.heap.size:=(zg q2).1;refine⟨by rw[HTK.out];exact q1.step HTT.out _ r1 r2 hg7 hv7,(hg7.block NG Qfm (λe=>?_)).trans q2,qm q3 (λk hk hlt=>hg7.block k hlt (λe=>q4 k e.symm hk)),λk hk hk'=>?_⟩
             ·obtain⟨c,hc⟩:=qi q1.row e.symm;rw[q2] at hc;cases hc
             ·rcases hv7 with h5 | h5
              ·rw[h5] at hk;exact q4 k hk hk'
              ·have:=h5 k hk;obtain⟨c,hc⟩:=qi q3 hk';have:=(zg hc).1;omega
            clear hAd qcv r1 r2 hg7 hv7;go_wp2;refine⟨⟨j+1,v',rfl,by go_num,by omega,hnx⟩,by simp[intOf];omega⟩
           ·have i2:¬(j:Int) < (g.args.length:Int):=by omega
            have htk:g.args.take j=g.args:=List.take_of_length_le (by omega);rw[htk] at hAd hal ⊢;obtain⟨na2,hna2⟩:∃n,(qa8 y.names g.args).length=n:=⟨_,rfl⟩;rw[hna2] at hAd hal HI2 ⊢;have p6:wr.cell? ⟨b,6,none⟩=some (.slice fa fs.length fc):=by simp[World.cell?,hAd.out.1.er.box]
            have p7:wr.cell? ⟨b,7,none⟩=some (.slice na y.names.length nc):=by simp[World.cell?,hAd.out.1.er.box]
            have z7:wr.frozen? ⟨b,7,none⟩=false:=by simp[World.frozen?,hAd.out.1.er.box]
            have m0:wr.cell? ⟨NG,0,none⟩=some (.string g.rel):=by simp[World.cell?,hAd.out.2.1]
            rw[<- HFL.out] at HI2;clear htk;by_cases hF:24<=fs.length\/8 < na2
            ·rw[if_pos hF] at HI2;have hi:Hid (qfs y s t=(10,y)):=HI2
             have hS2:Hid (∀q,qao T b y W (wr.drewN q)):=λq=>by
              have h5:Below wr.heap.size wr (wr.drewN q):=qq (Below.refl _ _);exact⟨⟨T,⟨_,_,_,_,_,_,_,_,_,(hAd.out.1.keep h5).er⟩,λk hk=>.inl hk⟩,(hAd.out.1.keep h5).chg⟩
             have hS1:Hid (qao T b y W wr):=⟨⟨T,⟨_,_,_,_,_,_,_,_,_,hAd.out.1.er⟩,λk hk=>.inl hk⟩,hAd.out.1.chg⟩;clear HI2;by_cases hF1:24<=fs.length
             ·have x1:(24:Int)<=(fs.length:Int):=by omega
              go_wp2_with fail
              try go_quiet (fail)
              go_wp2;go_ret;rw[hi.out];exact⟨rfl,by first | exact hS1.out | exact hS2.out _⟩
             ·have x1:¬(24:Int)<=(fs.length:Int):=by omega
              have x2:(8:Int) < (na2:Int):=by omega
              go_wp2_with fail
              try go_quiet (fail)
              go_wp2;go_ret;rw[hi.out];exact⟨rfl,by first | exact hS1.out | exact hS2.out _⟩
            ·rw[if_neg hF] at HI2;have x1:¬(24:Int)<=(fs.length:Int):=by omega
             have x2:¬(8:Int) < (na2:Int):=by omega
             obtain⟨X1,hX1⟩:∃X1,wr.setCell ⟨b,7,none⟩ (.slice oa2 na2 oc2)=X1:=⟨_,rfl⟩;have hi:Hid (qfs y s t=(0,{y with names:=qa8 y.names g.args,facts:=y.facts++[(g,t,false)]})):=HI2;have HAD:Hid _:=hAd;obtain⟨q1,q2,q3,q4⟩:=hAd.out;have Qbo:NG≠b:=λe=>by rw[e,q1.er.box] at q2;cases q2
             have q6q:X1.heap[b]?=some (Obj.cells #[.slice va qs.length vc,.int .i64 y.win,.int .i64 y.lat,.int .i64 y.que,.int .i64 y.clock,.int .i64 y.mark,.slice fa fs.length fc,.slice oa2 na2 oc2,vs,vd] 222):=by rw[<- hX1];exact Qi q1.er.box 7 _
             have qxk:X1.heap[NG]?=some (Obj.cells #[.string g.rel,.slice ga g.args.length gc] 226):=by rw[<- hX1];exact (Below.heap_setCell wr ⟨b,7,none⟩ _ NG Qbo).trans q2
             have s6:X1.drew.cell? ⟨b,6,none⟩=some (.slice fa fs.length fc):=by show X1.cell? _=_;simp[World.cell?,q6q]
             have s0:X1.drew.cell? ⟨NG,0,none⟩=some (.string g.rel):=by show X1.cell? _=_;simp[World.cell?,qxk]
             have s1:X1.drew.cell? ⟨NG,1,none⟩=some (.slice ga g.args.length gc):=by show X1.cell? _=_;simp[World.cell?,qxk]
             obtain⟨O,hO⟩:∃O,Obj.cells #[.string g.rel,.slice ga g.args.length gc,.int .i64 t,.bool false] 233 (0,0)=O:=⟨_,rfl⟩
             have qga:Hid ((X1.alloc O).ownsRow 0 233 4 (.slice fa fs.length fc) fs.length (fs.flatMap fcC)):=by
              refine World.ownsRow.alloc (qm (W:=wr) q1.er.facts (λk hk _=>?_)) O;rw[<- hX1];refine Below.heap_setCell wr ⟨b,7,none⟩ _ k (λe=>?_);obtain⟨c,hc⟩:=qi q1.er.facts hk;have e':k=b:=e;rw[e',q1.er.box] at hc;cases hc
             have hSA:Hid ((X1.alloc O).cell? ⟨NG,0,none⟩=some (.string g.rel)/\(X1.alloc O).cell? ⟨NG,1,none⟩=some (.slice ga g.args.length gc)):=by
              have:=(Below.heap_alloc X1 O NG (zg qxk).1).trans qxk;exact⟨by simp[World.cell?,this],by simp[World.cell?,this]⟩
             have hS6:(X1.alloc O).drew.cell? ⟨b,6,none⟩=some (.slice fa fs.length fc):=by
              have:=(Below.heap_alloc X1 O b (zg q6q).1).trans q6q;show (X1.alloc O).cell? _=_;simp[World.cell?,this]
             have hcN:Hid (∀(j:Nat) (u:Vq),[Value.string g.rel,.slice ga g.args.length gc,.int .i64 t,.bool false][j]?=some u->(X1.alloc O).cell? ((⟨X1.heap.size,0,none⟩:Addr).add j)=some u):=by rw[<- hO];exact qbz _ _ _ _ _ _
             have q6p:∀k,(Value.slice ga g.args.length gc).ownBlock=some k->W.heap.size<=k:=λk hk=>by
              have h1:=(qe (HX.out X (Below.refl _ _)).2.2.2.2 hk).1;have:=HVN.out;omega
             have HT2:=HTT.out
             have q9:Hid (∀(w1:Wq) (v':Vq),w1.ownsRow 0 233 4 v' (fs.length+1) (fs.flatMap fcC++[.string g.rel,.slice ga g.args.length gc,.int .i64 t,.bool false])->(X1.alloc O).grownBy w1 (Value.slice fa fs.length fc).ownBlock->(v'.ownBlock=(Value.slice fa fs.length fc).ownBlock\/v'.ownBlock=some (X1.alloc O).heap.size)->w1.cell? ⟨b,6,none⟩=some (.slice fa fs.length fc)/\w1.frozen? ⟨b,6,none⟩=false/\w1.cell? ⟨NG,0,none⟩=some (.string g.rel)/\w1.cell? ⟨NG,1,none⟩=some (.slice ga g.args.length gc)/\(w1.setCell ⟨b,6,none⟩ v').cell? ⟨NG,0,none⟩=some (.string g.rel)/\(w1.setCell ⟨b,6,none⟩ v').cell? ⟨NG,1,none⟩=some (.slice ga g.args.length gc)/\Hid (qao T b {y with names:=qa8 y.names g.args,facts:=y.facts++[(g,t,false)]} W (w1.setCell ⟨b,6,none⟩ v'))):=λw1 v' ho hg hat=>by
              have hg':((wr.setCell ⟨b,7,none⟩ (.slice oa2 na2 oc2)).alloc O).grownBy w1 (Value.slice fa fs.length fc).ownBlock:=by rw[hX1];exact hg
              obtain⟨k1,k2,k3⟩:=q1.inserted HT2 g t q3 q6p q4 O hg' ho (by rw[hX1];exact hat)
              have q97:w1.heap[NG]?=some (Obj.cells #[.string g.rel,.slice ga g.args.length gc] 226):=by
               have hlt:NG < X1.heap.size:=(zg qxk).1;refine ((hg.block NG (by simp;omega) (λe=>?_)).trans (Below.heap_alloc X1 O NG hlt)).trans qxk;obtain⟨c,hc⟩:=qi q1.er.facts e.symm;rw[q2] at hc;cases hc
              have Qdc:(w1.setCell ⟨b,6,none⟩ v').heap[NG]?=some (Obj.cells #[.string g.rel,.slice ga g.args.length gc] 226):=(Below.heap_setCell w1 ⟨b,6,none⟩ v' NG Qbo).trans q97;exact⟨k1,k2,by simp[World.cell?,q97],by simp[World.cell?,q97],by simp[World.cell?,Qdc],by simp[World.cell?,Qdc],k3⟩
             clear hAd q1 q2 q3 q4 q6q qxk HI2 q6p HT2;obtain⟨i0,hin,hz0,hz1,hz2⟩:=info_parts Tryz.infoFact;have qhq:fs.length+1<=maxLen:=by unfold maxLen;omega
             have qdz:(fs.length+1)*56<=140737488355328:=by omega
             go_wp2_with fail
             (go_region_law (first | (refine qi8 rfl (.tmp 142) (.tmp 146) 219 rfl 0 233 i0 (.agg #[.string ⟨#[]⟩,.slice none 0 0,.int .i64 0,.bool false]) 4 56 Tryz.underlying219 hin hz0 hz1 hz2 rfl (by decide) (.slice fa fs.length fc) fs.length (fs.flatMap fcC) (by simp[Act.eval,Act.put]) qga.out ⟨X1.heap.size,0,none⟩ 1 1 [.string g.rel,.slice ga g.args.length gc,.int .i64 t,.bool false] (by simp[Act.eval,Act.put]) rfl hcN.out (by simp[Value.oneCell']) qhq qdz (Nat.zero_le _) ?_;intro v' w1 hown1 hgrow1 hat1;obtain⟨g',cap',hv'⟩:=ownsRow_succ hown1;subst hv';obtain⟨f6,y6,f0,f1,f2,f3,q3p⟩:=q9.out w1 _ hown1 ⟨hgrow1.os,hgrow1.tape,hgrow1.output,hgrow1.size,hgrow1.block⟩ hat1) | go_simp))
             all_goals clear hown1 hgrow1 hat1
             all_goals go_wp2
             all_goals go_ret
             all_goals (rw[hi.out];exact⟨rfl,q3p.out⟩)
      ·have hi:Hid (qfs y s t=(6,y)):=by show _=_;rw[HI2.out,if_pos (by simp[ht1])]
       have t0:¬t < 0:=by omega
       have t1:1000000 < t:=by omega
       clear HI2;go_wp2;go_ret;rw[hi.out];exact⟨rfl,HS.out _ HB4.out⟩
     ·have hi:Hid (qfs y s t=(6,y)):=by show _=_;rw[HI2.out,if_pos (by simp[ht0])]
      have t0:t < 0:=by omega
      clear HI2;go_wp2;go_ret;rw[hi.out];exact⟨rfl,HS.out _ HB4.out⟩
    ·have hi:Hid (qfs y s t=(4,y)):=by show _=_;rw[HI2.out,if_pos (by simpa using ha)]
     have ha':¬((ar:Int)=(a.args.length:Int)):=by omega
     clear HI2;go_wp2;go_ret;rw[hi.out];exact⟨rfl,HS.out _ HB4.out⟩
