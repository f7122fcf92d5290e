/- The document's own engine: its box is written. -/
import Derived.Test.YtjajnhemgphefaaGreatDoorJWyO
import Derived.Test.YtjajnhemgphefaaGreatDoorJWyQ
set_option linter.unusedVariables false
set_option linter.unusedSimpArgs false
set_option maxRecDepth 100000
set_option maxHeartbeats 4000000
namespace Go.Proofs.YtjajnhemgphefaaGreatDoor
open Go renaming World->Wq,Value->Vq
open Go.RowKit Go.Shelf
variable {W W':Wq} {T:Nat->Prop} {b:Nat} {y y':Er} {vr vf vn vs vd:Vq} {qs:List (Rl×Vq×Vq)} {fs:List ((Gr×Int×Bool)×Vq)} {ss:List (Gr×Vq)} {ds:List (Fr×Vq×Vq)}
structure qoc(y:Er):Prop where
 fine:qds y.rs y.names
 gr:∀f∈y.facts,qjt y.rs y.names f.1
 st:∀g∈y.state,qjt y.rs y.names g
theorem qw3{R:List Rl}{Nm:List ByteArray}(h:qds R Nm){g:Gr}(hg:qjt R Nm g):g.args.length<=2:=by
 obtain⟨a,ha,_,h2⟩:=hg.rel;obtain⟨r,hr,ha'⟩:=List.mem_flatMap.1 ha;have:=((h.each r hr).args a ha').1;omega
def qqm(y:Er)(s:ByteArray)(r:Int×Int):Prop:=
 match qgq s with
 | none=>r=(0,2)
 | some a=>match qdd a with
  | none=>r=(0,2)
  | some g=>if qgl y.rs a≠0 then r=(0,qgl y.rs a) else if inG y.state g=false then r=(0,0)
   else ∃P:Int->Bool,(∀t,P t=true↔Dv y.rs (qf3 y.win y.facts t) g)/\r=(qfi P 2000000 ((y.facts.filter (λf=>f.2.2)).map (λf=>f.2.1+y.win)),0)
def qbt(win en:Int)(l:List ((Gr×Int×Bool)×Vq)):List (Gr×Vq):=(l.filter (λf=>f.1.2.2 && decide (en < f.1.2.1+win))).map (λf=>(f.1.1,f.2))
theorem qxv(win en:Int)(l:List ((Gr×Int×Bool)×Vq)):(qbt win en l).length<=l.length:=by unfold qbt;rw[List.length_map];exact List.length_filter_le _ _
theorem qva(win en:Int)(l:List ((Gr×Int×Bool)×Vq)){k:Nat}(h:k < l.length):qbt win en (l.take (k+1))=qbt win en (l.take k)++(if (l[k].1.2.2 && decide (en < l[k].1.2.1+win))=true then [(l[k].1.1,l[k].2)] else []):=by
 unfold qbt;rw[List.take_succ_eq_append_getElem h,List.filter_append,List.map_append];congr 1;by_cases hb:(l[k].1.2.2 && decide (en < l[k].1.2.1+win))=true
 ·rw[if_pos hb,List.filter_cons,if_pos hb];rfl
 ·rw[if_neg hb,List.filter_cons,if_neg hb];rfl
theorem qyd(h:qb2 W T b y vr vf vn vs vd qs fs ss ds)(hz:qwc y)(hfi:qoc y)(s:ByteArray)(hs:s.size<=1048576) :
  Calls Tryz.prog 69 #[.pointer (some ⟨b,0,none⟩),.string s] W λe w'=>(∃r,qqm y s r/\e=.returned (.tuple #[.int .i64 r.1,.int .i64 r.2]))/\Below W.heap.size W w':=by
 obtain⟨va,vc,hvr⟩:=qd h.rules.row;obtain⟨fa,fc,hvf⟩:=qd h.facts;obtain⟨sa,sc,hvs⟩:=qd h.state.row;subst hvr hvf hvs;have qsv:b < W.heap.size:=h.lt b h.own;have hq:qs.length<=1000:=by have:=hz.r8;rw[<- h.rsm,List.length_map] at this;omega
 have hqb:∀q∈qs,q.1.body.length<=900:=λq hq=>by have:=hz.body q.1 (by rw[<- h.rsm];exact List.mem_map.2 ⟨q,hq,rfl⟩);omega
 have hon:Hid _:=qwq h hq hqb s hs;go_enter Tryz.func69,Tryz.ntmps69;go_wp2_with fail;refine Calls.mono hon.out ?_;rintro e' W1 ⟨h1,hb1⟩
 obtain⟨a,oa,oc,cc,he,hrA,hl2,qn1,hok0⟩:∃(a:Am) (oa:Option Addr) (oc:Nat) (cc:Int),e'=.returned (.tuple #[.agg #[.string a.rel,.slice oa a.args.length oc],.int .i64 cc])/\W1.ownsRow W.heap.size 215 2 (.slice oa a.args.length oc) a.args.length (a.args.flatMap tmC)/\a.args.length<=2/\(cc≠2->qgq s=some a/\cc=qgl y.rs a)/\(cc=2->qgq s=none):=by
  unfold qgu at h1
  cases ho:qgq s with
  | none=>
   rw[ho] at h1;exact⟨⟨⟨#[]⟩,[]⟩,none,0,2,h1,World.ownsRow_nil _ _ _ _,by simp,λh=>absurd rfl h,λ_=>rfl⟩
  | some a=>
   rw[ho] at h1;obtain⟨va',k1,k2,k3,k4,k5,k6⟩:=h1;obtain⟨oa,oc,rfl⟩:=qd k2;refine⟨a,oa,oc,_,k1,k2,k3,λ_=>⟨rfl,rfl⟩,λh=>?_⟩;unfold qgl at h;split at h
   ·cases h
   ·split at h <;> cases h
 subst he;have HB1:Hid (Below W.heap.size W W1):=hb1;obtain⟨N,hN⟩:∃N,W.heap.size=N:=⟨_,rfl⟩;obtain⟨V,hV⟩:∃V,W1.alloc (.cells #[.string a.rel,.slice oa a.args.length oc] 145)=V:=⟨_,rfl⟩;have hbV:Below N W V:=by rw[<- hV,<- hN];exact hb1.alloc hb1.size _
 have hVM:V.heap[W1.heap.size]?=some (Obj.cells #[.string a.rel,.slice oa a.args.length oc] 145):=by rw[<- hV];exact World.alloc_heap_new W1 _
 have hrV:V.ownsRow N 215 2 (.slice oa a.args.length oc) a.args.length (a.args.flatMap tmC):=by rw[<- hV,<- hN];exact hrA.alloc _
 have hfx:Hid _:=qri (a,.slice oa a.args.length oc) V (Qm hrV (Nat.zero_le _)) (by show a.args.length<=1000;omega);have HV:Hid (Below N W V):=hbV;have v0:V.cell? ⟨W1.heap.size,0,none⟩=some (.string a.rel):=by simp[World.cell?,hVM]
 have v1:V.cell? ⟨W1.heap.size,1,none⟩=some (.slice oa a.args.length oc):=by simp[World.cell?,hVM]
 clear hon h1 hb1 hrA hrV hbV hVM;go_wp2_with fail;refine Calls.mono hfx.out ?_;clear hfx v0 v1;rintro e' W2 ⟨h2,hb2⟩
 obtain⟨g,ga,gc,fb,he,hrG,hf1,hf0⟩:∃(g:Gr) (ga:Option Addr) (gc:Nat) (fb:Bool),e'=.returned (.tuple #[.agg #[.string g.rel,.slice ga g.args.length gc],.bool fb])/\W2.ownsRow V.heap.size 9 1 (.slice ga g.args.length gc) g.args.length (g.args.map Value.string)/\(fb=true->qdd a=some g)/\(fb=false->qdd a=none):=by
  unfold qeo at h2
  cases ho:qdd a with
  | none=>
   simp only[ho] at h2;exact⟨⟨⟨#[]⟩,[]⟩,none,0,false,h2,World.ownsRow_nil _ _ _ _,λh=>(by cases h),λ_=>rfl⟩
  | some g=>
   simp only[ho] at h2;obtain⟨vg,k1,k2⟩:=h2;obtain⟨ga,gc,rfl⟩:=qd k2;exact⟨g,ga,gc,true,k1,k2,λ_=>rfl,λh=>(by cases h)⟩
 subst he;clear h2;obtain⟨X,hX⟩:∃X,W2.alloc (.cells #[.string g.rel,.slice ga g.args.length gc] 226)=X:=⟨_,rfl⟩;obtain⟨NG,hNG⟩:∃NG,W2.heap.size=NG:=⟨_,rfl⟩;have hbX:Below V.heap.size V X:=by rw[<- hX];exact hb2.alloc hb2.size _
 have hXW:Below N W X:=HV.out.trans (hbX.mono (by have:=HV.out.size;omega));have hXG:X.heap[NG]?=some (Obj.cells #[.string g.rel,.slice ga g.args.length gc] 226):=by rw[<- hX,<- hNG];exact World.alloc_heap_new W2 _
 have hrX:X.ownsRow V.heap.size 9 1 (.slice ga g.args.length gc) g.args.length (g.args.map Value.string):=by rw[<- hX];exact hrG.alloc _
 have HX:Hid (∀Y,Below X.heap.size X Y->Below N W Y/\qb2 Y T b y (.slice va qs.length vc) (.slice fa fs.length fc) vn (.slice sa ss.length sc) vd qs fs ss ds/\Y.cell? ⟨NG,0,none⟩=some (.string g.rel)/\Y.cell? ⟨NG,1,none⟩=some (.slice ga g.args.length gc)/\qu Y (.slice ga g.args.length gc) g.args):=λY hY=>by
  have h1:Below N W Y:=hXW.trans (hY.mono (by have:=hXW.size;omega));have h2:=(hY.block _ (zg hXG).1).trans hXG;exact⟨h1,h.below (hN ▸ h1),by simp[World.cell?,h2],by simp[World.cell?,h2],Qm (qk hrX hY) (Nat.zero_le _)⟩
 have hst:ss.length<=2048:=by have:=hz.st;rw[<- h.statem,List.length_map] at this;exact this
 have hsa:∀p∈ss,p.1.args.length<=1000000:=λp hp=>by
  have:=qw3 hfi.fine (hfi.st p.1 (by rw[<- h.statem];exact List.mem_map.2 ⟨p,hp,rfl⟩));omega
 have hIn:Hid (∀Y,Below X.heap.size X Y->Calls Tryz.prog 122 #[.slice sa ss.length sc,.agg #[.string g.rel,.slice ga g.args.length gc]] Y λe w'=>e=.returned (.bool (inG y.state g))/\(w'.cell? ⟨b,8,none⟩=some (.slice sa ss.length sc)/\w'.cell? ⟨NG,0,none⟩=some (.string g.rel)/\w'.cell? ⟨NG,1,none⟩=some (.slice ga g.args.length gc))/\Hid (Below X.heap.size X w')):=λY hY=>by
  obtain⟨k1,k2,k3,k4,k5⟩:=HX.out Y hY;refine (qs9 _ ss (g,.slice ga g.args.length gc) Y k2.state k5 (by omega) hsa).mono ?_;rintro e w' ⟨l1,l2⟩;have l3:Below X.heap.size X w':=hY.trans (l2.mono hY.size);obtain⟨m1,m2,m3,m4,m5⟩:=HX.out w' l3;rw[h.statem] at l1;exact⟨l1,⟨by simp[World.cell?,m2.box],m3,m4⟩,l3⟩
 have HBX:Hid (∀Y,Below X.heap.size X Y->Below W.heap.size W Y):=λY hY=>hN ▸ (HX.out Y hY).1
 have HU:Hid (∀r,(match qgq s with
  | none=>r=(0,2)
  | some a=>match qdd a with
   | none=>r=(0,2)
   | some g=>if qgl y.rs a≠0 then r=(0,qgl y.rs a) else if inG y.state g=false then r=(0,0)
    else ∃P:Int->Bool,(∀t,P t=true↔Dv y.rs (qf3 y.win y.facts t) g)/\r=(qfi P 2000000 ((y.facts.filter (λf=>f.2.2)).map (λf=>f.2.1+y.win)),0))->qqm y s r):=λr hr=>hr
 have HZ:Hid (qwc y):=hz;have HFI:Hid (qoc y):=hfi;have HH:Hid (qb2 W T b y (.slice va qs.length vc) (.slice fa fs.length fc) vn (.slice sa ss.length sc) vd qs fs ss ds):=h;clear hXW hb2 hrG hbX hXG hrX hV HV HB1 h hz hfi hst hsa hqb;obtain⟨_,k2,n0,n1,_⟩:=HX.out X (Below.refl _ _);obtain⟨_,k2',m0,m1,_⟩:=HX.out X.drew (Below.refl _ _).drew;have c8:X.drew.cell? ⟨b,8,none⟩=some (.slice sa ss.length sc):=by simp[World.cell?,k2'.box]
 have Qbl:=hIn.out X.drew (Below.refl _ _).drew;clear k2 k2';by_cases hc2:cc=2
 ·have hu:Hid (qqm y s (0,2)):=HU.out _ (by rw[hok0 hc2]);subst hc2;clear HU;go_wp2;go_ret2;exact⟨⟨_,hu.out,rfl⟩,HBX.out _ (Below.refl _ _)⟩
 ·obtain⟨ho1,hcc⟩:=qn1 hc2;have Qe1:(cc == 2)=false:=by simpa using hc2
  cases fb with
  | false=>
   have hu:Hid (qqm y s (0,2)):=HU.out _ (by rw[ho1];simp only[hf0 rfl]);clear HU;go_wp2;go_ret2;exact⟨⟨_,hu.out,rfl⟩,HBX.out _ (Below.refl _ _)⟩
  | true=>
   have hg1:=hf1 rfl;by_cases hc0:cc=0
   ·have HU2:Hid (∀r,(if inG y.state g=false then r=(0,0) else ∃P:Int->Bool,(∀t,P t=true↔Dv y.rs (qf3 y.win y.facts t) g)/\r=(qfi P 2000000 ((y.facts.filter (λf=>f.2.2)).map (λf=>f.2.1+y.win)),0))->qqm y s r):=λr hr=>HU.out _ (by rw[ho1];simp only[hg1];rw[if_neg (by rw[<- hcc,hc0];decide)];exact hr);subst hc0;clear HU qn1 hok0 hf1 hf0 ho1 hcc hc2 Qe1;go_wp2_with fail
    first | (go_region_held3 (λw'=>w'.cell? ⟨b,8,none⟩=some (.slice sa ss.length sc)/\w'.cell? ⟨NG,0,none⟩=some (.string g.rel)/\w'.cell? ⟨NG,1,none⟩=some (.slice ga g.args.length gc)) (first | with_reducible exact⟨c8,m0,m1⟩ | with_reducible assumption) (first | (go_at_call 122;refine Calls.mono Qbl ?_;rintro e' W3 ⟨rfl,hcc,hb3⟩) | go_simp)) | fail
    clear hcc Qbl hIn n0 n1 m0 m1 c8;obtain⟨ib,hib⟩:∃ib,inG y.state g=ib:=⟨_,rfl⟩;rw[hib] at HU2 ⊢;clear hib
    cases ib with
    | false=>
     have hu:Hid (qqm y s (0,0)):=HU2.out _ (by rw[if_pos rfl]);clear HU2;go_wp2;go_ret2;exact⟨⟨_,hu.out,rfl⟩,HBX.out _ hb3.out⟩
    | true=>
     obtain⟨P,hP⟩:∃P:Int->Bool,∀t,P t=true↔Dv y.rs (qf3 y.win y.facts t) g:=⟨λt=>@decide (Dv y.rs (qf3 y.win y.facts t) g) (Classical.propDecidable _),λt=>by simp⟩
     have HU3:Hid (qqm y s (qfi P 2000000 (((fs.drop 0).filter (λf=>f.1.2.2)).map (λf=>f.1.2.1+y.win)),0)):=HU2.out _ (by
      rw[if_neg (by decide)];refine⟨P,hP,?_⟩
      rw[<- HH.out.factsm,List.filter_map,List.map_map];rfl)
     have HP:Hid (∀t,P t=true↔Dv y.rs (qf3 y.win y.facts t) g):=hP;have Qf8:=HZ.out.win;have q7x:fs.length<=24:=by have:=HZ.out.f24;rw[<- HH.out.factsm,List.length_map] at this;exact this
     have HF:Hid (∀Y,Below X.heap.size X Y->∀(k:Nat) (hk:k < fs.length),∃(gf:Nat) (u1:Option Addr) (u2:Nat),fa=some ⟨gf,0,none⟩/\fs[k].2=.slice u1 fs[k].1.1.args.length u2/\Y.cell? ⟨gf,k*4,none⟩=some (.string fs[k].1.1.rel)/\Y.cell? ⟨gf,k*4+1,none⟩=some (.slice u1 fs[k].1.1.args.length u2)/\Y.cell? ⟨gf,k*4+2,none⟩=some (.int .i64 fs[k].1.2.1)/\Y.cell? ⟨gf,k*4+3,none⟩=some (.bool fs[k].1.2.2)/\0<=fs[k].1.2.1/\fs[k].1.2.1<=1000000):=λY hY k hk=>by
      obtain⟨_,h2,_⟩:=HX.out Y hY;obtain⟨gf,cap,e1,_,_,_,e2⟩:=qbq h2.facts (λ_=>rfl) (by omega);obtain⟨s1,_⟩:=h2.facte fs[k] (List.getElem_mem hk);obtain⟨u1,u2,e3⟩:=qd s1;have hz1:=(HZ.out.facts fs[k].1 (by rw[<- h2.factsm];exact List.mem_map.2 ⟨_,List.getElem_mem hk,rfl⟩)).2;have e4:=e2 k 1 hk _ (by decide) rfl;rw[e3] at e4;simp only[Value.slice.injEq] at e1;exact⟨gf,u1,u2,e1.1,e3,e2 k 0 hk _ (by decide) rfl,e4,e2 k 2 hk _ (by decide) rfl,e2 k 3 hk _ (by decide) rfl,hz1⟩
     have HC:Hid (∀Y,Below X.heap.size X Y->Y.cell? ⟨b,6,none⟩=some (.slice fa fs.length fc)/\Y.cell? ⟨b,1,none⟩=some (.int .i64 y.win)):=λY hY=>by
      obtain⟨_,h2,_⟩:=HX.out Y hY;exact⟨by simp[World.cell?,h2.box],by simp[World.cell?,h2.box]⟩
     obtain⟨R0,hR0⟩:∃R0,qfi P 2000000 (((fs.drop 0).filter (λf=>f.1.2.2)).map (λf=>f.1.2.1+y.win))=R0:=⟨_,rfl⟩;rw[hR0] at HU3;have h0:Hid (qfi P 2000000 (((fs.drop 0).filter (λf=>f.1.2.2)).map (λf=>f.1.2.1+y.win))=R0):=hR0;clear hR0 HU2 hP;go_wp2_with fail
     go_loopw [11,12] (λo p wr=>∃(i:Nat) (bst:Int),o=.int .i64 bst/\p=.int .i64 i/\i<=fs.length/\0<=bst/\bst<=2000000/\Hid (Below X.heap.size X wr)/\Hid (qfi P bst (((fs.drop i).filter (λf=>f.1.2.2)).map (λf=>f.1.2.1+y.win))=R0)) (λ_ p _=>fs.length - (intOf p).toNat)
     case atStart=>exact⟨0,2000000,rfl,rfl,Nat.zero_le _,by decide,by decide,hb3,h0⟩
     case round=>
      clear h0 hb3;obtain⟨i,bst,rfl,rfl,hle,hbl,hbh,hbw,qj5⟩:=hrel;obtain⟨c6,c1⟩:=HC.out wr hbw.out;by_cases hlt:i < fs.length
      ·have i1:(i:Int) < (fs.length:Int):=by omega
       obtain⟨gf,u1,u2,hfa,e3,f0,f1,f2,f3,ht0,ht1⟩:=HF.out wr hbw.out i hlt;rw[List.drop_eq_getElem_cons hlt] at qj5;obtain⟨tm,htm⟩:∃tm,fs[i].1.2.1=tm:=⟨_,rfl⟩;obtain⟨bg,hbg⟩:∃bg,fs[i].1.2.2=bg:=⟨_,rfl⟩;rw[htm] at f2 ht0 ht1;rw[hbg] at f3;rw[List.filter_cons,hbg] at qj5;have hTM:Hid (fs[i].1.2.1=tm):=htm;clear htm hbg e3 f0 f1;subst hfa;go_wp2_with fail;go_quiet (fail);have hbq:Hid (Below X.heap.size X (wr.drewN nq)):=qq hbw.out;have c6q:(wr.drewN nq).cell? ⟨b,6,none⟩=some (.slice (some ⟨gf,0,none⟩) fs.length fc):=c6;have f3q:(wr.drewN nq).cell? ⟨gf,i*4+3,none⟩=some (.bool bg):=f3;generalize wr.drewN nq=wq at *;clear c6 f2 f3 hbw c1;by_cases hsk:bg=true/\tm+y.win < bst
       ·obtain⟨rfl,qs0⟩:=hsk;have hge:¬bst<=tm+y.win:=by omega
        rw[if_pos rfl,List.map_cons] at qj5;obtain⟨en,hen⟩:∃en,tm+y.win=en:=⟨_,rfl⟩
        have qkk:Hid (qfi P (if P en=true then bst else en) (((fs.drop (i+1)).filter (λf=>f.1.2.2)).map (λf=>f.1.2.1+y.win))=R0):=by
         have h5:=qj5.out;unfold qfi at h5;rw[hTM.out,if_neg hge,hen] at h5;exact h5
        have HEN:Hid (tm+y.win=en):=hen;have Qgu:0<=en/\en<=1001000:=by omega
        obtain⟨M,hM⟩:∃M,wq.heap.size=M:=⟨_,rfl⟩;have h00:Hid (Below X.heap.size X wq/\M<=wq.heap.size/\wq.ownsRow M 226 2 (.slice none 0 0) (qbt y.win en (fs.take 0)).length ((qbt y.win en (fs.take 0)).flatMap gdC)):=⟨hbq.out,by omega,World.ownsRow_nil _ _ _ _⟩;obtain⟨i0,hi,hz0,hz1,hz2⟩:=info_parts Tryz.infoGround;have HXM:Hid (X.heap.size<=M):=by have:=hbq.out.size;show _<=_;omega
        clear hM qj5;go_wp2_with fail
        go_loopw [14,15] (λo p wr=>∃(k:Nat) (vl:Vq),vl=o/\p=.int .i64 k/\k<=fs.length/\Hid (Below X.heap.size X wr/\M<=wr.heap.size/\wr.ownsRow M 226 2 vl (qbt y.win en (fs.take k)).length ((qbt y.win en (fs.take k)).flatMap gdC))) (λ_ p _=>fs.length - (intOf p).toNat)
        case atStart=>exact⟨0,_,rfl,rfl,Nat.zero_le _,h00⟩
        case round=>
         clear h00 c6q f3q qs0 hge hbq;obtain⟨k,vl,rfl,rfl,qsz,hLf⟩:=hrel;obtain⟨la,lc,hvl⟩:=qn hLf.out.2.2;subst hvl;obtain⟨d6,d1⟩:=HC.out wr hLf.out.1;have hll:=qxv y.win en (fs.take k);rw[List.length_take] at hll;by_cases hkl:k < fs.length
         ·have k1:(k:Int) < (fs.length:Int):=by omega
          obtain⟨gf',v1,v2,Qe9,e3,f0,f1,f2,f3,Qf5,Qf6⟩:=HF.out wr hLf.out.1 k hkl;cases Qe9;have htk:=qva y.win en fs hkl;rw[e3] at htk;obtain⟨gk,hgk⟩:∃gk,fs[k].1.1=gk:=⟨_,rfl⟩;obtain⟨tk,qs4⟩:∃tk,fs[k].1.2.1=tk:=⟨_,rfl⟩;obtain⟨bk,hbk⟩:∃bk,fs[k].1.2.2=bk:=⟨_,rfl⟩;rw[hgk,qs4,hbk] at htk;rw[hgk] at f0 f1;rw[qs4] at f2 Qf5 Qf6;rw[hbk] at f3;have HTK:Hid _:=htk;clear htk hgk qs4 hbk e3;generalize qbt y.win en (fs.take k)=acc at *;have hup:Hid (∀q,Below X.heap.size X (wr.drewN q)/\M<=(wr.drewN q).heap.size/\(wr.drewN q).ownsRow M 226 2 (.slice la acc.length lc) acc.length (acc.flatMap gdC)):=λq=>⟨qq hLf.out.1,hLf.out.2.1,hLf.out.2.2⟩;by_cases hin:bk=true/\en < tk+y.win
          ·obtain⟨rfl,Qcf⟩:=hin;go_wp2_with fail;go_quiet (fail);have hq2:Hid _:=hup.out nq;have c6q:(wr.drewN nq).cell? ⟨b,6,none⟩=some (.slice (some ⟨gf,0,none⟩) fs.length fc):=d6;have f0q:(wr.drewN nq).cell? ⟨gf,k*4,none⟩=some (.string gk.rel):=f0;have f1q:(wr.drewN nq).cell? ⟨gf,k*4+1,none⟩=some (.slice v1 gk.args.length v2):=f1;have Qfg:(true && decide (en < tk+y.win))=true:=by simp[Qcf]
           rw[if_pos Qfg] at HTK;generalize wr.drewN nq=wd at *;clear hup hLf d6 d1 f0 f1 f2 f3;have hkr:Hid (wd.ownsRow M 226 2 (.slice la acc.length lc) acc.length (acc.flatMap gdC)):=hq2.out.2.2;have hcz:Hid (∀O,M<=(wd.alloc O).heap.size):=λO=>by have:=hq2.out.2.1;simp;omega
           have qdt:Hid (∀(Y:Wq) (v':Vq) (O:Obj),(wd.alloc O).grownBy Y (Value.slice la acc.length lc).ownBlock->Y.ownsRow M 226 2 v' (acc.length+1) (acc.flatMap gdC++[.string gk.rel,.slice v1 gk.args.length v2])->Below X.heap.size X Y/\M<=Y.heap.size/\Y.ownsRow M 226 2 v' (qbt y.win en (fs.take (k+1))).length ((qbt y.win en (fs.take (k+1))).flatMap gdC)):=λY v' O hg ho=>by
            have hz4:M<=(wd.alloc O).heap.size:=hcz.out O;refine⟨(hq2.out.1.alloc hq2.out.1.size O).grown hg (by have:=hq2.out.1.size;simp;omega) (λq e=>by have h5:=(qe hq2.out.2.2 e).1;have:=HXM.out;omega),Nat.le_trans hz4 hg.size,?_⟩;rw[HTK.out,List.length_append,List.flatMap_append];exact ho
           clear hq2
           go_wp2_with (at_builtin;refine wpList_append_own _ rfl _ _ 217 rfl M 226 i0 _ 2 40 Tryz.underlying217 hi hz0 hz1 hz2 rfl (by decide) _ acc.length (acc.flatMap gdC) rfl (hkr.out.alloc _) ⟨wd.heap.size,0,none⟩ 1 _ [.string gk.rel,.slice v1 gk.args.length v2] rfl rfl (qed _ _ _ _) (by simp[Value.oneCell']) (by unfold maxLen;omega) (by omega) (hcz.out _) ?_;intro vx' w1 ho1 hg1 _;have HW1:Hid _:=qdt.out _ _ _ hg1 ho1;clear ho1 hg1)
           refine⟨⟨k+1,vx',rfl,by go_num,by omega,HW1⟩,by simp[intOf];omega⟩
          ·have hno:(bk && decide (en < tk+y.win))=false:=by
            cases bk with
            | false=>rfl
            | true=>simpa using hin
           have hnx:Hid (∀q,Below X.heap.size X (wr.drewN q)/\M<=(wr.drewN q).heap.size/\(wr.drewN q).ownsRow M 226 2 (.slice la acc.length lc) (qbt y.win en (fs.take (k+1))).length ((qbt y.win en (fs.take (k+1))).flatMap gdC)):=λq=>by
            have h5:=HTK.out;rw[hno,if_neg (by decide),List.append_nil] at h5;rw[h5];exact hup.out q
           cases bk with
           | false=>
            clear hno hin HTK hup hLf;go_wp2_with fail;go_quiet (fail);have HW1:Hid _:=hnx.out nq;go_wp2;refine⟨⟨k+1,_,rfl,by go_num,by omega,HW1⟩,by simp[intOf];omega⟩
           | true=>
            have Qcf:¬en < tk+y.win:=by simpa using hin
            clear hno hin HTK hup hLf;go_wp2_with fail;go_quiet (fail);have HW1:Hid _:=hnx.out nq;go_wp2;refine⟨⟨k+1,_,rfl,by go_num,by omega,HW1⟩,by simp[intOf];omega⟩
         ·have k1:¬(k:Int) < (fs.length:Int):=by omega
          rw[List.take_of_length_le (by omega)] at hLf hll ⊢;obtain⟨_,hEw,_,_,_⟩:=HX.out wr hLf.out.1;have d0:wr.cell? ⟨b,0,none⟩=some (.slice va qs.length vc):=by simp[World.cell?,hEw.box]
          have Qca:qcu wr (.slice la (qbt y.win en fs).length lc) (qbt y.win en fs):=⟨Qm hLf.out.2.2 (Nat.zero_le _),λp hp=>by
           unfold qbt at hp;obtain⟨f,hf,rfl⟩:=List.mem_map.1 hp
           exact (hEw.facte f (List.mem_filter.1 hf).1).1⟩
          have Qbx:(qbt y.win en fs).map (·.1)=qf3 y.win y.facts en:=by
           unfold qbt qf3;rw[<- hEw.factsm,List.filter_map,List.map_map,List.map_map];rfl
          have hLe:Hid _:=qkp qs (qbt y.win en fs) y.names (.slice va qs.length vc) (.slice la (qbt y.win en fs).length lc) wr hEw.rules Qca hq (by omega) (by rw[hEw.rsm];exact HFI.out.fine) (λp hp=>by
           rw[hEw.rsm];unfold qbt at hp;obtain⟨f,hf,rfl⟩:=List.mem_map.1 hp
           exact HFI.out.gr f.1 (by rw[<- hEw.factsm];exact List.mem_map.2 ⟨f,(List.mem_filter.1 hf).1,rfl⟩))
          have HBG:Hid _:=Qbx;have HRS:Hid (qs.map (·.1)=y.rs):=hEw.rsm;have HBW:Hid (Below X.heap.size X wr):=hLf.out.1;clear Qca Qbx hEw hLf;go_wp2_with fail;refine Calls.mono hLe.out ?_;clear hLe;rintro e' W5 ⟨vm,hs2,rfl,hL5,hI5⟩;obtain⟨ma,mc,hvm⟩:=qn hL5.row;subst hvm;have hb5:Below X.heap.size X W5:=HBW.out.trans (hL5.below.mono HBW.out.size);obtain⟨_,_,n0,n1,hSg⟩:=HX.out W5 hb5;rw[HRS.out,HBG.out] at hI5
          have Qcg:Hid _:=qs9 (.slice ma hs2.length mc) hs2 (g,.slice ga g.args.length gc) W5 hL5.gds hSg (by have:=hI5.1.few HFI.out.fine;rw[List.length_map] at this;omega) (λp hp=>by
           have:=qw3 HFI.out.fine (hI5.1.ok p.1 (List.mem_map.2 ⟨p,hp,rfl⟩));omega)
          have hsb:Hid (inG (hs2.map (·.1)) g=P en):=by
           show _=_;rw[Bool.eq_iff_iff,qs8,HP.out,hI5.2]
          have HB5:Hid (Below X.heap.size X W5):=hb5;clear hL5 hI5 hb5 hSg;go_wp2_with fail;refine Calls.mono Qcg.out ?_;clear Qcg;rintro e' W6 ⟨rfl,hb6⟩;have Qbv:Hid (Below X.heap.size X W6):=HB5.out.trans (hb6.mono HB5.out.size);simp only[hsb.out];clear hsb hb6 n0 n1
          cases hpe:P en with
          | true=>
           rw[hpe,if_pos rfl] at qkk;clear hpe;go_wp2;refine⟨⟨i+1,bst,rfl,by go_num,by omega,hbl,hbh,Qbv,qkk⟩,by simp[intOf];omega⟩
          | false=>
           rw[hpe,if_neg (by decide)] at qkk;clear hpe;go_wp2;refine⟨⟨i+1,en,rfl,by go_num,by omega,by omega,by omega,Qbv,qkk⟩,by simp[intOf];omega⟩
       ·have qkk:Hid (qfi P bst (((fs.drop (i+1)).filter (λf=>f.1.2.2)).map (λf=>f.1.2.1+y.win))=R0):=by
         have h5:=qj5.out;show _=_
         cases bg with
         | false=>simpa using h5
         | true=>
          rw[if_pos rfl,List.map_cons] at h5;unfold qfi at h5;rw[hTM.out,if_pos (by simp at hsk;omega)] at h5;exact h5
        clear qj5
        cases bg with
        | false=>
         clear hsk;go_wp2_with fail
         try go_quiet (fail)
         go_wp2;refine⟨⟨i+1,bst,rfl,by go_num,by omega,hbl,hbh,by first | exact hbq | exact qq hbq.out,qkk⟩,by simp[intOf];omega⟩
        | true=>
         have hge:bst<=tm+y.win:=by simp at hsk;omega
         clear hsk;go_wp2_with fail
         try go_quiet (fail)
         go_wp2;refine⟨⟨i+1,bst,rfl,by go_num,by omega,hbl,hbh,by first | exact hbq | exact qq hbq.out,qkk⟩,by simp[intOf];omega⟩
      ·have i1:¬(i:Int) < (fs.length:Int):=by omega
       rw[List.drop_eq_nil_of_le (by omega)] at qj5;have hb':Hid (bst=R0):=qj5;clear qj5;go_wp2;go_ret2;refine⟨⟨R0,0,HU3.out,?_⟩,by have:=HBX.out _ hbw.out;rw[hN] at this;exact this⟩;rw[<- hb'.out];rfl
   ·have hu:Hid (qqm y s (0,cc)):=HU.out _ (by rw[ho1];simp only[hg1];rw[if_pos (by rw[<- hcc];exact hc0),hcc]);have qsw:(cc == 0)=false:=by simpa using hc0
    clear HU hcc;go_wp2;go_ret2;exact⟨⟨_,hu.out,rfl⟩,HBX.out _ (Below.refl _ _)⟩
def qpm(rs:List Rl)(win lat que:Int)(st:List Gr):Er:=⟨rs,win,lat,que,0,0,[],nmL [] (Qp (qap rs)),st,[]⟩
def qsc(s:ByteArray)(win lat que:Int)(w:Wq)(e:Ending)(w':Wq):Prop:=
 Below w.heap.size w w'/\match qaz s with
 | .error (c,_)=>e=.returned (.tuple #[.pointer none,.int .i64 c])
 | .ok rs=>(qbm win lat que/\∃(b:Nat) (T:Nat->Prop) (st:List Gr),e=.returned (.tuple #[.pointer (some ⟨b,0,none⟩),.int .i64 0])/\qe0 rs [] (nmL [] (Qp (qap rs))) st/\ErM w' T b (qpm rs win lat que st)/\∀k,T k->w.heap.size<=k)\/(¬qbm win lat que/\e=.returned (.tuple #[.pointer none,.int .i64 6]))
theorem q4l(s:ByteArray)(win lat que:Int)(w:Wq)(hs:s.size<=1048576) :
  Calls Tryz.prog 66 #[.string s,.int .i64 win,.int .i64 lat,.int .i64 que] w (qsc s win lat que w):=by
 have hpa:Hid _:=q02 s w hs
 cases hp:qaz s with
 | error cp=>
  obtain⟨c,p⟩:=cp;have hc0:c≠0:=qhv s c p hp
  have hu:qsc s win lat que w=λe w'=>Below w.heap.size w w'/\e=.returned (.tuple #[.pointer none,.int .i64 c]):=by
   funext e w';unfold qsc;rw[hp]
  rw[hu];have hcb:(c == 0)=false:=by simpa using hc0
  have HP:Hid _:=hp;clear hu hp;go_enter Tryz.func66,Tryz.ntmps66;go_wp2_with fail;refine Calls.mono hpa.out ?_;rintro e' W1 ⟨h1,hb1⟩;unfold qcx at h1;rw[HP.out] at h1;subst h1;go_wp2;go_ret2;exact⟨hb1,rfl⟩
 | ok rs=>
  have qfq:=qkr s rs hp
  have hu:qsc s win lat que w=λe w'=>Below w.heap.size w w'/\((qbm win lat que/\∃(b:Nat) (T:Nat->Prop) (st:List Gr),e=.returned (.tuple #[.pointer (some ⟨b,0,none⟩),.int .i64 0])/\qe0 rs [] (nmL [] (Qp (qap rs))) st/\ErM w' T b (qpm rs win lat que st)/\∀k,T k->w.heap.size<=k)\/(¬qbm win lat que/\e=.returned (.tuple #[.pointer none,.int .i64 6]))):=by
   funext e w';unfold qsc;rw[hp]
  rw[hu]
  have q7v:qds rs (nmL [] (Qp (qap rs))):=by
   have h8:=qfq.new.n8 rs.length;rw[List.take_length,qfq.names] at h8;refine qfq.fine _ h8 ?_ (λx hx=>by rw[<- qfq.names];exact hx);have:=qfq.ne;rw[qfq.names] at this;exact this
  have HFI:Hid _:=q7v;have HP:Hid _:=hp;clear hu hp q7v qfq;go_enter Tryz.func66,Tryz.ntmps66;go_wp2_with fail;refine Calls.mono hpa.out ?_;rintro e' W1 ⟨h1,hb1⟩;unfold qcx at h1;rw[HP.out] at h1;obtain⟨v,qs,rfl,hR,hqm,hqo,h8,hsm⟩:=h1;obtain⟨va,vc,rfl⟩:=qd hR.row;have HB1:Hid (Below w.heap.size w W1):=hb1;by_cases ha:qbm win lat que
  ·have HA:Hid (qbm win lat que):=ha;obtain⟨⟨a1,a2⟩,⟨a3,a4⟩,a5,a6⟩:=ha;have hql:qs.length<=1000:=hqo.few;have hnm:Hid _:=qr1 (.slice va qs.length vc) qs W1 hR hqo.few hqo.body hqo.tms (λa ha=>(hqo.args a ha).1);have HR:Hid (qag W1 (.slice va qs.length vc) qs):=hR;have HQ:Hid (qs.map (·.1)=rs):=hqm;have Qev:Qt qs=qap rs:=by rw[qmc,hqm]
   rw[Qev] at hnm;have HQO:Hid (qjz qs):=hqo;clear hR hqm hqo hsm hb1 hpa;go_wp2_with fail;refine Calls.mono hnm.out ?_;rintro e' W2 ⟨vn,rfl,hN2⟩;obtain⟨na,nc,hvn⟩:=qd hN2.own;subst hvn;have hb2:Below W1.heap.size W1 W2:=hN2.below;have hLe:Hid _:=qkp qs [] (nmL [] (Qp (qap rs))) (.slice va qs.length vc) (.slice none 0 0) W2 (HR.out.below hb2) ⟨World.ownsRow_nil _ _ _ _,λp hp=>by cases hp⟩ hql (by simp) (by rw[HQ.out];exact HFI.out) (λp hp=>by cases hp);have HN2:Hid (qf0 W1.heap.size W1 W2 (.slice na (nmL [] (Qp (qap rs))).length nc) (nmL [] (Qp (qap rs)))):=hN2;clear hN2 hnm;go_wp2_with fail;refine Calls.mono hLe.out ?_;rintro e' W3 ⟨vs,hs2,rfl,hL3,hI3⟩;obtain⟨sa,sc,hvs⟩:=qn hL3.row;subst hvs;have HL3:Hid (qe1 [] W2.heap.size W2 W3 (.slice sa hs2.length sc) hs2):=hL3;have HI3:Hid (qe0 rs [] (nmL [] (Qp (qap rs))) (hs2.map (·.1))):=by rw[HQ.out] at hI3;exact hI3
   clear hL3 hI3 hLe hb2;go_wp2;go_ret2;have hb2:Below W1.heap.size W1 W2:=HN2.out.below;have hb3:Below W2.heap.size W2 W3:=HL3.out.below;have hz1:=HB1.out.size;have hz2:=hb2.size;have hz3:=hb3.size;have qw9:Below w.heap.size w W3:=(HB1.out.trans (hb2.mono hz1)).trans (hb3.mono (by omega));refine⟨qw9.alloc qw9.size _,.inl ⟨HA.out,W3.heap.size,λk=>w.heap.size<=k/\k < W3.heap.size+1,hs2.map (·.1),rfl,HI3.out,⟨.slice va qs.length vc,.slice none 0 0,.slice na (nmL [] (Qp (qap rs))).length nc,.slice sa hs2.length sc,.slice none 0 0,qs,[],hs2,[],?_⟩,λk hk=>hk.1⟩⟩;have hbA:∀O,Below W3.heap.size W3 (W3.alloc O):=λO=>(Below.refl _ W3).alloc zl O;have hn3:W3.ownsRow W1.heap.size 9 1 (.slice na (nmL [] (Qp (qap rs))).length nc) (nmL [] (Qp (qap rs))).length ((nmL [] (Qp (qap rs))).map Value.string):=qk HN2.out.own hb3;refine⟨World.alloc_heap_new W3 _,⟨by omega,by omega⟩,λk hk=>by simp;omega,(((HR.out.below hb2).below hb3).below (hbA _)),HQ.out,World.ownsRow_nil _ _ _ _,λg hg=>(by cases hg),rfl,λp hp=>(by cases hp),Qm (qk hn3 (hbA _)) (Nat.zero_le _),λg hg=>?_,⟨Qm (qk HL3.out.row (hbA _)) (Nat.zero_le _),λp hp=>(HL3.out.each p hp).below (hbA _)⟩,λg hg=>?_,rfl,λp hp g hg=>?_,World.ownsRow_nil _ _ _ _,λg hg=>(by cases hg),rfl,λp hp=>(by cases hp),λg hg=>⟨λp hp=>(by cases hp),λp hp e=>?_⟩,λi j p q g hi=>by simp at hi⟩
   ·obtain⟨h5,c,hc⟩:=qe hn3 hg;have:=(zg hc).1;exact⟨by omega,by omega⟩
   ·obtain⟨h5,c,hc⟩:=qe HL3.out.row hg;have:=(zg hc).1;exact⟨by omega,by omega⟩
   ·obtain⟨c,hc⟩:=qi (HL3.out.each p hp) hg;have:=(zg hc).1;rcases HL3.out.loc p hp with h5 | h5
    ·cases h5
    ·have:=h5 g hg;exact⟨by omega,by omega⟩
   ·obtain⟨h5,c,hc⟩:=qe HN2.out.own hg;have:=(zg hc).1;rcases HL3.out.loc p hp with h6 | h6
    ·cases h6
    ·have:=h6 g e;omega
  ·have HA:Hid (¬qbm win lat que):=ha;have q9:Hid (Below w.heap.size w W1):=hb1;clear hR hqm hqo hsm hb1 hpa HFI HP;have hW:¬1<=win\/(1<=win/\¬win<=1000)\/(1<=win/\win<=1000):=by omega
   have hL:¬0<=lat\/(0<=lat/\¬lat<=1000)\/(0<=lat/\lat<=1000):=by omega
   have hQ:¬1<=que\/(1<=que/\¬que<=50)\/(1<=que/\que<=50):=by omega
   rcases hW with x1 | ⟨x1,x2⟩ | ⟨x1,x2⟩ <;> rcases hL with y1 | ⟨y1,y2⟩ | ⟨y1,y2⟩ <;> rcases hQ with z1 | ⟨z1,z2⟩ | ⟨z1,z2⟩
   case inr.inr.inr.inr.inr.inr=>exact absurd ⟨⟨x1,x2⟩,⟨y1,y2⟩,z1,z2⟩ ha
   case inr.inr.inr.inr.inr.inl=>
    clear ha;have d3:decide (que<=50)=false:=by simp;omega
    go_wp2;go_ret2;exact⟨q9.out,.inr ⟨HA.out,rfl⟩⟩
   all_goals (clear ha;go_wp2;go_ret2;exact⟨q9.out,.inr ⟨HA.out,rfl⟩⟩)
theorem qb2.put{T':Nat->Prop}{vf' vs':Vq}{fs':List ((Gr×Int×Bool)×Vq)}{ss':List (Gr×Vq)}(h:qb2 W T b y vr vf vn vs vd qs fs ss ds)(hT:∀k,T k->T' k)(hlt:∀k,T' k->k < W'.heap.size)(hk:∀k,k < W.heap.size->k≠b->W'.heap[k]?=W.heap[k]?)(hrs:y'.rs=y.rs)(hnm:y'.names=y.names)(hfd:y'.feeds=y.feeds)(box:W'.heap[b]?=some (Obj.cells #[vr,.int .i64 y'.win,.int .i64 y'.lat,.int .i64 y'.que,.int .i64 y'.clock,.int .i64 y'.mark,vf',vn,vs',vd] 222))(facts:W'.ownsRow 0 233 4 vf' fs'.length (fs'.flatMap fcC))(factsT:∀g,vf'.ownBlock=some g->T' g)(factsm:fs'.map (·.1)=y'.facts)(facte:∀p∈fs',qu W' p.2 p.1.1.args/\∀g,p.2.ownBlock=some g->T' g)(state:qcu W' vs' ss')(stateT:∀g,vs'.ownBlock=some g->T' g)(statem:ss'.map (·.1)=y'.state)(statee:∀p∈ss',∀g,p.2.ownBlock=some g->T' g)(sepN:∀g,vn.ownBlock=some g->(∀p∈fs',p.2.ownBlock≠some g)/\∀p∈ss',p.2.ownBlock≠some g):qb2 W' T' b y' vr vf' vn vs' vd qs fs' ss' ds:=by
 have hty:∀(k:Nat) (c:Array Vq) (u:TypeId),u≠222->W.heap[k]?=some (Obj.cells c u (0,0))->W'.heap[k]?=W.heap[k]?:=λk c u hu hc=>hk k (zg hc).1 (λe=>by subst e;rw[h.box] at hc;cases hc;exact hu rfl)
 have Q4:∀{B U m n:Nat} {u:Vq} {xs:List Vq},U≠222->W.ownsRow B U m u n xs->W'.ownsRow B U m u n xs:=λhU ho=>qm ho (λg hg' _=>by
  obtain⟨c,hc⟩:=qi ho hg'
  exact hty g c _ hU hc)
 have hrc:∀{v:Vq} {l:List Rc},qke W v l->qke W' v l:=λ{v l} hr=>by
  refine hr.keep (λg hg'=>?_);rcases hr with⟨rfl,_⟩ | ⟨g',off,cap,cur,rfl,h2,_⟩
  ·cases hg'
  ·cases hg'
   exact hty g' cur _ (by decide) h2
 exact⟨box,hT _ h.own,hlt,h.rules.keep (λk c u ht hc=>hty k c u (by rcases ht with rfl | rfl | rfl <;> decide) hc),by rw[hrs];exact h.rsm,facts,factsT,factsm,facte,by rw[hnm];exact Q4 (by decide) h.names,λg hg=>hT _ (h.namesT g hg),state,stateT,statem,statee,Q4 (by decide) h.feeds,λg hg=>hT _ (h.feedsT g hg),by rw[hfd];exact h.feedsm,λp hp=>⟨⟨hrc (h.feede p hp).1.1,λg hg=>hT _ ((h.feede p hp).1.2 g hg)⟩,hrc (h.feede p hp).2.1,λg hg=>hT _ ((h.feede p hp).2.2 g hg)⟩,sepN,h.sepQ⟩
theorem qb2.row(h:qb2 W T b y vr vf vn vs vd qs fs ss ds)(hk:∀k,k < W.heap.size->k≠b->W'.heap[k]?=W.heap[k]?){B U m n:Nat}{u:Vq}{xs:List Vq}(hU:U≠222)(ho:W.ownsRow B U m u n xs):W'.ownsRow B U m u n xs:=
 qm ho (λg hg' hlt=>by
  obtain⟨c,hc⟩:=qi ho hg'
  exact hk g hlt (λe=>by subst e;rw[h.box] at hc;cases hc;exact hU rfl))
theorem qb2.num(h:qb2 W T b y vr vf vn vs vd qs fs ss ds)(hz:W'.heap.size=W.heap.size)(hk:∀k,k≠b->W'.heap[k]?=W.heap[k]?)(hrs:y'.rs=y.rs)(hnm:y'.names=y.names)(hfd:y'.feeds=y.feeds)(hfa:y'.facts=y.facts)(hst:y'.state=y.state)(box:W'.heap[b]?=some (Obj.cells #[vr,.int .i64 y'.win,.int .i64 y'.lat,.int .i64 y'.que,.int .i64 y'.clock,.int .i64 y'.mark,vf,vn,vs,vd] 222)):qb2 W' T b y' vr vf vn vs vd qs fs ss ds:=
 have hk':∀k,k < W.heap.size->k≠b->W'.heap[k]?=W.heap[k]?:=λk _=>hk k
 h.put (λ_=>id) (λk hk'=>by rw[hz];exact h.lt k hk') hk' hrs hnm hfd box (h.row hk' (by decide) h.facts) h.factsT (by rw[hfa];exact h.factsm) (λp hp=>⟨h.row hk' (by decide) (h.facte p hp).1,(h.facte p hp).2⟩) ⟨h.row hk' (by decide) h.state.row,λp hp=>h.row hk' (by decide) (h.state.each p hp)⟩ h.stateT (by rw[hst];exact h.statem) h.statee h.sepN
theorem qao.trans{W1 W2:Wq}{y1 y2:Er}(h:qao T b y1 W W1)(k:∀T1,ErM W1 T1 b y1->qao T1 b y2 W1 W2):qao T b y2 W W2:=by
 obtain⟨⟨T1,h1,h2⟩,h3⟩:=h;obtain⟨⟨T2,k1,k2⟩,k3⟩:=k T1 h1;have hz:=h3.size;refine⟨⟨T2,k1,λj hj=>?_⟩,⟨k3.os.trans h3.os,k3.tape.trans h3.tape,k3.output.trans h3.output,Nat.le_trans h3.size k3.size,λi hi hn=>(k3.block i (Nat.lt_of_lt_of_le hi h3.size) (λe=>?_)).trans (h3.block i hi hn)⟩⟩
 ·rcases k2 j hj with h4 | h4
  ·exact h2 j h4
  ·right;omega
 ·rcases h2 i e with h4 | h4
  ·exact hn h4
  ·omega
def Qa6(W W':Wq):Prop:=∀(k:Nat) (c:Array Vq) (t:TypeId),t≠246->t≠71->W.heap[k]?=some (Obj.cells c t (0,0))->W'.heap[k]?=W.heap[k]?
def qwe(b i:Nat)(was:List Gr)(que m:Int)(st:List Gr):Prop:=∀(W:Wq) (T:Nat->Prop) (y:Er) (f:Fr) (vw:Vq) (sw:List (Gr×Vq)),ErM W T b y->y.feeds[i]?=some f->qcu W vw sw->sw.map (·.1)=was->y.que=que->y.mark=m->y.state=st->
  Calls Tryz.prog 120 #[.pointer (some ⟨b,0,none⟩),.int .i64 (i:Int),vw] W λe w'=>e=.returned (.tuple #[])/\qao T b {y with feeds:=y.feeds.set i (qvf que m was st f)} W w'/\Qa6 W w'
