/- The document's own engine: the clock is moved. -/
import Derived.Test.YtjajnhemgphefaaGreatDoorJWyS
set_option linter.unusedVariables false
set_option linter.unusedSimpArgs false
set_option maxRecDepth 100000
set_option maxHeartbeats 4000000
namespace Go.Proofs.YtjajnhemgphefaaGreatDoor
open Go renaming World->Wq,Value->Vq
open Go.RowKit Go.Shelf
variable {win m:Int} {l ak:List ((Gr×Int×Bool)×Vq)} {W2 X Y W:Wq} {M b:Nat} {vk vw:Vq} {an:List (Gr×Vq)} {T:Nat->Prop} {y:Er}
def qcz(win m:Int)(l:List ((Gr×Int×Bool)×Vq)):List ((Gr×Int×Bool)×Vq):=(l.filter (λf=>!decide (f.1.2.1+win<=m))).map (λf=>((f.1.1,f.1.2.1,decide (f.1.2.1<=m)),f.2))
def qhc(win m:Int)(l:List ((Gr×Int×Bool)×Vq)):List (Gr×Vq):=((qcz win m l).filter (λf=>f.1.2.2)).map (λf=>(f.1.1,f.2))
theorem qpe(win m:Int)(l:List ((Gr×Int×Bool)×Vq)){k:Nat}(h:k < l.length):qcz win m (l.take (k+1))=qcz win m (l.take k)++(if l[k].1.2.1+win<=m then [] else [((l[k].1.1,l[k].1.2.1,decide (l[k].1.2.1<=m)),l[k].2)]):=by
 unfold qcz;rw[List.take_succ_eq_append_getElem h,List.filter_append,List.map_append];congr 1;by_cases hb:l[k].1.2.1+win<=m
 ·rw[if_pos hb,List.filter_cons,if_neg (by simpa using hb)];rfl
 ·rw[if_neg hb,List.filter_cons,if_pos (by simpa using hb)];rfl
theorem q0z(win m:Int)(l:List ((Gr×Int×Bool)×Vq)){k:Nat}(h:k < l.length):qhc win m (l.take (k+1))=qhc win m (l.take k)++(if l[k].1.2.1+win<=m then [] else if l[k].1.2.1<=m then [(l[k].1.1,l[k].2)] else []):=by
 unfold qhc;rw[qpe win m l h,List.filter_append,List.map_append];congr 1;by_cases hb:l[k].1.2.1+win<=m
 ·rw[if_pos hb,if_pos hb];rfl
 ·rw[if_neg hb,if_neg hb];by_cases hc:l[k].1.2.1<=m
  ·rw[if_pos hc,List.filter_cons,if_pos (by simpa using hc)];rfl
  ·rw[if_neg hc,List.filter_cons,if_neg (by simpa using hc)];rfl
theorem qrs(win m:Int)(l:List ((Gr×Int×Bool)×Vq)):(qcz win m l).length<=l.length:=by unfold qcz;rw[List.length_map];exact List.length_filter_le _ _
theorem q4n(win m:Int)(l:List ((Gr×Int×Bool)×Vq)):(qhc win m l).length<=l.length:=by
 unfold qhc;rw[List.length_map];exact Nat.le_trans (List.length_filter_le _ _) (qrs win m l)
theorem qrt(win m:Int)(l:List ((Gr×Int×Bool)×Vq)):(qcz win m l).map (·.1)=qfu win m (l.map (·.1)):=by
 unfold qcz qfu;rw[List.filter_map,List.map_map,List.map_map];rfl
theorem q4o(win m:Int)(l:List ((Gr×Int×Bool)×Vq)):(qhc win m l).map (·.1)=qxy win m (l.map (·.1)):=by
 unfold qhc qxy;rw[<- qrt,List.filter_map,List.map_map,List.map_map];rfl
theorem qmu{p:(Gr×Int×Bool)×Vq}(h:p∈qcz win m l):∃q∈l,q.1.1=p.1.1/\q.2=p.2:=by
 unfold qcz at h;obtain⟨q,hq,rfl⟩:=List.mem_map.1 h;exact⟨q,(List.mem_filter.1 hq).1,rfl,rfl⟩
theorem qvi{p:Gr×Vq}(h:p∈qhc win m l):∃q∈l,q.1.1=p.1/\q.2=p.2:=by
 unfold qhc at h;obtain⟨f,hf,rfl⟩:=List.mem_map.1 h;exact qmu (List.mem_filter.1 hf).1
structure qbl(W2:Wq)(M:Nat)(X:Wq)(vk vw:Vq)(ak:List ((Gr×Int×Bool)×Vq))(an:List (Gr×Vq)):Prop where
 below:Below W2.heap.size W2 X
 size:M<=X.heap.size
 kept:X.ownsRow M 233 4 vk ak.length (ak.flatMap fcC)
 now:X.ownsRow M 226 2 vw an.length (an.flatMap gdC)
theorem qbl.keep(h:qbl W2 M X vk vw ak an)(hb:Below X.heap.size X Y):qbl W2 M Y vk vw ak an:=
 ⟨h.below.trans (hb.mono h.below.size),Nat.le_trans h.size hb.size,qk h.kept hb,qk h.now hb⟩
theorem qbl.set(h:qbl W2 M X vk vw ak an)(hM:W2.heap.size=M)(a:Addr)(v:Vq)(ha:M<=a.block)(h1:vk.ownBlock≠some a.block)(h2:vw.ownBlock≠some a.block):qbl W2 M (X.setCell a v) vk vw ak an:=
 ⟨h.below.setCell (by omega) v,by simpa using h.size,Qn h.kept a v (λg hg e=>h1 (by rw[<- e];exact hg)),Qn h.now a v (λg hg e=>h2 (by rw[<- e];exact hg))⟩
theorem qbl.addK{vk':Vq}(h:qbl W2 M X vk vw ak an)(hM:W2.heap.size=M)(p:(Gr×Int×Bool)×Vq){O:Obj}(hg:(X.alloc O).grownBy Y vk.ownBlock)(ho:Y.ownsRow M 233 4 vk' (ak.length+1) (ak.flatMap fcC++fcC p)):qbl W2 M Y vk' vw (ak++[p]) an:=by
 refine⟨(h.below.alloc h.below.size O).grown hg (by have:=h.below.size;simp;omega) (λk e=>by have:=(qe h.kept e).1;omega),by have:=hg.size;have:=h.size;simp at *;omega,?_,qm h.now (λg hg' hlt=>(hg.block g (by simp;omega) (λe=>?_)).trans (Below.heap_alloc X O g hlt))⟩
 ·rw[List.length_append,List.flatMap_append];simpa using ho
 ·obtain⟨c,hc⟩:=qi h.kept e.symm;obtain⟨c',hc'⟩:=qi h.now hg';rw[hc] at hc';cases hc'
theorem qbl.addN{vw':Vq}(h:qbl W2 M X vk vw ak an)(hM:W2.heap.size=M)(p:Gr×Vq){O:Obj}(hg:(X.alloc O).grownBy Y vw.ownBlock)(ho:Y.ownsRow M 226 2 vw' (an.length+1) (an.flatMap gdC++gdC p)):qbl W2 M Y vk vw' ak (an++[p]):=by
 refine⟨(h.below.alloc h.below.size O).grown hg (by have:=h.below.size;simp;omega) (λk e=>by have:=(qe h.now e).1;omega),by have:=hg.size;have:=h.size;simp at *;omega,qm h.kept (λg hg' hlt=>(hg.block g (by simp;omega) (λe=>?_)).trans (Below.heap_alloc X O g hlt)),?_⟩
 ·obtain⟨c,hc⟩:=qi h.now e.symm;obtain⟨c',hc'⟩:=qi h.kept hg';rw[hc] at hc';cases hc'
 ·rw[List.length_append,List.flatMap_append];simpa using ho
def qeh(y:Er)(ck:Int)(st:List Gr)(i:Nat):Er:={y with clock:=ck,mark:=ck - y.lat,facts:=qfu y.win (ck - y.lat) y.facts,state:=st,feeds:=(y.feeds.take i).map (qvf y.que (ck - y.lat) y.state st)++y.feeds.drop i}
theorem qao.trans'{W1:Wq}{T1:Nat->Prop}{y1 y2:Er}(h:(ErM W1 T1 b y1/\∀k,T1 k->T k\/W.heap.size<=k)/\Chg W W1 T)(k:qao T1 b y2 W1 W2):qao T b y2 W W2:=by
 obtain⟨⟨h1,h2⟩,h3⟩:=h;obtain⟨⟨T2,k1,k2⟩,k3⟩:=k;have hz:=h3.size;refine⟨⟨T2,k1,λj hj=>?_⟩,⟨k3.os.trans h3.os,k3.tape.trans h3.tape,k3.output.trans h3.output,Nat.le_trans h3.size k3.size,λi hi hn=>(k3.block i (Nat.lt_of_lt_of_le hi h3.size) (λe=>?_)).trans (h3.block i hi hn)⟩⟩
 ·rcases k2 j hj with h4 | h4
  ·exact h2 j h4
  ·right;omega
 ·rcases h2 i e with h4 | h4
  ·exact hn h4
  ·omega
def qkf(T:Nat->Prop)(b:Nat)(y:Er)(c:Int)(W:Wq)(e:Ending)(w':Wq):Prop:=∃y' r,qm8 y c y' r/\e=.returned (.tuple #[.int .i64 r.1,.int .i64 r.2])/\qao T b y' W w'
theorem qkf.mk{c:Int}{e:Ending}{w':Wq}(y':Er)(r:Int×Int)(h:qm8 y c y' r)(he:e=.returned (.tuple #[.int .i64 r.1,.int .i64 r.2]))(hp:qao T b y' W w'):qkf T b y c W e w':=⟨y',r,h,he,hp⟩
theorem q1m{vr vf vn vs vd:Vq}{qs:List (Rl×Vq×Vq)}{fs:List ((Gr×Int×Bool)×Vq)}{ss:List (Gr×Vq)}{ds:List (Fr×Vq×Vq)}(h:qb2 W T b y vr vf vn vs vd qs fs ss ds)(hz:qwc y)(hfi:qoc y)(c:Int)(hmv:∀i,i < y.feeds.length->∀m st,qwe b i y.state y.que m st) :
  Calls Tryz.prog 68 #[.pointer (some ⟨b,0,none⟩),.int .i64 c] W (qkf T b y c W):=by
 obtain⟨va,vc,hvr⟩:=qd h.rules.row;obtain⟨fa,fc,hvf⟩:=qd h.facts;obtain⟨sa,sc,hvs⟩:=qd h.state.row;obtain⟨da,dc,hvd⟩:=qd h.feeds;subst hvr hvf hvs hvd;have qsv:b < W.heap.size:=h.lt b h.own;have HH:Hid (qb2 W T b y (.slice va qs.length vc) (.slice fa fs.length fc) vn (.slice sa ss.length sc) (.slice da ds.length dc) qs fs ss ds):=h;have q2:W.cell? ⟨b,2,none⟩=some (.int .i64 y.lat):=by simp[World.cell?,h.box]
 have q4:W.cell? ⟨b,4,none⟩=some (.int .i64 y.clock):=by simp[World.cell?,h.box]
 have q5:W.cell? ⟨b,5,none⟩=some (.int .i64 y.mark):=by simp[World.cell?,h.box]
 have z4:W.frozen? ⟨b,4,none⟩=false:=by simp[World.frozen?,h.box]
 have hcl:=hz.clock;have hla:=hz.lat;have hma:=hz.mark;have hwi:=hz.win;have HZ:Hid (qwc y):=hz;have HFI:Hid (qoc y):=hfi;have HMV:Hid (∀i,i < y.feeds.length->∀m st,qwe b i y.state y.que m st):=hmv;clear h hz hfi hmv;by_cases hc:0<=c/\c<=1000000
 ·have t0:¬c < 0:=by omega
  have t1:¬1000000 < c:=by omega
  obtain⟨ck,hck⟩:∃ck,qd6 y c=ck:=⟨_,rfl⟩;have Qgr:0<=ck/\ck<=1000000:=by rw[<- hck];unfold qd6;split <;> omega
  have HT:Hid (∀y' r,((ck - y.lat<=y.mark/\y'={y with clock:=ck}/\r=(y.mark,0))\/(y.mark < ck - y.lat/\r=(ck - y.lat,0)/\∃st,qe0 y.rs (qxy y.win (ck - y.lat) y.facts) y.names st/\y'={y with clock:=ck,mark:=ck - y.lat,facts:=qfu y.win (ck - y.lat) y.facts,state:=st,feeds:=y.feeds.map (qvf y.que (ck - y.lat) y.state st)}))->qm8 y c y' r):=λy' r hh=>.inr ⟨hc,by rw[hck];exact hh⟩;obtain⟨y0,hy0⟩:∃y0:Er,{y with clock:=ck}=y0:=⟨_,rfl⟩;obtain⟨W0,hW0⟩:∃W0,(if y.clock < c then W.setCell ⟨b,4,none⟩ (.int .i64 ck) else W)=W0:=⟨_,rfl⟩
  have hE0:qb2 W0 T b y0 (.slice va qs.length vc) (.slice fa fs.length fc) vn (.slice sa ss.length sc) (.slice da ds.length dc) qs fs ss ds/\Chg W W0 T:=by
   rw[<- hW0,<- hy0];by_cases hgt:y.clock < c
   ·rw[if_pos hgt];exact⟨HH.out.num (by simp) (λk hk=>Below.heap_setCell W ⟨b,4,none⟩ _ k hk) rfl rfl rfl rfl rfl (Qi HH.out.box 4 _),(Chg.refl W T).setCell _ _ (λ_=>HH.out.own)⟩
   ·rw[if_neg hgt];have he:ck=y.clock:=by rw[<- hck];unfold qd6;rw[if_neg hgt]
    rw[he];exact⟨HH.out,Chg.refl W T⟩
  have HE0:Hid _:=hE0;have p2:W0.cell? ⟨b,2,none⟩=some (.int .i64 y.lat):=by rw[<- hy0] at hE0;simp[World.cell?,hE0.1.box]
  have p4:W0.cell? ⟨b,4,none⟩=some (.int .i64 ck):=by rw[<- hy0] at hE0;simp[World.cell?,hE0.1.box]
  have p5:W0.cell? ⟨b,5,none⟩=some (.int .i64 y.mark):=by rw[<- hy0] at hE0;simp[World.cell?,hE0.1.box]
  have p8:W0.cell? ⟨b,8,none⟩=some (.slice sa ss.length sc):=by simp[World.cell?,hE0.1.box]
  have y5:W0.frozen? ⟨b,5,none⟩=false:=by simp[World.frozen?,hE0.1.box]
  have HCK:Hid (qd6 y c=ck):=hck
  have qo2:(y.clock < c/\ck=c/\W.setCell ⟨b,4,none⟩ (.int .i64 ck)=W0)\/(¬y.clock < c/\y.clock=ck/\W=W0/\¬ck < c):=by
   rw[<- hW0,<- hck];unfold qd6;by_cases hgt:y.clock < c
   ·rw[if_pos hgt,if_pos hgt];exact .inl ⟨hgt,rfl,rfl⟩
   ·rw[if_neg hgt,if_neg hgt];exact .inr ⟨hgt,rfl,rfl,hgt⟩
  clear hck hE0 hc hW0;go_enter Tryz.func68,Tryz.ntmps68;rcases qo2 with⟨hgt,rfl,hW0⟩ | ⟨hgt,hce,rfl,hgt2⟩
  all_goals go_wp2_with fail
  all_goals go_quiet (fail)
  have hE1:qb2 (W0.drewN nq) T b y0 (.slice va qs.length vc) (.slice fa fs.length fc) vn (.slice sa ss.length sc) (.slice da ds.length dc) qs fs ss ds/\Chg W (W0.drewN nq) T:=⟨HE0.out.1.below (qq (Below.refl _ _)),HE0.out.2.trans (Chg.ofBelow _ (qq (Below.refl _ _)))⟩;clear q2 q4 q5 z4 p2 p4 p5 p8 y5 HE0;generalize W0.drewN nq=W1 at *;clear hW0
  rotate_left 1
  have hE1:qb2 (W.drewN nq) T b y0 (.slice va qs.length vc) (.slice fa fs.length fc) vn (.slice sa ss.length sc) (.slice da ds.length dc) qs fs ss ds/\Chg W (W.drewN nq) T:=⟨HE0.out.1.below (qq (Below.refl _ _)),HE0.out.2.trans (Chg.ofBelow _ (qq (Below.refl _ _)))⟩;clear q2 q4 q5 z4 p2 p4 p5 p8 y5 HE0 hgt2 hce;generalize W.drewN nq=W1 at *
  all_goals (
   have HE1:Hid _:=hE1;have p2:W1.cell? ⟨b,2,none⟩=some (.int .i64 y.lat):=by rw[<- hy0] at hE1;simp[World.cell?,hE1.1.box]
   have p4:W1.cell? ⟨b,4,none⟩=some (.int .i64 ck):=by rw[<- hy0] at hE1;simp[World.cell?,hE1.1.box]
   have p5:W1.cell? ⟨b,5,none⟩=some (.int .i64 y.mark):=by rw[<- hy0] at hE1;simp[World.cell?,hE1.1.box]
   have z5:W1.frozen? ⟨b,5,none⟩=false:=by simp[World.frozen?,hE1.1.box]
   have qcg:=hE1.1.box;rw[<- hy0] at qcg;clear hE1;by_cases hle:ck - y.lat<=y.mark
   ·have hT:Hid (qm8 y _ y0 (y.mark,0)):=HT.out y0 (y.mark,0) (.inl ⟨hle,hy0.symm,rfl⟩);have hP:Hid (qao T b y0 W W1):=⟨⟨T,⟨_,_,_,_,_,_,_,_,_,HE1.out.1⟩,λk hk=>.inl hk⟩,HE1.out.2⟩;go_wp2;go_ret2;exact qkf.mk y0 (y.mark,0) hT.out rfl hP.out
   ·have hmb:0<=ck - y.lat/\ck - y.lat<=1000000/\y.mark < ck - y.lat:=by omega
    obtain⟨W2,hW2⟩:∃W2,(W1.setCell ⟨b,5,none⟩ (.int .i64 (ck - y.lat))).drew=W2:=⟨_,rfl⟩;obtain⟨y1,hy1⟩:∃y1:Er,{y with clock:=ck,mark:=ck - y.lat}=y1:=⟨_,rfl⟩
    have qkl:W2.heap[b]?=some (Obj.cells #[.slice va qs.length vc,.int .i64 y.win,.int .i64 y.lat,.int .i64 y.que,.int .i64 ck,.int .i64 (ck - y.lat),.slice fa fs.length fc,vn,.slice sa ss.length sc,.slice da ds.length dc] 222):=by
     rw[<- hW2];exact Qi (w:=W1) qcg 5 _
    have hE2:qb2 W2 T b y1 (.slice va qs.length vc) (.slice fa fs.length fc) vn (.slice sa ss.length sc) (.slice da ds.length dc) qs fs ss ds/\Chg W W2 T:=by
     refine⟨HE1.out.1.num (by rw[<- hW2];show (W1.setCell _ _).heap.size=_;simp) (λk hk=>by rw[<- hW2];exact Below.heap_setCell W1 ⟨b,5,none⟩ _ k hk) (by rw[<- hy1,<- hy0]) (by rw[<- hy1,<- hy0]) (by rw[<- hy1,<- hy0]) (by rw[<- hy1,<- hy0]) (by rw[<- hy1,<- hy0]) (by rw[<- hy1];exact qkl),?_⟩;rw[<- hW2];exact (HE1.out.2.setCell _ _ (λ_=>HH.out.own)).drew
    have HE2:Hid _:=hE2;have s2:W1.drew.cell? ⟨b,2,none⟩=some (.int .i64 y.lat):=p2;have s4:W1.drew.cell? ⟨b,4,none⟩=some (.int .i64 ck):=p4;have r2:W2.cell? ⟨b,2,none⟩=some (.int .i64 y.lat):=by simp[World.cell?,qkl]
    have r4:W2.cell? ⟨b,4,none⟩=some (.int .i64 ck):=by simp[World.cell?,qkl]
    have r8:W2.cell? ⟨b,8,none⟩=some (.slice sa ss.length sc):=by simp[World.cell?,qkl]
    have hwr:IntKind.i64.wrap (ck - y.lat)=ck - y.lat:=qh0 _ (by omega) (by omega);have HX0:Hid (∀Y,Below W2.heap.size W2 Y->qb2 Y T b y1 (.slice va qs.length vc) (.slice fa fs.length fc) vn (.slice sa ss.length sc) (.slice da ds.length dc) qs fs ss ds/\Chg W Y T):=λY hY=>⟨HE2.out.1.below hY,HE2.out.2.trans (Chg.ofBelow _ hY)⟩;have q7x:fs.length<=24:=by have:=HZ.out.f24;rw[<- HH.out.factsm,List.length_map] at this;exact this
    have HC:Hid (∀Y,Below W2.heap.size W2 Y->Y.cell? ⟨b,6,none⟩=some (.slice fa fs.length fc)/\Y.cell? ⟨b,1,none⟩=some (.int .i64 y.win)/\Y.cell? ⟨b,5,none⟩=some (.int .i64 (ck - y.lat))):=λY hY=>by
     obtain⟨h2,_⟩:=HX0.out Y hY;have hb:=h2.box;rw[<- hy1] at hb;exact⟨by simp[World.cell?,hb],by simp[World.cell?,hb],by simp[World.cell?,hb]⟩
    have HF:Hid (∀Y,Below W2.heap.size W2 Y->∀(k:Nat) (hk:k < fs.length),∃(gf:Nat) (u1:Option Addr) (u2:Nat),fa=some ⟨gf,0,none⟩/\fs[k].2=.slice u1 fs[k].1.1.args.length u2/\Y.cell? ⟨gf,k*4,none⟩=some (.string fs[k].1.1.rel)/\Y.cell? ⟨gf,k*4+1,none⟩=some (.slice u1 fs[k].1.1.args.length u2)/\Y.cell? ⟨gf,k*4+2,none⟩=some (.int .i64 fs[k].1.2.1)/\Y.cell? ⟨gf,k*4+3,none⟩=some (.bool fs[k].1.2.2)/\0<=fs[k].1.2.1/\fs[k].1.2.1<=1000000):=λY hY k hk=>by
     obtain⟨h2,_⟩:=HX0.out Y hY;obtain⟨gf,cap,e1,_,_,_,e2⟩:=qbq h2.facts (λ_=>rfl) (by omega);obtain⟨s1,_⟩:=h2.facte fs[k] (List.getElem_mem hk);obtain⟨u1,u2,e3⟩:=qd s1;have hz1:=(HZ.out.facts fs[k].1 (by rw[<- HH.out.factsm];exact List.mem_map.2 ⟨_,List.getElem_mem hk,rfl⟩)).2;have e4:=e2 k 1 hk _ (by decide) rfl;rw[e3] at e4;simp only[Value.slice.injEq] at e1;exact⟨gf,u1,u2,e1.1,e3,e2 k 0 hk _ (by decide) rfl,e4,e2 k 2 hk _ (by decide) rfl,e2 k 3 hk _ (by decide) rfl,hz1⟩
    clear hE2 qkl qcg hle;go_wp2_with fail
    (go_region_held3 (λw'=>w'.cell? ⟨b,2,none⟩=some (.int .i64 y.lat)/\w'.cell? ⟨b,4,none⟩=some (.int .i64 ck)) (first | with_reducible exact⟨s2,s4⟩ | with_reducible exact⟨r2,r4⟩ | with_reducible assumption) (go_simp))
    obtain⟨M,hM⟩:∃M,W2.heap.size=M:=⟨_,rfl⟩;have h00:Hid (qbl W2 M W2 (.slice none 0 0) (.slice none 0 0) (qcz y.win (ck - y.lat) (fs.take 0)) (qhc y.win (ck - y.lat) (fs.take 0))):=⟨Below.refl _ _,by omega,World.ownsRow_nil _ _ _ _,World.ownsRow_nil _ _ _ _⟩;obtain⟨i0,hi,hz0,hz1,hz2⟩:=info_parts Tryz.infoGround;obtain⟨j0,hj,Qde,Qdf,Qdg⟩:=info_parts Tryz.infoFact;have HMM:Hid (W2.heap.size=M):=hM;clear s2 s4 r2 r4 p2 p4 p5 z5 hM;go_wp2_with fail
    go_loopw [7,8,9] (λo1 o2 p wr=>∃(i:Nat) (vk vw:Vq),vk=o1/\vw=o2/\p=.int .i64 i/\i<=fs.length/\Hid (qbl W2 M wr vk vw (qcz y.win (ck - y.lat) (fs.take i)) (qhc y.win (ck - y.lat) (fs.take i)))) (λ_ _ p _=>fs.length - (intOf p).toNat)
    case atStart=>exact⟨0,_,_,rfl,rfl,rfl,Nat.zero_le _,h00⟩
    case round=>
     clear h00;obtain⟨i,vk,vw,rfl,rfl,rfl,hle,hst⟩:=hrel;obtain⟨ka,kc,hvk⟩:=qn hst.out.kept;obtain⟨wa,wc,hvw⟩:=qn hst.out.now;subst hvk hvw;obtain⟨d6,d1,d5⟩:=HC.out wr hst.out.below;have hkl:=qrs y.win (ck - y.lat) (fs.take i);have hnl:=q4n y.win (ck - y.lat) (fs.take i);rw[List.length_take] at hkl hnl;by_cases hlt:i < fs.length
     ·have i1:(i:Int) < (fs.length:Int):=by omega
      obtain⟨gf,u1,u2,hfa,e3,f0,f1,f2,f3,ht0,ht1⟩:=HF.out wr hst.out.below i hlt;have hkt:=qpe y.win (ck - y.lat) fs hlt;have hnt:=q0z y.win (ck - y.lat) fs hlt;rw[e3] at hkt hnt;obtain⟨gk,hgk⟩:∃gk,fs[i].1.1=gk:=⟨_,rfl⟩;obtain⟨tk,htk⟩:∃tk,fs[i].1.2.1=tk:=⟨_,rfl⟩;obtain⟨bk,hbk⟩:∃bk,fs[i].1.2.2=bk:=⟨_,rfl⟩;rw[hgk,htk] at hkt hnt;rw[hgk] at f0 f1;rw[htk] at f2 ht0 ht1;rw[hbk] at f3;have HKT:Hid _:=hkt;have HNT:Hid _:=hnt;clear hkt hnt hgk htk hbk e3;subst hfa;generalize qcz y.win (ck - y.lat) (fs.take i)=ak at *;generalize qhc y.win (ck - y.lat) (fs.take i)=an at *;obtain⟨W3,hW3⟩:∃W3,wr.alloc (.cells #[.string gk.rel,.slice u1 gk.args.length u2,.int .i64 tk,.bool bk] 233)=W3:=⟨_,rfl⟩;obtain⟨NB,hNB⟩:∃NB,wr.heap.size=NB:=⟨_,rfl⟩;have hb3:Below wr.heap.size wr W3:=by rw[<- hW3];exact (Below.refl _ wr).alloc zl _
      have qn2:Hid (qbl W2 M W3 (.slice ka ak.length kc) (.slice wa an.length wc) ak an):=hst.out.keep hb3
      have hnk:Hid ((Value.slice ka ak.length kc).ownBlock≠some NB/\(Value.slice wa an.length wc).ownBlock≠some NB/\M<=NB):=by
       refine⟨λe=>?_,λe=>?_,by have:=hst.out.size;omega⟩
       ·obtain⟨c,hc⟩:=qi hst.out.kept e;have:=(zg hc).1;omega
       ·obtain⟨c,hc⟩:=qi hst.out.now e;have:=(zg hc).1;omega
      have hB3:W3.heap[NB]?=some (Obj.cells #[.string gk.rel,.slice u1 gk.args.length u2,.int .i64 tk,.bool bk] 233):=by rw[<- hW3,<- hNB];exact World.alloc_heap_new wr _
      have g2:W3.cell? ⟨NB,2,none⟩=some (.int .i64 tk):=by simp[World.cell?,hB3]
      obtain⟨_,c1,c5⟩:=HC.out W3 qn2.out.below;have HB3:Hid _:=hB3;have hww:IntKind.i64.wrap (tk+y.win)=tk+y.win:=qh0 _ (by omega) (by omega);clear hst hb3 hB3;go_wp2_with fail;go_quiet (fail);have qu2:Hid (qbl W2 M (W3.drewN nq) (.slice ka ak.length kc) (.slice wa an.length wc) ak an):=qn2.out.keep (qq (Below.refl _ _));have HB4:Hid ((W3.drewN nq).heap[NB]?=some (Obj.cells #[.string gk.rel,.slice u1 gk.args.length u2,.int .i64 tk,.bool bk] 233)):=HB3.out;generalize W3.drewN nq=W4 at *;clear g2 c1 c5 d6 d1 d5 f0 f1 f2 f3 hW3 hNB qn2 HB3;by_cases hov:tk+y.win<=ck - y.lat
      ·have hnx:Hid (qbl W2 M W4 (.slice ka ak.length kc) (.slice wa an.length wc) (qcz y.win (ck - y.lat) (fs.take (i+1))) (qhc y.win (ck - y.lat) (fs.take (i+1)))):=by
        have h5:=HKT.out;have h6:=HNT.out;rw[if_pos hov,List.append_nil] at h5 h6;rw[h5,h6];exact qu2.out
       clear HKT HNT;go_wp2;refine⟨⟨i+1,_,_,rfl,rfl,by go_num,by omega,hnx⟩,by simp[intOf];omega⟩
      ·rw[if_neg hov] at HKT HNT;have g2:W4.cell? ⟨NB,2,none⟩=some (.int .i64 tk):=by simp[World.cell?,HB4.out]
       have g3:W4.cell? ⟨NB,3,none⟩=some (.bool bk):=by simp[World.cell?,HB4.out]
       have z3:W4.frozen? ⟨NB,3,none⟩=false:=by simp[World.frozen?,HB4.out]
       obtain⟨_,c1,c5⟩:=HC.out W4 qu2.out.below;have w2':W4.drew.cell? ⟨NB,2,none⟩=some (.int .i64 tk):=g2;have w5':W4.drew.cell? ⟨b,5,none⟩=some (.int .i64 (ck - y.lat)):=c5;obtain⟨bb,hbb⟩:∃bb,decide (tk<=ck - y.lat)=bb:=⟨_,rfl⟩;obtain⟨W5,hW5⟩:∃W5,(W4.setCell ⟨NB,3,none⟩ (.bool bb)).drew=W5:=⟨_,rfl⟩
       have qn3:Hid (qbl W2 M W5 (.slice ka ak.length kc) (.slice wa an.length wc) ak an):=by
        rw[<- hW5];exact (qu2.out.set HMM.out ⟨NB,3,none⟩ _ hnk.out.2.2 hnk.out.1 hnk.out.2.1).keep (Below.refl _ _).drew
       have hB5:W5.heap[NB]?=some (Obj.cells #[.string gk.rel,.slice u1 gk.args.length u2,.int .i64 tk,.bool bb] 233):=by rw[<- hW5];exact Qi (w:=W4) HB4.out 3 _
       have x0:W5.cell? ⟨NB,0,none⟩=some (.string gk.rel):=by simp[World.cell?,hB5]
       have x1:W5.cell? ⟨NB,1,none⟩=some (.slice u1 gk.args.length u2):=by simp[World.cell?,hB5]
       have x2:W5.cell? ⟨NB,2,none⟩=some (.int .i64 tk):=by simp[World.cell?,hB5]
       have x3:W5.cell? ⟨NB,3,none⟩=some (.bool bb):=by simp[World.cell?,hB5]
       obtain⟨_,_,x5⟩:=HC.out W5 qn3.out.below;have HB5:Hid _:=hB5;have Qbm:Hid (qcz y.win (ck - y.lat) (fs.take (i+1))=ak++[((gk,tk,bb),.slice u1 gk.args.length u2)]):=by rw[<- hbb];exact HKT.out
       clear qu2 hB5 HB4 HKT;go_wp2_with fail
       (go_region_held3 (λw'=>w'.cell? ⟨NB,2,none⟩=some (.int .i64 tk)/\w'.cell? ⟨b,5,none⟩=some (.int .i64 (ck - y.lat))) (first | with_reducible exact⟨w2',w5'⟩ | with_reducible exact⟨x2,x5⟩ | with_reducible assumption) (go_simp))
       clear w2' w5' c1 c5 g2 g3 z3
       cases bb with
       | true=>
        have hbe:tk<=ck - y.lat:=by simpa using hbb
        rw[if_pos hbe] at HNT;clear hbb;have hkN:Hid (W5.ownsRow M 226 2 (.slice wa an.length wc) an.length (an.flatMap gdC)):=qn3.out.now;have hz5:Hid (∀O,M<=(W5.alloc O).heap.size):=λO=>by have:=qn3.out.size;simp;omega
        have hA1:Hid (∀(Y:Wq) (v':Vq) (O:Obj),(W5.alloc O).grownBy Y (Value.slice wa an.length wc).ownBlock->Y.ownsRow M 226 2 v' (an.length+1) (an.flatMap gdC++[.string gk.rel,.slice u1 gk.args.length u2])->qbl W2 M Y (.slice ka ak.length kc) v' ak (an++[(gk,.slice u1 gk.args.length u2)])/\Y.cell? ⟨NB,0,none⟩=some (.string gk.rel)/\Y.cell? ⟨NB,1,none⟩=some (.slice u1 gk.args.length u2)/\Y.cell? ⟨NB,2,none⟩=some (.int .i64 tk)/\Y.cell? ⟨NB,3,none⟩=some (.bool true)):=λY v' O hg ho=>by
         have q9p:NB < W5.heap.size:=(zg HB5.out).1;have h9:=((hg.block NB (by simp;omega) (λe=>hnk.out.2.1 e.symm)).trans (Below.heap_alloc W5 O NB q9p)).trans HB5.out;exact⟨qn3.out.addN HMM.out (gk,.slice u1 gk.args.length u2) hg ho,by simp[World.cell?,h9],by simp[World.cell?,h9],by simp[World.cell?,h9],by simp[World.cell?,h9]⟩
        have hA3:Hid (∀(X:Wq) (vw':Vq),qbl W2 M X (.slice ka ak.length kc) vw' ak (an++[(gk,.slice u1 gk.args.length u2)])->∀(Y:Wq) (v':Vq) (O:Obj),(X.alloc O).grownBy Y (Value.slice ka ak.length kc).ownBlock->Y.ownsRow M 233 4 v' (ak.length+1) (ak.flatMap fcC++[.string gk.rel,.slice u1 gk.args.length u2,.int .i64 tk,.bool true])->qbl W2 M Y v' vw' (qcz y.win (ck - y.lat) (fs.take (i+1))) (qhc y.win (ck - y.lat) (fs.take (i+1)))):=λX vw' hX Y v' O hg ho=>by
         rw[Qbm.out,HNT.out];exact hX.addK HMM.out ((gk,tk,true),.slice u1 gk.args.length u2) hg ho
        go_wp2_with (first | (at_builtin;refine wpList_append_own _ rfl _ _ 217 rfl M 226 i0 _ 2 40 Tryz.underlying217 hi hz0 hz1 hz2 rfl (by decide) _ an.length (an.flatMap gdC) rfl (hkN.out.alloc _) ⟨W5.heap.size,0,none⟩ 1 _ [.string gk.rel,.slice u1 gk.args.length u2] rfl rfl (qed _ _ _ _) (by simp[Value.oneCell']) (by unfold maxLen;omega) (by omega) (hz5.out _) ?_;intro vx' w1 ho1 hg1 _;obtain⟨Qa2,o0,o1,o2,o3⟩:=hA1.out _ _ _ hg1 ho1;have HS6:Hid (qbl W2 M w1 (.slice ka ak.length kc) vx' ak (an++[(gk,.slice u1 gk.args.length u2)])):=Qa2;clear Qa2;clear ho1 hg1) | (at_builtin;refine wpList_append_own _ rfl _ _ 219 rfl M 233 j0 _ 4 56 Tryz.underlying219 hj Qde Qdf Qdg rfl (by decide) _ ak.length (ak.flatMap fcC) rfl (World.ownsRow.alloc HS6.out.kept _) ⟨w1.heap.size,0,none⟩ 1 _ [.string gk.rel,.slice u1 gk.args.length u2,.int .i64 tk,.bool true] rfl rfl (qbz _ _ _ _ _ _) (by simp[Value.oneCell']) (by unfold maxLen;omega) (by omega) (by have:=HS6.out.size;simp;omega) ?_;intro vx2 w2 ho2 hg2 _;have HS7:Hid _:=hA3.out _ _ HS6.out _ _ _ hg2 ho2;clear ho2 hg2))
        refine⟨⟨i+1,_,_,rfl,rfl,by go_num,by omega,HS7⟩,by simp[intOf];omega⟩
       | false=>
        have hbe:¬tk<=ck - y.lat:=by simpa using hbb
        rw[if_neg hbe,List.append_nil] at HNT;clear hbb;have hkK:Hid (W5.ownsRow M 233 4 (.slice ka ak.length kc) ak.length (ak.flatMap fcC)):=qn3.out.kept;have hz5:Hid (∀O,M<=(W5.alloc O).heap.size):=λO=>by have:=qn3.out.size;simp;omega
        have hA2:Hid (∀(Y:Wq) (v':Vq) (O:Obj),(W5.alloc O).grownBy Y (Value.slice ka ak.length kc).ownBlock->Y.ownsRow M 233 4 v' (ak.length+1) (ak.flatMap fcC++[.string gk.rel,.slice u1 gk.args.length u2,.int .i64 tk,.bool false])->qbl W2 M Y v' (.slice wa an.length wc) (qcz y.win (ck - y.lat) (fs.take (i+1))) (qhc y.win (ck - y.lat) (fs.take (i+1)))):=λY v' O hg ho=>by
         rw[Qbm.out,HNT.out];exact qn3.out.addK HMM.out ((gk,tk,false),.slice u1 gk.args.length u2) hg ho
        go_wp2_with (at_builtin;refine wpList_append_own _ rfl _ _ 219 rfl M 233 j0 _ 4 56 Tryz.underlying219 hj Qde Qdf Qdg rfl (by decide) _ ak.length (ak.flatMap fcC) rfl (hkK.out.alloc _) ⟨W5.heap.size,0,none⟩ 1 _ [.string gk.rel,.slice u1 gk.args.length u2,.int .i64 tk,.bool false] rfl rfl (qbz _ _ _ _ _ _) (by simp[Value.oneCell']) (by unfold maxLen;omega) (by omega) (hz5.out _) ?_;intro vx' w1 ho1 hg1 _;have HS6:Hid _:=hA2.out _ _ _ hg1 ho1;clear ho1 hg1)
        refine⟨⟨i+1,_,_,rfl,rfl,by go_num,by omega,HS6⟩,by simp[intOf];omega⟩
     ·have i1:¬(i:Int) < (fs.length:Int):=by omega
      rw[List.take_of_length_le (by omega)] at hst hkl hnl ⊢;obtain⟨hEw,hCw⟩:=HX0.out wr hst.out.below;obtain⟨W6,hW6⟩:∃W6,wr.setCell ⟨b,6,none⟩ (.slice ka (qcz y.win (ck - y.lat) fs).length kc)=W6:=⟨_,rfl⟩
      have hE6:qb2 W6 (qhk T W2 W6) b {y1 with facts:=qfu y.win (ck - y.lat) y.facts} (.slice va qs.length vc) (.slice ka (qcz y.win (ck - y.lat) fs).length kc) vn (.slice sa ss.length sc) (.slice da ds.length dc) qs (qcz y.win (ck - y.lat) fs) ss ds/\Chg W W6 T/\qcu W6 (.slice wa (qhc y.win (ck - y.lat) fs).length wc) (qhc y.win (ck - y.lat) fs):=by
       have hk6:∀k,k < wr.heap.size->k≠b->W6.heap[k]?=wr.heap[k]?:=λk _ hk=>by rw[<- hW6];exact Below.heap_setCell wr ⟨b,6,none⟩ _ k hk
       have hz6:W6.heap.size=wr.heap.size:=by rw[<- hW6];simp
       have hzz:=hst.out.below.size;have hT2:∀k,T k->k < W2.heap.size:=HE2.out.1.lt;have hold:∀k,T k->qhk T W2 W6 k:=λk hk=>.inl hk
       have qdt:∀(u:Vq) {U m n:Nat} {xs:List Vq},wr.ownsRow M U m u n xs->∀k,u.ownBlock=some k->qhk T W2 W6 k:=λu _ _ _ _ hu k hk=>by
        obtain⟨h5,c,hc⟩:=qe hu hk;have h6:=(zg hc).1;have:=HMM.out;exact .inr ⟨by omega,by omega⟩
       refine⟨hEw.put hold (λk hk=>?_) hk6 rfl rfl rfl ?_ (Qm (hEw.row hk6 (by decide) hst.out.kept) (Nat.zero_le _)) (qdt _ hst.out.kept) ?_ (λp hp=>?_) ⟨hEw.row hk6 (by decide) hEw.state.row,λp hp=>hEw.row hk6 (by decide) (hEw.state.each p hp)⟩ (λg hg=>hold g (hEw.stateT g hg)) (by rw[hEw.statem]) (λp hp g hg=>hold g (hEw.statee p hp g hg)) (λg hg=>⟨λp hp=>?_,(hEw.sepN g hg).2⟩),?_,⟨Qm (hEw.row hk6 (by decide) hst.out.now) (Nat.zero_le _),λp hp=>?_⟩⟩
       ·rcases hk with hk | hk
        ·have:=hT2 k hk;omega
        ·exact hk.2
       ·have hb:=hEw.box;rw[<- hW6];exact Qi hb 6 _
       ·rw[qrt,HH.out.factsm]
       ·obtain⟨q,hq,e1,e2⟩:=qmu hp;have:=hEw.facte q hq;rw[e1,e2] at this;exact⟨hEw.row hk6 (by decide) this.1,λg hg=>hold g (this.2 g hg)⟩
       ·obtain⟨q,hq,e1,e2⟩:=qmu hp;have:=(hEw.sepN g hg).1 q hq;rw[e2] at this;exact this
       ·rw[<- hW6];exact hCw.setCell _ _ (λ_=>HH.out.own)
       ·obtain⟨q,hq,e1,e2⟩:=qvi hp;have:=(hEw.facte q hq).1;rw[e1,e2] at this;exact hEw.row hk6 (by decide) this
      have HE6:Hid _:=hE6;have z6:wr.frozen? ⟨b,6,none⟩=false:=by simp[World.frozen?,hEw.box]
      have e0:W6.cell? ⟨b,0,none⟩=some (.slice va qs.length vc):=by simp[World.cell?,hE6.1.box]
      have hLe:Hid _:=qkp qs (qhc y.win (ck - y.lat) fs) y.names (.slice va qs.length vc) (.slice wa (qhc y.win (ck - y.lat) fs).length wc) W6 hE6.1.rules hE6.2.2 (by have:=HZ.out.r8;rw[<- HH.out.rsm,List.length_map] at this;omega) (by omega) (by rw[HH.out.rsm];exact HFI.out.fine) (λp hp=>by
       rw[HH.out.rsm];obtain⟨q,hq,e1,e2⟩:=qvi hp;rw[<- e1]
       exact HFI.out.gr q.1 (by rw[<- HH.out.factsm];exact List.mem_map.2 ⟨q,hq,rfl⟩))
      clear hE6 hEw hCw hst hnl hkl;go_wp2_with fail;refine Calls.mono hLe.out ?_;clear hLe;rintro e' W7 ⟨vst,hs7,rfl,hL7,hI7⟩;obtain⟨ta,tc,hvt⟩:=qn hL7.row;subst hvt;rw[HH.out.rsm,q4o,HH.out.factsm] at hI7;obtain⟨W8,hW8⟩:∃W8,W7.setCell ⟨b,8,none⟩ (.slice ta hs7.length tc)=W8:=⟨_,rfl⟩;obtain⟨st,hst⟩:∃st,hs7.map (·.1)=st:=⟨_,rfl⟩;rw[hst] at hI7;have q6d:Below W6.heap.size W6 W7:=hL7.below;have hE7:=HE6.out.1.below q6d
      have hE8:qb2 W8 (qhk (qhk T W2 W6) W6 W8) b {y with clock:=ck,mark:=ck - y.lat,facts:=qfu y.win (ck - y.lat) y.facts,state:=st} (.slice va qs.length vc) (.slice ka (qcz y.win (ck - y.lat) fs).length kc) vn (.slice ta hs7.length tc) (.slice da ds.length dc) qs (qcz y.win (ck - y.lat) fs) hs7 ds/\Chg W W8 T/\qcu W8 (.slice sa ss.length sc) ss:=by
       have hk8:∀k,k < W7.heap.size->k≠b->W8.heap[k]?=W7.heap[k]?:=λk _ hk=>by rw[<- hW8];exact Below.heap_setCell W7 ⟨b,8,none⟩ _ k hk
       have hz8:W8.heap.size=W7.heap.size:=by rw[<- hW8];simp
       have hzz:=q6d.size;have hold:∀k,qhk T W2 W6 k->qhk (qhk T W2 W6) W6 W8 k:=λk hk=>.inl hk
       have qdt:∀(u:Vq) {U m n:Nat} {xs:List Vq},W7.ownsRow 0 U m u n xs->(∀k,u.ownBlock=some k->W6.heap.size<=k)->∀k,u.ownBlock=some k->qhk (qhk T W2 W6) W6 W8 k:=λu _ _ _ _ hu hl k hk=>by
        obtain⟨c,hc⟩:=qi hu hk;have h6:=(zg hc).1;exact .inr ⟨hl k hk,by omega⟩
       have Qcm:∀p∈hs7,(∃q∈qcz y.win (ck - y.lat) fs,q.2=p.2)\/∀g,p.2.ownBlock=some g->W6.heap.size<=g:=λp hp=>by
        rcases hL7.loc p hp with h5 | h5
        ·obtain⟨q,hq,e⟩:=List.mem_map.1 h5;unfold qhc at hq;obtain⟨f,hf,rfl⟩:=List.mem_map.1 hq;exact .inl ⟨f,(List.mem_filter.1 hf).1,e⟩
        ·exact .inr h5
       refine⟨hE7.put hold (λk hk=>?_) hk8 (by rw[<- hy1]) (by rw[<- hy1]) (by rw[<- hy1]) ?_ (hE7.row hk8 (by decide) hE7.facts) (λg hg=>hold g (hE7.factsT g hg)) hE7.factsm (λp hp=>⟨hE7.row hk8 (by decide) (hE7.facte p hp).1,λg hg=>hold g ((hE7.facte p hp).2 g hg)⟩) ⟨Qm (hE7.row hk8 (by decide) hL7.row) (Nat.zero_le _),λp hp=>hE7.row hk8 (by decide) (hL7.each p hp)⟩ (qdt _ (Qm hL7.row (Nat.zero_le _)) (λk hk=>(qe hL7.row hk).1)) hst (λp hp g hg=>?_) (λg hg=>⟨(hE7.sepN g hg).1,λp hp e=>?_⟩),?_,⟨hE7.row hk8 (by decide) hE7.state.row,λp hp=>hE7.row hk8 (by decide) (hE7.state.each p hp)⟩⟩
       ·rcases hk with hk | hk
        ·have:=hE7.lt k hk;omega
        ·exact hk.2
       ·have hb:=hE7.box;rw[<- hW8];rw[<- hy1] at hb;exact Qi hb 8 _
       ·rcases Qcm p hp with⟨q,hq,e⟩ | h5
        ·rw[<- e] at hg;exact hold g ((hE7.facte q hq).2 g hg)
        ·exact qdt p.2 (hL7.each p hp) h5 g hg
       ·rcases Qcm p hp with⟨q,hq,e'⟩ | h5
        ·rw[<- e'] at e;exact (hE7.sepN g hg).1 q hq e
        ·have:=h5 g e;have:=HE6.out.1.lt g (HE6.out.1.namesT g hg);omega
       ·rw[<- hW8];exact (HE6.out.2.1.trans (Chg.ofBelow _ q6d)).setCell _ _ (λ_=>HH.out.own)
      have e8:W7.cell? ⟨b,8,none⟩=some (.slice sa ss.length sc):=by simp[World.cell?,hE7.box]
      have z8:W7.frozen? ⟨b,8,none⟩=false:=by simp[World.frozen?,hE7.box]
      have hz2:W.heap.size<=W2.heap.size:=HE2.out.2.size;have hz6:W.heap.size<=W6.heap.size:=HE6.out.2.1.size
      have hP8:Hid (qao T b (qeh y ck st 0) W W8/\qcu W8 (.slice sa ss.length sc) ss):=by
       have ht0:qeh y ck st 0={y with clock:=ck,mark:=ck - y.lat,facts:=qfu y.win (ck - y.lat) y.facts,state:=st}:=by unfold qeh;simp
       show qao T b (qeh y ck st 0) W W8/\_;rw[ht0];refine⟨⟨⟨qhk (qhk T W2 W6) W6 W8,⟨_,_,_,_,_,_,_,_,_,hE8.1⟩,λk hk=>?_⟩,hE8.2.1⟩,hE8.2.2⟩;rcases hk with (hk | hk) | hk
       ·exact .inl hk
       ·right;omega
       ·right;omega
      have HI7:Hid (qe0 y.rs (qxy y.win (ck - y.lat) y.facts) y.names st):=hI7;have hfl:ds.length=y.feeds.length:=by rw[<- HH.out.feedsm,List.length_map]
      have h3:=HZ.out.f3;have HSS:Hid (ss.map (·.1)=y.state):=HH.out.statem;have Q7:Hid (∀i,i<=y.feeds.length->(qeh y ck st i).feeds.length=y.feeds.length):=λi hi=>by unfold qeh;simp;omega
      have HCe:Hid (∀Y i,i<=y.feeds.length->qao T b (qeh y ck st i) W Y->∃(xa:Option Addr) (xc:Nat),Y.cell? ⟨b,9,none⟩=some (.slice xa y.feeds.length xc)/\Y.cell? ⟨b,5,none⟩=some (.int .i64 (ck - y.lat))):=λY i hi hP=>by
       obtain⟨⟨T',⟨vr',vf',vn',vs',vd',qs',fs',ss',ds',hv⟩,_⟩,_⟩:=hP;obtain⟨xa,xc,hx⟩:=qd hv.feeds;have hl:ds'.length=y.feeds.length:=by rw[<- Q7.out i hi,<- hv.feedsm,List.length_map]
       subst hx;rw[hl] at hv;exact⟨xa,xc,by simp[World.cell?,hv.box],by simp[World.cell?,hv.box];rfl⟩
      clear hE8 hE7 hL7 q6d hI7;go_wp2_with fail
      go_loopw [11] (λp wr=>∃i:Nat,p=.int .i64 i/\i<=y.feeds.length/\Hid (qao T b (qeh y ck st i) W wr/\qcu wr (.slice sa ss.length sc) ss)) (λp _=>y.feeds.length - (intOf p).toNat)
      case atStart=>exact⟨0,rfl,Nat.zero_le _,hP8⟩
      case round=>
       clear hP8 e8 z8 e0 z6 d6 d1 d5;obtain⟨j,rfl,qo5,hP⟩:=hrel;obtain⟨xa,xc,x9,x5⟩:=HCe.out wr j qo5 hP.out.1;by_cases hlt:j < y.feeds.length
       ·have i2:(j:Int) < (y.feeds.length:Int):=by omega
        have hmv:Hid (Calls Tryz.prog 120 #[.pointer (some ⟨b,0,none⟩),.int .i64 (j:Int),.slice sa ss.length sc] wr λe w'=>e=.returned (.tuple #[])/\Hid (qao T b (qeh y ck st (j+1)) W w'/\qcu w' (.slice sa ss.length sc) ss)):=by
         obtain⟨⟨⟨T',hM',hT'⟩,hC'⟩,hG'⟩:=hP.out
         have Qfc:(qeh y ck st j).feeds[j]?=some y.feeds[j]:=by
          unfold qeh;simp only;rw[List.getElem?_append_right (by simp;omega)];simp[Nat.min_eq_left qo5]
         refine (HMV.out j hlt (ck - y.lat) st wr T' _ y.feeds[j] _ ss hM' Qfc hG' HSS.out rfl rfl rfl).mono ?_;rintro e w' ⟨k1,k2,k3⟩
         have hnx:{qeh y ck st j with feeds:=(qeh y ck st j).feeds.set j (qvf y.que (ck - y.lat) y.state st y.feeds[j])}=qeh y ck st (j+1):=by
          unfold qeh;simp only[Er.mk.injEq,true_and];rw[List.set_append_right _ _ (by simp;omega)];simp only[List.length_map,List.length_take,Nat.min_eq_left qo5,Nat.sub_self];rw[List.take_succ_eq_append_getElem hlt,List.map_append,List.append_assoc,List.drop_eq_getElem_cons hlt];rfl
         rw[hnx] at k2;refine⟨k1,qao.trans' ⟨⟨hM',hT'⟩,hC'⟩ k2,⟨qm hG'.row (λg hg _=>?_),λp hp=>qm (hG'.each p hp) (λg hg _=>?_)⟩⟩
         ·obtain⟨c,hc⟩:=qi hG'.row hg;exact k3 g c _ (by decide) (by decide) hc
         ·obtain⟨c,hc⟩:=qi (hG'.each p hp) hg;exact k3 g c _ (by decide) (by decide) hc
        clear hP;go_wp2_with fail;refine Calls.mono hmv.out ?_;rintro e' W9 ⟨rfl,hP9⟩;clear hmv;go_wp2;refine⟨⟨j+1,by go_num,by omega,hP9⟩,by simp[intOf];omega⟩
       ·have i2:¬(j:Int) < (y.feeds.length:Int):=by omega
        have hjj:j=y.feeds.length:=by omega
        have hT:Hid (qm8 y _ (qeh y ck st y.feeds.length) (ck - y.lat,0)):=HT.out _ _ (.inr ⟨hmb.2.2,rfl,st,HI7.out,by unfold qeh;simp⟩);have hPF:Hid (qao T b (qeh y ck st y.feeds.length) W wr):=by rw[<- hjj];exact hP.out.1
        clear hP hjj;go_wp2;go_ret2
        exact qkf.mk _ _ hT.out rfl hPF.out)
 ·have hT:Hid (qm8 y c y (0,6)):=.inl ⟨hc,rfl,rfl⟩;have hS:Hid (∀Y,Below W.heap.size W Y->qao T b y W Y):=λY hY=>qao.same ⟨_,_,_,_,_,_,_,_,_,HH.out⟩ hY;by_cases hc0:c < 0
  ·clear hc;go_enter Tryz.func68,Tryz.ntmps68;go_wp2;go_ret2;exact qkf.mk y (0,6) hT.out rfl (hS.out _ (Below.refl _ _))
  ·have hc1:1000000 < c:=by omega
   clear hc;go_enter Tryz.func68,Tryz.ntmps68;go_wp2;go_ret2;exact qkf.mk y (0,6) hT.out rfl (hS.out _ (Below.refl _ _))
