/- A part -/
import Derived.Test.YtjajnhemgphefaaGreatDoorKWyS
set_option linter.all false
set_option maxRecDepth 100000
set_option maxHeartbeats 4000000
namespace Go.Proofs.YtjajnhemgphefaaGreatDoor
open Go renaming World->Wq,Value->Vq
open Go.RowKit Go.Shelf
variable {win m:Int} {l ak:List ((Gr×Int×Bool)×Vq)} {W2 X Y W:Wq} {M b:Nat} {vk vw:Vq} {an:List (Gr×Vq)} {T:Nat->Prop} {y:Er}
def qc9(win m:Int)(l:List ((Gr×Int×Bool)×Vq)):List ((Gr×Int×Bool)×Vq):=(l.filter (λf=>!decide (f.1.2.1+win<=m))).map (λf=>((f.1.1,f.1.2.1,decide (f.1.2.1<=m)),f.2))
def qhi(win m:Int)(l:List ((Gr×Int×Bool)×Vq)):List (Gr×Vq):=((qc9 win m l).filter (λf=>f.1.2.2)).map (λf=>(f.1.1,f.2))
theorem qpz(win m:Int)(l:List ((Gr×Int×Bool)×Vq)){k:Nat}(h:k < l.length):qc9 win m (l.take (k+1))=qc9 win m (l.take k)++(if l[k].1.2.1+win<=m then [] else [((l[k].1.1,l[k].1.2.1,decide (l[k].1.2.1<=m)),l[k].2)]):=by
 unfold qc9;rw[List.take_succ_eq_append_getElem h,List.filter_append,List.map_append];congr 1;by_cases hb:l[k].1.2.1+win<=m
 .rw[if_pos hb,List.filter_cons,if_neg (by simpa using hb)];rfl
 .rw[if_neg hb,List.filter_cons,if_pos (by simpa using hb)];rfl
theorem q1s(win m:Int)(l:List ((Gr×Int×Bool)×Vq)){k:Nat}(h:k < l.length):qhi win m (l.take (k+1))=qhi win m (l.take k)++(if l[k].1.2.1+win<=m then [] else if l[k].1.2.1<=m then [(l[k].1.1,l[k].2)] else []):=by
 unfold qhi;rw[qpz win m l h,List.filter_append,List.map_append];congr 1;by_cases hb:l[k].1.2.1+win<=m
 .rw[if_pos hb,if_pos hb];rfl
 .rw[if_neg hb,if_neg hb];by_cases hc:l[k].1.2.1<=m
  .rw[if_pos hc,List.filter_cons,if_pos (by simpa using hc)];rfl
  .rw[if_neg hc,List.filter_cons,if_neg (by simpa using hc)];rfl
theorem qse(win m:Int)(l:List ((Gr×Int×Bool)×Vq)):(qc9 win m l).length<=l.length:=by unfold qc9;rw[List.length_map];exact List.length_filter_le _ _
theorem q5o(win m:Int)(l:List ((Gr×Int×Bool)×Vq)):(qhi win m l).length<=l.length:=by
 unfold qhi;rw[List.length_map];exact Nat.le_trans (List.length_filter_le _ _) (qse win m l)
theorem qsf(win m:Int)(l:List ((Gr×Int×Bool)×Vq)):(qc9 win m l).map (·.1)=qf6 win m (l.map (·.1)):=by
 unfold qc9 qf6;rw[List.filter_map,List.map_map,List.map_map];rfl
theorem q5p(win m:Int)(l:List ((Gr×Int×Bool)×Vq)):(qhi win m l).map (·.1)=qyk win m (l.map (·.1)):=by
 unfold qhi qyk;rw[<- qsf,List.filter_map,List.map_map,List.map_map];rfl
theorem qnc{p:(Gr×Int×Bool)×Vq}(h:p∈qc9 win m l):∃q∈l,q.1.1=p.1.1/\q.2=p.2:=by
 unfold qc9 at h;obtain⟨q,hq,rfl⟩:=List.mem_map.1 h;exact⟨q,(List.mem_filter.1 hq).1,rfl,rfl⟩
theorem qv4{p:Gr×Vq}(h:p∈qhi win m l):∃q∈l,q.1.1=p.1/\q.2=p.2:=by
 unfold qhi at h;obtain⟨f,hf,rfl⟩:=List.mem_map.1 h;exact qnc (List.mem_filter.1 hf).1
structure qbl(W2:Wq)(M:Nat)(X:Wq)(vk vw:Vq)(ak:List ((Gr×Int×Bool)×Vq))(an:List (Gr×Vq)):Prop where
 below:Below W2.heap.size W2 X
 size:M<=X.heap.size
 kept:X.ownsRow M 233 4 vk ak.length (ak.flatMap fcC)
 now:X.ownsRow M 226 2 vw an.length (an.flatMap gdC)
theorem qbl.keep(h:qbl W2 M X vk vw ak an)(hb:Below X.heap.size X Y):qbl W2 M Y vk vw ak an:=
 ⟨h.below.trans (hb.mono h.below.size),Nat.le_trans h.size hb.size,qk h.kept hb,qk h.now hb⟩
theorem qbl.set(h:qbl W2 M X vk vw ak an)(hM:W2.heap.size=M)(a:Addr)(v:Vq)(ha:M<=a.block)(h1:vk.ownBlock≠some a.block)(h2:vw.ownBlock≠some a.block):qbl W2 M (X.setCell a v) vk vw ak an:=
 ⟨h.below.setCell (by omega) v,by simpa using h.size,Qg h.kept a v (λg hg e=>h1 (by rw[<- e];exact hg)),Qg h.now a v (λg hg e=>h2 (by rw[<- e];exact hg))⟩
theorem qbl.addK{vk':Vq}(h:qbl W2 M X vk vw ak an)(hM:W2.heap.size=M)(p:(Gr×Int×Bool)×Vq){O:Obj}(hg:(X.alloc O).grownBy Y vk.ownBlock)(ho:Y.ownsRow M 233 4 vk' (ak.length+1) (ak.flatMap fcC++fcC p)):qbl W2 M Y vk' vw (ak++[p]) an:=by
 refine⟨(h.below.alloc h.below.size O).grown hg (by have:=h.below.size;simp;omega) (λk e=>by have:=(qe h.kept e).1;omega),by have:=hg.size;have:=h.size;simp at *;omega,?_,qm h.now (λg cp ah=>(hg.block g (by simp;omega) (λe=>?_)).trans (Below.heap_alloc X O g ah))⟩
 .rw[List.length_append,List.flatMap_append];simpa using ho
 .obtain⟨c,hc⟩:=qh h.kept e.symm;obtain⟨c',bd⟩:=qh h.now cp;rw[hc] at bd;cases bd
theorem qbl.addN{aw:Vq}(h:qbl W2 M X vk vw ak an)(hM:W2.heap.size=M)(p:Gr×Vq){O:Obj}(hg:(X.alloc O).grownBy Y vw.ownBlock)(ho:Y.ownsRow M 226 2 aw (an.length+1) (an.flatMap gdC++gdC p)):qbl W2 M Y vk aw ak (an++[p]):=by
 refine⟨(h.below.alloc h.below.size O).grown hg (by have:=h.below.size;simp;omega) (λk e=>by have:=(qe h.now e).1;omega),by have:=hg.size;have:=h.size;simp at *;omega,qm h.kept (λg cp ah=>(hg.block g (by simp;omega) (λe=>?_)).trans (Below.heap_alloc X O g ah)),?_⟩
 .obtain⟨c,hc⟩:=qh h.now e.symm;obtain⟨c',bd⟩:=qh h.kept cp;rw[hc] at bd;cases bd
 .rw[List.length_append,List.flatMap_append];simpa using ho
def qem(y:Er)(ck:Int)(st:List Gr)(i:Nat):Er:={y with clock:=ck,mark:=ck - y.lat,facts:=qf6 y.win (ck - y.lat) y.facts,state:=st,feeds:=(y.feeds.take i).map (qv1 y.que (ck - y.lat) y.state st)++y.feeds.drop i}
theorem qan.trans'{W1:Wq}{T1:Nat->Prop}{y1 y2:Er}(h:(ErM W1 T1 b y1/\∀k,T1 k->T k\/W.heap.size<=k)/\Chg W W1 T)(k:qan T1 b y2 W1 W2):qan T b y2 W W2:=by
 obtain⟨⟨h1,h2⟩,h3⟩:=h;obtain⟨⟨T2,k1,k2⟩,k3⟩:=k;have hz:=h3.size;refine⟨⟨T2,k1,λj hj=>?_⟩,⟨k3.os.trans h3.os,k3.tape.trans h3.tape,k3.output.trans h3.output,Nat.le_trans h3.size k3.size,λi hi hn=>(k3.block i (Nat.lt_of_lt_of_le hi h3.size) (λe=>?_)).trans (h3.block i hi hn)⟩⟩
 .rcases k2 j hj with h4 | h4
  .exact h2 j h4
  .right;omega
 .rcases h2 i e with h4 | h4
  .exact hn h4
  .omega
def qks(T:Nat->Prop)(b:Nat)(y:Er)(c:Int)(W:Wq)(e:Ending)(w':Wq):Prop:=∃y' r,qnt y c y' r/\e=.returned (.tuple #[Ii r.1,Ii r.2])/\qan T b y' W w'
theorem qks.mk{c:Int}{e:Ending}{w':Wq}(y':Er)(r:Int×Int)(h:qnt y c y' r)(he:e=.returned (.tuple #[Ii r.1,Ii r.2]))(hp:qan T b y' W w'):qks T b y c W e w':=⟨y',r,h,he,hp⟩
theorem q2i{vr vf vn vs vd:Vq}{qs:List (Rl×Vq×Vq)}{fs:List ((Gr×Int×Bool)×Vq)}{ss:List (Gr×Vq)}{ds:List (Fr×Vq×Vq)}(h:qcm W T b y vr vf vn vs vd qs fs ss ds)(hz:qz4 y)(db:qwy y)(c:Int)(be:∀i,i < y.feeds.length->∀m st,qw0 b i y.state y.que m st) :
  Cs 68 #[Pt b,Ii c] W (qks T b y c W):=by
 obtain⟨va,vc,dn⟩:=qd h.rules.row;obtain⟨fa,fc,d2⟩:=qd h.facts;obtain⟨sa,sc,dm⟩:=qd h.state.row;obtain⟨da,dc,eb⟩:=qd h.feeds;subst dn d2 dm eb;have fe:b < W.heap.size:=h.lt b h.own;have HH:Hid (qcm W T b y (.slice va qs.length vc) (.slice fa fs.length fc) vn (.slice sa ss.length sc) (.slice da ds.length dc) qs fs ss ds):=h;have q2:W.cell? (Ad b 2)=some (Ii y.lat):=by simp[World.cell?,h.box]
 have q4:W.cell? (Ad b 4)=some (Ii y.clock):=by simp[World.cell?,h.box]
 have q5:W.cell? (Ad b 5)=some (Ii y.mark):=by simp[World.cell?,h.box]
 have z4:W.frozen? (Ad b 4)=false:=by simp[World.frozen?,h.box]
 have fg:=hz.clock;have ff:=hz.lat;have fb:=hz.mark;have e7:=hz.win;have HZ:Hid (qz4 y):=hz;have de:Hid (qwy y):=db;have dp:Hid (∀i,i < y.feeds.length->∀m st,qw0 b i y.state y.que m st):=be;clear h hz db be;by_cases hc:0<=c/\c<=1000000
 .have t0:¬c < 0:=by omega
  have t1:¬1000000 < c:=by omega
  obtain⟨ck,ax⟩:∃ck,qeb y c=ck:=⟨_,rfl⟩;have Qhu:0<=ck/\ck<=1000000:=by rw[<- ax];unfold qeb;split <;> omega
  have HT:Hid (∀y' r,((ck - y.lat<=y.mark/\y'={y with clock:=ck}/\r=(y.mark,0))\/(y.mark < ck - y.lat/\r=(ck - y.lat,0)/\∃st,qfc y.rs (qyk y.win (ck - y.lat) y.facts) y.names st/\y'={y with clock:=ck,mark:=ck - y.lat,facts:=qf6 y.win (ck - y.lat) y.facts,state:=st,feeds:=y.feeds.map (qv1 y.que (ck - y.lat) y.state st)}))->qnt y c y' r):=λy' r hh=>.inr ⟨hc,by rw[ax];exact hh⟩;obtain⟨y0,ae⟩:∃y0:Er,{y with clock:=ck}=y0:=⟨_,rfl⟩;obtain⟨W0,ay⟩:∃W0,(if y.clock < c then W.setCell (Ad b 4) (Ii ck) else W)=W0:=⟨_,rfl⟩
  have aj:qcm W0 T b y0 (.slice va qs.length vc) (.slice fa fs.length fc) vn (.slice sa ss.length sc) (.slice da ds.length dc) qs fs ss ds/\Chg W W0 T:=by
   rw[<- ay,<- ae];by_cases af:y.clock < c
   .rw[if_pos af];exact⟨HH.out.num (by simp) (λk hk=>Below.heap_setCell W ⟨b,4,none⟩ _ k hk) rfl rfl rfl rfl rfl (Qd HH.out.box 4 _),(Chg.refl W T).setCell _ _ (λ_=>HH.out.own)⟩
   .rw[if_neg af];have he:ck=y.clock:=by rw[<- ax];unfold qeb;rw[if_neg af]
    rw[he];exact⟨HH.out,Chg.refl W T⟩
  have av:Hid _:=aj;have p2:W0.cell? (Ad b 2)=some (Ii y.lat):=by rw[<- ae] at aj;simp[World.cell?,aj.1.box]
  have p4:W0.cell? (Ad b 4)=some (Ii ck):=by rw[<- ae] at aj;simp[World.cell?,aj.1.box]
  have p5:W0.cell? (Ad b 5)=some (Ii y.mark):=by rw[<- ae] at aj;simp[World.cell?,aj.1.box]
  have p8:W0.cell? (Ad b 8)=some (.slice sa ss.length sc):=by simp[World.cell?,aj.1.box]
  have y5:W0.frozen? (Ad b 5)=false:=by simp[World.frozen?,aj.1.box]
  have eo:Hid (qeb y c=ck):=ax
  have ee:(y.clock < c/\ck=c/\W.setCell (Ad b 4) (Ii ck)=W0)\/(¬y.clock < c/\y.clock=ck/\W=W0/\¬ck < c):=by
   rw[<- ay,<- ax];unfold qeb;by_cases af:y.clock < c
   .rw[if_pos af,if_pos af];exact .inl ⟨af,rfl,rfl⟩
   .rw[if_neg af,if_neg af];exact .inr ⟨af,rfl,rfl,af⟩
  clear ax aj hc ay;go_enter Tryz.func68,Tryz.ntmps68;rcases ee with⟨af,rfl,ay⟩ | ⟨af,ek,rfl,cl⟩
  all_goals go_wp2_with fail
  all_goals go_quiet (fail)
  have ai:qcm (W0.drewN nq) T b y0 (.slice va qs.length vc) (.slice fa fs.length fc) vn (.slice sa ss.length sc) (.slice da ds.length dc) qs fs ss ds/\Chg W (W0.drewN nq) T:=⟨av.out.1.below (qu zr),av.out.2.trans (Chg.ofBelow _ (qu zr))⟩;clear q2 q4 q5 z4 p2 p4 p5 p8 y5 av;generalize W0.drewN nq=W1 at *;clear ay
  rotate_left 1
  have ai:qcm (W.drewN nq) T b y0 (.slice va qs.length vc) (.slice fa fs.length fc) vn (.slice sa ss.length sc) (.slice da ds.length dc) qs fs ss ds/\Chg W (W.drewN nq) T:=⟨av.out.1.below (qu zr),av.out.2.trans (Chg.ofBelow _ (qu zr))⟩;clear q2 q4 q5 z4 p2 p4 p5 p8 y5 av cl ek;generalize W.drewN nq=W1 at *
  all_goals (
   have b6:Hid _:=ai;have p2:W1.cell? (Ad b 2)=some (Ii y.lat):=by rw[<- ae] at ai;simp[World.cell?,ai.1.box]
   have p4:W1.cell? (Ad b 4)=some (Ii ck):=by rw[<- ae] at ai;simp[World.cell?,ai.1.box]
   have p5:W1.cell? (Ad b 5)=some (Ii y.mark):=by rw[<- ae] at ai;simp[World.cell?,ai.1.box]
   have z5:W1.frozen? (Ad b 5)=false:=by simp[World.frozen?,ai.1.box]
   have cr:=ai.1.box;rw[<- ae] at cr;clear ai;by_cases cg:ck - y.lat<=y.mark
   .have hT:Hid (qnt y _ y0 (y.mark,0)):=HT.out y0 (y.mark,0) (.inl ⟨cg,ae.symm,rfl⟩);have hP:Hid (qan T b y0 W W1):=⟨⟨T,⟨_,_,_,_,_,_,_,_,_,b6.out.1⟩,λk hk=>.inl hk⟩,b6.out.2⟩;go_wp2;go_ret2;exact qks.mk y0 (y.mark,0) hT.out rfl hP.out
   .have dz:0<=ck - y.lat/\ck - y.lat<=1000000/\y.mark < ck - y.lat:=by omega
    obtain⟨W2,b0⟩:∃W2,(W1.setCell (Ad b 5) (Ii (ck - y.lat))).drew=W2:=⟨_,rfl⟩;obtain⟨y1,ag⟩:∃y1:Er,{y with clock:=ck,mark:=ck - y.lat}=y1:=⟨_,rfl⟩
    have bf:W2.heap[b]?=cC #[.slice va qs.length vc,Ii y.win,Ii y.lat,Ii y.que,Ii ck,Ii (ck - y.lat),.slice fa fs.length fc,vn,.slice sa ss.length sc,.slice da ds.length dc] 222:=by
     rw[<- b0];exact Qd (w:=W1) cr 5 _
    have dj:qcm W2 T b y1 (.slice va qs.length vc) (.slice fa fs.length fc) vn (.slice sa ss.length sc) (.slice da ds.length dc) qs fs ss ds/\Chg W W2 T:=by
     refine⟨b6.out.1.num (by rw[<- b0];show (W1.setCell _ _).heap.size=_;simp) (λk hk=>by rw[<- b0];exact Below.heap_setCell W1 ⟨b,5,none⟩ _ k hk) (by rw[<- ag,<- ae]) (by rw[<- ag,<- ae]) (by rw[<- ag,<- ae]) (by rw[<- ag,<- ae]) (by rw[<- ag,<- ae]) (by rw[<- ag];exact bf),?_⟩;rw[<- b0];exact (b6.out.2.setCell _ _ (λ_=>HH.out.own)).drew
    have bq:Hid _:=dj;have s2:W1.drew.cell? (Ad b 2)=some (Ii y.lat):=p2;have s4:W1.drew.cell? (Ad b 4)=some (Ii ck):=p4;have r2:W2.cell? (Ad b 2)=some (Ii y.lat):=zc bf
    have r4:W2.cell? (Ad b 4)=some (Ii ck):=zc bf
    have r8:W2.cell? (Ad b 8)=some (.slice sa ss.length sc):=zc bf
    have ev:IntKind.i64.wrap (ck - y.lat)=ck - y.lat:=qh8 _ (by omega) (by omega);have ct:Hid (∀Y,Below W2.heap.size W2 Y->qcm Y T b y1 (.slice va qs.length vc) (.slice fa fs.length fc) vn (.slice sa ss.length sc) (.slice da ds.length dc) qs fs ss ds/\Chg W Y T):=λY hY=>⟨bq.out.1.below hY,bq.out.2.trans (Chg.ofBelow _ hY)⟩;have Qdp:fs.length<=24:=by have:=HZ.out.f24;rw[<- HH.out.factsm,List.length_map] at this;exact this
    have HC:Hid (∀Y,Below W2.heap.size W2 Y->Y.cell? (Ad b 6)=some (.slice fa fs.length fc)/\Y.cell? (Ad b 1)=some (Ii y.win)/\Y.cell? (Ad b 5)=some (Ii (ck - y.lat))):=λY hY=>by
     obtain⟨h2,_⟩:=ct.out Y hY;have hb:=h2.box;rw[<- ag] at hb;exact⟨zc hb,zc hb,zc hb⟩
    have HF:Hid (∀Y,Below W2.heap.size W2 Y->∀(k:Nat) (hk:k < fs.length),∃(gf:Nat) (u1:Option Addr) (u2:Nat),fa=some ⟨gf,0,none⟩/\fs[k].2=.slice u1 fs[k].1.1.args.length u2/\Y.cell? (Ad gf (k*4))=some (St fs[k].1.1.rel)/\Y.cell? (Ad gf (k*4+1))=some (.slice u1 fs[k].1.1.args.length u2)/\Y.cell? (Ad gf (k*4+2))=some (Ii fs[k].1.2.1)/\Y.cell? (Ad gf (k*4+3))=some (.bool fs[k].1.2.2)/\0<=fs[k].1.2.1/\fs[k].1.2.1<=1000000):=λY hY k hk=>by
     obtain⟨h2,_⟩:=ct.out Y hY;obtain⟨gf,cap,e1,_,_,_,e2⟩:=qb0 h2.facts (λ_=>rfl) (by omega);obtain⟨s1,_⟩:=h2.facte fs[k] (zm hk);obtain⟨u1,u2,e3⟩:=qd s1;have ce:=(HZ.out.facts fs[k].1 (by rw[<- HH.out.factsm];exact List.mem_map.2 ⟨_,List.getElem_mem hk,rfl⟩)).2;have e4:=e2 k 1 hk _ (by decide) rfl;rw[e3] at e4;simp only[Value.slice.injEq] at e1;exact⟨gf,u1,u2,e1.1,e3,e2 k 0 hk _ (by decide) rfl,e4,e2 k 2 hk _ (by decide) rfl,e2 k 3 hk _ (by decide) rfl,ce⟩
    clear dj bf cr cg;go_wp2_with fail
    (go_region_held3 (λw'=>w'.cell? (Ad b 2)=some (Ii y.lat)/\w'.cell? (Ad b 4)=some (Ii ck)) (first | with_reducible exact⟨s2,s4⟩ | with_reducible exact⟨r2,r4⟩ | with_reducible assumption) (go_simp))
    obtain⟨M,hM⟩:∃M,W2.heap.size=M:=⟨_,rfl⟩;have c9:Hid (qbl W2 M W2 (.slice none 0 0) (.slice none 0 0) (qc9 y.win (ck - y.lat) (fs.take 0)) (qhi y.win (ck - y.lat) (fs.take 0))):=⟨zr,by omega,zo,zo⟩;obtain⟨i0,hi,d9,ce,cw⟩:=info_parts Tryz.infoGround;obtain⟨j0,hj,Qes,Qet,Qeu⟩:=info_parts Tryz.infoFact;have bn:Hid (W2.heap.size=M):=hM;clear s2 s4 r2 r4 p2 p4 p5 z5 hM;go_wp2_with fail
    go_loopw [7,8,9] (λo1 o2 p wr=>∃(i:Nat) (vk vw:Vq),vk=o1/\vw=o2/\p=.int .i64 i/\i<=fs.length/\Hid (qbl W2 M wr vk vw (qc9 y.win (ck - y.lat) (fs.take i)) (qhi y.win (ck - y.lat) (fs.take i)))) (λ_ _ p _=>fs.length - (intOf p).toNat)
    case atStart=>exact⟨0,_,_,rfl,rfl,rfl,zz,c9⟩
    case round=>
     clear c9;obtain⟨i,vk,vw,rfl,rfl,rfl,cg,ab⟩:=hrel;obtain⟨ka,kc,ej⟩:=qo ab.out.kept;obtain⟨wa,wc,ec⟩:=qo ab.out.now;subst ej ec;obtain⟨d6,d1,d5⟩:=HC.out wr ab.out.below;have cd:=qse y.win (ck - y.lat) (fs.take i);have co:=q5o y.win (ck - y.lat) (fs.take i);rw[List.length_take] at cd co;by_cases ah:i < fs.length
     .have i1:(i:Int) < (fs.length:Int):=by omega
      obtain⟨gf,u1,u2,eh,e3,f0,f1,f2,f3,cq,ei⟩:=HF.out wr ab.out.below i ah;have b4:=qpz y.win (ck - y.lat) fs ah;have bt:=q1s y.win (ck - y.lat) fs ah;rw[e3] at b4 bt;obtain⟨gk,cu⟩:∃gk,fs[i].1.1=gk:=⟨_,rfl⟩;obtain⟨tk,cv⟩:∃tk,fs[i].1.2.1=tk:=⟨_,rfl⟩;obtain⟨bk,dl⟩:∃bk,fs[i].1.2.2=bk:=⟨_,rfl⟩;rw[cu,cv] at b4 bt;rw[cu] at f0 f1;rw[cv] at f2 cq ei;rw[dl] at f3;have a7:Hid _:=b4;have ap:Hid _:=bt;clear b4 bt cu cv dl e3;subst eh;generalize qc9 y.win (ck - y.lat) (fs.take i)=ak at *;generalize qhi y.win (ck - y.lat) (fs.take i)=an at *;obtain⟨W3,cm⟩:∃W3,wr.alloc (.cells #[St gk.rel,.slice u1 gk.args.length u2,Ii tk,.bool bk] 233)=W3:=⟨_,rfl⟩;obtain⟨NB,c8⟩:∃NB,wr.heap.size=NB:=⟨_,rfl⟩;have dk:Below wr.heap.size wr W3:=by rw[<- cm];exact (Below.refl _ wr).alloc zl _
      have cb:Hid (qbl W2 M W3 (.slice ka ak.length kc) (.slice wa an.length wc) ak an):=ab.out.keep dk
      have bu:Hid ((Value.slice ka ak.length kc).ownBlock≠some NB/\(Value.slice wa an.length wc).ownBlock≠some NB/\M<=NB):=by
       refine⟨λe=>?_,λe=>?_,by have:=ab.out.size;omega⟩
       .obtain⟨c,hc⟩:=qh ab.out.kept e;have:=(zg hc).1;omega
       .obtain⟨c,hc⟩:=qh ab.out.now e;have:=(zg hc).1;omega
      have cn:W3.heap[NB]?=cC #[St gk.rel,.slice u1 gk.args.length u2,Ii tk,.bool bk] 233:=by rw[<- cm,<- c8];exact zn wr _
      have g2:W3.cell? (Ad NB 2)=some (Ii tk):=zc cn
      obtain⟨_,c1,c5⟩:=HC.out W3 cb.out.below;have cx:Hid _:=cn;have es:IntKind.i64.wrap (tk+y.win)=tk+y.win:=qh8 _ (by omega) (by omega);clear ab dk cn;go_wp2_with fail;go_quiet (fail);have b7:Hid (qbl W2 M (W3.drewN nq) (.slice ka ak.length kc) (.slice wa an.length wc) ak an):=cb.out.keep (qu zr);have a6:Hid ((W3.drewN nq).heap[NB]?=cC #[St gk.rel,.slice u1 gk.args.length u2,Ii tk,.bool bk] 233):=cx.out;generalize W3.drewN nq=W4 at *;clear g2 c1 c5 d6 d1 d5 f0 f1 f2 f3 cm c8 cb cx;by_cases c6:tk+y.win<=ck - y.lat
      .have cc:Hid (qbl W2 M W4 (.slice ka ak.length kc) (.slice wa an.length wc) (qc9 y.win (ck - y.lat) (fs.take (i+1))) (qhi y.win (ck - y.lat) (fs.take (i+1)))):=by
        have h5:=a7.out;have h6:=ap.out;rw[if_pos c6,List.append_nil] at h5 h6;rw[h5,h6];exact b7.out
       clear a7 ap;go_wp2;refine⟨⟨i+1,_,_,rfl,rfl,by go_num,by omega,cc⟩,by simp[intOf];omega⟩
      .rw[if_neg c6] at a7 ap;have g2:W4.cell? (Ad NB 2)=some (Ii tk):=by simp[World.cell?,a6.out]
       have g3:W4.cell? (Ad NB 3)=some (.bool bk):=by simp[World.cell?,a6.out]
       have z3:W4.frozen? (Ad NB 3)=false:=by simp[World.frozen?,a6.out]
       obtain⟨_,c1,c5⟩:=HC.out W4 b7.out.below;have c4:W4.drew.cell? (Ad NB 2)=some (Ii tk):=g2;have c3:W4.drew.cell? (Ad b 5)=some (Ii (ck - y.lat)):=c5;obtain⟨bb,bi⟩:∃bb,decide (tk<=ck - y.lat)=bb:=⟨_,rfl⟩;obtain⟨W5,di⟩:∃W5,(W4.setCell (Ad NB 3) (.bool bb)).drew=W5:=⟨_,rfl⟩
       have ao:Hid (qbl W2 M W5 (.slice ka ak.length kc) (.slice wa an.length wc) ak an):=by
        rw[<- di];exact (b7.out.set bn.out ⟨NB,3,none⟩ _ bu.out.2.2 bu.out.1 bu.out.2.1).keep zr.drew
       have au:W5.heap[NB]?=cC #[St gk.rel,.slice u1 gk.args.length u2,Ii tk,.bool bb] 233:=by rw[<- di];exact Qd (w:=W4) a6.out 3 _
       have x0:W5.cell? (Ad NB 0)=some (St gk.rel):=zc au
       have x1:W5.cell? (Ad NB 1)=some (.slice u1 gk.args.length u2):=zc au
       have x2:W5.cell? (Ad NB 2)=some (Ii tk):=zc au
       have x3:W5.cell? (Ad NB 3)=some (.bool bb):=zc au
       obtain⟨_,_,x5⟩:=HC.out W5 ao.out.below;have c0:Hid _:=au;have Qc5:Hid (qc9 y.win (ck - y.lat) (fs.take (i+1))=ak++[((gk,tk,bb),.slice u1 gk.args.length u2)]):=by rw[<- bi];exact a7.out
       clear b7 au a6 a7;go_wp2_with fail
       (go_region_held3 (λw'=>w'.cell? (Ad NB 2)=some (Ii tk)/\w'.cell? (Ad b 5)=some (Ii (ck - y.lat))) (first | with_reducible exact⟨c4,c3⟩ | with_reducible exact⟨x2,x5⟩ | with_reducible assumption) (go_simp))
       clear c4 c3 c1 c5 g2 g3 z3
       cases bb with
       | true=>
        have cf:tk<=ck - y.lat:=by simpa using bi
        rw[if_pos cf] at ap;clear bi;have d7:Hid (W5.ownsRow M 226 2 (.slice wa an.length wc) an.length (an.flatMap gdC)):=ao.out.now;have ci:Hid (∀O,M<=(W5.alloc O).heap.size):=λO=>by have:=ao.out.size;simp;omega
        have d4:Hid (∀(Y:Wq) (v':Vq) (O:Obj),(W5.alloc O).grownBy Y (Value.slice wa an.length wc).ownBlock->Y.ownsRow M 226 2 v' (an.length+1) (an.flatMap gdC++[St gk.rel,.slice u1 gk.args.length u2])->qbl W2 M Y (.slice ka ak.length kc) v' ak (an++[(gk,.slice u1 gk.args.length u2)])/\Y.cell? (Ad NB 0)=some (St gk.rel)/\Y.cell? (Ad NB 1)=some (.slice u1 gk.args.length u2)/\Y.cell? (Ad NB 2)=some (Ii tk)/\Y.cell? (Ad NB 3)=some (.bool true)):=λY v' O hg ho=>by
         have Qa8:NB < W5.heap.size:=(zg c0.out).1;have h9:=((hg.block NB (by simp;omega) (λe=>bu.out.2.1 e.symm)).trans (Below.heap_alloc W5 O NB Qa8)).trans c0.out;exact⟨ao.out.addN bn.out (gk,.slice u1 gk.args.length u2) hg ho,zc h9,zc h9,zc h9,zc h9⟩
        have ed:Hid (∀(X:Wq) (aw:Vq),qbl W2 M X (.slice ka ak.length kc) aw ak (an++[(gk,.slice u1 gk.args.length u2)])->∀(Y:Wq) (v':Vq) (O:Obj),(X.alloc O).grownBy Y (Value.slice ka ak.length kc).ownBlock->Y.ownsRow M 233 4 v' (ak.length+1) (ak.flatMap fcC++[St gk.rel,.slice u1 gk.args.length u2,Ii tk,.bool true])->qbl W2 M Y v' aw (qc9 y.win (ck - y.lat) (fs.take (i+1))) (qhi y.win (ck - y.lat) (fs.take (i+1)))):=λX aw hX Y v' O hg ho=>by
         rw[Qc5.out,ap.out];exact hX.addK bn.out ((gk,tk,true),.slice u1 gk.args.length u2) hg ho
        go_wp2_with (first | (at_builtin;refine wpList_append_own _ rfl _ _ 217 rfl M 226 i0 _ 2 40 Tryz.underlying217 hi d9 ce cw rfl (by decide) _ an.length (an.flatMap gdC) rfl (d7.out.alloc _) ⟨W5.heap.size,0,none⟩ 1 _ [St gk.rel,.slice u1 gk.args.length u2] rfl rfl (qei _ _ _ _) (by simp[Value.oneCell']) (by unfold maxLen;omega) (by omega) (ci.out _) ?_;intro dd w1 az bj _;obtain⟨Qcn,o0,o1,o2,o3⟩:=d4.out _ _ _ bj az;have a9:Hid (qbl W2 M w1 (.slice ka ak.length kc) dd ak (an++[(gk,.slice u1 gk.args.length u2)])):=Qcn;clear Qcn;clear az bj) | (at_builtin;refine wpList_append_own _ rfl _ _ 219 rfl M 233 j0 _ 4 56 Tryz.underlying219 hj Qes Qet Qeu rfl (by decide) _ ak.length (ak.flatMap fcC) rfl (World.ownsRow.alloc a9.out.kept _) ⟨w1.heap.size,0,none⟩ 1 _ [St gk.rel,.slice u1 gk.args.length u2,Ii tk,.bool true] rfl rfl (qb1 _ _ _ _ _ _) (by simp[Value.oneCell']) (by unfold maxLen;omega) (by omega) (by have:=a9.out.size;simp;omega) ?_;intro ez w2 cy dh _;have d8:Hid _:=ed.out _ _ a9.out _ _ _ dh cy;clear cy dh))
        refine⟨⟨i+1,_,_,rfl,rfl,by go_num,by omega,d8⟩,by simp[intOf];omega⟩
       | false=>
        have cf:¬tk<=ck - y.lat:=by simpa using bi
        rw[if_neg cf,List.append_nil] at ap;clear bi;have dt:Hid (W5.ownsRow M 233 4 (.slice ka ak.length kc) ak.length (ak.flatMap fcC)):=ao.out.kept;have ci:Hid (∀O,M<=(W5.alloc O).heap.size):=λO=>by have:=ao.out.size;simp;omega
        have du:Hid (∀(Y:Wq) (v':Vq) (O:Obj),(W5.alloc O).grownBy Y (Value.slice ka ak.length kc).ownBlock->Y.ownsRow M 233 4 v' (ak.length+1) (ak.flatMap fcC++[St gk.rel,.slice u1 gk.args.length u2,Ii tk,.bool false])->qbl W2 M Y v' (.slice wa an.length wc) (qc9 y.win (ck - y.lat) (fs.take (i+1))) (qhi y.win (ck - y.lat) (fs.take (i+1)))):=λY v' O hg ho=>by
         rw[Qc5.out,ap.out];exact ao.out.addK bn.out ((gk,tk,false),.slice u1 gk.args.length u2) hg ho
        go_wp2_with (at_builtin;refine wpList_append_own _ rfl _ _ 219 rfl M 233 j0 _ 4 56 Tryz.underlying219 hj Qes Qet Qeu rfl (by decide) _ ak.length (ak.flatMap fcC) rfl (dt.out.alloc _) ⟨W5.heap.size,0,none⟩ 1 _ [St gk.rel,.slice u1 gk.args.length u2,Ii tk,.bool false] rfl rfl (qb1 _ _ _ _ _ _) (by simp[Value.oneCell']) (by unfold maxLen;omega) (by omega) (ci.out _) ?_;intro dd w1 az bj _;have a9:Hid _:=du.out _ _ _ bj az;clear az bj)
        refine⟨⟨i+1,_,_,rfl,rfl,by go_num,by omega,a9⟩,by simp[intOf];omega⟩
     .have i1:¬(i:Int) < (fs.length:Int):=by omega
      rw[List.take_of_length_le (by omega)] at ab cd co ⊢;obtain⟨ad,c2⟩:=ct.out wr ab.out.below;obtain⟨W6,b5⟩:∃W6,wr.setCell (Ad b 6) (.slice ka (qc9 y.win (ck - y.lat) fs).length kc)=W6:=⟨_,rfl⟩
      have bh:qcm W6 (qhs T W2 W6) b {y1 with facts:=qf6 y.win (ck - y.lat) y.facts} (.slice va qs.length vc) (.slice ka (qc9 y.win (ck - y.lat) fs).length kc) vn (.slice sa ss.length sc) (.slice da ds.length dc) qs (qc9 y.win (ck - y.lat) fs) ss ds/\Chg W W6 T/\qc3 W6 (.slice wa (qhi y.win (ck - y.lat) fs).length wc) (qhi y.win (ck - y.lat) fs):=by
       have am:∀k,k < wr.heap.size->k≠b->W6.heap[k]?=wr.heap[k]?:=λk _ hk=>by rw[<- b5];exact Below.heap_setCell wr ⟨b,6,none⟩ _ k hk
       have dw:W6.heap.size=wr.heap.size:=by rw[<- b5];simp
       have dy:=ab.out.below.size;have ea:∀k,T k->k < W2.heap.size:=bq.out.1.lt;have ac:∀k,T k->qhs T W2 W6 k:=λk hk=>.inl hk
       have bv:∀(u:Vq) {U m n:Nat} {xs:List Vq},wr.ownsRow M U m u n xs->∀k,u.ownBlock=some k->qhs T W2 W6 k:=λu _ _ _ _ hu k hk=>by
        obtain⟨h5,c,hc⟩:=qe hu hk;have h6:=(zg hc).1;have:=bn.out;exact .inr ⟨by omega,by omega⟩
       refine⟨ad.put ac (λk hk=>?_) am rfl rfl rfl ?_ (Qa (ad.row am (by decide) ab.out.kept) zz) (bv _ ab.out.kept) ?_ (λp hp=>?_) ⟨ad.row am (by decide) ad.state.row,λp hp=>ad.row am (by decide) (ad.state.each p hp)⟩ (λg hg=>ac g (ad.stateT g hg)) (by rw[ad.statem]) (λp hp g hg=>ac g (ad.statee p hp g hg)) (λg hg=>⟨λp hp=>?_,(ad.sepN g hg).2⟩),?_,⟨Qa (ad.row am (by decide) ab.out.now) zz,λp hp=>?_⟩⟩
       .rcases hk with hk | hk
        .have:=ea k hk;omega
        .exact hk.2
       .have hb:=ad.box;rw[<- b5];exact Qd hb 6 _
       .rw[qsf,HH.out.factsm]
       .obtain⟨q,hq,e1,e2⟩:=qnc hp;have:=ad.facte q hq;rw[e1,e2] at this;exact⟨ad.row am (by decide) this.1,λg hg=>ac g (this.2 g hg)⟩
       .obtain⟨q,hq,e1,e2⟩:=qnc hp;have:=(ad.sepN g hg).1 q hq;rw[e2] at this;exact this
       .rw[<- b5];exact c2.setCell _ _ (λ_=>HH.out.own)
       .obtain⟨q,hq,e1,e2⟩:=qv4 hp;have:=(ad.facte q hq).1;rw[e1,e2] at this;exact ad.row am (by decide) this
      have bo:Hid _:=bh;have z6:wr.frozen? (Ad b 6)=false:=by simp[World.frozen?,ad.box]
      have e0:W6.cell? (Ad b 0)=some (.slice va qs.length vc):=by simp[World.cell?,bh.1.box]
      have dg:Hid _:=qp1 qs (qhi y.win (ck - y.lat) fs) y.names (.slice va qs.length vc) (.slice wa (qhi y.win (ck - y.lat) fs).length wc) W6 bh.1.rules bh.2.2 (by have:=HZ.out.r8;rw[<- HH.out.rsm,List.length_map] at this;omega) (by omega) (by rw[HH.out.rsm];exact de.out.fine) (λp hp=>by
       rw[HH.out.rsm];obtain⟨q,hq,e1,e2⟩:=qv4 hp;rw[<- e1]
       exact de.out.gr q.1 (by rw[<- HH.out.factsm];exact List.mem_map.2 ⟨q,hq,rfl⟩))
      clear bh ad c2 ab co cd;go_wp2_with fail;refine Calls.mono dg.out ?_;clear dg;rintro e' W7 ⟨em,bc,rfl,al,ca⟩;obtain⟨ta,tc,dq⟩:=qo al.row;subst dq;rw[HH.out.rsm,q5p,HH.out.factsm] at ca;obtain⟨W8,b8⟩:∃W8,W7.setCell (Ad b 8) (.slice ta bc.length tc)=W8:=⟨_,rfl⟩;obtain⟨st,ab⟩:∃st,bc.map (·.1)=st:=⟨_,rfl⟩;rw[ab] at ca;have b9:Below W6.heap.size W6 W7:=al.below;have aa:=bo.out.1.below b9
      have b3:qcm W8 (qhs (qhs T W2 W6) W6 W8) b {y with clock:=ck,mark:=ck - y.lat,facts:=qf6 y.win (ck - y.lat) y.facts,state:=st} (.slice va qs.length vc) (.slice ka (qc9 y.win (ck - y.lat) fs).length kc) vn (.slice ta bc.length tc) (.slice da ds.length dc) qs (qc9 y.win (ck - y.lat) fs) bc ds/\Chg W W8 T/\qc3 W8 (.slice sa ss.length sc) ss:=by
       have aq:∀k,k < W7.heap.size->k≠b->W8.heap[k]?=W7.heap[k]?:=λk _ hk=>by rw[<- b8];exact Below.heap_setCell W7 ⟨b,8,none⟩ _ k hk
       have ep:W8.heap.size=W7.heap.size:=by rw[<- b8];simp
       have dy:=b9.size;have ac:∀k,qhs T W2 W6 k->qhs (qhs T W2 W6) W6 W8 k:=λk hk=>.inl hk
       have bv:∀(u:Vq) {U m n:Nat} {xs:List Vq},W7.ownsRow 0 U m u n xs->(∀k,u.ownBlock=some k->W6.heap.size<=k)->∀k,u.ownBlock=some k->qhs (qhs T W2 W6) W6 W8 k:=λu _ _ _ _ hu hl k hk=>by
        obtain⟨c,hc⟩:=qh hu hk;have h6:=(zg hc).1;exact .inr ⟨hl k hk,by omega⟩
       have Qd1:∀p∈bc,(∃q∈qc9 y.win (ck - y.lat) fs,q.2=p.2)\/∀g,p.2.ownBlock=some g->W6.heap.size<=g:=λp hp=>by
        rcases al.loc p hp with h5 | h5
        .obtain⟨q,hq,e⟩:=List.mem_map.1 h5;unfold qhi at hq;obtain⟨f,hf,rfl⟩:=List.mem_map.1 hq;exact .inl ⟨f,(List.mem_filter.1 hf).1,e⟩
        .exact .inr h5
       refine⟨aa.put ac (λk hk=>?_) aq (by rw[<- ag]) (by rw[<- ag]) (by rw[<- ag]) ?_ (aa.row aq (by decide) aa.facts) (λg hg=>ac g (aa.factsT g hg)) aa.factsm (λp hp=>⟨aa.row aq (by decide) (aa.facte p hp).1,λg hg=>ac g ((aa.facte p hp).2 g hg)⟩) ⟨Qa (aa.row aq (by decide) al.row) zz,λp hp=>aa.row aq (by decide) (al.each p hp)⟩ (bv _ (Qa al.row zz) (λk hk=>(qe al.row hk).1)) ab (λp hp g hg=>?_) (λg hg=>⟨(aa.sepN g hg).1,λp hp e=>?_⟩),?_,⟨aa.row aq (by decide) aa.state.row,λp hp=>aa.row aq (by decide) (aa.state.each p hp)⟩⟩
       .rcases hk with hk | hk
        .have:=aa.lt k hk;omega
        .exact hk.2
       .have hb:=aa.box;rw[<- b8];rw[<- ag] at hb;exact Qd hb 8 _
       .rcases Qd1 p hp with⟨q,hq,e⟩ | h5
        .rw[<- e] at hg;exact ac g ((aa.facte q hq).2 g hg)
        .exact bv p.2 (al.each p hp) h5 g hg
       .rcases Qd1 p hp with⟨q,hq,e'⟩ | h5
        .rw[<- e'] at e;exact (aa.sepN g hg).1 q hq e
        .have:=h5 g e;have:=bo.out.1.lt g (bo.out.1.namesT g hg);omega
       .rw[<- b8];exact (bo.out.2.1.trans (Chg.ofBelow _ b9)).setCell _ _ (λ_=>HH.out.own)
      have e8:W7.cell? (Ad b 8)=some (.slice sa ss.length sc):=by simp[World.cell?,aa.box]
      have z8:W7.frozen? (Ad b 8)=false:=by simp[World.frozen?,aa.box]
      have cw:W.heap.size<=W2.heap.size:=bq.out.2.size;have dw:W.heap.size<=W6.heap.size:=bo.out.2.1.size
      have cz:Hid (qan T b (qem y ck st 0) W W8/\qc3 W8 (.slice sa ss.length sc) ss):=by
       have cq:qem y ck st 0={y with clock:=ck,mark:=ck - y.lat,facts:=qf6 y.win (ck - y.lat) y.facts,state:=st}:=by unfold qem;simp
       show qan T b (qem y ck st 0) W W8/\_;rw[cq];refine⟨⟨⟨qhs (qhs T W2 W6) W6 W8,⟨_,_,_,_,_,_,_,_,_,b3.1⟩,λk hk=>?_⟩,b3.2.1⟩,b3.2.2⟩;rcases hk with (hk | hk) | hk
       .exact .inl hk
       .right;omega
       .right;omega
      have dr:Hid (qfc y.rs (qyk y.win (ck - y.lat) y.facts) y.names st):=ca;have el:ds.length=y.feeds.length:=by rw[<- HH.out.feedsm,List.length_map]
      have h3:=HZ.out.f3;have dx:Hid (ss.map (·.1)=y.state):=HH.out.statem;have ch:Hid (∀i,i<=y.feeds.length->(qem y ck st i).feeds.length=y.feeds.length):=λi hi=>by unfold qem;simp;omega
      have HCe:Hid (∀Y i,i<=y.feeds.length->qan T b (qem y ck st i) W Y->∃(xa:Option Addr) (xc:Nat),Y.cell? (Ad b 9)=some (.slice xa y.feeds.length xc)/\Y.cell? (Ad b 5)=some (Ii (ck - y.lat))):=λY i hi hP=>by
       obtain⟨⟨T',⟨et,en,vn',eu,e6,e9,e5,ey,eg,hv⟩,_⟩,_⟩:=hP;obtain⟨xa,xc,hx⟩:=qd hv.feeds;have hl:eg.length=y.feeds.length:=by rw[<- ch.out i hi,<- hv.feedsm,List.length_map]
       subst hx;rw[hl] at hv;exact⟨xa,xc,by simp[World.cell?,hv.box],by simp[World.cell?,hv.box];rfl⟩
      clear b3 aa al b9 ca;go_wp2_with fail
      go_loopw [11] (λp wr=>∃i:Nat,p=.int .i64 i/\i<=y.feeds.length/\Hid (qan T b (qem y ck st i) W wr/\qc3 wr (.slice sa ss.length sc) ss)) (λp _=>y.feeds.length - (intOf p).toNat)
      case atStart=>exact⟨0,rfl,zz,cz⟩
      case round=>
       clear cz e8 z8 e0 z6 d6 d1 d5;obtain⟨j,rfl,cj,hP⟩:=hrel;obtain⟨xa,xc,x9,x5⟩:=HCe.out wr j cj hP.out.1;by_cases ah:j < y.feeds.length
       .have i2:(j:Int) < (y.feeds.length:Int):=by omega
        have be:Hid (Cs 120 #[Pt b,Ii (j:Int),.slice sa ss.length sc] wr λe w'=>e=.returned (.tuple #[])/\Hid (qan T b (qem y ck st (j+1)) W w'/\qc3 w' (.slice sa ss.length sc) ss)):=by
         obtain⟨⟨⟨T',df,d0⟩,dv⟩,a8⟩:=hP.out
         have Qgj:(qem y ck st j).feeds[j]?=some y.feeds[j]:=by
          unfold qem;simp only;rw[List.getElem?_append_right (by simp;omega)];simp[Nat.min_eq_left cj]
         refine (dp.out j ah (ck - y.lat) st wr T' _ y.feeds[j] _ ss df Qgj a8 dx.out rfl rfl rfl).mono ?_;rintro e w' ⟨k1,k2,k3⟩
         have cc:{qem y ck st j with feeds:=(qem y ck st j).feeds.set j (qv1 y.que (ck - y.lat) y.state st y.feeds[j])}=qem y ck st (j+1):=by
          unfold qem;simp only[Er.mk.injEq,true_and];rw[List.set_append_right _ _ (by simp;omega)];simp only[List.length_map,List.length_take,Nat.min_eq_left cj,Nat.sub_self];rw[List.take_succ_eq_append_getElem ah,List.map_append,List.append_assoc,List.drop_eq_getElem_cons ah];rfl
         rw[cc] at k2;refine⟨k1,qan.trans' ⟨⟨df,d0⟩,dv⟩ k2,⟨qm a8.row (λg hg _=>?_),λp hp=>qm (a8.each p hp) (λg hg _=>?_)⟩⟩
         .obtain⟨c,hc⟩:=qh a8.row hg;exact k3 g c _ (by decide) (by decide) hc
         .obtain⟨c,hc⟩:=qh (a8.each p hp) hg;exact k3 g c _ (by decide) (by decide) hc
        clear hP;go_wp2_with fail;refine Calls.mono be.out ?_;rintro e' W9 ⟨rfl,ef⟩;clear be;go_wp2;refine⟨⟨j+1,by go_num,by omega,ef⟩,by simp[intOf];omega⟩
       .have i2:¬(j:Int) < (y.feeds.length:Int):=by omega
        have c7:j=y.feeds.length:=by omega
        have hT:Hid (qnt y _ (qem y ck st y.feeds.length) (ck - y.lat,0)):=HT.out _ _ (.inr ⟨dz.2.2,rfl,st,dr.out,by unfold qem;simp⟩);have d3:Hid (qan T b (qem y ck st y.feeds.length) W wr):=by rw[<- c7];exact hP.out.1
        clear hP c7;go_wp2;go_ret2
        exact qks.mk _ _ hT.out rfl d3.out)
 .have hT:Hid (qnt y c y (0,6)):=.inl ⟨hc,rfl,rfl⟩;have hS:Hid (∀Y,Below W.heap.size W Y->qan T b y W Y):=λY hY=>qan.same ⟨_,_,_,_,_,_,_,_,_,HH.out⟩ hY;by_cases ew:c < 0
  .clear hc;go_enter Tryz.func68,Tryz.ntmps68;go_wp2;go_ret2;exact qks.mk y (0,6) hT.out rfl (hS.out _ zr)
  .have fh:1000000 < c:=by omega
   clear hc;go_enter Tryz.func68,Tryz.ntmps68;go_wp2;go_ret2;exact qks.mk y (0,6) hT.out rfl (hS.out _ zr)
