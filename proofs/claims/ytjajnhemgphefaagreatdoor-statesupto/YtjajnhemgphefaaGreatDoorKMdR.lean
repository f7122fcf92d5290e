/- A part -/
import Derived.Test.YtjajnhemgphefaaGreatDoorKWyB
import Derived.Deep.CutRange
set_option linter.all false
set_option maxRecDepth 100000
set_option maxHeartbeats 16000000
namespace Go.Proofs.YtjajnhemgphefaaGreatDoor
open Go renaming World->Wq,Value->Vq
open Go.RowKit Go.Shelf
theorem Tryz.infoBind:(Tryz.prog.info? 239).map (λi=>(i.zero,i.size,i.bytes))=some (some (.slice none 0 0),1,24):=by kernel_rfl
theorem qyq(b:List By)(l:List (List By))(gs:List Gr):qb3 (b::l) gs=gs.map (λg=>(b,g))++qb3 l gs:=by unfold qb3;rw[List.flatMap_cons]
structure q98(N:Nat)(w X:Wq)(box:Array Vq)(lv:Vq)(ab:List (List By×Vq))(nv:Vq)(names:List By):Prop where
 below:Below N w X
 bx:X.heap[N]?=cC box 148
 l:qbw X lv ab
 nm:qt X nv names
 size:N < X.heap.size
theorem q6q(q:Rl×Vq×Vq)(ps:List (Am×Vq))(v:Vq)(gs:List (Gr×Vq))(P:Nat->List By->Prop)(w:Wq)(hA:qa5 w (q.1.head,q.2.1))(cd:Qz w q.2.2 ps)(ct:ps.map (·.1)=q.1.body)(hG:qc3 w v gs)(fe:ps.length<=3)(dq:gs.length<=2048)(ep:∀p∈gs,p.1.args.length<=1000)(hm:∀p∈(q.1.head,q.2.1)::ps,p.1.args.length<=1000/\∀t∈p.1.args,t.num < 8)(dt:(qa7 [] (qam (gs.map (·.1)))).length<=8)(hd:qii (qa7 [] (qam (gs.map (·.1)))))(hP:qw6 q.1 (qa7 [] (qam (gs.map (·.1)))) (gs.map (·.1)) P) :
  Cs 180 #[rlV q,v] w λe w'=>∃v' bs,e=.returned v'/\qbw w' v' bs/\bs.map (·.1)=qkq q.1 (gs.map (·.1))/\(∀p∈bs,P q.1.body.length p.1/\p.1.length=8)/\bs.length<=2048 ^ 3/\Below w.heap.size w w':=by
 obtain⟨i0,hi,d7,df,cw⟩:=info_parts Tryz.infoBind;unfold rlV;obtain⟨a1,a2,cn⟩:=qd hA;simp only at cn;obtain⟨b1,b2,cv⟩:=qd cd.row;rw[cn,cv];obtain⟨va,vc,rfl⟩:=qd hG.row;obtain⟨N,hN⟩:∃N,N=w.heap.size:=⟨_,rfl⟩;have b8:=hN.symm;obtain⟨names,ac⟩:∃names,names=qa7 [] (qam (gs.map (·.1))):=⟨_,rfl⟩;rw[<- ac] at dt hd hP;obtain⟨box,Qs⟩:∃box:Array Vq,box=#[St q.1.head.rel,.slice a1 q.1.head.args.length a2,.slice b1 ps.length b2]:=⟨_,rfl⟩;obtain⟨W0,bq⟩:∃W0,w.alloc (.cells #[St q.1.head.rel,.slice a1 q.1.head.args.length a2,.slice b1 ps.length b2] 148)=W0:=⟨_,rfl⟩;have d4:W0.heap.size=N+1:=by rw[<- bq];simp[b8]
 have dj:Below N w W0:=by rw[<- bq];exact (Below.refl _ w).alloc (by omega) _
 have dd:W0.heap[N]?=cC #[St q.1.head.rel,.slice a1 q.1.head.args.length a2,.slice b1 ps.length b2] 148:=by rw[<- bq,<- b8];exact zn w _
 have HX:Hid (∀X,Below N w X->qa5 X (q.1.head,.slice a1 q.1.head.args.length a2)/\Qz X (.slice b1 ps.length b2) ps/\qc3 X (.slice va gs.length vc) gs):=by
  intro X hX;have b5:Below w.heap.size w X:=by rw[b8];exact hX
  refine⟨by have:=hA.kept (Kp.ofBelow (S:=0) b5);rw[cn] at this;exact this,by have:=cd.below b5;rw[cv] at this;exact this,hG.below b5⟩
 have hT:Hid (qkq q.1 (gs.map (·.1))=(List.range ps.length).foldl (qcs q.1 names (gs.map (·.1))) [qao]):=by
  show _=_;unfold qkq;rw[<- ac,<- ct];simp
 have en:q.1.body.length=ps.length:=by rw[<- ct];simp
 rw[en];have Qef:=qk6 W0
 have Qgy:Hid (∀X,Below N w X->N<=X.heap.size->Cs 222 #[.slice va gs.length vc] X λe w'=>∃v',e=.returned v'/\qgc X.heap.size X w' v' names):=by
  intro X hX fj;have h:=q1n (.slice va gs.length vc) gs X (HX.out X hX).2.2 (by omega) ep (by rw[<- ac];omega);rw[<- ac] at h;exact h
 generalize qkq q.1 (gs.map (·.1))=T at *;rw[<- hN];have ek:Hid (Below N w W0):=dj;have Qfd:Hid _:=dd;have bt:Hid (W0.heap.size=N+1):=d4;have HMq:Hid _:=hm;have HPi:Hid _:=hP;have cy:Hid (ps.map (·.1)=q.1.body):=ct;clear hA cd hG hN dj dd ac Qs;go_enter Tryz.func180,Tryz.ntmps180;go_wp2_with fail;refine Qef.mono ?_;rintro e W1 ⟨vp,rfl,cj,bc⟩;obtain⟨pa,pc,rfl⟩:=qd cj;have dn:Below N w W1:=ek.out.trans (bc.mono (by rw[bt.out];omega));have c9:N < W1.heap.size:=by have:=bc.size;rw[bt.out] at this;omega
 obtain⟨W2,bb⟩:∃W2,W1.alloc (.cells #[.slice pa 8 pc] 239)=W2:=⟨_,rfl⟩;have av:Below N w W2:=by rw[<- bb];exact dn.alloc (by omega) _
 have be:Below W1.heap.size W1 W2:=by rw[<- bb];exact zr.alloc zl _
 have ev:N < W2.heap.size:=Nat.lt_of_lt_of_le c9 be.size;have d3:W2.heap[N]?=cC #[St q.1.head.rel,.slice a1 q.1.head.args.length a2,.slice b1 ps.length b2] 148:=(be.block N c9).trans ((bc.block N (by rw[bt.out];omega)).trans Qfd.out)
 have d8:qbw W2 (Sc W1.heap.size 1 1) [(qao,.slice pa 8 pc)]:=by
  refine⟨⟨rfl,.inr ⟨W1.heap.size,1,#[.slice pa 8 pc],rfl,zz,?_,Nat.le_refl _,by unfold maxLen;decide,rfl,rfl⟩⟩,λp hp=>?_⟩
  .rw[<- bb];exact zn W1 _
  .simp at hp;subst hp;exact qt.below (W:=W1) (Qa cj zz) be
 have Qd8:=Qgy.out W2 av (by omega);have dv:Hid (qbw W2 (Sc W1.heap.size 1 1) [(qao,.slice pa 8 pc)]):=d8;have c2:Hid (Below N w W2):=av;have Qcj:Hid _:=d3;clear Qef cj bc dn be d8 av d3 d4;go_wp2_with fail;refine Qd8.mono ?_;rintro e W3 ⟨nv,rfl,ao⟩;have fh:=ao.below.size;have ec:Below N w W3:=c2.out.trans (ao.below.mono (by omega));have db:q98 N w W3 #[St q.1.head.rel,.slice a1 q.1.head.args.length a2,.slice b1 ps.length b2] (Sc W1.heap.size 1 1) [(qao,.slice pa 8 pc)] nv names:=⟨ec,(ao.below.block N ev).trans Qcj.out,dv.out.below ao.below,Qa ao.own zz,by omega⟩;have Qco:Hid _:=db;obtain⟨na,nc,ej⟩:=qd ao.own;subst ej;clear ao ec db Qd8 dv c2 Qcj bb;go_wp2
 go_loopw [5,7] (λo p wr=>∃(i:Nat) (lv:Vq) (ab:List (List ByteArray×Vq)),lv=o/\p=.int .i64 i/\i<=ps.length/\q98 N w wr #[.string q.1.head.rel,.slice a1 q.1.head.args.length a2,.slice b1 ps.length b2] lv ab (.slice na names.length nc) names/\ab.length<=2048 ^ i/\Hid (∀p∈ab,P i p.1/\p.1.length=8)/\Hid (((List.range ps.length).drop i).foldl (qcs q.1 names (gs.map (·.1))) (ab.map (·.1))=T)) (λ_ p _=>ps.length - (intOf p).toNat)
 case atStart=>
  refine⟨0,_,_,rfl,rfl,zz,Qco.out,by simp,λp hp=>?_,hT.out.symm⟩;simp at hp;subst hp;exact⟨HPi.out.start,rfl⟩
 case round=>
  clear Qco;obtain⟨i,lv,ab,rfl,rfl,e9,hO,a7,ce,au⟩:=hrel;obtain⟨la,lc,ei⟩:=qd hO.l.row;subst ei;have x2:wr.cell? (Ad N 2)=some (.slice b1 ps.length b2):=by simp[World.cell?,hO.bx]
  by_cases an:i < ps.length
  .obtain⟨g,ag,e1,Qgl,d0,d1,⟨y1,y2,hy⟩,cu⟩:=(HX.out wr hO.below).2.1.cell i an;cases e1
   have Qdh:ps.length<=b2:=by
    obtain⟨_,⟨hv,hn⟩ | ⟨g',d5,es,hv,_,_,h1,_⟩⟩:=(HX.out wr hO.below).2.1.row
    .cases hv
    .cases hv;exact h1
   have dh:Hid (∀X,Below N w X->qms X (q.1,.slice a1 q.1.head.args.length a2,Sc g ps.length b2) g b2 ps):=by
    intro X hX;obtain⟨h1,h2,_⟩:=HX.out X hX;exact⟨h1,h2.at,cy.out,rfl,Qdh⟩
   have cp:∀p∈(q.1.head,Value.slice a1 q.1.head.args.length a2)::ps,p.1.args.length<=1000000/\∀t∈p.1.args,t.num<=1000000:=by
    intro p hp;rcases List.mem_cons.1 hp with rfl | hp
    .have:=HMq.out (q.1.head,q.2.1) zs;exact⟨by have:=this.1;simp only at this ⊢;omega,λt ht=>by have:=this.2 t ht;omega⟩
    .have:=HMq.out p (zt hp);exact⟨by have:=this.1;omega,λt ht=>by have:=this.2 t ht;omega⟩
   have HLo:Hid (∀X,Below N w X->Cs 223 #[.agg #[St q.1.head.rel,.slice a1 q.1.head.args.length a2,Sc g ps.length b2],Ii i] X λe w'=>e=.returned (.bool (qds q.1 i))/\Below X.heap.size X w'):=by
    intro X hX;exact q5j (q.1,.slice a1 q.1.head.args.length a2,Sc g ps.length b2) g b2 ps i X (dh.out X hX) an (by omega) cp
   have HLe:Hid (∀X (vb:Vq) (b:List By),Below N w X->qt X vb b->b.length=8->Cs 225 #[vb,.agg #[St q.1.head.rel,.slice a1 q.1.head.args.length a2,Sc g ps.length b2],Ii i] X λe w'=>∃v',e=.returned v'/\w'.ownsRow X.heap.size 9 1 v' (qa1 q.1 i b).length ((qa1 q.1 i b).map Value.string)/\Below X.heap.size X w'):=by
    intro X vb b hX hb bd;exact q5h (q.1,.slice a1 q.1.head.args.length a2,Sc g ps.length b2) g b2 ps i vb b X (dh.out X hX) hb (by omega) (by omega) an (by omega) cp
   have b4:q.1.body[i]?=some ps[i].1:=by
    rw[<- cy.out,List.getElem?_map,List.getElem?_eq_getElem an];rfl
   have dc:=λ(gd:Gr) (b c:List By)=>HPi.out.step i ps[i].1 gd b c b4;have ed:=HMq.out ps[i] (zt (zm an))
   have eb:((List.range ps.length).drop i)=i::((List.range ps.length).drop (i+1)):=by
    rw[List.drop_eq_getElem_cons (by simpa using an)];simp
   rw[eb,List.foldl_cons] at au
   have dm:qcs q.1 names (gs.map (·.1)) (ab.map (·.1)) i=((qb3 (ab.map (·.1)) (gs.map (·.1))).foldl (Qu q.1 i names ps[i].1) (List.replicate 4096 false,[])).2:=by
    unfold qcs;rw[b4]
   rw[dm] at au;generalize hFF:(qb3 (ab.map (·.1)) (gs.map (·.1))).foldl (Qu q.1 i names ps[i].1) (List.replicate 4096 false,[])=FF at *;have el:Hid ((qb3 ((ab.drop 0).map (·.1)) (gs.map (·.1))).foldl (Qu q.1 i names ps[i].1) (List.replicate 4096 false,[])=FF):=hFF
   have HAi:Hid (∀X,Below N w X->qa5 X ps[i]/\X.cell? (Ad g (i*2))=some (St ps[i].1.rel)/\X.cell? (Ad g (i*2+1))=some ps[i].2):=by
    intro X hX;obtain⟨g',ag,e1,_,d0,d1,_,cu⟩:=(HX.out X hX).2.1.cell i an;cases e1;exact⟨cu,d0,d1⟩
   rw[hy] at HAi
   have HY:Hid (ps[i]=(ps[i].1,.slice y1 ps[i].1.args.length y2)):=by
    show _=_;rw[<- hy]
   have x0:wr.cell? (Ad N 0)=some (St q.1.head.rel):=by simp[World.cell?,hO.bx]
   have x1:wr.cell? (Ad N 1)=some (.slice a1 q.1.head.args.length a2):=by simp[World.cell?,hO.bx]
   have dz:=HLo.out wr hO.below;have ey:i<=2:=by omega
   have Qh5:ab.length<=4194304:=Nat.le_trans a7 (Nat.le_trans (Nat.pow_le_pow_right (by decide) ey) (by decide));have eu:Hid (ab.length<=2048 ^ i):=a7;have HO:Hid (q98 N w wr #[St q.1.head.rel,.slice a1 q.1.head.args.length a2,Sc g ps.length b2] (.slice la ab.length lc) ab (.slice na names.length nc) names):=hO;have Qfi:Hid _:=dc;have HMi:Hid _:=ed;clear eb dm hFF cp cu b4 dc ed d0 d1 hy hO a7 Qgl;go_wp2_with fail;refine dz.mono ?_;rintro e W5 ⟨rfl,bi⟩;have c5:=q49 W5;clear dz;go_wp2_with fail;refine c5.mono ?_;rintro e W6 ⟨rfl,dx,b9⟩;have c3:N < W5.heap.size:=Nat.lt_of_lt_of_le HO.out.size bi.size;have em:=b9.size
   have bu:qgd N W6.heap.size W5.heap.size w W6 #[St q.1.head.rel,.slice a1 q.1.head.args.length a2,Sc g ps.length b2] (.slice la ab.length lc) ab (.slice na names.length nc) names (List.replicate 4096 false) (.slice none 0 0) []:=by
    have a6:Below wr.heap.size wr W6:=bi.trans (b9.mono bi.size);have eg:=HO.out.size
    have c4:W6.heap[W5.heap.size]?=some (Obj.cells ((List.replicate 4096 false).map Value.bool).toArray 4):=by
     obtain⟨_,⟨hv,_⟩ | ⟨g',ag,es,hv,_,hh,h1,h2,h3,h4⟩⟩:=dx
     .cases hv
     .cases hv;rw[hh];congr 2;rw[<- Array.toList_inj];simp only[Nat.mul_one] at h3 h4;have e:(List.replicate 4096 false).map Value.bool=List.replicate 4096 (.bool false):=by rw[List.map_replicate]
      rw[e,<- h4,List.take_of_length_le (by simp[h3])]
    exact⟨HO.out.below.trans (a6.mono (by omega)),(a6.block N eg).trans HO.out.bx,HO.out.l.below a6,λg' cm=>by have:=(Qe HO.out.l.row g' cm).2.1;have:=a6.size;omega,qt.below HO.out.nm a6,c4,⟨c3,(zg c4).1,Nat.le_refl _⟩,zo,λp hp=>by cases hp⟩
   obtain⟨S,hS⟩:∃S,W6.heap.size=S:=⟨_,rfl⟩;obtain⟨sb,e6⟩:∃sb,W5.heap.size=sb:=⟨_,rfl⟩;rw[hS,e6] at bu;have dg:Hid (qgd N S sb w W6 #[St q.1.head.rel,.slice a1 q.1.head.args.length a2,Sc g ps.length b2] (.slice la ab.length lc) ab (.slice na names.length nc) names (List.replicate 4096 false) (.slice none 0 0) []):=bu;obtain⟨ai,ae⟩:∃ai,qds q.1 i=ai:=⟨_,rfl⟩;rw[ae];have bf:Hid (qds q.1 i=ai):=ae;clear bu c5 dx b9 bi HO c3 em hS ae;go_wp2
   go_loopw [10,11] (λo p wr=>∃(k:Nat) (vx:Vq) (nx:List (List ByteArray×Vq)) (aa:List Bool),vx=o/\p=.int .i64 k/\k<=ab.length/\qgd N S sb w wr #[.string q.1.head.rel,.slice a1 q.1.head.args.length a2,.slice (some ⟨g,0,none⟩) ps.length b2] (.slice la ab.length lc) ab (.slice na names.length nc) names aa vx nx/\Hid (aa.length=4096)/\nx.length<=k*gs.length/\Hid (∀p∈nx,P (i+1) p.1/\p.1.length=8)/\Hid ((qb3 ((ab.drop k).map (·.1)) (gs.map (·.1))).foldl (Qu q.1 i names ps[i].1) (aa,nx.map (·.1))=FF)) (λ_ p _=>ab.length - (intOf p).toNat)
   case atStart=>exact⟨0,_,[],List.replicate 4096 false,rfl,rfl,zz,dg.out,by show _=_;simp,by simp,λp hp=>by (cases hp),el⟩
   case round=>
    clear dg;obtain⟨k,vx,nx,aa,rfl,rfl,fl,hW,ah,az,af,ap⟩:=hrel;by_cases a9:k < ab.length
    .obtain⟨gl,ag,e1,Qgm,_,⟨u1,u2,hu⟩,_⟩:=hW.l.cell k a9;cases e1;have d2:=ce.out ab[k] (zm a9)
     have HLk:Hid (∀(X:Wq) (sn:List Bool) (vy:Vq) (ny:List (List By×Vq)),qgd N S sb w X #[St q.1.head.rel,.slice a1 q.1.head.args.length a2,Sc g ps.length b2] (Sc gl ab.length lc) ab (.slice na names.length nc) names sn vy ny->X.cell? (Ad gl k)=some ab[k].2/\qt X ab[k].2 ab[k].1):=by
      intro X sn vy ny hX;obtain⟨g',c',e',_,h1,_,h2⟩:=hX.l.cell k a9
      cases e'
      exact⟨h1,h2⟩
     rw[List.drop_eq_getElem_cons a9,List.map_cons,qyq,List.map_map] at ap;have dk:Hid (((gs.drop 0).map (λp=>(ab[k].1,p.1))++qb3 ((ab.drop (k+1)).map (·.1)) (gs.map (·.1))).foldl (Qu q.1 i names ps[i].1) (aa,nx.map (·.1))=FF):=ap;rw[hu] at HLk;have HPb:Hid (P i ab[k].1/\ab[k].1.length=8):=d2;generalize ab[k].1=b at *;have HW:Hid (qgd N S sb w wr #[St q.1.head.rel,.slice a1 q.1.head.args.length a2,Sc g ps.length b2] (Sc gl ab.length lc) ab (.slice na names.length nc) names aa vx nx):=hW;clear hW ap hu d2 Qgm;go_wp2
     go_loopw [10,12] (λo p wr=>∃(j:Nat) (vx:Vq) (nx:List (List ByteArray×Vq)) (aa:List Bool),vx=o/\p=.int .i64 j/\j<=gs.length/\qgd N S sb w wr #[.string q.1.head.rel,.slice a1 q.1.head.args.length a2,.slice (some ⟨g,0,none⟩) ps.length b2] (.slice (some ⟨gl,0,none⟩) ab.length lc) ab (.slice na names.length nc) names aa vx nx/\Hid (aa.length=4096)/\nx.length<=k*gs.length+j/\Hid (∀p∈nx,P (i+1) p.1/\p.1.length=8)/\Hid (((gs.drop j).map (λp=>(b,p.1))++qb3 ((ab.drop (k+1)).map (·.1)) (gs.map (·.1))).foldl (Qu q.1 i names ps[i].1) (aa,nx.map (·.1))=FF)) (λ_ p _=>gs.length - (intOf p).toNat)
     case atStart=>exact⟨0,_,nx,aa,rfl,rfl,zz,HW.out,ah,by omega,af,dk⟩
     case round=>
      clear HW dk ah az af;obtain⟨j,vx,nx,aa,rfl,rfl,Qh3,hW,ah,az,af,ad⟩:=hrel;by_cases b7:j < gs.length
      .obtain⟨gg,ag,e1,fb,s0,s1,⟨t1,t2,ht⟩,de⟩:=(HX.out wr hW.below).2.2.cell j b7;cases e1;obtain⟨lk0,Qd0⟩:=HLk.out wr aa vx nx hW;obtain⟨Qcz,c0,c1⟩:=HAi.out wr hW.below;have x2:wr.cell? (Ad N 2)=some (Sc g ps.length b2):=by simp[World.cell?,hW.bx]
       have c8:Hid (∀d,Cs 123 #[.agg #[St ps[i].1.rel,.slice y1 ps[i].1.args.length y2],.agg #[St gs[j].1.rel,.slice t1 gs[j].1.args.length t2],.slice u1 b.length u2] (wr.drewN d) λe w'=>qij ps[i].1 gs[j].1 b (.slice u1 b.length u2) wr.heap.size e w'/\Below wr.heap.size wr w'):=by
        intro d;have bh:Below wr.heap.size wr (wr.drewN d):=qu (Below.refl _ wr);have Qfs:qa5 (wr.drewN d) (ps[i].1,.slice y1 ps[i].1.args.length y2):=qa5.kept (S:=0) (p:=(ps[i].1,.slice y1 ps[i].1.args.length y2)) (by rw[<- HY.out];exact Qcz) (Kp.ofBelow bh);have h:=qzg (ps[i].1,.slice y1 ps[i].1.args.length y2) gs[j] (.slice u1 b.length u2) b (wr.drewN d) Qfs (de.below bh) (qt.below Qd0 bh) (HMi.out.1) (by rw[HPb.out.2];decide) (by rw[HPb.out.2];decide) (λt e0=>by rw[HPb.out.2];exact HMi.out.2 t e0);unfold gdV at h;rw[ht] at h;refine h.mono ?_;rintro e w' ⟨h1,h2⟩;exact⟨h1,bh.trans h2⟩
       rw[List.drop_eq_getElem_cons b7,List.map_cons,List.cons_append,List.foldl_cons] at ad;have dl:=λc=>Qfi.out gs[j].1 b c (List.mem_map.2 ⟨gs[j],List.getElem_mem b7,rfl⟩) HPb.out.1;rw[ht] at s1;have HW:Hid (qgd N S sb w wr #[St q.1.head.rel,.slice a1 q.1.head.args.length a2,Sc g ps.length b2] (Sc gl ab.length lc) ab (.slice na names.length nc) names aa vx nx):=hW;have HPj:Hid _:=dl;have fi:N < wr.heap.size:=by have:=hW.nS;omega
       clear hW de ht Qcz Qd0 dl;obtain⟨fg,ef⟩:∃fg,qcd ps[i].1 gs[j].1 b=fg:=⟨_,rfl⟩;have ci:Hid (qcd ps[i].1 gs[j].1 b=fg):=ef;clear ef
       have dp:Hid (∀d,Cs 123 #[.agg #[St ps[i].1.rel,.slice y1 ps[i].1.args.length y2],.agg #[St gs[j].1.rel,.slice t1 gs[j].1.args.length t2],.slice u1 b.length u2] (wr.drewN d) λe w'=>∃v' ok,e=.returned (.tuple #[v',.bool ok])/\(fg=none->ok=false)/\(∀c,fg=some c->ok=true/\w'.ownsRow wr.heap.size 9 1 v' c.length (c.map Value.string))/\Below wr.heap.size wr w'):=by
        intro d;refine (c8.out d).mono ?_;rintro e w' ⟨h1,h2⟩;unfold qij at h1;rw[ci.out] at h1
        cases fg with
        | none=>exact⟨_,_,h1,λ_=>rfl,(λc hc=>by cases hc),h2⟩
        | some c=>
         obtain⟨v',h3,h4⟩:=h1;exact⟨v',true,h3,(λhc=>by cases hc),(λc' hc=>by cases hc;exact⟨rfl,h4⟩),h2⟩
       clear c8;generalize ps[i].1.rel=pr at *;generalize ps[i].1.args.length=pal at *;generalize gs[j].1.rel=gr at *;generalize gs[j].1.args.length=gal at *
       go_upto_region 15 with fail
       go_cut [13,14] from 37 to 80 (λe7 dr wx=>Below wr.heap.size wr wx/\(fg=none->dr=.bool false)/\(∀c,fg=some c->dr=.bool true/\wx.ownsRow wr.heap.size 9 1 e7 c.length (c.map Value.string)))
       case first=>
        go_region_with (go_at_call 123;refine (dp.out 1).mono ?_;rintro e w2 ⟨vf,ok,rfl,ew,ea,av⟩)
        all_goals
         go_wp2_with fail
         go_meet
         case rel=>exact⟨av,λh=>by rw[ew h],λc hc=>⟨by rw[(ea c hc).1],(ea c hc).2⟩⟩
       case rest=>
        obtain⟨aw,bo,a8⟩:=hcut;have am:=HW.out.grows aw;have HWc:Hid (qgd N S sb w wc #[St q.1.head.rel,.slice a1 q.1.head.args.length a2,Sc g ps.length b2] (Sc gl ab.length lc) ab (.slice na names.length nc) names aa vx nx):=am;have fc:=aw.size
        have fa:nx.length<=4194304*2048:=by
         have h1:k*gs.length<=4194303*2048:=Nat.mul_le_mul (by omega) dq;omega
        have da:nx.length+1<=maxLen:=by unfold maxLen;omega
        have c6:(nx.length+1)*24<=140737488355328:=by omega
        have bn:Hid (∀O,S<=(wc.alloc O).heap.size):=λO=>by have:=am.nS;simp;omega
        clear dp HW
        cases hfgc:fg with
        | none=>
         have Qbh:=bo hfgc;have al:Qu q.1 i names ps[i].1 (aa,nx.map (·.1)) (b,gs[j].1)=(aa,nx.map (·.1)):=by unfold Qu;simp only[ci.out,hfgc]
         rw[al] at ad;subst Qbh;clear bo a8 al aw am;go_wp2
         go_roundw
         case rel=>exact⟨j+1,vx,nx,aa,rfl,by go_num,by omega,HWc.out,ah,by omega,af,ad⟩
         case measure=>simp[intOf];omega
        | some c=>
         obtain⟨Qbh,qq⟩:=a8 c hfgc;subst Qbh;have aq:qcd ps[i].1 gs[j].1 b=some c:=ci.out.trans hfgc;have cq:Hid (c.length=8):=(q3s _ _ _ _ aq).trans HPb.out.2;obtain⟨ck,cb⟩:=HPj.out c aq
         cases ai with
         | false=>
          have al:Qu q.1 i names ps[i].1 (aa,nx.map (·.1)) (b,gs[j].1)=(aa,nx.map (·.1)++[c]):=by
           unfold Qu;simp only[aq,bf.out];simp
          rw[al] at ad;have ay:=cb bf.out;have ax:=Qa qq zz;obtain⟨ca,cc,cr⟩:=qd qq;subst cr;have e2:Hid (qt wc (.slice ca c.length cc) c):=ax;have cg:∀u∈[Value.slice ca c.length cc],u.oneCell'=true:=by simp[Value.oneCell']
          have Qap:Hid (∀p∈nx++[(c,Value.slice ca c.length cc)],P (i+1) p.1/\p.1.length=8):=by
           intro p hp;rcases List.mem_append.1 hp with hp | hp
           .exact af.out p hp
           .simp at hp;subst hp;exact⟨ay,cq.out⟩
          have Qbm:Hid (((gs.drop (j+1)).map (λp=>(b,p.1))++qb3 ((ab.drop (k+1)).map (·.1)) (gs.map (·.1))).foldl (Qu q.1 i names ps[i].1) (aa,(nx++[(c,Value.slice ca c.length cc)]).map (·.1))=FF):=by
           show _=_;rw[<- ad.out];simp
          clear bo a8 al aw am qq ax aq ck cb ay ad af
          go_wp2_with (at_builtin;refine wpList_append_own _ rfl (.tmp 77) (.tmp 79) 304 rfl S 239 i0 (.slice none 0 0) 1 24 Tryz.underlying304 hi d7 df cw rfl (by decide) _ _ _ rfl (HWc.out.xown.alloc _) ⟨wc.heap.size,0,none⟩ 1 1 [.slice ca c.length cc] rfl rfl (qcl _ _ _) cg da c6 (bn.out _) ?_;intro cl w1 b0 co _;have bv:Hid _:=HWc.out.app c (.slice ca c.length cc) e2.out co b0)
          go_roundw
          case rel=>exact⟨j+1,cl,_,aa,rfl,by go_num,by omega,bv.out,ah,by simp;omega,Qap,Qbm⟩
          case measure=>simp[intOf];omega
         | true=>
          obtain⟨ay,ff⟩:=ck bf.out;have ax:=Qa qq zz;have dw:=HLe.out wc _ c HWc.out.below ax cq.out;obtain⟨ca,cc,cr⟩:=qd qq;subst cr
          have al:Qu q.1 i names ps[i].1 (aa,nx.map (·.1)) (b,gs[j].1)=if aa.getD (qhg names (qa1 q.1 i c)) false=true then (aa,nx.map (·.1)) else (aa.set (qhg names (qa1 q.1 i c)) true,nx.map (·.1)++[qa1 q.1 i c]):=by
           unfold Qu;simp only[aq,bf.out];simp
          rw[al] at ad;have cz:Hid ((qa1 q.1 i c).length=8):=(q1c _ _ _).trans cq.out;generalize qa1 q.1 i c=c' at *;have fm:wc.cell? (Ad N 0)=some (St q.1.head.rel):=by simp[World.cell?,am.bx]
          have fk:wc.cell? (Ad N 1)=some (.slice a1 q.1.head.args.length a2):=by simp[World.cell?,am.bx]
          have e8:wc.cell? (Ad N 2)=some (Sc g ps.length b2):=by simp[World.cell?,am.bx]
          clear bo a8 al aw am qq ax aq ck cb bn;go_wp2_with fail;refine dw.mono ?_;rintro e W7 ⟨v7,rfl,b6,di⟩;have cf:=HWc.out.grows di;have ch:qt W7 v7 c':=Qa b6 zz;have c7:=q73 v7 (.slice na names.length nc) c' names W7 ch cf.nm (by have:=cz.out;omega) dt hd;obtain⟨ak,aj,eh⟩:=qd b6;subst eh;have e4:Hid (qgd N S sb w W7 #[St q.1.head.rel,.slice a1 q.1.head.args.length a2,Sc g ps.length b2] (Sc gl ab.length lc) ab (.slice na names.length nc) names aa vx nx):=cf;have e5:Hid (qt W7 (.slice ak c'.length aj) c'):=ch;generalize qhg names c'=kn at *;clear dw b6 di cf ch;go_wp2_with fail;refine c7.mono ?_;rintro e W8 ⟨rfl,bd⟩;have bk:=e4.out.grows bd;have dy:Hid (qt W8 (.slice ak c'.length aj) c'):=qt.below e5.out bd;have b3:Hid (qgd N S sb w W8 #[St q.1.head.rel,.slice a1 q.1.head.args.length a2,Sc g ps.length b2] (Sc gl ab.length lc) ab (.slice na names.length nc) names aa vx nx):=bk;have Qg6:aa.length=4096:=ah.out;have k8:W8.cell? (Ad sb kn)=some (.bool (aa.getD kn false)):=by simp[World.cell?,bk.sn,List.getElem?_eq_getElem (show kn < aa.length by omega)]
          have f8:W8.frozen? (Ad sb kn)=false:=by simp[World.frozen?,bk.sn]
          clear c7 bd bk Qg6
          cases hsd:aa.getD kn false with
          | true=>
           rw[hsd] at k8 ad;simp only[if_true] at ad;go_wp2
           go_roundw
           case rel=>exact⟨j+1,vx,nx,aa,rfl,by go_num,by omega,b3.out,ah,by omega,af,ad⟩
           case measure=>simp[intOf];omega
          | false=>
           rw[hsd] at k8 ad;simp only[Bool.false_eq_true,if_false] at ad;have hM:=b3.out.mark kn;have HM:Hid (qgd N S sb w (W8.setCell (Ad sb kn) (.bool true)) #[St q.1.head.rel,.slice a1 q.1.head.args.length a2,Sc g ps.length b2] (Sc gl ab.length lc) ab (.slice na names.length nc) names (aa.set kn true) vx nx):=hM;have Qg7:Hid ((aa.set kn true).length=4096):=by show _=_;rw[List.length_set];exact ah.out
           have bn:Hid (∀O,S<=((W8.setCell (Ad sb kn) (.bool true)).alloc O).heap.size):=λO=>by have:=hM.nS.2.2;simp at this ⊢;omega
           have cg:∀u∈[Value.slice ak c'.length aj],u.oneCell'=true:=by simp[Value.oneCell']
           have et:Hid (qt (W8.setCell (Ad sb kn) (.bool true)) (.slice ak c'.length aj) c'):=by
            refine qm dy.out (λg' cm _=>Below.heap_setCell _ _ _ _ (λe=>?_));obtain⟨cx,du⟩:=qh dy.out cm;simp at e;subst e;rw[b3.out.sn] at du;cases du
           have Qfw:Hid (∀(x:Vq) (t:TypeId) (i:Nat) (u:Vq),[x][i]?=some u->((W8.setCell (Ad sb kn) (.bool true)).alloc (.cells #[x] t)).cell? ((⟨W8.heap.size,0,none⟩:Addr).add i)=some u):=by
            intro x t i u hu;have:=qcl (W8.setCell (Ad sb kn) (.bool true)) x t i u hu;simpa using this
           have Qap:Hid (∀p∈nx++[(c',Value.slice ak c'.length aj)],P (i+1) p.1/\p.1.length=8):=by
            intro p hp;rcases List.mem_append.1 hp with hp | hp
            .exact af.out p hp
            .simp at hp;subst hp;exact⟨ay,cz.out⟩
           have Qbm:Hid (((gs.drop (j+1)).map (λp=>(b,p.1))++qb3 ((ab.drop (k+1)).map (·.1)) (gs.map (·.1))).foldl (Qu q.1 i names ps[i].1) (aa.set kn true,(nx++[(c',Value.slice ak c'.length aj)]).map (·.1))=FF):=by
            show _=_;rw[<- ad.out];simp
           clear hM ad af ay
           go_wp2_with (at_builtin;refine wpList_append_own _ rfl (.tmp 77) (.tmp 79) 304 rfl S 239 i0 (.slice none 0 0) 1 24 Tryz.underlying304 hi d7 df cw rfl (by decide) _ _ _ rfl (HM.out.xown.alloc _) ⟨W8.heap.size,0,none⟩ 1 1 [.slice ak c'.length aj] rfl rfl (Qfw.out _ _) cg da c6 (bn.out _) ?_;intro cl w1 b0 co _;have bv:Hid _:=HM.out.app c' (.slice ak c'.length aj) et.out co b0)
           go_roundw
           case rel=>exact⟨j+1,cl,_,aa.set kn true,rfl,by go_num,by omega,bv.out,Qg7,by simp;omega,Qap,Qbm⟩
           case measure=>simp[intOf];omega
      .rw[List.drop_eq_nil_of_le (by omega)] at ad;simp only[List.map_nil,List.nil_append] at ad;have eo:j=gs.length:=by omega
       have bj:nx.length<=(k+1)*gs.length:=by rw[Nat.succ_mul];omega
       have HW:Hid (qgd N S sb w wr #[St q.1.head.rel,.slice a1 q.1.head.args.length a2,Sc g ps.length b2] (Sc gl ab.length lc) ab (.slice na names.length nc) names aa vx nx):=hW;clear hW eo az;go_wp2
       go_roundw
       case rel=>exact⟨k+1,vx,nx,aa,rfl,by go_num,by omega,HW.out,ah,bj,af,ad⟩
       case measure=>simp[intOf];omega
    .rw[List.drop_eq_nil_of_le (by omega)] at ap;have d9:FF=(aa,nx.map (·.1)):=by rw[<- ap.out];rfl
     have ez:Hid (((List.range ps.length).drop (i+1)).foldl (qcs q.1 names (gs.map (·.1))) (nx.map (·.1))=T):=by
      have:=au.out;rw[d9] at this;exact this
     have d6:k=ab.length:=by omega
     have bj:nx.length<=2048 ^ (i+1):=by
      rw[Nat.pow_succ];refine Nat.le_trans az ?_;rw[d6];exact Nat.mul_le_mul eu.out dq
     have e3:Hid _:=bj;have HW:Hid (qgd N S sb w wr #[St q.1.head.rel,.slice a1 q.1.head.args.length a2,Sc g ps.length b2] (.slice la ab.length lc) ab (.slice na names.length nc) names aa vx nx):=hW;clear d9 d6 bj ap hW az;go_wp2
     go_roundw
     case rel=>exact⟨i+1,vx,nx,rfl,by go_num,by omega,⟨HW.out.below,HW.out.bx,⟨Qa HW.out.xown zz,HW.out.each⟩,HW.out.nm,by have:=HW.out.nS;omega⟩,e3.out,af,ez⟩
     case measure=>simp[intOf];omega
  .have ee:i=ps.length:=by omega
   have q7:ab.map (·.1)=T:=by
    have:=au.out;rw[List.drop_eq_nil_of_le (by simp;omega)] at this;exact this
   have HR:Hid (ab.map (·.1)=T/\(∀p∈ab,P ps.length p.1/\p.1.length=8)/\ab.length<=2048 ^ 3):=by
    refine⟨q7,by rw[<- ee];exact ce.out,Nat.le_trans a7 (Nat.pow_le_pow_right (by decide) (by omega))⟩
   have HO:Hid _:=hO;clear q7 ee hO au ce a7;go_wp2;go_ret;exact⟨_,ab,rfl,HO.out.l,HR.out.1,HR.out.2.1,HR.out.2.2,HO.out.below⟩
