/- The document's own answer: what the variables of a rule's -/
import Derived.Test.YtjajnhemgphefaaGreatDoorJWyB
import Derived.Deep.CutRange
set_option linter.unusedVariables false
set_option linter.unusedSimpArgs false
set_option maxRecDepth 100000
set_option maxHeartbeats 16000000
namespace Go.Proofs.YtjajnhemgphefaaGreatDoor
open Go renaming World->Wq,Value->Vq
open Go.RowKit Go.Shelf
theorem Tryz.infoBind:(Tryz.prog.info? 239).map (λi=>(i.zero,i.size,i.bytes))=some (some (.slice none 0 0),1,24):=by kernel_rfl
theorem qx4(b:List ByteArray)(l:List (List ByteArray))(gs:List Gr):qb3 (b::l) gs=gs.map (λg=>(b,g))++qb3 l gs:=by unfold qb3;rw[List.flatMap_cons]
structure q8v(N:Nat)(w X:Wq)(box:Array Vq)(lv:Vq)(lps:List (List ByteArray×Vq))(nv:Vq)(names:List ByteArray):Prop where
 below:Below N w X
 bx:X.heap[N]?=some (Obj.cells box 148)
 l:qbx X lv lps
 nm:qu X nv names
 size:N < X.heap.size
theorem q5l(q:Rl×Vq×Vq)(ps:List (Am×Vq))(v:Vq)(gs:List (Gr×Vq))(P:Nat->List ByteArray->Prop)(w:Wq)(hA:qa7 w (q.1.head,q.2.1))(hAs:Qy w q.2.2 ps)(hps:ps.map (·.1)=q.1.body)(hG:qcu w v gs)(hpl:ps.length<=3)(hgl:gs.length<=2048)(hga:∀p∈gs,p.1.args.length<=1000)(hm:∀p∈(q.1.head,q.2.1)::ps,p.1.args.length<=1000/\∀t∈p.1.args,t.num < 8)(hn8:(qa8 [] (qan (gs.map (·.1)))).length<=8)(hd:qh9 (qa8 [] (qan (gs.map (·.1)))))(hP:qwk q.1 (qa8 [] (qan (gs.map (·.1)))) (gs.map (·.1)) P) :
  Calls Tryz.prog 180 #[rlV q,v] w λe w'=>∃v' bs,e=.returned v'/\qbx w' v' bs/\bs.map (·.1)=qkc q.1 (gs.map (·.1))/\(∀p∈bs,P q.1.body.length p.1/\p.1.length=8)/\bs.length<=2048 ^ 3/\Below w.heap.size w w':=by
 obtain⟨i0,hi,hz0,hz1,hz2⟩:=info_parts Tryz.infoBind;unfold rlV;obtain⟨a1,a2,hq1⟩:=qd hA;simp only at hq1;obtain⟨b1,b2,hq2⟩:=qd hAs.row;rw[hq1,hq2];obtain⟨va,vc,rfl⟩:=qd hG.row;obtain⟨N,hN⟩:∃N,N=w.heap.size:=⟨_,rfl⟩;have hNr:=hN.symm;obtain⟨names,hnames⟩:∃names,names=qa8 [] (qan (gs.map (·.1))):=⟨_,rfl⟩;rw[<- hnames] at hn8 hd hP;obtain⟨box,qae⟩:∃box:Array Vq,box=#[.string q.1.head.rel,.slice a1 q.1.head.args.length a2,.slice b1 ps.length b2]:=⟨_,rfl⟩;obtain⟨W0,hW0⟩:∃W0,w.alloc (.cells #[.string q.1.head.rel,.slice a1 q.1.head.args.length a2,.slice b1 ps.length b2] 148)=W0:=⟨_,rfl⟩;have hs0:W0.heap.size=N+1:=by rw[<- hW0];simp[hNr]
 have hb0:Below N w W0:=by rw[<- hW0];exact (Below.refl _ w).alloc (by omega) _
 have q3a:W0.heap[N]?=some (Obj.cells #[.string q.1.head.rel,.slice a1 q.1.head.args.length a2,.slice b1 ps.length b2] 148):=by rw[<- hW0,<- hNr];exact World.alloc_heap_new w _
 have HX:Hid (∀X,Below N w X->qa7 X (q.1.head,.slice a1 q.1.head.args.length a2)/\Qy X (.slice b1 ps.length b2) ps/\qcu X (.slice va gs.length vc) gs):=by
  intro X hX;have hX':Below w.heap.size w X:=by rw[hNr];exact hX
  refine⟨by have:=hA.kept (Kp.ofBelow (S:=0) hX');rw[hq1] at this;exact this,by have:=hAs.below hX';rw[hq2] at this;exact this,hG.below hX'⟩
 have hT:Hid (qkc q.1 (gs.map (·.1))=(List.range ps.length).foldl (qcp q.1 names (gs.map (·.1))) [qdb]):=by
  show _=_;unfold qkc;rw[<- hnames,<- hps];simp
 have hBl:q.1.body.length=ps.length:=by rw[<- hps];simp
 rw[hBl];have Qcz:=qpv W0
 have Qfr:Hid (∀X,Below N w X->N<=X.heap.size->Calls Tryz.prog 222 #[.slice va gs.length vc] X λe w'=>∃v',e=.returned v'/\qf0 X.heap.size X w' v' names):=by
  intro X hX hNX;have h:=q0t (.slice va gs.length vc) gs X (HX.out X hX).2.2 (by omega) hga (by rw[<- hnames];omega);rw[<- hnames] at h;exact h
 generalize qkc q.1 (gs.map (·.1))=T at *;rw[<- hN];have HB0:Hid (Below N w W0):=hb0;have Qd7:Hid _:=q3a;have HS0:Hid (W0.heap.size=N+1):=hs0;have HMq:Hid _:=hm;have HPi:Hid _:=hP;have HPS:Hid (ps.map (·.1)=q.1.body):=hps;clear hA hAs hG hN hb0 q3a hnames qae;go_enter Tryz.func180,Tryz.ntmps180;go_wp2_with fail;refine Qcz.mono ?_;rintro e W1 ⟨vp,rfl,hop,hbp⟩;obtain⟨pa,pc,rfl⟩:=qd hop;have hb1:Below N w W1:=HB0.out.trans (hbp.mono (by rw[HS0.out];omega));have hN1:N < W1.heap.size:=by have:=hbp.size;rw[HS0.out] at this;omega
 obtain⟨W2,hW2⟩:∃W2,W1.alloc (.cells #[.slice pa 8 pc] 239)=W2:=⟨_,rfl⟩;have hb2:Below N w W2:=by rw[<- hW2];exact hb1.alloc (by omega) _
 have qw8:Below W1.heap.size W1 W2:=by rw[<- hW2];exact (Below.refl _ _).alloc zl _
 have hN2:N < W2.heap.size:=Nat.lt_of_lt_of_le hN1 qw8.size;have qkl:W2.heap[N]?=some (Obj.cells #[.string q.1.head.rel,.slice a1 q.1.head.args.length a2,.slice b1 ps.length b2] 148):=(qw8.block N hN1).trans ((hbp.block N (by rw[HS0.out];omega)).trans Qd7.out)
 have hl2:qbx W2 (.slice (some ⟨W1.heap.size,0,none⟩) 1 1) [(qdb,.slice pa 8 pc)]:=by
  refine⟨⟨rfl,.inr ⟨W1.heap.size,1,#[.slice pa 8 pc],rfl,Nat.zero_le _,?_,Nat.le_refl _,by unfold maxLen;decide,rfl,rfl⟩⟩,λp hp=>?_⟩
  ·rw[<- hW2];exact World.alloc_heap_new W1 _
  ·simp at hp;subst hp;exact qu.below (W:=W1) (Qm hop (Nat.zero_le _)) qw8
 have Qcs:=Qfr.out W2 hb2 (by omega);have HL2:Hid (qbx W2 (.slice (some ⟨W1.heap.size,0,none⟩) 1 1) [(qdb,.slice pa 8 pc)]):=hl2;have HB2:Hid (Below N w W2):=hb2;have Qay:Hid _:=qkl;clear Qcz hop hbp hb1 qw8 hl2 hb2 qkl hs0;go_wp2_with fail;refine Qcs.mono ?_;rintro e W3 ⟨nv,rfl,hN3⟩;have hz3:=hN3.below.size;have hb3:Below N w W3:=HB2.out.trans (hN3.below.mono (by omega));have qqx:q8v N w W3 #[.string q.1.head.rel,.slice a1 q.1.head.args.length a2,.slice b1 ps.length b2] (.slice (some ⟨W1.heap.size,0,none⟩) 1 1) [(qdb,.slice pa 8 pc)] nv names:=⟨hb3,(hN3.below.block N hN2).trans Qay.out,HL2.out.below hN3.below,Qm hN3.own (Nat.zero_le _),by omega⟩;have Qa3:Hid _:=qqx;obtain⟨na,nc,hnv⟩:=qd hN3.own;subst hnv;clear hN3 hb3 qqx Qcs HL2 HB2 Qay hW2;go_wp2
 go_loopw [5,7] (λo p wr=>∃(i:Nat) (lv:Vq) (lps:List (List ByteArray×Vq)),lv=o/\p=.int .i64 i/\i<=ps.length/\q8v N w wr #[.string q.1.head.rel,.slice a1 q.1.head.args.length a2,.slice b1 ps.length b2] lv lps (.slice na names.length nc) names/\lps.length<=2048 ^ i/\Hid (∀p∈lps,P i p.1/\p.1.length=8)/\Hid (((List.range ps.length).drop i).foldl (qcp q.1 names (gs.map (·.1))) (lps.map (·.1))=T)) (λ_ p _=>ps.length - (intOf p).toNat)
 case atStart=>
  refine⟨0,_,_,rfl,rfl,Nat.zero_le _,Qa3.out,by simp,λp hp=>?_,hT.out.symm⟩;simp at hp;subst hp;exact⟨HPi.out.start,rfl⟩
 case round=>
  clear Qa3;obtain⟨i,lv,lps,rfl,rfl,hle,hO,hll,hPl,hsp⟩:=hrel;obtain⟨la,lc,hlv⟩:=qd hO.l.row;subst hlv;have x2:wr.cell? ⟨N,2,none⟩=some (.slice b1 ps.length b2):=by simp[World.cell?,hO.bx]
  by_cases hlt:i < ps.length
  ·obtain⟨g,cap',e1,Qfe,d0,d1,⟨y1,y2,hy⟩,hAV⟩:=(HX.out wr hO.below).2.1.cell i hlt;cases e1
   have Qb0:ps.length<=b2:=by
    obtain⟨_,⟨hv,hn⟩ | ⟨g',cap'',cur,hv,_,_,h1,_⟩⟩:=(HX.out wr hO.below).2.1.row
    ·cases hv
    ·cases hv;exact h1
   have HRA:Hid (∀X,Below N w X->qmb X (q.1,.slice a1 q.1.head.args.length a2,.slice (some ⟨g,0,none⟩) ps.length b2) g b2 ps):=by
    intro X hX;obtain⟨h1,h2,_⟩:=HX.out X hX;exact⟨h1,h2.at,HPS.out,rfl,Qb0⟩
   have hmq:∀p∈(q.1.head,Value.slice a1 q.1.head.args.length a2)::ps,p.1.args.length<=1000000/\∀t∈p.1.args,t.num<=1000000:=by
    intro p hp;rcases List.mem_cons.1 hp with rfl | hp
    ·have:=HMq.out (q.1.head,q.2.1) List.mem_cons_self;exact⟨by have:=this.1;simp only at this ⊢;omega,λt ht=>by have:=this.2 t ht;omega⟩
    ·have:=HMq.out p (List.mem_cons_of_mem _ hp);exact⟨by have:=this.1;omega,λt ht=>by have:=this.2 t ht;omega⟩
   have HLo:Hid (∀X,Below N w X->Calls Tryz.prog 223 #[.agg #[.string q.1.head.rel,.slice a1 q.1.head.args.length a2,.slice (some ⟨g,0,none⟩) ps.length b2],.int .i64 i] X λe w'=>e=.returned (.bool (qdn q.1 i))/\Below X.heap.size X w'):=by
    intro X hX;exact q4h (q.1,.slice a1 q.1.head.args.length a2,.slice (some ⟨g,0,none⟩) ps.length b2) g b2 ps i X (HRA.out X hX) hlt (by omega) hmq
   have HLe:Hid (∀X (vb:Vq) (b:List ByteArray),Below N w X->qu X vb b->b.length=8->Calls Tryz.prog 225 #[vb,.agg #[.string q.1.head.rel,.slice a1 q.1.head.args.length a2,.slice (some ⟨g,0,none⟩) ps.length b2],.int .i64 i] X λe w'=>∃v',e=.returned v'/\w'.ownsRow X.heap.size 9 1 v' (qa2 q.1 i b).length ((qa2 q.1 i b).map Value.string)/\Below X.heap.size X w'):=by
    intro X vb b hX hb hb8;exact q4f (q.1,.slice a1 q.1.head.args.length a2,.slice (some ⟨g,0,none⟩) ps.length b2) g b2 ps i vb b X (HRA.out X hX) hb (by omega) (by omega) hlt (by omega) hmq
   have hbi:q.1.body[i]?=some ps[i].1:=by
    rw[<- HPS.out,List.getElem?_map,List.getElem?_eq_getElem hlt];rfl
   have hPs:=λ(gd:Gr) (b c:List ByteArray)=>HPi.out.step i ps[i].1 gd b c hbi;have hmi:=HMq.out ps[i] (List.mem_cons_of_mem _ (List.getElem_mem hlt))
   have hrd:((List.range ps.length).drop i)=i::((List.range ps.length).drop (i+1)):=by
    rw[List.drop_eq_getElem_cons (by simpa using hlt)];simp
   rw[hrd,List.foldl_cons] at hsp
   have hwr:qcp q.1 names (gs.map (·.1)) (lps.map (·.1)) i=((qb3 (lps.map (·.1)) (gs.map (·.1))).foldl (Qu q.1 i names ps[i].1) (List.replicate 4096 false,[])).2:=by
    unfold qcp;rw[hbi]
   rw[hwr] at hsp;generalize hFF:(qb3 (lps.map (·.1)) (gs.map (·.1))).foldl (Qu q.1 i names ps[i].1) (List.replicate 4096 false,[])=FF at *;have HFF:Hid ((qb3 ((lps.drop 0).map (·.1)) (gs.map (·.1))).foldl (Qu q.1 i names ps[i].1) (List.replicate 4096 false,[])=FF):=hFF
   have HAi:Hid (∀X,Below N w X->qa7 X ps[i]/\X.cell? ⟨g,i*2,none⟩=some (.string ps[i].1.rel)/\X.cell? ⟨g,i*2+1,none⟩=some ps[i].2):=by
    intro X hX;obtain⟨g',cap',e1,_,d0,d1,_,hAV⟩:=(HX.out X hX).2.1.cell i hlt;cases e1;exact⟨hAV,d0,d1⟩
   rw[hy] at HAi
   have HY:Hid (ps[i]=(ps[i].1,.slice y1 ps[i].1.args.length y2)):=by
    show _=_;rw[<- hy]
   have x0:wr.cell? ⟨N,0,none⟩=some (.string q.1.head.rel):=by simp[World.cell?,hO.bx]
   have x1:wr.cell? ⟨N,1,none⟩=some (.slice a1 q.1.head.args.length a2):=by simp[World.cell?,hO.bx]
   have hlo:=HLo.out wr hO.below;have hli:i<=2:=by omega
   have Qg1:lps.length<=4194304:=Nat.le_trans hll (Nat.le_trans (Nat.pow_le_pow_right (by decide) hli) (by decide));have HLL:Hid (lps.length<=2048 ^ i):=hll;have HO:Hid (q8v N w wr #[.string q.1.head.rel,.slice a1 q.1.head.args.length a2,.slice (some ⟨g,0,none⟩) ps.length b2] (.slice la lps.length lc) lps (.slice na names.length nc) names):=hO;have Qeb:Hid _:=hPs;have HMi:Hid _:=hmi;clear hrd hwr hFF hmq hAV hbi hPs hmi d0 d1 hy hO hll Qfe;go_wp2_with fail;refine hlo.mono ?_;rintro e W5 ⟨rfl,hb5⟩;have hk5:=q37 W5;clear hlo;go_wp2_with fail;refine hk5.mono ?_;rintro e W6 ⟨rfl,ho6,hb6⟩;have hN5:N < W5.heap.size:=Nat.lt_of_lt_of_le HO.out.size hb5.size;have hz6:=hb6.size
   have hwy:qf1 N W6.heap.size W5.heap.size w W6 #[.string q.1.head.rel,.slice a1 q.1.head.args.length a2,.slice (some ⟨g,0,none⟩) ps.length b2] (.slice la lps.length lc) lps (.slice na names.length nc) names (List.replicate 4096 false) (.slice none 0 0) []:=by
    have q27:Below wr.heap.size wr W6:=hb5.trans (hb6.mono hb5.size);have hsz:=HO.out.size
    have hsn:W6.heap[W5.heap.size]?=some (Obj.cells ((List.replicate 4096 false).map Value.bool).toArray 4):=by
     obtain⟨_,⟨hv,_⟩ | ⟨g',cap',cur,hv,_,hh,h1,h2,h3,h4⟩⟩:=ho6
     ·cases hv
     ·cases hv;rw[hh];congr 2;rw[<- Array.toList_inj];simp only[Nat.mul_one] at h3 h4;have e:(List.replicate 4096 false).map Value.bool=List.replicate 4096 (.bool false):=by rw[List.map_replicate]
      rw[e,<- h4,List.take_of_length_le (by simp[h3])]
    exact⟨HO.out.below.trans (q27.mono (by omega)),(q27.block N hsz).trans HO.out.bx,HO.out.l.below q27,λg' hg'=>by have:=(Qh HO.out.l.row g' hg').2.1;have:=q27.size;omega,qu.below HO.out.nm q27,hsn,⟨hN5,(zg hsn).1,Nat.le_refl _⟩,World.ownsRow_nil _ _ _ _,λp hp=>by cases hp⟩
   obtain⟨S,hS⟩:∃S,W6.heap.size=S:=⟨_,rfl⟩;obtain⟨sb,hsb⟩:∃sb,W5.heap.size=sb:=⟨_,rfl⟩;rw[hS,hsb] at hwy;have HWY:Hid (qf1 N S sb w W6 #[.string q.1.head.rel,.slice a1 q.1.head.args.length a2,.slice (some ⟨g,0,none⟩) ps.length b2] (.slice la lps.length lc) lps (.slice na names.length nc) names (List.replicate 4096 false) (.slice none 0 0) []):=hwy;obtain⟨once,honce⟩:∃once,qdn q.1 i=once:=⟨_,rfl⟩;rw[honce];have HON:Hid (qdn q.1 i=once):=honce;clear hwy hk5 ho6 hb6 hb5 HO hN5 hz6 hS honce;go_wp2
   go_loopw [10,11] (λo p wr=>∃(k:Nat) (vx:Vq) (nx:List (List ByteArray×Vq)) (seen:List Bool),vx=o/\p=.int .i64 k/\k<=lps.length/\qf1 N S sb w wr #[.string q.1.head.rel,.slice a1 q.1.head.args.length a2,.slice (some ⟨g,0,none⟩) ps.length b2] (.slice la lps.length lc) lps (.slice na names.length nc) names seen vx nx/\Hid (seen.length=4096)/\nx.length<=k*gs.length/\Hid (∀p∈nx,P (i+1) p.1/\p.1.length=8)/\Hid ((qb3 ((lps.drop k).map (·.1)) (gs.map (·.1))).foldl (Qu q.1 i names ps[i].1) (seen,nx.map (·.1))=FF)) (λ_ p _=>lps.length - (intOf p).toNat)
   case atStart=>exact⟨0,_,[],List.replicate 4096 false,rfl,rfl,Nat.zero_le _,HWY.out,by show _=_;simp,by simp,λp hp=>by (cases hp),HFF⟩
   case round=>
    clear HWY;obtain⟨k,vx,nx,seen,rfl,rfl,qsz,hW,hsl,hnl,hPn,hsk⟩:=hrel;by_cases hkl:k < lps.length
    ·obtain⟨gl,cap',e1,Qff,_,⟨u1,u2,hu⟩,_⟩:=hW.l.cell k hkl;cases e1;have hPb:=hPl.out lps[k] (List.getElem_mem hkl)
     have HLk:Hid (∀(X:Wq) (sn:List Bool) (vy:Vq) (ny:List (List ByteArray×Vq)),qf1 N S sb w X #[.string q.1.head.rel,.slice a1 q.1.head.args.length a2,.slice (some ⟨g,0,none⟩) ps.length b2] (.slice (some ⟨gl,0,none⟩) lps.length lc) lps (.slice na names.length nc) names sn vy ny->X.cell? ⟨gl,k,none⟩=some lps[k].2/\qu X lps[k].2 lps[k].1):=by
      intro X sn vy ny hX;obtain⟨g',c',e',_,h1,_,h2⟩:=hX.l.cell k hkl
      cases e'
      exact⟨h1,h2⟩
     rw[List.drop_eq_getElem_cons hkl,List.map_cons,qx4,List.map_map] at hsk;have Qc4:Hid (((gs.drop 0).map (λp=>(lps[k].1,p.1))++qb3 ((lps.drop (k+1)).map (·.1)) (gs.map (·.1))).foldl (Qu q.1 i names ps[i].1) (seen,nx.map (·.1))=FF):=hsk;rw[hu] at HLk;have HPb:Hid (P i lps[k].1/\lps[k].1.length=8):=hPb;generalize lps[k].1=b at *;have HW:Hid (qf1 N S sb w wr #[.string q.1.head.rel,.slice a1 q.1.head.args.length a2,.slice (some ⟨g,0,none⟩) ps.length b2] (.slice (some ⟨gl,0,none⟩) lps.length lc) lps (.slice na names.length nc) names seen vx nx):=hW;clear hW hsk hu hPb Qff;go_wp2
     go_loopw [10,12] (λo p wr=>∃(j:Nat) (vx:Vq) (nx:List (List ByteArray×Vq)) (seen:List Bool),vx=o/\p=.int .i64 j/\j<=gs.length/\qf1 N S sb w wr #[.string q.1.head.rel,.slice a1 q.1.head.args.length a2,.slice (some ⟨g,0,none⟩) ps.length b2] (.slice (some ⟨gl,0,none⟩) lps.length lc) lps (.slice na names.length nc) names seen vx nx/\Hid (seen.length=4096)/\nx.length<=k*gs.length+j/\Hid (∀p∈nx,P (i+1) p.1/\p.1.length=8)/\Hid (((gs.drop j).map (λp=>(b,p.1))++qb3 ((lps.drop (k+1)).map (·.1)) (gs.map (·.1))).foldl (Qu q.1 i names ps[i].1) (seen,nx.map (·.1))=FF)) (λ_ p _=>gs.length - (intOf p).toNat)
     case atStart=>exact⟨0,_,nx,seen,rfl,rfl,Nat.zero_le _,HW.out,hsl,by omega,hPn,Qc4⟩
     case round=>
      clear HW Qc4 hsl hnl hPn;obtain⟨j,vx,nx,seen,rfl,rfl,Qgz,hW,hsl,hnl,hPn,hsj⟩:=hrel;by_cases hjl:j < gs.length
      ·obtain⟨gg,cap',e1,q6j,s0,s1,⟨t1,t2,ht⟩,hSt⟩:=(HX.out wr hW.below).2.2.cell j hjl;cases e1;obtain⟨lk0,Qcl⟩:=HLk.out wr seen vx nx hW;obtain⟨Qbf,c0,c1⟩:=HAi.out wr hW.below;have x2:wr.cell? ⟨N,2,none⟩=some (.slice (some ⟨g,0,none⟩) ps.length b2):=by simp[World.cell?,hW.bx]
       have q6h:Hid (∀d,Calls Tryz.prog 123 #[.agg #[.string ps[i].1.rel,.slice y1 ps[i].1.args.length y2],.agg #[.string gs[j].1.rel,.slice t1 gs[j].1.args.length t2],.slice u1 b.length u2] (wr.drewN d) λe w'=>qkd ps[i].1 gs[j].1 b (.slice u1 b.length u2) wr.heap.size e w'/\Below wr.heap.size wr w'):=by
        intro d;have hbd:Below wr.heap.size wr (wr.drewN d):=qq (Below.refl _ wr);have Qem:qa7 (wr.drewN d) (ps[i].1,.slice y1 ps[i].1.args.length y2):=qa7.kept (S:=0) (p:=(ps[i].1,.slice y1 ps[i].1.args.length y2)) (by rw[<- HY.out];exact Qbf) (Kp.ofBelow hbd);have h:=q59 (ps[i].1,.slice y1 ps[i].1.args.length y2) gs[j] (.slice u1 b.length u2) b (wr.drewN d) Qem (hSt.below hbd) (qu.below Qcl hbd) (HMi.out.1) (by rw[HPb.out.2];decide) (by rw[HPb.out.2];decide) (λt ht'=>by rw[HPb.out.2];exact HMi.out.2 t ht');unfold gdV at h;rw[ht] at h;refine h.mono ?_;rintro e w' ⟨h1,h2⟩;exact⟨h1,hbd.trans h2⟩
       rw[List.drop_eq_getElem_cons hjl,List.map_cons,List.cons_append,List.foldl_cons] at hsj;have hPj:=λc=>Qeb.out gs[j].1 b c (List.mem_map.2 ⟨gs[j],List.getElem_mem hjl,rfl⟩) HPb.out.1;rw[ht] at s1;have HW:Hid (qf1 N S sb w wr #[.string q.1.head.rel,.slice a1 q.1.head.args.length a2,.slice (some ⟨g,0,none⟩) ps.length b2] (.slice (some ⟨gl,0,none⟩) lps.length lc) lps (.slice na names.length nc) names seen vx nx):=hW;have HPj:Hid _:=hPj;have hNw:N < wr.heap.size:=by have:=hW.nS;omega
       clear hW hSt ht Qbf Qcl hPj;obtain⟨fg,hfg⟩:∃fg,qd9 ps[i].1 gs[j].1 b=fg:=⟨_,rfl⟩;have HFG:Hid (qd9 ps[i].1 gs[j].1 b=fg):=hfg;clear hfg
       have q7w:Hid (∀d,Calls Tryz.prog 123 #[.agg #[.string ps[i].1.rel,.slice y1 ps[i].1.args.length y2],.agg #[.string gs[j].1.rel,.slice t1 gs[j].1.args.length t2],.slice u1 b.length u2] (wr.drewN d) λe w'=>∃v' ok,e=.returned (.tuple #[v',.bool ok])/\(fg=none->ok=false)/\(∀c,fg=some c->ok=true/\w'.ownsRow wr.heap.size 9 1 v' c.length (c.map Value.string))/\Below wr.heap.size wr w'):=by
        intro d;refine (q6h.out d).mono ?_;rintro e w' ⟨h1,h2⟩;unfold qkd at h1;rw[HFG.out] at h1
        cases fg with
        | none=>exact⟨_,_,h1,λ_=>rfl,(λc hc=>by cases hc),h2⟩
        | some c=>
         obtain⟨v',h3,h4⟩:=h1;exact⟨v',true,h3,(λhc=>by cases hc),(λc' hc=>by cases hc;exact⟨rfl,h4⟩),h2⟩
       clear q6h;generalize ps[i].1.rel=pr at *;generalize ps[i].1.args.length=pal at *;generalize gs[j].1.rel=gr at *;generalize gs[j].1.args.length=gal at *
       go_upto_region 15 with fail
       go_cut [13,14] from 37 to 80 (λs13 s14 wx=>Below wr.heap.size wr wx/\(fg=none->s14=.bool false)/\(∀c,fg=some c->s14=.bool true/\wx.ownsRow wr.heap.size 9 1 s13 c.length (c.map Value.string)))
       case first=>
        go_region_with (go_at_call 123;refine (q7w.out 1).mono ?_;rintro e w2 ⟨vf,ok,rfl,hf1,hf2,hb2⟩)
        all_goals
         go_wp2_with fail
         go_meet
         case rel=>exact⟨hb2,λh=>by rw[hf1 h],λc hc=>⟨by rw[(hf2 c hc).1],(hf2 c hc).2⟩⟩
       case rest=>
        obtain⟨hbc,hc1,hc2⟩:=hcut;have hWc:=HW.out.grows hbc;have HWc:Hid (qf1 N S sb w wc #[.string q.1.head.rel,.slice a1 q.1.head.args.length a2,.slice (some ⟨g,0,none⟩) ps.length b2] (.slice (some ⟨gl,0,none⟩) lps.length lc) lps (.slice na names.length nc) names seen vx nx):=hWc;have hzc:=hbc.size
        have hnb:nx.length<=4194304*2048:=by
         have h1:k*gs.length<=4194303*2048:=Nat.mul_le_mul (by omega) hgl;omega
        have hc3:nx.length+1<=maxLen:=by unfold maxLen;omega
        have hc4:(nx.length+1)*24<=140737488355328:=by omega
        have hc5:Hid (∀O,S<=(wc.alloc O).heap.size):=λO=>by have:=hWc.nS;simp;omega
        clear q7w HW
        cases hfgc:fg with
        | none=>
         have q9y:=hc1 hfgc;have hws:Qu q.1 i names ps[i].1 (seen,nx.map (·.1)) (b,gs[j].1)=(seen,nx.map (·.1)):=by unfold Qu;simp only[HFG.out,hfgc]
         rw[hws] at hsj;subst q9y;clear hc1 hc2 hws hbc hWc;go_wp2
         go_roundw
         case rel=>exact⟨j+1,vx,nx,seen,rfl,by go_num,by omega,HWc.out,hsl,by omega,hPn,hsj⟩
         case measure=>simp[intOf];omega
        | some c=>
         obtain⟨q9y,qr⟩:=hc2 c hfgc;subst q9y;have q0g:qd9 ps[i].1 gs[j].1 b=some c:=HFG.out.trans hfgc;have hc8:Hid (c.length=8):=(q2v _ _ _ _ q0g).trans HPb.out.2;obtain⟨hp1,hp2⟩:=HPj.out c q0g
         cases once with
         | false=>
          have hws:Qu q.1 i names ps[i].1 (seen,nx.map (·.1)) (b,gs[j].1)=(seen,nx.map (·.1)++[c]):=by
           unfold Qu;simp only[q0g,HON.out];simp
          rw[hws] at hsj;have hPc:=hp2 HON.out;have hcS:=Qm qr (Nat.zero_le _);obtain⟨ca,cc,hcv⟩:=qd qr;subst hcv;have HCS:Hid (qu wc (.slice ca c.length cc) c):=hcS;have h1c:∀u∈[Value.slice ca c.length cc],u.oneCell'=true:=by simp[Value.oneCell']
          have q88:Hid (∀p∈nx++[(c,Value.slice ca c.length cc)],P (i+1) p.1/\p.1.length=8):=by
           intro p hp;rcases List.mem_append.1 hp with hp | hp
           ·exact hPn.out p hp
           ·simp at hp;subst hp;exact⟨hPc,hc8.out⟩
          have q90:Hid (((gs.drop (j+1)).map (λp=>(b,p.1))++qb3 ((lps.drop (k+1)).map (·.1)) (gs.map (·.1))).foldl (Qu q.1 i names ps[i].1) (seen,(nx++[(c,Value.slice ca c.length cc)]).map (·.1))=FF):=by
           show _=_;rw[<- hsj.out];simp
          clear hc1 hc2 hws hbc hWc qr hcS q0g hp1 hp2 hPc hsj hPn
          go_wp2_with (at_builtin;refine wpList_append_own _ rfl (.tmp 77) (.tmp 79) 304 rfl S 239 i0 (.slice none 0 0) 1 24 Tryz.underlying304 hi hz0 hz1 hz2 rfl (by decide) _ _ _ rfl (HWc.out.xown.alloc _) ⟨wc.heap.size,0,none⟩ 1 1 [.slice ca c.length cc] rfl rfl (qgd _ _ _) h1c hc3 hc4 (hc5.out _) ?_;intro vx' w1 ho1 hg1 _;have HW1:Hid _:=HWc.out.app c (.slice ca c.length cc) HCS.out hg1 ho1)
          go_roundw
          case rel=>exact⟨j+1,vx',_,seen,rfl,by go_num,by omega,HW1.out,hsl,by simp;omega,q88,q90⟩
          case measure=>simp[intOf];omega
         | true=>
          obtain⟨hPc,qlm⟩:=hp1 HON.out;have hcS:=Qm qr (Nat.zero_le _);have qo5:=HLe.out wc _ c HWc.out.below hcS hc8.out;obtain⟨ca,cc,hcv⟩:=qd qr;subst hcv
          have hws:Qu q.1 i names ps[i].1 (seen,nx.map (·.1)) (b,gs[j].1)=if seen.getD (qha names (qa2 q.1 i c)) false=true then (seen,nx.map (·.1)) else (seen.set (qha names (qa2 q.1 i c)) true,nx.map (·.1)++[qa2 q.1 i c]):=by
           unfold Qu;simp only[q0g,HON.out];simp
          rw[hws] at hsj;have hl8:Hid ((qa2 q.1 i c).length=8):=(q0k _ _ _).trans hc8.out;generalize qa2 q.1 i c=c' at *;have x0c:wc.cell? ⟨N,0,none⟩=some (.string q.1.head.rel):=by simp[World.cell?,hWc.bx]
          have x1c:wc.cell? ⟨N,1,none⟩=some (.slice a1 q.1.head.args.length a2):=by simp[World.cell?,hWc.bx]
          have x2c:wc.cell? ⟨N,2,none⟩=some (.slice (some ⟨g,0,none⟩) ps.length b2):=by simp[World.cell?,hWc.bx]
          clear hc1 hc2 hws hbc hWc qr hcS q0g hp1 hp2 hc5;go_wp2_with fail;refine qo5.mono ?_;rintro e W7 ⟨v7,rfl,ho7,hb7⟩;have hW7:=HWc.out.grows hb7;have hc7:qu W7 v7 c':=Qm ho7 (Nat.zero_le _);have hk7:=q6u v7 (.slice na names.length nc) c' names W7 hc7 hW7.nm (by have:=hl8.out;omega) hn8 hd;obtain⟨ca7,cc7,hv7⟩:=qd ho7;subst hv7;have HW7:Hid (qf1 N S sb w W7 #[.string q.1.head.rel,.slice a1 q.1.head.args.length a2,.slice (some ⟨g,0,none⟩) ps.length b2] (.slice (some ⟨gl,0,none⟩) lps.length lc) lps (.slice na names.length nc) names seen vx nx):=hW7;have HC7:Hid (qu W7 (.slice ca7 c'.length cc7) c'):=hc7;generalize qha names c'=kn at *;clear qo5 ho7 hb7 hW7 hc7;go_wp2_with fail;refine hk7.mono ?_;rintro e W8 ⟨rfl,hb8⟩;have hW8:=HW7.out.grows hb8;have HC8:Hid (qu W8 (.slice ca7 c'.length cc7) c'):=qu.below HC7.out hb8;have HW8:Hid (qf1 N S sb w W8 #[.string q.1.head.rel,.slice a1 q.1.head.args.length a2,.slice (some ⟨g,0,none⟩) ps.length b2] (.slice (some ⟨gl,0,none⟩) lps.length lc) lps (.slice na names.length nc) names seen vx nx):=hW8;have Qfy:seen.length=4096:=hsl.out;have k8:W8.cell? ⟨sb,kn,none⟩=some (.bool (seen.getD kn false)):=by simp[World.cell?,hW8.sn,List.getElem?_eq_getElem (show kn < seen.length by omega)]
          have f8:W8.frozen? ⟨sb,kn,none⟩=false:=by simp[World.frozen?,hW8.sn]
          clear hk7 hb8 hW8 Qfy
          cases hsd:seen.getD kn false with
          | true=>
           rw[hsd] at k8 hsj;simp only[if_true] at hsj;go_wp2
           go_roundw
           case rel=>exact⟨j+1,vx,nx,seen,rfl,by go_num,by omega,HW8.out,hsl,by omega,hPn,hsj⟩
           case measure=>simp[intOf];omega
          | false=>
           rw[hsd] at k8 hsj;simp only[Bool.false_eq_true,if_false] at hsj;have hM:=HW8.out.mark kn;have HM:Hid (qf1 N S sb w (W8.setCell ⟨sb,kn,none⟩ (.bool true)) #[.string q.1.head.rel,.slice a1 q.1.head.args.length a2,.slice (some ⟨g,0,none⟩) ps.length b2] (.slice (some ⟨gl,0,none⟩) lps.length lc) lps (.slice na names.length nc) names (seen.set kn true) vx nx):=hM;have Qfz:Hid ((seen.set kn true).length=4096):=by show _=_;rw[List.length_set];exact hsl.out
           have hc5:Hid (∀O,S<=((W8.setCell ⟨sb,kn,none⟩ (.bool true)).alloc O).heap.size):=λO=>by have:=hM.nS.2.2;simp at this ⊢;omega
           have h1c:∀u∈[Value.slice ca7 c'.length cc7],u.oneCell'=true:=by simp[Value.oneCell']
           have hCM:Hid (qu (W8.setCell ⟨sb,kn,none⟩ (.bool true)) (.slice ca7 c'.length cc7) c'):=by
            refine qm HC8.out (λg' hg' _=>Below.heap_setCell _ _ _ _ (λe=>?_));obtain⟨cx,hcx⟩:=qi HC8.out hg';simp at e;subst e;rw[HW8.out.sn] at hcx;cases hcx
           have Qeq:Hid (∀(x:Vq) (t:TypeId) (i:Nat) (u:Vq),[x][i]?=some u->((W8.setCell ⟨sb,kn,none⟩ (.bool true)).alloc (.cells #[x] t)).cell? ((⟨W8.heap.size,0,none⟩:Addr).add i)=some u):=by
            intro x t i u hu;have:=qgd (W8.setCell ⟨sb,kn,none⟩ (.bool true)) x t i u hu;simpa using this
           have q88:Hid (∀p∈nx++[(c',Value.slice ca7 c'.length cc7)],P (i+1) p.1/\p.1.length=8):=by
            intro p hp;rcases List.mem_append.1 hp with hp | hp
            ·exact hPn.out p hp
            ·simp at hp;subst hp;exact⟨hPc,hl8.out⟩
           have q90:Hid (((gs.drop (j+1)).map (λp=>(b,p.1))++qb3 ((lps.drop (k+1)).map (·.1)) (gs.map (·.1))).foldl (Qu q.1 i names ps[i].1) (seen.set kn true,(nx++[(c',Value.slice ca7 c'.length cc7)]).map (·.1))=FF):=by
            show _=_;rw[<- hsj.out];simp
           clear hM hsj hPn hPc
           go_wp2_with (at_builtin;refine wpList_append_own _ rfl (.tmp 77) (.tmp 79) 304 rfl S 239 i0 (.slice none 0 0) 1 24 Tryz.underlying304 hi hz0 hz1 hz2 rfl (by decide) _ _ _ rfl (HM.out.xown.alloc _) ⟨W8.heap.size,0,none⟩ 1 1 [.slice ca7 c'.length cc7] rfl rfl (Qeq.out _ _) h1c hc3 hc4 (hc5.out _) ?_;intro vx' w1 ho1 hg1 _;have HW1:Hid _:=HM.out.app c' (.slice ca7 c'.length cc7) hCM.out hg1 ho1)
           go_roundw
           case rel=>exact⟨j+1,vx',_,seen.set kn true,rfl,by go_num,by omega,HW1.out,Qfz,by simp;omega,q88,q90⟩
           case measure=>simp[intOf];omega
      ·rw[List.drop_eq_nil_of_le (by omega)] at hsj;simp only[List.map_nil,List.nil_append] at hsj;have hjj:j=gs.length:=by omega
       have q3g:nx.length<=(k+1)*gs.length:=by rw[Nat.succ_mul];omega
       have HW:Hid (qf1 N S sb w wr #[.string q.1.head.rel,.slice a1 q.1.head.args.length a2,.slice (some ⟨g,0,none⟩) ps.length b2] (.slice (some ⟨gl,0,none⟩) lps.length lc) lps (.slice na names.length nc) names seen vx nx):=hW;clear hW hjj hnl;go_wp2
       go_roundw
       case rel=>exact⟨k+1,vx,nx,seen,rfl,by go_num,by omega,HW.out,hsl,q3g,hPn,hsj⟩
       case measure=>simp[intOf];omega
    ·rw[List.drop_eq_nil_of_le (by omega)] at hsk;have hF2:FF=(seen,nx.map (·.1)):=by rw[<- hsk.out];rfl
     have HF2:Hid (((List.range ps.length).drop (i+1)).foldl (qcp q.1 names (gs.map (·.1))) (nx.map (·.1))=T):=by
      have:=hsp.out;rw[hF2] at this;exact this
     have hkk:k=lps.length:=by omega
     have q3g:nx.length<=2048 ^ (i+1):=by
      rw[Nat.pow_succ];refine Nat.le_trans hnl ?_;rw[hkk];exact Nat.mul_le_mul HLL.out hgl
     have HNL:Hid _:=q3g;have HW:Hid (qf1 N S sb w wr #[.string q.1.head.rel,.slice a1 q.1.head.args.length a2,.slice (some ⟨g,0,none⟩) ps.length b2] (.slice la lps.length lc) lps (.slice na names.length nc) names seen vx nx):=hW;clear hF2 hkk q3g hsk hW hnl;go_wp2
     go_roundw
     case rel=>exact⟨i+1,vx,nx,rfl,by go_num,by omega,⟨HW.out.below,HW.out.bx,⟨Qm HW.out.xown (Nat.zero_le _),HW.out.each⟩,HW.out.nm,by have:=HW.out.nS;omega⟩,HNL.out,hPn,HF2⟩
     case measure=>simp[intOf];omega
  ·have hip:i=ps.length:=by omega
   have q9:lps.map (·.1)=T:=by
    have:=hsp.out;rw[List.drop_eq_nil_of_le (by simp;omega)] at this;exact this
   have HR:Hid (lps.map (·.1)=T/\(∀p∈lps,P ps.length p.1/\p.1.length=8)/\lps.length<=2048 ^ 3):=by
    refine⟨q9,by rw[<- hip];exact hPl.out,Nat.le_trans hll (Nat.pow_le_pow_right (by decide) (by omega))⟩
   have HO:Hid _:=hO;clear q9 hip hO hsp hPl hll;go_wp2;go_ret;exact⟨_,lps,rfl,HO.out.l,HR.out.1,HR.out.2.1,HR.out.2.2,HO.out.below⟩
