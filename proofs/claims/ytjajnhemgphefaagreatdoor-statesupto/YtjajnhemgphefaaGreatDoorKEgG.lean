/- A part -/
import Derived.Test.YtjajnhemgphefaaGreatDoorKArity
set_option linter.all false
set_option maxRecDepth 100000
set_option maxHeartbeats 1000000
namespace Go.Proofs.YtjajnhemgphefaaGreatDoor
open Go renaming World->Wq,Value->Vq
open Go.RowKit Go.Shelf
attribute [local go_sem] Oper.semAt_some
variable {W:Wq} {N:Nat} {ds:List Nat} {x:By}
def arR(rs:List Rl)(x:By):Nat:=(qcw (rs.flatMap qx) x.data.toList).getD 0
structure quh(w:Wq)(N:Nat)(ds:List Nat)(x:By)(W:Wq):Prop where
 rel:Boxed W N 9 (St x)
 res:Boxed W (N+1) 3 (Ii 0)
 nodup:ds.Nodup
 shut:∀d∈ds,W.heap[d]?=some (.deferred (some []))
 above:∀d∈ds,N+1 < d
 rk:qf w W
 below:Below N w W
theorem quh.grown{w W':Wq}{row:Option Nat}(h:quh w N ds x W)(hN:w.heap.size=N)(hg:W.grownBy W' row)(hr:∀r,row=some r->N+1 < r/\r∉ds/\∃o:Obj,W.heap[r]?=some o/\o.isCells=false):quh w N ds x W':=by
 have hk:=qj hg (λr e=>(hr r e).2.2);refine⟨hk _ _ _ _ h.rel,hk _ _ _ _ h.res,h.nodup,λd hd=>?_,h.above,h.rk.trans (λk c t _ hc=>hk k c t _ hc),h.below.grown hg (qa6 h.below hN) (λk e=>by have:=(hr k e).1;omega)⟩;have a8:=h.shut d hd;exact (hg.block d (zg a8).1 (λe=>(hr d e.symm).2.1 hd)).trans a8
theorem quh.lt{w:Wq}(h:quh w N ds x W):∀d∈ds,d < W.heap.size:=λd hd=>(zg (h.shut d hd)).1
theorem qis(l m:List Am)(x:List UInt8):qcw (l++m) x=(qcw l x).or (qcw m x):=by
 unfold qcw;rw[List.find?_append]
 cases List.find? (λa=>a.rel.data.toList == x) l <;> simp
theorem qrw(a:Am)(l:List Am)(x:List UInt8):qcw (a::l) x=if a.rel.data.toList == x then some a.args.length else qcw l x:=by
 unfold qcw;rw[List.find?_cons]
 cases a.rel.data.toList == x <;> simp
theorem Qb8(y x:By):(y.toList == x.toList)=(y.data.toList == x.data.toList):=by rw[qcy,qcy]
theorem q0g(v:Vq)(rs:List Rl)(x:By)(aa am ai:Nat)(w:Wq)(hR:Qb w aa am ai v rs)(Qv:∀g,v.ownBlock=some g->g < w.heap.size)(h8:rs.length<=8)(cx:∀r∈rs,qch r) :
  Cs 53 #[v,St x] w λe w'=>e=.returned (Ii (arR rs x))/\Below w.heap.size w w':=by
 obtain⟨a,c,ap⟩:=hR.form
 have Qj:∀k (hk:k < rs.length),∃g v0 vb,a=some ⟨g,0,none⟩/\w.cell? (Ad g (k*3))=some (St (rs[k]).head.rel)/\w.cell? (Ad g (k*3+1))=some v0/\w.cell? (Ad g (k*3+2))=some vb/\qfb w am ai rs[k] v0 vb/\g < w.heap.size:=by
  intro k hk;obtain⟨g,c',v0,vb,h1,h2,h3,h4,h5⟩:=qdb hR hk;have hg:=Qv g (by rw[h1];rfl);rw[ap] at h1;cases h1;exact⟨g,v0,vb,rfl,h2,h3,h4,h5,hg⟩
 subst ap;have HC:Hid _:=Qj;have c9:Hid _:=cx;clear Qj hR cx Qv;obtain⟨N,hN⟩:∃N,w.heap.size=N:=⟨_,rfl⟩;refine (callsIn_wide (n:=9)).1 ?_;refine callsIn_of_wp_marks Tryz.func53 rfl trivial ?_ rfl;simp only[Tryz.ntmps53,List.size_toArray,List.length_cons,List.length_nil,Nat.reduceAdd,Nat.reduceSub,Array.replicate_succ,Array.replicate_zero,List.push_toArray,List.append_toArray,List.nil_append,List.cons_append]
 gi_wp2
 have be:quh w N [] x ((w.alloc (.cells #[St x] 9)).alloc (.cells #[Ii 0] 3)):=by
  have hb:Below w.heap.size w ((w.alloc (.cells #[St x] 9)).alloc (.cells #[Ii 0] 3)):=((Below.refl _ w).alloc zl _).alloc (by simp) _;have ag:=(Boxed.new w 9 (St x)).alloc (.cells #[Ii 0] 3);rw[hN] at hb ag;refine⟨ag,?_,List.nodup_nil,by simp,by simp,qf.ofBelow (by rw[hN];exact hb),hb⟩;have:=Boxed.new (w.alloc (.cells #[St x] 9)) 3 (Ii 0);rw[World.size_alloc,hN] at this;exact this
 refine wpIn_loop (λA W=>∃(k:Nat) (ds:List Nat) (u6 a7 ax av a6 ay b4:Vq),A={tmps:=#[.slice a rs.length c,St x,undef,.pointer (some ⟨N,0,none⟩),.pointer (some ⟨N+1,0,none⟩),undef,u6,undef,.slice a rs.length c,Ii rs.length,Ii k,a7,ax,av,a6,ay,undef,undef,undef,undef,undef,undef,undef,undef,b4],defers:=qe1 ds}/\k<=rs.length/\quh w N ds x W/\Hid (arR rs x=(qcw ((rs.drop k).flatMap qx) x.data.toList).getD 0)) (λA _=>rs.length - (intOf (A.tmps.getD 10 undef)).toNat) ⟨0,[],_,_,_,_,_,_,_,rfl,zz,be,rfl⟩ ?_;rintro A W ⟨k,ds,u6,a7,ax,av,a6,ay,b4,rfl,hk,hI,Q7⟩;clear be;by_cases ae:k < rs.length
 .obtain⟨g,v0,vb,rfl,q0,q1,q2,hv,hg⟩:=HC.out k ae;have bv:g < N:=by omega
  have ck:=(hI.below.cell (p:=⟨g,k*3,none⟩) bv).trans q0;have ce:=(hI.below.cell (p:=⟨g,k*3+1,none⟩) bv).trans q1;have cw:=(hI.below.cell (p:=⟨g,k*3+2,none⟩) bv).trans q2;have cn:=hv.rk hI.rk;have cg:=c9.out _ (zm ae)
  have b6:Hid (qcw ((rs.drop k).flatMap qx) x.data.toList=(qcw (qx rs[k]) x.data.toList).or (qcw ((rs.drop (k+1)).flatMap qx) x.data.toList)):=by
   show _=_;rw[List.drop_eq_getElem_cons ae,List.flatMap_cons,qis]
  obtain⟨x0,L,la,cap,bn,hL,rfl,d4,cm⟩:=qqn cn cg;have cj:qx rs[k]=(x0::L).map (·.1.1):=by unfold qx;rw[List.map_cons,hL,bn]
  have ci:(rs[k]).head.rel=x0.1.1.rel:=by rw[bn]
  have cy:v0=x0.1.2:=by rw[bn]
  obtain⟨fa,fc,hf⟩:=x0.2.1.form;rw[ci] at ck;rw[cy,hf] at ce;rw[cj] at b6;clear cj ci cy bn hL cn cg hv q0 q1 q2;have i1:(k:Int) < (rs.length:Int):=by omega
  gi_wp2_with (refine⟨trivial,?_⟩;gi_at_call 98;refine (callsIn_wide.2 (qk8 _ _ _ _ rfl rfl rfl rfl _)).mono ?_;rintro e w' ⟨rfl,rfl⟩)
  obtain⟨M,hM⟩:∃M,W.heap.size=M:=⟨_,rfl⟩;obtain⟨W0,ac⟩:∃W0,(W.alloc (.cells #[St x0.1.1.rel,.slice fa x0.1.1.args.length fc,.slice la L.length cap] 136)).alloc (.cells #[St x0.1.1.rel,.slice fa x0.1.1.args.length fc,.slice la L.length cap] 136)=W0:=⟨_,rfl⟩;have ag:Below W.heap.size W W0:=by rw[<- ac];exact ((Below.refl _ W).alloc zl _).alloc (by simp) _
  have de:W0.heap.size=M+2:=by rw[<- ac,<- hM];simp
  have bR:W0.heap[M+1]?=cC #[St x0.1.1.rel,x0.1.2,.slice la L.length cap] 136:=by
   rw[<- ac,hf];have:=zn (W.alloc (.cells #[St x0.1.1.rel,.slice fa x0.1.1.args.length fc,.slice la L.length cap] 136)) (.cells #[St x0.1.1.rel,.slice fa x0.1.1.args.length fc,.slice la L.length cap] 136);rw[World.size_alloc,hM] at this;exact this
  have df:L≠[]->∃(g bf:Nat) (bj:Array Vq),la=some ⟨g,bf,none⟩/\W0.heap[g]?=cC bj 92/\(bj.toList.drop bf).take (L.length*2)=L.flatMap λx=>[St x.1.1.rel,x.1.2]:=λco=>by
   obtain⟨g,bf,bj,h1,h2,h3⟩:=cm co;exact⟨g,bf,bj,h1,qf.ofBelow ag _ _ _ (.inr (.inl rfl)) h2,h3⟩
  have be:=hI.grown hN (qi ag) (λr e=>by cases e);have bd:=hI.lt;have d2:N+1 < M:=by have:=hI.res.lt;omega
  simp only[hM];rw[ac];clear ac cm
  refine qhk (n:=9) (gf:=163) (lb:=#[.pointer (some ⟨M+1,0,none⟩)]) rfl (enters_of Tryz.func163 (by kernel_rfl) rfl)
   (qs4.ofStops (qiv 8 (by decide) (M+1) W ai x0 L (by omega) la cap W0 bR df)) qf.trans (λV o o' ho hc=>qf.put V _ o o' ho hc) (λ_=>rfl)
   (λpre V=>qcw (pre.map (·.1.1)) x.data.toList=none/\quh w N ds x V)
   (λc pre V=>c=.ret/\∃n:Nat,qcw (pre.map (·.1.1)) x.data.toList=some n/\Boxed V (N+1) 3 (Ii n)/\(∀d∈ds,V.heap[d]?=some (.deferred (some [])))/\Below N w V)
   ?hI ?hIx ⟨rfl,be⟩
   (λy a' V=>∃Bx,V.heap[Bx]?=cC #[St y.1.1.rel,y.1.2] 92/\a'={tmps:=#[.slice (some ⟨g,0,none⟩) rs.length c,St x,undef,.pointer (some ⟨N,0,none⟩),.pointer (some ⟨N+1,0,none⟩),undef,.pointer (some ⟨M,0,none⟩),.pointer (some ⟨Bx,0,none⟩),.slice (some ⟨g,0,none⟩) rs.length c,Ii rs.length,Ii k,.bool true,.pointer (some ⟨g,k*3,none⟩),.agg #[St x0.1.1.rel,.slice fa x0.1.1.args.length fc,.slice la L.length cap],.agg #[St x0.1.1.rel,.slice fa x0.1.1.args.length fc,.slice la L.length cap],.func (.func 163) #[] #[.pointer (some ⟨M+1,0,none⟩)],.agg #[St y.1.1.rel,y.1.2],undef,undef,undef,undef,undef,undef,undef,b4],defers:=[]})
   ?hAx ?assign ?body ?done ?stop
  case hI=>
   rintro pre V V' row ⟨h0,h1⟩ hg hr;refine⟨h0,h1.grown hN hg (λr e=>⟨by have:=(hr r e).1;omega,λhd=>?_,(hr r e).2⟩)⟩;have:=bd r hd;have:=(hr r e).1;omega
  case hIx=>
   rintro c pre V V' row ⟨rfl,n,h0,h1,h2,h3⟩ hg hr;refine⟨rfl,n,h0,qj hg (λr e=>(hr r e).2) _ _ _ _ h1,λd hd=>?_,h3.grown hg (qa6 h3 hN) (λk e=>by have:=(hr k e).1;omega)⟩;have a8:=h2 d hd;exact (hg.block d (zg a8).1 (λe=>by have:=bd d hd;have:=(hr d e.symm).1;omega)).trans a8
  case hAx=>
   rintro y a' _ V V' row ⟨Bx,h2,h3⟩ hg hr;exact⟨Bx,qj hg (λr e=>(hr r e).2) _ _ _ _ h2,h3⟩
  case assign=>
   rintro l' pre y V K hl c7 ⟨h0,h1⟩ hK;have HK:Hid _:=hK;clear hK;obtain⟨ga,gc,ao⟩:=y.2.1.form;simp only[ao]
   gi_wp2
   have ah:Below V.heap.size V (V.alloc (.cells #[St y.1.1.rel,.slice ga y.1.1.args.length gc] 92)):=(Below.refl _ V).alloc zl _;exact HK.out _ _ (KeepsFrom.ofBelow ah) (qf.ofBelow ah) ⟨h0,h1.grown hN (qi ah) (λr e=>by cases e)⟩ ⟨V.heap.size,by rw[ao];exact zn V _,by rw[ao]⟩
  case body=>
   rintro l' pre y a' V c5 ⟨r,hr⟩ ⟨al,h1⟩ ⟨Bx,aj,rfl⟩ dh;obtain⟨ga,gc,ao⟩:=y.2.1.form;have c0:V.cell? (Ad Bx 0)=some (St y.1.1.rel):=zc aj
   have c1:V.cell? (Ad Bx 1)=some (.slice ga y.1.1.args.length gc):=by simp[World.cell?,aj,ao]
   have cV:=h1.rel.cell;have cN:=h1.res.cell;have fN:=h1.res.frozen
   have bi:Hid (qcw ((pre++[y]).map (·.1.1)) x.data.toList=if (y.1.1.rel.toList == x.toList) then some y.1.1.args.length else none):=by
    show _=_;rw[List.map_append,qis,al,Option.none_or,List.map_cons,List.map_nil,qrw,Qb8];rfl
   clear ao al
   cases ak:(y.1.1.rel.toList == x.toList) with
   | true=>
    rw[if_pos ak] at bi;have dd:y.1.1.rel.toList=x.toList:=by simpa using ak
    gi_wp2
    exact⟨(KeepsOthers.setCell _ _ _).from _,rfl,_,bi.out,qbj h1.res _,λd hd=>(Below.heap_setCell _ _ _ d (by have:=h1.above d hd;simp;omega)).trans (h1.shut d hd),h1.below.setCell (p:=⟨N+1,0,none⟩) (Nat.le_succ _) _⟩
   | false=>
    rw[if_neg (by rw[ak];decide)] at bi;have dd:¬y.1.1.rel.toList=x.toList:=by simpa using ak
    gi_wp2
    exact⟨KeepsFrom.ofBelow zr,qf.refl _,bi.out,h1⟩
  case done=>
   rintro D0 xs V hD rfl ⟨al,h1⟩ hK;have cb:D0∉ds:=λhd=>by have:=bd D0 hd;omega
   have b7:(D0::ds).Nodup:=List.nodup_cons.2 ⟨cb,h1.nodup⟩
   have au:∀d∈D0::ds,V.heap[d]?=some (.deferred (some [])):=λd hd=>by
    rcases List.mem_cons.1 hd with rfl | hd
    .exact hK
    .exact h1.shut d hd
   have bo:∀d∈D0::ds,N+1 < d:=λd hd=>by
    rcases List.mem_cons.1 hd with rfl | hd
    .omega
    .exact h1.above d hd
   have c8:Hid (arR rs x=(qcw ((rs.drop (k+1)).flatMap qx) x.data.toList).getD 0):=by show _=_;rw[Q7.out,b6.out,al,Option.none_or]
   clear al
   gi_wp2
   refine⟨⟨k+1,D0::ds,_,_,_,_,_,_,_,rfl,by omega,?_,c8⟩,?_⟩
   .exact {h1 with nodup:=b7,shut:=au,above:=bo}
   .simp[intOf];omega
  case stop=>
   rintro D0 c' pre V hD hp ⟨rfl,n,al,h2,h3,h4⟩ hK;have cb:D0∉ds:=λhd=>by have:=bd D0 hd;omega
   have b7:(D0::ds).Nodup:=List.nodup_cons.2 ⟨cb,hI.nodup⟩
   have au:∀d∈D0::ds,V.heap[d]?=some (.deferred (some [])):=λd hd=>by
    rcases List.mem_cons.1 hd with rfl | hd
    .exact hK
    .exact h3 d hd
   have bo:∀d∈D0::ds,N+1 < d:=λd hd=>by
    rcases List.mem_cons.1 hd with rfl | hd
    .omega
    .exact hI.above d hd
   have cd:Hid (arR rs x=n):=by
    show _=_;obtain⟨tl,dn⟩:=hp;rw[Q7.out,b6.out,<- dn,List.map_append,qis,al];rfl
   clear al
   gi_wp2
   show LeavesInM Fence.wide 9 Tryz.prog _ _ _ (qe1 (D0::ds)) .returning V;refine qep (D0::ds) V b7 au (λW' hc hs=>?_);have dN:W'.cell? (Ad (N+1) 0)=some (Ii n):=Boxed.cell (t:=3) ((hc.block (N+1) h2.lt (λhd=>by have:=bo (N+1) hd;omega)).trans h2);refine⟨Ii n,by simp[results,Tryz.results53,go_sem,dN],by rw[cd.out],?_⟩;rw[hN];exact h4.trans (hc.below (qa6 h4 hN) (λd hd=>by have:=bo d hd;omega))
 .have cN:=hI.res.cell;have fN:=hI.res.frozen
  gi_wp2
  show LeavesInM Fence.wide 9 Tryz.prog _ _ _ (qe1 ds) .returning (W.setCell (Ad (N+1) 0) (Ii 0));have au:∀d∈ds,(W.setCell (Ad (N+1) 0) (Ii 0)).heap[d]?=some (.deferred (some [])):=λd hd=>(Below.heap_setCell _ _ _ d (by have:=hI.above d hd;simp;omega)).trans (hI.shut d hd);refine qep ds _ hI.nodup au (λW' hc hs=>?_);have aj:=qbj hI.res (Ii 0);have dN:W'.cell? (Ad (N+1) 0)=some (Ii 0):=Boxed.cell (t:=3) ((hc.block (N+1) aj.lt (λhd=>by have:=hI.above (N+1) hd;omega)).trans aj);have cd:arR rs x=0:=by rw[Q7.out,List.drop_of_length_le (by omega)];rfl
  have ah:=hI.below.setCell (p:=⟨N+1,0,none⟩) (Nat.le_succ _) (Ii 0);refine⟨Ii 0,by simp[results,Tryz.results53,go_sem,dN],by rw[cd];rfl,?_⟩;rw[hN];exact ah.trans (hc.below (qa6 ah hN) (λd hd=>by have:=hI.above d hd;omega))
def qvf(x:By)(r:Rl):Bool:=r.head.rel.toList == x.toList
def qm1(rs:List Rl)(x:By):Bool:=rs.any (qvf x)
theorem qth(r:Rl)(x:By)(v0 vb:Vq)(B:Nat)(w:Wq)(hB:w.heap[B]?=cC #[St x] 9)(fa ga:Option Addr)(fn fc gn gc:Nat)(hf:v0=.slice fa fn fc)(hg:vb=.slice ga gn gc) :
  Cs 80 #[.agg #[St r.head.rel,v0,vb],.pointer (some ⟨B,0,none⟩)] w λe w'=>e=.returned (.bool (qvf x r))/\Below w.heap.size w w':=by
 subst hf hg;have ae:=(zg hB).1;have co:B≠w.heap.size:=by omega
 have c0:w.cell? (Ad B 0)=some (St x):=zc hB
 go_enter Tryz.func80,Tryz.ntmps80;go_wp2;go_ret;exact⟨rfl,by first | exact zr | exact (Below.refl _ w).alloc zl _⟩
theorem qx8(v:Vq)(rs:List Rl)(x:By)(B aa am ai:Nat)(w:Wq)(hB:w.heap[B]?=cC #[St x] 9)(hR:Qb w aa am ai v rs)(Qv:∀g,v.ownBlock=some g->g < w.heap.size)(h8:rs.length<=8) :
  Cs 101 #[v,.func (.func 80) #[] #[.pointer (some ⟨B,0,none⟩)]] w λe w'=>∃i:Int,e=.returned (Ii i)/\decide (0<=i)=qm1 rs x/\Below w.heap.size w w':=by
 obtain⟨a,c,ap⟩:=hR.form
 have Qj:∀k (hk:k < rs.length),∃g v0 vb,a=some ⟨g,0,none⟩/\w.cell? (Ad g (k*3))=some (St (rs[k]).head.rel)/\w.cell? (Ad g (k*3+1))=some v0/\w.cell? (Ad g (k*3+2))=some vb/\qfb w am ai rs[k] v0 vb/\g < w.heap.size:=by
  intro k hk;obtain⟨g,c',v0,vb,h1,h2,h3,h4,h5⟩:=qdb hR hk;have hg:=Qv g (by rw[h1];rfl);rw[ap] at h1;cases h1;exact⟨g,v0,vb,rfl,h2,h3,h4,h5,hg⟩
 subst ap;have HC:Hid _:=Qj;have HB:Hid _:=hB;have c3:=(zg hB).1;clear Qj hR Qv hB;go_enter Tryz.func101,Tryz.ntmps101;go_wp2
 go_loopw [8] (λi wr=>∃k:Nat,k<=rs.length/\i=.int .i64 k/\Hid (∀j,(hj:j < rs.length)->j < k->qvf x rs[j]=false)/\Below w.heap.size w wr) (λi _=>rs.length - (intOf i).toNat)
 case atStart=>exact⟨0,zz,rfl,λj _ hj=>by omega,zr⟩
 case round=>
  obtain⟨k,hk,rfl,cp,hb⟩:=hrel;by_cases ae:k < rs.length
  .obtain⟨g,v0,vb,rfl,q0,q1,q2,hv,hg⟩:=HC.out k ae;have ck:=(hb.cell (p:=⟨g,k*3,none⟩) hg).trans q0;have ce:=(hb.cell (p:=⟨g,k*3+1,none⟩) hg).trans q1;have cw:=(hb.cell (p:=⟨g,k*3+2,none⟩) hg).trans q2;obtain⟨sa,sc,bu⟩:=hv.1.form;obtain⟨ta,tc,bq⟩:=hv.2.form;have bh:=qth rs[k] x v0 vb B wr ((hb.block B c3).trans HB.out) _ _ _ _ _ _ bu bq;rw[bu] at bh ce;rw[bq] at bh cw;have i1:(k:Int) < (rs.length:Int):=by omega
   generalize ak:qvf x rs[k]=bb at *;have c2:Hid (qvf x rs[k]=bb):=ak;clear ak q0 q1 q2 hv bu bq;generalize (rs[k]).head.rel=rel at *;generalize (rs[k]).head.args.length=m1 at *;generalize (rs[k]).body.length=m2 at *
   cases bb with
   | true=>
    go_wp2_with fail;refine bh.mono ?_;rintro e w1 ⟨rfl,ab⟩;go_wp2;go_ret;refine⟨k,rfl,?_,hb.trans (ab.mono hb.size)⟩
    have h1:qm1 rs x=true:=by
     unfold qm1;rw[List.any_eq_true];exact⟨rs[k],List.getElem_mem ae,c2.out⟩
    rw[h1];simp
   | false=>
    go_wp2_with fail;refine bh.mono ?_;rintro e w1 ⟨rfl,ab⟩;go_wp2
    go_roundw
    case rel=>
     refine⟨k+1,by omega,by go_num,?_,hb.trans (ab.mono hb.size)⟩;intro j hj d6;by_cases e:j=k
     .subst e;exact c2.out
     .exact cp.out j hj (by omega)
    case measure=>simp[intOf];omega
  .go_wp2;go_ret;refine⟨-1,rfl,?_,hb⟩;unfold qm1;rw[qg5 _ _ (λj hj=>cp.out j hj (by omega))];rfl
theorem qrp(v:Vq)(rs:List Rl)(x:By)(aa am ai:Nat)(w:Wq)(hR:Qb w aa am ai v rs)(Qv:∀g,v.ownBlock=some g->g < w.heap.size)(h8:rs.length<=8) :
  Cs 41 #[v,St x] w λe w'=>e=.returned (.bool (qm1 rs x))/\Below w.heap.size w w':=by
 have ag:∀O,Below w.heap.size w (w.alloc O):=λO=>(Below.refl _ w).alloc zl _
 have hI:Hid (Cs 101 #[v,.func (.func 80) #[] #[.pointer (some ⟨w.heap.size,0,none⟩)]] (w.alloc (.cells #[St x] 9)) λe w'=>∃i:Int,e=.returned (Ii i)/\decide (0<=i)=qm1 rs x/\Below (w.alloc (.cells #[St x] 9)).heap.size (w.alloc (.cells #[St x] 9)) w'):=
  qx8 v rs x w.heap.size aa am ai _ (zn w _) (Qb.rk hR (qf.ofBelow (ag _))) (λg hg=>by have:=Qv g hg;simp;omega) h8
 obtain⟨xa,xc,rfl⟩:=hR.form
 have HC:Hid (Cs 79 #[.slice xa rs.length xc,.func (.func 80) #[] #[.pointer (some ⟨w.heap.size,0,none⟩)]] (w.alloc (.cells #[St x] 9)) λe w'=>e=.returned (.bool (qm1 rs x))/\Below (w.alloc (.cells #[St x] 9)).heap.size (w.alloc (.cells #[St x] 9)) w'):=by
  clear hR Qv ag;show Calls _ _ _ _ _;generalize (w.alloc (.cells #[St x] 9))=W at *;go_enter Tryz.func79,Tryz.ntmps79;go_wp2_with fail;refine Calls.mono hI.out ?_;rintro e w1 ⟨i,rfl,hr,ab⟩;have HR:Hid _:=hr;clear hr;go_wp2;go_ret;exact⟨qaj (by rw[<- HR.out]),ab⟩
 clear hI hR Qv;go_enter Tryz.func41,Tryz.ntmps41
 go_wp2_with (go_at_call 79;refine Calls.mono HC.out ?_;rintro e w1 ⟨rfl,ab⟩)
 go_ret;exact⟨rfl,(ag _).trans (ab.mono (by simp))⟩
attribute [local go_sem] Oper.semAt_some
theorem qwr(v:Vq)(w:Wq)(ta:Option Addr)(tn tc:Nat)(du:v=.slice ta tn tc) :
  Cs 84 #[v] w λe w'=>e=.returned (.func (.func 144) #[] #[.pointer (some ⟨w.heap.size,0,none⟩)])/\w'=w.alloc (.cells #[v] 90):=by
 subst du;go_enter Tryz.func84,Tryz.ntmps84;go_wp2;go_ret;exact⟨rfl,rfl⟩
theorem qws(Bs b:Nat)(v:Vq)(xs:List Tm)(w:Wq)(Qs:w.heap[Bs]?=cC #[v] 90)(qq:Qi w b v xs)(hl:xs.length<=1000) :
  qs4 7 144 #[.pointer (some ⟨Bs,0,none⟩)] (λt:Tm=>#[.agg #[St t.name,Ii t.num]]) (qab (w.heap.size+2)) (λys=>ys=xs) (λ_=>True) xs.length w:=by
 obtain⟨n,hn,cz⟩:∃n,6<=n/\n=7:=⟨7,by omega,rfl⟩;rw[<- cz];clear cz;have n1:1<=n:=by omega
 intro l J Jx W hW d0 hJ cq hY h0;generalize w.heap.size+2=m at *;have dp:=(hW.block Bs (zg Qs).1).trans Qs;have b0:=qq.rk (qf.ofBelow hW);clear Qs qq hW;obtain⟨va,vc,rfl⟩:=b0.form;have c0:W.cell? (Ad Bs 0)=some (.slice va xs.length vc):=zc dp
 have HY:Hid _:=hY;have HJ:Hid (OwnFrom W.heap.size J):=hJ;have HJx:Hid (OwnFrom W.heap.size Jx):=cq;clear hY hJ cq;refine callsIn_of_wp_marks Tryz.func144 rfl trivial ?_ rfl;simp only[Tryz.ntmps144,List.size_toArray,List.length_cons,List.length_nil,Nat.reduceAdd,Nat.reduceSub,Array.replicate_succ,Array.replicate_zero,List.push_toArray,List.append_toArray,List.nil_append,List.cons_append]
 gi_wp2
 refine wpIn_loop (λA V=>∃(k:Nat) (u4 u8 u9 cu a7 ax av a6 ay:Vq),A={tmps:=#[.func (.yield l) #[] #[],.pointer (some ⟨Bs,0,none⟩),undef,undef,u4,.slice va xs.length vc,Ii xs.length,Ii k,u8,u9,cu,a7,ax,av,a6,ay],defers:=[]}/\k<=xs.length/\J (xs.take k) V/\qab m W V) (λA _=>xs.length - (intOf (A.tmps.getD 7 undef)).toNat) ⟨0,_,_,_,_,_,_,_,_,_,rfl,zz,by simpa using h0,qab.ofBelow zr⟩ ?_;rintro A V ⟨k,u4,u8,u9,cu,a7,ax,av,a6,ay,rfl,hk,ca,bt⟩;by_cases ae:k < xs.length
 .have cl:Qi V b (.slice va xs.length vc) xs:=b0.rk bt.rule;obtain⟨g,c,e0,x0,x1,d1⟩:=qfn cl ae;cases e0;have b8:∀O,Below V.heap.size V (V.alloc O):=λO=>(Below.refl _ V).alloc zl O;have Q7:Hid (xs.take (k+1)=xs.take k++[xs[k]]):=by show _=_;rw[List.take_succ_eq_append_getElem ae]
  obtain⟨fn,tmps,assign,body,hy,hR⟩:=HY.out (xs.take k) xs[k] (V.alloc (.cells #[St (xs[k]).name,Ii (xs[k]).num] 166)) (HJ.out _ _ _ none ca (qi (b8 _)) (λr e=>by cases e)) (by simp;omega);generalize hxk:xs[k]=xk at *;have c4:Hid _:=bt;have HB:Hid _:=b8;clear cl b0 b8 bt hxk
  gi_wp2
  refine hR.mono ?_;rintro e W1 (⟨rfl,c6,da⟩ | ⟨rfl,b9,_⟩)
  .clear hy hR
   gi_wp2
   refine⟨⟨k+1,_,_,_,_,_,_,_,_,_,rfl,by omega,by rw[Q7.out];exact c6,(qab.tr c4.out (qab.ofBelow (HB.out _))).tr da⟩,?_⟩;simp[intOf];omega
  .clear hy hR
   gi_wp2
   exact⟨_,results_none rfl _ _ _,⟨_,rfl⟩,.inr ⟨_,trivial,b9⟩⟩
 .have dk:k=xs.length:=by omega
  subst dk;rw[List.take_length] at ca
  gi_wp2
  exact⟨_,results_none rfl _ _ _,⟨_,rfl⟩,.inl ⟨xs,rfl,ca⟩⟩
theorem qs8(gf:Nat)(lb:Array Vq)(ts:List Tm)(Sp:List Tm->Prop)(C:Nat)(v:Vq)(vs:List By)(aa:Nat)(w:Wq)(eg:∀args w,(callFunc gf args).run Tryz.prog w=.ok (.enter gf args) w)(az:∀O,qs4 7 gf lb (λt:Tm=>#[.agg #[St t.name,Ii t.num]]) (qab ((w.alloc O).heap.size+2)) (λys=>ys=ts) Sp C (w.alloc O))(hC:C<=40)(qq:w.ownsRow aa 9 1 v vs.length (vs.map Value.string))(d3:aa<=w.heap.size)(d7:vs.length<=900) :
  Cs 76 #[v,.func (.func gf) #[] lb] w λe w'=>∃v',e=.returned v'/\w'.ownsRow aa 9 1 v' (nmL vs ts).length ((nmL vs ts).map Value.string)/\qz aa w w':=by
 obtain⟨a9,aq,dm⟩:=qo qq;obtain⟨N,hN⟩:∃N,w.heap.size=N:=⟨_,rfl⟩;obtain⟨i0,hi,dx,dg,di⟩:=info_parts Tryz.info9;rw[dm] at qq ⊢;refine (callsIn_wide (n:=8)).1 ?_;refine callsIn_of_wp_marks Tryz.func76 rfl trivial ?_ rfl;simp only[Tryz.ntmps76,List.size_toArray,List.length_cons,List.length_nil,Nat.reduceAdd,Nat.reduceSub,Array.replicate_succ,Array.replicate_zero,List.push_toArray,List.append_toArray,List.nil_append,List.cons_append]
 gi_wp2
 obtain⟨W0,ac⟩:∃W0,w.alloc (.cells #[.slice a9 vs.length aq] 22)=W0:=⟨_,rfl⟩;have ag:Below w.heap.size w W0:=by rw[<- ac];exact (Below.refl _ w).alloc zl _
 have de:W0.heap.size=N+1:=by rw[<- ac,<- hN];simp
 have bV:Boxed W0 N 22 (.slice a9 vs.length aq):=by
  have:=Boxed.new w 22 (.slice a9 vs.length aq);rw[hN,ac] at this;exact this
 have cv:=az (.cells #[.slice a9 vs.length aq] 22);rw[ac] at cv;have dj:=qk qq ag;have Qbo:qz aa w W0:=by rw[<- ac];exact (qz.refl aa w).alloc _
 (try simp only[hN])
 rw[ac];clear ac az
 refine qhk (n:=8) (gf:=gf) (lb:=lb) rfl eg
  cv qab.tr (λV o o' ho hc=>qab.put V _ o o' (by omega) ho hc) (λ_=>rfl)
  (λpre V=>∃v,Boxed V N 22 v/\V.ownsRow aa 9 1 v (nmL vs pre).length ((nmL vs pre).map Value.string)/\qz aa w V)
  (λ_ _ _=>False)
  ?hI (λ_ _ _ _ _ h _ _=>h) ⟨_,bV,dj,Qbo⟩
  (λt a' V=>∃Bx,V.heap[Bx]?=cC #[St t.name,Ii t.num] 166/\a'={tmps:=#[.slice a9 vs.length aq,.func (.func gf) #[] lb,.pointer (some ⟨N,0,none⟩),undef,.slice none 0 0,.pointer (some ⟨Bx,0,none⟩),.func (.func gf) #[] lb,.agg #[St t.name,Ii t.num],undef,undef,undef,undef,undef,undef,undef,undef,undef,undef,undef,undef,undef,undef,undef,undef],defers:=[]})
  ?hAx ?assign ?body ?done (λ_ _ _ _ _ _ h _=>h.elim)
 case hI=>
  rintro pre V V' row ⟨v,h1,h2,h3⟩ hg hr;have hk:=qj hg (λr e=>(hr r e).2);exact⟨v,hk _ _ _ _ h1,q8 h2 (λg c _ hc=>hk g c _ _ hc),h3.grown hg (λk e=>.inl (by have:=(hr k e).1;omega))⟩
 case hAx=>
  rintro x a' _ V V' row ⟨Bx,h2,h3⟩ hg hr;exact⟨Bx,qj hg (λr e=>(hr r e).2) _ _ _ _ h2,h3⟩
 case assign=>
  rintro l' pre t V K hl c7 ⟨v,h1,h2,h3⟩ hK;have HK:Hid _:=hK;clear hK
  gi_wp2
  have ah:Below V.heap.size V (V.alloc (.cells #[St t.name,Ii t.num] 166)):=(Below.refl _ V).alloc zl _;exact HK.out _ _ (KeepsFrom.ofBelow ah) (qab.ofBelow ah) ⟨v,h1.alloc _,h2.alloc _,h3.alloc _⟩ ⟨V.heap.size,zn V _,rfl⟩
 case done=>
  rintro D xs V hD rfl ⟨v,h1,h2,h3⟩ hK;have c1:=h1.cell
  gi_wp2
  refine⟨by simp,.inl ⟨_,_,rfl,run_takeDeferred hK,?_⟩⟩;have hk:=qj (grownBy_putObj' V D (.deferred none)) (λr e=>by cases e;exact⟨_,hK,rfl⟩);refine⟨_,results_tmp rfl _ _ _,v,rfl,q8 h2 (λg c _ hc=>hk g c _ _ hc),?_⟩;exact h3.grown (grownBy_putObj' V D (.deferred none)) (λk e=>.inl (by cases e;omega))
 case body=>
  rintro l' pre t a' V c5 ⟨r,hr⟩ ⟨v,h1,h2,h3⟩ ⟨Bx,aj,rfl⟩ ae;have d5:=q5n pre vs;have Qgq:(nmL vs pre).length<=950:=by omega
  have d8:N<=V.heap.size:=by have:=h3.size;omega
  have dl:Bx < V.heap.size:=(zg aj).1;have c0:V.cell? (Ad Bx 0)=some (St t.name):=zc aj
  have c1:V.cell? (Ad Bx 1)=some (Ii t.num):=zc aj
  have ct:=qv3 vs pre t;have bc:=qb6 t V;obtain⟨va,vc,rfl⟩:=qo h2;have an:=qkj (nmL vs pre) t.name;generalize hvs:nmL vs pre=us at *;have HS:Hid (nmL vs (pre++[t])=qaw us t):=ct;clear ct hvs
  cases htv:t.name.toList.isEmpty with
  | true=>
   rw[htv] at bc;have q7:Hid (nmL vs (pre++[t])=us):=by show _=_;rw[HS.out];unfold qaw;rw[if_pos htv]
   clear htv
   gi_wp2_with (refine⟨trivial,?_⟩;gi_at_call 139;refine (CallsIn.inRound l' (callsIn_wide.2 bc)).mono ?_;rintro e V1 ⟨rfl,ab⟩)
   refine⟨trivial,?_⟩
   gi_wp2
   refine⟨KeepsFrom.ofBelow ab,qab.ofBelow ab,.slice va us.length vc,?_,?_,?_⟩
   .exact (ab.block _ h1.lt).trans h1
   .rw[q7.out];exact qk h2 ab
   .exact h3.trans (qz.ofBelow ab)
  | false=>
   rw[htv] at bc;have ch:Hid _:=bc;have cr:Hid (qaw us t=Qh us t.name):=by show _=_;unfold qaw;rw[if_neg (by simp[htv])]
   clear htv bc
   have b3:Hid (∀V1,Below V.heap.size V V1->Boxed V1 N 22 (.slice va us.length vc)/\V1.ownsRow aa 9 1 (.slice va us.length vc) us.length (us.map Value.string)/\V1.cell? (Ad Bx 0)=some (St t.name)/\qz aa w V1):=λV1 ab=>
    ⟨(ab.block _ h1.lt).trans h1,qk h2 ab,(ab.cell (p:=⟨Bx,0,none⟩) dl).trans c0,h3.trans (qz.ofBelow ab)⟩
   cases hct:Lib.containsS us t.name with
   | true=>
    have q7:Hid (nmL vs (pre++[t])=us):=by
     show _=_;rw[HS.out,cr.out];unfold Qh;rw[if_pos (by rw[hct] at an;simpa using an.symm)]
    have cf:Hid _:=hct;clear hct an h1 h2 h3
    gi_wp2_with (first | (refine⟨trivial,?_⟩;gi_at_call 139;refine (CallsIn.inRound l' (callsIn_wide.2 ch.out)).mono ?_;rintro e V1 ⟨rfl,ab⟩;obtain⟨k1,k2,k3,k4⟩:=b3.out V1 ab;have kc:=k1.cell) | (refine⟨trivial,?_⟩;gi_at_call 140;refine (CallsIn.inRound l' (callsIn_wide.2 (qfg k2 (by omega) t.name))).mono ?_;rintro e w' ⟨rfl,b5⟩;obtain rfl:V1=w':=b5.symm;rw[cf.out]))
    exact⟨KeepsFrom.ofBelow ab,qab.ofBelow ab,_,k1,by rw[q7.out];exact k2,k4⟩
   | false=>
    have q7:Hid (nmL vs (pre++[t])=us++[t.name]):=by
     show _=_;rw[HS.out,cr.out];unfold Qh;rw[if_neg (by rw[hct] at an;simpa using an.symm)]
    have cf:Hid _:=hct;clear hct an h1 h2 h3;have dv:us.length+1<=maxLen:=by unfold maxLen;omega
    have dz:(us.length+1)*16<=140737488355328:=by omega
    have dt:Hid (∀V1 w1,Below V.heap.size V V1->(V1.alloc (.cells #[St t.name] 9)).grownBy w1 (Value.slice va us.length vc).ownBlock->Boxed w1 N 22 (.slice va us.length vc)/\Chg V1 w1 (λj=>some j=(Value.slice va us.length vc).ownBlock)):=by
     intro V1 w1 ab hg;obtain⟨k1,k2,k3,k4⟩:=b3.out V1 ab;have hc:Chg V1 w1 (λj=>some j=(Value.slice va us.length vc).ownBlock):=((Chg.refl V1 _).alloc _).grown hg (λk e _=>e.symm);exact⟨(hc.block _ k1.lt (λe=>Qf k2 k1 (by decide) _ e.symm rfl)).trans k1,hc⟩
    have ak:Hid (∀V1,Below V.heap.size V V1->aa<=(V1.alloc (.cells #[St t.name] 9)).heap.size):=λV1 ab=>by
     have:=ab.size;show aa<=_;simp;omega
    gi_wp2_with (first | (refine⟨trivial,?_⟩;gi_at_call 139;refine (CallsIn.inRound l' (callsIn_wide.2 ch.out)).mono ?_;rintro e V1 ⟨rfl,ab⟩;obtain⟨k1,k2,k3,k4⟩:=b3.out V1 ab;have kc:=k1.cell) | (refine⟨trivial,?_⟩;gi_at_call 140;refine (CallsIn.inRound l' (callsIn_wide.2 (qfg k2 (by omega) t.name))).mono ?_;rintro e w' ⟨rfl,b5⟩;obtain rfl:V1=w':=b5.symm;rw[cf.out]) | (gi_at_builtin;refine wpListIn_append_own _ rfl _ _ 22 rfl aa 9 i0 (St ⟨#[]⟩) 1 16 Tryz.underlying22 hi dx dg di rfl (by decide) _ _ _ rfl (World.ownsRow.alloc k2 _) ⟨V1.heap.size,0,none⟩ 1 1 [St t.name] rfl rfl (cell_one_new _ _ _) (by simp[Value.oneCell']) dv dz (ak.out V1 ab) ?_;intro v' w1 af ad _;obtain⟨g',aw,dr⟩:=ownsRow_succ af;subst dr;obtain⟨bk,db⟩:=dt.out V1 w1 ab ad;have cc:=bk.cell;have ff:=bk.frozen))
    have dc:Chg V1 (w1.setCell (Ad N 0) (.slice (some ⟨g',0,none⟩) (us.length+1) aw)) (λj=>j=N\/some j=(Value.slice va us.length vc).ownBlock):=(db.mono (λ_ _ e=>.inr e)).setCell (Ad N 0) _ (λ_=>.inl rfl)
    obtain⟨dy,dw⟩:=qn6 (m:=W0.heap.size) dc (λj hj hx=>by
     rcases hx with rfl | hx
     .exact⟨_,_,k1,by decide,by decide,by decide,by decide⟩
     .obtain⟨_,c,hc⟩:=qe k2 hx.symm;exact⟨c,_,hc,by decide,by decide,by decide,by decide⟩)
    refine⟨KeepsFrom.trans (KeepsFrom.ofBelow ab) dy,(qab.ofBelow ab).tr (dw _),_,qbj bk _,?_,?_⟩
    .rw[q7.out];have:=Qg af ⟨N,0,none⟩ (.slice (some ⟨g',0,none⟩) (us.length+1) aw) (Qf af bk (by decide));simpa using this
    .exact (k4.alloc _ |>.grown ad (λj e=>by
      obtain⟨dq,d,hd⟩:=qe k2 e
      exact .inr ⟨dq,d,_,(Below.heap_alloc _ _ _ (zg hd).1).trans hd⟩)).setCell (Nat.le_of_eq hN) _
attribute [local go_sem] Oper.semAt_some
