/- rules.Form, feeds.New. -/
import Derived.Test.YtjajnhemgphefaaGreatDoorJArity
set_option linter.unusedVariables false
set_option linter.unusedSimpArgs false
set_option maxRecDepth 100000
set_option maxHeartbeats 1000000
namespace Go.Proofs.YtjajnhemgphefaaGreatDoor
open Go renaming World->Wq,Value->Vq
open Go.RowKit Go.Shelf
attribute [local go_sem] Oper.semAt_some
variable {W:Wq} {N:Nat} {ds:List Nat} {x:ByteArray}
def arR(rs:List Rl)(x:ByteArray):Nat:=(qct (rs.flatMap qy) x.data.toList).getD 0
structure qtv(w:Wq)(N:Nat)(ds:List Nat)(x:ByteArray)(W:Wq):Prop where
 rel:Boxed W N 9 (.string x)
 res:Boxed W (N+1) 3 (.int .i64 0)
 nodup:ds.Nodup
 shut:∀d∈ds,W.heap[d]?=some (.deferred (some []))
 above:∀d∈ds,N+1 < d
 rk:qf w W
 below:Below N w W
theorem qtv.grown{w W':Wq}{row:Option Nat}(h:qtv w N ds x W)(hN:w.heap.size=N)(hg:W.grownBy W' row)(hr:∀r,row=some r->N+1 < r/\r∉ds/\∃o:Obj,W.heap[r]?=some o/\o.isCells=false):qtv w N ds x W':=by
 have hk:=qj hg (λr e=>(hr r e).2.2);refine⟨hk _ _ _ _ h.rel,hk _ _ _ _ h.res,h.nodup,λd hd=>?_,h.above,h.rk.trans (λk c t _ hc=>hk k c t _ hc),h.below.grown hg (qa6 h.below hN) (λk e=>by have:=(hr k e).1;omega)⟩;have hd':=h.shut d hd;exact (hg.block d (zg hd').1 (λe=>(hr d e.symm).2.1 hd)).trans hd'
theorem qtv.lt{w:Wq}(h:qtv w N ds x W):∀d∈ds,d < W.heap.size:=λd hd=>(zg (h.shut d hd)).1
theorem qih(l m:List Am)(x:List UInt8):qct (l++m) x=(qct l x).or (qct m x):=by
 unfold qct;rw[List.find?_append]
 cases List.find? (λa=>a.rel.data.toList == x) l <;> simp
theorem qq6(a:Am)(l:List Am)(x:List UInt8):qct (a::l) x=if a.rel.data.toList == x then some a.args.length else qct l x:=by
 unfold qct;rw[List.find?_cons]
 cases a.rel.data.toList == x <;> simp
theorem Qam(y x:ByteArray):(y.toList == x.toList)=(y.data.toList == x.data.toList):=by rw[qdq,qdq]
theorem qzs(v:Vq)(rs:List Rl)(x:ByteArray)(base b45 b87:Nat)(w:Wq)(hR:Qa w base b45 b87 v rs)(Q4:∀g,v.ownBlock=some g->g < w.heap.size)(h8:rs.length<=8)(hok:∀r∈rs,qcd r) :
  Calls Tryz.prog 53 #[v,.string x] w λe w'=>e=.returned (.int .i64 (arR rs x))/\Below w.heap.size w w':=by
 obtain⟨a,c,qbd⟩:=hR.form
 have Ql:∀k (hk:k < rs.length),∃g v0 vb,a=some ⟨g,0,none⟩/\w.cell? ⟨g,k*3,none⟩=some (.string (rs[k]).head.rel)/\w.cell? ⟨g,k*3+1,none⟩=some v0/\w.cell? ⟨g,k*3+2,none⟩=some vb/\qez w b45 b87 rs[k] v0 vb/\g < w.heap.size:=by
  intro k hk;obtain⟨g,c',v0,vb,h1,h2,h3,h4,h5⟩:=qc1 hR hk;have hg:=Q4 g (by rw[h1];rfl);rw[qbd] at h1;cases h1;exact⟨g,v0,vb,rfl,h2,h3,h4,h5,hg⟩
 subst qbd;have HC:Hid _:=Ql;have HOK:Hid _:=hok;clear Ql hR hok Q4;obtain⟨N,hN⟩:∃N,w.heap.size=N:=⟨_,rfl⟩;refine (callsIn_wide (n:=9)).1 ?_;refine callsIn_of_wp_marks Tryz.func53 rfl trivial ?_ rfl;simp only[Tryz.ntmps53,List.size_toArray,List.length_cons,List.length_nil,Nat.reduceAdd,Nat.reduceSub,Array.replicate_succ,Array.replicate_zero,List.push_toArray,List.append_toArray,List.nil_append,List.cons_append]
 gi_wp2
 have hI0:qtv w N [] x ((w.alloc (.cells #[.string x] 9)).alloc (.cells #[.int .i64 0] 3)):=by
  have hb:Below w.heap.size w ((w.alloc (.cells #[.string x] 9)).alloc (.cells #[.int .i64 0] 3)):=((Below.refl _ w).alloc zl _).alloc (by simp) _;have hb0:=(Boxed.new w 9 (.string x)).alloc (.cells #[.int .i64 0] 3);rw[hN] at hb hb0;refine⟨hb0,?_,List.nodup_nil,by simp,by simp,qf.ofBelow (by rw[hN];exact hb),hb⟩;have:=Boxed.new (w.alloc (.cells #[.string x] 9)) 3 (.int .i64 0);rw[World.size_alloc,hN] at this;exact this
 refine wpIn_loop (λA W=>∃(k:Nat) (ds:List Nat) (u6 u11 u12 u13 u14 u15 u24:Vq),A={tmps:=#[.slice a rs.length c,.string x,undef,.pointer (some ⟨N,0,none⟩),.pointer (some ⟨N+1,0,none⟩),undef,u6,undef,.slice a rs.length c,.int .i64 rs.length,.int .i64 k,u11,u12,u13,u14,u15,undef,undef,undef,undef,undef,undef,undef,undef,u24],defers:=qes ds}/\k<=rs.length/\qtv w N ds x W/\Hid (arR rs x=(qct ((rs.drop k).flatMap qy) x.data.toList).getD 0)) (λA _=>rs.length - (intOf (A.tmps.getD 10 undef)).toNat) ⟨0,[],_,_,_,_,_,_,_,rfl,Nat.zero_le _,hI0,rfl⟩ ?_;rintro A W ⟨k,ds,u6,u11,u12,u13,u14,u15,u24,rfl,hk,hI,Q5⟩;clear hI0;by_cases hlt:k < rs.length
 ·obtain⟨g,v0,vb,rfl,q0,q1,q2,hv,hg⟩:=HC.out k hlt;have hg':g < N:=by omega
  have q0':=(hI.below.cell (p:=⟨g,k*3,none⟩) hg').trans q0;have q1':=(hI.below.cell (p:=⟨g,k*3+1,none⟩) hg').trans q1;have q2':=(hI.below.cell (p:=⟨g,k*3+2,none⟩) hg').trans q2;have hvW:=hv.rk hI.rk;have q3l:=HOK.out _ (List.getElem_mem hlt)
  have qj6:Hid (qct ((rs.drop k).flatMap qy) x.data.toList=(qct (qy rs[k]) x.data.toList).or (qct ((rs.drop (k+1)).flatMap qy) x.data.toList)):=by
   show _=_;rw[List.drop_eq_getElem_cons hlt,List.flatMap_cons,qih]
  obtain⟨x0,L,la,cap,hx0,hL,rfl,hL3,qu1⟩:=qp2 hvW q3l;have q25:qy rs[k]=(x0::L).map (·.1.1):=by unfold qy;rw[List.map_cons,hL,hx0]
  have hr0:(rs[k]).head.rel=x0.1.1.rel:=by rw[hx0]
  have hv0:v0=x0.1.2:=by rw[hx0]
  obtain⟨fa,fc,hf⟩:=x0.2.1.form;rw[hr0] at q0';rw[hv0,hf] at q1';rw[q25] at qj6;clear q25 hr0 hv0 hx0 hL hvW q3l hv q0 q1 q2;have i1:(k:Int) < (rs.length:Int):=by omega
  gi_wp2_with (refine⟨trivial,?_⟩;gi_at_call 98;refine (callsIn_wide.2 (qkt _ _ _ _ rfl rfl rfl rfl _)).mono ?_;rintro e w' ⟨rfl,rfl⟩)
  obtain⟨M,hM⟩:∃M,W.heap.size=M:=⟨_,rfl⟩;obtain⟨W0,hW0⟩:∃W0,(W.alloc (.cells #[.string x0.1.1.rel,.slice fa x0.1.1.args.length fc,.slice la L.length cap] 136)).alloc (.cells #[.string x0.1.1.rel,.slice fa x0.1.1.args.length fc,.slice la L.length cap] 136)=W0:=⟨_,rfl⟩;have hb0:Below W.heap.size W W0:=by rw[<- hW0];exact ((Below.refl _ W).alloc zl _).alloc (by simp) _
  have hs0:W0.heap.size=M+2:=by rw[<- hW0,<- hM];simp
  have bR:W0.heap[M+1]?=some (Obj.cells #[.string x0.1.1.rel,x0.1.2,.slice la L.length cap] 136):=by
   rw[<- hW0,hf];have:=World.alloc_heap_new (W.alloc (.cells #[.string x0.1.1.rel,.slice fa x0.1.1.args.length fc,.slice la L.length cap] 136)) (.cells #[.string x0.1.1.rel,.slice fa x0.1.1.args.length fc,.slice la L.length cap] 136);rw[World.size_alloc,hM] at this;exact this
  have qpa:L≠[]->∃(g off:Nat) (cur:Array Vq),la=some ⟨g,off,none⟩/\W0.heap[g]?=some (Obj.cells cur 92)/\(cur.toList.drop off).take (L.length*2)=L.flatMap λx=>[.string x.1.1.rel,x.1.2]:=λhne=>by
   obtain⟨g,off,cur,h1,h2,h3⟩:=qu1 hne;exact⟨g,off,cur,h1,qf.ofBelow hb0 _ _ _ (.inr (.inl rfl)) h2,h3⟩
  have hI0:=hI.grown hN (qh hb0) (λr e=>by cases e);have qs1:=hI.lt;have hMN:N+1 < M:=by have:=hI.res.lt;omega
  simp only[hM];rw[hW0];clear hW0 qu1
  refine qhd (n:=9) (gf:=163) (lb:=#[.pointer (some ⟨M+1,0,none⟩)]) rfl (enters_of Tryz.func163 (by kernel_rfl) rfl)
   (qse.ofStops (qij 8 (by decide) (M+1) W b87 x0 L (by omega) la cap W0 bR qpa)) qf.trans (λV o o' ho hc=>qf.put V _ o o' ho hc) (λ_=>rfl)
   (λpre V=>qct (pre.map (·.1.1)) x.data.toList=none/\qtv w N ds x V)
   (λc pre V=>c=.ret/\∃n:Nat,qct (pre.map (·.1.1)) x.data.toList=some n/\Boxed V (N+1) 3 (.int .i64 n)/\(∀d∈ds,V.heap[d]?=some (.deferred (some [])))/\Below N w V)
   ?hI ?hIx ⟨rfl,hI0⟩
   (λy a' V=>∃Bx,V.heap[Bx]?=some (Obj.cells #[.string y.1.1.rel,y.1.2] 92)/\a'={tmps:=#[.slice (some ⟨g,0,none⟩) rs.length c,.string x,undef,.pointer (some ⟨N,0,none⟩),.pointer (some ⟨N+1,0,none⟩),undef,.pointer (some ⟨M,0,none⟩),.pointer (some ⟨Bx,0,none⟩),.slice (some ⟨g,0,none⟩) rs.length c,.int .i64 rs.length,.int .i64 k,.bool true,.pointer (some ⟨g,k*3,none⟩),.agg #[.string x0.1.1.rel,.slice fa x0.1.1.args.length fc,.slice la L.length cap],.agg #[.string x0.1.1.rel,.slice fa x0.1.1.args.length fc,.slice la L.length cap],.func (.func 163) #[] #[.pointer (some ⟨M+1,0,none⟩)],.agg #[.string y.1.1.rel,y.1.2],undef,undef,undef,undef,undef,undef,undef,u24],defers:=[]})
   ?hAx ?assign ?body ?done ?stop
  case hI=>
   rintro pre V V' row ⟨h0,h1⟩ hg hr;refine⟨h0,h1.grown hN hg (λr e=>⟨by have:=(hr r e).1;omega,λhd=>?_,(hr r e).2⟩)⟩;have:=qs1 r hd;have:=(hr r e).1;omega
  case hIx=>
   rintro c pre V V' row ⟨rfl,n,h0,h1,h2,h3⟩ hg hr;refine⟨rfl,n,h0,qj hg (λr e=>(hr r e).2) _ _ _ _ h1,λd hd=>?_,h3.grown hg (qa6 h3 hN) (λk e=>by have:=(hr k e).1;omega)⟩;have hd':=h2 d hd;exact (hg.block d (zg hd').1 (λe=>by have:=qs1 d hd;have:=(hr d e.symm).1;omega)).trans hd'
  case hAx=>
   rintro y a' _ V V' row ⟨Bx,h2,h3⟩ hg hr;exact⟨Bx,qj hg (λr e=>(hr r e).2) _ _ _ _ h2,h3⟩
  case assign=>
   rintro l' pre y V K hl hlr ⟨h0,h1⟩ hK;have HK:Hid _:=hK;clear hK;obtain⟨ga,gc,hgx⟩:=y.2.1.form;simp only[hgx]
   gi_wp2
   have hbl:Below V.heap.size V (V.alloc (.cells #[.string y.1.1.rel,.slice ga y.1.1.args.length gc] 92)):=(Below.refl _ V).alloc zl _;exact HK.out _ _ (KeepsFrom.ofBelow hbl) (qf.ofBelow hbl) ⟨h0,h1.grown hN (qh hbl) (λr e=>by cases e)⟩ ⟨V.heap.size,by rw[hgx];exact World.alloc_heap_new V _,by rw[hgx]⟩
  case body=>
   rintro l' pre y a' V hl' ⟨r,hr⟩ ⟨hsc,h1⟩ ⟨Bx,hbx,rfl⟩ hlt';obtain⟨ga,gc,hgx⟩:=y.2.1.form;have c0:V.cell? ⟨Bx,0,none⟩=some (.string y.1.1.rel):=by simp[World.cell?,hbx]
   have c1:V.cell? ⟨Bx,1,none⟩=some (.slice ga y.1.1.args.length gc):=by simp[World.cell?,hbx,hgx]
   have cV:=h1.rel.cell;have cN:=h1.res.cell;have fN:=h1.res.frozen
   have hnx:Hid (qct ((pre++[y]).map (·.1.1)) x.data.toList=if (y.1.1.rel.toList == x.toList) then some y.1.1.args.length else none):=by
    show _=_;rw[List.map_append,qih,hsc,Option.none_or,List.map_cons,List.map_nil,qq6,Qam];rfl
   clear hgx hsc
   cases hbb:(y.1.1.rel.toList == x.toList) with
   | true=>
    rw[if_pos hbb] at hnx;have hbe:y.1.1.rel.toList=x.toList:=by simpa using hbb
    gi_wp2
    exact⟨(KeepsOthers.setCell _ _ _).from _,rfl,_,hnx.out,qbv h1.res _,λd hd=>(Below.heap_setCell _ _ _ d (by have:=h1.above d hd;simp;omega)).trans (h1.shut d hd),h1.below.setCell (p:=⟨N+1,0,none⟩) (Nat.le_succ _) _⟩
   | false=>
    rw[if_neg (by rw[hbb];decide)] at hnx;have hbe:¬y.1.1.rel.toList=x.toList:=by simpa using hbb
    gi_wp2
    exact⟨KeepsFrom.ofBelow (Below.refl _ _),qf.refl _,hnx.out,h1⟩
  case done=>
   rintro D0 xs V hD rfl ⟨hsc,h1⟩ hK;have hD':D0∉ds:=λhd=>by have:=qs1 D0 hd;omega
   have hdd:(D0::ds).Nodup:=List.nodup_cons.2 ⟨hD',h1.nodup⟩
   have hsh:∀d∈D0::ds,V.heap[d]?=some (.deferred (some [])):=λd hd=>by
    rcases List.mem_cons.1 hd with rfl | hd
    ·exact hK
    ·exact h1.shut d hd
   have hab:∀d∈D0::ds,N+1 < d:=λd hd=>by
    rcases List.mem_cons.1 hd with rfl | hd
    ·omega
    ·exact h1.above d hd
   have qo7:Hid (arR rs x=(qct ((rs.drop (k+1)).flatMap qy) x.data.toList).getD 0):=by show _=_;rw[Q5.out,qj6.out,hsc,Option.none_or]
   clear hsc
   gi_wp2
   refine⟨⟨k+1,D0::ds,_,_,_,_,_,_,_,rfl,by omega,?_,qo7⟩,?_⟩
   ·exact {h1 with nodup:=hdd,shut:=hsh,above:=hab}
   ·simp[intOf];omega
  case stop=>
   rintro D0 c' pre V hD hp ⟨rfl,n,hsc,h2,h3,h4⟩ hK;have hD':D0∉ds:=λhd=>by have:=qs1 D0 hd;omega
   have hdd:(D0::ds).Nodup:=List.nodup_cons.2 ⟨hD',hI.nodup⟩
   have hsh:∀d∈D0::ds,V.heap[d]?=some (.deferred (some [])):=λd hd=>by
    rcases List.mem_cons.1 hd with rfl | hd
    ·exact hK
    ·exact h3 d hd
   have hab:∀d∈D0::ds,N+1 < d:=λd hd=>by
    rcases List.mem_cons.1 hd with rfl | hd
    ·omega
    ·exact hI.above d hd
   have qbr:Hid (arR rs x=n):=by
    show _=_;obtain⟨tl,htl⟩:=hp;rw[Q5.out,qj6.out,<- htl,List.map_append,qih,hsc];rfl
   clear hsc
   gi_wp2
   show LeavesInM Fence.wide 9 Tryz.prog _ _ _ (qes (D0::ds)) .returning V;refine qek (D0::ds) V hdd hsh (λW' hc hs=>?_);have dN:W'.cell? ⟨N+1,0,none⟩=some (.int .i64 n):=Boxed.cell (t:=3) ((hc.block (N+1) h2.lt (λhd=>by have:=hab (N+1) hd;omega)).trans h2);refine⟨.int .i64 n,by simp[results,Tryz.results53,go_sem,dN],by rw[qbr.out],?_⟩;rw[hN];exact h4.trans (hc.below (qa6 h4 hN) (λd hd=>by have:=hab d hd;omega))
 ·have cN:=hI.res.cell;have fN:=hI.res.frozen
  gi_wp2
  show LeavesInM Fence.wide 9 Tryz.prog _ _ _ (qes ds) .returning (W.setCell ⟨N+1,0,none⟩ (.int .i64 0));have hsh:∀d∈ds,(W.setCell ⟨N+1,0,none⟩ (.int .i64 0)).heap[d]?=some (.deferred (some [])):=λd hd=>(Below.heap_setCell _ _ _ d (by have:=hI.above d hd;simp;omega)).trans (hI.shut d hd);refine qek ds _ hI.nodup hsh (λW' hc hs=>?_);have hbx:=qbv hI.res (.int .i64 0);have dN:W'.cell? ⟨N+1,0,none⟩=some (.int .i64 0):=Boxed.cell (t:=3) ((hc.block (N+1) hbx.lt (λhd=>by have:=hI.above (N+1) hd;omega)).trans hbx);have qbr:arR rs x=0:=by rw[Q5.out,List.drop_of_length_le (by omega)];rfl
  have hbl:=hI.below.setCell (p:=⟨N+1,0,none⟩) (Nat.le_succ _) (.int .i64 0);refine⟨.int .i64 0,by simp[results,Tryz.results53,go_sem,dN],by rw[qbr];rfl,?_⟩;rw[hN];exact hbl.trans (hc.below (qa6 hbl hN) (λd hd=>by have:=hI.above d hd;omega))
def quu(x:ByteArray)(r:Rl):Bool:=r.head.rel.toList == x.toList
def qmk(rs:List Rl)(x:ByteArray):Bool:=rs.any (quu x)
theorem qsp(r:Rl)(x:ByteArray)(v0 vb:Vq)(B:Nat)(w:Wq)(hB:w.heap[B]?=some (Obj.cells #[.string x] 9))(fa ga:Option Addr)(fn fc gn gc:Nat)(hf:v0=.slice fa fn fc)(hg:vb=.slice ga gn gc) :
  Calls Tryz.prog 80 #[.agg #[.string r.head.rel,v0,vb],.pointer (some ⟨B,0,none⟩)] w λe w'=>e=.returned (.bool (quu x r))/\Below w.heap.size w w':=by
 subst hf hg;have hlt:=(zg hB).1;have hne:B≠w.heap.size:=by omega
 have c0:w.cell? ⟨B,0,none⟩=some (.string x):=by simp[World.cell?,hB]
 go_enter Tryz.func80,Tryz.ntmps80;go_wp2;go_ret;exact⟨rfl,by first | exact Below.refl _ _ | exact (Below.refl _ w).alloc zl _⟩
theorem qxl(v:Vq)(rs:List Rl)(x:ByteArray)(B base b45 b87:Nat)(w:Wq)(hB:w.heap[B]?=some (Obj.cells #[.string x] 9))(hR:Qa w base b45 b87 v rs)(Q4:∀g,v.ownBlock=some g->g < w.heap.size)(h8:rs.length<=8) :
  Calls Tryz.prog 101 #[v,.func (.func 80) #[] #[.pointer (some ⟨B,0,none⟩)]] w λe w'=>∃i:Int,e=.returned (.int .i64 i)/\decide (0<=i)=qmk rs x/\Below w.heap.size w w':=by
 obtain⟨a,c,qbd⟩:=hR.form
 have Ql:∀k (hk:k < rs.length),∃g v0 vb,a=some ⟨g,0,none⟩/\w.cell? ⟨g,k*3,none⟩=some (.string (rs[k]).head.rel)/\w.cell? ⟨g,k*3+1,none⟩=some v0/\w.cell? ⟨g,k*3+2,none⟩=some vb/\qez w b45 b87 rs[k] v0 vb/\g < w.heap.size:=by
  intro k hk;obtain⟨g,c',v0,vb,h1,h2,h3,h4,h5⟩:=qc1 hR hk;have hg:=Q4 g (by rw[h1];rfl);rw[qbd] at h1;cases h1;exact⟨g,v0,vb,rfl,h2,h3,h4,h5,hg⟩
 subst qbd;have HC:Hid _:=Ql;have HB:Hid _:=hB;have hBl:=(zg hB).1;clear Ql hR Q4 hB;go_enter Tryz.func101,Tryz.ntmps101;go_wp2
 go_loopw [8] (λi wr=>∃k:Nat,k<=rs.length/\i=.int .i64 k/\Hid (∀j,(hj:j < rs.length)->j < k->quu x rs[j]=false)/\Below w.heap.size w wr) (λi _=>rs.length - (intOf i).toNat)
 case atStart=>exact⟨0,Nat.zero_le _,rfl,λj _ hj=>by omega,Below.refl _ _⟩
 case round=>
  obtain⟨k,hk,rfl,hno,hb⟩:=hrel;by_cases hlt:k < rs.length
  ·obtain⟨g,v0,vb,rfl,q0,q1,q2,hv,hg⟩:=HC.out k hlt;have q0':=(hb.cell (p:=⟨g,k*3,none⟩) hg).trans q0;have q1':=(hb.cell (p:=⟨g,k*3+1,none⟩) hg).trans q1;have q2':=(hb.cell (p:=⟨g,k*3+2,none⟩) hg).trans q2;obtain⟨sa,sc,hsf⟩:=hv.1.form;obtain⟨ta,tc,htf⟩:=hv.2.form;have qbb:=qsp rs[k] x v0 vb B wr ((hb.block B hBl).trans HB.out) _ _ _ _ _ _ hsf htf;rw[hsf] at qbb q1';rw[htf] at qbb q2';have i1:(k:Int) < (rs.length:Int):=by omega
   generalize hbb:quu x rs[k]=bb at *;have HBB:Hid (quu x rs[k]=bb):=hbb;clear hbb q0 q1 q2 hv hsf htf;generalize (rs[k]).head.rel=rel at *;generalize (rs[k]).head.args.length=m1 at *;generalize (rs[k]).body.length=m2 at *
   cases bb with
   | true=>
    go_wp2_with fail;refine qbb.mono ?_;rintro e w1 ⟨rfl,hb1⟩;go_wp2;go_ret;refine⟨k,rfl,?_,hb.trans (hb1.mono hb.size)⟩
    have h1:qmk rs x=true:=by
     unfold qmk;rw[List.any_eq_true];exact⟨rs[k],List.getElem_mem hlt,HBB.out⟩
    rw[h1];simp
   | false=>
    go_wp2_with fail;refine qbb.mono ?_;rintro e w1 ⟨rfl,hb1⟩;go_wp2
    go_roundw
    case rel=>
     refine⟨k+1,by omega,by go_num,?_,hb.trans (hb1.mono hb.size)⟩;intro j hj hjk;by_cases e:j=k
     ·subst e;exact HBB.out
     ·exact hno.out j hj (by omega)
    case measure=>simp[intOf];omega
  ·go_wp2;go_ret;refine⟨-1,rfl,?_,hb⟩;unfold qmk;rw[qg0 _ _ (λj hj=>hno.out j hj (by omega))];rfl
theorem qqz(v:Vq)(rs:List Rl)(x:ByteArray)(base b45 b87:Nat)(w:Wq)(hR:Qa w base b45 b87 v rs)(Q4:∀g,v.ownBlock=some g->g < w.heap.size)(h8:rs.length<=8) :
  Calls Tryz.prog 41 #[v,.string x] w λe w'=>e=.returned (.bool (qmk rs x))/\Below w.heap.size w w':=by
 have hb0:∀O,Below w.heap.size w (w.alloc O):=λO=>(Below.refl _ w).alloc zl _
 have hI:Hid (Calls Tryz.prog 101 #[v,.func (.func 80) #[] #[.pointer (some ⟨w.heap.size,0,none⟩)]] (w.alloc (.cells #[.string x] 9)) λe w'=>∃i:Int,e=.returned (.int .i64 i)/\decide (0<=i)=qmk rs x/\Below (w.alloc (.cells #[.string x] 9)).heap.size (w.alloc (.cells #[.string x] 9)) w'):=
  qxl v rs x w.heap.size base b45 b87 _ (World.alloc_heap_new w _) (Qa.rk hR (qf.ofBelow (hb0 _))) (λg hg=>by have:=Q4 g hg;simp;omega) h8
 obtain⟨xa,xc,rfl⟩:=hR.form
 have HC:Hid (Calls Tryz.prog 79 #[.slice xa rs.length xc,.func (.func 80) #[] #[.pointer (some ⟨w.heap.size,0,none⟩)]] (w.alloc (.cells #[.string x] 9)) λe w'=>e=.returned (.bool (qmk rs x))/\Below (w.alloc (.cells #[.string x] 9)).heap.size (w.alloc (.cells #[.string x] 9)) w'):=by
  clear hR Q4 hb0;show Calls _ _ _ _ _;generalize (w.alloc (.cells #[.string x] 9))=W at *;go_enter Tryz.func79,Tryz.ntmps79;go_wp2_with fail;refine Calls.mono hI.out ?_;rintro e w1 ⟨i,rfl,hr,hb1⟩;have HR:Hid _:=hr;clear hr;go_wp2;go_ret;exact⟨qak (by rw[<- HR.out]),hb1⟩
 clear hI hR Q4;go_enter Tryz.func41,Tryz.ntmps41
 go_wp2_with (go_at_call 79;refine Calls.mono HC.out ?_;rintro e w1 ⟨rfl,hb1⟩)
 go_ret;exact⟨rfl,(hb0 _).trans (hb1.mono (by simp))⟩
attribute [local go_sem] Oper.semAt_some
theorem qv4(v:Vq)(w:Wq)(ta:Option Addr)(tn tc:Nat)(hva:v=.slice ta tn tc) :
  Calls Tryz.prog 84 #[v] w λe w'=>e=.returned (.func (.func 144) #[] #[.pointer (some ⟨w.heap.size,0,none⟩)])/\w'=w.alloc (.cells #[v] 90):=by
 subst hva;go_enter Tryz.func84,Tryz.ntmps84;go_wp2;go_ret;exact⟨rfl,rfl⟩
theorem qv5(Bs b:Nat)(v:Vq)(xs:List Tm)(w:Wq)(qae:w.heap[Bs]?=some (Obj.cells #[v] 90))(qr:Qd w b v xs)(hl:xs.length<=1000) :
  qse 7 144 #[.pointer (some ⟨Bs,0,none⟩)] (λt:Tm=>#[.agg #[.string t.name,.int .i64 t.num]]) (qaa (w.heap.size+2)) (λys=>ys=xs) (λ_=>True) xs.length w:=by
 obtain⟨n,hn,hn7⟩:∃n,6<=n/\n=7:=⟨7,by omega,rfl⟩;rw[<- hn7];clear hn7;have n1:1<=n:=by omega
 intro l J Jx W hW hsz hJ hJx hY h0;generalize w.heap.size+2=m at *;have hbW:=(hW.block Bs (zg qae).1).trans qae;have qxf:=qr.rk (qf.ofBelow hW);clear qae qr hW;obtain⟨va,vc,rfl⟩:=qxf.form;have c0:W.cell? ⟨Bs,0,none⟩=some (.slice va xs.length vc):=by simp[World.cell?,hbW]
 have HY:Hid _:=hY;have HJ:Hid (OwnFrom W.heap.size J):=hJ;have HJx:Hid (OwnFrom W.heap.size Jx):=hJx;clear hY hJ hJx;refine callsIn_of_wp_marks Tryz.func144 rfl trivial ?_ rfl;simp only[Tryz.ntmps144,List.size_toArray,List.length_cons,List.length_nil,Nat.reduceAdd,Nat.reduceSub,Array.replicate_succ,Array.replicate_zero,List.push_toArray,List.append_toArray,List.nil_append,List.cons_append]
 gi_wp2
 refine wpIn_loop (λA V=>∃(k:Nat) (u4 u8 u9 u10 u11 u12 u13 u14 u15:Vq),A={tmps:=#[.func (.yield l) #[] #[],.pointer (some ⟨Bs,0,none⟩),undef,undef,u4,.slice va xs.length vc,.int .i64 xs.length,.int .i64 k,u8,u9,u10,u11,u12,u13,u14,u15],defers:=[]}/\k<=xs.length/\J (xs.take k) V/\qaa m W V) (λA _=>xs.length - (intOf (A.tmps.getD 7 undef)).toNat) ⟨0,_,_,_,_,_,_,_,_,_,rfl,Nat.zero_le _,by simpa using h0,qaa.ofBelow (Below.refl _ _)⟩ ?_;rintro A V ⟨k,u4,u8,u9,u10,u11,u12,u13,u14,u15,rfl,hk,hJk,hLk⟩;by_cases hlt:k < xs.length
 ·have hoV:Qd V b (.slice va xs.length vc) xs:=qxf.rk hLk.rule;obtain⟨g,c,e0,x0,x1,hgl⟩:=qfc hoV hlt;cases e0;have hal:∀O,Below V.heap.size V (V.alloc O):=λO=>(Below.refl _ V).alloc zl O;have Q5:Hid (xs.take (k+1)=xs.take k++[xs[k]]):=by show _=_;rw[List.take_succ_eq_append_getElem hlt]
  obtain⟨fn,tmps,assign,body,hy,hR⟩:=HY.out (xs.take k) xs[k] (V.alloc (.cells #[.string (xs[k]).name,.int .i64 (xs[k]).num] 166)) (HJ.out _ _ _ none hJk (qh (hal _)) (λr e=>by cases e)) (by simp;omega);generalize hxk:xs[k]=xk at *;have HLK:Hid _:=hLk;have HB:Hid _:=hal;clear hoV qxf hal hLk hxk
  gi_wp2
  refine hR.mono ?_;rintro e W1 (⟨rfl,hJ1,hk1⟩ | ⟨rfl,hJx1,_⟩)
  ·clear hy hR
   gi_wp2
   refine⟨⟨k+1,_,_,_,_,_,_,_,_,_,rfl,by omega,by rw[Q5.out];exact hJ1,(qaa.tr HLK.out (qaa.ofBelow (HB.out _))).tr hk1⟩,?_⟩;simp[intOf];omega
  ·clear hy hR
   gi_wp2
   exact⟨_,results_none rfl _ _ _,⟨_,rfl⟩,.inr ⟨_,trivial,hJx1⟩⟩
 ·have hkl:k=xs.length:=by omega
  subst hkl;rw[List.take_length] at hJk
  gi_wp2
  exact⟨_,results_none rfl _ _ _,⟨_,rfl⟩,.inl ⟨xs,rfl,hJk⟩⟩
theorem qsi(gf:Nat)(lb:Array Vq)(ts:List Tm)(Sp:List Tm->Prop)(C:Nat)(v:Vq)(vs:List ByteArray)(base:Nat)(w:Wq)(eg:∀args w,(callFunc gf args).run Tryz.prog w=.ok (.enter gf args) w)(hseq:∀O,qse 7 gf lb (λt:Tm=>#[.agg #[.string t.name,.int .i64 t.num]]) (qaa ((w.alloc O).heap.size+2)) (λys=>ys=ts) Sp C (w.alloc O))(hC:C<=40)(qr:w.ownsRow base 9 1 v vs.length (vs.map Value.string))(hbw:base<=w.heap.size)(hvl:vs.length<=900) :
  Calls Tryz.prog 76 #[v,.func (.func gf) #[] lb] w λe w'=>∃v',e=.returned v'/\w'.ownsRow base 9 1 v' (nmL vs ts).length ((nmL vs ts).map Value.string)/\qw base w w':=by
 obtain⟨va0,vc0,hvf⟩:=qn qr;obtain⟨N,hN⟩:∃N,w.heap.size=N:=⟨_,rfl⟩;obtain⟨i0,hi,hz0,hz1,hz2⟩:=info_parts Tryz.info9;rw[hvf] at qr ⊢;refine (callsIn_wide (n:=8)).1 ?_;refine callsIn_of_wp_marks Tryz.func76 rfl trivial ?_ rfl;simp only[Tryz.ntmps76,List.size_toArray,List.length_cons,List.length_nil,Nat.reduceAdd,Nat.reduceSub,Array.replicate_succ,Array.replicate_zero,List.push_toArray,List.append_toArray,List.nil_append,List.cons_append]
 gi_wp2
 obtain⟨W0,hW0⟩:∃W0,w.alloc (.cells #[.slice va0 vs.length vc0] 22)=W0:=⟨_,rfl⟩;have hb0:Below w.heap.size w W0:=by rw[<- hW0];exact (Below.refl _ w).alloc zl _
 have hs0:W0.heap.size=N+1:=by rw[<- hW0,<- hN];simp
 have bV:Boxed W0 N 22 (.slice va0 vs.length vc0):=by
  have:=Boxed.new w 22 (.slice va0 vs.length vc0);rw[hN,hW0] at this;exact this
 have hsq:=hseq (.cells #[.slice va0 vs.length vc0] 22);rw[hW0] at hsq;have qga:=qk qr hb0;have q91:qw base w W0:=by rw[<- hW0];exact (qw.refl base w).alloc _
 (try simp only[hN])
 rw[hW0];clear hW0 hseq
 refine qhd (n:=8) (gf:=gf) (lb:=lb) rfl eg
  hsq qaa.tr (λV o o' ho hc=>qaa.put V _ o o' (by omega) ho hc) (λ_=>rfl)
  (λpre V=>∃v,Boxed V N 22 v/\V.ownsRow base 9 1 v (nmL vs pre).length ((nmL vs pre).map Value.string)/\qw base w V)
  (λ_ _ _=>False)
  ?hI (λ_ _ _ _ _ h _ _=>h) ⟨_,bV,qga,q91⟩
  (λt a' V=>∃Bx,V.heap[Bx]?=some (Obj.cells #[.string t.name,.int .i64 t.num] 166)/\a'={tmps:=#[.slice va0 vs.length vc0,.func (.func gf) #[] lb,.pointer (some ⟨N,0,none⟩),undef,.slice none 0 0,.pointer (some ⟨Bx,0,none⟩),.func (.func gf) #[] lb,.agg #[.string t.name,.int .i64 t.num],undef,undef,undef,undef,undef,undef,undef,undef,undef,undef,undef,undef,undef,undef,undef,undef],defers:=[]})
  ?hAx ?assign ?body ?done (λ_ _ _ _ _ _ h _=>h.elim)
 case hI=>
  rintro pre V V' row ⟨v,h1,h2,h3⟩ hg hr;have hk:=qj hg (λr e=>(hr r e).2);exact⟨v,hk _ _ _ _ h1,q8 h2 (λg c _ hc=>hk g c _ _ hc),h3.grown hg (λk e=>.inl (by have:=(hr k e).1;omega))⟩
 case hAx=>
  rintro x a' _ V V' row ⟨Bx,h2,h3⟩ hg hr;exact⟨Bx,qj hg (λr e=>(hr r e).2) _ _ _ _ h2,h3⟩
 case assign=>
  rintro l' pre t V K hl hlr ⟨v,h1,h2,h3⟩ hK;have HK:Hid _:=hK;clear hK
  gi_wp2
  have hbl:Below V.heap.size V (V.alloc (.cells #[.string t.name,.int .i64 t.num] 166)):=(Below.refl _ V).alloc zl _;exact HK.out _ _ (KeepsFrom.ofBelow hbl) (qaa.ofBelow hbl) ⟨v,h1.alloc _,h2.alloc _,h3.alloc _⟩ ⟨V.heap.size,World.alloc_heap_new V _,rfl⟩
 case done=>
  rintro D xs V hD rfl ⟨v,h1,h2,h3⟩ hK;have c1:=h1.cell
  gi_wp2
  refine⟨by simp,.inl ⟨_,_,rfl,run_takeDeferred hK,?_⟩⟩;have hk:=qj (grownBy_putObj' V D (.deferred none)) (λr e=>by cases e;exact⟨_,hK,rfl⟩);refine⟨_,results_tmp rfl _ _ _,v,rfl,q8 h2 (λg c _ hc=>hk g c _ _ hc),?_⟩;exact h3.grown (grownBy_putObj' V D (.deferred none)) (λk e=>.inl (by cases e;omega))
 case body=>
  rintro l' pre t a' V hl' ⟨r,hr⟩ ⟨v,h1,h2,h3⟩ ⟨Bx,hbx,rfl⟩ hlt;have q0i:=q4m pre vs;have Qfk:(nmL vs pre).length<=950:=by omega
  have hN1:N<=V.heap.size:=by have:=h3.size;omega
  have q20:Bx < V.heap.size:=(zg hbx).1;have c0:V.cell? ⟨Bx,0,none⟩=some (.string t.name):=by simp[World.cell?,hbx]
  have c1:V.cell? ⟨Bx,1,none⟩=some (.int .i64 t.num):=by simp[World.cell?,hbx]
  have hsn:=qvh vs pre t;have hiv:=qb6 t V;obtain⟨va,vc,rfl⟩:=qn h2;have hcs:=qj4 (nmL vs pre) t.name;generalize hvs:nmL vs pre=us at *;have HS:Hid (nmL vs (pre++[t])=qax us t):=hsn;clear hsn hvs
  cases htv:t.name.toList.isEmpty with
  | true=>
   rw[htv] at hiv;have q9:Hid (nmL vs (pre++[t])=us):=by show _=_;rw[HS.out];unfold qax;rw[if_pos htv]
   clear htv
   gi_wp2_with (refine⟨trivial,?_⟩;gi_at_call 139;refine (CallsIn.inRound l' (callsIn_wide.2 hiv)).mono ?_;rintro e V1 ⟨rfl,hb1⟩)
   refine⟨trivial,?_⟩
   gi_wp2
   refine⟨KeepsFrom.ofBelow hb1,qaa.ofBelow hb1,.slice va us.length vc,?_,?_,?_⟩
   ·exact (hb1.block _ h1.lt).trans h1
   ·rw[q9.out];exact qk h2 hb1
   ·exact h3.trans (qw.ofBelow hb1)
  | false=>
   rw[htv] at hiv;have HIV:Hid _:=hiv;have hst:Hid (qax us t=Qc us t.name):=by show _=_;unfold qax;rw[if_neg (by simp[htv])]
   clear htv hiv
   have qhp:Hid (∀V1,Below V.heap.size V V1->Boxed V1 N 22 (.slice va us.length vc)/\V1.ownsRow base 9 1 (.slice va us.length vc) us.length (us.map Value.string)/\V1.cell? ⟨Bx,0,none⟩=some (.string t.name)/\qw base w V1):=λV1 hb1=>
    ⟨(hb1.block _ h1.lt).trans h1,qk h2 hb1,(hb1.cell (p:=⟨Bx,0,none⟩) q20).trans c0,h3.trans (qw.ofBelow hb1)⟩
   cases hct:Lib.containsS us t.name with
   | true=>
    have q9:Hid (nmL vs (pre++[t])=us):=by
     show _=_;rw[HS.out,hst.out];unfold Qc;rw[if_pos (by rw[hct] at hcs;simpa using hcs.symm)]
    have HCT:Hid _:=hct;clear hct hcs h1 h2 h3
    gi_wp2_with (first | (refine⟨trivial,?_⟩;gi_at_call 139;refine (CallsIn.inRound l' (callsIn_wide.2 HIV.out)).mono ?_;rintro e V1 ⟨rfl,hb1⟩;obtain⟨k1,k2,k3,k4⟩:=qhp.out V1 hb1;have kc:=k1.cell) | (refine⟨trivial,?_⟩;gi_at_call 140;refine (CallsIn.inRound l' (callsIn_wide.2 (qe4 k2 (by omega) t.name))).mono ?_;rintro e w' ⟨rfl,hw'⟩;obtain rfl:V1=w':=hw'.symm;rw[HCT.out]))
    exact⟨KeepsFrom.ofBelow hb1,qaa.ofBelow hb1,_,k1,by rw[q9.out];exact k2,k4⟩
   | false=>
    have q9:Hid (nmL vs (pre++[t])=us++[t.name]):=by
     show _=_;rw[HS.out,hst.out];unfold Qc;rw[if_neg (by rw[hct] at hcs;simpa using hcs.symm)]
    have HCT:Hid _:=hct;clear hct hcs h1 h2 h3;have qhq:us.length+1<=maxLen:=by unfold maxLen;omega
    have qdz:(us.length+1)*16<=140737488355328:=by omega
    have hVN:Hid (∀V1 w1,Below V.heap.size V V1->(V1.alloc (.cells #[.string t.name] 9)).grownBy w1 (Value.slice va us.length vc).ownBlock->Boxed w1 N 22 (.slice va us.length vc)/\Chg V1 w1 (λj=>some j=(Value.slice va us.length vc).ownBlock)):=by
     intro V1 w1 hb1 hg;obtain⟨k1,k2,k3,k4⟩:=qhp.out V1 hb1;have hc:Chg V1 w1 (λj=>some j=(Value.slice va us.length vc).ownBlock):=((Chg.refl V1 _).alloc _).grown hg (λk e _=>e.symm);exact⟨(hc.block _ k1.lt (λe=>Qj k2 k1 (by decide) _ e.symm rfl)).trans k1,hc⟩
    have hbb:Hid (∀V1,Below V.heap.size V V1->base<=(V1.alloc (.cells #[.string t.name] 9)).heap.size):=λV1 hb1=>by
     have:=hb1.size;show base<=_;simp;omega
    gi_wp2_with (first | (refine⟨trivial,?_⟩;gi_at_call 139;refine (CallsIn.inRound l' (callsIn_wide.2 HIV.out)).mono ?_;rintro e V1 ⟨rfl,hb1⟩;obtain⟨k1,k2,k3,k4⟩:=qhp.out V1 hb1;have kc:=k1.cell) | (refine⟨trivial,?_⟩;gi_at_call 140;refine (CallsIn.inRound l' (callsIn_wide.2 (qe4 k2 (by omega) t.name))).mono ?_;rintro e w' ⟨rfl,hw'⟩;obtain rfl:V1=w':=hw'.symm;rw[HCT.out]) | (gi_at_builtin;refine wpListIn_append_own _ rfl _ _ 22 rfl base 9 i0 (.string ⟨#[]⟩) 1 16 Tryz.underlying22 hi hz0 hz1 hz2 rfl (by decide) _ _ _ rfl (World.ownsRow.alloc k2 _) ⟨V1.heap.size,0,none⟩ 1 1 [.string t.name] rfl rfl (cell_one_new _ _ _) (by simp[Value.oneCell']) qhq qdz (hbb.out V1 hb1) ?_;intro v' w1 hown1 hgrow1 _;obtain⟨g',cap',hv'⟩:=ownsRow_succ hown1;subst hv';obtain⟨qcg,qxb⟩:=hVN.out V1 w1 hb1 hgrow1;have cc:=qcg.cell;have ff:=qcg.frozen))
    have qgp:Chg V1 (w1.setCell ⟨N,0,none⟩ (.slice (some ⟨g',0,none⟩) (us.length+1) cap')) (λj=>j=N\/some j=(Value.slice va us.length vc).ownBlock):=(qxb.mono (λ_ _ e=>.inr e)).setCell ⟨N,0,none⟩ _ (λ_=>.inl rfl)
    obtain⟨hkf,hak⟩:=qnj (m:=W0.heap.size) qgp (λj hj hx=>by
     rcases hx with rfl | hx
     ·exact⟨_,_,k1,by decide,by decide,by decide,by decide⟩
     ·obtain⟨_,c,hc⟩:=qe k2 hx.symm;exact⟨c,_,hc,by decide,by decide,by decide,by decide⟩)
    refine⟨KeepsFrom.trans (KeepsFrom.ofBelow hb1) hkf,(qaa.ofBelow hb1).tr (hak _),_,qbv qcg _,?_,?_⟩
    ·rw[q9.out];have:=Qn hown1 ⟨N,0,none⟩ (.slice (some ⟨g',0,none⟩) (us.length+1) cap') (Qj hown1 qcg (by decide));simpa using this
    ·exact (k4.alloc _ |>.grown hgrow1 (λj e=>by
      obtain⟨hbj,d,hd⟩:=qe k2 e
      exact .inr ⟨hbj,d,_,(Below.heap_alloc _ _ _ (zg hd).1).trans hd⟩)).setCell (Nat.le_of_eq hN) _
attribute [local go_sem] Oper.semAt_some
def Qdq(s:ByteArray)(t:Tok):Bool:=decide (t.kind=1) && (t.text.toList == s.toList)
def q4j(s:ByteArray):Bool:=!decide (8 < Lib.runeCount s) && (qch s.size s 0).any (Qdq s)
def qyu(x:ByteArray)(n:Nat):Am:=⟨x,(List.range n).map (λk=>⟨⟨#[]⟩,k⟩)⟩
theorem qz9(x:ByteArray)(k:Nat):(qyu x k).args.length=k:=by simp[qyu]
