/- Package model: the iterator over what follows from an atom. -/
import Derived.Test.YtjajnhemgphefaaGreatDoorJLsP
set_option linter.unusedVariables false
set_option linter.unusedSimpArgs false
set_option maxRecDepth 100000
set_option maxHeartbeats 16000000
namespace Go.Proofs.YtjajnhemgphefaaGreatDoor
open Go renaming World->Wq,Value->Vq
open Go.RowKit Go.Shelf Go.Maps
attribute [local go_sem] Oper.semAt_some
variable {M:Gd->Option Int} {g:Gd}
theorem qw1(B:Nat)(v:Vq)(g:Gd)(w:Wq)(ta:Option Addr)(tn tc:Nat)(hva:v=.slice ta tn tc) :
  Calls Tryz.prog 138 #[.map (some B),v,g.v] w λe w'=>e=.returned (.func (.func 189) #[] #[.pointer (some ⟨w.heap.size+1,0,none⟩),.pointer (some ⟨w.heap.size,0,none⟩),.pointer (some ⟨w.heap.size+2,0,none⟩)])/\
   w'=((w.alloc (.cells #[.map (some B)] 98)).alloc (.cells #[v] 75)).alloc (.cells g.c 111):=by
 subst hva;unfold Gd.v Gd.c;go_enter Tryz.func138,Tryz.ntmps138;go_wp2;go_ret;exact⟨rfl,rfl⟩
def qjg(R:List Rl)(M:Gd->Option Int)(g:Gd)(k:Nat)(h:Gd):Prop:=∃i,∃hi:i < R.length,i < k/\∃p,qns M (R[i]).body g p/\h=qb p (R[i]).head/\M h=none
theorem quq(R:List Rl)(M:Gd->Option Int)(g h:Gd):qjg R M g R.length h↔qn7 R M g h:=by
 constructor
 ·rintro⟨i,hi,_,p,h1⟩;exact⟨_,List.getElem_mem hi,p,h1⟩
 ·rintro⟨r,hr,p,h1⟩;obtain⟨i,hi,rfl⟩:=List.getElem_of_mem hr;exact⟨i,hi,hi,p,h1⟩
theorem qst{R:List Rl}{h:Gd}{k:Nat}(hk:k < R.length):qjg R M g (k+1) h↔qjg R M g k h\/∃p,qns M (R[k]).body g p/\h=qb p (R[k]).head/\M h=none:=by
 constructor
 ·rintro⟨i,hi,h1,h2⟩;by_cases e:i=k
  ·subst e;exact .inr h2
  ·exact .inl ⟨i,hi,by omega,h2⟩
 ·rintro (⟨i,hi,h1,h2⟩ | h2)
  ·exact⟨i,hi,by omega,h2⟩
  ·exact⟨k,hk,by omega,h2⟩
structure q1y(Bl Bm Bg B nn rb b45 b87:Nat)(M:Gd->Option Int)(v:Vq)(R:List Rl)(g:Gd)(W:Wq):Prop where
 bl:W.heap[Bl]?=some (Obj.cells #[v] 75)
 bm:W.heap[Bm]?=some (Obj.cells #[.map (some B)] 98)
 bg:W.heap[Bg]?=some (Obj.cells g.c 111)
 rules:Qa W rb b45 b87 v R
 md:qda W B nn M
theorem q1y.mk'{m Bl Bm Bg B nn rb b45 b87:Nat}{v:Vq}{R:List Rl}{W W':Wq}(h:q1y Bl Bm Bg B nn rb b45 b87 M v R g W)(hk:qt m W W'):q1y Bl Bm Bg B nn rb b45 b87 M v R g W':=
 ⟨hk.cells _ _ _ (by unfold qcj;decide) h.bl,hk.cells _ _ _ (by unfold qcj;decide) h.bm,hk.cells _ _ _ (by unfold qcj;decide) h.bg,h.rules.keep (λk c t ht hc=>hk.cells k c t (by rcases ht with rfl | rfl | rfl <;> (unfold qcj;decide)) hc),h.md.mk hk⟩
structure q2b(r:Rl):Prop where
 body:qwb r.body
 few:r.body.length<=3
 args:r.head.args.length<=2
 nums:∀t∈r.head.args,t.num < 6
 rel:r.head.rel.size<=maxLen
 names:∀t∈r.head.args,t.name.size<=maxLen
def foN(nn:Nat):Nat:=3*(nn+1) ^ 2
theorem q7k{L:List Am}(h3:L.length<=3)(nn:Nat):L.length*nn ^ (L.length - 1)<=foN nn:=by
 unfold foN;have hc:L.length=0\/L.length=1\/L.length=2\/L.length=3:=by omega
 rcases hc with h | h | h | h <;> rw[h]
 ·simp
 ·have:0 < (nn+1) ^ 2:=Nat.pow_pos (by omega);simp;omega
 ·have:nn<=(nn+1) ^ 2:=by rw[Nat.pow_two];have:=Nat.mul_le_mul (show 1<=nn+1 by omega) (show nn<=nn+1 by omega);omega
  simp;omega
 ·have:nn ^ 2<=(nn+1) ^ 2:=Nat.pow_le_pow_left (by omega) 2;simp;omega
theorem qw2(n0 Bl Bm Bg B nn rb b45 b87:Nat)(M:Gd->Option Int)(v:Vq)(R:List Rl)(g:Gd)(w:Wq)(hst:q1y Bl Bm Bg B nn rb b45 b87 M v R g w)(hok:∀r∈R,q2b r)(h8:R.length<=8)(hg:qgw g)(m:Nat) :
  qfg m n0 189 #[.pointer (some ⟨Bl,0,none⟩),.pointer (some ⟨Bm,0,none⟩),.pointer (some ⟨Bg,0,none⟩)] (λx:GdX=>#[x.1.v]) (qt m)
   (λhs=>(∀h,h∈hs.map (·.1)↔qn7 R M g h)/\hs.length<=R.length*foN nn) (λ_=>True) (R.length*foN nn) w:=by
 obtain⟨n,hn⟩:∃n,12<=n:=⟨12,Nat.le_refl _⟩;refine qfg.any (n:=n) ?_ n0;have n1:1<=n:=by omega
 have n2:1<=n - 1:=by omega
 have n3:1<=n - 1 - 1:=by omega
 intro l J Jx W hW hsz hJ hJx hY h0;have qfr:=hst.mk' (qt.ofBelow (m:=m) hW);clear hst hW;obtain⟨va,vc,hv⟩:=qfr.rules.form;subst hv;have HST:Hid _:=qfr;have HY:Hid _:=hY;have HJ:Hid (OwnFrom W.heap.size J):=hJ;have HJx:Hid (OwnFrom W.heap.size Jx):=hJx;have H0:Hid _:=h0;have hal:∀O,Below W.heap.size W (W.alloc O):=λO=>(Below.refl _ W).alloc zl O;have e1:∀O,(W.alloc O).cell? ⟨Bl,0,none⟩=some (.slice va R.length vc):=λO=>cell_later (hal O) (by have:=qfr.bl;simp[World.cell?,this]);clear hY hJ hJx h0 qfr hal;refine callsIn_of_wp_marks Tryz.func189 rfl trivial ?_ rfl;simp only[Tryz.ntmps189,List.size_toArray,List.length_cons,List.length_nil,Nat.reduceAdd,Nat.reduceSub,Array.replicate_succ,Array.replicate_zero,List.push_toArray,List.append_toArray,List.nil_append,List.cons_append]
 gi_wp2
 obtain⟨N,hN⟩:∃N,W.heap.size=N:=⟨_,rfl⟩;obtain⟨W1,hW1⟩:∃W1,W.alloc (.cells #[.func (.yield l) #[] #[]] 181)=W1:=⟨_,rfl⟩;have hb1:Below W.heap.size W W1:=by rw[<- hW1];exact (Below.refl _ W).alloc zl _
 have hs1:W1.heap.size=N+1:=by rw[<- hW1,<- hN];simp
 have bY:W1.heap[N]?=some (Obj.cells #[.func (.yield l) #[] #[]] 181):=by rw[<- hW1,<- hN];exact World.alloc_heap_new W _
 have q3u:=(HST.out).mk' (qt.ofBelow (m:=m) hb1);have hJ1:J [] W1:=HJ.out _ _ _ none H0.out (qh hb1) (λr e=>by cases e);have hmN:m<=N:=by omega
 rw[hN] at HJ HJx;simp only[hN];rw[hW1];clear hW1 e1 HST H0 hb1 hN hsz;have HST:Hid _:=q3u;have HYB:Hid _:=bY;clear q3u bY;refine wpIn_loop (λA V=>∃(k:Nat) (ds:List Nat) (ys:List GdX) (u6 u12 u13 u14 u15 u16 u17 u18 u34:Vq),A={tmps:=#[.func (.yield l) #[] #[],.pointer (some ⟨Bl,0,none⟩),.pointer (some ⟨Bm,0,none⟩),.pointer (some ⟨Bg,0,none⟩),.pointer (some ⟨N,0,none⟩),undef,u6,undef,undef,.slice va R.length vc,.int .i64 R.length,.int .i64 k,u12,u13,u14,u15,u16,u17,u18,undef,undef,undef,undef,undef,undef,undef,undef,undef,undef,undef,undef,undef,undef,undef,u34],defers:=qes ds}/\k<=R.length/\J ys V/\qdx (N+1) ds V/\qt m W1 V/\Hid ((∀h,h∈ys.map (·.1)↔qjg R M g k h)/\ys.length<=k*foN nn)) (λA _=>R.length - (intOf (A.tmps.getD 11 undef)).toNat) ⟨0,[],[],_,_,_,_,_,_,_,_,_,rfl,Nat.zero_le _,hJ1,qdx.nil _ _,qt.ofBelow (Below.refl _ _),⟨λh=>by simp[qjg],by simp⟩⟩ ?_;rintro A V ⟨k,ds,ys,u6,u12,u13,u14,u15,u16,u17,u18,u34,rfl,hk,hJk,hSh,hMk,Q5⟩;clear hJ1;have qg8:=(HST.out).mk' hMk;by_cases hlt:k < R.length
 ·obtain⟨gb,c,v0,vb,e0,x0,x1,x2,hv1,hv2⟩:=qc1 qg8.rules hlt;cases e0;obtain⟨fa,fc,hf0⟩:=hv1.form;obtain⟨ga,gc,hfb⟩:=qas.form hv2;subst hf0 hfb;have hrk:=hok _ (List.getElem_mem hlt);have q8a:=λh=>qst (M:=M) (g:=g) (h:=h) hlt;generalize hxk:R[k]=rk at *;have hal:∀O,Below V.heap.size V (V.alloc O):=λO=>(Below.refl _ V).alloc zl O;have hbg:=qg8.bg;unfold Gd.c at hbg;have z0:∀O,(V.alloc O).cell? ⟨Bg,0,none⟩=some (.string g.rel):=λO=>cell_later (hal O) (by simp[World.cell?,hbg]);have z1:∀O,(V.alloc O).cell? ⟨Bg,1,none⟩=some (.string g.x):=λO=>cell_later (hal O) (by simp[World.cell?,hbg]);have z2:∀O,(V.alloc O).cell? ⟨Bg,2,none⟩=some (.string g.y):=λO=>cell_later (hal O) (by simp[World.cell?,hbg]);have zm:∀O,(V.alloc O).cell? ⟨Bm,0,none⟩=some (.map (some B)):=λO=>cell_later (hal O) (by have:=qg8.bm;simp[World.cell?,this])
  have hus:Hid (∀W,Calls Tryz.prog 190 #[.map (some B),.agg #[.string rk.head.rel,.slice fa rk.head.args.length fc,.slice ga rk.body.length gc],.agg #[.string g.rel,.string g.x,.string g.y]] W λe w'=>e=.returned (.func (.func 229) #[] #[.pointer (some ⟨W.heap.size+1,0,none⟩),.pointer (some ⟨W.heap.size+2,0,none⟩),.pointer (some ⟨W.heap.size,0,none⟩)])/\
   w'=((W.alloc (.cells #[.map (some B)] 98)).alloc (.cells #[.string rk.head.rel,.slice fa rk.head.args.length fc,.slice ga rk.body.length gc] 136)).alloc (.cells #[.string g.rel,.string g.x,.string g.y] 111)):=λW=>q5j B _ _ _ g W _ _ _ rfl _ _ _ rfl
  have HSV:Hid _:=qg8;have HV1:Hid _:=hv1;have HV2:Hid _:=hv2;have HSU:Hid _:=q8a;have HRK:Hid _:=hrk;clear hal hbg qg8 hv1 hv2 q8a hrk hxk
  gi_wp2_with (refine⟨trivial,?_⟩;gi_at_call 190;refine (callsIn_wide.2 (hus.out _)).mono ?_;rintro e w' ⟨rfl,rfl⟩)
  obtain⟨VN,hVN⟩:∃VN,V.heap.size=VN:=⟨_,rfl⟩;obtain⟨W5,hW5⟩:∃W5,(((V.alloc (.cells #[.string rk.head.rel,.slice fa rk.head.args.length fc,.slice ga rk.body.length gc] 136)).alloc (.cells #[.map (some B)] 98)).alloc (.cells #[.string rk.head.rel,.slice fa rk.head.args.length fc,.slice ga rk.body.length gc] 136)).alloc (.cells #[.string g.rel,.string g.x,.string g.y] 111)=W5:=⟨_,rfl⟩;have hb5:Below V.heap.size V W5:=by rw[<- hW5];exact ((((Below.refl _ V).alloc zl _).alloc (by simp) _).alloc (by simp;omega) _).alloc (by simp;omega) _
  have hs5:W5.heap.size=VN+4:=by rw[<- hW5,<- hVN];simp
  have eR:W5.heap[VN]?=some (Obj.cells #[.string rk.head.rel,.slice fa rk.head.args.length fc,.slice ga rk.body.length gc] 136):=by
   rw[<- hW5,<- hVN];exact (Below.heap_alloc _ _ _ (by simp;omega)).trans ((Below.heap_alloc _ _ _ (by simp;omega)).trans ((Below.heap_alloc _ _ _ (by simp)).trans (World.alloc_heap_new V _)))
  have eM:W5.heap[VN+1]?=some (Obj.cells #[.map (some B)] 98):=by
   rw[<- hW5,<- hVN];refine (Below.heap_alloc _ _ _ (by simp)).trans ((Below.heap_alloc _ _ _ (by simp)).trans ?_);have:=World.alloc_heap_new (V.alloc (.cells #[.string rk.head.rel,.slice fa rk.head.args.length fc,.slice ga rk.body.length gc] 136)) (.cells #[.map (some B)] 98);rw[World.size_alloc] at this;exact this
  have eS:W5.heap[VN+1+1]?=some (Obj.cells #[.string rk.head.rel,.slice fa rk.head.args.length fc,.slice ga rk.body.length gc] 136):=by
   rw[<- hW5,<- hVN];refine (Below.heap_alloc _ _ _ (by simp)).trans ?_;have:=World.alloc_heap_new ((V.alloc (.cells #[.string rk.head.rel,.slice fa rk.head.args.length fc,.slice ga rk.body.length gc] 136)).alloc (.cells #[.map (some B)] 98)) (.cells #[.string rk.head.rel,.slice fa rk.head.args.length fc,.slice ga rk.body.length gc] 136);rw[World.size_alloc,World.size_alloc] at this;exact this
  have eG:W5.heap[VN+1+2]?=some (Obj.cells g.c 111):=by
   rw[<- hW5,<- hVN];have:=World.alloc_heap_new (((V.alloc (.cells #[.string rk.head.rel,.slice fa rk.head.args.length fc,.slice ga rk.body.length gc] 136)).alloc (.cells #[.map (some B)] 98)).alloc (.cells #[.string rk.head.rel,.slice fa rk.head.args.length fc,.slice ga rk.body.length gc] 136)) (.cells #[.string g.rel,.string g.x,.string g.y] 111);rw[World.size_alloc,World.size_alloc,World.size_alloc] at this;exact this
  have hk5:∀m',qt m' V W5:=λm'=>qt.ofBelow hb5;have qn3:=(HSV.out).mk' (hk5 m);have ust:q2a (VN+1) (VN+1+1) (VN+1+2) B nn b45 b87 M rk.head.rel (.slice fa rk.head.args.length fc) (.slice ga rk.body.length gc) rk.body g W5:=⟨eM,eS,eG,qas.kept HV2.out (λk c _ hc=>(hk5 0).cells k c _ (by unfold qcj;decide) hc) (λk c _ hc=>(hk5 0).cells k c _ (by unfold qcj;decide) hc),qn3.md⟩;have Qet:Qd W5 b87 (.slice fa rk.head.args.length fc) rk.head.args:=Qd.mk HV1.out (hk5 0);have hJ5:J (ys++[]) W5:=by rw[List.append_nil];exact HJ.out _ _ _ none hJk (qh hb5) (λr e=>by cases e)
  have ih:=q5k (n - 1) (VN+1) (VN+1+1) (VN+1+2) B nn b45 b87 M rk.head.rel (.slice fa rk.head.args.length fc) (.slice ga rk.body.length gc) rk.body g W5 ust HRK.out.body HRK.out.few hg (W5.heap.size+2);have q21:qt m W1 W5:=hMk.tr (qt.ofBelow hb5);have q22:qdx (N+1) ds W5:=hSh.below hb5;have qn0:∀d∈ds,d < W5.heap.size:=q22.lt;have hN5:N+1<=W5.heap.size:=by have:=q21.from'.size;omega
  have q6o:=q7k HRK.out.few nn;simp only[hVN];rw[hW5];clear hW5 hus z0 z1 z2 zm x0 x1 x2
  refine qfx (n:=n) (gf:=229) (lb:=#[.pointer (some ⟨VN+1+1,0,none⟩),.pointer (some ⟨VN+1+2,0,none⟩),.pointer (some ⟨VN+1,0,none⟩)]) rfl (enters_of Tryz.func229 (by kernel_rfl) rfl)
   ih qt.tr (λV' rc' o' ho=>qt.put V' _ _ o' (by omega) ho rfl (λ_ _ h=>by cases h)) (λ_=>rfl)
   (λpre V2=>∃hs2:List GdX,J (ys++hs2) V2/\hs2.map (·.1)=(pre.map (λp=>qb p.1 rk.head)).filter (λh=>(M h).isNone)/\qt m W1 V2/\qdx (N+1) ds V2/\qt (W5.heap.size+2) W5 V2)
   (λc pre V2=>c=.ret/\(∃zs,Jx zs V2)/\qdx (N+1) ds V2)
   ?hI2 ?hIx2 ⟨[],hJ5,rfl,q21,q22,qt.ofBelow (Below.refl _ _)⟩
   (λx a' V2=>∃Bx,V2.heap[Bx]?=some (Obj.cells x.1.c 176)/\a'={tmps:=#[.func (.yield l) #[] #[],.pointer (some ⟨Bl,0,none⟩),.pointer (some ⟨Bm,0,none⟩),.pointer (some ⟨Bg,0,none⟩),.pointer (some ⟨N,0,none⟩),undef,.pointer (some ⟨VN,0,none⟩),.pointer (some ⟨Bx,0,none⟩),undef,.slice (some ⟨gb,0,none⟩) R.length vc,.int .i64 R.length,.int .i64 k,.bool true,.pointer (some ⟨gb,k*3,none⟩),.agg #[.string rk.head.rel,.slice fa rk.head.args.length fc,.slice ga rk.body.length gc],.map (some B),.agg #[.string rk.head.rel,.slice fa rk.head.args.length fc,.slice ga rk.body.length gc],.agg #[.string g.rel,.string g.x,.string g.y],.func (.func 229) #[] #[.pointer (some ⟨VN+1+1,0,none⟩),.pointer (some ⟨VN+1+2,0,none⟩),.pointer (some ⟨VN+1,0,none⟩)],.agg #[.string x.1.a0,.string x.1.a1,.string x.1.a2,.string x.1.a3,.string x.1.a4,.string x.1.a5],undef,undef,undef,undef,undef,undef,undef,undef,undef,undef,undef,undef,undef,undef,u34],defers:=[]})
   ?hAx2 ?assign2 ?body2 ?done2 ?stop2
  case hI2=>
   rintro pre2 X X' row ⟨hs2,j1,j0,j2,j3,j4⟩ hg hr;exact⟨hs2,HJ.out _ _ _ row j1 hg (λr e=>⟨by have:=(hr r e).1;omega,(hr r e).2⟩),j0,j2.own hg (λr e=>by have:=(hr r e).1;omega),j3.grown hg (λr e=>(hr r e).1) qn0,j4.own hg (λr e=>(hr r e).1)⟩
  case hIx2=>
   rintro c pre2 X X' row ⟨rfl,⟨zs,j1⟩,j3⟩ hg hr;exact⟨rfl,⟨zs,HJx.out _ _ _ row j1 hg (λr e=>⟨by have:=(hr r e).1;omega,(hr r e).2⟩)⟩,j3.grown hg (λr e=>(hr r e).1) qn0⟩
  case hAx2=>
   rintro x2 a' _ X X' row ⟨Bx,q2,q3⟩ hg hr;exact⟨Bx,qj hg (λr e=>(hr r e).2) _ _ _ _ q2,q3⟩
  case assign2=>
   rintro l2 pre2 x2 X K hl2 hlr2 ⟨hs2,j1,j0,j2,j3,j4⟩ hK;have HK:Hid _:=hK;clear hK;unfold Nms.v Nms.c
   gi_wp2
   have hbl:Below X.heap.size X (X.alloc (.cells #[.string x2.1.a0,.string x2.1.a1,.string x2.1.a2,.string x2.1.a3,.string x2.1.a4,.string x2.1.a5] 176)):=(Below.refl _ X).alloc zl _;exact HK.out _ _ (KeepsFrom.ofBelow hbl) (qt.ofBelow hbl) ⟨hs2,HJ.out _ _ _ none j1 (qh hbl) (λr e=>by cases e),j0,j2.tr (qt.ofBelow hbl),j3.below hbl,j4.tr (qt.ofBelow hbl)⟩ ⟨X.heap.size,World.alloc_heap_new X _,rfl⟩
  case done2=>
   rintro D xs X hD ⟨s1,s2⟩ ⟨hs2,j1,j0,j2,j3,j4⟩ hK
   have hsp:Hid ((∀h,h∈(ys++hs2).map (·.1)↔qjg R M g (k+1) h)/\(ys++hs2).length<=(k+1)*foN nn):=by
    refine⟨λh=>?_,?_⟩
    ·rw[List.map_append,List.mem_append,Q5.out.1,HSU.out,j0,List.mem_filter,List.mem_map];constructor
     ·rintro (h1 | ⟨⟨p,hp,rfl⟩,h2⟩)
      ·exact .inl h1
      ·exact .inr ⟨p.1,(s1 p.1).1 (List.mem_map.2 ⟨p,hp,rfl⟩),rfl,by simpa using h2⟩
     ·rintro (h1 | ⟨p,h1,rfl,h2⟩)
      ·exact .inl h1
      ·obtain⟨q,hq,rfl⟩:=List.mem_map.1 ((s1 p).2 h1);exact .inr ⟨⟨q,hq,rfl⟩,by simpa using h2⟩
    ·have e1:=congrArg List.length j0;rw[List.length_map] at e1;have e2:=List.length_filter_le (λh=>(M h).isNone) (xs.map (λp=>qb p.1 rk.head));rw[List.length_map] at e2;have e3:=Q5.out.2;rw[List.length_append,Nat.add_mul,Nat.one_mul];omega
   have hDn:D∉ds:=λh=>by have:=qn0 D h;omega
   have HSC:Hid _:=j3.cons (D:=D) (by omega) hK hDn;clear Q5 s1 s2 j0
   gi_wp2
   refine⟨⟨k+1,D::ds,ys++hs2,_,_,_,_,_,_,_,_,_,rfl,by omega,j1,HSC.out,j2,hsp.out⟩,?_⟩;simp[intOf];omega
  case stop2=>
   rintro D c pre X hD _ ⟨rfl,hz,j3⟩ hK;have hDn:D∉ds:=λh=>by have:=qn0 D h;omega
   have HSC:Hid _:=j3.cons (D:=D) (by omega) hK hDn;have HZ:Hid _:=hz;clear Q5 hz
   gi_wp2
   show LeavesInM Fence.wide n Tryz.prog _ _ _ (qes (D::ds)) .returning X;refine qfv (X:=λV=>∃zs,Jx zs V) (B:=N) (λ_ A B row hs hg hr=>by obtain⟨zs,hz⟩:=hs;exact⟨zs,HJx.out zs A B row hz hg hr⟩) (D::ds) X HSC.out.nodup (λD' hD'=>⟨by have:=(HSC.out.at' D' hD').1;omega,(HSC.out.at' D' hD').2⟩) HZ.out (λW' hx=>?_);obtain⟨zs,hz⟩:=hx;exact⟨_,results_none rfl _ _ _,⟨_,rfl⟩,.inr ⟨zs,trivial,hz⟩⟩
  case body2=>
   rintro l2 pre2 x a' X hl2 ⟨rc2,hrc2⟩ ⟨hs2,j1,j0,j2,j3,j4⟩ ⟨Bx,hbx,rfl⟩ qs0;have hxR:=j4.cells _ _ _ (by unfold qcj;decide) eR;have hxM:=(HST.out.mk' j2).bm;have q9q:=(HST.out.mk' j2).md;have hyb:=j2.cells _ _ _ (by unfold qcj;decide) HYB.out;have hSX:Qd X b87 (.slice fa rk.head.args.length fc) rk.head.args:=Qd.mk Qet j4;have cR0:X.cell? ⟨VN,0,none⟩=some (.string rk.head.rel):=by simp[World.cell?,hxR]
   have cR1:X.cell? ⟨VN,1,none⟩=some (.slice fa rk.head.args.length fc):=by simp[World.cell?,hxR]
   have qe5:=hbx;unfold Nms.c at qe5;have q0:X.cell? ⟨Bx,0,none⟩=some (.string x.1.a0):=by simp[World.cell?,qe5]
   have q1:X.cell? ⟨Bx,1,none⟩=some (.string x.1.a1):=by simp[World.cell?,qe5]
   have q2:X.cell? ⟨Bx,2,none⟩=some (.string x.1.a2):=by simp[World.cell?,qe5]
   have q3:X.cell? ⟨Bx,3,none⟩=some (.string x.1.a3):=by simp[World.cell?,qe5]
   have q4:X.cell? ⟨Bx,4,none⟩=some (.string x.1.a4):=by simp[World.cell?,qe5]
   have q5:X.cell? ⟨Bx,5,none⟩=some (.string x.1.a5):=by simp[World.cell?,qe5]
   have qux:qgw (qb x.1 rk.head):=qrp x.2 HRK.out.rel HRK.out.names;have hgr:Hid (Calls Tryz.prog 89 #[.agg #[.string x.1.a0,.string x.1.a1,.string x.1.a2,.string x.1.a3,.string x.1.a4,.string x.1.a5],.agg #[.string rk.head.rel,.slice fa rk.head.args.length fc]] X λe w'=>e=.returned (.agg #[.string (qb x.1 rk.head).rel,.string (qb x.1 rk.head).x,.string (qb x.1 rk.head).y])/\Below X.heap.size X w'):=qoy x.1 rk.head _ b87 X hSX HRK.out.args HRK.out.nums;have hbb:Hid (∀(X1:Wq) (O:Obj),Below X.heap.size X X1->Below X.heap.size X (X1.alloc O)):=λX1 O hb=>hb.alloc hb.size O;have hcm:Hid (∀X1 O,Below X.heap.size X X1->(X1.alloc O).cell? ⟨Bm,0,none⟩=some (.map (some B))):=λX1 O hb=>cell_later (hbb.out X1 O hb) (by simp[World.cell?,hxM]);have qll:Hid (∀X1 O,Below X.heap.size X X1->Calls Tryz.prog 136 #[.map (some B),.agg #[.string (qb x.1 rk.head).rel,.string (qb x.1 rk.head).x,.string (qb x.1 rk.head).y]] (X1.alloc O) λe w'=>e=.returned (.bool (M (qb x.1 rk.head)).isSome)/\Below (X1.alloc O).heap.size (X1.alloc O) w'):=λX1 O hb=>qyv B nn M (qb x.1 rk.head) qux (X1.alloc O) (q9q.mk (qt.ofBelow (m:=m) (hbb.out X1 O hb)))
   have qne:(ys++hs2).length < R.length*foN nn:=by
    have e1:=congrArg List.length j0;rw[List.length_map] at e1;have e2:=List.length_filter_le (λh=>(M h).isNone) (pre2.map (λp=>qb p.1 rk.head));rw[List.length_map] at e2;have e3:=Q5.out.2;have e4:(k+1)*foN nn<=R.length*foN nn:=Nat.mul_le_mul_right _ (by omega);rw[Nat.add_mul,Nat.one_mul] at e4;rw[List.length_append];omega
   have hyl:Hid (∀X3,Below X.heap.size X X3->YieldAt Fence.wide (n - 1) Tryz.prog l #[.agg #[.string (qb x.1 rk.head).rel,.string (qb x.1 rk.head).x,.string (qb x.1 rk.head).y]] X3 λe W'=>∃b:Bool,e=.returned (.bool b)/\((b=true/\J ((ys++hs2)++[gdX (qb x.1 rk.head) qux]) W'/\qt m X W')\/(b=false/\Jx ((ys++hs2)++[gdX (qb x.1 rk.head) qux]) W'/\KeepsFrom m X W'))):=by
    intro X3 hb;obtain⟨fn,tmps,assign,body,hy,hR⟩:=HY.out (ys++hs2) (gdX (qb x.1 rk.head) qux) X3 (HJ.out _ _ _ none j1 (qh hb) (λr e=>by cases e)) qne;refine⟨fn,tmps,assign,body,hy,hR.mono ?_⟩;rintro e W' (⟨rfl,k1,k2⟩ | ⟨rfl,k1,k2⟩)
    ·exact⟨true,rfl,.inl ⟨rfl,k1,(qt.ofBelow hb).tr k2⟩⟩
    ·exact⟨false,rfl,.inr ⟨rfl,k1,KeepsFrom.tr (KeepsFrom.ofBelow hb) k2⟩⟩
   have hfl:Hid (((pre2++[x]).map (λp=>qb p.1 rk.head)).filter (λh=>(M h).isNone)=hs2.map (·.1)++(if (M (qb x.1 rk.head)).isNone=true then [qb x.1 rk.head] else [])):=by
    show _=_;rw[List.map_append,List.filter_append,j0];congr 1;show List.filter _ [qb x.1 rk.head]=_;rw[List.filter_cons,List.filter_nil]
   have hcy:Hid (∀X3,Below X.heap.size X X3->X3.cell? ⟨N,0,none⟩=some (.func (.yield l) #[] #[])):=λX3 hb=>cell_later hb (by simp[World.cell?,hyb])
   have hcg:Hid (∀(X1 X3:Wq),Below (X1.alloc (.cells #[.string (qb x.1 rk.head).rel,.string (qb x.1 rk.head).x,.string (qb x.1 rk.head).y] 111)).heap.size (X1.alloc (.cells #[.string (qb x.1 rk.head).rel,.string (qb x.1 rk.head).x,.string (qb x.1 rk.head).y] 111)) X3->X3.cell? ⟨X1.heap.size,0,none⟩=some (.string (qb x.1 rk.head).rel)/\X3.cell? ⟨X1.heap.size,1,none⟩=some (.string (qb x.1 rk.head).x)/\X3.cell? ⟨X1.heap.size,2,none⟩=some (.string (qb x.1 rk.head).y)):=by
    intro X1 X3 hb;have hh:=(hb.block X1.heap.size (by simp)).trans (World.alloc_heap_new X1 _);refine⟨?_,?_,?_⟩ <;> simp[World.cell?,hh]
   have hb3:Hid (∀(X1:Wq) (O:Obj) (X3:Wq),Below X.heap.size X X1->Below (X1.alloc O).heap.size (X1.alloc O) X3->Below X.heap.size X X3):=λX1 O X3 h1 h2=>(hbb.out X1 O h1).trans (h2.mono (by have:=h1.size;simp;omega))
   cases hMh:M (qb x.1 rk.head) with
   | some t=>
    have q9i:Hid (((pre2++[x]).map (λp=>qb p.1 rk.head)).filter (λh=>(M h).isNone)=hs2.map (·.1)):=by show _=_;rw[hfl.out,hMh];simp
    rw[hMh] at qll;clear hMh hfl hyl hcy hcg qne qe5 hxR hxM q9q hyb hSX j0 Q5;generalize hGr:(qb x.1 rk.head).rel=gr at *;generalize hGx:(qb x.1 rk.head).x=gx at *;generalize hGy:(qb x.1 rk.head).y=gy at *;clear hGr hGx hGy
    gi_wp2_with (first | (refine⟨trivial,?_⟩;gi_at_call 89;refine (CallsIn.inRound l2 (callsIn_wide.2 hgr.out)).mono ?_;rintro e X1 ⟨rfl,qcg⟩;have km:=λO=>hcm.out X1 O qcg) | (refine⟨trivial,?_⟩;gi_at_call 136;refine (CallsIn.inRound l2 (callsIn_wide.2 (qll.out X1 _ qcg))).mono ?_;rintro e X3 ⟨rfl,hbx3⟩))
    refine⟨λf h=>(by cases h),?_⟩
    gi_wp2
    have HB3:=hb3.out X1 _ X3 qcg hbx3;exact⟨KeepsFrom.ofBelow HB3,qt.ofBelow HB3,hs2,HJ.out _ _ _ none j1 (qh HB3) (λr e=>by cases e),q9i.out.symm,j2.tr (qt.ofBelow HB3),j3.below HB3,j4.tr (qt.ofBelow HB3)⟩
   | none=>
    have q9i:Hid (((pre2++[x]).map (λp=>qb p.1 rk.head)).filter (λh=>(M h).isNone)=(hs2++[gdX (qb x.1 rk.head) qux]).map (·.1)):=by
     show _=_;rw[hfl.out,hMh,List.map_append];rfl
    rw[hMh] at qll
    have Qgb:Hid (∀X3,Below X.heap.size X X3->YieldAt Fence.wide (n - 1) Tryz.prog l #[.agg #[.string (qb x.1 rk.head).rel,.string (qb x.1 rk.head).x,.string (qb x.1 rk.head).y]] X3 λe W'=>∃b:Bool,e=.returned (.bool b)/\((b=true/\J (ys++(hs2++[gdX (qb x.1 rk.head) qux])) W'/\qt m X W')\/(b=false/\Jx (ys++(hs2++[gdX (qb x.1 rk.head) qux])) W'/\KeepsFrom m X W'))):=by
     have:=hyl.out;rw[List.append_assoc] at this;exact this
    generalize hs2++[gdX (qb x.1 rk.head) qux]=hs3 at *;clear hMh hfl hyl qne qe5 hxR hxM q9q hyb hSX j0 Q5;generalize hGr:(qb x.1 rk.head).rel=gr at *;generalize hGx:(qb x.1 rk.head).x=gx at *;generalize hGy:(qb x.1 rk.head).y=gy at *;clear hGr hGx hGy
    gi_wp2_with (first | (refine⟨trivial,?_⟩;gi_at_call 89;refine (CallsIn.inRound l2 (callsIn_wide.2 hgr.out)).mono ?_;rintro e X1 ⟨rfl,qcg⟩;have km:=λO=>hcm.out X1 O qcg) | (refine⟨trivial,?_⟩;gi_at_call 136;refine (CallsIn.inRound l2 (callsIn_wide.2 (qll.out X1 _ qcg))).mono ?_;rintro e X3 ⟨rfl,hbx3⟩;have HB3:=hb3.out X1 _ X3 qcg hbx3;have cyy:=hcy.out X3 HB3;obtain⟨g0,g1,g2⟩:=hcg.out X1 X3 hbx3;obtain⟨fn,tmps,assign,body,hy,hR⟩:=Qgb.out X3 HB3))
    refine (qge hR).mono ?_;rintro e X' ⟨b,rfl,⟨rfl,hJ',hk'⟩ | ⟨rfl,hJx',hk'⟩⟩
    ·clear hy hR
     gi_wp2
     exact⟨KeepsFrom.up hk'.from' (by omega),hk'.up (by omega),hs3,hJ',q9i.out.symm,j2.tr hk',j3.keeps hk'.from' (by omega),j4.tr (hk'.up (by omega))⟩
    ·clear hy hR
     gi_wp2
     exact⟨KeepsFrom.up hk' (by omega),rfl,⟨_,hJx'⟩,j3.keeps hk' (by omega)⟩
 ·have hkl:k=R.length:=by omega
  subst hkl;have q9:Hid ((∀h,h∈ys.map (·.1)↔qn7 R M g h)/\ys.length<=R.length*foN nn):=⟨λh=>(Q5.out.1 h).trans (quq R M g h),Q5.out.2⟩;clear Q5 qg8
  gi_wp2
  show LeavesInM Fence.wide n Tryz.prog _ _ _ (qes ds) .returning V;refine qfv (X:=J ys) (B:=N) (λ_ A B row hs hg hr=>HJ.out ys A B row hs hg hr) ds V hSh.nodup (λD hD=>⟨by have:=(hSh.at' D hD).1;omega,(hSh.at' D hD).2⟩) hJk (λW' hx=>?_);exact⟨_,results_none rfl _ _ _,⟨_,rfl⟩,.inl ⟨ys,q9.out,hx⟩⟩
