/- A part -/
import Derived.Test.YtjajnhemgphefaaGreatDoorKEgB
import Derived.Maps.OwnIn
import Derived.Maps.OwnSet
set_option linter.all false
set_option maxRecDepth 100000
set_option maxHeartbeats 1000000
namespace Go.Proofs.YtjajnhemgphefaaGreatDoor
open Go renaming World->Wq,Value->Vq
open Go.RowKit Go.Shelf
variable {N m:Nat} {D:DataW Unit} {aa:List Am} {W:Wq} {ds:List Nat}
theorem qmj{w wr:Wq}(h:qz N w wr)(hN:N<=w.heap.size):Below N w wr:=⟨h.os,h.tape,h.output,h.size,λk hk=>h.block k (by omega) (.inl hk)⟩
theorem qlr(v:Vq)(rs:List Rl)(al ak ai:Nat)(w:Wq)(hR:Qb w al ak ai v rs)(Qv:∀g,v.ownBlock=some g->g < w.heap.size)(h8:rs.length<=8)(ay:∀r∈rs,qch r) :
  Cs 103 #[v] w λe w'=>e=.returned (.int .i64 (qa2 [] 0 rs))/\Below w.heap.size w w':=by
 obtain⟨a,c,a7⟩:=hR.form;obtain⟨N,hN⟩:∃N,w.heap.size=N:=⟨_,rfl⟩
 have Qj:∀k (hk:k < rs.length),∃g v0 vb,a=some ⟨g,0,none⟩/\w.cell? (Ad g (k*3))=some (.string (rs[k]).head.rel)/\w.cell? (Ad g (k*3+1))=some v0/\w.cell? (Ad g (k*3+2))=some vb/\qfb w ak ai rs[k] v0 vb/\g < w.heap.size:=by
  intro k hk;obtain⟨g,c',v0,vb,h1,h2,h3,h4,h5⟩:=qdb hR hk;have hg:=Qv g (by rw[h1];rfl);rw[a7] at h1;cases h1;exact⟨g,v0,vb,rfl,h2,h3,h4,h5,hg⟩
 subst a7
 have cr:∀k (hk:k < rs.length) (v0 vb:Vq) (wr:Wq) (us:List By) (vn:Vq),qfb w ak ai rs[k] v0 vb->qz N w wr->wr.ownsRow N 9 1 vn us.length (us.map Value.string)->us.length<=8->
   ∀fa fn fc ga gn gc,v0=.slice fa fn fc->vb=.slice ga gn gc->
   Cs 76 #[vn,.func (.func 141) #[] #[Pt (wr.heap.size+1)]] ((wr.alloc (.cells #[.string (rs[k]).head.rel,.slice fa fn fc,.slice ga gn gc] 136)).alloc (.cells #[.string (rs[k]).head.rel,.slice fa fn fc,.slice ga gn gc] 136)) λe w'=>∃v',e=.returned v'/\w'.ownsRow N 9 1 v' (nmL us (Qr rs[k])).length ((nmL us (Qr rs[k])).map Value.string)/\qz N w w':=by
  intro k hk v0 vb wr us vn hv aj c7 cv fa fn fc ga gn gc hf hg;subst hf hg;have de:=aj.size;have ae:Below wr.heap.size wr ((wr.alloc (.cells #[.string (rs[k]).head.rel,.slice fa fn fc,.slice ga gn gc] 136)).alloc (.cells #[.string (rs[k]).head.rel,.slice fa fn fc,.slice ga gn gc] 136)):=((Below.refl _ wr).alloc zl _).alloc (by simp) _;have c4:qf w wr:=λj cc t ht hc=>(aj.block j (zg hc).1 (.inr (λc' fz e=>by rw[hc] at e;rcases ht with rfl | rfl | rfl <;> cases e))).trans hc;refine (qlm rs[k] _ _ vn us N ak ai (wr.heap.size+1) _ (ay _ (zm hk)) ((hv.rk c4).rk (qf.ofBelow ae)) ?_ (qk c7 ae) (by simp;omega) (by omega)).mono ?_
  .have:=zn (wr.alloc (.cells #[.string (rs[k]).head.rel,.slice fa fn fc,.slice ga gn gc] 136)) (.cells #[.string (rs[k]).head.rel,.slice fa fn fc,.slice ga gn gc] 136);rw[World.size_alloc] at this;exact this
  .rintro e w' ⟨v',h1,h2,h3⟩;exact⟨v',h1,h2,(aj.trans (qz.ofBelow ae)).trans h3⟩
 have HC:Hid _:=Qj;have HR:Hid _:=cr;clear Qj cr hR ay Qv;go_enter Tryz.func103,Tryz.ntmps103;go_wp2
 go_loopw [3,8] (λvn i wr=>∃(k:Nat) (us:List ByteArray),k<=rs.length/\i=.int .i64 k/\us.length<=8/\wr.ownsRow N 9 1 vn us.length (us.map Value.string)/\Hid (qa2 us k (rs.drop k)=qa2 [] 0 rs)/\qz N w wr) (λ_ i _=>rs.length - (intOf i).toNat)
 case atStart=>exact⟨0,[],zz,rfl,by simp,zo,rfl,qz.refl _ _⟩
 case round=>
  obtain⟨k,us,hk,rfl,cv,Qv,Q7,aj⟩:=hrel;by_cases am:k < rs.length
  .obtain⟨g,v0,vb,rfl,q0,q1,q2,hv,hg⟩:=HC.out k am;have bk:Below N w wr:=qmj aj (by omega);have cl:=(bk.cell (p:=⟨g,k*3,none⟩) (by rw[<- hN];exact hg)).trans q0;have bt:=(bk.cell (p:=⟨g,k*3+1,none⟩) (by rw[<- hN];exact hg)).trans q1;have b8:=(bk.cell (p:=⟨g,k*3+2,none⟩) (by rw[<- hN];exact hg)).trans q2;obtain⟨fa,fc,bv⟩:=hv.1.form;obtain⟨ga,gc,b3⟩:=hv.2.form;have cf:=HR.out k am v0 vb wr us _ hv aj Qv cv _ _ _ _ _ _ bv b3;rw[bv] at bt;rw[b3] at b8
   have av:Hid (qa2 us k (rs.drop k)=if 8 < (nmL us (Qr rs[k])).length then (k:Int) else qa2 (nmL us (Qr rs[k])) (k+1) (rs.drop (k+1))):=by
    show _=_;rw[List.drop_eq_getElem_cons am,qrr];rfl
   have cy:Hid _:=cf;have i1:(k:Int) < (rs.length:Int):=by omega
   obtain⟨na,nc,rfl⟩:=qo Qv;have HN:Hid (w.heap.size=N):=hN;clear cf q0 q1 q2 hv bv b3 Qv bk aj hN;generalize (rs[k]).head.rel=rel at *;generalize (rs[k]).head.args.length=m1 at *;generalize (rs[k]).body.length=m2 at *;generalize nmL us (Qr rs[k])=us' at *;by_cases bd:8 < us'.length
   .have hd:(8:Int) < (us'.length:Int):=by omega
    have af:Hid (qa2 [] 0 rs=k):=by show _=_;rw[<- Q7.out,av.out,if_pos bd]
    go_wp2_with (first | (go_at_call 77;refine (qnf _ _ _ _ rfl _).mono ?_;rintro e w' ⟨rfl,rfl⟩) | (go_at_call 76;refine Calls.mono cy.out ?_;rintro e w1 ⟨v1,rfl,ad,ao⟩;obtain⟨c6,c5,rfl⟩:=qo ad))
    go_ret;exact⟨qfl af.out.symm,by rw[HN.out];exact qmj ao (Nat.le_of_eq HN.out.symm)⟩
   .have hd:¬(8:Int) < (us'.length:Int):=by omega
    have af:Hid (qa2 us' (k+1) (rs.drop (k+1))=qa2 [] 0 rs):=by show _=_;rw[<- Q7.out,av.out,if_neg bd]
    go_wp2_with (first | (go_at_call 77;refine (qnf _ _ _ _ rfl _).mono ?_;rintro e w' ⟨rfl,rfl⟩) | (go_at_call 76;refine Calls.mono cy.out ?_;rintro e w1 ⟨v1,rfl,ad,ao⟩;obtain⟨c6,c5,rfl⟩:=qo ad))
    refine⟨⟨k+1,us',by omega,by go_num,by omega,ad,af.out,ao⟩,by simp[intOf];omega⟩
  .have af:Hid (qa2 [] 0 rs=-1):=by show _=_;rw[<- Q7.out,List.drop_of_length_le (by omega)];rfl
   go_wp2;go_ret;exact⟨qfl af.out.symm,by rw[hN];exact qmj aj (by omega)⟩
attribute [local go_sem] Oper.semAt_some
theorem qt6(l m:List Am):∀(aa s:List Am),qdu aa l=some s->qdu aa (l++m)=qdu s m:=by
 induction l with
 | nil=>intro aa s h;simp[qdu] at h;rw[h];rfl
 | cons a l ih=>
  intro aa s h;simp only[List.cons_append,qdu] at h ⊢;split at h
  .rename_i h0;rw[if_pos h0];exact ih _ _ h
  .cases h
theorem qyu(l m:List Am):∀(aa:List Am),qdu aa l=none->qdu aa (l++m)=none:=by
 induction l with
 | nil=>intro aa h;simp[qdu] at h
 | cons a l ih=>
  intro aa h;simp only[List.cons_append,qdu] at h ⊢;split at h
  .rename_i h0;rw[if_pos h0];exact ih _ h
  .rename_i h0;rw[if_neg h0]
structure qns(D:DataW Unit)(aa:List Am):Prop where
 isMap:Maps.IsMap D
 has:∀l,Maps.has D (.string l)=(qcw aa l).isSome
 at':∀l n,qcw aa l=some n->∀z,D.atKey (.string l) z=.lit (.int .i64 n)
theorem qns.empty:qns (.map []) []:=⟨Maps.isMap_empty,λ_=>rfl,λl n h=>by simp[qcw] at h⟩
theorem qrx(aa:List Am)(a:Am)(l:List UInt8):qcw (aa++[a]) l=(qcw aa l).or (if a.rel.data.toList == l then some a.args.length else none):=by
 unfold qcw;rw[List.find?_append]
 cases aa.find? (λa=>a.rel.data.toList == l) with
 | some b=>simp
 | none=>
  simp only[Option.none_or,List.find?_cons,List.find?_nil,Option.map_none];split <;> simp_all
theorem qns.put(h:qns D aa)(a:Am)(hf:qhb aa a=true):qns (D.put (.string a.rel.data.toList) (.lit (.int .i64 a.args.length))) (aa++[a]):=by
 have hk:WideAt.IsKeyLit (.string a.rel.data.toList):=trivial;refine⟨h.isMap.put _ _,λl=>?_,λl n hn z=>?_⟩
 .rw[qrx];by_cases e:l=a.rel.data.toList
  .subst e;rw[Maps.has_put_same h.isMap hk]
   cases qcw aa a.rel.data.toList <;> simp
  .rw[Maps.has_put_other (by intro h';injection h' with h';exact e h'),h.has];have:(a.rel.data.toList == l)=false:=by simp;exact λh=>e h.symm
   rw[this];simp
 .rw[qrx] at hn;by_cases e:l=a.rel.data.toList
  .subst e;rw[Maps.atKey_put_same h.isMap hk];unfold qhb at hf
   cases hc:qcw aa a.rel.data.toList with
   | some m=>
    rw[hc] at hf hn;simp at hf hn;rw[<- hn,hf]
   | none=>
    rw[hc] at hn;simp at hn;rw[hn]
  .rw[Maps.atKey_put_other (by intro h';injection h' with h';exact e h')];have:(a.rel.data.toList == l)=false:=by simp;exact λh=>e h.symm
   rw[this] at hn;simp at hn;exact h.at' l n hn z
theorem qwt(n:Nat)(h:n<=2):(Lit.int .i64 (n:Int)).wf=true:=by
 match n,h with
 | 0,_=>rfl
 | 1,_=>rfl
 | 2,_=>rfl
structure qs1(w:Wq)(N m:Nat)(ds:List Nat)(aa:List Am)(D:DataW Unit)(W:Wq):Prop where
 map:W.ownsMap Tryz.prog 9 (plainElem Tryz.prog 3) (N+1) m D
 set:qns D aa
 res:Boxed W N 3 (.int .i64 0)
 box:Boxed W (N+2) 285 (.map (some (N+1)))
 nodup:ds.Nodup
 shut:∀d∈ds,W.heap[d]?=some (.deferred (some []))
 above:∀d∈ds,N+2 < d
 rk:qf w W
 below:Below N w W
theorem qs1.grown{w W':Wq}{row:Option Nat}(h:qs1 w N m ds aa D W)(hN:w.heap.size=N)(hg:W.grownBy W' row)(hr:∀r,row=some r->N+2 < r/\r∉ds/\∃o:Obj,W.heap[r]?=some o/\o.isCells=false):qs1 w N m ds aa D W':=by
 have hk:=qj hg (λr e=>(hr r e).2.2);refine⟨h.map.kept hg (λe=>by have:=(hr (N+1) e.symm).1;omega),h.set,hk _ _ _ _ h.res,hk _ _ _ _ h.box,h.nodup,λd hd=>?_,h.above,h.rk.trans (λk c t _ hc=>hk k c t _ hc),h.below.grown hg (qa6 h.below hN) (λk e=>by have:=(hr k e).1;omega)⟩;have ah:=h.shut d hd;exact (hg.block d (zg ah).1 (λe=>(hr d e.symm).2.1 hd)).trans ah
theorem qs1.lt{w:Wq}(h:qs1 w N m ds aa D W):∀d∈ds,d < W.heap.size:=λd hd=>(zg (h.shut d hd)).1
theorem qre(v:Vq)(rs:List Rl)(al ak ai:Nat)(w:Wq)(hR:Qb w al ak ai v rs)(Qv:∀g,v.ownBlock=some g->g < w.heap.size)(h8:rs.length<=8)(ay:∀r∈rs,qch r) :
  Cs 100 #[v] w λe w'=>e=.returned (.int .i64 (qah [] 0 rs))/\Below w.heap.size w w':=by
 obtain⟨a,c,a7⟩:=hR.form
 have Qj:∀k (hk:k < rs.length),∃g v0 vb,a=some ⟨g,0,none⟩/\w.cell? (Ad g (k*3))=some (.string (rs[k]).head.rel)/\w.cell? (Ad g (k*3+1))=some v0/\w.cell? (Ad g (k*3+2))=some vb/\qfb w ak ai rs[k] v0 vb/\g < w.heap.size:=by
  intro k hk;obtain⟨g,c',v0,vb,h1,h2,h3,h4,h5⟩:=qdb hR hk;have hg:=Qv g (by rw[h1];rfl);rw[a7] at h1;cases h1;exact⟨g,v0,vb,rfl,h2,h3,h4,h5,hg⟩
 subst a7;have HC:Hid _:=Qj;have c8:Hid _:=ay;clear Qj hR ay Qv;have b0:=@run_makeMap Tryz.prog;obtain⟨N,hN⟩:∃N,w.heap.size=N:=⟨_,rfl⟩;refine (callsIn_wide (n:=9)).1 ?_;refine callsIn_of_wp_marks Tryz.func100 rfl trivial ?_ rfl;simp only[Tryz.ntmps100,List.size_toArray,List.length_cons,List.length_nil,Nat.reduceAdd,Nat.reduceSub,Array.replicate_succ,Array.replicate_zero,List.push_toArray,List.append_toArray,List.nil_append,List.cons_append]
 gi_wp2
 have bo:qs1 w N 0 [] [] (.map []) (((w.alloc (.cells #[.int .i64 0] 3)).alloc (.map #[] 0)).alloc (.cells #[.map (some (N+1))] 285)):=by
  have hb:Below w.heap.size w (((w.alloc (.cells #[.int .i64 0] 3)).alloc (.map #[] 0)).alloc (.cells #[.map (some (N+1))] 285)):=(((Below.refl _ w).alloc zl _).alloc (by simp) _).alloc (by simp;omega) _;have hm:=World.ownsMap_made (w.alloc (.cells #[.int .i64 0] 3)) Tryz.prog 9 (plainElem (H:=Unit) Tryz.prog 3);have az:=((Boxed.new w 3 (.int .i64 0)).alloc (.map #[] 0)).alloc (.cells #[.map (some (N+1))] 285);rw[World.size_alloc] at hm;rw[hN] at hm hb az;refine⟨hm.kept (World.grownBy_alloc _ _ none) (by simp),qns.empty,az,?_,List.nodup_nil,by simp,by simp,qf.ofBelow (by rw[hN];exact hb),hb⟩;have:=Boxed.new ((w.alloc (.cells #[.int .i64 0] 3)).alloc (.map #[] 0)) 285 (.map (some (N+1)));rw[World.size_alloc,World.size_alloc,hN] at this;exact this
 refine wpIn_loop (λA W=>∃(k:Nat) (ds:List Nat) (aa:List Am) (D:DataW Unit) (u4 u5 b9 cj cg cq cu cd bu:Vq),A={tmps:=#[.slice a rs.length c,undef,Pt N,Pt (N+1+1),u4,u5,undef,undef,undef,.map (some (N+1)),.slice a rs.length c,.int .i64 rs.length,.int .i64 k,b9,cj,cg,cq,cu,cd,undef,undef,undef,undef,undef,undef,undef,undef,undef,undef,undef,undef,undef,undef,undef,undef,undef,undef,undef,undef,undef,undef,undef,bu],defers:=qe1 ds}/\k<=rs.length/\qs1 w N (k*4) ds aa D W/\Hid (qah aa k (rs.drop k)=qah [] 0 rs)) (λA _=>rs.length - (intOf (A.tmps.getD 12 undef)).toNat) ⟨0,[],[],.map [],_,_,_,_,_,_,_,_,_,rfl,zz,bo,rfl⟩ ?_;rintro A W ⟨k,ds,aa,D,u4,u5,b9,cj,cg,cq,cu,cd,bu,rfl,hk,hI,Q7⟩;clear bo b0;by_cases am:k < rs.length
 .obtain⟨g,v0,vb,rfl,q0,q1,q2,hv,hg⟩:=HC.out k am;have b4:g < N:=by omega
  have cl:=(hI.below.cell (p:=⟨g,k*3,none⟩) b4).trans q0;have bt:=(hI.below.cell (p:=⟨g,k*3+1,none⟩) b4).trans q1;have b8:=(hI.below.cell (p:=⟨g,k*3+2,none⟩) b4).trans q2;have cb:=hv.rk hI.rk;have cm:=c8.out _ (zm am)
  have av:Hid (qah aa k (rs.drop k)=match qdu aa ((rs[k]).head::(rs[k]).body) with | none=>(k:Int) | some s=>qah s (k+1) (rs.drop (k+1))):=by
   show _=_;rw[List.drop_eq_getElem_cons am];rfl
  obtain⟨x0,L,la,cap,bn,hL,rfl,dj,cn⟩:=qqn cb cm;have ce:(rs[k]).head::(rs[k]).body=(x0::L).map (·.1.1):=by rw[List.map_cons,hL,bn]
  have ck:(rs[k]).head.rel=x0.1.1.rel:=by rw[bn]
  have co:v0=x0.1.2:=by rw[bn]
  obtain⟨fa,fc,hf⟩:=x0.2.1.form;rw[ck] at cl;rw[co,hf] at bt;rw[ce] at av;clear ce ck co bn hL cb cm hv q0 q1 q2;have i1:(k:Int) < (rs.length:Int):=by omega
  gi_wp2_with (refine⟨trivial,?_⟩;gi_at_call 98;refine (callsIn_wide.2 (qk8 _ _ _ _ rfl rfl rfl rfl _)).mono ?_;rintro e w' ⟨rfl,rfl⟩)
  obtain⟨M,hM⟩:∃M,W.heap.size=M:=⟨_,rfl⟩;obtain⟨W0,ap⟩:∃W0,((W.alloc (.cells #[.int .i64 k] 3)).alloc (.cells #[.string x0.1.1.rel,.slice fa x0.1.1.args.length fc,.slice la L.length cap] 136)).alloc (.cells #[.string x0.1.1.rel,.slice fa x0.1.1.args.length fc,.slice la L.length cap] 136)=W0:=⟨_,rfl⟩;have az:Below W.heap.size W W0:=by rw[<- ap];exact (((Below.refl _ W).alloc zl _).alloc (by simp) _).alloc (by simp;omega) _
  have cp:W0.heap.size=M+3:=by rw[<- ap,<- hM];simp
  have bK:Boxed W0 M 3 (.int .i64 k):=by
   rw[<- ap,<- hM];exact ((Boxed.new W _ _).alloc _).alloc _
  have bR:W0.heap[M+1+1]?=cC #[.string x0.1.1.rel,x0.1.2,.slice la L.length cap] 136:=by
   rw[<- ap,hf];have:=zn ((W.alloc (.cells #[.int .i64 k] 3)).alloc (.cells #[.string x0.1.1.rel,.slice fa x0.1.1.args.length fc,.slice la L.length cap] 136)) (.cells #[.string x0.1.1.rel,.slice fa x0.1.1.args.length fc,.slice la L.length cap] 136);rw[World.size_alloc,World.size_alloc,hM] at this;exact this
  have c2:L≠[]->∃(g bj:Nat) (bi:Array Vq),la=some ⟨g,bj,none⟩/\W0.heap[g]?=cC bi 92/\(bi.toList.drop bj).take (L.length*2)=L.flatMap λx=>[.string x.1.1.rel,x.1.2]:=λdd=>by
   obtain⟨g,bj,bi,h1,h2,h3⟩:=cn dd;exact⟨g,bj,bi,h1,qf.ofBelow az _ _ _ (.inr (.inl rfl)) h2,h3⟩
  have bo:=hI.grown hN (qi az) (λr e=>by cases e);have be:=hI.lt;have di:N+2 < M:=by have:=hI.box.lt;omega
  simp only[hM];rw[ap];clear ap cn
  refine qhk (n:=9) (gf:=163) (lb:=#[Pt (M+1+1)]) rfl (enters_of Tryz.func163 (by kernel_rfl) rfl)
   (qs4.ofStops (qiv 8 (by decide) (M+1+1) W ai x0 L (by omega) la cap W0 bR c2)) qf.trans (λV o o' ho hc=>qf.put V _ o o' ho hc) (λ_=>rfl)
   (λpre V=>∃s D',qdu aa (pre.map (·.1.1))=some s/\qs1 w N (k*4+pre.length) ds s D' V/\Boxed V M 3 (.int .i64 k))
   (λc pre V=>c=.ret/\qdu aa (pre.map (·.1.1))=none/\Boxed V N 3 (.int .i64 k)/\(∀d∈ds,V.heap[d]?=some (.deferred (some [])))/\Below N w V)
   ?hI ?hIx ⟨aa,D,rfl,bo,bK⟩
   (λx a' V=>∃Bx,V.heap[Bx]?=cC #[.string x.1.1.rel,x.1.2] 92/\a'={tmps:=#[Sc g rs.length c,undef,Pt N,Pt (N+1+1),Pt M,Pt (M+1),Pt Bx,undef,undef,.map (some (N+1)),Sc g rs.length c,.int .i64 rs.length,.int .i64 k,.bool true,.int .i64 k,.pointer (some ⟨g,k*3,none⟩),.agg #[.string x0.1.1.rel,.slice fa x0.1.1.args.length fc,.slice la L.length cap],.agg #[.string x0.1.1.rel,.slice fa x0.1.1.args.length fc,.slice la L.length cap],.func (.func 163) #[] #[Pt (M+1+1)],.agg #[.string x.1.1.rel,x.1.2],undef,undef,undef,undef,undef,undef,undef,undef,undef,undef,undef,undef,undef,undef,undef,undef,undef,undef,undef,undef,undef,undef,bu],defers:=[]})
   ?hAx ?assign ?body ?done ?stop
  case hI=>
   rintro pre V V' row ⟨s,D',h0,h1,h2⟩ hg hr;refine⟨s,D',h0,h1.grown hN hg (λr e=>⟨by have:=(hr r e).1;omega,λhd=>?_,(hr r e).2⟩),qj hg (λr e=>(hr r e).2) _ _ _ _ h2⟩;have:=be r hd;have:=(hr r e).1;omega
  case hIx=>
   rintro c pre V V' row ⟨rfl,h0,h1,h2,h3⟩ hg hr;refine⟨rfl,h0,qj hg (λr e=>(hr r e).2) _ _ _ _ h1,λd hd=>?_,h3.grown hg (qa6 h3 hN) (λk e=>by have:=(hr k e).1;omega)⟩;have ah:=h2 d hd;exact (hg.block d (zg ah).1 (λe=>by have:=be d hd;have:=(hr d e.symm).1;omega)).trans ah
  case hAx=>
   rintro x a' _ V V' row ⟨Bx,h2,h3⟩ hg hr;exact⟨Bx,qj hg (λr e=>(hr r e).2) _ _ _ _ h2,h3⟩
  case assign=>
   rintro l' pre x V K hl dk ⟨s,D',h0,h1,h2⟩ hK;have HK:Hid _:=hK;clear hK;obtain⟨ga,gc,au⟩:=x.2.1.form;simp only[au]
   gi_wp2
   have ae:Below V.heap.size V (V.alloc (.cells #[.string x.1.1.rel,.slice ga x.1.1.args.length gc] 92)):=(Below.refl _ V).alloc zl _;exact HK.out _ _ (KeepsFrom.ofBelow ae) (qf.ofBelow ae) ⟨s,D',h0,h1.grown hN (qi ae) (λr e=>by cases e),h2.alloc _⟩ ⟨V.heap.size,by rw[au];exact zn V _,by rw[au]⟩
  case body=>
   rintro l' pre x a' V dg ⟨r,hr⟩ ⟨s,D',ag,h1,h2⟩ ⟨Bx,a9,rfl⟩ b5;obtain⟨ga,gc,au⟩:=x.2.1.form;have ct:=x.2.2.args;have c0:V.cell? (Ad Bx 0)=some (.string x.1.1.rel):=zc a9
   have c1:V.cell? (Ad Bx 1)=some (.slice ga x.1.1.args.length gc):=by simp[World.cell?,a9,au]
   have cV:=h1.box.cell;have cK:=h2.cell;have cN:=h1.res.cell;have fN:=h1.res.frozen;have a8:=WideMaps.keyOf_string_mk (P:=Tryz.prog) Tryz.underlying9 (s:=x.1.1.rel) (by have:=x.2.2.rel;unfold maxLen;omega);have cx:k*4+pre.length < maxLen:=by unfold maxLen;simp at b5;omega
   have ch:=h1.set.has x.1.1.rel.data.toList;have Qaq:=h1.set.at' x.1.1.rel.data.toList
   have cz:Hid (∀b,qhb s x.1.1=b->qdu aa ((pre++[x]).map (·.1.1))=if b=true then some (s++[x.1.1]) else none):=by
    intro b hb;rw[List.map_append,qt6 _ _ _ _ ag];simp only[List.map_cons,List.map_nil,qdu,hb]
   have dc:Hid (qhb s x.1.1=true->qns (D'.put (.string x.1.1.rel.data.toList) (.lit (.int .i64 x.1.1.args.length))) (s++[x.1.1])):=λhf=>h1.set.put x.1.1 hf;have ax:Hid (qhb s x.1.1=match qcw s x.1.1.rel.data.toList with | some n=>n == x.1.1.args.length | none=>true):=rfl;have df:Hid _:=ag;clear ag au
   have ci:∀w1,qhb s x.1.1=true->w1.ownsMap Tryz.prog 9 (plainElem Tryz.prog 3) (N+1) (k*4+pre.length+1) (D'.put (.string x.1.1.rel.data.toList) (.lit (.int .i64 x.1.1.args.length)))->V.grownBy w1 (some (N+1))->
     KeepsFrom W0.heap.size V w1/\qf V w1/\∃s2 D2,qdu aa ((pre++[x]).map (·.1.1))=some s2/\qs1 w N (k*4+(pre++[x]).length) ds s2 D2 w1/\Boxed w1 M 3 (.int .i64 k):=by
    intro w1 hf ac ab;obtain⟨es,clock,db,_⟩:=h1.map;have bb:=qj ab (λr e=>by cases e;exact⟨_,db,rfl⟩);refine⟨KeepsFrom.of_grownBy ab (λj e=>by cases e;omega),λk c t _ hc=>bb k c t _ hc,s++[x.1.1],_,by rw[cz.out _ hf];rfl,⟨by simpa [Nat.add_assoc] using ac,dc.out hf,bb _ _ _ _ h1.res,bb _ _ _ _ h1.box,h1.nodup,λd hd=>?_,h1.above,h1.rk.trans (λk c t _ hc=>bb k c t _ hc),h1.below.grown ab (qa6 h1.below hN) (λj e=>by cases e;omega)⟩,bb _ _ _ _ h2⟩;have ah:=h1.shut d hd;exact (ab.block d (zg ah).1 (by have:=h1.above d hd;simp;omega)).trans ah
   have cw:Hid _:=ci;clear ci
   cases har:qcw s x.1.1.rel.data.toList with
   | none=>
    rw[har] at ch ax;clear Qaq har
    gi_wp2_with (first | (gi_at_lookup;refine wpListIn_lookup_own_ok_int _ rfl _ _ 285 rfl 9 3 .i64 (Maps.string_keyed Tryz.underlying9) Tryz.underlying285 Tryz.underlying3 (Tryz.zeroValue3 _) (N+1) (k*4+pre.length) _ rfl h1.map _ _ rfl a8 ?_;intro c aw bf) | (gi_at_mapUpdate;refine wpListIn_mapUpdate_own _ rfl _ _ _ 285 rfl 9 3 (Maps.string_keyed Tryz.underlying9) Tryz.underlying285 _ (N+1) (k*4+pre.length) _ rfl h1.map cx _ _ _ rfl rfl a8 (.lit (.int .i64 x.1.1.args.length)) [] (plainElem_int Tryz.underlying3 (qwt _ ct)) ?_;intro w1 ac ab))
    obtain⟨k1,k2,s2,D2,e1,e2,e3⟩:=cw.out w1 ax.out ac ab;exact⟨by rw[<- cp];exact k1,k2,s2,e1,⟨D2,e2⟩,e3⟩
   | some m=>
    have ca:Hid (∀c:Int,D'.atKey (.string x.1.1.rel.data.toList) (.lit (.int .i64 0))=.lit (.int .i64 c)->c=m):=by
     intro c hc;rw[Qaq m har] at hc;simp at hc;exact hc.symm
    rw[har] at ch ax;clear Qaq har;by_cases aq:m=x.1.1.args.length
    .have b0:((m:Int) != (x.1.1.args.length:Int))=false:=by simp[aq]
     have bc:qhb s x.1.1=true:=by rw[ax.out];simp[aq]
     have b7:Hid _:=bc;clear bc aq
     gi_wp2_with (first | (gi_at_lookup;refine wpListIn_lookup_own_ok_int _ rfl _ _ 285 rfl 9 3 .i64 (Maps.string_keyed Tryz.underlying9) Tryz.underlying285 Tryz.underlying3 (Tryz.zeroValue3 _) (N+1) (k*4+pre.length) _ rfl h1.map _ _ rfl a8 ?_;intro c aw bf;have c9:=ca.out c aw;clear aw bf) | (gi_at_mapUpdate;refine wpListIn_mapUpdate_own _ rfl _ _ _ 285 rfl 9 3 (Maps.string_keyed Tryz.underlying9) Tryz.underlying285 _ (N+1) (k*4+pre.length) _ rfl h1.map cx _ _ _ rfl rfl a8 (.lit (.int .i64 x.1.1.args.length)) [] (plainElem_int Tryz.underlying3 (qwt _ ct)) ?_;intro w1 ac ab))
     obtain⟨k1,k2,s2,D2,e1,e2,e3⟩:=cw.out w1 b7.out ac ab;exact⟨by rw[<- cp];exact k1,k2,s2,e1,⟨D2,e2⟩,e3⟩
    .have b0:((m:Int) != (x.1.1.args.length:Int))=true:=by simp;omega
     have bc:qhb s x.1.1=false:=by rw[ax.out];simp[aq]
     have b7:Hid _:=bc;have dh:Hid _:=aq;clear bc aq
     gi_wp2_with (gi_at_lookup;refine wpListIn_lookup_own_ok_int _ rfl _ _ 285 rfl 9 3 .i64 (Maps.string_keyed Tryz.underlying9) Tryz.underlying285 Tryz.underlying3 (Tryz.zeroValue3 _) (N+1) (k*4+pre.length) _ rfl h1.map _ _ rfl a8 ?_;intro c aw bf;have c9:=ca.out c aw;clear aw bf)
     exact⟨(KeepsOthers.setCell _ _ _).from _,rfl,by rw[cz.out _ b7.out];rfl,qbj h1.res _,λd hd=>(Below.heap_setCell _ _ _ d (by have:=h1.above d hd;simp;omega)).trans (h1.shut d hd),h1.below.setCell (p:=⟨N,0,none⟩) zl _⟩
  case done=>
   rintro D0 xs V hD rfl ⟨s,D',ag,h1,h2⟩ hK;have b6:D0∉ds:=λhd=>by have:=be D0 hd;omega
   have bq:(D0::ds).Nodup:=List.nodup_cons.2 ⟨b6,h1.nodup⟩
   have a6:∀d∈D0::ds,V.heap[d]?=some (.deferred (some [])):=λd hd=>by
    rcases List.mem_cons.1 hd with rfl | hd
    .exact hK
    .exact h1.shut d hd
   have bh:∀d∈D0::ds,N+2 < d:=λd hd=>by
    rcases List.mem_cons.1 hd with rfl | hd
    .omega
    .exact h1.above d hd
   have c3:Hid (qah s (k+1) (rs.drop (k+1))=qah [] 0 rs):=by show _=_;rw[<- Q7.out,av.out,ag]
   clear ag
   gi_wp2
   refine⟨⟨k+1,D0::ds,s,D',_,_,_,_,_,_,_,_,_,rfl,by omega,?_,c3⟩,?_⟩
   .exact {h1 with map:=h1.map.mono (by simp;omega),nodup:=bq,shut:=a6,above:=bh}
   .simp[intOf];omega
  case stop=>
   rintro D0 c' pre V hD hp ⟨rfl,ag,h2,h3,h4⟩ hK;have b6:D0∉ds:=λhd=>by have:=be D0 hd;omega
   have bq:(D0::ds).Nodup:=List.nodup_cons.2 ⟨b6,hI.nodup⟩
   have a6:∀d∈D0::ds,V.heap[d]?=some (.deferred (some [])):=λd hd=>by
    rcases List.mem_cons.1 hd with rfl | hd
    .exact hK
    .exact h3 d hd
   have bh:∀d∈D0::ds,N+2 < d:=λd hd=>by
    rcases List.mem_cons.1 hd with rfl | hd
    .omega
    .exact hI.above d hd
   have af:Hid (qah [] 0 rs=(k:Int)):=by
    show _=_;obtain⟨tl,da⟩:=hp;rw[<- Q7.out,av.out,<- da,List.map_append,qyu _ _ _ ag]
   clear ag
   gi_wp2
   show LeavesInM Fence.wide 9 Tryz.prog _ _ _ (qe1 (D0::ds)) .returning V;refine qep (D0::ds) V bq a6 (λW' hc hs=>?_);have dN:W'.cell? (Ad N 0)=some (.int .i64 k):=Boxed.cell (t:=3) ((hc.block N h2.lt (λhd=>by have:=bh N hd;omega)).trans h2);refine⟨.int .i64 k,by simp[results,Tryz.results100,go_sem,dN],by rw[af.out],?_⟩;rw[hN];exact h4.trans (hc.below (qa6 h4 hN) (λd hd=>by have:=bh d hd;omega))
 .have cN:=hI.res.cell;have fN:=hI.res.frozen
  gi_wp2
  show LeavesInM Fence.wide 9 Tryz.prog _ _ _ (qe1 ds) .returning (W.setCell (Ad N 0) (.int .i64 (-1)));have a6:∀d∈ds,(W.setCell (Ad N 0) (.int .i64 (-1))).heap[d]?=some (.deferred (some [])):=λd hd=>(Below.heap_setCell _ _ _ d (by have:=hI.above d hd;simp;omega)).trans (hI.shut d hd);refine qep ds _ hI.nodup a6 (λW' hc hs=>?_);have a9:=qbj hI.res (.int .i64 (-1));have dN:W'.cell? (Ad N 0)=some (.int .i64 (-1)):=Boxed.cell (t:=3) ((hc.block N a9.lt (λhd=>by have:=hI.above N hd;omega)).trans a9);have af:qah [] 0 rs=-1:=by rw[<- Q7.out,List.drop_of_length_le (by omega)];rfl
  have ae:=hI.below.setCell (p:=⟨N,0,none⟩) zl (.int .i64 (-1));refine⟨.int .i64 (-1),by simp[results,Tryz.results100,go_sem,dN],by rw[af],?_⟩;rw[hN];exact ae.trans (hc.below (qa6 ae hN) (λd hd=>by have:=hI.above d hd;omega))
