/- rules.findArity: the first rule with an atom of another -/
import Derived.Test.YtjajnhemgphefaaGreatDoorJEgB
import Derived.Maps.OwnIn
import Derived.Maps.OwnSet
set_option linter.unusedVariables false
set_option linter.unusedSimpArgs false
set_option maxRecDepth 100000
set_option maxHeartbeats 1000000
namespace Go.Proofs.YtjajnhemgphefaaGreatDoor
open Go renaming World->Wq,Value->Vq
open Go.RowKit Go.Shelf
variable {N m:Nat} {D:DataW Unit} {seen:List Am} {W:Wq} {ds:List Nat}
theorem ql3{w wr:Wq}(h:qw N w wr)(hN:N<=w.heap.size):Below N w wr:=⟨h.os,h.tape,h.output,h.size,λk hk=>h.block k (by omega) (.inl hk)⟩
theorem qlb(v:Vq)(rs:List Rl)(base b45 b87:Nat)(w:Wq)(hR:Qa w base b45 b87 v rs)(Q4:∀g,v.ownBlock=some g->g < w.heap.size)(h8:rs.length<=8)(hok:∀r∈rs,qcd r) :
  Calls Tryz.prog 103 #[v] w λe w'=>e=.returned (.int .i64 (qa3 [] 0 rs))/\Below w.heap.size w w':=by
 obtain⟨a,c,qbd⟩:=hR.form;obtain⟨N,hN⟩:∃N,w.heap.size=N:=⟨_,rfl⟩
 have Ql:∀k (hk:k < rs.length),∃g v0 vb,a=some ⟨g,0,none⟩/\w.cell? ⟨g,k*3,none⟩=some (.string (rs[k]).head.rel)/\w.cell? ⟨g,k*3+1,none⟩=some v0/\w.cell? ⟨g,k*3+2,none⟩=some vb/\qez w b45 b87 rs[k] v0 vb/\g < w.heap.size:=by
  intro k hk;obtain⟨g,c',v0,vb,h1,h2,h3,h4,h5⟩:=qc1 hR hk;have hg:=Q4 g (by rw[h1];rfl);rw[qbd] at h1;cases h1;exact⟨g,v0,vb,rfl,h2,h3,h4,h5,hg⟩
 subst qbd
 have qs2:∀k (hk:k < rs.length) (v0 vb:Vq) (wr:Wq) (us:List ByteArray) (vn:Vq),qez w b45 b87 rs[k] v0 vb->qw N w wr->wr.ownsRow N 9 1 vn us.length (us.map Value.string)->us.length<=8->
   ∀fa fn fc ga gn gc,v0=.slice fa fn fc->vb=.slice ga gn gc->
   Calls Tryz.prog 76 #[vn,.func (.func 141) #[] #[.pointer (some ⟨wr.heap.size+1,0,none⟩)]] ((wr.alloc (.cells #[.string (rs[k]).head.rel,.slice fa fn fc,.slice ga gn gc] 136)).alloc (.cells #[.string (rs[k]).head.rel,.slice fa fn fc,.slice ga gn gc] 136)) λe w'=>∃v',e=.returned v'/\w'.ownsRow N 9 1 v' (nmL us (Qr rs[k])).length ((nmL us (Qr rs[k])).map Value.string)/\qw N w w':=by
  intro k hk v0 vb wr us vn hv hso qrq hul fa fn fc ga gn gc hf hg;subst hf hg;have hsz:=hso.size;have hbl:Below wr.heap.size wr ((wr.alloc (.cells #[.string (rs[k]).head.rel,.slice fa fn fc,.slice ga gn gc] 136)).alloc (.cells #[.string (rs[k]).head.rel,.slice fa fn fc,.slice ga gn gc] 136)):=((Below.refl _ wr).alloc zl _).alloc (by simp) _;have hrk:qf w wr:=λj cc t ht hc=>(hso.block j (zg hc).1 (.inr (λc' fz e=>by rw[hc] at e;rcases ht with rfl | rfl | rfl <;> cases e))).trans hc;refine (qk7 rs[k] _ _ vn us N b45 b87 (wr.heap.size+1) _ (hok _ (List.getElem_mem hk)) ((hv.rk hrk).rk (qf.ofBelow hbl)) ?_ (qk qrq hbl) (by simp;omega) (by omega)).mono ?_
  ·have:=World.alloc_heap_new (wr.alloc (.cells #[.string (rs[k]).head.rel,.slice fa fn fc,.slice ga gn gc] 136)) (.cells #[.string (rs[k]).head.rel,.slice fa fn fc,.slice ga gn gc] 136);rw[World.size_alloc] at this;exact this
  ·rintro e w' ⟨v',h1,h2,h3⟩;exact⟨v',h1,h2,(hso.trans (qw.ofBelow hbl)).trans h3⟩
 have HC:Hid _:=Ql;have HR:Hid _:=qs2;clear Ql qs2 hR hok Q4;go_enter Tryz.func103,Tryz.ntmps103;go_wp2
 go_loopw [3,8] (λvn i wr=>∃(k:Nat) (us:List ByteArray),k<=rs.length/\i=.int .i64 k/\us.length<=8/\wr.ownsRow N 9 1 vn us.length (us.map Value.string)/\Hid (qa3 us k (rs.drop k)=qa3 [] 0 rs)/\qw N w wr) (λ_ i _=>rs.length - (intOf i).toNat)
 case atStart=>exact⟨0,[],Nat.zero_le _,rfl,by simp,World.ownsRow_nil _ _ _ _,rfl,qw.refl _ _⟩
 case round=>
  obtain⟨k,us,hk,rfl,hul,Q4,Q5,hso⟩:=hrel;by_cases hlt:k < rs.length
  ·obtain⟨g,v0,vb,rfl,q0,q1,q2,hv,hg⟩:=HC.out k hlt;have hbN:Below N w wr:=ql3 hso (by omega);have q0':=(hbN.cell (p:=⟨g,k*3,none⟩) (by rw[<- hN];exact hg)).trans q0;have q1':=(hbN.cell (p:=⟨g,k*3+1,none⟩) (by rw[<- hN];exact hg)).trans q1;have q2':=(hbN.cell (p:=⟨g,k*3+2,none⟩) (by rw[<- hN];exact hg)).trans q2;obtain⟨fa,fc,hsf⟩:=hv.1.form;obtain⟨ga,gc,htf⟩:=hv.2.form;have qbb:=HR.out k hlt v0 vb wr us _ hv hso Q4 hul _ _ _ _ _ _ hsf htf;rw[hsf] at q1';rw[htf] at q2'
   have qj6:Hid (qa3 us k (rs.drop k)=if 8 < (nmL us (Qr rs[k])).length then (k:Int) else qa3 (nmL us (Qr rs[k])) (k+1) (rs.drop (k+1))):=by
    show _=_;rw[List.drop_eq_getElem_cons hlt,qq1];rfl
   have HCL:Hid _:=qbb;have i1:(k:Int) < (rs.length:Int):=by omega
   obtain⟨na,nc,rfl⟩:=qn Q4;have HN:Hid (w.heap.size=N):=hN;clear qbb q0 q1 q2 hv hsf htf Q4 hbN hso hN;generalize (rs[k]).head.rel=rel at *;generalize (rs[k]).head.args.length=m1 at *;generalize (rs[k]).body.length=m2 at *;generalize nmL us (Qr rs[k])=us' at *;by_cases hbig:8 < us'.length
   ·have hd:(8:Int) < (us'.length:Int):=by omega
    have qbr:Hid (qa3 [] 0 rs=k):=by show _=_;rw[<- Q5.out,qj6.out,if_pos hbig]
    go_wp2_with (first | (go_at_call 77;refine (qmw _ _ _ _ rfl _).mono ?_;rintro e w' ⟨rfl,rfl⟩) | (go_at_call 76;refine Calls.mono HCL.out ?_;rintro e w1 ⟨v1,rfl,hrow1,hso1⟩;obtain⟨na1,nc1,rfl⟩:=qn hrow1))
    go_ret;exact⟨qe9 qbr.out.symm,by rw[HN.out];exact ql3 hso1 (Nat.le_of_eq HN.out.symm)⟩
   ·have hd:¬(8:Int) < (us'.length:Int):=by omega
    have qbr:Hid (qa3 us' (k+1) (rs.drop (k+1))=qa3 [] 0 rs):=by show _=_;rw[<- Q5.out,qj6.out,if_neg hbig]
    go_wp2_with (first | (go_at_call 77;refine (qmw _ _ _ _ rfl _).mono ?_;rintro e w' ⟨rfl,rfl⟩) | (go_at_call 76;refine Calls.mono HCL.out ?_;rintro e w1 ⟨v1,rfl,hrow1,hso1⟩;obtain⟨na1,nc1,rfl⟩:=qn hrow1))
    refine⟨⟨k+1,us',by omega,by go_num,by omega,hrow1,qbr.out,hso1⟩,by simp[intOf];omega⟩
  ·have qbr:Hid (qa3 [] 0 rs=-1):=by show _=_;rw[<- Q5.out,List.drop_of_length_le (by omega)];rfl
   go_wp2;go_ret;exact⟨qe9 qbr.out.symm,by rw[hN];exact ql3 hso (by omega)⟩
attribute [local go_sem] Oper.semAt_some
theorem qtl(l m:List Am):∀(seen s:List Am),qdp seen l=some s->qdp seen (l++m)=qdp s m:=by
 induction l with
 | nil=>intro seen s h;simp[qdp] at h;rw[h];rfl
 | cons a l ih=>
  intro seen s h;simp only[List.cons_append,qdp] at h ⊢;split at h
  ·rename_i h0;rw[if_pos h0];exact ih _ _ h
  ·cases h
theorem qx8(l m:List Am):∀(seen:List Am),qdp seen l=none->qdp seen (l++m)=none:=by
 induction l with
 | nil=>intro seen h;simp[qdp] at h
 | cons a l ih=>
  intro seen h;simp only[List.cons_append,qdp] at h ⊢;split at h
  ·rename_i h0;rw[if_pos h0];exact ih _ h
  ·rename_i h0;rw[if_neg h0]
structure qm7(D:DataW Unit)(seen:List Am):Prop where
 isMap:Maps.IsMap D
 has:∀l,Maps.has D (.string l)=(qct seen l).isSome
 at':∀l n,qct seen l=some n->∀z,D.atKey (.string l) z=.lit (.int .i64 n)
theorem qm7.empty:qm7 (.map []) []:=⟨Maps.isMap_empty,λ_=>rfl,λl n h=>by simp[qct] at h⟩
theorem qq7(seen:List Am)(a:Am)(l:List UInt8):qct (seen++[a]) l=(qct seen l).or (if a.rel.data.toList == l then some a.args.length else none):=by
 unfold qct;rw[List.find?_append]
 cases seen.find? (λa=>a.rel.data.toList == l) with
 | some b=>simp
 | none=>
  simp only[Option.none_or,List.find?_cons,List.find?_nil,Option.map_none];split <;> simp_all
theorem qm7.put(h:qm7 D seen)(a:Am)(hf:qg4 seen a=true):qm7 (D.put (.string a.rel.data.toList) (.lit (.int .i64 a.args.length))) (seen++[a]):=by
 have hk:WideAt.IsKeyLit (.string a.rel.data.toList):=trivial;refine⟨h.isMap.put _ _,λl=>?_,λl n hn z=>?_⟩
 ·rw[qq7];by_cases e:l=a.rel.data.toList
  ·subst e;rw[Maps.has_put_same h.isMap hk]
   cases qct seen a.rel.data.toList <;> simp
  ·rw[Maps.has_put_other (by intro h';injection h' with h';exact e h'),h.has];have:(a.rel.data.toList == l)=false:=by simp;exact λh=>e h.symm
   rw[this];simp
 ·rw[qq7] at hn;by_cases e:l=a.rel.data.toList
  ·subst e;rw[Maps.atKey_put_same h.isMap hk];unfold qg4 at hf
   cases hc:qct seen a.rel.data.toList with
   | some m=>
    rw[hc] at hf hn;simp at hf hn;rw[<- hn,hf]
   | none=>
    rw[hc] at hn;simp at hn;rw[hn]
  ·rw[Maps.atKey_put_other (by intro h';injection h' with h';exact e h')];have:(a.rel.data.toList == l)=false:=by simp;exact λh=>e h.symm
   rw[this] at hn;simp at hn;exact h.at' l n hn z
theorem qv6(n:Nat)(h:n<=2):(Lit.int .i64 (n:Int)).wf=true:=by
 match n,h with
 | 0,_=>rfl
 | 1,_=>rfl
 | 2,_=>rfl
structure qsb(w:Wq)(N m:Nat)(ds:List Nat)(seen:List Am)(D:DataW Unit)(W:Wq):Prop where
 map:W.ownsMap Tryz.prog 9 (plainElem Tryz.prog 3) (N+1) m D
 set:qm7 D seen
 res:Boxed W N 3 (.int .i64 0)
 box:Boxed W (N+2) 285 (.map (some (N+1)))
 nodup:ds.Nodup
 shut:∀d∈ds,W.heap[d]?=some (.deferred (some []))
 above:∀d∈ds,N+2 < d
 rk:qf w W
 below:Below N w W
theorem qsb.grown{w W':Wq}{row:Option Nat}(h:qsb w N m ds seen D W)(hN:w.heap.size=N)(hg:W.grownBy W' row)(hr:∀r,row=some r->N+2 < r/\r∉ds/\∃o:Obj,W.heap[r]?=some o/\o.isCells=false):qsb w N m ds seen D W':=by
 have hk:=qj hg (λr e=>(hr r e).2.2);refine⟨h.map.kept hg (λe=>by have:=(hr (N+1) e.symm).1;omega),h.set,hk _ _ _ _ h.res,hk _ _ _ _ h.box,h.nodup,λd hd=>?_,h.above,h.rk.trans (λk c t _ hc=>hk k c t _ hc),h.below.grown hg (qa6 h.below hN) (λk e=>by have:=(hr k e).1;omega)⟩;have hd':=h.shut d hd;exact (hg.block d (zg hd').1 (λe=>(hr d e.symm).2.1 hd)).trans hd'
theorem qsb.lt{w:Wq}(h:qsb w N m ds seen D W):∀d∈ds,d < W.heap.size:=λd hd=>(zg (h.shut d hd)).1
theorem qqq(v:Vq)(rs:List Rl)(base b45 b87:Nat)(w:Wq)(hR:Qa w base b45 b87 v rs)(Q4:∀g,v.ownBlock=some g->g < w.heap.size)(h8:rs.length<=8)(hok:∀r∈rs,qcd r) :
  Calls Tryz.prog 100 #[v] w λe w'=>e=.returned (.int .i64 (qah [] 0 rs))/\Below w.heap.size w w':=by
 obtain⟨a,c,qbd⟩:=hR.form
 have Ql:∀k (hk:k < rs.length),∃g v0 vb,a=some ⟨g,0,none⟩/\w.cell? ⟨g,k*3,none⟩=some (.string (rs[k]).head.rel)/\w.cell? ⟨g,k*3+1,none⟩=some v0/\w.cell? ⟨g,k*3+2,none⟩=some vb/\qez w b45 b87 rs[k] v0 vb/\g < w.heap.size:=by
  intro k hk;obtain⟨g,c',v0,vb,h1,h2,h3,h4,h5⟩:=qc1 hR hk;have hg:=Q4 g (by rw[h1];rfl);rw[qbd] at h1;cases h1;exact⟨g,v0,vb,rfl,h2,h3,h4,h5,hg⟩
 subst qbd;have HC:Hid _:=Ql;have HOK:Hid _:=hok;clear Ql hR hok Q4;have hmm:=@run_makeMap Tryz.prog;obtain⟨N,hN⟩:∃N,w.heap.size=N:=⟨_,rfl⟩;refine (callsIn_wide (n:=9)).1 ?_;refine callsIn_of_wp_marks Tryz.func100 rfl trivial ?_ rfl;simp only[Tryz.ntmps100,List.size_toArray,List.length_cons,List.length_nil,Nat.reduceAdd,Nat.reduceSub,Array.replicate_succ,Array.replicate_zero,List.push_toArray,List.append_toArray,List.nil_append,List.cons_append]
 gi_wp2
 have hI0:qsb w N 0 [] [] (.map []) (((w.alloc (.cells #[.int .i64 0] 3)).alloc (.map #[] 0)).alloc (.cells #[.map (some (N+1))] 285)):=by
  have hb:Below w.heap.size w (((w.alloc (.cells #[.int .i64 0] 3)).alloc (.map #[] 0)).alloc (.cells #[.map (some (N+1))] 285)):=(((Below.refl _ w).alloc zl _).alloc (by simp) _).alloc (by simp;omega) _;have hm:=World.ownsMap_made (w.alloc (.cells #[.int .i64 0] 3)) Tryz.prog 9 (plainElem (H:=Unit) Tryz.prog 3);have hb0:=((Boxed.new w 3 (.int .i64 0)).alloc (.map #[] 0)).alloc (.cells #[.map (some (N+1))] 285);rw[World.size_alloc] at hm;rw[hN] at hm hb hb0;refine⟨hm.kept (World.grownBy_alloc _ _ none) (by simp),qm7.empty,hb0,?_,List.nodup_nil,by simp,by simp,qf.ofBelow (by rw[hN];exact hb),hb⟩;have:=Boxed.new ((w.alloc (.cells #[.int .i64 0] 3)).alloc (.map #[] 0)) 285 (.map (some (N+1)));rw[World.size_alloc,World.size_alloc,hN] at this;exact this
 refine wpIn_loop (λA W=>∃(k:Nat) (ds:List Nat) (seen:List Am) (D:DataW Unit) (u4 u5 u13 u14 u15 u16 u17 u18 u42:Vq),A={tmps:=#[.slice a rs.length c,undef,.pointer (some ⟨N,0,none⟩),.pointer (some ⟨N+1+1,0,none⟩),u4,u5,undef,undef,undef,.map (some (N+1)),.slice a rs.length c,.int .i64 rs.length,.int .i64 k,u13,u14,u15,u16,u17,u18,undef,undef,undef,undef,undef,undef,undef,undef,undef,undef,undef,undef,undef,undef,undef,undef,undef,undef,undef,undef,undef,undef,undef,u42],defers:=qes ds}/\k<=rs.length/\qsb w N (k*4) ds seen D W/\Hid (qah seen k (rs.drop k)=qah [] 0 rs)) (λA _=>rs.length - (intOf (A.tmps.getD 12 undef)).toNat) ⟨0,[],[],.map [],_,_,_,_,_,_,_,_,_,rfl,Nat.zero_le _,hI0,rfl⟩ ?_;rintro A W ⟨k,ds,seen,D,u4,u5,u13,u14,u15,u16,u17,u18,u42,rfl,hk,hI,Q5⟩;clear hI0 hmm;by_cases hlt:k < rs.length
 ·obtain⟨g,v0,vb,rfl,q0,q1,q2,hv,hg⟩:=HC.out k hlt;have hg':g < N:=by omega
  have q0':=(hI.below.cell (p:=⟨g,k*3,none⟩) hg').trans q0;have q1':=(hI.below.cell (p:=⟨g,k*3+1,none⟩) hg').trans q1;have q2':=(hI.below.cell (p:=⟨g,k*3+2,none⟩) hg').trans q2;have hvW:=hv.rk hI.rk;have q3l:=HOK.out _ (List.getElem_mem hlt)
  have qj6:Hid (qah seen k (rs.drop k)=match qdp seen ((rs[k]).head::(rs[k]).body) with | none=>(k:Int) | some s=>qah s (k+1) (rs.drop (k+1))):=by
   show _=_;rw[List.drop_eq_getElem_cons hlt];rfl
  obtain⟨x0,L,la,cap,hx0,hL,rfl,hL3,qu1⟩:=qp2 hvW q3l;have q25:(rs[k]).head::(rs[k]).body=(x0::L).map (·.1.1):=by rw[List.map_cons,hL,hx0]
  have hr0:(rs[k]).head.rel=x0.1.1.rel:=by rw[hx0]
  have hv0:v0=x0.1.2:=by rw[hx0]
  obtain⟨fa,fc,hf⟩:=x0.2.1.form;rw[hr0] at q0';rw[hv0,hf] at q1';rw[q25] at qj6;clear q25 hr0 hv0 hx0 hL hvW q3l hv q0 q1 q2;have i1:(k:Int) < (rs.length:Int):=by omega
  gi_wp2_with (refine⟨trivial,?_⟩;gi_at_call 98;refine (callsIn_wide.2 (qkt _ _ _ _ rfl rfl rfl rfl _)).mono ?_;rintro e w' ⟨rfl,rfl⟩)
  obtain⟨M,hM⟩:∃M,W.heap.size=M:=⟨_,rfl⟩;obtain⟨W0,hW0⟩:∃W0,((W.alloc (.cells #[.int .i64 k] 3)).alloc (.cells #[.string x0.1.1.rel,.slice fa x0.1.1.args.length fc,.slice la L.length cap] 136)).alloc (.cells #[.string x0.1.1.rel,.slice fa x0.1.1.args.length fc,.slice la L.length cap] 136)=W0:=⟨_,rfl⟩;have hb0:Below W.heap.size W W0:=by rw[<- hW0];exact (((Below.refl _ W).alloc zl _).alloc (by simp) _).alloc (by simp;omega) _
  have hs0:W0.heap.size=M+3:=by rw[<- hW0,<- hM];simp
  have bK:Boxed W0 M 3 (.int .i64 k):=by
   rw[<- hW0,<- hM];exact ((Boxed.new W _ _).alloc _).alloc _
  have bR:W0.heap[M+1+1]?=some (Obj.cells #[.string x0.1.1.rel,x0.1.2,.slice la L.length cap] 136):=by
   rw[<- hW0,hf];have:=World.alloc_heap_new ((W.alloc (.cells #[.int .i64 k] 3)).alloc (.cells #[.string x0.1.1.rel,.slice fa x0.1.1.args.length fc,.slice la L.length cap] 136)) (.cells #[.string x0.1.1.rel,.slice fa x0.1.1.args.length fc,.slice la L.length cap] 136);rw[World.size_alloc,World.size_alloc,hM] at this;exact this
  have qpa:L≠[]->∃(g off:Nat) (cur:Array Vq),la=some ⟨g,off,none⟩/\W0.heap[g]?=some (Obj.cells cur 92)/\(cur.toList.drop off).take (L.length*2)=L.flatMap λx=>[.string x.1.1.rel,x.1.2]:=λhne=>by
   obtain⟨g,off,cur,h1,h2,h3⟩:=qu1 hne;exact⟨g,off,cur,h1,qf.ofBelow hb0 _ _ _ (.inr (.inl rfl)) h2,h3⟩
  have hI0:=hI.grown hN (qh hb0) (λr e=>by cases e);have qs1:=hI.lt;have hMN:N+2 < M:=by have:=hI.box.lt;omega
  simp only[hM];rw[hW0];clear hW0 qu1
  refine qhd (n:=9) (gf:=163) (lb:=#[.pointer (some ⟨M+1+1,0,none⟩)]) rfl (enters_of Tryz.func163 (by kernel_rfl) rfl)
   (qse.ofStops (qij 8 (by decide) (M+1+1) W b87 x0 L (by omega) la cap W0 bR qpa)) qf.trans (λV o o' ho hc=>qf.put V _ o o' ho hc) (λ_=>rfl)
   (λpre V=>∃s D',qdp seen (pre.map (·.1.1))=some s/\qsb w N (k*4+pre.length) ds s D' V/\Boxed V M 3 (.int .i64 k))
   (λc pre V=>c=.ret/\qdp seen (pre.map (·.1.1))=none/\Boxed V N 3 (.int .i64 k)/\(∀d∈ds,V.heap[d]?=some (.deferred (some [])))/\Below N w V)
   ?hI ?hIx ⟨seen,D,rfl,hI0,bK⟩
   (λx a' V=>∃Bx,V.heap[Bx]?=some (Obj.cells #[.string x.1.1.rel,x.1.2] 92)/\a'={tmps:=#[.slice (some ⟨g,0,none⟩) rs.length c,undef,.pointer (some ⟨N,0,none⟩),.pointer (some ⟨N+1+1,0,none⟩),.pointer (some ⟨M,0,none⟩),.pointer (some ⟨M+1,0,none⟩),.pointer (some ⟨Bx,0,none⟩),undef,undef,.map (some (N+1)),.slice (some ⟨g,0,none⟩) rs.length c,.int .i64 rs.length,.int .i64 k,.bool true,.int .i64 k,.pointer (some ⟨g,k*3,none⟩),.agg #[.string x0.1.1.rel,.slice fa x0.1.1.args.length fc,.slice la L.length cap],.agg #[.string x0.1.1.rel,.slice fa x0.1.1.args.length fc,.slice la L.length cap],.func (.func 163) #[] #[.pointer (some ⟨M+1+1,0,none⟩)],.agg #[.string x.1.1.rel,x.1.2],undef,undef,undef,undef,undef,undef,undef,undef,undef,undef,undef,undef,undef,undef,undef,undef,undef,undef,undef,undef,undef,undef,u42],defers:=[]})
   ?hAx ?assign ?body ?done ?stop
  case hI=>
   rintro pre V V' row ⟨s,D',h0,h1,h2⟩ hg hr;refine⟨s,D',h0,h1.grown hN hg (λr e=>⟨by have:=(hr r e).1;omega,λhd=>?_,(hr r e).2⟩),qj hg (λr e=>(hr r e).2) _ _ _ _ h2⟩;have:=qs1 r hd;have:=(hr r e).1;omega
  case hIx=>
   rintro c pre V V' row ⟨rfl,h0,h1,h2,h3⟩ hg hr;refine⟨rfl,h0,qj hg (λr e=>(hr r e).2) _ _ _ _ h1,λd hd=>?_,h3.grown hg (qa6 h3 hN) (λk e=>by have:=(hr k e).1;omega)⟩;have hd':=h2 d hd;exact (hg.block d (zg hd').1 (λe=>by have:=qs1 d hd;have:=(hr d e.symm).1;omega)).trans hd'
  case hAx=>
   rintro x a' _ V V' row ⟨Bx,h2,h3⟩ hg hr;exact⟨Bx,qj hg (λr e=>(hr r e).2) _ _ _ _ h2,h3⟩
  case assign=>
   rintro l' pre x V K hl hlr ⟨s,D',h0,h1,h2⟩ hK;have HK:Hid _:=hK;clear hK;obtain⟨ga,gc,hgx⟩:=x.2.1.form;simp only[hgx]
   gi_wp2
   have hbl:Below V.heap.size V (V.alloc (.cells #[.string x.1.1.rel,.slice ga x.1.1.args.length gc] 92)):=(Below.refl _ V).alloc zl _;exact HK.out _ _ (KeepsFrom.ofBelow hbl) (qf.ofBelow hbl) ⟨s,D',h0,h1.grown hN (qh hbl) (λr e=>by cases e),h2.alloc _⟩ ⟨V.heap.size,by rw[hgx];exact World.alloc_heap_new V _,by rw[hgx]⟩
  case body=>
   rintro l' pre x a' V hl' ⟨r,hr⟩ ⟨s,D',hsc,h1,h2⟩ ⟨Bx,hbx,rfl⟩ hlt';obtain⟨ga,gc,hgx⟩:=x.2.1.form;have hx2:=x.2.2.args;have c0:V.cell? ⟨Bx,0,none⟩=some (.string x.1.1.rel):=by simp[World.cell?,hbx]
   have c1:V.cell? ⟨Bx,1,none⟩=some (.slice ga x.1.1.args.length gc):=by simp[World.cell?,hbx,hgx]
   have cV:=h1.box.cell;have cK:=h2.cell;have cN:=h1.res.cell;have fN:=h1.res.frozen;have qlm:=WideMaps.keyOf_string_mk (P:=Tryz.prog) Tryz.underlying9 (s:=x.1.1.rel) (by have:=x.2.2.rel;unfold maxLen;omega);have hm8:k*4+pre.length < maxLen:=by unfold maxLen;simp at hlt';omega
   have qll:=h1.set.has x.1.1.rel.data.toList;have q89:=h1.set.at' x.1.1.rel.data.toList
   have q79:Hid (∀b,qg4 s x.1.1=b->qdp seen ((pre++[x]).map (·.1.1))=if b=true then some (s++[x.1.1]) else none):=by
    intro b hb;rw[List.map_append,qtl _ _ _ _ hsc];simp only[List.map_cons,List.map_nil,qdp,hb]
   have qd1:Hid (qg4 s x.1.1=true->qm7 (D'.put (.string x.1.1.rel.data.toList) (.lit (.int .i64 x.1.1.args.length))) (s++[x.1.1])):=λhf=>h1.set.put x.1.1 hf;have qlk:Hid (qg4 s x.1.1=match qct s x.1.1.rel.data.toList with | some n=>n == x.1.1.args.length | none=>true):=rfl;have HSC:Hid _:=hsc;clear hsc hgx
   have upd:∀w1,qg4 s x.1.1=true->w1.ownsMap Tryz.prog 9 (plainElem Tryz.prog 3) (N+1) (k*4+pre.length+1) (D'.put (.string x.1.1.rel.data.toList) (.lit (.int .i64 x.1.1.args.length)))->V.grownBy w1 (some (N+1))->
     KeepsFrom W0.heap.size V w1/\qf V w1/\∃s2 D2,qdp seen ((pre++[x]).map (·.1.1))=some s2/\qsb w N (k*4+(pre++[x]).length) ds s2 D2 w1/\Boxed w1 M 3 (.int .i64 k):=by
    intro w1 hf hown1 hgrow1;obtain⟨es,clock,hbm,_⟩:=h1.map;have hkc:=qj hgrow1 (λr e=>by cases e;exact⟨_,hbm,rfl⟩);refine⟨KeepsFrom.of_grownBy hgrow1 (λj e=>by cases e;omega),λk c t _ hc=>hkc k c t _ hc,s++[x.1.1],_,by rw[q79.out _ hf];rfl,⟨by simpa [Nat.add_assoc] using hown1,qd1.out hf,hkc _ _ _ _ h1.res,hkc _ _ _ _ h1.box,h1.nodup,λd hd=>?_,h1.above,h1.rk.trans (λk c t _ hc=>hkc k c t _ hc),h1.below.grown hgrow1 (qa6 h1.below hN) (λj e=>by cases e;omega)⟩,hkc _ _ _ _ h2⟩;have hd':=h1.shut d hd;exact (hgrow1.block d (zg hd').1 (by have:=h1.above d hd;simp;omega)).trans hd'
   have UPD:Hid _:=upd;clear upd
   cases har:qct s x.1.1.rel.data.toList with
   | none=>
    rw[har] at qll qlk;clear q89 har
    gi_wp2_with (first | (gi_at_lookup;refine wpListIn_lookup_own_ok_int _ rfl _ _ 285 rfl 9 3 .i64 (Maps.string_keyed Tryz.underlying9) Tryz.underlying285 Tryz.underlying3 (Tryz.zeroValue3 _) (N+1) (k*4+pre.length) _ rfl h1.map _ _ rfl qlm ?_;intro c hat hwc) | (gi_at_mapUpdate;refine wpListIn_mapUpdate_own _ rfl _ _ _ 285 rfl 9 3 (Maps.string_keyed Tryz.underlying9) Tryz.underlying285 _ (N+1) (k*4+pre.length) _ rfl h1.map hm8 _ _ _ rfl rfl qlm (.lit (.int .i64 x.1.1.args.length)) [] (plainElem_int Tryz.underlying3 (qv6 _ hx2)) ?_;intro w1 hown1 hgrow1))
    obtain⟨k1,k2,s2,D2,e1,e2,e3⟩:=UPD.out w1 qlk.out hown1 hgrow1;exact⟨by rw[<- hs0];exact k1,k2,s2,e1,⟨D2,e2⟩,e3⟩
   | some m=>
    have hnc:Hid (∀c:Int,D'.atKey (.string x.1.1.rel.data.toList) (.lit (.int .i64 0))=.lit (.int .i64 c)->c=m):=by
     intro c hc;rw[q89 m har] at hc;simp at hc;exact hc.symm
    rw[har] at qll qlk;clear q89 har;by_cases hml:m=x.1.1.args.length
    ·have hmm:((m:Int) != (x.1.1.args.length:Int))=false:=by simp[hml]
     have hft:qg4 s x.1.1=true:=by rw[qlk.out];simp[hml]
     have HFT:Hid _:=hft;clear hft hml
     gi_wp2_with (first | (gi_at_lookup;refine wpListIn_lookup_own_ok_int _ rfl _ _ 285 rfl 9 3 .i64 (Maps.string_keyed Tryz.underlying9) Tryz.underlying285 Tryz.underlying3 (Tryz.zeroValue3 _) (N+1) (k*4+pre.length) _ rfl h1.map _ _ rfl qlm ?_;intro c hat hwc;have hcn:=hnc.out c hat;clear hat hwc) | (gi_at_mapUpdate;refine wpListIn_mapUpdate_own _ rfl _ _ _ 285 rfl 9 3 (Maps.string_keyed Tryz.underlying9) Tryz.underlying285 _ (N+1) (k*4+pre.length) _ rfl h1.map hm8 _ _ _ rfl rfl qlm (.lit (.int .i64 x.1.1.args.length)) [] (plainElem_int Tryz.underlying3 (qv6 _ hx2)) ?_;intro w1 hown1 hgrow1))
     obtain⟨k1,k2,s2,D2,e1,e2,e3⟩:=UPD.out w1 HFT.out hown1 hgrow1;exact⟨by rw[<- hs0];exact k1,k2,s2,e1,⟨D2,e2⟩,e3⟩
    ·have hmm:((m:Int) != (x.1.1.args.length:Int))=true:=by simp;omega
     have hft:qg4 s x.1.1=false:=by rw[qlk.out];simp[hml]
     have HFT:Hid _:=hft;have HML:Hid _:=hml;clear hft hml
     gi_wp2_with (gi_at_lookup;refine wpListIn_lookup_own_ok_int _ rfl _ _ 285 rfl 9 3 .i64 (Maps.string_keyed Tryz.underlying9) Tryz.underlying285 Tryz.underlying3 (Tryz.zeroValue3 _) (N+1) (k*4+pre.length) _ rfl h1.map _ _ rfl qlm ?_;intro c hat hwc;have hcn:=hnc.out c hat;clear hat hwc)
     exact⟨(KeepsOthers.setCell _ _ _).from _,rfl,by rw[q79.out _ HFT.out];rfl,qbv h1.res _,λd hd=>(Below.heap_setCell _ _ _ d (by have:=h1.above d hd;simp;omega)).trans (h1.shut d hd),h1.below.setCell (p:=⟨N,0,none⟩) zl _⟩
  case done=>
   rintro D0 xs V hD rfl ⟨s,D',hsc,h1,h2⟩ hK;have hD':D0∉ds:=λhd=>by have:=qs1 D0 hd;omega
   have hdd:(D0::ds).Nodup:=List.nodup_cons.2 ⟨hD',h1.nodup⟩
   have hsh:∀d∈D0::ds,V.heap[d]?=some (.deferred (some [])):=λd hd=>by
    rcases List.mem_cons.1 hd with rfl | hd
    ·exact hK
    ·exact h1.shut d hd
   have hab:∀d∈D0::ds,N+2 < d:=λd hd=>by
    rcases List.mem_cons.1 hd with rfl | hd
    ·omega
    ·exact h1.above d hd
   have qo7:Hid (qah s (k+1) (rs.drop (k+1))=qah [] 0 rs):=by show _=_;rw[<- Q5.out,qj6.out,hsc]
   clear hsc
   gi_wp2
   refine⟨⟨k+1,D0::ds,s,D',_,_,_,_,_,_,_,_,_,rfl,by omega,?_,qo7⟩,?_⟩
   ·exact {h1 with map:=h1.map.mono (by simp;omega),nodup:=hdd,shut:=hsh,above:=hab}
   ·simp[intOf];omega
  case stop=>
   rintro D0 c' pre V hD hp ⟨rfl,hsc,h2,h3,h4⟩ hK;have hD':D0∉ds:=λhd=>by have:=qs1 D0 hd;omega
   have hdd:(D0::ds).Nodup:=List.nodup_cons.2 ⟨hD',hI.nodup⟩
   have hsh:∀d∈D0::ds,V.heap[d]?=some (.deferred (some [])):=λd hd=>by
    rcases List.mem_cons.1 hd with rfl | hd
    ·exact hK
    ·exact h3 d hd
   have hab:∀d∈D0::ds,N+2 < d:=λd hd=>by
    rcases List.mem_cons.1 hd with rfl | hd
    ·omega
    ·exact hI.above d hd
   have qbr:Hid (qah [] 0 rs=(k:Int)):=by
    show _=_;obtain⟨tl,htl⟩:=hp;rw[<- Q5.out,qj6.out,<- htl,List.map_append,qx8 _ _ _ hsc]
   clear hsc
   gi_wp2
   show LeavesInM Fence.wide 9 Tryz.prog _ _ _ (qes (D0::ds)) .returning V;refine qek (D0::ds) V hdd hsh (λW' hc hs=>?_);have dN:W'.cell? ⟨N,0,none⟩=some (.int .i64 k):=Boxed.cell (t:=3) ((hc.block N h2.lt (λhd=>by have:=hab N hd;omega)).trans h2);refine⟨.int .i64 k,by simp[results,Tryz.results100,go_sem,dN],by rw[qbr.out],?_⟩;rw[hN];exact h4.trans (hc.below (qa6 h4 hN) (λd hd=>by have:=hab d hd;omega))
 ·have cN:=hI.res.cell;have fN:=hI.res.frozen
  gi_wp2
  show LeavesInM Fence.wide 9 Tryz.prog _ _ _ (qes ds) .returning (W.setCell ⟨N,0,none⟩ (.int .i64 (-1)));have hsh:∀d∈ds,(W.setCell ⟨N,0,none⟩ (.int .i64 (-1))).heap[d]?=some (.deferred (some [])):=λd hd=>(Below.heap_setCell _ _ _ d (by have:=hI.above d hd;simp;omega)).trans (hI.shut d hd);refine qek ds _ hI.nodup hsh (λW' hc hs=>?_);have hbx:=qbv hI.res (.int .i64 (-1));have dN:W'.cell? ⟨N,0,none⟩=some (.int .i64 (-1)):=Boxed.cell (t:=3) ((hc.block N hbx.lt (λhd=>by have:=hI.above N hd;omega)).trans hbx);have qbr:qah [] 0 rs=-1:=by rw[<- Q5.out,List.drop_of_length_le (by omega)];rfl
  have hbl:=hI.below.setCell (p:=⟨N,0,none⟩) zl (.int .i64 (-1));refine⟨.int .i64 (-1),by simp[results,Tryz.results100,go_sem,dN],by rw[qbr],?_⟩;rw[hN];exact hbl.trans (hc.below (qa6 hbl hN) (λd hd=>by have:=hI.above d hd;omega))
