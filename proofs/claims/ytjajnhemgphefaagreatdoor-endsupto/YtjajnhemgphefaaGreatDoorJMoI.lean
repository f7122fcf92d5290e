/- Package model: the iterator over the names with which a -/
import Derived.Test.YtjajnhemgphefaaGreatDoorJEgI
set_option linter.unusedVariables false
set_option linter.unusedSimpArgs false
set_option maxRecDepth 100000
set_option maxHeartbeats 16000000
namespace Go.Proofs.YtjajnhemgphefaaGreatDoor
open Go renaming World->Wq,Value->Vq
open Go.RowKit Go.Shelf Go.Maps
attribute [local go_sem] Oper.semAt_some
variable {M:Gd->Option Int} {L:List Am} {g:Gd} {m B b45 b87 N:Nat} {W W':Wq} {ds:List Nat}
theorem q5j(B:Nat)(rel:ByteArray)(va vb:Vq)(g:Gd)(w:Wq)(ta:Option Addr)(tn tc:Nat)(hva:va=.slice ta tn tc)(sa:Option Addr)(sn sc:Nat)(hvb:vb=.slice sa sn sc) :
  Calls Tryz.prog 190 #[.map (some B),.agg #[.string rel,va,vb],g.v] w λe w'=>e=.returned (.func (.func 229) #[] #[.pointer (some ⟨w.heap.size+1,0,none⟩),.pointer (some ⟨w.heap.size+2,0,none⟩),.pointer (some ⟨w.heap.size,0,none⟩)])/\
   w'=((w.alloc (.cells #[.map (some B)] 98)).alloc (.cells #[.string rel,va,vb] 136)).alloc (.cells g.c 111):=by
 subst hva hvb;unfold Gd.v Gd.c;go_enter Tryz.func190,Tryz.ntmps190;go_wp2;go_ret;exact⟨rfl,rfl⟩
def qns(M:Gd->Option Int)(L:List Am)(g:Gd)(p:Nms):Prop:=
 ∃i,∃h:i < L.length,(L[i]).rel=g.rel/\∃put,qaj Qg L[i] g.x g.y=some put/\qh3 M (L.take i++L.drop (i+1)) put p
def qqh(M:Gd->Option Int)(L:List Am)(g:Gd)(k:Nat)(p:Nms):Prop:=
 ∃i,∃h:i < L.length,i < k/\(L[i]).rel=g.rel/\∃put,qaj Qg L[i] g.x g.y=some put/\qh3 M (L.take i++L.drop (i+1)) put p
theorem q1t(M:Gd->Option Int)(L:List Am)(g:Gd)(p:Nms):qqh M L g L.length p↔qns M L g p:=
 ⟨λ⟨i,h,_,h2⟩=>⟨i,h,h2⟩,λ⟨i,h,h2⟩=>⟨i,h,h,h2⟩⟩
theorem qqi{k:Nat}{p:Nms}(hk:k < L.length):qqh M L g (k+1) p↔qqh M L g k p\/((L[k]).rel=g.rel/\∃put,qaj Qg L[k] g.x g.y=some put/\qh3 M (L.take k++L.drop (k+1)) put p):=by
 constructor
 ·rintro⟨i,h,hi,h2⟩;by_cases e:i=k
  ·subst e;exact .inr h2
  ·exact .inl ⟨i,h,by omega,h2⟩
 ·rintro (⟨i,h,hi,h2⟩ | h2)
  ·exact⟨i,h,by omega,h2⟩
  ·exact⟨k,hk,by omega,h2⟩
structure q2a(Bm Br Bg B nn b45 b87:Nat)(M:Gd->Option Int)(rel:ByteArray)(va vb:Vq)(L:List Am)(g:Gd)(W:Wq):Prop where
 bm:W.heap[Bm]?=some (Obj.cells #[.map (some B)] 98)
 br:W.heap[Br]?=some (Obj.cells #[.string rel,va,vb] 136)
 bg:W.heap[Bg]?=some (Obj.cells g.c 111)
 atoms:qas W b45 b87 vb L
 md:qda W B nn M
theorem q2a.mk'{Bm Br Bg nn:Nat}{rel:ByteArray}{va vb:Vq}(h:q2a Bm Br Bg B nn b45 b87 M rel va vb L g W)(hk:qt m W W'):q2a Bm Br Bg B nn b45 b87 M rel va vb L g W':=
 ⟨hk.cells _ _ _ (by unfold qcj;decide) h.bm,hk.cells _ _ _ (by unfold qcj;decide) h.br,hk.cells _ _ _ (by unfold qcj;decide) h.bg,h.atoms.kept (λk c _ hc=>hk.cells k c _ (by unfold qcj;decide) hc) (λk c _ hc=>hk.cells k c _ (by unfold qcj;decide) hc),h.md.mk hk⟩
theorem qfv{n:Nat}{fn:Func}{tmps:Array Vq}{R:Ending->Wq->Prop}{X:Wq->Prop}(hX:OwnFrom B (λ_:Unit=>X)):∀(ds:List Nat) (W:Wq),ds.Nodup->(∀D∈ds,B<=D/\W.heap[D]?=some (.deferred (some [])))->X W->
  (∀W',X W'->LeavesInM Fence.wide n Tryz.prog fn tmps R [] .returning W')->LeavesInM Fence.wide n Tryz.prog fn tmps R (qes ds) .returning W
 | [],W,_,_,hx,h=>h W hx
 | D::ds,W,hn,hd,hx,h=>by
  obtain⟨hB,hD⟩:=hd D (by simp);refine⟨by simp,.inl ⟨_,_,rfl,run_takeDeferred hD,?_⟩⟩;have hg:=grownBy_putObj' W D (.deferred none);refine qfv hX ds _ (List.nodup_cons.1 hn).2 (λD' h'=>?_) (hX () _ _ (some D) hx hg (λr e=>by cases e;exact⟨hB,_,hD,rfl⟩)) h;have hne:D'≠D:=λe=>(List.nodup_cons.1 hn).1 (e ▸ h');obtain⟨hB',hD'⟩:=hd D' (by simp[h']);exact⟨hB',(hg.block D' (zg hD').1 (by simpa using hne)).trans hD'⟩
structure qdx(N:Nat)(ds:List Nat)(W:Wq):Prop where
 nodup:ds.Nodup
 at':∀d∈ds,N<=d/\W.heap[d]?=some (.deferred (some []))
theorem qdx.nil(N:Nat)(W:Wq):qdx N [] W:=⟨List.nodup_nil,by simp⟩
theorem qdx.keeps(h:qdx N ds W)(hk:KeepsFrom m W W')(hm:m<=N):qdx N ds W':=
 ⟨h.nodup,λd hd=>⟨(h.at' d hd).1,hk.same d _ (by have:=(h.at' d hd).1;omega) (h.at' d hd).2 rfl⟩⟩
theorem qdx.below(h:qdx N ds W)(hb:Below W.heap.size W W'):qdx N ds W':=h.keeps (KeepsFrom.ofBelow (m:=0) hb) (Nat.zero_le _)
theorem qdx.grown{row:Option Nat}(h:qdx N ds W)(hg:W.grownBy W' row)(hr:∀r,row=some r->B<=r)(hB:∀d∈ds,d < B):qdx N ds W':=
 ⟨h.nodup,λd hd=>⟨(h.at' d hd).1,(hg.block d (zg (h.at' d hd).2).1 (λe=>by have:=hr d e.symm;have:=hB d hd;omega)).trans (h.at' d hd).2⟩⟩
theorem qdx.lt(h:qdx N ds W):∀d∈ds,d < W.heap.size:=λd hd=>(zg (h.at' d hd).2).1
theorem qdx.cons{D:Nat}(h:qdx N ds W)(hN:N<=D)(hD:W.heap[D]?=some (.deferred (some [])))(hn:D∉ds):qdx N (D::ds) W:=
 ⟨List.nodup_cons.2 ⟨hn,h.nodup⟩,λd hd=>by
  rcases List.mem_cons.1 hd with rfl | hd
  ·exact⟨hN,hD⟩
  ·exact h.at' d hd⟩
theorem qas.ofOwns{b:Nat}{v:Vq}{ps:List (Am×Vq)}(h:W.ownsRow b 92 2 v ps.length (ps.flatMap qbc))(hs:∀p∈ps,Qd W b87 p.2 p.1.args):qas W W.heap.size b87 v (ps.map (·.1)):=by
 obtain⟨_,⟨hv,hn⟩ | ⟨g,cap,cur,hv,hb,hh,h1,h2,h3,h4⟩⟩:=h
 ·have:ps=[]:=List.eq_nil_of_length_eq_zero hn;subst this;exact⟨[],none,0,rfl,hv,⟨by simp,Nat.le_refl _⟩,λh=>absurd rfl h⟩
 ·refine⟨ps,some ⟨g,0,none⟩,cap,rfl,by rw[hv];simp,⟨hs,by simpa using h1⟩,λ_=>⟨g,0,cur,rfl,(zg hh).1,hh,by rw[List.drop_zero,<- h4];simp⟩⟩
theorem qp5(x y:ByteArray):(x.toList == y.toList)=decide (x=y):=by
 rw[qdq,qdq];by_cases h:x=y
 ·subst h;simp
 ·rw[decide_eq_false h];simp only[beq_eq_false_iff_ne,ne_eq];exact λh'=>h (qik h')
theorem qrm(ps:List (Am×Vq)):∀k,(ps.flatMap qbc).take (k*2)=(ps.take k).flatMap qbc:=by
 induction ps with
 | nil=>simp
 | cons p ps ih=>
  intro k
  cases k with
  | zero=>simp
  | succ k=>
   rw[show (k+1)*2=k*2+1+1 by omega];simp only[List.flatMap_cons,qbc,List.cons_append,List.nil_append,List.take_succ_cons];rw[ih]
theorem qrk(ps:List (Am×Vq)):∀k,(ps.flatMap qbc).drop (k*2)=(ps.drop k).flatMap qbc:=by
 induction ps with
 | nil=>simp
 | cons p ps ih=>
  intro k
  cases k with
  | zero=>simp
  | succ k=>
   rw[show (k+1)*2=k*2+1+1 by omega];simp only[List.flatMap_cons,qbc,List.cons_append,List.nil_append,List.drop_succ_cons];rw[ih]
theorem qzw{bc:Nat}{ba:Option Addr}(h:qas W b45 b87 (.slice ba L.length bc) L){k:Nat}(hk:k < L.length) :
  ∃(g off:Nat) (ps:List (Am×Vq)),ba=some ⟨g,off,none⟩/\ps.map (·.1)=L/\(∀p∈ps,Qd W b87 p.2 p.1.args)/\L.length<=bc/\qj0 W 2 ⟨.slice (some ⟨g,off,none⟩) k bc,k,(ps.take k).flatMap qbc⟩/\
   ∀tb,(bc=k+1/\tb=⟨g,off,none⟩)\/(bc≠k+1/\tb=⟨g,off+(k+1)*2,none⟩)->qj0 W 2 ⟨.slice (some tb) (L.length - (k+1)) (bc - (k+1)),L.length - (k+1),(ps.drop (k+1)).flatMap qbc⟩:=by
 obtain⟨ps,a,cap,e1,e2,⟨e3,e5⟩,e4⟩:=h;cases e2;obtain⟨g,off,cur,k1,k2,k3,k4⟩:=e4 (λe=>by rw[e] at hk;simp at hk);have Q7:ps.length=L.length:=by rw[<- e1];simp
 have Ql:∀j u,(ps.flatMap qbc)[j]?=some u->W.cell? ⟨g,off+j,none⟩=some u:=by
  intro j u hj;rw[<- k4,List.getElem?_take] at hj;split at hj
  ·rw[List.getElem?_drop] at hj;simp only[World.cell?,k3];simpa using hj
  ·cases hj
 have qqw:∀u∈ps.flatMap qbc,u.oneCell'=true:=by
  intro u hu;obtain⟨p,hp,hu⟩:=List.mem_flatMap.1 hu;obtain⟨ta,tc,hf⟩:=(e3 p hp).form;unfold qbc at hu;simp only[List.mem_cons,List.not_mem_nil,or_false] at hu;rcases hu with rfl | rfl
  ·rfl
  ·rw[hf];rfl
 have hgl:g < W.heap.size:=(zg k3).1;refine⟨g,off,ps,k1,e1,e3,e5,.inr ⟨_,_,rfl,by rw[qj3,List.length_take];show min k ps.length*2=k*2;rw[Nat.min_eq_left (by omega)],λj u hj=>?_,λ_=>hgl,λu hu=>qqw u ?_⟩,λtb htb=>?_⟩
 ·refine (congrArg W.cell? (show (⟨g,off,none⟩:Addr).add j=⟨g,off+j,none⟩ by simp[Addr.add])).trans (Ql j u ?_);rw[<- qrm] at hj;rw[List.getElem?_take] at hj;split at hj
  ·exact hj
  ·cases hj
 ·rw[<- qrm] at hu;exact List.mem_of_mem_take hu
 ·refine .inr ⟨_,_,rfl,by rw[qj3,List.length_drop];show (ps.length - (k+1))*2=(L.length - (k+1))*2;rw[Q7],λj u hj=>?_,λ_=>?_,λu hu=>qqw u ?_⟩
  ·rcases htb with⟨hb,rfl⟩ | ⟨hb,rfl⟩
   ·have:ps.drop (k+1)=[]:=List.drop_eq_nil_of_le (by omega);rw[this] at hj;simp at hj
   ·have:=Ql ((k+1)*2+j) u (by rw[<- qrk,List.getElem?_drop] at hj;exact hj);refine (congrArg W.cell? (show (⟨g,off+(k+1)*2,none⟩:Addr).add j=⟨g,off+((k+1)*2+j),none⟩ from ?_)).trans this;simp[Addr.add,Nat.add_assoc]
  ·rcases htb with⟨hb,rfl⟩ | ⟨hb,rfl⟩ <;> exact hgl
  ·rw[<- qrk] at hu;exact List.mem_of_mem_drop hu
theorem q2e(k:Nat):(Qg.get k).size<=maxLen:=by
 have:(Qg.get k)=⟨#[]⟩:=by unfold Qg Nms.get;split <;> rfl
 rw[this];exact Nat.zero_le _
def Qba(a:Am):Prop:=a.args.length<=2/\∀t∈a.args,t.num < 6
theorem q5k(n0 Bm Br Bg B nn b45 b87:Nat)(M:Gd->Option Int)(rel:ByteArray)(va vb:Vq)(L:List Am)(g:Gd)(w:Wq)(hst:q2a Bm Br Bg B nn b45 b87 M rel va vb L g w)(hbo:qwb L)(h3:L.length<=3)(hg:qgw g)(m:Nat) :
  qfg m n0 229 #[.pointer (some ⟨Br,0,none⟩),.pointer (some ⟨Bg,0,none⟩),.pointer (some ⟨Bm,0,none⟩)] (λp:NmX=>#[p.1.v]) (qt m)
   (λys=>(∀p,p∈ys.map (·.1)↔qns M L g p)/\ys.length<=L.length*nn ^ (L.length - 1)) (λ_=>True) (L.length*nn ^ (L.length - 1)) w:=by
 obtain⟨n,hn⟩:∃n,12<=n:=⟨12,Nat.le_refl _⟩;refine qfg.any (n:=n) ?_ n0;have n1:1<=n:=by omega
 have n2:1<=n - 1:=by omega
 have n3:1<=n - 1 - 1:=by omega
 intro l J Jx W hW hsz hJ hJx hY h0;have qfr:=hst.mk' (qt.ofBelow (m:=m) hW);clear hst hW;obtain⟨ba,bc,hvb⟩:=qfr.atoms.form;subst hvb;have HST:Hid _:=qfr;have HY:Hid _:=hY;have HJ:Hid (OwnFrom W.heap.size J):=hJ;have HJx:Hid (OwnFrom W.heap.size Jx):=hJx;have H0:Hid _:=h0;have hal:∀O,Below W.heap.size W (W.alloc O):=λO=>(Below.refl _ W).alloc zl O;have e1:∀O,(W.alloc O).cell? ⟨Br,2,none⟩=some (.slice ba L.length bc):=λO=>cell_later (hal O) (by have:=qfr.br;simp[World.cell?,this]);clear hY hJ hJx h0 qfr hal;refine callsIn_of_wp_marks Tryz.func229 rfl trivial ?_ rfl;simp only[Tryz.ntmps229,List.size_toArray,List.length_cons,List.length_nil,Nat.reduceAdd,Nat.reduceSub,Array.replicate_succ,Array.replicate_zero,List.push_toArray,List.append_toArray,List.nil_append,List.cons_append]
 gi_wp2
 obtain⟨N,hN⟩:∃N,W.heap.size=N:=⟨_,rfl⟩;obtain⟨W1,hW1⟩:∃W1,W.alloc (.cells #[.func (.yield l) #[] #[]] 274)=W1:=⟨_,rfl⟩;have hb1:Below W.heap.size W W1:=by rw[<- hW1];exact (Below.refl _ W).alloc zl _
 have hs1:W1.heap.size=N+1:=by rw[<- hW1,<- hN];simp
 have bY:W1.heap[N]?=some (Obj.cells #[.func (.yield l) #[] #[]] 274):=by rw[<- hW1,<- hN];exact World.alloc_heap_new W _
 have q3u:=(HST.out).mk' (qt.ofBelow (m:=m) hb1);have hJ1:J [] W1:=HJ.out _ _ _ none H0.out (qh hb1) (λr e=>by cases e);have hmN:m<=N:=by omega
 rw[hN] at HJ HJx;simp only[hN];rw[hW1];clear hW1 e1 HST H0 hb1 hN hsz;have HST:Hid _:=q3u;have HYB:Hid _:=bY;clear q3u bY;refine wpIn_loop (λA V=>∃(k:Nat) (ds:List Nat) (ys:List NmX) (u5 u6 u7 u8 u9 u15 u16 u17 u18 u19 u20 u21 u22 u23 u24 u25 u26 u27 u28 u29 u30 u31 u32 u33 u34 u35 u36 u37 u38 u39 u40 u41 u42 u43 u44 u45 u46 u47 u48 u54:Vq),A={tmps:=#[.func (.yield l) #[] #[],.pointer (some ⟨Br,0,none⟩),.pointer (some ⟨Bg,0,none⟩),.pointer (some ⟨Bm,0,none⟩),.pointer (some ⟨N,0,none⟩),u5,u6,u7,u8,u9,undef,.pointer (some ⟨Br,2,none⟩),.slice ba L.length bc,.int .i64 L.length,.int .i64 k,u15,u16,u17,u18,u19,u20,u21,u22,u23,u24,u25,u26,u27,u28,u29,u30,u31,u32,u33,u34,u35,u36,u37,u38,u39,u40,u41,u42,u43,u44,u45,u46,u47,u48,undef,undef,undef,undef,undef,u54],defers:=qes ds}/\k<=L.length/\J ys V/\qdx (N+1) ds V/\qt m W1 V/\Hid ((∀p,p∈ys.map (·.1)↔qqh M L g k p)/\ys.length<=k*nn ^ (L.length - 1))) (λA _=>L.length - (intOf (A.tmps.getD 14 undef)).toNat) ⟨0,[],[],_,_,_,_,_,_,_,_,_,_,_,_,_,_,_,_,_,_,_,_,_,_,_,_,_,_,_,_,_,_,_,_,_,_,_,_,_,_,_,_,rfl,Nat.zero_le _,hJ1,qdx.nil _ _,qt.ofBelow (Below.refl _ _),⟨λp=>by simp[qqh],by simp⟩⟩ ?_;rintro A V ⟨k,ds,ys,u5,u6,u7,u8,u9,u15,u16,u17,u18,u19,u20,u21,u22,u23,u24,u25,u26,u27,u28,u29,u30,u31,u32,u33,u34,u35,u36,u37,u38,u39,u40,u41,u42,u43,u44,u45,u46,u47,u48,u54,rfl,hk,hJk,hSh,hMk,Q5⟩;clear hJ1;have qg8:=(HST.out).mk' hMk;by_cases hlt:k < L.length
 ·obtain⟨ga,off,ps,rfl,hps,hsl,qer,src1,src2⟩:=qzw qg8.atoms hlt;obtain⟨g',off',c',vk,hv0,x0,x1,hSk,hgl⟩:=qky qg8.atoms hlt;cases hv0;obtain⟨fa,fc,hfa⟩:=hSk.form;subst hfa;have i1:(k:Int) < (L.length:Int):=by omega
  have hal:∀O,Below V.heap.size V (V.alloc O):=λO=>(Below.refl _ V).alloc zl O;have hbg:=qg8.bg;unfold Gd.c at hbg;have z0:∀O,(V.alloc O).cell? ⟨Bg,0,none⟩=some (.string g.rel):=λO=>cell_later (hal O) (by simp[World.cell?,hbg]);have z1:∀O,(V.alloc O).cell? ⟨Bg,1,none⟩=some (.string g.x):=λO=>cell_later (hal O) (by simp[World.cell?,hbg]);have z2:∀O,(V.alloc O).cell? ⟨Bg,2,none⟩=some (.string g.y):=λO=>cell_later (hal O) (by simp[World.cell?,hbg])
  have q3s:Hid (qaj Qg L[k] g.x g.y=none\/(L[k]).rel≠g.rel->(∀p,p∈ys.map (·.1)↔qqh M L g (k+1) p)/\ys.length<=(k+1)*nn ^ (L.length - 1)):=by
   intro h;refine⟨λp=>?_,Nat.le_trans Q5.out.2 (Nat.mul_le_mul_right _ (by omega))⟩;rw[Q5.out.1,qqi hlt];constructor
   ·exact .inl
   ·rintro (h' | ⟨h1,put,h2,_⟩)
    ·exact h'
    ·rcases h with h | h
     ·rw[h] at h2;cases h2
     ·exact absurd h1 h
  have q6l:Hid (∀put,qaj Qg L[k] g.x g.y=some put->(L[k]).rel=g.rel->∀xs:List NmX,(∀p,p∈xs.map (·.1)↔qh3 M (L.take k++L.drop (k+1)) put p)->xs.length<=nn ^ (L.take k++L.drop (k+1)).length->(∀p,p∈(ys++xs).map (·.1)↔qqh M L g (k+1) p)/\(ys++xs).length<=(k+1)*nn ^ (L.length - 1)):=by
   intro put qd1 hr xs hx hl;refine⟨λp=>?_,?_⟩
   ·rw[List.map_append,List.mem_append,Q5.out.1,hx,qqi hlt];constructor
    ·rintro (h' | h')
     ·exact .inl h'
     ·exact .inr ⟨hr,put,qd1,h'⟩
    ·rintro (h' | ⟨_,put',h1,h2⟩)
     ·exact .inl h'
     ·rw[qd1] at h1;cases h1;exact .inr h2
   ·have e1:(L.take k++L.drop (k+1)).length=L.length - 1:=by simp;omega
    rw[e1] at hl;have:=Q5.out.2;rw[List.length_append,Nat.add_mul,Nat.one_mul];omega
  have HBK:Hid (Qba L[k]):=⟨hbo.args _ (List.getElem_mem hlt),hbo.nums _ (List.getElem_mem hlt)⟩;generalize hLk:L[k]=ak at *;clear hbg;by_cases hrel:ak.rel=g.rel
  ·have hr1:(ak.rel.toList == g.rel.toList)=true:=by rw[qp5];simpa using hrel
   have hma:Hid (∀O,Calls Tryz.prog 157 #[.agg #[.string ⟨#[]⟩,.string ⟨#[]⟩,.string ⟨#[]⟩,.string ⟨#[]⟩,.string ⟨#[]⟩,.string ⟨#[]⟩],.agg #[.string ak.rel,.slice fa ak.args.length fc],.agg #[.string g.x,.string g.y]] (V.alloc O) λe W1=>e=.returned (qkq (qaj Qg ak g.x g.y))/\Below (V.alloc O).heap.size (V.alloc O) W1):=λO=>
    qrz Qg ak _ b87 g.x g.y _ (Qd.mk hSk (qt.ofBelow (m:=m) (hal O))) HBK.out.1 HBK.out.2
   have HSV:Hid _:=qg8;have HS1:Hid _:=src1;have HS2:Hid _:=src2;have HSL:Hid _:=hsl;have hVs:N+1<=V.heap.size:=by have:=hMk.from'.size;omega
   have HRL:Hid _:=hrel;clear hal src1 src2 hsl hSk qg8 hrel
   cases hm1:qaj Qg ak g.x g.y with
   | none=>
    rw[hm1] at hma;unfold qkq Nms.v Qg Nms.c at hma;have HN:=q3s.out (.inl hm1);have HN':Hid _:=HN;clear HN q3s q6l;have hbl:Hid (∀O W2 O',Below (V.alloc O).heap.size (V.alloc O) W2->Below V.heap.size V (W2.alloc O')):=λO W2 O' hb=>(((Below.refl _ V).alloc zl O).trans (hb.mono (by simp))).alloc (by have:=hb.size;simp at this;omega) _
    gi_wp2_with (refine⟨trivial,?_⟩;gi_at_call 157;refine (callsIn_wide.2 (hma.out _)).mono ?_;rintro e W2 ⟨rfl,hb2⟩)
    have HBL:=hbl.out _ W2 (.cells #[.string ⟨#[]⟩,.string ⟨#[]⟩,.string ⟨#[]⟩,.string ⟨#[]⟩,.string ⟨#[]⟩,.string ⟨#[]⟩] 176) hb2;refine⟨⟨k+1,ds,ys,_,_,_,_,_,_,_,_,_,_,_,_,_,_,_,_,_,_,_,_,_,_,_,_,_,_,_,_,_,_,_,_,_,_,_,_,_,_,_,_,rfl,by omega,HJ.out _ _ _ none hJk (qh HBL) (λr e=>by cases e),hSh.below HBL,hMk.tr (qt.ofBelow HBL),HN'.out⟩,?_⟩;simp[intOf];omega
   | some put=>
    rw[hm1] at hma;unfold qkq Nms.v Nms.c at hma;have HP:=q6l.out put hm1 HRL.out;have HP':Hid _:=HP;clear HP q3s q6l;have hbl:Hid (∀O W2 O',Below (V.alloc O).heap.size (V.alloc O) W2->Below V.heap.size V (W2.alloc O')):=λO W2 O' hb=>(((Below.refl _ V).alloc zl O).trans (hb.mono (by simp))).alloc (by have:=hb.size;simp at this;omega) _
    have qxg:=qht _ _ _ (λk=>q2e k) (λq hq=>⟨HBK.out.2 _ (List.of_mem_zip hq).1,by
      have:=(List.of_mem_zip hq).2;simp at this;rcases this with h | h <;> rw[h]
      ·exact hg.x
      ·exact hg.y⟩) hm1
    have Qea:Hid _:=qxg;clear qxg
    gi_wp2_with (refine⟨trivial,?_⟩;gi_at_call 157;refine (callsIn_wide.2 (hma.out _)).mono ?_;rintro e W2 ⟨rfl,hb2⟩)
    obtain⟨PB,hPB⟩:∃PB,W2.heap.size=PB:=⟨_,rfl⟩;obtain⟨W3,hW3⟩:∃W3,W2.alloc (.cells #[.string put.a0,.string put.a1,.string put.a2,.string put.a3,.string put.a4,.string put.a5] 176)=W3:=⟨_,rfl⟩;have HB3:=hbl.out _ W2 (.cells #[.string put.a0,.string put.a1,.string put.a2,.string put.a3,.string put.a4,.string put.a5] 176) hb2;have hs3:W3.heap.size=PB+1:=by rw[<- hW3,<- hPB];simp
    have bP3:W3.heap[PB]?=some (Obj.cells put.c 176):=by rw[<- hW3,<- hPB];exact World.alloc_heap_new W2 _
    have hVP:V.heap.size<=PB:=by have:=hb2.size;simp at this;omega
    rw[hW3] at HB3;simp only[hPB];rw[hW3];have qn2:=(HSV.out).mk' (qt.ofBelow (m:=m) HB3);clear hW3 hPB hb2 hma hbl z0 z1 z2 x0 x1 hr1;have c2:W3.cell? ⟨Br,2,none⟩=some (.slice (some ⟨ga,off,none⟩) L.length bc):=by have:=qn2.br;simp[World.cell?,this]
    have i2:(k:Int)<=(bc:Int):=by omega
    have i3:(k:Int)+1<=(L.length:Int):=by omega
    have i4:(L.length:Int)<=(bc:Int):=by omega
    have i5:(0:Int)<=(k:Int):=by omega
    have i6:(0:Int)<=(k:Int)+1:=by omega
    have Qa4:Hid _:=qn2;clear qn2
    have Qb4:Hid (∀tb,(bc=k+1/\tb=⟨ga,off,none⟩)\/(bc≠k+1/\tb=⟨ga,off+(k+1)*2,none⟩)->Calls Tryz.prog 230 #[.slice (some ⟨W3.heap.size,0,none⟩) 2 2] (W3.alloc (.cells #[.slice (some ⟨ga,off,none⟩) k bc,.slice (some tb) (L.length - (k+1)) (bc - (k+1))] 134)).drew λe w'=>∃oa oc,e=.returned (.slice oa (L.length - 1) oc)/\Below W3.heap.size W3 w'/\qas w' w'.heap.size b87 (.slice oa (L.length - 1) oc) (L.take k++L.drop (k+1))):=by
     intro tb htb;have hS1:=qj0.later (s:=⟨.slice (some ⟨ga,off,none⟩) k bc,k,(ps.take k).flatMap qbc⟩) (size:=2) HS1.out HB3;have hS2:=(HS2.out tb htb).later HB3;have hbA:Below W3.heap.size W3 (W3.alloc (.cells #[.slice (some ⟨ga,off,none⟩) k bc,.slice (some tb) (L.length - (k+1)) (bc - (k+1))] 134)).drew:=((Below.refl _ W3).alloc zl _).drew
     have hc:=qt6 W3.heap.size [⟨.slice (some ⟨ga,off,none⟩) k bc,k,(ps.take k).flatMap qbc⟩,⟨.slice (some tb) (L.length - (k+1)) (bc - (k+1)),L.length - (k+1),(ps.drop (k+1)).flatMap qbc⟩] (W3.alloc (.cells #[.slice (some ⟨ga,off,none⟩) k bc,.slice (some tb) (L.length - (k+1)) (bc - (k+1))] 134)).drew (World.alloc_heap_new W3 _) (by
       intro s hs;simp only[List.mem_cons,List.not_mem_nil,or_false] at hs;rcases hs with rfl | rfl
       ·exact hS1.later hbA
       ·exact hS2.later hbA) (by unfold qb8;simp;omega) (by simp)
     refine hc.mono ?_;rintro e w' ⟨v,rfl,ho,hb⟩
     have qxj:qb8 [⟨.slice (some ⟨ga,off,none⟩) k bc,k,(ps.take k).flatMap qbc⟩,⟨.slice (some tb) (L.length - (k+1)) (bc - (k+1)),L.length - (k+1),(ps.drop (k+1)).flatMap qbc⟩]=(ps.take k++ps.drop (k+1)).length:=by
      have:ps.length=L.length:=by rw[<- hps];simp
      unfold qb8;simp;omega
     rw[qxj] at ho;have hfl:(ps.take k++ps.drop (k+1)).flatMap qbc=[⟨.slice (some ⟨ga,off,none⟩) k bc,k,(ps.take k).flatMap qbc⟩,⟨.slice (some tb) (L.length - (k+1)) (bc - (k+1)),L.length - (k+1),(ps.drop (k+1)).flatMap qbc⟩].flatMap Sl.xs:=by simp
     rw[<- hfl] at ho;have hbW:Below W3.heap.size W3 w':=hbA.trans (hb.mono (by simp));obtain⟨oa,oc,hof⟩:=qd ho
     have Q7:(ps.take k++ps.drop (k+1)).length=L.length - 1:=by
      have:ps.length=L.length:=by rw[<- hps];simp
      simp;omega
     have hbV:Below V.heap.size V w':=HB3.trans (hbW.mono HB3.size)
     have hse:=qas.ofOwns ho (λp hp=>Qd.mk (HSL.out p (by
      rcases List.mem_append.1 hp with h | h
      ·exact List.mem_of_mem_take h
      ·exact List.mem_of_mem_drop h)) (qt.ofBelow (m:=m) hbV))
     rw[hof,Q7] at hse;refine⟨oa,oc,by rw[hof,Q7],hbW,?_⟩;have:(ps.take k++ps.drop (k+1)).map (·.1)=L.take k++L.drop (k+1):=by rw[List.map_append,List.map_take,List.map_drop,hps]
     rw[this] at hse;exact hse
    obtain⟨Pd,hPd⟩:∃Pd:Option Addr->Nat->Wq->Prop,Pd=λoa oc w'=>Below W3.heap.size W3 w'/\qas w' w'.heap.size b87 (.slice oa (L.length - 1) oc) (L.take k++L.drop (k+1)):=⟨_,rfl⟩
    have Qer:Hid (∀oa oc w',Pd oa oc w'->Pd oa oc w'.drew):=by
     intro oa oc w' h;rw[hPd] at h ⊢;exact⟨h.1.drew,qas.kept h.2 (λk c _ hc=>hc) (λk c _ hc=>hc)⟩
    have hco:Hid (∀(tb:Addr) (k' n' c':Nat),k'=k->n'=L.length - (k+1)->c'=bc - (k+1)->((bc=k+1/\tb=⟨ga,off,none⟩)\/(bc≠k+1/\tb=⟨ga,off+(k+1)*2,none⟩))->Calls Tryz.prog 230 #[.slice (some ⟨W3.heap.size,0,none⟩) 2 2] (W3.alloc (.cells #[.slice (some ⟨ga,off,none⟩) k' bc,.slice (some tb) n' c'] 134)).drew λe w'=>∃oa oc,e=.returned (.slice oa (L.length - 1) oc)/\Pd oa oc w'):=by
     rintro tb k' n' c' rfl rfl rfl h;refine (Qb4.out tb h).mono ?_;rintro e w' ⟨oa,oc,h1,h2,h3⟩;exact⟨oa,oc,h1,by rw[hPd];exact⟨h2,h3⟩⟩
    have HPd:Hid _:=hPd;clear Qb4 hPd;refine wpIn_mono (Q:=λe a' w'=>match e with | Exit.normal=>∃oa oc v34 v35 v36 v37 v38 v39 v40 v41 v42 v43 v44,a'={tmps:=#[.func (.yield l) #[] #[],.pointer (some ⟨Br,0,none⟩),.pointer (some ⟨Bg,0,none⟩),.pointer (some ⟨Bm,0,none⟩),.pointer (some ⟨N,0,none⟩),.int .i64 k,.pointer (some ⟨V.heap.size,0,none⟩),.pointer (some ⟨PB,0,none⟩),.bool true,.slice oa (L.length - 1) oc,undef,.pointer (some ⟨Br,2,none⟩),.slice (some ⟨ga,off,none⟩) L.length bc,.int .i64 L.length,.int .i64 k,.bool true,.int .i64 k,.pointer (some ⟨ga,off+k*2,none⟩),.agg #[.string ak.rel,.slice fa ak.args.length fc],.pointer (some ⟨V.heap.size,0,none⟩),.string ak.rel,.pointer (some ⟨Bg,0,none⟩),.string g.rel,.bool false,.tuple #[.agg #[.string put.a0,.string put.a1,.string put.a2,.string put.a3,.string put.a4,.string put.a5],.bool true],.agg #[.string ⟨#[]⟩,.string ⟨#[]⟩,.string ⟨#[]⟩,.string ⟨#[]⟩,.string ⟨#[]⟩,.string ⟨#[]⟩],.agg #[.string ak.rel,.slice fa ak.args.length fc],.pointer (some ⟨Bg,1,none⟩),.agg #[.string g.x,.string g.y],.tuple #[.agg #[.string put.a0,.string put.a1,.string put.a2,.string put.a3,.string put.a4,.string put.a5],.bool true],.agg #[.string put.a0,.string put.a1,.string put.a2,.string put.a3,.string put.a4,.string put.a5],.bool true,.bool true,.bool false,v34,v35,v36,v37,v38,v39,v40,v41,v42,v43,v44,u45,u46,u47,u48,undef,undef,undef,undef,undef,u54],defers:=qes ds}/\Pd oa oc w' | _=>False) ?reg ?rest
    case reg=>
     clear hLk Q5 HY HP' HS1 HS2 HSL HSV HST Qa4 HPd hs3;generalize L.length=len at *;have hw1:IntKind.i64.wrap 1=1:=by decide
     have hw2:IntKind.i64.wrap 2=2:=by decide
     have hw3:IntKind.i64.wrap 3=3:=by decide
     by_cases htc:bc=k+1
     ·have hLb:len=bc:=by omega
      have hk3:k=0\/k=1\/k=2:=by omega
      rcases hk3 with rfl | rfl | rfl
      ·obtain rfl:bc=1:=by omega
       obtain rfl:len=1:=by omega
       have HCO:Hid _:=hco.out ⟨ga,off,none⟩ 0 0 0 rfl rfl rfl (.inl ⟨rfl,rfl⟩);clear i1 i2 i3 i4 i5 i6 htc hco
       first | (gi_region_with (refine⟨trivial,?_⟩;(try refine⟨λh=>(by cases h),?_⟩);refine (callsIn_wide.2 (HCO.out)).mono ?_;rintro e w' ⟨oa,oc,rfl,hPw⟩)) | fail
       all_goals exact⟨oa,oc,_,_,_,_,_,_,_,_,_,_,_,rfl,hPw⟩
      ·obtain rfl:bc=2:=by omega
       obtain rfl:len=2:=by omega
       have HCO:Hid _:=hco.out ⟨ga,off,none⟩ 1 0 0 rfl rfl rfl (.inl ⟨rfl,rfl⟩);clear i1 i2 i3 i4 i5 i6 htc hco
       first | (gi_region_with (refine⟨trivial,?_⟩;(try refine⟨λh=>(by cases h),?_⟩);refine (callsIn_wide.2 (HCO.out)).mono ?_;rintro e w' ⟨oa,oc,rfl,hPw⟩)) | fail
       all_goals exact⟨oa,oc,_,_,_,_,_,_,_,_,_,_,_,rfl,hPw⟩
      ·obtain rfl:bc=3:=by omega
       obtain rfl:len=3:=by omega
       have HCO:Hid _:=hco.out ⟨ga,off,none⟩ 2 0 0 rfl rfl rfl (.inl ⟨rfl,rfl⟩);clear i1 i2 i3 i4 i5 i6 htc hco
       first | (gi_region_with (refine⟨trivial,?_⟩;(try refine⟨λh=>(by cases h),?_⟩);refine (callsIn_wide.2 (HCO.out)).mono ?_;rintro e w' ⟨oa,oc,rfl,hPw⟩)) | fail
       all_goals exact⟨oa,oc,_,_,_,_,_,_,_,_,_,_,_,rfl,hPw⟩
     ·have hk3:k=0\/k=1\/k=2:=by omega
      rcases hk3 with rfl | rfl | rfl
      ·obtain⟨q,rfl⟩:∃q,len=q+1:=⟨len - 1,by omega⟩;have HCO:Hid _:=hco.out ⟨ga,off+2,none⟩ 0 q (bc - 1) rfl (by omega) rfl (.inr ⟨by omega,rfl⟩);have j2:¬bc=1:=by omega
       have j3:((q:Int)+1)<=(bc:Int):=by omega
       have j4:(1:Int)<=(q:Int)+1:=by omega
       have j5:(0:Int)<=(bc:Int):=by omega
       have j6:(0:Int)<=(bc:Int):=by omega
       clear i1 i2 i3 i4 i5 i6 htc hco
       first | (gi_region_with (refine⟨trivial,?_⟩;(try refine⟨λh=>(by cases h),?_⟩);refine (callsIn_wide.2 (HCO.out)).mono ?_;rintro e w' ⟨oa,oc,rfl,hPw⟩)) | fail
       all_goals exact⟨oa,oc,_,_,_,_,_,_,_,_,_,_,_,rfl,hPw⟩
      ·obtain⟨q,rfl⟩:∃q,len=q+2:=⟨len - 2,by omega⟩;have HCO:Hid _:=hco.out ⟨ga,off+4,none⟩ 1 q (bc - 2) rfl (by omega) rfl (.inr ⟨by omega,rfl⟩);have j2:¬bc=2:=by omega
       have j3:((q:Int)+2)<=(bc:Int):=by omega
       have j4:(2:Int)<=(q:Int)+2:=by omega
       have j5:(0:Int)<=(bc:Int):=by omega
       have j6:(1:Int)<=(bc:Int):=by omega
       clear i1 i2 i3 i4 i5 i6 htc hco
       first | (gi_region_with (refine⟨trivial,?_⟩;(try refine⟨λh=>(by cases h),?_⟩);refine (callsIn_wide.2 (HCO.out)).mono ?_;rintro e w' ⟨oa,oc,rfl,hPw⟩)) | fail
       all_goals exact⟨oa,oc,_,_,_,_,_,_,_,_,_,_,_,rfl,hPw⟩
      ·obtain rfl:len=3:=by omega
       have HCO:Hid _:=hco.out ⟨ga,off+6,none⟩ 2 0 (bc - 3) rfl (by omega) rfl (.inr ⟨by omega,rfl⟩);have j2:¬bc=3:=by omega
       have j3:(3:Int)<=(bc:Int):=by omega
       have j5:(0:Int)<=(bc:Int):=by omega
       have j6:(2:Int)<=(bc:Int):=by omega
       clear i1 i2 i3 i4 i5 i6 htc hco
       first | (gi_region_with (refine⟨trivial,?_⟩;(try refine⟨λh=>(by cases h),?_⟩);refine (callsIn_wide.2 (HCO.out)).mono ?_;rintro e w' ⟨oa,oc,rfl,hPw⟩)) | fail
       all_goals exact⟨oa,oc,_,_,_,_,_,_,_,_,_,_,_,rfl,hPw⟩
    case rest=>
     rintro e a' W4 hq
     cases e with
     | normal=>
      obtain⟨oa,oc,v34,v35,v36,v37,v38,v39,v40,v41,v42,v43,v44,rfl,hPw⟩:=hq;rw[HPd.out] at hPw;obtain⟨hbw,hsw⟩:=hPw;clear hco Qer HPd;have qu2:=(Qa4.out).mk' (qt.ofBelow (m:=m) hbw);have cm:W4.cell? ⟨Bm,0,none⟩=some (.map (some B)):=by have:=qu2.bm;simp[World.cell?,this]
      have bP4:W4.heap[PB]?=some (Obj.cells put.c 176):=(hbw.block PB (by omega)).trans bP3;have hp4:=bP4;unfold Nms.c at hp4;have d0:W4.cell? ⟨PB,0,none⟩=some (.string put.a0):=by simp[World.cell?,hp4]
      have d1:W4.cell? ⟨PB,1,none⟩=some (.string put.a1):=by simp[World.cell?,hp4]
      have d2:W4.cell? ⟨PB,2,none⟩=some (.string put.a2):=by simp[World.cell?,hp4]
      have d3:W4.cell? ⟨PB,3,none⟩=some (.string put.a3):=by simp[World.cell?,hp4]
      have d4:W4.cell? ⟨PB,4,none⟩=some (.string put.a4):=by simp[World.cell?,hp4]
      have d5:W4.cell? ⟨PB,5,none⟩=some (.string put.a5):=by simp[World.cell?,hp4]
      have hja:Hid (∀W,Calls Tryz.prog 231 #[.map (some B),.slice oa (L.length - 1) oc,.agg #[.string put.a0,.string put.a1,.string put.a2,.string put.a3,.string put.a4,.string put.a5]] W λe w'=>e=.returned (.func (.func 260) #[] #[.pointer (some ⟨W.heap.size+1,0,none⟩),.pointer (some ⟨W.heap.size+2,0,none⟩),.pointer (some ⟨W.heap.size,0,none⟩)])/\
        w'=((W.alloc (.cells #[.map (some B)] 98)).alloc (.cells #[.slice oa (L.length - 1) oc] 134)).alloc (.cells #[.string put.a0,.string put.a1,.string put.a2,.string put.a3,.string put.a4,.string put.a5] 176)):=λW=>qpd B _ put W _ _ _ rfl
      have HSW:Hid _:=hsw;have Qee:Hid _:=qu2;have HBW:Hid _:=hbw;clear qu2 hp4 hsw hbw
      gi_wp2_with (refine⟨trivial,?_⟩;gi_at_call 231;refine (callsIn_wide.2 (hja.out _)).mono ?_;rintro e w' ⟨rfl,rfl⟩)
      obtain⟨VN,hVN⟩:∃VN,W4.heap.size=VN:=⟨_,rfl⟩;obtain⟨W5,hW5⟩:∃W5,((W4.alloc (.cells #[.map (some B)] 98)).alloc (.cells #[.slice oa (L.length - 1) oc] 134)).alloc (.cells #[.string put.a0,.string put.a1,.string put.a2,.string put.a3,.string put.a4,.string put.a5] 176)=W5:=⟨_,rfl⟩;have hb5:Below W4.heap.size W4 W5:=by rw[<- hW5];exact (((Below.refl _ W4).alloc zl _).alloc (by simp) _).alloc (by simp;omega) _
      have hs5:W5.heap.size=VN+3:=by rw[<- hW5,<- hVN];simp
      have eM:W5.heap[VN]?=some (Obj.cells #[.map (some B)] 98):=by
       rw[<- hW5,<- hVN];exact (Below.heap_alloc _ _ _ (by simp;omega)).trans ((Below.heap_alloc _ _ _ (by simp)).trans (World.alloc_heap_new W4 _))
      have eS:W5.heap[VN+1]?=some (Obj.cells #[.slice oa (L.length - 1) oc] 134):=by
       rw[<- hW5,<- hVN];refine (Below.heap_alloc _ _ _ (by simp)).trans ?_;have:=World.alloc_heap_new (W4.alloc (.cells #[.map (some B)] 98)) (.cells #[.slice oa (L.length - 1) oc] 134);rw[World.size_alloc] at this;exact this
      have eP:W5.heap[VN+2]?=some (Obj.cells put.c 176):=by
       rw[<- hW5,<- hVN];have:=World.alloc_heap_new ((W4.alloc (.cells #[.map (some B)] 98)).alloc (.cells #[.slice oa (L.length - 1) oc] 134)) (.cells #[.string put.a0,.string put.a1,.string put.a2,.string put.a3,.string put.a4,.string put.a5] 176);rw[World.size_alloc,World.size_alloc] at this;exact this
      have hk5:∀m',qt m' W4 W5:=λm'=>qt.ofBelow hb5;have Qck:(L.take k++L.drop (k+1)).length=L.length - 1:=by simp;omega
      have qw7:qas W5 W4.heap.size b87 (.slice oa (L.length - 1) oc) (L.take k++L.drop (k+1)):=qas.kept HSW.out (λk c _ hc=>(hk5 0).cells k c _ (by unfold qcj;decide) hc) (λk c _ hc=>(hk5 0).cells k c _ (by unfold qcj;decide) hc);have jst:qzj VN (VN+1) (VN+2) B nn W4.heap.size b87 M (L.take k++L.drop (k+1)) (.slice oa (L.length - 1) oc) put W5:=⟨eM,eS,eP,qw7,(Qee.out).md.mk (hk5 0)⟩;have q9a:Below V.heap.size V W5:=HB3.trans ((HBW.out.trans (hb5.mono HBW.out.size)).mono HB3.size)
      have qde:∀a,a∈L.take k++L.drop (k+1)->a∈L:=λa ha=>by
       rcases List.mem_append.1 ha with h | h
       ·exact List.mem_of_mem_take h
       ·exact List.mem_of_mem_drop h
      have hJ5:J (ys++[]) W5:=by rw[List.append_nil];exact HJ.out _ _ _ none hJk (qh q9a) (λr e=>by cases e)
      have ih:=qu6 (L.take k++L.drop (k+1)) (n - 1) VN (VN+1) (VN+2) B nn W4.heap.size b87 M (.slice oa (L.length - 1) oc) put W5 jst ⟨λb hb=>hbo.args b (qde b hb),λb hb=>hbo.nums b (qde b hb),λb hb=>hbo.rels b (qde b hb)⟩ (by omega) Qea.out (W5.heap.size+2);have q21:qt m W1 W5:=hMk.tr (qt.ofBelow q9a);have q22:qdx (N+1) ds W5:=hSh.below q9a;have qn0:∀d∈ds,d < W5.heap.size:=q22.lt;have hN5:N+1<=W5.heap.size:=by have:=q21.from'.size;omega
      simp only[hVN];rw[hW5];clear hW5
      refine qfx (n:=n) (gf:=260) (lb:=#[.pointer (some ⟨VN+1,0,none⟩),.pointer (some ⟨VN+2,0,none⟩),.pointer (some ⟨VN,0,none⟩)]) rfl (enters_of Tryz.func260 (by kernel_rfl) rfl)
       ih qt.tr (λV' rc' o' ho=>qt.put V' _ _ o' (by omega) ho rfl (λ_ _ h=>by cases h)) (λ_=>rfl)
       (λpre2 V2=>J (ys++pre2) V2/\qt m W1 V2/\qdx (N+1) ds V2)
       (λc pre2 V2=>c=.ret/\(∃zs,Jx zs V2)/\qdx (N+1) ds V2)
       ?hI2 ?hIx2 ⟨hJ5,q21,q22⟩
       (λx2 a' V2=>∃Bx,V2.heap[Bx]?=some (Obj.cells x2.1.c 176)/\a'={tmps:=#[.func (.yield l) #[] #[],.pointer (some ⟨Br,0,none⟩),.pointer (some ⟨Bg,0,none⟩),.pointer (some ⟨Bm,0,none⟩),.pointer (some ⟨N,0,none⟩),.int .i64 k,.pointer (some ⟨V.heap.size,0,none⟩),.pointer (some ⟨PB,0,none⟩),.bool true,.slice oa (L.length - 1) oc,.pointer (some ⟨Bx,0,none⟩),.pointer (some ⟨Br,2,none⟩),.slice (some ⟨ga,off,none⟩) L.length bc,.int .i64 L.length,.int .i64 k,.bool true,.int .i64 k,.pointer (some ⟨ga,off+k*2,none⟩),.agg #[.string ak.rel,.slice fa ak.args.length fc],.pointer (some ⟨V.heap.size,0,none⟩),.string ak.rel,.pointer (some ⟨Bg,0,none⟩),.string g.rel,.bool false,.tuple #[.agg #[.string put.a0,.string put.a1,.string put.a2,.string put.a3,.string put.a4,.string put.a5],.bool true],.agg #[.string ⟨#[]⟩,.string ⟨#[]⟩,.string ⟨#[]⟩,.string ⟨#[]⟩,.string ⟨#[]⟩,.string ⟨#[]⟩],.agg #[.string ak.rel,.slice fa ak.args.length fc],.pointer (some ⟨Bg,1,none⟩),.agg #[.string g.x,.string g.y],.tuple #[.agg #[.string put.a0,.string put.a1,.string put.a2,.string put.a3,.string put.a4,.string put.a5],.bool true],.agg #[.string put.a0,.string put.a1,.string put.a2,.string put.a3,.string put.a4,.string put.a5],.bool true,.bool true,.bool false,v34,v35,v36,v37,v38,v39,v40,v41,v42,v43,v44,.map (some B),.slice oa (L.length - 1) oc,.agg #[.string put.a0,.string put.a1,.string put.a2,.string put.a3,.string put.a4,.string put.a5],.func (.func 260) #[] #[.pointer (some ⟨VN+1,0,none⟩),.pointer (some ⟨VN+2,0,none⟩),.pointer (some ⟨VN,0,none⟩)],.agg #[.string x2.1.a0,.string x2.1.a1,.string x2.1.a2,.string x2.1.a3,.string x2.1.a4,.string x2.1.a5],undef,undef,undef,undef,u54],defers:=[]})
       ?hAx2 ?assign2 ?body2 ?done2 ?stop2
      case hI2=>
       rintro pre2 X X' row ⟨j1,j2,j3⟩ hg hr;exact⟨HJ.out _ _ _ row j1 hg (λr e=>⟨by have:=(hr r e).1;omega,(hr r e).2⟩),j2.own hg (λr e=>by have:=(hr r e).1;omega),j3.grown hg (λr e=>(hr r e).1) qn0⟩
      case hIx2=>
       rintro c pre2 X X' row ⟨rfl,⟨zs,j1⟩,j3⟩ hg hr;exact⟨rfl,⟨zs,HJx.out _ _ _ row j1 hg (λr e=>⟨by have:=(hr r e).1;omega,(hr r e).2⟩)⟩,j3.grown hg (λr e=>(hr r e).1) qn0⟩
      case hAx2=>
       rintro x2 a' _ X X' row ⟨Bx,q2,q3⟩ hg hr;exact⟨Bx,qj hg (λr e=>(hr r e).2) _ _ _ _ q2,q3⟩
      case assign2=>
       rintro l2 pre2 x2 X K hl2 hlr2 ⟨j1,j2,j3⟩ hK;have HK:Hid _:=hK;clear hK;unfold Nms.v Nms.c
       gi_wp2
       have hbl:Below X.heap.size X (X.alloc (.cells #[.string x2.1.a0,.string x2.1.a1,.string x2.1.a2,.string x2.1.a3,.string x2.1.a4,.string x2.1.a5] 176)):=(Below.refl _ X).alloc zl _;exact HK.out _ _ (KeepsFrom.ofBelow hbl) (qt.ofBelow hbl) ⟨HJ.out _ _ _ none j1 (qh hbl) (λr e=>by cases e),j2.tr (qt.ofBelow hbl),j3.below hbl⟩ ⟨X.heap.size,World.alloc_heap_new X _,rfl⟩
      case done2=>
       rintro D xs X hD ⟨s1,s2⟩ ⟨j1,j2,j3⟩ hK;have hsp:Hid _:=HP'.out xs s1 s2;have hDn:D∉ds:=λh=>by have:=qn0 D h;omega
       have HSC:Hid _:=j3.cons (D:=D) (by omega) hK hDn;clear Q5 s1 s2
       gi_wp2
       refine⟨⟨k+1,D::ds,ys++xs,_,_,_,_,_,_,_,_,_,_,_,_,_,_,_,_,_,_,_,_,_,_,_,_,_,_,_,_,_,_,_,_,_,_,_,_,_,_,_,_,rfl,by omega,j1,HSC.out,j2,hsp.out⟩,?_⟩;simp[intOf];omega
      case stop2=>
       rintro D c pre X hD _ ⟨rfl,hz,j3⟩ hK;have hDn:D∉ds:=λh=>by have:=qn0 D h;omega
       have HSC:Hid _:=j3.cons (D:=D) (by omega) hK hDn;have HZ:Hid _:=hz;clear Q5 hz
       gi_wp2
       show LeavesInM Fence.wide n Tryz.prog _ _ _ (qes (D::ds)) .returning X;refine qfv (X:=λV=>∃zs,Jx zs V) (B:=N) (λ_ A B row hs hg hr=>by obtain⟨zs,hz⟩:=hs;exact⟨zs,HJx.out zs A B row hz hg hr⟩) (D::ds) X HSC.out.nodup (λD' hD'=>⟨by have:=(HSC.out.at' D' hD').1;omega,(HSC.out.at' D' hD').2⟩) HZ.out (λW' hx=>?_);obtain⟨zs,hz⟩:=hx;exact⟨_,results_none rfl _ _ _,⟨_,rfl⟩,.inr ⟨zs,trivial,hz⟩⟩
      case body2=>
       rintro l2 pre2 x2 a' X hl2 ⟨rc2,hrc2⟩ ⟨j1,j2,j3⟩ ⟨By,hby,rfl⟩ qs0
       have qne:(ys++pre2).length < L.length*nn ^ (L.length - 1):=by
        rw[List.length_append];have e1:=Q5.out.2;rw[Qck] at qs0;have e2:(k+1)*nn ^ (L.length - 1)<=L.length*nn ^ (L.length - 1):=Nat.mul_le_mul_right _ (by omega);rw[Nat.add_mul,Nat.one_mul] at e2;omega
       obtain⟨fn,tmps,assign,body,hy,hR⟩:=HY.out (ys++pre2) x2 X j1 qne;unfold Nms.v Nms.c at hy;have q3z:=j2.cells _ _ _ (by unfold qcj;decide) HYB.out;have cy:X.cell? ⟨N,0,none⟩=some (.func (.yield l) #[] #[]):=by simp[World.cell?,q3z]
       have qir:=hby;unfold Nms.c at qir;have r0:X.cell? ⟨By,0,none⟩=some (.string x2.1.a0):=by simp[World.cell?,qir]
       have r1:X.cell? ⟨By,1,none⟩=some (.string x2.1.a1):=by simp[World.cell?,qir]
       have r2:X.cell? ⟨By,2,none⟩=some (.string x2.1.a2):=by simp[World.cell?,qir]
       have r3:X.cell? ⟨By,3,none⟩=some (.string x2.1.a3):=by simp[World.cell?,qir]
       have r4:X.cell? ⟨By,4,none⟩=some (.string x2.1.a4):=by simp[World.cell?,qir]
       have r5:X.cell? ⟨By,5,none⟩=some (.string x2.1.a5):=by simp[World.cell?,qir]
       clear qir q3z Q5
       gi_wp2
       refine (qge hR).mono ?_;rintro e X' (⟨rfl,hJ',hk'⟩ | ⟨rfl,hJx',hk'⟩)
       ·clear hy hR
        gi_wp2
        exact⟨KeepsFrom.up hk'.from' (by omega),hk'.up (by omega),by rw[<- List.append_assoc];exact hJ',j2.tr hk',j3.keeps hk'.from' (by omega)⟩
       ·clear hy hR
        gi_wp2
        exact⟨KeepsFrom.up hk' (by omega),rfl,⟨_,hJx'⟩,j3.keeps hk' (by omega)⟩
     | _=>exact False.elim hq
  ·have hr1:(ak.rel.toList == g.rel.toList)=false:=by rw[qp5];simpa using hrel
   have HN:Hid _:=q3s.out (.inr hrel);have hbl:=hal (.cells #[.string ak.rel,.slice fa ak.args.length fc] 92);have HBL:Hid _:=hbl;clear q3s q6l hal hbl
   gi_wp2
   refine⟨⟨k+1,ds,ys,_,_,_,_,_,_,_,_,_,_,_,_,_,_,_,_,_,_,_,_,_,_,_,_,_,_,_,_,_,_,_,_,_,_,_,_,_,_,_,_,rfl,by omega,HJ.out _ _ _ none hJk (qh HBL.out) (λr e=>by cases e),hSh.below HBL.out,hMk.tr (qt.ofBelow HBL.out),HN.out⟩,?_⟩;simp[intOf];omega
 ·have hkl:k=L.length:=by omega
  subst hkl;have q9:Hid ((∀p,p∈ys.map (·.1)↔qns M L g p)/\ys.length<=L.length*nn ^ (L.length - 1)):=⟨λp=>(Q5.out.1 p).trans (q1t M L g p),Q5.out.2⟩;clear Q5 qg8
  gi_wp2
  show LeavesInM Fence.wide n Tryz.prog _ _ _ (qes ds) .returning V;refine qfv (X:=J ys) (B:=N) (λ_ A B row hs hg hr=>HJ.out ys A B row hs hg hr) ds V hSh.nodup (λD hD=>⟨by have:=(hSh.at' D hD).1;omega,(hSh.at' D hD).2⟩) hJk (λW' hx=>?_);exact⟨_,results_none rfl _ _ _,⟨_,rfl⟩,.inl ⟨ys,q9.out,hx⟩⟩
