/- A part -/
import Derived.Test.YtjajnhemgphefaaGreatDoorKEgI
set_option linter.all false
set_option maxRecDepth 100000
set_option maxHeartbeats 16000000
namespace Go.Proofs.YtjajnhemgphefaaGreatDoor
open Go renaming World->Wq,Value->Vq
open Go.RowKit Go.Shelf Go.Maps
attribute [local go_sem] Oper.semAt_some
variable {M:Gd->Option Int} {L:List Am} {g:Gd} {m B an ac N:Nat} {W W':Wq} {ds:List Nat}
theorem q6o(B:Nat)(rel:By)(va vb:Vq)(g:Gd)(w:Wq)(ta:Option Addr)(tn tc:Nat)(fs:va=.slice ta tn tc)(sa:Option Addr)(sn sc:Nat)(cq:vb=.slice sa sn sc) :
  Cs 190 #[.map (some B),.agg #[St rel,va,vb],g.v] w λe w'=>e=.returned (.func (.func 229) #[] #[Pt (w.heap.size+1),Pt (w.heap.size+2),Pt w.heap.size])/\
   w'=((w.alloc (.cells #[.map (some B)] 98)).alloc (.cells #[St rel,va,vb] 136)).alloc (.cells g.c 111):=by
 subst fs cq;unfold Gd.v Gd.c;go_enter Tryz.func190,Tryz.ntmps190;go_wp2;go_ret;exact⟨rfl,rfl⟩
def qoh(M:Gd->Option Int)(L:List Am)(g:Gd)(p:Nms):Prop:=
 ∃i,∃h:i < L.length,(L[i]).rel=g.rel/\∃put,Q3 Qm L[i] g.x g.y=some put/\qid M (L.take i++L.drop (i+1)) put p
def qq3(M:Gd->Option Int)(L:List Am)(g:Gd)(k:Nat)(p:Nms):Prop:=
 ∃i,∃h:i < L.length,i < k/\(L[i]).rel=g.rel/\∃put,Q3 Qm L[i] g.x g.y=some put/\qid M (L.take i++L.drop (i+1)) put p
theorem q2n(M:Gd->Option Int)(L:List Am)(g:Gd)(p:Nms):qq3 M L g L.length p↔qoh M L g p:=
 ⟨λ⟨i,h,_,h2⟩=>⟨i,h,h2⟩,λ⟨i,h,h2⟩=>⟨i,h,h,h2⟩⟩
theorem qq4{k:Nat}{p:Nms}(hk:k < L.length):qq3 M L g (k+1) p↔qq3 M L g k p\/((L[k]).rel=g.rel/\∃put,Q3 Qm L[k] g.x g.y=some put/\qid M (L.take k++L.drop (k+1)) put p):=by
 constructor
 .rintro⟨i,h,hi,h2⟩;by_cases e:i=k
  .subst e;exact .inr h2
  .exact .inl ⟨i,h,by omega,h2⟩
 .rintro (⟨i,h,hi,h2⟩ | h2)
  .exact⟨i,h,by omega,h2⟩
  .exact⟨k,hk,by omega,h2⟩
structure q25(Bm Br Bg B nn an ac:Nat)(M:Gd->Option Int)(rel:By)(va vb:Vq)(L:List Am)(g:Gd)(W:Wq):Prop where
 bm:W.heap[Bm]?=cC #[.map (some B)] 98
 br:W.heap[Br]?=cC #[St rel,va,vb] 136
 bg:W.heap[Bg]?=some (Obj.cells g.c 111)
 atoms:qar W an ac vb L
 md:qd4 W B nn M
theorem q25.mk'{Bm Br Bg nn:Nat}{rel:By}{va vb:Vq}(h:q25 Bm Br Bg B nn an ac M rel va vb L g W)(hk:qn m W W'):q25 Bm Br Bg B nn an ac M rel va vb L g W':=
 ⟨hk.cells _ _ _ (by unfold qcc;decide) h.bm,hk.cells _ _ _ (by unfold qcc;decide) h.br,hk.cells _ _ _ (by unfold qcc;decide) h.bg,h.atoms.kept (λk c _ hc=>hk.cells k c _ (by unfold qcc;decide) hc) (λk c _ hc=>hk.cells k c _ (by unfold qcc;decide) hc),h.md.mk hk⟩
theorem qf7{n:Nat}{fn:Func}{tmps:Array Vq}{R:Ending->Wq->Prop}{X:Wq->Prop}(hX:OwnFrom B (λ_:Unit=>X)):∀(ds:List Nat) (W:Wq),ds.Nodup->(∀D∈ds,B<=D/\W.heap[D]?=some (.deferred (some [])))->X W->
  (∀W',X W'->LeavesInM Fence.wide n Tryz.prog fn tmps R [] .returning W')->LeavesInM Fence.wide n Tryz.prog fn tmps R (qe1 ds) .returning W
 | [],W,_,_,hx,h=>h W hx
 | D::ds,W,hn,hd,hx,h=>by
  obtain⟨hB,hD⟩:=hd D (by simp);refine⟨by simp,.inl ⟨_,_,rfl,run_takeDeferred hD,?_⟩⟩;have hg:=grownBy_putObj' W D (.deferred none);refine qf7 hX ds _ (List.nodup_cons.1 hn).2 (λD' h'=>?_) (hX () _ _ (some D) hx hg (λr e=>by cases e;exact⟨hB,_,hD,rfl⟩)) h;have fx:D'≠D:=λe=>(List.nodup_cons.1 hn).1 (e ▸ h');obtain⟨fi,bj⟩:=hd D' (by simp[h']);exact⟨fi,(hg.block D' (zg bj).1 (by simpa using fx)).trans bj⟩
structure qd5(N:Nat)(ds:List Nat)(W:Wq):Prop where
 nodup:ds.Nodup
 at':∀d∈ds,N<=d/\W.heap[d]?=some (.deferred (some []))
theorem qd5.nil(N:Nat)(W:Wq):qd5 N [] W:=⟨List.nodup_nil,by simp⟩
theorem qd5.keeps(h:qd5 N ds W)(hk:KeepsFrom m W W')(hm:m<=N):qd5 N ds W':=
 ⟨h.nodup,λd hd=>⟨(h.at' d hd).1,hk.same d _ (by have:=(h.at' d hd).1;omega) (h.at' d hd).2 rfl⟩⟩
theorem qd5.below(h:qd5 N ds W)(hb:Below W.heap.size W W'):qd5 N ds W':=h.keeps (KeepsFrom.ofBelow (m:=0) hb) zz
theorem qd5.grown{row:Option Nat}(h:qd5 N ds W)(hg:W.grownBy W' row)(hr:∀r,row=some r->B<=r)(hB:∀d∈ds,d < B):qd5 N ds W':=
 ⟨h.nodup,λd hd=>⟨(h.at' d hd).1,(hg.block d (zg (h.at' d hd).2).1 (λe=>by have:=hr d e.symm;have:=hB d hd;omega)).trans (h.at' d hd).2⟩⟩
theorem qd5.lt(h:qd5 N ds W):∀d∈ds,d < W.heap.size:=λd hd=>(zg (h.at' d hd).2).1
theorem qd5.cons{D:Nat}(h:qd5 N ds W)(hN:N<=D)(hD:W.heap[D]?=some (.deferred (some [])))(hn:D∉ds):qd5 N (D::ds) W:=
 ⟨List.nodup_cons.2 ⟨hn,h.nodup⟩,λd hd=>by
  rcases List.mem_cons.1 hd with rfl | hd
  .exact⟨hN,hD⟩
  .exact h.at' d hd⟩
theorem qar.ofOwns{b:Nat}{v:Vq}{ps:List (Am×Vq)}(h:W.ownsRow b 92 2 v ps.length (ps.flatMap qbb))(hs:∀p∈ps,Qi W ac p.2 p.1.args):qar W W.heap.size ac v (ps.map (·.1)):=by
 obtain⟨_,⟨hv,hn⟩ | ⟨g,cap,dl,hv,hb,hh,h1,h2,h3,h4⟩⟩:=h
 .have:ps=[]:=List.eq_nil_of_length_eq_zero hn;subst this;exact⟨[],none,0,rfl,hv,⟨by simp,Nat.le_refl _⟩,λh=>absurd rfl h⟩
 .refine⟨ps,some ⟨g,0,none⟩,cap,rfl,by rw[hv];simp,⟨hs,by simpa using h1⟩,λ_=>⟨g,0,dl,rfl,(zg hh).1,hh,by rw[List.drop_zero,<- h4];simp⟩⟩
theorem qqq(x y:By):(x.toList == y.toList)=decide (x=y):=by
 rw[qcy,qcy];by_cases h:x=y
 .subst h;simp
 .rw[decide_eq_false h];simp only[beq_eq_false_iff_ne,ne_eq];exact λh'=>h (qiw h')
theorem qsa(ps:List (Am×Vq)):∀k,(ps.flatMap qbb).take (k*2)=(ps.take k).flatMap qbb:=by
 induction ps with
 | nil=>simp
 | cons p ps ih=>
  intro k
  cases k with
  | zero=>simp
  | succ k=>
   rw[show (k+1)*2=k*2+1+1 by omega];simp only[List.flatMap_cons,qbb,List.cons_append,List.nil_append,List.take_succ_cons];rw[ih]
theorem qr8(ps:List (Am×Vq)):∀k,(ps.flatMap qbb).drop (k*2)=(ps.drop k).flatMap qbb:=by
 induction ps with
 | nil=>simp
 | cons p ps ih=>
  intro k
  cases k with
  | zero=>simp
  | succ k=>
   rw[show (k+1)*2=k*2+1+1 by omega];simp only[List.flatMap_cons,qbb,List.cons_append,List.nil_append,List.drop_succ_cons];rw[ih]
theorem q0k{bc:Nat}{ba:Option Addr}(h:qar W an ac (.slice ba L.length bc) L){k:Nat}(hk:k < L.length) :
  ∃(g aa:Nat) (ps:List (Am×Vq)),ba=some ⟨g,aa,none⟩/\ps.map (·.1)=L/\(∀p∈ps,Qi W ac p.2 p.1.args)/\L.length<=bc/\qkg W 2 ⟨.slice (some ⟨g,aa,none⟩) k bc,k,(ps.take k).flatMap qbb⟩/\
   ∀tb,(bc=k+1/\tb=⟨g,aa,none⟩)\/(bc≠k+1/\tb=⟨g,aa+(k+1)*2,none⟩)->qkg W 2 ⟨.slice (some tb) (L.length - (k+1)) (bc - (k+1)),L.length - (k+1),(ps.drop (k+1)).flatMap qbb⟩:=by
 obtain⟨ps,a,cap,e1,e2,⟨e3,e5⟩,e4⟩:=h;cases e2;obtain⟨g,aa,dl,k1,k2,k3,k4⟩:=e4 (λe=>by rw[e] at hk;simp at hk);have ai:ps.length=L.length:=by rw[<- e1];simp
 have Qj:∀j u,(ps.flatMap qbb)[j]?=some u->W.cell? (Ad g (aa+j))=some u:=by
  intro j u hj;rw[<- k4,List.getElem?_take] at hj;split at hj
  .rw[List.getElem?_drop] at hj;simp only[World.cell?,k3];simpa using hj
  .cases hj
 have c7:∀u∈ps.flatMap qbb,u.oneCell'=true:=by
  intro u hu;obtain⟨p,hp,hu⟩:=List.mem_flatMap.1 hu;obtain⟨ta,tc,hf⟩:=(e3 p hp).form;unfold qbb at hu;simp only[List.mem_cons,List.not_mem_nil,or_false] at hu;rcases hu with rfl | rfl
  .rfl
  .rw[hf];rfl
 have ch:g < W.heap.size:=(zg k3).1;refine⟨g,aa,ps,k1,e1,e3,e5,.inr ⟨_,_,rfl,by rw[qki,List.length_take];show min k ps.length*2=k*2;rw[Nat.min_eq_left (by omega)],λj u hj=>?_,λ_=>ch,λu hu=>c7 u ?_⟩,λtb b0=>?_⟩
 .refine (congrArg W.cell? (show (⟨g,aa,none⟩:Addr).add j=⟨g,aa+j,none⟩ by simp[Addr.add])).trans (Qj j u ?_);rw[<- qsa] at hj;rw[List.getElem?_take] at hj;split at hj
  .exact hj
  .cases hj
 .rw[<- qsa] at hu;exact List.mem_of_mem_take hu
 .refine .inr ⟨_,_,rfl,by rw[qki,List.length_drop];show (ps.length - (k+1))*2=(L.length - (k+1))*2;rw[ai],λj u hj=>?_,λ_=>?_,λu hu=>c7 u ?_⟩
  .rcases b0 with⟨hb,rfl⟩ | ⟨hb,rfl⟩
   .have:ps.drop (k+1)=[]:=List.drop_eq_nil_of_le (by omega);rw[this] at hj;simp at hj
   .have:=Qj ((k+1)*2+j) u (by rw[<- qr8,List.getElem?_drop] at hj;exact hj);refine (congrArg W.cell? (show (⟨g,aa+(k+1)*2,none⟩:Addr).add j=⟨g,aa+((k+1)*2+j),none⟩ from ?_)).trans this;simp[Addr.add,Nat.add_assoc]
  .rcases b0 with⟨hb,rfl⟩ | ⟨hb,rfl⟩ <;> exact ch
  .rw[<- qr8] at hu;exact List.mem_of_mem_drop hu
theorem Qaf(k:Nat):(Qm.get k).size<=maxLen:=by
 have:(Qm.get k)=⟨#[]⟩:=by unfold Qm Nms.get;split <;> rfl
 rw[this];exact zz
def Qcv(a:Am):Prop:=a.args.length<=2/\∀t∈a.args,t.num < 6
theorem q6p(n0 Bm Br Bg B nn an ac:Nat)(M:Gd->Option Int)(rel:By)(va vb:Vq)(L:List Am)(g:Gd)(w:Wq)(dt:q25 Bm Br Bg B nn an ac M rel va vb L g w)(bd:qwx L)(h3:L.length<=3)(hg:qik g)(m:Nat) :
  qey m n0 229 #[Pt Br,Pt Bg,Pt Bm] (λp:NmX=>#[p.1.v]) (qn m)
   (λys=>(∀p,p∈ys.map (·.1)↔qoh M L g p)/\ys.length<=L.length*nn ^ (L.length - 1)) (λ_=>True) (L.length*nn ^ (L.length - 1)) w:=by
 obtain⟨n,hn⟩:∃n,12<=n:=⟨12,Nat.le_refl _⟩;refine qey.any (n:=n) ?_ n0;have n1:1<=n:=by omega
 have n2:1<=n - 1:=by omega
 have n3:1<=n - 1 - 1:=by omega
 intro l J Jx W hW ev hJ ep hY h0;have bo:=dt.mk' (qn.ofBelow (m:=m) hW);clear dt hW;obtain⟨ba,bc,cq⟩:=bo.atoms.form;subst cq;have a9:Hid _:=bo;have HY:Hid _:=hY;have HJ:Hid (OwnFrom W.heap.size J):=hJ;have HJx:Hid (OwnFrom W.heap.size Jx):=ep;have H0:Hid _:=h0;have ah:∀O,Below W.heap.size W (W.alloc O):=λO=>(Below.refl _ W).alloc zl O;have e1:∀O,(W.alloc O).cell? (Ad Br 2)=some (.slice ba L.length bc):=λO=>cell_later (ah O) (by have:=bo.br;simp[World.cell?,this]);clear hY hJ ep h0 bo ah;refine callsIn_of_wp_marks Tryz.func229 rfl trivial ?_ rfl;simp only[Tryz.ntmps229,List.size_toArray,List.length_cons,List.length_nil,Nat.reduceAdd,Nat.reduceSub,Array.replicate_succ,Array.replicate_zero,List.push_toArray,List.append_toArray,List.nil_append,List.cons_append]
 gi_wp2
 obtain⟨N,hN⟩:∃N,W.heap.size=N:=⟨_,rfl⟩;obtain⟨W1,a7⟩:∃W1,W.alloc (.cells #[.func (.yield l) #[] #[]] 274)=W1:=⟨_,rfl⟩;have ce:Below W.heap.size W W1:=by rw[<- a7];exact (Below.refl _ W).alloc zl _
 have f5:W1.heap.size=N+1:=by rw[<- a7,<- hN];simp
 have bY:W1.heap[N]?=cC #[.func (.yield l) #[] #[]] 274:=by rw[<- a7,<- hN];exact zn W _
 have d7:=(a9.out).mk' (qn.ofBelow (m:=m) ce);have dw:J [] W1:=HJ.out _ _ _ none H0.out (qi ce) (λr e=>by cases e);have gh:m<=N:=by omega
 rw[hN] at HJ HJx;simp only[hN];rw[a7];clear a7 e1 a9 H0 ce hN ev;have a9:Hid _:=d7;have fl:Hid _:=bY;clear d7 bY;refine wpIn_loop (λA V=>∃(k:Nat) (ds:List Nat) (ys:List NmX) (u5 u6 u7 u8 u9 dg d9 eg dc em db de di dj ea dy dq ei dm c0 dk c1 dd c8 c3 ee c9 dn c4 el eo ek c6 dz da cu b7 co cd b3:Vq),A={tmps:=#[.func (.yield l) #[] #[],Pt Br,Pt Bg,Pt Bm,Pt N,u5,u6,u7,u8,u9,undef,.pointer (some ⟨Br,2,none⟩),.slice ba L.length bc,Ii L.length,Ii k,dg,d9,eg,dc,em,db,de,di,dj,ea,dy,dq,ei,dm,c0,dk,c1,dd,c8,c3,ee,c9,dn,c4,el,eo,ek,c6,dz,da,cu,b7,co,cd,undef,undef,undef,undef,undef,b3],defers:=qe1 ds}/\k<=L.length/\J ys V/\qd5 (N+1) ds V/\qn m W1 V/\Hid ((∀p,p∈ys.map (·.1)↔qq3 M L g k p)/\ys.length<=k*nn ^ (L.length - 1))) (λA _=>L.length - (intOf (A.tmps.getD 14 undef)).toNat) ⟨0,[],[],_,_,_,_,_,_,_,_,_,_,_,_,_,_,_,_,_,_,_,_,_,_,_,_,_,_,_,_,_,_,_,_,_,_,_,_,_,_,_,_,rfl,zz,dw,qd5.nil _ _,qn.ofBelow zr,⟨λp=>by simp[qq3],by simp⟩⟩ ?_;rintro A V ⟨k,ds,ys,u5,u6,u7,u8,u9,dg,d9,eg,dc,em,db,de,di,dj,ea,dy,dq,ei,dm,c0,dk,c1,dd,c8,c3,ee,c9,dn,c4,el,eo,ek,c6,dz,da,cu,b7,co,cd,b3,rfl,hk,bq,av,bi,Q7⟩;clear dw;have ay:=(a9.out).mk' bi;by_cases ax:k < L.length
 .obtain⟨ga,aa,ps,rfl,cv,eb,fp,a8,bh⟩:=q0k ay.atoms ax;obtain⟨g',e9,c',vk,fj,x0,x1,ca,ch⟩:=qld ay.atoms ax;cases fj;obtain⟨fa,fc,fy⟩:=ca.form;subst fy;have i1:(k:Int) < (L.length:Int):=by omega
  have ah:∀O,Below V.heap.size V (V.alloc O):=λO=>(Below.refl _ V).alloc zl O;have bb:=ay.bg;unfold Gd.c at bb;have z0:∀O,(V.alloc O).cell? (Ad Bg 0)=some (St g.rel):=λO=>cell_later (ah O) (by simp[World.cell?,bb]);have z1:∀O,(V.alloc O).cell? (Ad Bg 1)=some (St g.x):=λO=>cell_later (ah O) (by simp[World.cell?,bb]);have z2:∀O,(V.alloc O).cell? (Ad Bg 2)=some (St g.y):=λO=>cell_later (ah O) (by simp[World.cell?,bb])
  have az:Hid (Q3 Qm L[k] g.x g.y=none\/(L[k]).rel≠g.rel->(∀p,p∈ys.map (·.1)↔qq3 M L g (k+1) p)/\ys.length<=(k+1)*nn ^ (L.length - 1)):=by
   intro h;refine⟨λp=>?_,Nat.le_trans Q7.out.2 (Nat.mul_le_mul_right _ (by omega))⟩;rw[Q7.out.1,qq4 ax];constructor
   .exact .inl
   .rintro (h' | ⟨h1,put,h2,_⟩)
    .exact h'
    .rcases h with h | h
     .rw[h] at h2;cases h2
     .exact absurd h1 h
  have b4:Hid (∀put,Q3 Qm L[k] g.x g.y=some put->(L[k]).rel=g.rel->∀xs:List NmX,(∀p,p∈xs.map (·.1)↔qid M (L.take k++L.drop (k+1)) put p)->xs.length<=nn ^ (L.take k++L.drop (k+1)).length->(∀p,p∈(ys++xs).map (·.1)↔qq3 M L g (k+1) p)/\(ys++xs).length<=(k+1)*nn ^ (L.length - 1)):=by
   intro put d8 hr xs hx hl;refine⟨λp=>?_,?_⟩
   .rw[List.map_append,List.mem_append,Q7.out.1,hx,qq4 ax];constructor
    .rintro (h' | h')
     .exact .inl h'
     .exact .inr ⟨hr,put,d8,h'⟩
    .rintro (h' | ⟨_,fe,h1,h2⟩)
     .exact .inl h'
     .rw[d8] at h1;cases h1;exact .inr h2
   .have e1:(L.take k++L.drop (k+1)).length=L.length - 1:=by simp;omega
    rw[e1] at hl;have:=Q7.out.2;rw[List.length_append,Nat.add_mul,Nat.one_mul];omega
  have b9:Hid (Qcv L[k]):=⟨bd.args _ (zm ax),bd.nums _ (zm ax)⟩;generalize hLk:L[k]=ak at *;clear bb;by_cases hrel:ak.rel=g.rel
  .have dr:(ak.rel.toList == g.rel.toList)=true:=by rw[qqq];simpa using hrel
   have ap:Hid (∀O,Cs 157 #[.agg #[St ⟨#[]⟩,St ⟨#[]⟩,St ⟨#[]⟩,St ⟨#[]⟩,St ⟨#[]⟩,St ⟨#[]⟩],.agg #[St ak.rel,.slice fa ak.args.length fc],.agg #[St g.x,St g.y]] (V.alloc O) λe W1=>e=.returned (qk4 (Q3 Qm ak g.x g.y))/\Below (V.alloc O).heap.size (V.alloc O) W1):=λO=>
    qsn Qm ak _ ac g.x g.y _ (Qi.mk ca (qn.ofBelow (m:=m) (ah O))) b9.out.1 b9.out.2
   have en:Hid _:=ay;have c5:Hid _:=a8;have ej:Hid _:=bh;have eh:Hid _:=eb;have f6:N+1<=V.heap.size:=by have:=bi.from'.size;omega
   have fq:Hid _:=hrel;clear ah a8 bh eb ca ay hrel
   cases hm1:Q3 Qm ak g.x g.y with
   | none=>
    rw[hm1] at ap;unfold qk4 Nms.v Qm Nms.c at ap;have HN:=az.out (.inl hm1);have fw:Hid _:=HN;clear HN az b4;have ae:Hid (∀O W2 O',Below (V.alloc O).heap.size (V.alloc O) W2->Below V.heap.size V (W2.alloc O')):=λO W2 O' hb=>(((Below.refl _ V).alloc zl O).trans (hb.mono (by simp))).alloc (by have:=hb.size;simp at this;omega) _
    gi_wp2_with (refine⟨trivial,?_⟩;gi_at_call 157;refine (callsIn_wide.2 (ap.out _)).mono ?_;rintro e W2 ⟨rfl,a6⟩)
    have ao:=ae.out _ W2 (.cells #[St ⟨#[]⟩,St ⟨#[]⟩,St ⟨#[]⟩,St ⟨#[]⟩,St ⟨#[]⟩,St ⟨#[]⟩] 176) a6;refine⟨⟨k+1,ds,ys,_,_,_,_,_,_,_,_,_,_,_,_,_,_,_,_,_,_,_,_,_,_,_,_,_,_,_,_,_,_,_,_,_,_,_,_,_,_,_,_,rfl,by omega,HJ.out _ _ _ none bq (qi ao) (λr e=>by cases e),av.below ao,bi.tr (qn.ofBelow ao),fw.out⟩,?_⟩;simp[intOf];omega
   | some put=>
    rw[hm1] at ap;unfold qk4 Nms.v Nms.c at ap;have HP:=b4.out put hm1 fq.out;have dx:Hid _:=HP;clear HP az b4;have ae:Hid (∀O W2 O',Below (V.alloc O).heap.size (V.alloc O) W2->Below V.heap.size V (W2.alloc O')):=λO W2 O' hb=>(((Below.refl _ V).alloc zl O).trans (hb.mono (by simp))).alloc (by have:=hb.size;simp at this;omega) _
    have du:=qh1 _ _ _ (λk=>Qaf k) (λq hq=>⟨b9.out.2 _ (List.of_mem_zip hq).1,by
      have:=(List.of_mem_zip hq).2;simp at this;rcases this with h | h <;> rw[h]
      .exact hg.x
      .exact hg.y⟩) hm1
    have Qfh:Hid _:=du;clear du
    gi_wp2_with (refine⟨trivial,?_⟩;gi_at_call 157;refine (callsIn_wide.2 (ap.out _)).mono ?_;rintro e W2 ⟨rfl,a6⟩)
    obtain⟨PB,bt⟩:∃PB,W2.heap.size=PB:=⟨_,rfl⟩;obtain⟨W3,bf⟩:∃W3,W2.alloc (.cells #[St put.a0,St put.a1,St put.a2,St put.a3,St put.a4,St put.a5] 176)=W3:=⟨_,rfl⟩;have aj:=ae.out _ W2 (.cells #[St put.a0,St put.a1,St put.a2,St put.a3,St put.a4,St put.a5] 176) a6;have fk:W3.heap.size=PB+1:=by rw[<- bf,<- bt];simp
    have ff:W3.heap[PB]?=some (Obj.cells put.c 176):=by rw[<- bf,<- bt];exact zn W2 _
    have f8:V.heap.size<=PB:=by have:=a6.size;simp at this;omega
    rw[bf] at aj;simp only[bt];rw[bf];have b6:=(en.out).mk' (qn.ofBelow (m:=m) aj);clear bf bt a6 ap ae z0 z1 z2 x0 x1 dr;have c2:W3.cell? (Ad Br 2)=some (.slice (some ⟨ga,aa,none⟩) L.length bc):=by have:=b6.br;simp[World.cell?,this]
    have i2:(k:Int)<=(bc:Int):=by omega
    have i3:(k:Int)+1<=(L.length:Int):=by omega
    have i4:(L.length:Int)<=(bc:Int):=by omega
    have i5:(0:Int)<=(k:Int):=by omega
    have i6:(0:Int)<=(k:Int)+1:=by omega
    have Qcp:Hid _:=b6;clear b6
    have Qdl:Hid (∀tb,(bc=k+1/\tb=⟨ga,aa,none⟩)\/(bc≠k+1/\tb=⟨ga,aa+(k+1)*2,none⟩)->Cs 230 #[Sc W3.heap.size 2 2] (W3.alloc (.cells #[.slice (some ⟨ga,aa,none⟩) k bc,.slice (some tb) (L.length - (k+1)) (bc - (k+1))] 134)).drew λe w'=>∃oa oc,e=.returned (.slice oa (L.length - 1) oc)/\Below W3.heap.size W3 w'/\qar w' w'.heap.size ac (.slice oa (L.length - 1) oc) (L.take k++L.drop (k+1))):=by
     intro tb b0;have fz:=qkg.later (s:=⟨.slice (some ⟨ga,aa,none⟩) k bc,k,(ps.take k).flatMap qbb⟩) (size:=2) c5.out aj;have e7:=(ej.out tb b0).later aj;have cp:Below W3.heap.size W3 (W3.alloc (.cells #[.slice (some ⟨ga,aa,none⟩) k bc,.slice (some tb) (L.length - (k+1)) (bc - (k+1))] 134)).drew:=((Below.refl _ W3).alloc zl _).drew
     have hc:=qut W3.heap.size [⟨.slice (some ⟨ga,aa,none⟩) k bc,k,(ps.take k).flatMap qbb⟩,⟨.slice (some tb) (L.length - (k+1)) (bc - (k+1)),L.length - (k+1),(ps.drop (k+1)).flatMap qbb⟩] (W3.alloc (.cells #[.slice (some ⟨ga,aa,none⟩) k bc,.slice (some tb) (L.length - (k+1)) (bc - (k+1))] 134)).drew (zn W3 _) (by
       intro s hs;simp only[List.mem_cons,List.not_mem_nil,or_false] at hs;rcases hs with rfl | rfl
       .exact fz.later cp
       .exact e7.later cp) (by unfold qb8;simp;omega) (by simp)
     refine hc.mono ?_;rintro e w' ⟨v,rfl,ho,hb⟩
     have fg:qb8 [⟨.slice (some ⟨ga,aa,none⟩) k bc,k,(ps.take k).flatMap qbb⟩,⟨.slice (some tb) (L.length - (k+1)) (bc - (k+1)),L.length - (k+1),(ps.drop (k+1)).flatMap qbb⟩]=(ps.take k++ps.drop (k+1)).length:=by
      have:ps.length=L.length:=by rw[<- cv];simp
      unfold qb8;simp;omega
     rw[fg] at ho;have ey:(ps.take k++ps.drop (k+1)).flatMap qbb=[⟨.slice (some ⟨ga,aa,none⟩) k bc,k,(ps.take k).flatMap qbb⟩,⟨.slice (some tb) (L.length - (k+1)) (bc - (k+1)),L.length - (k+1),(ps.drop (k+1)).flatMap qbb⟩].flatMap Sl.xs:=by simp
     rw[<- ey] at ho;have dv:Below W3.heap.size W3 w':=cp.trans (hb.mono (by simp));obtain⟨oa,oc,ed⟩:=qd ho
     have ai:(ps.take k++ps.drop (k+1)).length=L.length - 1:=by
      have:ps.length=L.length:=by rw[<- cv];simp
      simp;omega
     have e6:Below V.heap.size V w':=aj.trans (dv.mono aj.size)
     have ci:=qar.ofOwns ho (λp hp=>Qi.mk (eh.out p (by
      rcases List.mem_append.1 hp with h | h
      .exact List.mem_of_mem_take h
      .exact List.mem_of_mem_drop h)) (qn.ofBelow (m:=m) e6))
     rw[ed,ai] at ci;refine⟨oa,oc,by rw[ed,ai],dv,?_⟩;have:(ps.take k++ps.drop (k+1)).map (·.1)=L.take k++L.drop (k+1):=by rw[List.map_append,List.map_take,List.map_drop,cv]
     rw[this] at ci;exact ci
    obtain⟨Pd,bv⟩:∃Pd:Option Addr->Nat->Wq->Prop,Pd=λoa oc w'=>Below W3.heap.size W3 w'/\qar w' w'.heap.size ac (.slice oa (L.length - 1) oc) (L.take k++L.drop (k+1)):=⟨_,rfl⟩
    have Qfx:Hid (∀oa oc w',Pd oa oc w'->Pd oa oc w'.drew):=by
     intro oa oc w' h;rw[bv] at h ⊢;exact⟨h.1.drew,qar.kept h.2 (λk c _ hc=>hc) (λk c _ hc=>hc)⟩
    have af:Hid (∀(tb:Addr) (k' n' c':Nat),k'=k->n'=L.length - (k+1)->c'=bc - (k+1)->((bc=k+1/\tb=⟨ga,aa,none⟩)\/(bc≠k+1/\tb=⟨ga,aa+(k+1)*2,none⟩))->Cs 230 #[Sc W3.heap.size 2 2] (W3.alloc (.cells #[.slice (some ⟨ga,aa,none⟩) k' bc,.slice (some tb) n' c'] 134)).drew λe w'=>∃oa oc,e=.returned (.slice oa (L.length - 1) oc)/\Pd oa oc w'):=by
     rintro tb k' n' c' rfl rfl rfl h;refine (Qdl.out tb h).mono ?_;rintro e w' ⟨oa,oc,h1,h2,h3⟩;exact⟨oa,oc,h1,by rw[bv];exact⟨h2,h3⟩⟩
    have HPd:Hid _:=bv;clear Qdl bv;refine wpIn_mono (Q:=λe a' w'=>match e with | Exit.normal=>∃oa oc cr cz cj v37 cx v39 cg cn cc ck ct,a'={tmps:=#[.func (.yield l) #[] #[],Pt Br,Pt Bg,Pt Bm,Pt N,Ii k,Pt V.heap.size,Pt PB,.bool true,.slice oa (L.length - 1) oc,undef,.pointer (some ⟨Br,2,none⟩),.slice (some ⟨ga,aa,none⟩) L.length bc,Ii L.length,Ii k,.bool true,Ii k,.pointer (some ⟨ga,aa+k*2,none⟩),.agg #[St ak.rel,.slice fa ak.args.length fc],Pt V.heap.size,St ak.rel,Pt Bg,St g.rel,.bool false,.tuple #[.agg #[St put.a0,St put.a1,St put.a2,St put.a3,St put.a4,St put.a5],.bool true],.agg #[St ⟨#[]⟩,St ⟨#[]⟩,St ⟨#[]⟩,St ⟨#[]⟩,St ⟨#[]⟩,St ⟨#[]⟩],.agg #[St ak.rel,.slice fa ak.args.length fc],.pointer (some ⟨Bg,1,none⟩),.agg #[St g.x,St g.y],.tuple #[.agg #[St put.a0,St put.a1,St put.a2,St put.a3,St put.a4,St put.a5],.bool true],.agg #[St put.a0,St put.a1,St put.a2,St put.a3,St put.a4,St put.a5],.bool true,.bool true,.bool false,cr,cz,cj,v37,cx,v39,cg,cn,cc,ck,ct,cu,b7,co,cd,undef,undef,undef,undef,undef,b3],defers:=qe1 ds}/\Pd oa oc w' | _=>False) ?reg ?rest
    case reg=>
     clear hLk Q7 HY dx c5 ej eh en a9 Qcp HPd fk;generalize L.length=len at *;have f7:IntKind.i64.wrap 1=1:=by decide
     have gc:IntKind.i64.wrap 2=2:=by decide
     have gg:IntKind.i64.wrap 3=3:=by decide
     by_cases aw:bc=k+1
     .have gb:len=bc:=by omega
      have cf:k=0\/k=1\/k=2:=by omega
      rcases cf with rfl | rfl | rfl
      .obtain rfl:bc=1:=by omega
       obtain rfl:len=1:=by omega
       have ag:Hid _:=af.out ⟨ga,aa,none⟩ 0 0 0 rfl rfl rfl (.inl ⟨rfl,rfl⟩);clear i1 i2 i3 i4 i5 i6 aw af
       first | (gi_region_with (refine⟨trivial,?_⟩;(try refine⟨λh=>(by cases h),?_⟩);refine (callsIn_wide.2 (ag.out)).mono ?_;rintro e w' ⟨oa,oc,rfl,ad⟩)) | fail
       all_goals exact⟨oa,oc,_,_,_,_,_,_,_,_,_,_,_,rfl,ad⟩
      .obtain rfl:bc=2:=by omega
       obtain rfl:len=2:=by omega
       have ag:Hid _:=af.out ⟨ga,aa,none⟩ 1 0 0 rfl rfl rfl (.inl ⟨rfl,rfl⟩);clear i1 i2 i3 i4 i5 i6 aw af
       first | (gi_region_with (refine⟨trivial,?_⟩;(try refine⟨λh=>(by cases h),?_⟩);refine (callsIn_wide.2 (ag.out)).mono ?_;rintro e w' ⟨oa,oc,rfl,ad⟩)) | fail
       all_goals exact⟨oa,oc,_,_,_,_,_,_,_,_,_,_,_,rfl,ad⟩
      .obtain rfl:bc=3:=by omega
       obtain rfl:len=3:=by omega
       have ag:Hid _:=af.out ⟨ga,aa,none⟩ 2 0 0 rfl rfl rfl (.inl ⟨rfl,rfl⟩);clear i1 i2 i3 i4 i5 i6 aw af
       first | (gi_region_with (refine⟨trivial,?_⟩;(try refine⟨λh=>(by cases h),?_⟩);refine (callsIn_wide.2 (ag.out)).mono ?_;rintro e w' ⟨oa,oc,rfl,ad⟩)) | fail
       all_goals exact⟨oa,oc,_,_,_,_,_,_,_,_,_,_,_,rfl,ad⟩
     .have cf:k=0\/k=1\/k=2:=by omega
      rcases cf with rfl | rfl | rfl
      .obtain⟨q,rfl⟩:∃q,len=q+1:=⟨len - 1,by omega⟩;have ag:Hid _:=af.out ⟨ga,aa+2,none⟩ 0 q (bc - 1) rfl (by omega) rfl (.inr ⟨by omega,rfl⟩);have j2:¬bc=1:=by omega
       have j3:((q:Int)+1)<=(bc:Int):=by omega
       have j4:(1:Int)<=(q:Int)+1:=by omega
       have j5:(0:Int)<=(bc:Int):=by omega
       have j6:(0:Int)<=(bc:Int):=by omega
       clear i1 i2 i3 i4 i5 i6 aw af
       first | (gi_region_with (refine⟨trivial,?_⟩;(try refine⟨λh=>(by cases h),?_⟩);refine (callsIn_wide.2 (ag.out)).mono ?_;rintro e w' ⟨oa,oc,rfl,ad⟩)) | fail
       all_goals exact⟨oa,oc,_,_,_,_,_,_,_,_,_,_,_,rfl,ad⟩
      .obtain⟨q,rfl⟩:∃q,len=q+2:=⟨len - 2,by omega⟩;have ag:Hid _:=af.out ⟨ga,aa+4,none⟩ 1 q (bc - 2) rfl (by omega) rfl (.inr ⟨by omega,rfl⟩);have j2:¬bc=2:=by omega
       have j3:((q:Int)+2)<=(bc:Int):=by omega
       have j4:(2:Int)<=(q:Int)+2:=by omega
       have j5:(0:Int)<=(bc:Int):=by omega
       have j6:(1:Int)<=(bc:Int):=by omega
       clear i1 i2 i3 i4 i5 i6 aw af
       first | (gi_region_with (refine⟨trivial,?_⟩;(try refine⟨λh=>(by cases h),?_⟩);refine (callsIn_wide.2 (ag.out)).mono ?_;rintro e w' ⟨oa,oc,rfl,ad⟩)) | fail
       all_goals exact⟨oa,oc,_,_,_,_,_,_,_,_,_,_,_,rfl,ad⟩
      .obtain rfl:len=3:=by omega
       have ag:Hid _:=af.out ⟨ga,aa+6,none⟩ 2 0 (bc - 3) rfl (by omega) rfl (.inr ⟨by omega,rfl⟩);have j2:¬bc=3:=by omega
       have j3:(3:Int)<=(bc:Int):=by omega
       have j5:(0:Int)<=(bc:Int):=by omega
       have j6:(2:Int)<=(bc:Int):=by omega
       clear i1 i2 i3 i4 i5 i6 aw af
       first | (gi_region_with (refine⟨trivial,?_⟩;(try refine⟨λh=>(by cases h),?_⟩);refine (callsIn_wide.2 (ag.out)).mono ?_;rintro e w' ⟨oa,oc,rfl,ad⟩)) | fail
       all_goals exact⟨oa,oc,_,_,_,_,_,_,_,_,_,_,_,rfl,ad⟩
    case rest=>
     rintro e a' W4 hq
     cases e with
     | normal=>
      obtain⟨oa,oc,cr,cz,cj,v37,cx,v39,cg,cn,cc,ck,ct,rfl,ad⟩:=hq;rw[HPd.out] at ad;obtain⟨bn,ef⟩:=ad;clear af Qfx HPd;have cw:=(Qcp.out).mk' (qn.ofBelow (m:=m) bn);have cm:W4.cell? (Ad Bm 0)=some (.map (some B)):=by have:=cw.bm;simp[World.cell?,this]
      have e0:W4.heap[PB]?=some (Obj.cells put.c 176):=(bn.block PB (by omega)).trans ff;have am:=e0;unfold Nms.c at am;have d0:W4.cell? (Ad PB 0)=some (St put.a0):=zc am
      have d1:W4.cell? (Ad PB 1)=some (St put.a1):=zc am
      have d2:W4.cell? (Ad PB 2)=some (St put.a2):=zc am
      have d3:W4.cell? (Ad PB 3)=some (St put.a3):=zc am
      have d4:W4.cell? (Ad PB 4)=some (St put.a4):=zc am
      have d5:W4.cell? (Ad PB 5)=some (St put.a5):=zc am
      have f0:Hid (∀W,Cs 231 #[.map (some B),.slice oa (L.length - 1) oc,.agg #[St put.a0,St put.a1,St put.a2,St put.a3,St put.a4,St put.a5]] W λe w'=>e=.returned (.func (.func 260) #[] #[Pt (W.heap.size+1),Pt (W.heap.size+2),Pt W.heap.size])/\
        w'=((W.alloc (.cells #[.map (some B)] 98)).alloc (.cells #[.slice oa (L.length - 1) oc] 134)).alloc (.cells #[St put.a0,St put.a1,St put.a2,St put.a3,St put.a4,St put.a5] 176)):=λW=>qpy B _ put W _ _ _ rfl
      have fb:Hid _:=ef;have Qfl:Hid _:=cw;have dh:Hid _:=bn;clear cw am ef bn
      gi_wp2_with (refine⟨trivial,?_⟩;gi_at_call 231;refine (callsIn_wide.2 (f0.out _)).mono ?_;rintro e w' ⟨rfl,rfl⟩)
      obtain⟨VN,bk⟩:∃VN,W4.heap.size=VN:=⟨_,rfl⟩;obtain⟨W5,aq⟩:∃W5,((W4.alloc (.cells #[.map (some B)] 98)).alloc (.cells #[.slice oa (L.length - 1) oc] 134)).alloc (.cells #[St put.a0,St put.a1,St put.a2,St put.a3,St put.a4,St put.a5] 176)=W5:=⟨_,rfl⟩;have ec:Below W4.heap.size W4 W5:=by rw[<- aq];exact (((Below.refl _ W4).alloc zl _).alloc (by simp) _).alloc (by simp;omega) _
      have f9:W5.heap.size=VN+3:=by rw[<- aq,<- bk];simp
      have eM:W5.heap[VN]?=cC #[.map (some B)] 98:=by
       rw[<- aq,<- bk];exact (Below.heap_alloc _ _ _ (by simp;omega)).trans ((Below.heap_alloc _ _ _ (by simp)).trans (zn W4 _))
      have eS:W5.heap[VN+1]?=cC #[.slice oa (L.length - 1) oc] 134:=by
       rw[<- aq,<- bk];refine (Below.heap_alloc _ _ _ (by simp)).trans ?_;have:=zn (W4.alloc (.cells #[.map (some B)] 98)) (.cells #[.slice oa (L.length - 1) oc] 134);rw[World.size_alloc] at this;exact this
      have eP:W5.heap[VN+2]?=some (Obj.cells put.c 176):=by
       rw[<- aq,<- bk];have:=zn ((W4.alloc (.cells #[.map (some B)] 98)).alloc (.cells #[.slice oa (L.length - 1) oc] 134)) (.cells #[St put.a0,St put.a1,St put.a2,St put.a3,St put.a4,St put.a5] 176);rw[World.size_alloc,World.size_alloc] at this;exact this
      have b5:∀m',qn m' W4 W5:=λm'=>qn.ofBelow ec;have Qdz:(L.take k++L.drop (k+1)).length=L.length - 1:=by simp;omega
      have et:qar W5 W4.heap.size ac (.slice oa (L.length - 1) oc) (L.take k++L.drop (k+1)):=qar.kept fb.out (λk c _ hc=>(b5 0).cells k c _ (by unfold qcc;decide) hc) (λk c _ hc=>(b5 0).cells k c _ (by unfold qcc;decide) hc);have fh:qz7 VN (VN+1) (VN+2) B nn W4.heap.size ac M (L.take k++L.drop (k+1)) (.slice oa (L.length - 1) oc) put W5:=⟨eM,eS,eP,et,(Qfl.out).md.mk (b5 0)⟩;have Qar:Below V.heap.size V W5:=aj.trans ((dh.out.trans (ec.mono dh.out.size)).mono aj.size)
      have cb:∀a,a∈L.take k++L.drop (k+1)->a∈L:=λa ha=>by
       rcases List.mem_append.1 ha with h | h
       .exact List.mem_of_mem_take h
       .exact List.mem_of_mem_drop h
      have eu:J (ys++[]) W5:=by rw[List.append_nil];exact HJ.out _ _ _ none bq (qi Qar) (λr e=>by cases e)
      have ih:=qvs (L.take k++L.drop (k+1)) (n - 1) VN (VN+1) (VN+2) B nn W4.heap.size ac M (.slice oa (L.length - 1) oc) put W5 fh ⟨λb hb=>bd.args b (cb b hb),λb hb=>bd.nums b (cb b hb),λb hb=>bd.rels b (cb b hb)⟩ (by omega) Qfh.out (W5.heap.size+2);have d6:qn m W1 W5:=bi.tr (qn.ofBelow Qar);have df:qd5 (N+1) ds W5:=av.below Qar;have bu:∀d∈ds,d < W5.heap.size:=df.lt;have f2:N+1<=W5.heap.size:=by have:=d6.from'.size;omega
      simp only[bk];rw[aq];clear aq
      refine qd1 (n:=n) (gf:=260) (lb:=#[Pt (VN+1),Pt (VN+2),Pt VN]) rfl (enters_of Tryz.func260 (by kernel_rfl) rfl)
       ih qn.tr (λV' ge o' ho=>qn.put V' _ _ o' (by omega) ho rfl (λ_ _ h=>by cases h)) (λ_=>rfl)
       (λab V2=>J (ys++ab) V2/\qn m W1 V2/\qd5 (N+1) ds V2)
       (λc ab V2=>c=.ret/\(∃zs,Jx zs V2)/\qd5 (N+1) ds V2)
       ?hI2 ?hIx2 ⟨eu,d6,df⟩
       (λx2 a' V2=>∃Bx,V2.heap[Bx]?=some (Obj.cells x2.1.c 176)/\a'={tmps:=#[.func (.yield l) #[] #[],Pt Br,Pt Bg,Pt Bm,Pt N,Ii k,Pt V.heap.size,Pt PB,.bool true,.slice oa (L.length - 1) oc,Pt Bx,.pointer (some ⟨Br,2,none⟩),.slice (some ⟨ga,aa,none⟩) L.length bc,Ii L.length,Ii k,.bool true,Ii k,.pointer (some ⟨ga,aa+k*2,none⟩),.agg #[St ak.rel,.slice fa ak.args.length fc],Pt V.heap.size,St ak.rel,Pt Bg,St g.rel,.bool false,.tuple #[.agg #[St put.a0,St put.a1,St put.a2,St put.a3,St put.a4,St put.a5],.bool true],.agg #[St ⟨#[]⟩,St ⟨#[]⟩,St ⟨#[]⟩,St ⟨#[]⟩,St ⟨#[]⟩,St ⟨#[]⟩],.agg #[St ak.rel,.slice fa ak.args.length fc],.pointer (some ⟨Bg,1,none⟩),.agg #[St g.x,St g.y],.tuple #[.agg #[St put.a0,St put.a1,St put.a2,St put.a3,St put.a4,St put.a5],.bool true],.agg #[St put.a0,St put.a1,St put.a2,St put.a3,St put.a4,St put.a5],.bool true,.bool true,.bool false,cr,cz,cj,v37,cx,v39,cg,cn,cc,ck,ct,.map (some B),.slice oa (L.length - 1) oc,.agg #[St put.a0,St put.a1,St put.a2,St put.a3,St put.a4,St put.a5],.func (.func 260) #[] #[Pt (VN+1),Pt (VN+2),Pt VN],.agg #[St x2.1.a0,St x2.1.a1,St x2.1.a2,St x2.1.a3,St x2.1.a4,St x2.1.a5],undef,undef,undef,undef,b3],defers:=[]})
       ?hAx2 ?assign2 ?body2 ?done2 ?stop2
      case hI2=>
       rintro ab X X' row ⟨j1,j2,j3⟩ hg hr;exact⟨HJ.out _ _ _ row j1 hg (λr e=>⟨by have:=(hr r e).1;omega,(hr r e).2⟩),j2.own hg (λr e=>by have:=(hr r e).1;omega),j3.grown hg (λr e=>(hr r e).1) bu⟩
      case hIx2=>
       rintro c ab X X' row ⟨rfl,⟨zs,j1⟩,j3⟩ hg hr;exact⟨rfl,⟨zs,HJx.out _ _ _ row j1 hg (λr e=>⟨by have:=(hr r e).1;omega,(hr r e).2⟩)⟩,j3.grown hg (λr e=>(hr r e).1) bu⟩
      case hAx2=>
       rintro x2 a' _ X X' row ⟨Bx,q2,q3⟩ hg hr;exact⟨Bx,qj hg (λr e=>(hr r e).2) _ _ _ _ q2,q3⟩
      case assign2=>
       rintro l2 ab x2 X K fr fm ⟨j1,j2,j3⟩ hK;have HK:Hid _:=hK;clear hK;unfold Nms.v Nms.c
       gi_wp2
       have ae:Below X.heap.size X (X.alloc (.cells #[St x2.1.a0,St x2.1.a1,St x2.1.a2,St x2.1.a3,St x2.1.a4,St x2.1.a5] 176)):=(Below.refl _ X).alloc zl _;exact HK.out _ _ (KeepsFrom.ofBelow ae) (qn.ofBelow ae) ⟨HJ.out _ _ _ none j1 (qi ae) (λr e=>by cases e),j2.tr (qn.ofBelow ae),j3.below ae⟩ ⟨X.heap.size,zn X _,rfl⟩
      case done2=>
       rintro D xs X hD ⟨s1,s2⟩ ⟨j1,j2,j3⟩ hK;have ew:Hid _:=dx.out xs s1 s2;have b8:D∉ds:=λh=>by have:=bu D h;omega
       have be:Hid _:=j3.cons (D:=D) (by omega) hK b8;clear Q7 s1 s2
       gi_wp2
       refine⟨⟨k+1,D::ds,ys++xs,_,_,_,_,_,_,_,_,_,_,_,_,_,_,_,_,_,_,_,_,_,_,_,_,_,_,_,_,_,_,_,_,_,_,_,_,_,_,_,_,rfl,by omega,j1,be.out,j2,ew.out⟩,?_⟩;simp[intOf];omega
      case stop2=>
       rintro D c pre X hD _ ⟨rfl,hz,j3⟩ hK;have b8:D∉ds:=λh=>by have:=bu D h;omega
       have be:Hid _:=j3.cons (D:=D) (by omega) hK b8;have HZ:Hid _:=hz;clear Q7 hz
       gi_wp2
       show LeavesInM Fence.wide n Tryz.prog _ _ _ (qe1 (D::ds)) .returning X;refine qf7 (X:=λV=>∃zs,Jx zs V) (B:=N) (λ_ A B row hs hg hr=>by obtain⟨zs,hz⟩:=hs;exact⟨zs,HJx.out zs A B row hz hg hr⟩) (D::ds) X be.out.nodup (λD' bj=>⟨by have:=(be.out.at' D' bj).1;omega,(be.out.at' D' bj).2⟩) HZ.out (λW' hx=>?_);obtain⟨zs,hz⟩:=hx;exact⟨_,results_none rfl _ _ _,⟨_,rfl⟩,.inr ⟨zs,trivial,hz⟩⟩
      case body2=>
       rintro l2 ab x2 a' X fr ⟨f1,fo⟩ ⟨j1,j2,j3⟩ ⟨By,e8,rfl⟩ fv
       have ft:(ys++ab).length < L.length*nn ^ (L.length - 1):=by
        rw[List.length_append];have e1:=Q7.out.2;rw[Qdz] at fv;have e2:(k+1)*nn ^ (L.length - 1)<=L.length*nn ^ (L.length - 1):=Nat.mul_le_mul_right _ (by omega);rw[Nat.add_mul,Nat.one_mul] at e2;omega
       obtain⟨fn,tmps,assign,body,hy,hR⟩:=HY.out (ys++ab) x2 X j1 ft;unfold Nms.v Nms.c at hy;have dp:=j2.cells _ _ _ (by unfold qcc;decide) fl.out;have cy:X.cell? (Ad N 0)=some (.func (.yield l) #[] #[]):=zc dp
       have al:=e8;unfold Nms.c at al;have r0:X.cell? (Ad By 0)=some (St x2.1.a0):=zc al
       have r1:X.cell? (Ad By 1)=some (St x2.1.a1):=zc al
       have r2:X.cell? (Ad By 2)=some (St x2.1.a2):=zc al
       have r3:X.cell? (Ad By 3)=some (St x2.1.a3):=zc al
       have r4:X.cell? (Ad By 4)=some (St x2.1.a4):=zc al
       have r5:X.cell? (Ad By 5)=some (St x2.1.a5):=zc al
       clear al dp Q7
       gi_wp2
       refine (qe3 hR).mono ?_;rintro e X' (⟨rfl,es,au⟩ | ⟨rfl,cl,au⟩)
       .clear hy hR
        gi_wp2
        exact⟨KeepsFrom.up au.from' (by omega),au.up (by omega),by rw[<- List.append_assoc];exact es,j2.tr au,j3.keeps au.from' (by omega)⟩
       .clear hy hR
        gi_wp2
        exact⟨KeepsFrom.up au (by omega),rfl,⟨_,cl⟩,j3.keeps au (by omega)⟩
     | _=>exact False.elim hq
  .have dr:(ak.rel.toList == g.rel.toList)=false:=by rw[qqq];simpa using hrel
   have HN:Hid _:=az.out (.inr hrel);have ae:=ah (.cells #[St ak.rel,.slice fa ak.args.length fc] 92);have ao:Hid _:=ae;clear az b4 ah ae
   gi_wp2
   refine⟨⟨k+1,ds,ys,_,_,_,_,_,_,_,_,_,_,_,_,_,_,_,_,_,_,_,_,_,_,_,_,_,_,_,_,_,_,_,_,_,_,_,_,_,_,_,_,rfl,by omega,HJ.out _ _ _ none bq (qi ao.out) (λr e=>by cases e),av.below ao.out,bi.tr (qn.ofBelow ao.out),HN.out⟩,?_⟩;simp[intOf];omega
 .have ez:k=L.length:=by omega
  subst ez;have q7:Hid ((∀p,p∈ys.map (·.1)↔qoh M L g p)/\ys.length<=L.length*nn ^ (L.length - 1)):=⟨λp=>(Q7.out.1 p).trans (q2n M L g p),Q7.out.2⟩;clear Q7 ay
  gi_wp2
  show LeavesInM Fence.wide n Tryz.prog _ _ _ (qe1 ds) .returning V;refine qf7 (X:=J ys) (B:=N) (λ_ A B row hs hg hr=>HJ.out ys A B row hs hg hr) ds V av.nodup (λD hD=>⟨by have:=(av.at' D hD).1;omega,(av.at' D hD).2⟩) bq (λW' hx=>?_);exact⟨_,results_none rfl _ _ _,⟨_,rfl⟩,.inl ⟨ys,q7.out,hx⟩⟩
