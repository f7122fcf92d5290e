/- A part -/
import Derived.Test.YtjajnhemgphefaaGreatDoorKMoF
set_option linter.all false
set_option maxRecDepth 100000
set_option maxHeartbeats 4000000
namespace Go.Proofs.YtjajnhemgphefaaGreatDoor
open Go renaming World->Wq,Value->Vq
open Go.RowKit Go.Shelf Go.Maps
attribute [local go_sem] Oper.semAt_some
variable {m af ae:Nat} {L:List Am} {W:Wq}
theorem qpy(B:Nat)(va:Vq)(put:Nms)(w:Wq)(ta:Option Addr)(tn tc:Nat)(cm:va=.slice ta tn tc) :
  Cs 231 #[.map (some B),va,put.v] w λe w'=>e=.returned (.func (.func 260) #[] #[Pt (w.heap.size+1),Pt (w.heap.size+2),Pt w.heap.size])/\
   w'=((w.alloc (.cells #[.map (some B)] 98)).alloc (.cells #[va] 134)).alloc (.cells put.c 176):=by
 subst cm;unfold Nms.v Nms.c;go_enter Tryz.func231,Tryz.ntmps231;go_wp2;go_ret;exact⟨rfl,rfl⟩
def qid(M:Gd->Option Int):List Am->Nms->Nms->Prop
 | [],put,p=>p=put
 | a::L,put,p=>∃x y q,x.size<=maxLen/\y.size<=maxLen/\(M ⟨a.rel,x,y⟩).isSome=true/\Q3 put a x y=some q/\qid M L q p
structure qwx(L:List Am):Prop where
 args:∀a∈L,a.args.length<=2
 nums:∀a∈L,∀t∈a.args,t.num < 6
 rels:∀a∈L,a.rel.size<=maxLen
structure qz7(Bm Bs Bp B nn af ae:Nat)(M:Gd->Option Int)(L:List Am)(vs:Vq)(put:Nms)(W:Wq):Prop where
 bm:W.heap[Bm]?=cC #[.map (some B)] 98
 bs:W.heap[Bs]?=cC #[vs] 134
 bp:W.heap[Bp]?=some (Obj.cells put.c 176)
 atoms:qar W af ae vs L
 md:qd4 W B nn M
theorem qz7.mk'{Bm Bs Bp B nn:Nat}{M:Gd->Option Int}{vs:Vq}{put:Nms}{W':Wq}(h:qz7 Bm Bs Bp B nn af ae M L vs put W)(hk:qn m W W'):qz7 Bm Bs Bp B nn af ae M L vs put W':=
 ⟨hk.cells _ _ _ (by unfold qcc;decide) h.bm,hk.cells _ _ _ (by unfold qcc;decide) h.bs,hk.cells _ _ _ (by unfold qcc;decide) h.bp,h.atoms.kept (λk c _ hc=>hk.cells k c _ (by unfold qcc;decide) hc) (λk c _ hc=>hk.cells k c _ (by unfold qcc;decide) hc),h.md.mk hk⟩
theorem qn.own{w0 V V':Wq}{row:Option Nat}(h:qn m w0 V)(hg:V.grownBy V' row)(hr:∀r,row=some r->w0.heap.size<=r):qn m w0 V':=by
 have hb:∀(k:Nat) (o:Obj),k < w0.heap.size->V.heap[k]?=some o->V'.heap[k]?=some o:=λk o hk ho=>
  (hg.block k (zg ho).1 (λe=>by have:=hr k e.symm;omega)).trans ho
 refine⟨λk c t ht hk=>hb k _ (zg hk).1 (h.cells k c t ht hk),λk es c hk=>hb k _ (zg hk).1 (h.maps k es c hk),⟨Nat.le_trans h.from'.size hg.size,λk o hm hk ho=>hb k o (zg hk).1 (h.from'.same k o hm hk ho)⟩⟩
def qog(g aa n tc:Nat):Vq:=.slice (if tc=1 then some ⟨g,aa,none⟩ else some ⟨g,aa+2,none⟩) n (tc - 1)
theorem qar.tail{g aa tc:Nat}{a:Am}(h:qar W af ae (.slice (some ⟨g,aa,none⟩) (a::L).length tc) (a::L)):qar W af ae (qog g aa L.length tc) L:=by
 obtain⟨ps,ad,cap,e1,e2,⟨e3,e5⟩,e4⟩:=h;cases e2;obtain⟨g',b5,b6,k1,k2,k3,k4⟩:=e4 (by simp);cases k1
 cases ps with
 | nil=>simp at e1
 | cons p0 pt=>
  simp only[List.map_cons,List.cons.injEq] at e1;obtain⟨_,e1⟩:=e1;refine⟨pt,_,tc - 1,e1,rfl,⟨λp hp=>e3 p (zt hp),by simp at e5;omega⟩,λcp=>?_⟩;have hl:L.length≠0:=λe=>cp (List.eq_nil_of_length_eq_zero e);refine⟨g,aa+2,b6,by rw[if_neg (by simp at e5;omega)],k2,k3,?_⟩;have:=congrArg (List.drop 2) k4;rw[List.drop_take,List.drop_drop] at this;simp only[List.flatMap_cons,qbb,List.cons_append,List.nil_append,List.drop_succ_cons,List.drop_zero] at this;rw[<- this];congr 1;simp;omega
theorem qvs:∀(L:List Am) (n:Nat) (Bm Bs Bp B nn af ae:Nat) (M:Gd->Option Int) (vs:Vq) (put:Nms) (w:Wq),qz7 Bm Bs Bp B nn af ae M L vs put w->qwx L->L.length<=3->(∀k,(put.get k).size<=maxLen)->∀m:Nat,
  qey m n 260 #[Pt Bs,Pt Bp,Pt Bm] (λp:NmX=>#[p.1.v]) (qn m)
   (λys=>(∀p,p∈ys.map (·.1)↔qid M L put p)/\ys.length<=nn ^ L.length) (λ_=>True) (nn ^ L.length) w
 | [],n,Bm,Bs,Bp,B,nn,af,ae,M,vs,put,w,hst,hbo,h3,qdr,m=>by
  intro l J Jx W hW bo hJ a6 hY h0;have ag:=hst.mk' (qn.ofBelow (m:=m) hW);obtain⟨ta,tc,a7⟩:=ag.atoms.form;subst a7;have ab:∀O,Below W.heap.size W (W.alloc O):=λO=>(Below.refl _ W).alloc zl O;have c1:∀O,(W.alloc O).cell? (Ad Bs 0)=some (.slice ta 0 tc):=λO=>cell_later (ab O) (by have:=ag.bs;simp[World.cell?,this]);have hp:=ag.bp;unfold Nms.c at hp;have d0:∀O,(W.alloc O).cell? (Ad Bp 0)=some (St put.a0):=λO=>cell_later (ab O) (by simp[World.cell?,hp]);have d1:∀O,(W.alloc O).cell? (Ad Bp 1)=some (St put.a1):=λO=>cell_later (ab O) (by simp[World.cell?,hp]);have d2:∀O,(W.alloc O).cell? (Ad Bp 2)=some (St put.a2):=λO=>cell_later (ab O) (by simp[World.cell?,hp]);have d3:∀O,(W.alloc O).cell? (Ad Bp 3)=some (St put.a3):=λO=>cell_later (ab O) (by simp[World.cell?,hp]);have d4:∀O,(W.alloc O).cell? (Ad Bp 4)=some (St put.a4):=λO=>cell_later (ab O) (by simp[World.cell?,hp]);have d5:∀O,(W.alloc O).cell? (Ad Bp 5)=some (St put.a5):=λO=>cell_later (ab O) (by simp[World.cell?,hp]);obtain⟨fn,tmps,assign,body,hy,hR⟩:=hY [] ⟨put,qdr⟩ (W.alloc (.cells #[.func (.yield l) #[] #[]] 274)) (hJ _ _ _ none h0 (qi (ab _)) (λr e=>by cases e)) (by simp);unfold Nms.v Nms.c at hy;clear ab;have HY:Hid _:=hY;have HJ:Hid (OwnFrom W.heap.size J):=hJ;have H0:Hid _:=h0;clear hst ag hY hJ a6 h0 hp;refine callsIn_of_wp_marks Tryz.func260 rfl trivial ?_ rfl;simp only[Tryz.ntmps260,List.size_toArray,List.length_cons,List.length_nil,Nat.reduceAdd,Nat.reduceSub,Array.replicate_succ,Array.replicate_zero,List.push_toArray,List.append_toArray,List.nil_append,List.cons_append]
  gi_wp2
  refine⟨λh=>(by cases h),hR.mono ?_⟩;rintro e W1 (⟨rfl,cd,cz⟩ | ⟨rfl,a9,_⟩)
  .clear hy hR
   gi_wp2
   refine⟨_,results_none rfl _ _ _,⟨_,rfl⟩,.inl ⟨[⟨put,qdr⟩],⟨λp=>by show p∈[put]↔_;simp[qid],Nat.le_refl 1⟩,cd⟩⟩
  .clear hy hR
   gi_wp2
   refine⟨_,results_none rfl _ _ _,⟨_,rfl⟩,.inr ⟨_,trivial,a9⟩⟩
 | a::L,n0,Bm,Bs,Bp,B,nn,af,ae,M,vs,put,w,hst,hbo,h3,qdr,m=>by
  obtain⟨n,hn⟩:∃n,12<=n:=⟨12,Nat.le_refl _⟩;refine qey.any (n:=n) ?_ n0;have n1:1<=n:=by omega
  have n2:1<=n - 1:=by omega
  have n3:1<=n - 1 - 1:=by omega
  have n4:1<=n - 1 - 1 - 1:=by omega
  have n5:1<=n - 1 - 1 - 1 - 1:=by omega
  intro l J Jx W hW bo hJ a6 hY h0;have ag:=hst.mk' (qn.ofBelow (m:=m) hW);clear hst hW;obtain⟨ta,tc,a7⟩:=ag.atoms.form;subst a7;obtain⟨g,aa,c',va,ce,x0,x1,av,hg⟩:=qld ag.atoms (k:=0) (by simp);cases ce;obtain⟨fa,fc,az⟩:=av.form;simp only[List.getElem_cons_zero,Nat.zero_mul,Nat.add_zero] at x0 x1 av az;rw[az] at x1;rw[az] at av;have ab:∀O,Below W.heap.size W (W.alloc O):=λO=>(Below.refl _ W).alloc zl O;have c1:∀O,(W.alloc O).cell? (Ad Bs 0)=some (.slice (some ⟨g,aa,none⟩) (a::L).length tc):=λO=>cell_later (ab O) (by have:=ag.bs;simp[World.cell?,this]);have c2:∀O,(W.alloc O).cell? (Ad Bm 0)=some (.map (some B)):=λO=>cell_later (ab O) (by have:=ag.bm;simp[World.cell?,this]);have y0:∀O,(W.alloc O).cell? (Ad g aa)=some (St a.rel):=λO=>cell_later (ab O) x0;have y1:∀O,(W.alloc O).cell? (Ad g (aa+1))=some (.slice fa a.args.length fc):=λO=>cell_later (ab O) x1;have hp:=ag.bp;unfold Nms.c at hp;have d0:∀O,(W.alloc O).cell? (Ad Bp 0)=some (St put.a0):=λO=>cell_later (ab O) (by simp[World.cell?,hp]);have d1:∀O,(W.alloc O).cell? (Ad Bp 1)=some (St put.a1):=λO=>cell_later (ab O) (by simp[World.cell?,hp]);have d2:∀O,(W.alloc O).cell? (Ad Bp 2)=some (St put.a2):=λO=>cell_later (ab O) (by simp[World.cell?,hp]);have d3:∀O,(W.alloc O).cell? (Ad Bp 3)=some (St put.a3):=λO=>cell_later (ab O) (by simp[World.cell?,hp]);have d4:∀O,(W.alloc O).cell? (Ad Bp 4)=some (St put.a4):=λO=>cell_later (ab O) (by simp[World.cell?,hp]);have d5:∀O,(W.alloc O).cell? (Ad Bp 5)=some (St put.a5):=λO=>cell_later (ab O) (by simp[World.cell?,hp]);have bb:=λW=>qpc B a (.slice fa a.args.length fc) put W fa a.args.length fc rfl;unfold Nms.v Nms.c at bb;have bu:Hid _:=bb;have HY:Hid _:=hY;have HJ:Hid (OwnFrom W.heap.size J):=hJ;have HJx:Hid (OwnFrom W.heap.size Jx):=a6;have H0:Hid _:=h0;have b0:Hid _:=ag;have bt:Hid _:=av;clear ag hY hJ a6 h0 hp ab bb av az x0 x1;have b7:((a::L).length:Int)=(L.length:Int)+1:=by simp
  have cu:L.length<=2:=by simpa using h3
  refine callsIn_of_wp_marks Tryz.func260 rfl trivial ?_ rfl;simp only[Tryz.ntmps260,List.size_toArray,List.length_cons,List.length_nil,Nat.reduceAdd,Nat.reduceSub,Array.replicate_succ,Array.replicate_zero,List.push_toArray,List.append_toArray,List.nil_append,List.cons_append]
  gi_wp2
  refine wpIn_mono (Q:=λe a' w'=>e=Exit.normal/\a'={tmps:=#[.func (.yield l) #[] #[],Pt Bs,Pt Bp,Pt Bm,Pt W.heap.size,undef,undef,.slice (some ⟨g,aa,none⟩) (L.length+1) tc,Ii (L.length+1),.bool false,undef,undef,undef,.map (some B),.slice (some ⟨g,aa,none⟩) (L.length+1) tc,.pointer (some ⟨g,aa,none⟩),.agg #[St a.rel,.slice fa a.args.length fc],.agg #[St put.a0,St put.a1,St put.a2,St put.a3,St put.a4,St put.a5],.func (.func 156) #[] #[Pt (W.heap.size+1),Pt (W.heap.size+1+1),Pt (W.heap.size+1+2)],undef,undef,undef,undef,undef,undef,undef,undef,undef,undef,undef],defers:=[]}/\w'=((((W.alloc (.cells #[.func (.yield l) #[] #[]] 274)).alloc (.cells #[.map (some B)] 98)).alloc (.cells #[St a.rel,.slice fa a.args.length fc] 92)).alloc (.cells #[St put.a0,St put.a1,St put.a2,St put.a3,St put.a4,St put.a5] 176)).drew) ?reg ?rest
  case reg=>
   first | (gi_region_with (refine⟨trivial,?_⟩;(try refine⟨λh=>(by cases h),?_⟩);refine (callsIn_wide.2 (bu.out _)).mono ?_;rintro e w' ⟨rfl,rfl⟩)) | fail
   all_goals exact⟨rfl,rfl,rfl⟩
  case rest=>
   rintro e a' w' ⟨rfl,rfl,rfl⟩
   gi_wp2
   obtain⟨NB,ap⟩:∃NB,W.heap.size=NB:=⟨_,rfl⟩;obtain⟨W0,ai⟩:∃W0,((((W.alloc (.cells #[.func (.yield l) #[] #[]] 274)).alloc (.cells #[.map (some B)] 98)).alloc (.cells #[St a.rel,.slice fa a.args.length fc] 92)).alloc (.cells #[St put.a0,St put.a1,St put.a2,St put.a3,St put.a4,St put.a5] 176)).drew=W0:=⟨_,rfl⟩;have ax:Below W.heap.size W W0:=by rw[<- ai];exact (((((Below.refl _ W).alloc zl _).alloc (by simp) _).alloc (by simp;omega) _).alloc (by simp;omega) _).drew
   have cf:W0.heap.size=NB+4:=by rw[<- ai,<- ap];show (World.alloc _ _).heap.size=_;simp
   have bY:W0.heap[NB]?=cC #[.func (.yield l) #[] #[]] 274:=by
    rw[<- ai,<- ap];exact (Below.heap_alloc _ _ _ (by simp;omega)).trans ((Below.heap_alloc _ _ _ (by simp;omega)).trans ((Below.heap_alloc _ _ _ (by simp)).trans (zn W _)))
   have bM:W0.heap[NB+1]?=cC #[.map (some B)] 98:=by
    rw[<- ai,<- ap];refine (Below.heap_alloc _ _ _ (by simp)).trans ((Below.heap_alloc _ _ _ (by simp)).trans ?_);have:=zn (W.alloc (.cells #[.func (.yield l) #[] #[]] 274)) (.cells #[.map (some B)] 98);rw[World.size_alloc] at this;exact this
   have bA:W0.heap[NB+1+1]?=cC #[St a.rel,.slice fa a.args.length fc] 92:=by
    rw[<- ai,<- ap];refine (Below.heap_alloc _ _ _ (by simp)).trans ?_;have:=zn ((W.alloc (.cells #[.func (.yield l) #[] #[]] 274)).alloc (.cells #[.map (some B)] 98)) (.cells #[St a.rel,.slice fa a.args.length fc] 92);rw[World.size_alloc,World.size_alloc] at this;exact this
   have bP:W0.heap[NB+1+2]?=some (Obj.cells put.c 176):=by
    rw[<- ai,<- ap];have:=zn (((W.alloc (.cells #[.func (.yield l) #[] #[]] 274)).alloc (.cells #[.map (some B)] 98)).alloc (.cells #[St a.rel,.slice fa a.args.length fc] 92)) (.cells #[St put.a0,St put.a1,St put.a2,St put.a3,St put.a4,St put.a5] 176);rw[World.size_alloc,World.size_alloc,World.size_alloc] at this;exact this
   have be:=(b0.out).mk' (qn.ofBelow (m:=m) ax);have bq:J [] W0:=HJ.out _ _ _ none H0.out (qi ax) (λr e=>by cases e);have Qfy:Qi W0 ae (.slice fa a.args.length fc) a.args:=Qi.mk bt.out (qn.ofBelow (m:=m) ax);have b9:m<=W0.heap.size:=by have:=ax.size;omega
   simp only[ap];rw[ai];clear ai
   refine qd1 (n:=n) (gf:=156) (lb:=#[Pt (NB+1),Pt (NB+1+1),Pt (NB+1+2)]) rfl (enters_of Tryz.func156 (by kernel_rfl) rfl)
    (qxi (n - 1) (NB+1) (NB+1+1) (NB+1+2) B nn ae M a (.slice fa a.args.length fc) put W0 bM bA bP be.md Qfy (hbo.args a (by simp)) (hbo.nums a (by simp)) (hbo.rels a (by simp)) qdr (W0.heap.size+2)) qn.tr (λV rc o' ho=>qn.put V _ _ o' (by omega) ho rfl (λ_ _ h=>by cases h)) (λ_=>rfl)
    (λpre V=>∃ys:List NmX,J ys V/\(∀p,p∈ys.map (·.1)↔∃q∈pre.map (·.1),qid M L q p)/\ys.length<=pre.length*nn ^ L.length/\qn m W0 V)
    (λc pre V=>c=.ret/\∃ys,Jx ys V)
    ?hI ?hIx ⟨[],bq,by simp,by simp,qn.ofBelow zr⟩
    (λx a' V=>∃Bx,V.heap[Bx]?=some (Obj.cells x.1.c 176)/\a'={tmps:=#[.func (.yield l) #[] #[],Pt Bs,Pt Bp,Pt Bm,Pt NB,Pt Bx,undef,.slice (some ⟨g,aa,none⟩) (L.length+1) tc,Ii (L.length+1),.bool false,undef,undef,undef,.map (some B),.slice (some ⟨g,aa,none⟩) (L.length+1) tc,.pointer (some ⟨g,aa,none⟩),.agg #[St a.rel,.slice fa a.args.length fc],.agg #[St put.a0,St put.a1,St put.a2,St put.a3,St put.a4,St put.a5],.func (.func 156) #[] #[Pt (NB+1),Pt (NB+1+1),Pt (NB+1+2)],.agg #[St x.1.a0,St x.1.a1,St x.1.a2,St x.1.a3,St x.1.a4,St x.1.a5],undef,undef,undef,undef,undef,undef,undef,undef,undef,undef],defers:=[]})
    ?hAx ?assign ?body ?done ?stop
   case hI=>
    rintro pre V V' row ⟨ys,h1,h2,h3,h4⟩ hg hr;exact⟨ys,HJ.out _ _ _ row h1 hg (λr e=>⟨by have:=(hr r e).1;omega,(hr r e).2⟩),h2,h3,h4.own hg (λr e=>(hr r e).1)⟩
   case hIx=>
    rintro c pre V V' row ⟨rfl,ys,h1⟩ hg hr;exact⟨rfl,ys,HJx.out _ _ _ row h1 hg (λr e=>⟨by have:=(hr r e).1;omega,(hr r e).2⟩)⟩
   case hAx=>
    rintro x a' _ V V' row ⟨Bx,h2,h3⟩ hg hr;exact⟨Bx,qj hg (λr e=>(hr r e).2) _ _ _ _ h2,h3⟩
   case assign=>
    rintro l' pre x V K hl c8 ⟨ys,h1,h2,h3,h4⟩ hK;have HK:Hid _:=hK;clear hK;unfold Nms.v Nms.c
    gi_wp2
    have ah:Below V.heap.size V (V.alloc (.cells #[St x.1.a0,St x.1.a1,St x.1.a2,St x.1.a3,St x.1.a4,St x.1.a5] 176)):=(Below.refl _ V).alloc zl _;exact HK.out _ _ (KeepsFrom.ofBelow ah) (qn.ofBelow ah) ⟨ys,HJ.out _ _ _ none h1 (qi ah) (λr e=>by cases e),h2,h3,h4.tr (qn.ofBelow ah)⟩ ⟨V.heap.size,zn V _,rfl⟩
   case done=>
    rintro D xs V hD ⟨ks,k1,k2,k3,k4⟩ ⟨ys,h1,h2,h3,h4⟩ hK
    have q7:Hid ((∀p,p∈ys.map (·.1)↔qid M (a::L) put p)/\ys.length<=nn ^ (a::L).length):=by
     refine⟨λp=>?_,?_⟩
     .rw[h2,k4];constructor
      .rintro⟨q,hq,hj⟩;obtain⟨⟨x,y⟩,co,hm⟩:=List.mem_filterMap.1 hq;obtain⟨z1,z2,z3⟩:=(k2 x y).1 co;exact⟨x,y,q,z1,z2,z3,hm,hj⟩
      .rintro⟨x,y,q,z1,z2,z3,hm,hj⟩;exact⟨q,List.mem_filterMap.2 ⟨(x,y),(k2 x y).2 ⟨z1,z2,z3⟩,hm⟩,hj⟩
     .have e1:xs.length<=nn:=by
       have:=q6u (put:=put) (a:=a) (ks:=ks);have e2:xs.length=(ks.filterMap (λk=>Q3 put a k.1 k.2)).length:=by rw[<- k4];simp
       omega
      refine Nat.le_trans h3 (Nat.le_trans (Nat.mul_le_mul_right _ e1) (Nat.le_of_eq ?_));rw[List.length_cons,Nat.pow_succ,Nat.mul_comm]
    gi_wp2
    refine⟨by simp,.inl ⟨_,_,rfl,run_takeDeferred hK,?_⟩⟩;refine⟨_,results_none rfl _ _ _,⟨_,rfl⟩,.inl ⟨ys,⟨λp=>by simpa using q7.out.1 p,by simpa using q7.out.2⟩,?_⟩⟩;exact HJ.out _ _ _ (some D) h1 (grownBy_putObj' V D (.deferred none)) (λr e=>by cases e;exact⟨by omega,_,hK,rfl⟩)
   case stop=>
    rintro D c pre V hD _ ⟨rfl,ys,h1⟩ hK
    gi_wp2
    refine⟨by simp,.inl ⟨_,_,rfl,run_takeDeferred hK,?_⟩⟩;refine⟨_,results_none rfl _ _ _,⟨_,rfl⟩,.inr ⟨ys,trivial,?_⟩⟩;exact HJx.out _ _ _ (some D) h1 (grownBy_putObj' V D (.deferred none)) (λr e=>by cases e;exact⟨by omega,_,hK,rfl⟩)
   case body=>
    rintro l' pre x a' V c4 ⟨rc,cg⟩ ⟨ys,h1,h2,h3,h4⟩ ⟨Bx,ck,rfl⟩ cc;have aq:=be.mk' h4;have c6:=h4.cells _ _ _ (by unfold qcc;decide) bY;have cw:L.length+1<=tc:=by obtain⟨_,c,e,hc⟩:=aq.atoms.form2;cases e;simpa using hc
    have z1:V.cell? (Ad Bm 0)=some (.map (some B)):=by have:=aq.bm;simp[World.cell?,this]
    have z2:V.cell? (Ad Bs 0)=some (.slice (some ⟨g,aa,none⟩) (L.length+1) tc):=by have:=aq.bs;simp[World.cell?,this]
    have al:=ck;unfold Nms.c at al;have q0:V.cell? (Ad Bx 0)=some (St x.1.a0):=zc al
    have q1:V.cell? (Ad Bx 1)=some (St x.1.a1):=zc al
    have q2:V.cell? (Ad Bx 2)=some (St x.1.a2):=zc al
    have q3:V.cell? (Ad Bx 3)=some (St x.1.a3):=zc al
    have q4:V.cell? (Ad Bx 4)=some (St x.1.a4):=zc al
    have q5:V.cell? (Ad Bx 5)=some (St x.1.a5):=zc al
    have bc:=λW=>qpy B (qog g aa L.length tc) x.1 W _ _ _ rfl;have bh:qar V af ae (qog g aa L.length tc) L:=qar.tail aq.atoms;unfold Nms.v Nms.c qog at bc;have cv:Hid _:=bc;have i1:(1:Int)<=(L.length:Int)+1:=by omega
    have i3:(L.length:Int)+1<=(tc:Int):=by omega
    have cq:Hid _:=aq;have b8:Hid _:=bh;clear bc al aq bh
    obtain⟨tb,an⟩:∃tb,qog g aa L.length tc=.slice (some tb) L.length (tc - 1):=by
     unfold qog;by_cases ak:tc=1
     .exact⟨⟨g,aa,none⟩,by rw[if_pos ak]⟩
     .exact⟨⟨g,aa+2,none⟩,by rw[if_neg ak]⟩
    have bv:Hid (qog g aa L.length tc=.slice (some tb) L.length (tc - 1)):=an
    have Qdx:Hid (∀W,Cs 231 #[.map (some B),.slice (some tb) L.length (tc - 1),.agg #[St x.1.a0,St x.1.a1,St x.1.a2,St x.1.a3,St x.1.a4,St x.1.a5]] W λe w'=>e=.returned (.func (.func 260) #[] #[Pt (W.heap.size+1),Pt (W.heap.size+2),Pt W.heap.size])/\
      w'=((W.alloc (.cells #[.map (some B)] 98)).alloc (.cells #[.slice (some tb) L.length (tc - 1)] 134)).alloc (.cells #[St x.1.a0,St x.1.a1,St x.1.a2,St x.1.a3,St x.1.a4,St x.1.a5] 176)):=λW=>qpy B _ x.1 W _ _ _ rfl
    have cb:Hid ((tc=1/\tb=⟨g,aa,none⟩)\/(tc≠1/\tb=⟨g,aa+2,none⟩)):=by
     show _\/_;unfold qog at an;by_cases ak:tc=1
     .rw[if_pos ak] at an;injection an with h;cases h;exact .inl ⟨ak,rfl⟩
     .rw[if_neg ak] at an;injection an with h;cases h;exact .inr ⟨ak,rfl⟩
    have bi:V.heap[l']?=some (.loop rc):=cg;clear an
    gi_wp2
    refine wpIn_mono (Q:=λe a' w'=>e=Exit.normal/\a'={tmps:=#[.func (.yield l) #[] #[],Pt Bs,Pt Bp,Pt Bm,Pt NB,Pt Bx,undef,.slice (some ⟨g,aa,none⟩) (L.length+1) tc,Ii (L.length+1),.bool false,undef,undef,undef,.map (some B),.slice (some ⟨g,aa,none⟩) (L.length+1) tc,.pointer (some ⟨g,aa,none⟩),.agg #[St a.rel,.slice fa a.args.length fc],.agg #[St put.a0,St put.a1,St put.a2,St put.a3,St put.a4,St put.a5],.func (.func 156) #[] #[Pt (NB+1),Pt (NB+1+1),Pt (NB+1+2)],.agg #[St x.1.a0,St x.1.a1,St x.1.a2,St x.1.a3,St x.1.a4,St x.1.a5],.map (some B),.slice (some ⟨g,aa,none⟩) (L.length+1) tc,.slice (some tb) L.length (tc - 1),.agg #[St x.1.a0,St x.1.a1,St x.1.a2,St x.1.a3,St x.1.a4,St x.1.a5],.func (.func 260) #[] #[Pt (V.heap.size+1),Pt (V.heap.size+2),Pt V.heap.size],undef,undef,undef,undef,undef],defers:=[]}/\w'=(((V.alloc (.cells #[.map (some B)] 98)).alloc (.cells #[.slice (some tb) L.length (tc - 1)] 134)).alloc (.cells #[St x.1.a0,St x.1.a1,St x.1.a2,St x.1.a3,St x.1.a4,St x.1.a5] 176)).drew) ?reg ?rest
    case reg=>
     rcases cb.out with⟨rfl,rfl⟩ | ⟨ak,rfl⟩
     .obtain rfl:L=[]:=List.eq_nil_of_length_eq_zero (by omega)
      first | (gi_region_with (refine⟨trivial,?_⟩;(try refine⟨λh=>(by cases h),?_⟩);refine (CallsIn.inRound l' (callsIn_wide.2 (Qdx.out _))).mono ?_;rintro e w' ⟨rfl,rfl⟩)) | fail
      all_goals exact⟨rfl,rfl,rfl⟩
     .first | (gi_region_with (refine⟨trivial,?_⟩;(try refine⟨λh=>(by cases h),?_⟩);refine (CallsIn.inRound l' (callsIn_wide.2 (Qdx.out _))).mono ?_;rintro e w' ⟨rfl,rfl⟩)) | fail
      all_goals exact⟨rfl,rfl,rfl⟩
    case rest=>
     rintro e a' w' ⟨rfl,rfl,rfl⟩
     gi_wp2
     obtain⟨VN,aw⟩:∃VN,V.heap.size=VN:=⟨_,rfl⟩;obtain⟨W5,ao⟩:∃W5,(((V.alloc (.cells #[.map (some B)] 98)).alloc (.cells #[.slice (some tb) L.length (tc - 1)] 134)).alloc (.cells #[St x.1.a0,St x.1.a1,St x.1.a2,St x.1.a3,St x.1.a4,St x.1.a5] 176)).drew=W5:=⟨_,rfl⟩;have ay:Below V.heap.size V W5:=by rw[<- ao];exact ((((Below.refl _ V).alloc zl _).alloc (by simp) _).alloc (by simp;omega) _).drew
     have cx:W5.heap.size=VN+3:=by rw[<- ao,<- aw];show (World.alloc _ _).heap.size=_;simp
     have eM:W5.heap[VN]?=cC #[.map (some B)] 98:=by
      rw[<- ao,<- aw];exact (Below.heap_alloc _ _ _ (by simp;omega)).trans ((Below.heap_alloc _ _ _ (by simp)).trans (zn V _))
     have eS:W5.heap[VN+1]?=cC #[.slice (some tb) L.length (tc - 1)] 134:=by
      rw[<- ao,<- aw];refine (Below.heap_alloc _ _ _ (by simp)).trans ?_;have:=zn (V.alloc (.cells #[.map (some B)] 98)) (.cells #[.slice (some tb) L.length (tc - 1)] 134);rw[World.size_alloc] at this;exact this
     have eP:W5.heap[VN+2]?=some (Obj.cells x.1.c 176):=by
      rw[<- ao,<- aw];have:=zn ((V.alloc (.cells #[.map (some B)] 98)).alloc (.cells #[.slice (some tb) L.length (tc - 1)] 134)) (.cells #[St x.1.a0,St x.1.a1,St x.1.a2,St x.1.a3,St x.1.a4,St x.1.a5] 176);rw[World.size_alloc,World.size_alloc] at this;exact this
     have au:∀m',qn m' V W5:=λm'=>qn.ofBelow ay
     have bk:qar W5 af ae (.slice (some tb) L.length (tc - 1)) L:=by
      rw[<- bv.out];exact qar.kept b8.out (λk c _ hc=>(au 0).cells k c _ (by unfold qcc;decide) hc) (λk c _ hc=>(au 0).cells k c _ (by unfold qcc;decide) hc)
     have ca:qz7 VN (VN+1) (VN+2) B nn af ae M L (.slice (some tb) L.length (tc - 1)) x.1 W5:=⟨eM,eS,eP,bk,(cq.out).md.mk (au 0)⟩;have c0:W0.heap.size<=V.heap.size:=h4.from'.size;have b3:W5.heap[l']?=some (.loop rc):=(ay.block l' (zg bi).1).trans bi;have bn:J (ys++[]) W5:=by rw[List.append_nil];exact HJ.out _ _ _ none h1 (qi ay) (λr e=>by cases e)
     have ih:=qvs L (n - 1 - 1 - 1) VN (VN+1) (VN+2) B nn af ae M (.slice (some tb) L.length (tc - 1)) x.1 W5 ca ⟨λb hb=>hbo.args b (by simp[hb]),λb hb=>hbo.nums b (by simp[hb]),λb hb=>hbo.rels b (by simp[hb])⟩ (by omega) x.2 (W5.heap.size+1);simp only[aw];rw[ao];clear ao
     refine q1y (n:=n - 1 - 1) (gf:=260) (lb:=#[Pt (VN+1),Pt (VN+2),Pt VN]) b3 rfl (enters_of Tryz.func260 (by kernel_rfl) rfl)
      ih qn.tr (λV' c3 o' ho=>qn.put V' _ _ o' (by omega) ho rfl (λ_ _ h=>by cases h)) (λ_=>rfl)
      (λac V2=>J (ys++ac) V2/\qn m W0 V2/\KeepsFrom W0.heap.size V V2/\qn (W0.heap.size+2) V V2)
      (λc ac V2=>c=.ret/\(∃zs,Jx zs V2)/\KeepsFrom W0.heap.size V V2)
      ?hI2 ?hIx2 ⟨bn,h4.tr (au m),KeepsFrom.ofBelow ay,au _⟩
      (λx2 a' V2=>∃By,V2.heap[By]?=some (Obj.cells x2.1.c 176)/\a'={tmps:=#[.func (.yield l) #[] #[],Pt Bs,Pt Bp,Pt Bm,Pt NB,Pt Bx,Pt By,.slice (some ⟨g,aa,none⟩) (L.length+1) tc,Ii (L.length+1),.bool false,undef,undef,undef,.map (some B),.slice (some ⟨g,aa,none⟩) (L.length+1) tc,.pointer (some ⟨g,aa,none⟩),.agg #[St a.rel,.slice fa a.args.length fc],.agg #[St put.a0,St put.a1,St put.a2,St put.a3,St put.a4,St put.a5],.func (.func 156) #[] #[Pt (NB+1),Pt (NB+1+1),Pt (NB+1+2)],.agg #[St x.1.a0,St x.1.a1,St x.1.a2,St x.1.a3,St x.1.a4,St x.1.a5],.map (some B),.slice (some ⟨g,aa,none⟩) (L.length+1) tc,.slice (some tb) L.length (tc - 1),.agg #[St x.1.a0,St x.1.a1,St x.1.a2,St x.1.a3,St x.1.a4,St x.1.a5],.func (.func 260) #[] #[Pt (VN+1),Pt (VN+2),Pt VN],.agg #[St x2.1.a0,St x2.1.a1,St x2.1.a2,St x2.1.a3,St x2.1.a4,St x2.1.a5],undef,undef,undef,undef],defers:=[]})
      ?hAx2 ?assign2 ?body2 ?done2 ?stop2
     case hI2=>
      rintro ac X X' row ⟨j1,j2,j3,j4⟩ hg hr;exact⟨HJ.out _ _ _ row j1 hg (λr e=>⟨by have:=(hr r e).1;omega,(hr r e).2⟩),j2.own hg (λr e=>by have:=(hr r e).1;omega),ownFrom_keepsFrom (β:=Unit) (B':=W5.heap.size) (by omega) () X X' row j3 hg hr,j4.own hg (λr e=>by have:=(hr r e).1;omega)⟩
     case hIx2=>
      rintro c ac X X' row ⟨rfl,⟨zs,j1⟩,j3⟩ hg hr;exact⟨rfl,⟨zs,HJx.out _ _ _ row j1 hg (λr e=>⟨by have:=(hr r e).1;omega,(hr r e).2⟩)⟩,ownFrom_keepsFrom (β:=Unit) (B':=W5.heap.size) (by omega) () X X' row j3 hg hr⟩
     case hAx2=>
      rintro x2 a' _ X X' row ⟨By,k2,k3⟩ hg hr;exact⟨By,qj hg (λr e=>(hr r e).2) _ _ _ _ k2,k3⟩
     case assign2=>
      rintro l2 ac x2 X K cl ch ⟨j1,j2,j3,j4⟩ hK;have HK:Hid _:=hK;clear hK;unfold Nms.v Nms.c
      gi_wp2
      have ah:Below X.heap.size X (X.alloc (.cells #[St x2.1.a0,St x2.1.a1,St x2.1.a2,St x2.1.a3,St x2.1.a4,St x2.1.a5] 176)):=(Below.refl _ X).alloc zl _;exact HK.out _ _ (KeepsFrom.ofBelow ah) (qn.ofBelow ah) ⟨HJ.out _ _ _ none j1 (qi ah) (λr e=>by cases e),j2.tr (qn.ofBelow ah),KeepsFrom.tr j3 (KeepsFrom.ofBelow ah),j4.tr (qn.ofBelow ah)⟩ ⟨X.heap.size,zn X _,rfl⟩
     case done2=>
      rintro xs X ⟨s1,s2⟩ ⟨j1,j2,j3,j4⟩
      have bd:Hid ((∀p,p∈(ys++xs).map (·.1)↔∃q∈(pre++[x]).map (·.1),qid M L q p)/\(ys++xs).length<=(pre++[x]).length*nn ^ L.length):=by
       refine⟨λp=>?_,?_⟩
       .rw[List.map_append,List.mem_append,h2,s1,List.map_append];constructor
        .rintro (⟨q,hq,hj⟩ | hj)
         .exact⟨q,List.mem_append_left _ hq,hj⟩
         .exact⟨x.1,List.mem_append_right _ (by show x.1∈[x.1];simp),hj⟩
        .rintro⟨q,hq,hj⟩;rcases List.mem_append.1 hq with hq | hq
         .exact .inl ⟨q,hq,hj⟩
         .have:q=x.1:=by
           have ci:q∈[x.1]:=hq;simpa using ci
          subst this;exact .inr hj
       .rw[List.length_append,List.length_append];show ys.length+xs.length<=(pre.length+1)*nn ^ L.length;rw[Nat.add_mul,Nat.one_mul];omega
      clear cf h2 h3
      gi_wp2
      exact⟨j3,j4,ys++xs,j1,λp=>by simpa only[List.mem_map] using bd.out.1 p,by simpa using bd.out.2,j2⟩
     case stop2=>
      rintro c ac X _ ⟨rfl,hx,j3⟩
      gi_wp2
      exact⟨j3,rfl,hx⟩
     case body2=>
      rintro l2 ac x2 a' X cl ⟨cr,cj⟩ ⟨j1,j2,j3,j4⟩ ⟨By,b4,rfl⟩ c5
      have cn:(ys++ac).length < nn ^ (a::L).length:=by
       rw[List.length_append,List.length_cons,Nat.pow_succ,Nat.mul_comm];have e1:pre.length+1<=nn:=cc;have e2:=Nat.mul_le_mul_right (nn ^ L.length) e1;rw[Nat.add_mul,Nat.one_mul] at e2;omega
      obtain⟨fn,tmps,assign,body,hy,hR⟩:=HY.out (ys++ac) x2 X j1 cn;unfold Nms.v Nms.c at hy;have bf:=j2.cells _ _ _ (by unfold qcc;decide) bY;have cy:X.cell? (Ad NB 0)=some (.func (.yield l) #[] #[]):=zc bf
      have aj:=b4;unfold Nms.c at aj;have r0:X.cell? (Ad By 0)=some (St x2.1.a0):=zc aj
      have r1:X.cell? (Ad By 1)=some (St x2.1.a1):=zc aj
      have r2:X.cell? (Ad By 2)=some (St x2.1.a2):=zc aj
      have r3:X.cell? (Ad By 3)=some (St x2.1.a3):=zc aj
      have r4:X.cell? (Ad By 4)=some (St x2.1.a4):=zc aj
      have r5:X.cell? (Ad By 5)=some (St x2.1.a5):=zc aj
      have ct:m<=W0.heap.size:=b9;have c7:Hid _:=h2;clear aj bf h2 h3
      gi_wp2
      refine (qe3 hR).mono ?_;rintro e X' (⟨rfl,bj,am⟩ | ⟨rfl,a8,am⟩)
      .clear hy hR
       gi_wp2
       exact⟨KeepsFrom.up am.from' (by omega),am.up (by omega),by rw[<- List.append_assoc];exact bj,j2.tr am,KeepsFrom.tr j3 (KeepsFrom.up am.from' (by omega)),j4.tr (am.up (by omega))⟩
      .clear hy hR
       gi_wp2
       exact⟨KeepsFrom.up am (by omega),rfl,⟨_,a8⟩,KeepsFrom.tr j3 (KeepsFrom.up am (by omega))⟩
