/- Package model: the iterator over the names with which a -/
import Derived.Test.YtjajnhemgphefaaGreatDoorJMoF
set_option linter.unusedVariables false
set_option linter.unusedSimpArgs false
set_option maxRecDepth 100000
set_option maxHeartbeats 4000000
namespace Go.Proofs.YtjajnhemgphefaaGreatDoor
open Go renaming World->Wq,Value->Vq
open Go.RowKit Go.Shelf Go.Maps
attribute [local go_sem] Oper.semAt_some
variable {m b45 b87:Nat} {L:List Am} {W:Wq}
theorem qpd(B:Nat)(va:Vq)(put:Nms)(w:Wq)(ta:Option Addr)(tn tc:Nat)(hva:va=.slice ta tn tc) :
  Calls Tryz.prog 231 #[.map (some B),va,put.v] w λe w'=>e=.returned (.func (.func 260) #[] #[.pointer (some ⟨w.heap.size+1,0,none⟩),.pointer (some ⟨w.heap.size+2,0,none⟩),.pointer (some ⟨w.heap.size,0,none⟩)])/\
   w'=((w.alloc (.cells #[.map (some B)] 98)).alloc (.cells #[va] 134)).alloc (.cells put.c 176):=by
 subst hva;unfold Nms.v Nms.c;go_enter Tryz.func231,Tryz.ntmps231;go_wp2;go_ret;exact⟨rfl,rfl⟩
def qh3(M:Gd->Option Int):List Am->Nms->Nms->Prop
 | [],put,p=>p=put
 | a::L,put,p=>∃x y q,x.size<=maxLen/\y.size<=maxLen/\(M ⟨a.rel,x,y⟩).isSome=true/\qaj put a x y=some q/\qh3 M L q p
structure qwb(L:List Am):Prop where
 args:∀a∈L,a.args.length<=2
 nums:∀a∈L,∀t∈a.args,t.num < 6
 rels:∀a∈L,a.rel.size<=maxLen
structure qzj(Bm Bs Bp B nn b45 b87:Nat)(M:Gd->Option Int)(L:List Am)(vs:Vq)(put:Nms)(W:Wq):Prop where
 bm:W.heap[Bm]?=some (Obj.cells #[.map (some B)] 98)
 bs:W.heap[Bs]?=some (Obj.cells #[vs] 134)
 bp:W.heap[Bp]?=some (Obj.cells put.c 176)
 atoms:qas W b45 b87 vs L
 md:qda W B nn M
theorem qzj.mk'{Bm Bs Bp B nn:Nat}{M:Gd->Option Int}{vs:Vq}{put:Nms}{W':Wq}(h:qzj Bm Bs Bp B nn b45 b87 M L vs put W)(hk:qt m W W'):qzj Bm Bs Bp B nn b45 b87 M L vs put W':=
 ⟨hk.cells _ _ _ (by unfold qcj;decide) h.bm,hk.cells _ _ _ (by unfold qcj;decide) h.bs,hk.cells _ _ _ (by unfold qcj;decide) h.bp,h.atoms.kept (λk c _ hc=>hk.cells k c _ (by unfold qcj;decide) hc) (λk c _ hc=>hk.cells k c _ (by unfold qcj;decide) hc),h.md.mk hk⟩
theorem qt.own{w0 V V':Wq}{row:Option Nat}(h:qt m w0 V)(hg:V.grownBy V' row)(hr:∀r,row=some r->w0.heap.size<=r):qt m w0 V':=by
 have hb:∀(k:Nat) (o:Obj),k < w0.heap.size->V.heap[k]?=some o->V'.heap[k]?=some o:=λk o hk ho=>
  (hg.block k (zg ho).1 (λe=>by have:=hr k e.symm;omega)).trans ho
 refine⟨λk c t ht hk=>hb k _ (zg hk).1 (h.cells k c t ht hk),λk es c hk=>hb k _ (zg hk).1 (h.maps k es c hk),⟨Nat.le_trans h.from'.size hg.size,λk o hm hk ho=>hb k o (zg hk).1 (h.from'.same k o hm hk ho)⟩⟩
def qnr(g off n tc:Nat):Vq:=.slice (if tc=1 then some ⟨g,off,none⟩ else some ⟨g,off+2,none⟩) n (tc - 1)
theorem qas.tail{g off tc:Nat}{a:Am}(h:qas W b45 b87 (.slice (some ⟨g,off,none⟩) (a::L).length tc) (a::L)):qas W b45 b87 (qnr g off L.length tc) L:=by
 obtain⟨ps,ad,cap,e1,e2,⟨e3,e5⟩,e4⟩:=h;cases e2;obtain⟨g',off',cur,k1,k2,k3,k4⟩:=e4 (by simp);cases k1
 cases ps with
 | nil=>simp at e1
 | cons p0 pt=>
  simp only[List.map_cons,List.cons.injEq] at e1;obtain⟨_,e1⟩:=e1;refine⟨pt,_,tc - 1,e1,rfl,⟨λp hp=>e3 p (List.mem_cons_of_mem _ hp),by simp at e5;omega⟩,λhne=>?_⟩;have hl:L.length≠0:=λe=>hne (List.eq_nil_of_length_eq_zero e);refine⟨g,off+2,cur,by rw[if_neg (by simp at e5;omega)],k2,k3,?_⟩;have:=congrArg (List.drop 2) k4;rw[List.drop_take,List.drop_drop] at this;simp only[List.flatMap_cons,qbc,List.cons_append,List.nil_append,List.drop_succ_cons,List.drop_zero] at this;rw[<- this];congr 1;simp;omega
theorem qu6:∀(L:List Am) (n:Nat) (Bm Bs Bp B nn b45 b87:Nat) (M:Gd->Option Int) (vs:Vq) (put:Nms) (w:Wq),qzj Bm Bs Bp B nn b45 b87 M L vs put w->qwb L->L.length<=3->(∀k,(put.get k).size<=maxLen)->∀m:Nat,
  qfg m n 260 #[.pointer (some ⟨Bs,0,none⟩),.pointer (some ⟨Bp,0,none⟩),.pointer (some ⟨Bm,0,none⟩)] (λp:NmX=>#[p.1.v]) (qt m)
   (λys=>(∀p,p∈ys.map (·.1)↔qh3 M L put p)/\ys.length<=nn ^ L.length) (λ_=>True) (nn ^ L.length) w
 | [],n,Bm,Bs,Bp,B,nn,b45,b87,M,vs,put,w,hst,hbo,h3,qd1,m=>by
  intro l J Jx W hW hsz hJ hJx hY h0;have qfr:=hst.mk' (qt.ofBelow (m:=m) hW);obtain⟨ta,tc,hvs⟩:=qfr.atoms.form;subst hvs;have hal:∀O,Below W.heap.size W (W.alloc O):=λO=>(Below.refl _ W).alloc zl O;have c1:∀O,(W.alloc O).cell? ⟨Bs,0,none⟩=some (.slice ta 0 tc):=λO=>cell_later (hal O) (by have:=qfr.bs;simp[World.cell?,this]);have hp:=qfr.bp;unfold Nms.c at hp;have d0:∀O,(W.alloc O).cell? ⟨Bp,0,none⟩=some (.string put.a0):=λO=>cell_later (hal O) (by simp[World.cell?,hp]);have d1:∀O,(W.alloc O).cell? ⟨Bp,1,none⟩=some (.string put.a1):=λO=>cell_later (hal O) (by simp[World.cell?,hp]);have d2:∀O,(W.alloc O).cell? ⟨Bp,2,none⟩=some (.string put.a2):=λO=>cell_later (hal O) (by simp[World.cell?,hp]);have d3:∀O,(W.alloc O).cell? ⟨Bp,3,none⟩=some (.string put.a3):=λO=>cell_later (hal O) (by simp[World.cell?,hp]);have d4:∀O,(W.alloc O).cell? ⟨Bp,4,none⟩=some (.string put.a4):=λO=>cell_later (hal O) (by simp[World.cell?,hp]);have d5:∀O,(W.alloc O).cell? ⟨Bp,5,none⟩=some (.string put.a5):=λO=>cell_later (hal O) (by simp[World.cell?,hp]);obtain⟨fn,tmps,assign,body,hy,hR⟩:=hY [] ⟨put,qd1⟩ (W.alloc (.cells #[.func (.yield l) #[] #[]] 274)) (hJ _ _ _ none h0 (qh (hal _)) (λr e=>by cases e)) (by simp);unfold Nms.v Nms.c at hy;clear hal;have HY:Hid _:=hY;have HJ:Hid (OwnFrom W.heap.size J):=hJ;have H0:Hid _:=h0;clear hst qfr hY hJ hJx h0 hp;refine callsIn_of_wp_marks Tryz.func260 rfl trivial ?_ rfl;simp only[Tryz.ntmps260,List.size_toArray,List.length_cons,List.length_nil,Nat.reduceAdd,Nat.reduceSub,Array.replicate_succ,Array.replicate_zero,List.push_toArray,List.append_toArray,List.nil_append,List.cons_append]
  gi_wp2
  refine⟨λh=>(by cases h),hR.mono ?_⟩;rintro e W1 (⟨rfl,hJ1,hk1⟩ | ⟨rfl,hJx1,_⟩)
  ·clear hy hR
   gi_wp2
   refine⟨_,results_none rfl _ _ _,⟨_,rfl⟩,.inl ⟨[⟨put,qd1⟩],⟨λp=>by show p∈[put]↔_;simp[qh3],Nat.le_refl 1⟩,hJ1⟩⟩
  ·clear hy hR
   gi_wp2
   refine⟨_,results_none rfl _ _ _,⟨_,rfl⟩,.inr ⟨_,trivial,hJx1⟩⟩
 | a::L,n0,Bm,Bs,Bp,B,nn,b45,b87,M,vs,put,w,hst,hbo,h3,qd1,m=>by
  obtain⟨n,hn⟩:∃n,12<=n:=⟨12,Nat.le_refl _⟩;refine qfg.any (n:=n) ?_ n0;have n1:1<=n:=by omega
  have n2:1<=n - 1:=by omega
  have n3:1<=n - 1 - 1:=by omega
  have n4:1<=n - 1 - 1 - 1:=by omega
  have n5:1<=n - 1 - 1 - 1 - 1:=by omega
  intro l J Jx W hW hsz hJ hJx hY h0;have qfr:=hst.mk' (qt.ofBelow (m:=m) hW);clear hst hW;obtain⟨ta,tc,hvs⟩:=qfr.atoms.form;subst hvs;obtain⟨g,off,c',va,hv0,x0,x1,hS0,hg⟩:=qky qfr.atoms (k:=0) (by simp);cases hv0;obtain⟨fa,fc,hfa⟩:=hS0.form;simp only[List.getElem_cons_zero,Nat.zero_mul,Nat.add_zero] at x0 x1 hS0 hfa;rw[hfa] at x1;rw[hfa] at hS0;have hal:∀O,Below W.heap.size W (W.alloc O):=λO=>(Below.refl _ W).alloc zl O;have c1:∀O,(W.alloc O).cell? ⟨Bs,0,none⟩=some (.slice (some ⟨g,off,none⟩) (a::L).length tc):=λO=>cell_later (hal O) (by have:=qfr.bs;simp[World.cell?,this]);have c2:∀O,(W.alloc O).cell? ⟨Bm,0,none⟩=some (.map (some B)):=λO=>cell_later (hal O) (by have:=qfr.bm;simp[World.cell?,this]);have y0:∀O,(W.alloc O).cell? ⟨g,off,none⟩=some (.string a.rel):=λO=>cell_later (hal O) x0;have y1:∀O,(W.alloc O).cell? ⟨g,off+1,none⟩=some (.slice fa a.args.length fc):=λO=>cell_later (hal O) x1;have hp:=qfr.bp;unfold Nms.c at hp;have d0:∀O,(W.alloc O).cell? ⟨Bp,0,none⟩=some (.string put.a0):=λO=>cell_later (hal O) (by simp[World.cell?,hp]);have d1:∀O,(W.alloc O).cell? ⟨Bp,1,none⟩=some (.string put.a1):=λO=>cell_later (hal O) (by simp[World.cell?,hp]);have d2:∀O,(W.alloc O).cell? ⟨Bp,2,none⟩=some (.string put.a2):=λO=>cell_later (hal O) (by simp[World.cell?,hp]);have d3:∀O,(W.alloc O).cell? ⟨Bp,3,none⟩=some (.string put.a3):=λO=>cell_later (hal O) (by simp[World.cell?,hp]);have d4:∀O,(W.alloc O).cell? ⟨Bp,4,none⟩=some (.string put.a4):=λO=>cell_later (hal O) (by simp[World.cell?,hp]);have d5:∀O,(W.alloc O).cell? ⟨Bp,5,none⟩=some (.string put.a5):=λO=>cell_later (hal O) (by simp[World.cell?,hp]);have hex:=λW=>qww B a (.slice fa a.args.length fc) put W fa a.args.length fc rfl;unfold Nms.v Nms.c at hex;have HEX:Hid _:=hex;have HY:Hid _:=hY;have HJ:Hid (OwnFrom W.heap.size J):=hJ;have HJx:Hid (OwnFrom W.heap.size Jx):=hJx;have H0:Hid _:=h0;have HST:Hid _:=qfr;have HS0:Hid _:=hS0;clear qfr hY hJ hJx h0 hp hal hex hS0 hfa x0 x1;have Q7:((a::L).length:Int)=(L.length:Int)+1:=by simp
  have hL2:L.length<=2:=by simpa using h3
  refine callsIn_of_wp_marks Tryz.func260 rfl trivial ?_ rfl;simp only[Tryz.ntmps260,List.size_toArray,List.length_cons,List.length_nil,Nat.reduceAdd,Nat.reduceSub,Array.replicate_succ,Array.replicate_zero,List.push_toArray,List.append_toArray,List.nil_append,List.cons_append]
  gi_wp2
  refine wpIn_mono (Q:=λe a' w'=>e=Exit.normal/\a'={tmps:=#[.func (.yield l) #[] #[],.pointer (some ⟨Bs,0,none⟩),.pointer (some ⟨Bp,0,none⟩),.pointer (some ⟨Bm,0,none⟩),.pointer (some ⟨W.heap.size,0,none⟩),undef,undef,.slice (some ⟨g,off,none⟩) (L.length+1) tc,.int .i64 (L.length+1),.bool false,undef,undef,undef,.map (some B),.slice (some ⟨g,off,none⟩) (L.length+1) tc,.pointer (some ⟨g,off,none⟩),.agg #[.string a.rel,.slice fa a.args.length fc],.agg #[.string put.a0,.string put.a1,.string put.a2,.string put.a3,.string put.a4,.string put.a5],.func (.func 156) #[] #[.pointer (some ⟨W.heap.size+1,0,none⟩),.pointer (some ⟨W.heap.size+1+1,0,none⟩),.pointer (some ⟨W.heap.size+1+2,0,none⟩)],undef,undef,undef,undef,undef,undef,undef,undef,undef,undef,undef],defers:=[]}/\w'=((((W.alloc (.cells #[.func (.yield l) #[] #[]] 274)).alloc (.cells #[.map (some B)] 98)).alloc (.cells #[.string a.rel,.slice fa a.args.length fc] 92)).alloc (.cells #[.string put.a0,.string put.a1,.string put.a2,.string put.a3,.string put.a4,.string put.a5] 176)).drew) ?reg ?rest
  case reg=>
   first | (gi_region_with (refine⟨trivial,?_⟩;(try refine⟨λh=>(by cases h),?_⟩);refine (callsIn_wide.2 (HEX.out _)).mono ?_;rintro e w' ⟨rfl,rfl⟩)) | fail
   all_goals exact⟨rfl,rfl,rfl⟩
  case rest=>
   rintro e a' w' ⟨rfl,rfl,rfl⟩
   gi_wp2
   obtain⟨NB,hNB⟩:∃NB,W.heap.size=NB:=⟨_,rfl⟩;obtain⟨W0,hW0⟩:∃W0,((((W.alloc (.cells #[.func (.yield l) #[] #[]] 274)).alloc (.cells #[.map (some B)] 98)).alloc (.cells #[.string a.rel,.slice fa a.args.length fc] 92)).alloc (.cells #[.string put.a0,.string put.a1,.string put.a2,.string put.a3,.string put.a4,.string put.a5] 176)).drew=W0:=⟨_,rfl⟩;have hb0:Below W.heap.size W W0:=by rw[<- hW0];exact (((((Below.refl _ W).alloc zl _).alloc (by simp) _).alloc (by simp;omega) _).alloc (by simp;omega) _).drew
   have hs0:W0.heap.size=NB+4:=by rw[<- hW0,<- hNB];show (World.alloc _ _).heap.size=_;simp
   have bY:W0.heap[NB]?=some (Obj.cells #[.func (.yield l) #[] #[]] 274):=by
    rw[<- hW0,<- hNB];exact (Below.heap_alloc _ _ _ (by simp;omega)).trans ((Below.heap_alloc _ _ _ (by simp;omega)).trans ((Below.heap_alloc _ _ _ (by simp)).trans (World.alloc_heap_new W _)))
   have bM:W0.heap[NB+1]?=some (Obj.cells #[.map (some B)] 98):=by
    rw[<- hW0,<- hNB];refine (Below.heap_alloc _ _ _ (by simp)).trans ((Below.heap_alloc _ _ _ (by simp)).trans ?_);have:=World.alloc_heap_new (W.alloc (.cells #[.func (.yield l) #[] #[]] 274)) (.cells #[.map (some B)] 98);rw[World.size_alloc] at this;exact this
   have bA:W0.heap[NB+1+1]?=some (Obj.cells #[.string a.rel,.slice fa a.args.length fc] 92):=by
    rw[<- hW0,<- hNB];refine (Below.heap_alloc _ _ _ (by simp)).trans ?_;have:=World.alloc_heap_new ((W.alloc (.cells #[.func (.yield l) #[] #[]] 274)).alloc (.cells #[.map (some B)] 98)) (.cells #[.string a.rel,.slice fa a.args.length fc] 92);rw[World.size_alloc,World.size_alloc] at this;exact this
   have bP:W0.heap[NB+1+2]?=some (Obj.cells put.c 176):=by
    rw[<- hW0,<- hNB];have:=World.alloc_heap_new (((W.alloc (.cells #[.func (.yield l) #[] #[]] 274)).alloc (.cells #[.map (some B)] 98)).alloc (.cells #[.string a.rel,.slice fa a.args.length fc] 92)) (.cells #[.string put.a0,.string put.a1,.string put.a2,.string put.a3,.string put.a4,.string put.a5] 176);rw[World.size_alloc,World.size_alloc,World.size_alloc] at this;exact this
   have qqx:=(HST.out).mk' (qt.ofBelow (m:=m) hb0);have hJ0:J [] W0:=HJ.out _ _ _ none H0.out (qh hb0) (λr e=>by cases e);have Qes:Qd W0 b87 (.slice fa a.args.length fc) a.args:=Qd.mk HS0.out (qt.ofBelow (m:=m) hb0);have hm0:m<=W0.heap.size:=by have:=hb0.size;omega
   simp only[hNB];rw[hW0];clear hW0
   refine qfx (n:=n) (gf:=156) (lb:=#[.pointer (some ⟨NB+1,0,none⟩),.pointer (some ⟨NB+1+1,0,none⟩),.pointer (some ⟨NB+1+2,0,none⟩)]) rfl (enters_of Tryz.func156 (by kernel_rfl) rfl)
    (qwx (n - 1) (NB+1) (NB+1+1) (NB+1+2) B nn b87 M a (.slice fa a.args.length fc) put W0 bM bA bP qqx.md Qes (hbo.args a (by simp)) (hbo.nums a (by simp)) (hbo.rels a (by simp)) qd1 (W0.heap.size+2)) qt.tr (λV rc o' ho=>qt.put V _ _ o' (by omega) ho rfl (λ_ _ h=>by cases h)) (λ_=>rfl)
    (λpre V=>∃ys:List NmX,J ys V/\(∀p,p∈ys.map (·.1)↔∃q∈pre.map (·.1),qh3 M L q p)/\ys.length<=pre.length*nn ^ L.length/\qt m W0 V)
    (λc pre V=>c=.ret/\∃ys,Jx ys V)
    ?hI ?hIx ⟨[],hJ0,by simp,by simp,qt.ofBelow (Below.refl _ _)⟩
    (λx a' V=>∃Bx,V.heap[Bx]?=some (Obj.cells x.1.c 176)/\a'={tmps:=#[.func (.yield l) #[] #[],.pointer (some ⟨Bs,0,none⟩),.pointer (some ⟨Bp,0,none⟩),.pointer (some ⟨Bm,0,none⟩),.pointer (some ⟨NB,0,none⟩),.pointer (some ⟨Bx,0,none⟩),undef,.slice (some ⟨g,off,none⟩) (L.length+1) tc,.int .i64 (L.length+1),.bool false,undef,undef,undef,.map (some B),.slice (some ⟨g,off,none⟩) (L.length+1) tc,.pointer (some ⟨g,off,none⟩),.agg #[.string a.rel,.slice fa a.args.length fc],.agg #[.string put.a0,.string put.a1,.string put.a2,.string put.a3,.string put.a4,.string put.a5],.func (.func 156) #[] #[.pointer (some ⟨NB+1,0,none⟩),.pointer (some ⟨NB+1+1,0,none⟩),.pointer (some ⟨NB+1+2,0,none⟩)],.agg #[.string x.1.a0,.string x.1.a1,.string x.1.a2,.string x.1.a3,.string x.1.a4,.string x.1.a5],undef,undef,undef,undef,undef,undef,undef,undef,undef,undef],defers:=[]})
    ?hAx ?assign ?body ?done ?stop
   case hI=>
    rintro pre V V' row ⟨ys,h1,h2,h3,h4⟩ hg hr;exact⟨ys,HJ.out _ _ _ row h1 hg (λr e=>⟨by have:=(hr r e).1;omega,(hr r e).2⟩),h2,h3,h4.own hg (λr e=>(hr r e).1)⟩
   case hIx=>
    rintro c pre V V' row ⟨rfl,ys,h1⟩ hg hr;exact⟨rfl,ys,HJx.out _ _ _ row h1 hg (λr e=>⟨by have:=(hr r e).1;omega,(hr r e).2⟩)⟩
   case hAx=>
    rintro x a' _ V V' row ⟨Bx,h2,h3⟩ hg hr;exact⟨Bx,qj hg (λr e=>(hr r e).2) _ _ _ _ h2,h3⟩
   case assign=>
    rintro l' pre x V K hl hlr ⟨ys,h1,h2,h3,h4⟩ hK;have HK:Hid _:=hK;clear hK;unfold Nms.v Nms.c
    gi_wp2
    have hbl:Below V.heap.size V (V.alloc (.cells #[.string x.1.a0,.string x.1.a1,.string x.1.a2,.string x.1.a3,.string x.1.a4,.string x.1.a5] 176)):=(Below.refl _ V).alloc zl _;exact HK.out _ _ (KeepsFrom.ofBelow hbl) (qt.ofBelow hbl) ⟨ys,HJ.out _ _ _ none h1 (qh hbl) (λr e=>by cases e),h2,h3,h4.tr (qt.ofBelow hbl)⟩ ⟨V.heap.size,World.alloc_heap_new V _,rfl⟩
   case done=>
    rintro D xs V hD ⟨ks,k1,k2,k3,k4⟩ ⟨ys,h1,h2,h3,h4⟩ hK
    have q9:Hid ((∀p,p∈ys.map (·.1)↔qh3 M (a::L) put p)/\ys.length<=nn ^ (a::L).length):=by
     refine⟨λp=>?_,?_⟩
     ·rw[h2,k4];constructor
      ·rintro⟨q,hq,hj⟩;obtain⟨⟨x,y⟩,hxy,hm⟩:=List.mem_filterMap.1 hq;obtain⟨z1,z2,z3⟩:=(k2 x y).1 hxy;exact⟨x,y,q,z1,z2,z3,hm,hj⟩
      ·rintro⟨x,y,q,z1,z2,z3,hm,hj⟩;exact⟨q,List.mem_filterMap.2 ⟨(x,y),(k2 x y).2 ⟨z1,z2,z3⟩,hm⟩,hj⟩
     ·have e1:xs.length<=nn:=by
       have:=q5p (put:=put) (a:=a) (ks:=ks);have e2:xs.length=(ks.filterMap (λk=>qaj put a k.1 k.2)).length:=by rw[<- k4];simp
       omega
      refine Nat.le_trans h3 (Nat.le_trans (Nat.mul_le_mul_right _ e1) (Nat.le_of_eq ?_));rw[List.length_cons,Nat.pow_succ,Nat.mul_comm]
    gi_wp2
    refine⟨by simp,.inl ⟨_,_,rfl,run_takeDeferred hK,?_⟩⟩;refine⟨_,results_none rfl _ _ _,⟨_,rfl⟩,.inl ⟨ys,⟨λp=>by simpa using q9.out.1 p,by simpa using q9.out.2⟩,?_⟩⟩;exact HJ.out _ _ _ (some D) h1 (grownBy_putObj' V D (.deferred none)) (λr e=>by cases e;exact⟨by omega,_,hK,rfl⟩)
   case stop=>
    rintro D c pre V hD _ ⟨rfl,ys,h1⟩ hK
    gi_wp2
    refine⟨by simp,.inl ⟨_,_,rfl,run_takeDeferred hK,?_⟩⟩;refine⟨_,results_none rfl _ _ _,⟨_,rfl⟩,.inr ⟨ys,trivial,?_⟩⟩;exact HJx.out _ _ _ (some D) h1 (grownBy_putObj' V D (.deferred none)) (λr e=>by cases e;exact⟨by omega,_,hK,rfl⟩)
   case body=>
    rintro l' pre x a' V hl' ⟨rc,hrc⟩ ⟨ys,h1,h2,h3,h4⟩ ⟨Bx,hbx,rfl⟩ hlt;have qg8:=qqx.mk' h4;have hyb:=h4.cells _ _ _ (by unfold qcj;decide) bY;have hle:L.length+1<=tc:=by obtain⟨_,c,e,hc⟩:=qg8.atoms.form2;cases e;simpa using hc
    have z1:V.cell? ⟨Bm,0,none⟩=some (.map (some B)):=by have:=qg8.bm;simp[World.cell?,this]
    have z2:V.cell? ⟨Bs,0,none⟩=some (.slice (some ⟨g,off,none⟩) (L.length+1) tc):=by have:=qg8.bs;simp[World.cell?,this]
    have qe5:=hbx;unfold Nms.c at qe5;have q0:V.cell? ⟨Bx,0,none⟩=some (.string x.1.a0):=by simp[World.cell?,qe5]
    have q1:V.cell? ⟨Bx,1,none⟩=some (.string x.1.a1):=by simp[World.cell?,qe5]
    have q2:V.cell? ⟨Bx,2,none⟩=some (.string x.1.a2):=by simp[World.cell?,qe5]
    have q3:V.cell? ⟨Bx,3,none⟩=some (.string x.1.a3):=by simp[World.cell?,qe5]
    have q4:V.cell? ⟨Bx,4,none⟩=some (.string x.1.a4):=by simp[World.cell?,qe5]
    have q5:V.cell? ⟨Bx,5,none⟩=some (.string x.1.a5):=by simp[World.cell?,qe5]
    have hja:=λW=>qpd B (qnr g off L.length tc) x.1 W _ _ _ rfl;have hbT:qas V b45 b87 (qnr g off L.length tc) L:=qas.tail qg8.atoms;unfold Nms.v Nms.c qnr at hja;have HJA:Hid _:=hja;have i1:(1:Int)<=(L.length:Int)+1:=by omega
    have i3:(L.length:Int)+1<=(tc:Int):=by omega
    have HSV:Hid _:=qg8;have HBT:Hid _:=hbT;clear hja qe5 qg8 hbT
    obtain⟨tb,htb⟩:∃tb,qnr g off L.length tc=.slice (some tb) L.length (tc - 1):=by
     unfold qnr;by_cases htc:tc=1
     ·exact⟨⟨g,off,none⟩,by rw[if_pos htc]⟩
     ·exact⟨⟨g,off+2,none⟩,by rw[if_neg htc]⟩
    have HTB:Hid (qnr g off L.length tc=.slice (some tb) L.length (tc - 1)):=htb
    have Qci:Hid (∀W,Calls Tryz.prog 231 #[.map (some B),.slice (some tb) L.length (tc - 1),.agg #[.string x.1.a0,.string x.1.a1,.string x.1.a2,.string x.1.a3,.string x.1.a4,.string x.1.a5]] W λe w'=>e=.returned (.func (.func 260) #[] #[.pointer (some ⟨W.heap.size+1,0,none⟩),.pointer (some ⟨W.heap.size+2,0,none⟩),.pointer (some ⟨W.heap.size,0,none⟩)])/\
      w'=((W.alloc (.cells #[.map (some B)] 98)).alloc (.cells #[.slice (some tb) L.length (tc - 1)] 134)).alloc (.cells #[.string x.1.a0,.string x.1.a1,.string x.1.a2,.string x.1.a3,.string x.1.a4,.string x.1.a5] 176)):=λW=>qpd B _ x.1 W _ _ _ rfl
    have htv:Hid ((tc=1/\tb=⟨g,off,none⟩)\/(tc≠1/\tb=⟨g,off+2,none⟩)):=by
     show _\/_;unfold qnr at htb;by_cases htc:tc=1
     ·rw[if_pos htc] at htb;injection htb with h;cases h;exact .inl ⟨htc,rfl⟩
     ·rw[if_neg htc] at htb;injection htb with h;cases h;exact .inr ⟨htc,rfl⟩
    have hVl:V.heap[l']?=some (.loop rc):=hrc;clear htb
    gi_wp2
    refine wpIn_mono (Q:=λe a' w'=>e=Exit.normal/\a'={tmps:=#[.func (.yield l) #[] #[],.pointer (some ⟨Bs,0,none⟩),.pointer (some ⟨Bp,0,none⟩),.pointer (some ⟨Bm,0,none⟩),.pointer (some ⟨NB,0,none⟩),.pointer (some ⟨Bx,0,none⟩),undef,.slice (some ⟨g,off,none⟩) (L.length+1) tc,.int .i64 (L.length+1),.bool false,undef,undef,undef,.map (some B),.slice (some ⟨g,off,none⟩) (L.length+1) tc,.pointer (some ⟨g,off,none⟩),.agg #[.string a.rel,.slice fa a.args.length fc],.agg #[.string put.a0,.string put.a1,.string put.a2,.string put.a3,.string put.a4,.string put.a5],.func (.func 156) #[] #[.pointer (some ⟨NB+1,0,none⟩),.pointer (some ⟨NB+1+1,0,none⟩),.pointer (some ⟨NB+1+2,0,none⟩)],.agg #[.string x.1.a0,.string x.1.a1,.string x.1.a2,.string x.1.a3,.string x.1.a4,.string x.1.a5],.map (some B),.slice (some ⟨g,off,none⟩) (L.length+1) tc,.slice (some tb) L.length (tc - 1),.agg #[.string x.1.a0,.string x.1.a1,.string x.1.a2,.string x.1.a3,.string x.1.a4,.string x.1.a5],.func (.func 260) #[] #[.pointer (some ⟨V.heap.size+1,0,none⟩),.pointer (some ⟨V.heap.size+2,0,none⟩),.pointer (some ⟨V.heap.size,0,none⟩)],undef,undef,undef,undef,undef],defers:=[]}/\w'=(((V.alloc (.cells #[.map (some B)] 98)).alloc (.cells #[.slice (some tb) L.length (tc - 1)] 134)).alloc (.cells #[.string x.1.a0,.string x.1.a1,.string x.1.a2,.string x.1.a3,.string x.1.a4,.string x.1.a5] 176)).drew) ?reg ?rest
    case reg=>
     rcases htv.out with⟨rfl,rfl⟩ | ⟨htc,rfl⟩
     ·obtain rfl:L=[]:=List.eq_nil_of_length_eq_zero (by omega)
      first | (gi_region_with (refine⟨trivial,?_⟩;(try refine⟨λh=>(by cases h),?_⟩);refine (CallsIn.inRound l' (callsIn_wide.2 (Qci.out _))).mono ?_;rintro e w' ⟨rfl,rfl⟩)) | fail
      all_goals exact⟨rfl,rfl,rfl⟩
     ·first | (gi_region_with (refine⟨trivial,?_⟩;(try refine⟨λh=>(by cases h),?_⟩);refine (CallsIn.inRound l' (callsIn_wide.2 (Qci.out _))).mono ?_;rintro e w' ⟨rfl,rfl⟩)) | fail
      all_goals exact⟨rfl,rfl,rfl⟩
    case rest=>
     rintro e a' w' ⟨rfl,rfl,rfl⟩
     gi_wp2
     obtain⟨VN,hVN⟩:∃VN,V.heap.size=VN:=⟨_,rfl⟩;obtain⟨W5,hW5⟩:∃W5,(((V.alloc (.cells #[.map (some B)] 98)).alloc (.cells #[.slice (some tb) L.length (tc - 1)] 134)).alloc (.cells #[.string x.1.a0,.string x.1.a1,.string x.1.a2,.string x.1.a3,.string x.1.a4,.string x.1.a5] 176)).drew=W5:=⟨_,rfl⟩;have hb5:Below V.heap.size V W5:=by rw[<- hW5];exact ((((Below.refl _ V).alloc zl _).alloc (by simp) _).alloc (by simp;omega) _).drew
     have hs5:W5.heap.size=VN+3:=by rw[<- hW5,<- hVN];show (World.alloc _ _).heap.size=_;simp
     have eM:W5.heap[VN]?=some (Obj.cells #[.map (some B)] 98):=by
      rw[<- hW5,<- hVN];exact (Below.heap_alloc _ _ _ (by simp;omega)).trans ((Below.heap_alloc _ _ _ (by simp)).trans (World.alloc_heap_new V _))
     have eS:W5.heap[VN+1]?=some (Obj.cells #[.slice (some tb) L.length (tc - 1)] 134):=by
      rw[<- hW5,<- hVN];refine (Below.heap_alloc _ _ _ (by simp)).trans ?_;have:=World.alloc_heap_new (V.alloc (.cells #[.map (some B)] 98)) (.cells #[.slice (some tb) L.length (tc - 1)] 134);rw[World.size_alloc] at this;exact this
     have eP:W5.heap[VN+2]?=some (Obj.cells x.1.c 176):=by
      rw[<- hW5,<- hVN];have:=World.alloc_heap_new ((V.alloc (.cells #[.map (some B)] 98)).alloc (.cells #[.slice (some tb) L.length (tc - 1)] 134)) (.cells #[.string x.1.a0,.string x.1.a1,.string x.1.a2,.string x.1.a3,.string x.1.a4,.string x.1.a5] 176);rw[World.size_alloc,World.size_alloc] at this;exact this
     have hk5:∀m',qt m' V W5:=λm'=>qt.ofBelow hb5
     have qw7:qas W5 b45 b87 (.slice (some tb) L.length (tc - 1)) L:=by
      rw[<- HTB.out];exact qas.kept HBT.out (λk c _ hc=>(hk5 0).cells k c _ (by unfold qcj;decide) hc) (λk c _ hc=>(hk5 0).cells k c _ (by unfold qcj;decide) hc)
     have jst:qzj VN (VN+1) (VN+2) B nn b45 b87 M L (.slice (some tb) L.length (tc - 1)) x.1 W5:=⟨eM,eS,eP,qw7,(HSV.out).md.mk (hk5 0)⟩;have hVW:W0.heap.size<=V.heap.size:=h4.from'.size;have hl5:W5.heap[l']?=some (.loop rc):=(hb5.block l' (zg hVl).1).trans hVl;have hJ5:J (ys++[]) W5:=by rw[List.append_nil];exact HJ.out _ _ _ none h1 (qh hb5) (λr e=>by cases e)
     have ih:=qu6 L (n - 1 - 1 - 1) VN (VN+1) (VN+2) B nn b45 b87 M (.slice (some tb) L.length (tc - 1)) x.1 W5 jst ⟨λb hb=>hbo.args b (by simp[hb]),λb hb=>hbo.nums b (by simp[hb]),λb hb=>hbo.rels b (by simp[hb])⟩ (by omega) x.2 (W5.heap.size+1);simp only[hVN];rw[hW5];clear hW5
     refine q05 (n:=n - 1 - 1) (gf:=260) (lb:=#[.pointer (some ⟨VN+1,0,none⟩),.pointer (some ⟨VN+2,0,none⟩),.pointer (some ⟨VN,0,none⟩)]) hl5 rfl (enters_of Tryz.func260 (by kernel_rfl) rfl)
      ih qt.tr (λV' rc' o' ho=>qt.put V' _ _ o' (by omega) ho rfl (λ_ _ h=>by cases h)) (λ_=>rfl)
      (λpre2 V2=>J (ys++pre2) V2/\qt m W0 V2/\KeepsFrom W0.heap.size V V2/\qt (W0.heap.size+2) V V2)
      (λc pre2 V2=>c=.ret/\(∃zs,Jx zs V2)/\KeepsFrom W0.heap.size V V2)
      ?hI2 ?hIx2 ⟨hJ5,h4.tr (hk5 m),KeepsFrom.ofBelow hb5,hk5 _⟩
      (λx2 a' V2=>∃By,V2.heap[By]?=some (Obj.cells x2.1.c 176)/\a'={tmps:=#[.func (.yield l) #[] #[],.pointer (some ⟨Bs,0,none⟩),.pointer (some ⟨Bp,0,none⟩),.pointer (some ⟨Bm,0,none⟩),.pointer (some ⟨NB,0,none⟩),.pointer (some ⟨Bx,0,none⟩),.pointer (some ⟨By,0,none⟩),.slice (some ⟨g,off,none⟩) (L.length+1) tc,.int .i64 (L.length+1),.bool false,undef,undef,undef,.map (some B),.slice (some ⟨g,off,none⟩) (L.length+1) tc,.pointer (some ⟨g,off,none⟩),.agg #[.string a.rel,.slice fa a.args.length fc],.agg #[.string put.a0,.string put.a1,.string put.a2,.string put.a3,.string put.a4,.string put.a5],.func (.func 156) #[] #[.pointer (some ⟨NB+1,0,none⟩),.pointer (some ⟨NB+1+1,0,none⟩),.pointer (some ⟨NB+1+2,0,none⟩)],.agg #[.string x.1.a0,.string x.1.a1,.string x.1.a2,.string x.1.a3,.string x.1.a4,.string x.1.a5],.map (some B),.slice (some ⟨g,off,none⟩) (L.length+1) tc,.slice (some tb) L.length (tc - 1),.agg #[.string x.1.a0,.string x.1.a1,.string x.1.a2,.string x.1.a3,.string x.1.a4,.string x.1.a5],.func (.func 260) #[] #[.pointer (some ⟨VN+1,0,none⟩),.pointer (some ⟨VN+2,0,none⟩),.pointer (some ⟨VN,0,none⟩)],.agg #[.string x2.1.a0,.string x2.1.a1,.string x2.1.a2,.string x2.1.a3,.string x2.1.a4,.string x2.1.a5],undef,undef,undef,undef],defers:=[]})
      ?hAx2 ?assign2 ?body2 ?done2 ?stop2
     case hI2=>
      rintro pre2 X X' row ⟨j1,j2,j3,j4⟩ hg hr;exact⟨HJ.out _ _ _ row j1 hg (λr e=>⟨by have:=(hr r e).1;omega,(hr r e).2⟩),j2.own hg (λr e=>by have:=(hr r e).1;omega),ownFrom_keepsFrom (β:=Unit) (B':=W5.heap.size) (by omega) () X X' row j3 hg hr,j4.own hg (λr e=>by have:=(hr r e).1;omega)⟩
     case hIx2=>
      rintro c pre2 X X' row ⟨rfl,⟨zs,j1⟩,j3⟩ hg hr;exact⟨rfl,⟨zs,HJx.out _ _ _ row j1 hg (λr e=>⟨by have:=(hr r e).1;omega,(hr r e).2⟩)⟩,ownFrom_keepsFrom (β:=Unit) (B':=W5.heap.size) (by omega) () X X' row j3 hg hr⟩
     case hAx2=>
      rintro x2 a' _ X X' row ⟨By,k2,k3⟩ hg hr;exact⟨By,qj hg (λr e=>(hr r e).2) _ _ _ _ k2,k3⟩
     case assign2=>
      rintro l2 pre2 x2 X K hl2 hlr2 ⟨j1,j2,j3,j4⟩ hK;have HK:Hid _:=hK;clear hK;unfold Nms.v Nms.c
      gi_wp2
      have hbl:Below X.heap.size X (X.alloc (.cells #[.string x2.1.a0,.string x2.1.a1,.string x2.1.a2,.string x2.1.a3,.string x2.1.a4,.string x2.1.a5] 176)):=(Below.refl _ X).alloc zl _;exact HK.out _ _ (KeepsFrom.ofBelow hbl) (qt.ofBelow hbl) ⟨HJ.out _ _ _ none j1 (qh hbl) (λr e=>by cases e),j2.tr (qt.ofBelow hbl),KeepsFrom.tr j3 (KeepsFrom.ofBelow hbl),j4.tr (qt.ofBelow hbl)⟩ ⟨X.heap.size,World.alloc_heap_new X _,rfl⟩
     case done2=>
      rintro xs X ⟨s1,s2⟩ ⟨j1,j2,j3,j4⟩
      have hsp:Hid ((∀p,p∈(ys++xs).map (·.1)↔∃q∈(pre++[x]).map (·.1),qh3 M L q p)/\(ys++xs).length<=(pre++[x]).length*nn ^ L.length):=by
       refine⟨λp=>?_,?_⟩
       ·rw[List.map_append,List.mem_append,h2,s1,List.map_append];constructor
        ·rintro (⟨q,hq,hj⟩ | hj)
         ·exact⟨q,List.mem_append_left _ hq,hj⟩
         ·exact⟨x.1,List.mem_append_right _ (by show x.1∈[x.1];simp),hj⟩
        ·rintro⟨q,hq,hj⟩;rcases List.mem_append.1 hq with hq | hq
         ·exact .inl ⟨q,hq,hj⟩
         ·have:q=x.1:=by
           have hq':q∈[x.1]:=hq;simpa using hq'
          subst this;exact .inr hj
       ·rw[List.length_append,List.length_append];show ys.length+xs.length<=(pre.length+1)*nn ^ L.length;rw[Nat.add_mul,Nat.one_mul];omega
      clear hs0 h2 h3
      gi_wp2
      exact⟨j3,j4,ys++xs,j1,λp=>by simpa only[List.mem_map] using hsp.out.1 p,by simpa using hsp.out.2,j2⟩
     case stop2=>
      rintro c pre2 X _ ⟨rfl,hx,j3⟩
      gi_wp2
      exact⟨j3,rfl,hx⟩
     case body2=>
      rintro l2 pre2 x2 a' X hl2 ⟨rc2,hrc2⟩ ⟨j1,j2,j3,j4⟩ ⟨By,hby,rfl⟩ qs0
      have qne:(ys++pre2).length < nn ^ (a::L).length:=by
       rw[List.length_append,List.length_cons,Nat.pow_succ,Nat.mul_comm];have e1:pre.length+1<=nn:=hlt;have e2:=Nat.mul_le_mul_right (nn ^ L.length) e1;rw[Nat.add_mul,Nat.one_mul] at e2;omega
      obtain⟨fn,tmps,assign,body,hy,hR⟩:=HY.out (ys++pre2) x2 X j1 qne;unfold Nms.v Nms.c at hy;have q3z:=j2.cells _ _ _ (by unfold qcj;decide) bY;have cy:X.cell? ⟨NB,0,none⟩=some (.func (.yield l) #[] #[]):=by simp[World.cell?,q3z]
      have qir:=hby;unfold Nms.c at qir;have r0:X.cell? ⟨By,0,none⟩=some (.string x2.1.a0):=by simp[World.cell?,qir]
      have r1:X.cell? ⟨By,1,none⟩=some (.string x2.1.a1):=by simp[World.cell?,qir]
      have r2:X.cell? ⟨By,2,none⟩=some (.string x2.1.a2):=by simp[World.cell?,qir]
      have r3:X.cell? ⟨By,3,none⟩=some (.string x2.1.a3):=by simp[World.cell?,qir]
      have r4:X.cell? ⟨By,4,none⟩=some (.string x2.1.a4):=by simp[World.cell?,qir]
      have r5:X.cell? ⟨By,5,none⟩=some (.string x2.1.a5):=by simp[World.cell?,qir]
      have hmV:m<=W0.heap.size:=hm0;have HH2:Hid _:=h2;clear qir q3z h2 h3
      gi_wp2
      refine (qge hR).mono ?_;rintro e X' (⟨rfl,hJ',hk'⟩ | ⟨rfl,hJx',hk'⟩)
      ·clear hy hR
       gi_wp2
       exact⟨KeepsFrom.up hk'.from' (by omega),hk'.up (by omega),by rw[<- List.append_assoc];exact hJ',j2.tr hk',KeepsFrom.tr j3 (KeepsFrom.up hk'.from' (by omega)),j4.tr (hk'.up (by omega))⟩
      ·clear hy hR
       gi_wp2
       exact⟨KeepsFrom.up hk' (by omega),rfl,⟨_,hJx'⟩,KeepsFrom.tr j3 (KeepsFrom.up hk' (by omega))⟩
