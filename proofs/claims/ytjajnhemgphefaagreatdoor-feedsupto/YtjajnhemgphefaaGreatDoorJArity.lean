/- A part -/
import Derived.Test.YtjajnhemgphefaaGreatDoorJEgB
import Derived.Maps.OwnIn
import Derived.Maps.OwnSet
set_option linter.all false
set_option maxRecDepth 100000
set_option maxHeartbeats 1000000
open List renaming length->aB,mem_cons->aY,drop_eq_getElem_cons->aZ,drop_of_length_le->bB,map_append->bE,nodup_cons->bF,map_cons->bG
open Go.World renaming cell?->aC,ownsRow->aE,size_alloc->aX
open Go.Value renaming ownBlock->aF,slice->aH,string->aI,agg->aJ,bool->aK,int->aM
open Go.Obj renaming cells->aN
open Go.Ending renaming returned->aO
open Go.IntKind renaming i64->aP
open Or renaming inl->aQ,inr->aR
open Option renaming some->aV,none->aW
open Go.RowKit.Below renaming refl->bC,heap_setCell->bD
open Go.Proofs.Tryz renaming underlying9->bH,prog->bI,underlying285->bJ,underlying3->bO,zeroValue3->bT
open Go.Maps renaming string_keyed->bL
open Go renaming wpListIn_lookup_own_ok_int->bQ,wpListIn_mapUpdate_own->bU
namespace Go.Proofs.YtjajnhemgphefaaGreatDoor
open Go renaming World->Wq,Value->Vq
open Go.RowKit Go.Shelf
variable {N m:Nat} {D:DataW Unit} {aa:List Am} {W:Wq} {ds:List Nat}
theorem sU{w wr:Wq}(h:Qa N w wr)(z:N<=w.heap.size):Below N w wr:=⟨h.os,h.tape,h.output,h.size,λk d=>h.block k (by omega) (aQ d)⟩
theorem Hv(v:Vq)(rs:List Rl)(ao al ai:Nat)(w:Wq)(hR:Qn w ao al ai v rs)(Z:∀g,aF v=aV g->g<w.heap.size)(h8:aB rs<=8)(ax:∀r∈rs,iS r):Cs 103 #[v] w λe w'=>e=aO (aM aP (jo [] 0 rs))/\Below w.heap.size w w':=by
 have⟨a,c,bd⟩:=hR.form;obtain⟨N,hN⟩:∃N,w.heap.size=N:=⟨_,rfl⟩;have Ql:∀k (hk:k<aB rs),∃g d vb,a=aV ⟨g,0,aW⟩/\aC w (Ad g (k*3))=aV (aI (rs[k]).head.rel)/\aC w (Ad g (k*3+1))=aV d/\aC w (Ad g (k*3+2))=aV vb/\jx w al ai rs[k] d vb/\g<w.heap.size:=by intro k hk;have⟨g,c',d,vb,h1,h2,h3,h4,h5⟩:=n9 hR hk;have O:=Z g (by rw[h1];rfl);rw[bd] at h1;cases h1;exact⟨g,d,vb,rfl,h2,h3,h4,h5,O⟩
 subst bd
 have ci:∀k (hk:k<aB rs) (d vb:Vq) (wr:Wq) (us:List ByteArray) (vn:Vq),jx w al ai rs[k] d vb->Qa N w wr->aE wr N 9 1 vn (aB us) (us.map aI)->aB us<=8->
   ∀z fn A C M E,d=aH z fn A->vb=aH C M E->
   Cs 76 #[vn,.func (.func 141) #[] #[Pt (wr.heap.size+1)]] ((wr.alloc (aN #[aI (rs[k]).head.rel,aH z fn A,aH C M E] 136)).alloc (aN #[aI (rs[k]).head.rel,aH z fn A,aH C M E] 136)) λe w'=>∃v',e=aO v'/\aE w' N 9 1 v' (aB (dG us (Q4 rs[k]))) ((dG us (Q4 rs[k])).map aI)/\Qa N w w':=by
  intro k hk d vb wr us vn hv G db cx z fn A C M E hf O;subst hf O;have dh:=G.size;have ae:Below wr.heap.size wr ((wr.alloc (aN #[aI (rs[k]).head.rel,aH z fn A,aH C M E] 136)).alloc (aN #[aI (rs[k]).head.rel,aH z fn A,aH C M E] 136)):=((bC _ wr).alloc zl _).alloc (by simp) _;have c6:qf w wr:=λj cc t ht hc=>(G.block j (zg hc).1 (aR (λc' fz e=>by rw[hc] at e;rcases ht with rfl|rfl|rfl<;>cases e))).trans hc;refine (A5 rs[k] _ _ vn us N al ai (wr.heap.size+1) _ (ax _ (zm hk)) ((hv.rk c6).rk (qf.ofBelow ae)) ?_ (qj db ae) (by simp;omega) (by omega)).mono ?_;{have:=zn (wr.alloc (aN #[aI (rs[k]).head.rel,aH z fn A,aH C M E] 136)) (aN #[aI (rs[k]).head.rel,aH z fn A,aH C M E] 136);rw[aX] at this;exact this};{rintro e w' ⟨v',h1,h2,h3⟩;exact⟨v',h1,h2,(G.trans (Qa.ofBelow ae)).trans h3⟩}
 have HC:=aA Ql;have HR:=aA ci;clear Ql ci hR ax Z;go_enter Tryz.func103,Tryz.ntmps103;go_wp2
 go_loopw [3,8] (λvn i wr=>∃(k:Nat) (us:List ByteArray),k<=aB rs/\i=aM aP k/\aB us<=8/\aE wr N 9 1 vn (aB us) (us.map aI)/\Hid (jo us k (rs.drop k)=jo [] 0 rs)/\Qa N w wr) (λ_ i _=>aB rs-(intOf i).toNat)
 case atStart=>exact⟨0,[],zz,rfl,by simp,zo,rfl,Qa.refl _ _⟩
 case round=>
  obtain⟨k,us,hk,rfl,cx,Z,Q9,G⟩:=hrel;by_cases am:k<aB rs
  .obtain⟨g,d,vb,rfl,q0,q1,q2,hv,O⟩:=HC.o k am;have bj:Below N w wr:=sU G (by omega);have co:=(bj.cell (p:=⟨g,k*3,aW⟩) (by rw[<-hN];exact O)).trans q0;have bv:=(bj.cell (p:=⟨g,k*3+1,aW⟩) (by rw[<-hN];exact O)).trans q1;have c2:=(bj.cell (p:=⟨g,k*3+2,aW⟩) (by rw[<-hN];exact O)).trans q2;have⟨z,A,b7⟩:=hv.1.form;have⟨C,E,bu⟩:=hv.2.form;have cj:=HR.o k am d vb wr us _ hv G Z cx _ _ _ _ _ _ b7 bu;rw[b7] at bv;rw[bu] at c2;have ap:Hid (jo us k (rs.drop k)=if 8<aB (dG us (Q4 rs[k])) then (k:Int) else jo (dG us (Q4 rs[k])) (k+1) (rs.drop (k+1))):=by{show _=_;rw[aZ am,Ho];rfl};have cz:=aA cj;have i1:(k:Int)<(aB rs:Int):=by{omega};obtain⟨na,nc,rfl⟩:=qq Z;have HN:=aA hN;clear cj q0 q1 q2 hv b7 bu Z bj G hN;generalize (rs[k]).head.rel=rel at *;generalize (aB (rs[k]).head.args)=m1 at *;generalize (aB (rs[k]).body)=m2 at *;generalize dG us (Q4 rs[k])=us' at *;by_cases a9:8<aB us'
   .have hd:(8:Int)<(aB us':Int):=by{omega};have af:Hid (jo [] 0 rs=k):=by show _=_;rw[<-Q9.o,ap.o,if_pos a9]
    go_wp2_with (first|(go_at_call 77;refine (wL _ _ _ _ rfl _).mono ?_;rintro e w' ⟨rfl,rfl⟩)|(go_at_call 76;refine Calls.mono cz.o ?_;rintro e w1 ⟨v1,rfl,ad,ak⟩;obtain⟨c9,c7,rfl⟩:=qq ad))
    go_ret;exact⟨m9 af.o.symm,by rw[HN.o];exact sU ak (Nat.le_of_eq HN.o.symm)⟩
   .have hd:¬(8:Int)<(aB us':Int):=by{omega};have af:Hid (jo us' (k+1) (rs.drop (k+1))=jo [] 0 rs):=by show _=_;rw[<-Q9.o,ap.o,if_neg a9]
    go_wp2_with (first|(go_at_call 77;refine (wL _ _ _ _ rfl _).mono ?_;rintro e w' ⟨rfl,rfl⟩)|(go_at_call 76;refine Calls.mono cz.o ?_;rintro e w1 ⟨v1,rfl,ad,ak⟩;obtain⟨c9,c7,rfl⟩:=qq ad))
    refine⟨⟨k+1,us',by omega,by go_num,by omega,ad,af.o,ak⟩,by simp[intOf];omega⟩
  .have af:Hid (jo [] 0 rs=-1):=by{show _=_;rw[<-Q9.o,bB (by omega)];rfl};go_wp2;go_ret;exact⟨m9 af.o.symm,by rw[hN];exact sU G (by omega)⟩
attribute [local go_sem] Oper.semAt_some
theorem Hq(l m:List Am):∀(aa s:List Am),iB aa l=aV s->iB aa (l++m)=iB s m:=by
 induction l with
 |nil=>intro aa s h;simp[iB] at h;rw[h];rfl
 |cons a l ih=>grind [iB]
theorem Fc(l m:List Am):∀(aa:List Am),iB aa l=aW->iB aa (l++m)=none:=by
 induction l with
 |nil=>intro aa h;simp[iB] at h
 |cons a l ih=>grind [iB]
structure nK(D:DataW Unit)(aa:List Am):Prop where
 isMap:Maps.IsMap D
 has:∀l,Maps.has D (.string l)=(fB aa l).isSome
 at':∀l n,fB aa l=aV n->∀z,D.atKey (.string l) z=.lit (.int aP n)
theorem nK.empty:nK (.map []) []:=⟨Maps.isMap_empty,λ_=>rfl,λl n h=>by simp[fB] at h⟩
theorem BO(aa:List Am)(a:Am)(l:List UInt8):fB (aa++[a]) l=(fB aa l).or (if a.rel.data.toList == l then aV (aB a.args) else aW):=by grind [fB]
theorem nK.put(h:nK D aa)(a:Am)(C:ly aa a=true):nK (D.put (.string a.rel.data.toList) (.lit (.int aP (aB a.args)))) (aa++[a]):=by
 have A:WideAt.IsKeyLit (.string a.rel.data.toList):=trivial;refine⟨h.isMap.put _ _,λl=>?_,λl n d z=>?_⟩
 .rw[BO];by_cases e:l=a.rel.data.toList
  .subst e;rw[Maps.has_put_same h.isMap A]
   cases fB aa a.rel.data.toList<;>simp
  .rw[Maps.has_put_other (by grind),h.has];have:(a.rel.data.toList == l)=false:=by{grind};rw[this];simp
 .rw[BO] at d;by_cases e:l=a.rel.data.toList
  .subst e;rw[Maps.atKey_put_same h.isMap A];unfold ly at C
   cases hc:fB aa a.rel.data.toList with
   |some m=>grind
   |none=>grind
  .rw[Maps.atKey_put_other (by grind)];have:(a.rel.data.toList == l)=false:=by{grind};rw[this] at d;simp at d;exact h.at' l n d z
theorem zR(n:Nat)(h:n<=2):(Lit.int aP (n:Int)).wf=true:=by
 match n,h with
 |0,_=>rfl
 |1,_=>rfl
 |2,_=>rfl
structure mI(w:Wq)(N m:Nat)(ds:List Nat)(aa:List Am)(D:DataW Unit)(W:Wq):Prop where
 map:W.ownsMap bI 9 (plainElem bI 3) (N+1) m D
 set:nK D aa
 res:Boxed W N 3 (.int aP 0)
 box:Boxed W (N+2) 285 (.map (aV (N+1)))
 nodup:ds.Nodup
 shut:∀d∈ds,W.heap[d]?=aV (.deferred (aV []))
 above:∀d∈ds,N+2<d
 rk:qf w W
 below:Below N w W
theorem mI.grown{w W':Wq}{row:Option Nat}(h:mI w N m ds aa D W)(G:w.heap.size=N)(z:W.grownBy W' row)(A:∀r,row=aV r->N+2<r/\r∉ds/\∃o:Obj,W.heap[r]?=aV o/\o.isCells=false):mI w N m ds aa D W':=by have C:=qm z (λr e=>(A r e).2.2);refine⟨h.map.kept z (λe=>by have:=(A (N+1) e.symm).1;omega),h.set,C _ _ _ _ h.res,C _ _ _ _ h.box,h.nodup,λd hd=>?_,h.above,h.rk.trans (λk c t _ M=>C k c t _ M),h.below.grown z (Qy h.below G) (λk e=>by have:=(A k e).1;omega)⟩;have E:=h.shut d hd;exact (z.block d (zg E).1 (λe=>(A d e.symm).2.1 hd)).trans E
theorem mI.lt{w:Wq}(h:mI w N m ds aa D W):∀d∈ds,d<W.heap.size:=λd hd=>(zg (h.shut d hd)).1
theorem F2(v:Vq)(rs:List Rl)(ao al ai:Nat)(w:Wq)(hR:Qn w ao al ai v rs)(Q2:∀g,aF v=aV g->g<w.heap.size)(h8:aB rs<=8)(ax:∀r∈rs,iS r):Cs 100 #[v] w λe w'=>e=aO (.int aP (iW [] 0 rs))/\Below w.heap.size w w':=by
 have⟨a,c,bd⟩:=hR.form;have Ql:∀k (hk:k<aB rs),∃g v0 vb,a=aV ⟨g,0,aW⟩/\aC w (Ad g (k*3))=aV (.string (rs[k]).head.rel)/\aC w (Ad g (k*3+1))=aV v0/\aC w (Ad g (k*3+2))=aV vb/\jx w al ai rs[k] v0 vb/\g<w.heap.size:=by intro k hk;have⟨g,c',v0,vb,z,E,h3,h4,h5⟩:=n9 hR hk;have hg:=Q2 g (by rw[z];rfl);rw[bd] at z;cases z;exact⟨g,v0,vb,rfl,E,h3,h4,h5,hg⟩
 subst bd;have HC:=aA Ql;have da:=aA ax;clear Ql hR ax Q2;have b5:=@run_makeMap bI;obtain⟨N,hN⟩:∃N,w.heap.size=N:=⟨_,rfl⟩;refine (callsIn_wide (n:=9)).1 ?_;refine callsIn_of_wp_marks Tryz.func100 rfl trivial ?_ rfl;simp only[Tryz.ntmps100,List.size_toArray,List.length_cons,List.length_nil,Nat.reduceAdd,Nat.reduceSub,Array.replicate_succ,Array.replicate_zero,List.push_toArray,List.append_toArray,List.nil_append,List.cons_append]
 gi_wp2
 have bh:mI w N 0 [] [] (.map []) (((w.alloc (aN #[.int aP 0] 3)).alloc (.map #[] 0)).alloc (aN #[.map (aV (N+1))] 285)):=by have hb:Below w.heap.size w (((w.alloc (aN #[.int aP 0] 3)).alloc (.map #[] 0)).alloc (aN #[.map (aV (N+1))] 285)):=(((bC _ w).alloc zl _).alloc (by simp) _).alloc (by simp;omega) _;have hm:=World.ownsMap_made (w.alloc (aN #[.int aP 0] 3)) bI 9 (plainElem (H:=Unit) bI 3);have a6:=((Boxed.new w 3 (.int aP 0)).alloc (.map #[] 0)).alloc (aN #[.map (aV (N+1))] 285);rw[aX] at hm;rw[hN] at hm hb a6;refine⟨hm.kept (World.grownBy_alloc _ _ aW) (by simp),nK.empty,a6,?_,List.nodup_nil,by simp,by simp,qf.ofBelow (by rw[hN];exact hb),hb⟩;have:=Boxed.new ((w.alloc (aN #[.int aP 0] 3)).alloc (.map #[] 0)) 285 (.map (aV (N+1)));rw[aX,aX,hN] at this;exact this
 refine wpIn_loop (λA W=>∃(k:Nat) (ds:List Nat) (aa:List Am) (D:DataW Unit) (u4 u5 ck cu cl ce cq cf b3:Vq),A={tmps:=#[aH a (aB rs) c,undef,Pt N,Pt (N+1+1),u4,u5,undef,undef,undef,.map (aV (N+1)),aH a (aB rs) c,.int aP (aB rs),.int aP k,ck,cu,cl,ce,cq,cf,undef,undef,undef,undef,undef,undef,undef,undef,undef,undef,undef,undef,undef,undef,undef,undef,undef,undef,undef,undef,undef,undef,undef,b3],defers:=jr ds}/\k<=aB rs/\mI w N (k*4) ds aa D W/\Hid (iW aa k (rs.drop k)=iW [] 0 rs)) (λA _=>aB rs-(intOf (A.tmps.getD 12 undef)).toNat) ⟨0,[],[],.map [],_,_,_,_,_,_,_,_,_,rfl,zz,bh,rfl⟩ ?_;rintro A W ⟨k,ds,aa,D,u4,u5,ck,cu,cl,ce,cq,cf,b3,rfl,hk,hI,Q9⟩;clear bh b5;by_cases am:k<aB rs
 .obtain⟨g,v0,vb,rfl,q0,q1,q2,hv,hg⟩:=HC.o k am;have b0:g<N:=by{omega};have co:=(hI.below.cell (p:=⟨g,k*3,aW⟩) b0).trans q0;have bv:=(hI.below.cell (p:=⟨g,k*3+1,aW⟩) b0).trans q1;have c2:=(hI.below.cell (p:=⟨g,k*3+2,aW⟩) b0).trans q2;have ch:=hv.rk hI.rk;have cd:=da.o _ (zm am);have ap:Hid (iW aa k (rs.drop k)=match iB aa ((rs[k]).head::(rs[k]).body) with|none=>(k:Int)|some s=>iW s (k+1) (rs.drop (k+1))):=by{show _=_;rw[aZ am];rfl};obtain⟨C,L,la,G,bf,hL,rfl,dg,cv⟩:=xd ch cd;have cn:(rs[k]).head::(rs[k]).body=(C::L).map (·.1.1):=by{rw[bG,hL,bf]};have cr:(rs[k]).head.rel=C.1.1.rel:=by{rw[bf]};have cy:v0=C.1.2:=by{rw[bf]};have⟨fa,fc,hf⟩:=C.2.1.form;rw[cr] at co;rw[cy,hf] at bv;rw[cn] at ap;clear cn cr cy bf hL ch cd hv q0 q1 q2;have i1:(k:Int)<(aB rs:Int):=by omega
  gi_wp2_with (refine⟨trivial,?_⟩;gi_at_call 98;refine (callsIn_wide.2 (uD _ _ _ _ rfl rfl rfl rfl _)).mono ?_;rintro e w' ⟨rfl,rfl⟩)
  obtain⟨M,hM⟩:∃M,W.heap.size=M:=⟨_,rfl⟩;obtain⟨W0,av⟩:∃W0,((W.alloc (aN #[.int aP k] 3)).alloc (aN #[.string C.1.1.rel,aH fa (aB C.1.1.args) fc,aH la (aB L) G] 136)).alloc (aN #[.string C.1.1.rel,aH fa (aB C.1.1.args) fc,aH la (aB L) G] 136)=W0:=⟨_,rfl⟩;have a6:Below W.heap.size W W0:=by{rw[<-av];exact (((bC _ W).alloc zl _).alloc (by simp) _).alloc (by simp;omega) _};have cg:W0.heap.size=M+3:=by{rw[<-av,<-hM];simp};have bK:Boxed W0 M 3 (.int aP k):=by{rw[<-av,<-hM];exact ((Boxed.new W _ _).alloc _).alloc _};have bR:W0.heap[M+1+1]?=cC #[.string C.1.1.rel,C.1.2,aH la (aB L) G] 136:=by{rw[<-av,hf];have:=zn ((W.alloc (aN #[.int aP k] 3)).alloc (aN #[.string C.1.1.rel,aH fa (aB C.1.1.args) fc,aH la (aB L) G] 136)) (aN #[.string C.1.1.rel,aH fa (aB C.1.1.args) fc,aH la (aB L) G] 136);rw[aX,aX,hM] at this;exact this};have de:L≠[]->∃(g bi:Nat) (be:Array Vq),la=aV ⟨g,bi,aW⟩/\W0.heap[g]?=cC be 92/\(be.toList.drop bi).take (aB L*2)=L.flatMap λx=>[.string x.1.1.rel,x.1.2]:=λc4=>by{have⟨g,bi,be,z,E,h3⟩:=cv c4;exact⟨g,bi,be,z,qf.ofBelow a6 _ _ _ (aR (aQ rfl)) E,h3⟩};have bh:=hI.grown hN (qg a6) (λr e=>by cases e);have bk:=hI.lt;have dk:N+2<M:=by{have:=hI.box.lt;omega};simp only[hM];rw[av];clear av cv
  refine rQ (n:=9) (gf:=163) (lb:=#[Pt (M+1+1)]) rfl (enters_of Tryz.func163 (by kernel_rfl) rfl)
   (mW.ofStops (uE 8 (by decide) (M+1+1) W ai C L (by omega) la G W0 bR de)) qf.trans (λV o o' ho O=>qf.put V _ o o' ho O) (λ_=>rfl)
   (λpre V=>∃s D',iB aa (pre.map (·.1.1))=aV s/\mI w N (k*4+aB pre) ds s D' V/\Boxed V M 3 (.int aP k))
   (λc pre V=>c=.ret/\iB aa (pre.map (·.1.1))=aW/\Boxed V N 3 (.int aP k)/\(∀d∈ds,V.heap[d]?=aV (.deferred (aV [])))/\Below N w V)
   ?hI ?hIx ⟨aa,D,rfl,bh,bK⟩
   (λx a' V=>∃Bx,V.heap[Bx]?=cC #[.string x.1.1.rel,x.1.2] 92/\a'={tmps:=#[Sc g (aB rs) c,undef,Pt N,Pt (N+1+1),Pt M,Pt (M+1),Pt Bx,undef,undef,.map (aV (N+1)),Sc g (aB rs) c,.int aP (aB rs),.int aP k,aK true,.int aP k,.pointer (aV ⟨g,k*3,aW⟩),aJ #[.string C.1.1.rel,aH fa (aB C.1.1.args) fc,aH la (aB L) G],aJ #[.string C.1.1.rel,aH fa (aB C.1.1.args) fc,aH la (aB L) G],.func (.func 163) #[] #[Pt (M+1+1)],aJ #[.string x.1.1.rel,x.1.2],undef,undef,undef,undef,undef,undef,undef,undef,undef,undef,undef,undef,undef,undef,undef,undef,undef,undef,undef,undef,undef,undef,b3],defers:=[]})
   ?hAx ?assign ?body ?done ?stop
  case hI=>rintro pre V V' row ⟨s,D',h0,z,E⟩ hg hr;refine⟨s,D',h0,z.grown hN hg (λr e=>⟨by have:=(hr r e).1;omega,λhd=>?_,(hr r e).2⟩),qm hg (λr e=>(hr r e).2) _ _ _ _ E⟩;have:=bk r hd;have:=(hr r e).1;omega
  case hIx=>rintro c pre V V' row ⟨rfl,h0,z,E,h3⟩ hg hr;refine⟨rfl,h0,qm hg (λr e=>(hr r e).2) _ _ _ _ z,λd hd=>?_,h3.grown hg (Qy h3 hN) (λk e=>by have:=(hr k e).1;omega)⟩;have ah:=E d hd;exact (hg.block d (zg ah).1 (λe=>by have:=bk d hd;have:=(hr d e.symm).1;omega)).trans ah
  case hAx=>rintro x a' _ V V' row ⟨Bx,E,h3⟩ hg hr;exact⟨Bx,qm hg (λr e=>(hr r e).2) _ _ _ _ E,h3⟩
  case assign=>
   rintro l' pre x V K hl di ⟨s,D',h0,z,E⟩ hK;have HK:=aA hK;clear hK;have⟨ga,gc,aq⟩:=x.2.1.form;simp only[aq]
   gi_wp2
   have ae:Below V.heap.size V (V.alloc (aN #[.string x.1.1.rel,aH ga (aB x.1.1.args) gc] 92)):=(bC _ V).alloc zl _;exact HK.o _ _ (KeepsFrom.ofBelow ae) (qf.ofBelow ae) ⟨s,D',h0,z.grown hN (qg ae) (λr e=>by cases e),E.alloc _⟩ ⟨V.heap.size,by rw[aq];exact zn V _,by rw[aq]⟩
  case body=>
   rintro l' pre x a' V dm ⟨r,hr⟩ ⟨s,D',ag,z,E⟩ ⟨Bx,az,rfl⟩ b6;have⟨ga,gc,aq⟩:=x.2.1.form;have ca:=x.2.2.args;have c0:aC V (Ad Bx 0)=aV (.string x.1.1.rel):=zc az;have c1:aC V (Ad Bx 1)=aV (aH ga (aB x.1.1.args) gc):=by{simp[aC,az,aq]};have cV:=z.box.cell;have cK:=E.cell;have cN:=z.res.cell;have fN:=z.res.frozen;have a8:=WideMaps.keyOf_string_mk (P:=bI) bH (s:=x.1.1.rel) (by have:=x.2.2.rel;unfold maxLen;omega);have c3:k*4+aB pre<maxLen:=by{unfold maxLen;simp at b6;omega};have cw:=z.set.has x.1.1.rel.data.toList;have Qdu:=z.set.at' x.1.1.rel.data.toList;have Qcr:Hid (∀b,ly s x.1.1=b->iB aa ((pre++[x]).map (·.1.1))=if b=true then aV (s++[x.1.1]) else aW):=by{intro b hb;rw[bE,Hq _ _ _ _ ag];simp only[bG,List.map_nil,iB,hb]};have c8:Hid (ly s x.1.1=true->nK (D'.put (.string x.1.1.rel.data.toList) (.lit (.int aP (aB x.1.1.args)))) (s++[x.1.1])):=λhf=>z.set.put x.1.1 hf;have a7:Hid (ly s x.1.1=match fB s x.1.1.rel.data.toList with|some n=>n == aB x.1.1.args|none=>true):=rfl;have dl:=aA ag;clear ag aq
   have cp:∀w1,ly s x.1.1=true->w1.ownsMap bI 9 (plainElem bI 3) (N+1) (k*4+aB pre+1) (D'.put (.string x.1.1.rel.data.toList) (.lit (.int aP (aB x.1.1.args))))->V.grownBy w1 (aV (N+1))->
     KeepsFrom W0.heap.size V w1/\qf V w1/\∃s2 D2,iB aa ((pre++[x]).map (·.1.1))=aV s2/\mI w N (k*4+aB (pre++[x])) ds s2 D2 w1/\Boxed w1 M 3 (.int aP k):=by
    intro w1 hf ac ab;have⟨es,clock,dc,_⟩:=z.map;have ay:=qm ab (λr e=>by cases e;exact⟨_,dc,rfl⟩);refine⟨KeepsFrom.of_grownBy ab (λj e=>by cases e;omega),λk c t _ O=>ay k c t _ O,s++[x.1.1],_,by rw[Qcr.o _ hf];rfl,⟨by simpa [Nat.add_assoc] using ac,c8.o hf,ay _ _ _ _ z.res,ay _ _ _ _ z.box,z.nodup,λd hd=>?_,z.above,z.rk.trans (λk c t _ O=>ay k c t _ O),z.below.grown ab (Qy z.below hN) (λj e=>by cases e;omega)⟩,ay _ _ _ _ E⟩;have ah:=z.shut d hd;exact (ab.block d (zg ah).1 (by have:=z.above d hd;simp;omega)).trans ah
   have cb:=aA cp;clear cp
   cases har:fB s x.1.1.rel.data.toList with
   |none=>
    rw[har] at cw a7;clear Qdu har
    gi_wp2_with (first|(gi_at_lookup;refine bQ _ rfl _ _ 285 rfl 9 3 aP (bL bH) bJ bO (bT _) (N+1) (k*4+aB pre) _ rfl z.map _ _ rfl a8 ?_;intro c aw bn)|(gi_at_mapUpdate;refine bU _ rfl _ _ _ 285 rfl 9 3 (bL bH) bJ _ (N+1) (k*4+aB pre) _ rfl z.map c3 _ _ _ rfl rfl a8 (.lit (.int aP (aB x.1.1.args))) [] (plainElem_int bO (zR _ ca)) ?_;intro w1 ac ab))
    have⟨k1,k2,s2,D2,e1,e2,e3⟩:=cb.o w1 a7.o ac ab;exact⟨by rw[<-cg];exact k1,k2,s2,e1,⟨D2,e2⟩,e3⟩
   |some m=>
    have ct:Hid (∀c:Int,D'.atKey (.string x.1.1.rel.data.toList) (.lit (.int aP 0))=.lit (.int aP c)->c=m):=by{intro c O;rw[Qdu m har] at O;simp at O;exact O.symm};rw[har] at cw a7;clear Qdu har;by_cases au:m=aB x.1.1.args
    .have b5:((m:Int) != (aB x.1.1.args:Int))=false:=by{simp[au]};have bc:ly s x.1.1=true:=by{rw[a7.o];simp[au]};have b8:=aA bc;clear bc au
     gi_wp2_with (first|(gi_at_lookup;refine bQ _ rfl _ _ 285 rfl 9 3 aP (bL bH) bJ bO (bT _) (N+1) (k*4+aB pre) _ rfl z.map _ _ rfl a8 ?_;intro c aw bn;have c5:=ct.o c aw;clear aw bn)|(gi_at_mapUpdate;refine bU _ rfl _ _ _ 285 rfl 9 3 (bL bH) bJ _ (N+1) (k*4+aB pre) _ rfl z.map c3 _ _ _ rfl rfl a8 (.lit (.int aP (aB x.1.1.args))) [] (plainElem_int bO (zR _ ca)) ?_;intro w1 ac ab))
     have⟨k1,k2,s2,D2,e1,e2,e3⟩:=cb.o w1 b8.o ac ab;exact⟨by rw[<-cg];exact k1,k2,s2,e1,⟨D2,e2⟩,e3⟩
    .have b5:((m:Int) != (aB x.1.1.args:Int))=true:=by{simp;omega};have bc:ly s x.1.1=false:=by{rw[a7.o];simp[au]};have b8:=aA bc;have dj:=aA au;clear bc au
     gi_wp2_with (gi_at_lookup;refine bQ _ rfl _ _ 285 rfl 9 3 aP (bL bH) bJ bO (bT _) (N+1) (k*4+aB pre) _ rfl z.map _ _ rfl a8 ?_;intro c aw bn;have c5:=ct.o c aw;clear aw bn)
     exact⟨(KeepsOthers.setCell _ _ _).from _,rfl,by rw[Qcr.o _ b8.o];rfl,lh z.res _,λd hd=>(bD _ _ _ d (by have:=z.above d hd;simp;omega)).trans (z.shut d hd),z.below.setCell (p:=⟨N,0,aW⟩) zl _⟩
  case done=>
   rintro Z xs V hD rfl ⟨s,D',ag,z,E⟩ hK;have b9:Z∉ds:=λhd=>by{have:=bk Z hd;omega};have b4:(Z::ds).Nodup:=bF.2 ⟨b9,z.nodup⟩
   have bb:∀d∈Z::ds,V.heap[d]?=aV (.deferred (aV [])):=λd hd=>by
    rcases aY.1 hd with rfl|hd
    .exact hK
    .exact z.shut d hd
   have bq:∀d∈Z::ds,N+2<d:=λd hd=>by
    rcases aY.1 hd with rfl|hd
    .omega
    .exact z.above d hd
   have df:Hid (iW s (k+1) (rs.drop (k+1))=iW [] 0 rs):=by{show _=_;rw[<-Q9.o,ap.o,ag]};clear ag
   gi_wp2
   refine⟨⟨k+1,Z::ds,s,D',_,_,_,_,_,_,_,_,_,rfl,by omega,?_,df⟩,?_⟩;{exact {z with map:=z.map.mono (by simp;omega),nodup:=b4,shut:=bb,above:=bq}};{simp[intOf];omega}
  case stop=>
   rintro Z c' pre V hD hp ⟨rfl,ag,E,h3,h4⟩ hK;have b9:Z∉ds:=λhd=>by{have:=bk Z hd;omega};have b4:(Z::ds).Nodup:=bF.2 ⟨b9,hI.nodup⟩
   have bb:∀d∈Z::ds,V.heap[d]?=aV (.deferred (aV [])):=λd hd=>by
    rcases aY.1 hd with rfl|hd
    .exact hK
    .exact h3 d hd
   have bq:∀d∈Z::ds,N+2<d:=λd hd=>by
    rcases aY.1 hd with rfl|hd
    .omega
    .exact hI.above d hd
   have af:Hid (iW [] 0 rs=(k:Int)):=by{show _=_;have⟨tl,dd⟩:=hp;rw[<-Q9.o,ap.o,<-dd,bE,Fc _ _ _ ag]};clear ag
   gi_wp2
   show LeavesInM Fence.wide 9 bI _ _ _ (jr (Z::ds)) .returning V;refine pw (Z::ds) V b4 bb (λW' O hs=>?_);have dN:aC W' (Ad N 0)=aV (.int aP k):=Boxed.cell (t:=3) ((O.block N E.lt (λhd=>by have:=bq N hd;omega)).trans E);refine⟨.int aP k,by simp[results,Tryz.results100,go_sem,dN],by rw[af.o],?_⟩;rw[hN];exact h4.trans (O.below (Qy h4 hN) (λd hd=>by have:=bq d hd;omega))
 .have cN:=hI.res.cell;have fN:=hI.res.frozen
  gi_wp2
  show LeavesInM Fence.wide 9 bI _ _ _ (jr ds) .returning (W.setCell (Ad N 0) (.int aP (-1)));have bb:∀d∈ds,(W.setCell (Ad N 0) (.int aP (-1))).heap[d]?=aV (.deferred (aV [])):=λd hd=>(bD _ _ _ d (by have:=hI.above d hd;simp;omega)).trans (hI.shut d hd);refine pw ds _ hI.nodup bb (λW' O hs=>?_);have az:=lh hI.res (.int aP (-1));have dN:aC W' (Ad N 0)=aV (.int aP (-1)):=Boxed.cell (t:=3) ((O.block N az.lt (λhd=>by have:=hI.above N hd;omega)).trans az);have af:iW [] 0 rs=-1:=by{rw[<-Q9.o,bB (by omega)];rfl};have ae:=hI.below.setCell (p:=⟨N,0,aW⟩) zl (.int aP (-1));refine⟨.int aP (-1),by simp[results,Tryz.results100,go_sem,dN],by rw[af],?_⟩;rw[hN];exact ae.trans (O.below (Qy ae hN) (λd hd=>by have:=hI.above d hd;omega))
