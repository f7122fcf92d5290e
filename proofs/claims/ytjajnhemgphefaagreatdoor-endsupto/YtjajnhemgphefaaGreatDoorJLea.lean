/- Package model: the least model. -/
import Derived.Test.YtjajnhemgphefaaGreatDoorJMoJ
set_option linter.unusedVariables false
set_option linter.unusedSimpArgs false
set_option maxRecDepth 100000
set_option maxHeartbeats 16000000
namespace Go.Proofs.YtjajnhemgphefaaGreatDoor
open Go renaming World->Wq,Value->Vq
open Go.RowKit Go.Shelf Go.Maps
attribute [local go_sem] Oper.semAt_some
variable {N Bw nn g qc Bn:Nat} {W V V':Wq} {q:List (Gd×Int)} {x:Gd×Int} {M:Gd->Option Int} {ds:List Nat}
structure Qa7(ar:ByteArray->Nat)(R:List Rl)(F:List (Gd×Int))(U:List Gd):Prop where
 arity:∀r,ar r=1\/ar r=2\/ar r=0
 rules:∀r∈R,qwh ar r/\r.head.args≠[]
 use:∀r∈R,q2b r
 few:R.length<=8
 facts:∀x∈F++Qk R,qdy ar x.1/\qgw x.1
 inU:∀x∈F++Qk R,x.1∈U
 ends:∀x∈F,0<=x.2/\x.2<=2000000
 closed:∀r∈R,r.body≠[]->∀p:Nms,(∀a∈r.body,qb p a∈U/\qdy ar (qb p a))->qb p r.head∈U
 okU:∀g∈U,qgw g
 small:U.length<=2400
 count:F.length<=1000
theorem q87{a n:Nat}(ha:a<=8)(hn:n<=4800):a*foN n<=553190424:=by
 have h1:foN n<=foN 4800:=by unfold foN;exact Nat.mul_le_mul_left _ (Nat.pow_le_pow_left (by omega) 2)
 have h2:foN 4800=69148803:=by unfold foN;decide
 have:=Nat.mul_le_mul ha h1;rw[h2] at this;exact this
structure qzl(N Bw n0:Nat)(w:Wq)(ar:ByteArray->Nat)(R:List Rl)(FF:List (Gd×Int))(U:List Gd)(q:List (Gd×Int))(M:Gd->Option Int)(ks:List Gd)(ds:List Nat)(qa:Option Addr)(qc:Nat)(V:Wq):Prop where
 box:Boxed V Bw 169 (.slice qa q.length qc)
 own:V.ownsRow (N+2) 172 4 (.slice qa q.length qc) q.length (q.flatMap qo)
 low:Below N w V
 shut:qdx (Bw+1) ds V
 md:MdL N V N (2*ks.length) M
 inv:qh1 ar R FF U M q
 nd:ks.Nodup
 mem:∀g,(M g).isSome=true↔g∈ks
 sub:∀g∈ks,g∈U
 len:q.length<=n0+ks.length*553190424
 ends:∀x∈q,0<=x.2/\x.2<=2000000
 bw:Bw < V.heap.size
theorem q0o(h:W.heap[N]?=some (Obj.map #[] 0)):MdL N W N 0 (λ_=>none):=by
 have ho:W.ownsMap Tryz.prog 9 RV N 0 (.map []):=by
  obtain⟨es,c,h1,h2,h3,h4⟩:=World.ownsMap_made (H:=Vq) W Tryz.prog 9 RV;rw[World.alloc_heap_new] at h1;cases h1;exact⟨#[],0,h,h2,h3,h4⟩
 refine⟨.map [],λ_=>none,ho,λrel hr=>⟨λ_=>⟨rfl,λ_ _=>rfl⟩,λb hb=>(by cases hb)⟩,λ_ _ _ h=>(by cases h),λ_ _ h=>(by cases h),Nat.le_refl _,λ_ _ h=>(by cases h)⟩
theorem qx2{b T k n c:Nat}{qa:Option Addr}{xs ys:List Vq}(h:W.ownsRow b T k (.slice qa (n+1) c) (n+1) (xs++ys))(hx:xs.length=n*k):W.ownsRow b T k (.slice qa n c) n xs:=by
 obtain⟨h0,⟨hv,hn⟩ | ⟨g,cap,cur,hv,h1,h2,h3,h4,h5,h6⟩⟩:=h
 ·omega
 ·cases hv;refine⟨hx,.inr ⟨g,c,cur,rfl,h1,h2,by omega,h4,h5,?_⟩⟩;have:=congrArg (List.take (n*k)) h6;rw[List.take_take,Nat.min_eq_left (Nat.mul_le_mul_right _ (by omega)),<- hx,List.take_left,hx] at this;exact this
theorem qko(q:List (Gd×Int)):(q.flatMap qo).length=q.length*4:=by
 induction q with
 | nil=>rfl
 | cons x q ih=>rw[List.flatMap_cons,List.length_append,ih,qb7,List.length_cons];omega
structure qgx(N Bw:Nat)(w:Wq)(q:List (Gd×Int))(x:Gd×Int)(M:Gd->Option Int)(nn:Nat)(ds:List Nat)(g qc Bn:Nat)(V:Wq):Prop where
 box:Boxed V Bw 169 (.slice (some ⟨g,0,none⟩) q.length qc)
 own:V.ownsRow (N+2) 172 4 (.slice (some ⟨g,0,none⟩) q.length qc) q.length (q.flatMap qo)
 low:Below N w V
 shut:qdx (Bw+1) ds V
 md:MdL N V N nn M
 next:V.heap[Bn]?=some (Obj.cells #[.string x.1.rel,.string x.1.x,.string x.1.y,.int .i64 x.2] 172)
 bw:Bw < Bn
 gn:g < Bn
theorem qgx.below{w:Wq}(h:qgx N Bw w q x M nn ds g qc Bn V)(hb:Below V.heap.size V V'):qgx N Bw w q x M nn ds g qc Bn V':=by
 have hN:N<=V.heap.size:=by have:=h.md;obtain⟨D,blk,h1,_⟩:=this;exact Nat.le_of_lt h1.lt
 exact⟨(hb.block _ h.box.lt).trans h.box,qk h.own hb,h.low.trans (hb.mono hN),h.shut.below hb,h.md.kept (λk es c hk=>(hb.block k (zg hk).1).trans hk),(hb.block _ (zg h.next).1).trans h.next,h.bw,h.gn⟩
theorem qzl.pop{n0:Nat}{w:Wq}{ar:ByteArray->Nat}{R:List Rl}{FF:List (Gd×Int)}{U:List Gd}{ks:List Gd}(hNB:N+2<=Bw)(h:qzl N Bw n0 w ar R FF U (q++[x]) M ks ds (some ⟨g,0,none⟩) qc V):qgx N Bw w q x M (2*ks.length) ds g qc V.heap.size ((V.setCell ⟨Bw,0,none⟩ (.slice (some ⟨g,0,none⟩) q.length qc)).alloc (.cells #[.string x.1.rel,.string x.1.x,.string x.1.y,.int .i64 x.2] 172)):=by
 have hbw:=h.bw;have qr:=h.own;rw[List.length_append,List.flatMap_append] at qr;have qu0:=qx2 qr (qko q);have hsz:(V.setCell ⟨Bw,0,none⟩ (.slice (some ⟨g,0,none⟩) q.length qc)).heap.size=V.heap.size:=by simp
 have hbl:Below V.heap.size (V.setCell ⟨Bw,0,none⟩ (.slice (some ⟨g,0,none⟩) q.length qc)) ((V.setCell ⟨Bw,0,none⟩ (.slice (some ⟨g,0,none⟩) q.length qc)).alloc (.cells #[.string x.1.rel,.string x.1.x,.string x.1.y,.int .i64 x.2] 172)):=(Below.refl _ _).alloc (by omega) _
 have qs3:∀(k:Nat) (o:Obj),k≠Bw->V.heap[k]?=some o->((V.setCell ⟨Bw,0,none⟩ (.slice (some ⟨g,0,none⟩) q.length qc)).alloc (.cells #[.string x.1.rel,.string x.1.x,.string x.1.y,.int .i64 x.2] 172)).heap[k]?=some o:=λk o hne ho=>
  (hbl.block k (zg ho).1).trans ((Below.heap_setCell _ _ _ _ (by show k≠Bw;exact hne)).trans ho)
 have qyy:=Qn qu0 ⟨Bw,0,none⟩ (.slice (some ⟨g,0,none⟩) q.length qc) (λg' hg'=>Qj h.own h.box (by decide) g' hg');refine⟨(qbv h.box _).alloc _,qyy.alloc _,?_,⟨h.shut.nodup,λd hd=>⟨(h.shut.at' d hd).1,qs3 d _ (by have:=(h.shut.at' d hd).1;omega) (h.shut.at' d hd).2⟩⟩,h.md.kept (λk es c hk=>qs3 k _ (λe=>?_) hk),?_,hbw,?_⟩
 ·exact (h.low.setCell (p:=⟨Bw,0,none⟩) (by show N<=Bw;omega) _).alloc (by simp;omega) _
 ·have:=h.box;rw[e,this] at hk;cases hk
 ·have:=World.alloc_heap_new (V.setCell ⟨Bw,0,none⟩ (.slice (some ⟨g,0,none⟩) q.length qc)) (.cells #[.string x.1.rel,.string x.1.x,.string x.1.y,.int .i64 x.2] 172);rw[hsz] at this;exact this
 ·obtain⟨_,c,hc⟩:=qe h.own (g:=g) rfl;exact (zg hc).1
theorem qgx.add{w:Wq}{M':Gd->Option Int}{nn':Nat}(h:qgx N Bw w q x M nn ds g qc Bn V)(hm:qn4 V V')(hb:Below N V V')(hmd:MdL N V' N nn' M'):qgx N Bw w q x M' nn' ds g qc Bn V':=by
 refine⟨hm.block _ _ h.box (λ_ _ e=>by cases e),qm h.own (λg' hg hlt=>?_),h.low.trans hb,⟨h.shut.nodup,λd hd=>⟨(h.shut.at' d hd).1,hm.block _ _ (h.shut.at' d hd).2 (λ_ _ e=>by cases e)⟩⟩,hmd,hm.block _ _ h.next (λ_ _ e=>by cases e),h.bw,h.gn⟩;obtain⟨_,c,hc⟩:=qe h.own hg;rw[hc];exact hm.block _ _ hc (λ_ _ e=>by cases e)
theorem Qat(e:Int)(h0:0<=e)(h1:e<=2000000):(Lit.int .i64 e).wf=true:=by
 simp[Lit.wf,IntKind.min,IntKind.max,IntKind.signed,IntKind.bits];omega
theorem qrw(ar:ByteArray->Nat)(R:List Rl)(F:List (Gd×Int))(U:List Gd)(vl vf:Vq)(rb b45 b87 fb:Nat)(w:Wq)(hok:Qa7 ar R F U)(hR:Qa w rb b45 b87 vl R)(hF:w.ownsRow fb 172 4 vf F.length (F.flatMap qo)) :
  Calls Tryz.prog 75 #[vl,vf] w λe w'=>∃B M,e=.returned (.map (some B))/\MdL w.heap.size w' B 5000 M/\qbf R (F++Qk R) M/\qxx ar M/\Below w.heap.size w w':=by
 obtain⟨la,lc,rfl⟩:=hR.form;obtain⟨fa,fc,rfl⟩:=qn hF;refine (callsIn_wide (n:=14)).1 ?_;refine callsIn_of_wp_marks Tryz.func75 rfl trivial ?_ rfl;simp only[Tryz.ntmps75,List.size_toArray,List.length_cons,List.length_nil,Nat.reduceAdd,Nat.reduceSub,Array.replicate_succ,Array.replicate_zero,List.push_toArray,List.append_toArray,List.nil_append,List.cons_append];have hvl:Hid (∀W,Calls Tryz.prog 131 #[.slice fa F.length fc] W λe w'=>e=.returned (.func (.func 186) #[] #[.pointer (some ⟨W.heap.size,0,none⟩)])/\w'=W.alloc (.cells #[.slice fa F.length fc] 169)):=λW=>qv2 _ W _ _ _ rfl;have hm:=@run_makeMap Tryz.prog;obtain⟨N,hN⟩:∃N,w.heap.size=N:=⟨_,rfl⟩;have hw2:Below N w ((w.alloc (.map #[] 0)).alloc (.cells #[.slice fa F.length fc] 169)):=by rw[<- hN];exact ((Below.refl _ w).alloc zl _).alloc (by simp) _
 have hsv:Hid (Calls Tryz.prog 130 #[.func (.func 186) #[] #[.pointer (some ⟨N+1,0,none⟩)],.func (.func 132) #[] #[]] ((w.alloc (.map #[] 0)).alloc (.cells #[.slice fa F.length fc] 169)) λe w'=>∃(oa:Option Addr) (oc:Nat) (ys:List (Gd×Int)),e=.returned (.slice oa F.length oc)/\ys.Perm F/\ys.Pairwise (λa b=>a.2<=b.2)/\w'.ownsRow (N+2) 172 4 (.slice oa F.length oc) ys.length (ys.flatMap qo)/\Below (N+2) ((w.alloc (.map #[] 0)).alloc (.cells #[.slice fa F.length fc] 169)) w'):=by
  have h1:=World.alloc_heap_new (w.alloc (.map #[] 0)) (.cells #[.slice fa F.length fc] 169);rw[World.size_alloc,hN] at h1;have h2:=qvy (.slice fa F.length fc) F fb (N+1) _ h1 (qk hF (by rw[hN];exact hw2)) (by have:=hok.count;omega);refine h2.mono ?_;rintro e w' ⟨v',ys,rfl,hp,hs,ho,hb⟩;obtain⟨oa,oc,hof⟩:=qn ho;have hl:=hp.length_eq;rw[World.size_alloc,World.size_alloc,hN] at ho hb;subst hof;rw[hl] at ho ⊢;exact⟨oa,oc,ys,rfl,hp,hs,by rw[hl];exact ho,hb⟩
 have hgv:Hid (∀W,Calls Tryz.prog 135 #[.slice la R.length lc] W λe w'=>e=.returned (.func (.func 188) #[] #[.pointer (some ⟨W.heap.size,0,none⟩)])/\w'=W.alloc (.cells #[.slice la R.length lc] 75)):=λW=>q0a _ W _ _ _ rfl;have HR:Hid _:=hR;have HW2:Hid _:=hw2;have HOK:Hid _:=hok;clear hR hF hw2 hok
 gi_wp2_with (first | (refine⟨trivial,?_⟩;gi_at_call 131;refine (callsIn_wide.2 (hvl.out _)).mono ?_;rintro e w' ⟨rfl,rfl⟩) | (refine⟨trivial,?_⟩;gi_at_call 130;refine (callsIn_wide.2 (hsv.out)).mono ?_;rintro e W3 ⟨oa,oc,ys,rfl,hp,hs,ho,hb3⟩))
 have hlF:ys.length=F.length:=hp.length_eq
 have hst:W3.heap[N]?=some (Obj.map #[] 0):=by
  refine (hb3.block N (by omega)).trans ((Below.heap_alloc _ _ _ (by simp;omega)).trans ?_);have:=World.alloc_heap_new w (.map #[] 0);rw[hN] at this;exact this
 have hB3:Below N w W3:=(HW2.out).trans (hb3.mono (by omega));have hs3:N+2<=W3.heap.size:=by have:=hb3.size;simp at this;omega
 obtain⟨Bw,hBw⟩:∃Bw,W3.heap.size=Bw:=⟨_,rfl⟩;obtain⟨W4,hW4⟩:∃W4,W3.alloc (.cells #[.slice oa F.length oc] 169)=W4:=⟨_,rfl⟩;have hb4:Below Bw W3 W4:=by rw[<- hW4,<- hBw];exact (Below.refl _ W3).alloc zl _
 have hs4:W4.heap.size=Bw+1:=by rw[<- hW4,<- hBw];simp
 have bW:W4.heap[Bw]?=some (Obj.cells #[.slice oa F.length oc] 169):=by rw[<- hW4,<- hBw];exact World.alloc_heap_new W3 _
 have ho4:W4.ownsRow (N+2) 172 4 (.slice oa F.length oc) ys.length (ys.flatMap qo):=qk ho (by rw[hBw];exact hb4);have hB4:Below N w W4:=hB3.trans (hb4.mono (by omega));have hm4:W4.heap[N]?=some (Obj.map #[] 0):=(hb4.block N (by omega)).trans hst;have cw:W4.cell? ⟨Bw,0,none⟩=some (.slice oa F.length oc):=by simp[World.cell?,bW]
 (try simp only[hBw])
 rw[hW4];clear hW4 hB3 hst hb3 ho hsv hb4;obtain⟨q0,hq0⟩:∃q0,ys++Qk R=q0:=⟨_,rfl⟩;obtain⟨Pd,hPd⟩:∃Pd:Option Addr->Nat->Wq->Prop,Pd=λqa qc w'=>Boxed w' Bw 169 (.slice qa q0.length qc)/\w'.ownsRow (N+2) 172 4 (.slice qa q0.length qc) q0.length (q0.flatMap qo)/\Below N w w'/\w'.heap[N]?=some (Obj.map #[] 0)/\Bw < w'.heap.size:=⟨_,rfl⟩
 have hap:Hid (∀W5,Below (Bw+1) W4 W5->W5.heap[Bw+1]?=some (Obj.cells #[.slice la R.length lc] 75)->Calls Tryz.prog 134 #[.slice oa F.length oc,.func (.func 188) #[] #[.pointer (some ⟨Bw+1,0,none⟩)]] W5 λe w'=>∃qa qc,e=.returned (.slice qa q0.length qc)/\(∃v,w'.cell? ⟨Bw,0,none⟩=some v)/\w'.frozen? ⟨Bw,0,none⟩=false/\Pd qa qc (w'.setCell ⟨Bw,0,none⟩ (.slice qa q0.length qc))):=by
  intro W5 hb5 qae;have hBl:Bw+1 < W5.heap.size:=(zg qae).1;have ho5:=qk ho4 (by rw[hs4];exact hb5);have Q7:ys.length+R.length<=2000000000000:=by have:=HOK.out.count;have:=HOK.out.few;omega
  rw[<- hlF];rw[<- hlF] at ho5;have hR5:Qa W5 rb b45 b87 (.slice la R.length lc) R:=Qa.rk HR.out (qf.ofBelow (by rw[hN];exact hB4.trans (hb5.mono (by omega))));refine (qig (gf:=188) (lb:=#[.pointer (some ⟨Bw+1,0,none⟩)]) (.slice oa ys.length oc) ys (N+2) W5 ho5 (by omega) Q7 (enters_of Tryz.func188 (by kernel_rfl) rfl) (λm' n'=>q0b (N+2) (Bw+1) rb b45 b87 _ R W5 qae hR5 (λr hr=>⟨(HOK.out.use r hr).args,(HOK.out.use r hr).nums⟩) HOK.out.few m' n')).mono ?_;rintro e w' ⟨v',zs,rfl,hz,ho',hb',hl'⟩;have hz':zs=Qk R:=hz;rw[hz',hq0] at ho';obtain⟨qa,qc,hof⟩:=qn ho';subst hof;have Qe0:W5.heap[Bw]?=some (Obj.cells #[.slice oa F.length oc] 169):=(hb5.block Bw (by omega)).trans bW;have hbw:Boxed w' Bw 169 (.slice oa F.length oc):=hl' Bw _ (by omega) Qe0 (.inr (λc fz e=>by cases e));have hm5:W5.heap[N]?=some (Obj.map #[] 0):=(hb5.block N (by omega)).trans hm4;have hmw:=hl' N _ (by omega) hm5 (.inr (λc fz e=>by cases e));refine⟨qa,qc,rfl,⟨_,hbw.cell⟩,hbw.frozen,?_⟩;rw[hPd];refine⟨qbv hbw _,Qn ho' ⟨Bw,0,none⟩ _ (Qj ho' hbw (by decide)),?_,(Below.heap_setCell _ _ _ _ (by show N≠Bw;omega)).trans hmw,?_⟩
  ·exact ((hB4.trans (hb5.mono (by omega))).trans (hb'.mono (by omega))).setCell (p:=⟨Bw,0,none⟩) (by show N<=Bw;omega) _
  ·have:=hb'.size;simp;omega
 have HPd:Hid _:=hPd
 have Qcd:Hid (∀W,Below (Bw+1) W4 W->W.heap.size=Bw+1->Calls Tryz.prog 135 #[.slice la R.length lc] W λe w'=>e=.returned (.func (.func 188) #[] #[.pointer (some ⟨Bw+1,0,none⟩)])/\Below (Bw+1) W4 w'/\w'.heap[Bw+1]?=some (Obj.cells #[.slice la R.length lc] 75)/\w'.cell? ⟨Bw,0,none⟩=some (.slice oa F.length oc)):=by
  intro W hb hsz;refine (hgv.out W).mono ?_;rintro e w' ⟨rfl,rfl⟩;have h1:=World.alloc_heap_new W (.cells #[.slice la R.length lc] 75);rw[hsz] at h1;have hb2:Below (Bw+1) W4 (W.alloc (.cells #[.slice la R.length lc] 75)):=hb.alloc (by omega) _;refine⟨by rw[hsz],hb2,h1,?_⟩;have h2:=(hb2.block Bw (by omega)).trans bW;simp[World.cell?,h2]
 clear hgv hPd;refine wpIn_mono (Q:=λe a' w'=>match e with | Exit.normal=>∃qa qc v14 v15 v16 v17,a'={tmps:=#[.slice la R.length lc,.slice fa F.length fc,undef,undef,.map none,.map (some N),.pointer (some ⟨Bw,0,none⟩),undef,undef,undef,.map (some N),.slice fa F.length fc,.func (.func 186) #[] #[.pointer (some ⟨N+1,0,none⟩)],.slice oa F.length oc,v14,v15,v16,v17,undef,undef,undef,undef,undef,undef,undef,undef,undef,undef,undef,undef,undef,undef,undef,undef,undef,undef,undef,undef,undef,undef,undef,undef,undef,undef,undef,undef,undef,undef,undef,undef,undef,undef],defers:=[]}/\Pd qa qc w' | _=>False) ?reg ?rest
 case reg=>
  have Qex:Hid (Below (Bw+1) W4 W4.drew):=(Below.refl _ W4).drew;have Qfx:Hid (W4.drew.heap.size=Bw+1):=hs4;clear hB4 hm4 ho4 bW HPd HR HOK hp hs hq0 hvl hm
  first | (gi_region_with (first | (refine⟨trivial,?_⟩;(try refine⟨λh=>(by cases h),?_⟩);refine (callsIn_wide.2 (Qcd.out _ Qex.out Qfx.out)).mono ?_;rintro e W5 ⟨rfl,hb5,hx5,cw5⟩) | (refine⟨trivial,?_⟩;(try refine⟨λh=>(by cases h),?_⟩);refine (callsIn_wide.2 (hap.out W5 hb5 hx5)).mono ?_;rintro e W6 ⟨qa,qc,rfl,⟨cv,hcv⟩,hfz,hPw⟩))) | fail
  all_goals exact⟨qa,qc,_,_,_,_,rfl,hPw⟩
 case rest=>
  rintro e a' W6 hq
  cases e with
  | normal=>
   obtain⟨qa,qc,v14,v15,v16,v17,rfl,hPw⟩:=hq;rw[HPd.out] at hPw;clear hap HPd Qcd
   gi_wp2
   obtain⟨pb,po,pl,pm,psz⟩:=hPw
   have qy0:q0.Pairwise (λa b=>a.2<=b.2):=by
    rw[<- hq0];refine List.pairwise_append.2 ⟨hs,?_,λa ha b hb=>?_⟩
    ·have:∀x∈Qk R,x.2=2000000:=λx hx=>by
      obtain⟨r,_,hr⟩:=List.mem_filterMap.1 hx;split at hr
      ·cases hr;rfl
      ·cases hr
     exact List.pairwise_of_forall_mem_list (λa ha b hb=>by rw[this a ha,this b hb];exact Int.le_refl _)
    ·obtain⟨r,_,hr⟩:=List.mem_filterMap.1 hb;split at hr
     ·cases hr;exact (HOK.out.ends a (hp.mem_iff.1 ha)).2
     ·cases hr
   have q3f:∀x,x∈q0↔x∈F++Qk R:=λx=>by
    rw[<- hq0,List.mem_append,List.mem_append,hp.mem_iff]
   have qyx:∀x∈q0,0<=x.2/\x.2<=2000000:=λx hx=>by
    rcases List.mem_append.1 ((q3f x).1 hx) with h | h
    ·exact HOK.out.ends x h
    ·obtain⟨r,_,hr⟩:=List.mem_filterMap.1 h;split at hr
     ·cases hr;exact⟨(by show (0:Int)<=2000000;decide),(by show (2000000:Int)<=2000000;decide)⟩
     ·cases hr
   have Qfu:q0.length<=1008:=by
    rw[<- hq0,List.length_append,hlF];have h1:(Qk R).length<=R.length:=List.length_filterMap_le _ _;have:=HOK.out.count;have:=HOK.out.few;omega
   have qqx:qzl N Bw q0.length w ar R (F++Qk R) U q0 (λ_=>none) [] [] qa qc W6:=⟨pb,po,pl,qdx.nil _ _,q0o pm,qh1.first qy0 q3f HOK.out.facts HOK.out.inU,List.nodup_nil,λg=>by simp,by simp,by simp,qyx,psz⟩;have hR6:Qa W6 rb b45 b87 (.slice la R.length lc) R:=Qa.rk HR.out (qf.ofBelow (by rw[hN];exact pl));clear pb po pl pm qy0 q3f qyx hs hp;refine wpIn_loop_ghost (λn A V=>∃(q:List (Gd×Int)) (M:Gd->Option Int) (ks:List Gd) (ds:List Nat) (qa:Option Addr) (qc:Nat) (u7 u8 u18 u19 u20 u21 u22 u23 u24 u25 u26 u27 u28 u29 u30 u31 u32 u33 u34 u35 u36 u37 u38 u39 u40 u41 u42:Vq),A={tmps:=#[.slice la R.length lc,.slice fa F.length fc,undef,undef,.map none,.map (some N),.pointer (some ⟨Bw,0,none⟩),u7,u8,undef,.map (some N),.slice fa F.length fc,.func (.func 186) #[] #[.pointer (some ⟨N+1,0,none⟩)],.slice oa F.length oc,v14,v15,v16,v17,u18,u19,u20,u21,u22,u23,u24,u25,u26,u27,u28,u29,u30,u31,u32,u33,u34,u35,u36,u37,u38,u39,u40,u41,u42,undef,undef,undef,undef,undef,undef,undef,undef,undef],defers:=qes ds}/\Hid (qzl N Bw q0.length w ar R (F++Qk R) U q M ks ds qa qc V)/\n=(U.length - ks.length)*553190425+q.length) _ ⟨q0,_,[],[],qa,qc,_,_,_,_,_,_,_,_,_,_,_,_,_,_,_,_,_,_,_,_,_,_,_,_,_,_,_,rfl,qqx,rfl⟩ ?_;rintro gn A V ⟨q,M,ks,ds,qa,qc,u7,u8,u18,u19,u20,u21,u22,u23,u24,u25,u26,u27,u28,u29,u30,u31,u32,u33,u34,u35,u36,u37,u38,u39,u40,u41,u42,rfl,hSt,hgn⟩;clear qqx;have hkU:ks.length<=U.length:=qpp ks U hSt.out.nd hSt.out.sub;have hU:=HOK.out.small;have qyz:q.length<=1400000000000:=by have:=hSt.out.len;omega
   have cb:=hSt.out.box.cell;have fb:=hSt.out.box.frozen;rcases List.eq_nil_or_concat q with rfl | ⟨q',x,hqx⟩
   ·have q9:=hSt.out.inv.done;have hmd:=hSt.out.md;have qqv:=hSt.out.inv.okM;have Qcn:=hSt.out.low;have hsh:=hSt.out.shut;have HF:Hid _:=q9;have HM:Hid _:=hmd;have HO:Hid _:=qqv;clear q9 hmd qqv hSt hgn
    gi_wp2
    show LeavesInM Fence.wide 14 Tryz.prog _ _ _ (qes ds) .returning V;refine qek ds V hsh.nodup (λD hD=>(hsh.at' D hD).2) (λW' hc hsz=>?_)
    have hkM:MdL w.heap.size W' N 5000 M:=by
     rw[hN];refine (MdL.kept HM.out (λk es c hk=>(hc.block k (zg hk).1 (λe=>?_)).trans hk)).mono (by omega);rw[(hsh.at' k e).2] at hk;cases hk
    refine⟨_,results_tmp rfl _ _ _,N,M,rfl,hkM,HF.out,HO.out,?_⟩;rw[hN];refine Qcn.trans ⟨hc.os,hc.tape,hc.output,hc.size,λk hk=>hc.block k (by have:=Qcn.size;omega) (λe=>?_)⟩;have:=(hsh.at' k e).1;omega
   ·rw[List.concat_eq_append] at hqx;subst hqx;have hlq:(q'++[x]).length=q'.length+1:=by simp
    have qr:=hSt.out.own;obtain⟨g,c,e0,x0,x1,x2,x3⟩:=qrv qr (k:=q'.length) (by simp);have hxq:(q'++[x])[q'.length]'(by simp)=x:=by simp
    rw[hxq] at x0 x1 x2 x3;rw[hlq] at e0 cb qr;cases e0
    have hgV:g < V.heap.size:=by
     obtain⟨_,c',hc'⟩:=qe qr (g:=g) rfl;exact (zg hc').1
    have hgB:g≠Bw:=λe=>Qj qr hSt.out.box (by decide) g rfl e;have hbl:∀O,Below V.heap.size V (V.alloc O):=λO=>(Below.refl _ V).alloc zl O;have cb2:∀O,(V.alloc O).cell? ⟨Bw,0,none⟩=some (.slice (some ⟨g,0,none⟩) (q'.length+1) qc):=λO=>cell_later (hbl O) cb;have fb2:∀O,(V.alloc O).frozen? ⟨Bw,0,none⟩=false:=λO=>(hSt.out.box.alloc O).frozen
    have Qg3:(q'.length:Int)+1<=(qc:Int):=by
     obtain⟨_,⟨hv,_⟩ | ⟨g',cap,cur,hv,_,_,h1,_⟩⟩:=qr
     ·cases hv
     ·cases hv;omega
    have HBL:Hid _:=hbl;have Qgk:Hid _:=qr;have HGN:Hid _:=hgn;rw[hlq] at qyz;clear hbl qr hgn hlq hxq;have hNB:N+2<=Bw:=by omega
    have q6k:=qzl.pop hNB hSt.out;have hxg:qgw x.1:=(hSt.out.inv.okQ x (by simp)).2;have hxe:=hSt.out.ends x (by simp);have hnb:=q6k.bw;have n0:∀v,((V.alloc (.cells #[.string x.1.rel,.string x.1.x,.string x.1.y,.int .i64 x.2] 172)).setCell ⟨Bw,0,none⟩ v).cell? ⟨V.heap.size,0,none⟩=some (.string x.1.rel):=λv=>(qbn _ _ _ _ _ _ (by omega)).trans (by simp);have n1:∀v,((V.alloc (.cells #[.string x.1.rel,.string x.1.x,.string x.1.y,.int .i64 x.2] 172)).setCell ⟨Bw,0,none⟩ v).cell? ⟨V.heap.size,1,none⟩=some (.string x.1.x):=λv=>(qbn _ _ _ _ _ _ (by omega)).trans (by simp);have n2:∀v,((V.alloc (.cells #[.string x.1.rel,.string x.1.x,.string x.1.y,.int .i64 x.2] 172)).setCell ⟨Bw,0,none⟩ v).cell? ⟨V.heap.size,2,none⟩=some (.string x.1.y):=λv=>(qbn _ _ _ _ _ _ (by omega)).trans (by simp);have qll:=qyv N (2*ks.length) M x.1 hxg _ q6k.md.at';unfold Gd.v Gd.c at qll;have q5u:Hid _:=qll;have Qa1:Hid _:=q6k;clear qll q6k;generalize hql:q'.length=ql at *
    cases hMx:M x.1 with
    | some t=>
     have q0h:=hSt.out.inv.skip (by rw[hMx];rfl);rw[hMx] at q5u;have HI:Hid _:=q0h;clear q0h
     gi_wp2_with (refine⟨trivial,?_⟩;gi_at_call 136;refine (callsIn_wide.2 q5u.out).mono ?_;rintro e V3 ⟨rfl,hb3⟩)
     have hP3:=qgx.below Qa1.out hb3;subst hql;refine⟨(U.length - ks.length)*553190425+q'.length,by rw[HGN.out];simp,q',M,ks,ds,some ⟨g,0,none⟩,qc,_,_,_,_,_,_,_,_,_,_,_,_,_,_,_,_,_,_,_,_,_,_,_,_,_,_,_,rfl,⟨hP3.box,hP3.own,hP3.low,hP3.shut,hP3.md,HI.out,hSt.out.nd,hSt.out.mem,hSt.out.sub,by have:=hSt.out.len;rw[List.length_append] at this;simp at this;omega,λy hy=>hSt.out.ends y (by simp[hy]),hP3.box.lt⟩,rfl⟩
    | none=>
     rw[hMx] at q5u;have HMX:Hid _:=hMx;clear hMx
     have Qb2:Hid (∀V3,qgx N Bw w q' x M (2*ks.length) ds g qc V.heap.size V3->V3.cell? ⟨V.heap.size,0,none⟩=some (.string x.1.rel)/\V3.cell? ⟨V.heap.size,1,none⟩=some (.string x.1.x)/\V3.cell? ⟨V.heap.size,2,none⟩=some (.string x.1.y)/\V3.cell? ⟨V.heap.size,3,none⟩=some (.int .i64 x.2)):=by
      intro V3 h;have:=h.next;refine⟨?_,?_,?_,?_⟩ <;> simp[World.cell?,this]
     have qcv:Hid (∀V3,qgx N Bw w q' x M (2*ks.length) ds g qc V.heap.size V3->Calls Tryz.prog 137 #[.map (some N),.agg #[.string x.1.rel,.string x.1.x,.string x.1.y,.int .i64 x.2]] V3 λe' w'=>e'=.returned (.tuple #[])/\qgx N Bw w q' x (qdi M x.1 x.2) (2*ks.length+2) ds g qc V.heap.size w'/\w'.cell? ⟨V.heap.size,0,none⟩=some (.string x.1.rel)/\w'.cell? ⟨V.heap.size,1,none⟩=some (.string x.1.x)/\w'.cell? ⟨V.heap.size,2,none⟩=some (.string x.1.y)):=by
      intro V3 h;refine (q8z N N (2*ks.length) M x.1 x.2 hxg V3 h.md (by unfold maxLen;omega) (Qat x.2 hxe.1 hxe.2)).mono ?_;rintro e w' ⟨rfl,h1,h2,h3⟩;have hP:=h.add h2 h3 h1;have:=hP.next;refine⟨rfl,hP,?_,?_,?_⟩ <;> simp[World.cell?,this]
     have hfo:Hid (∀W,Calls Tryz.prog 138 #[.map (some N),.slice la R.length lc,.agg #[.string x.1.rel,.string x.1.x,.string x.1.y]] W λe w'=>e=.returned (.func (.func 189) #[] #[.pointer (some ⟨W.heap.size+1,0,none⟩),.pointer (some ⟨W.heap.size,0,none⟩),.pointer (some ⟨W.heap.size+2,0,none⟩)])/\
   w'=((W.alloc (.cells #[.map (some N)] 98)).alloc (.cells #[.slice la R.length lc] 75)).alloc (.cells #[.string x.1.rel,.string x.1.x,.string x.1.y] 111)):=λW=>qw1 N _ x.1 W _ _ _ rfl
     gi_wp2_with (first | (refine⟨trivial,?_⟩;gi_at_call 136;refine (callsIn_wide.2 q5u.out).mono ?_;rintro e V3 ⟨rfl,hb3⟩;have hP3:=qgx.below Qa1.out hb3;have HP3:Hid _:=hP3;clear hP3;obtain⟨d0,d1,d2,d3⟩:=Qb2.out V3 HP3.out) | (refine⟨trivial,?_⟩;gi_at_call 137;refine (callsIn_wide.2 (qcv.out V3 HP3.out)).mono ?_;rintro e V4 ⟨rfl,hP4,d40,d41,d42⟩;have HP4:Hid _:=hP4;clear hP4) | (refine⟨trivial,?_⟩;gi_at_call 138;refine (callsIn_wide.2 (hfo.out _)).mono ?_;rintro e w' ⟨rfl,rfl⟩))
     obtain⟨VN,hVN⟩:∃VN,V4.heap.size=VN:=⟨_,rfl⟩;obtain⟨W7,hW7⟩:∃W7,((V4.alloc (.cells #[.map (some N)] 98)).alloc (.cells #[.slice la R.length lc] 75)).alloc (.cells #[.string x.1.rel,.string x.1.x,.string x.1.y] 111)=W7:=⟨_,rfl⟩;have hb7:Below V4.heap.size V4 W7:=by rw[<- hW7];exact (((Below.refl _ V4).alloc zl _).alloc (by simp) _).alloc (by simp;omega) _
     have hs7:W7.heap.size=VN+3:=by rw[<- hW7,<- hVN];simp
     have eM:W7.heap[VN]?=some (Obj.cells #[.map (some N)] 98):=by
      rw[<- hW7,<- hVN];exact (Below.heap_alloc _ _ _ (by simp;omega)).trans ((Below.heap_alloc _ _ _ (by simp)).trans (World.alloc_heap_new V4 _))
     have eL:W7.heap[VN+1]?=some (Obj.cells #[.slice la R.length lc] 75):=by
      rw[<- hW7,<- hVN];refine (Below.heap_alloc _ _ _ (by simp)).trans ?_;have:=World.alloc_heap_new (V4.alloc (.cells #[.map (some N)] 98)) (.cells #[.slice la R.length lc] 75);rw[World.size_alloc] at this;exact this
     have eG:W7.heap[VN+2]?=some (Obj.cells x.1.c 111):=by
      rw[<- hW7,<- hVN];have:=World.alloc_heap_new ((V4.alloc (.cells #[.map (some N)] 98)).alloc (.cells #[.slice la R.length lc] 75)) (.cells #[.string x.1.rel,.string x.1.x,.string x.1.y] 111);rw[World.size_alloc,World.size_alloc] at this;exact this
     have hP7:=qgx.below HP4.out hb7;have hR7:Qa W7 rb b45 b87 (.slice la R.length lc) R:=Qa.rk HR.out (qf.ofBelow (by rw[hN];exact hP7.low));have fst:q1y (VN+1) VN (VN+2) N (2*ks.length+2) rb b45 b87 (qdi M x.1 x.2) (.slice la R.length lc) R x.1 W7:=⟨eL,eM,eG,hR7,hP7.md.at'⟩;have ih:=qw2 (14 - 1) (VN+1) VN (VN+2) N (2*ks.length+2) rb b45 b87 (qdi M x.1 x.2) (.slice la R.length lc) R x.1 W7 fst HOK.out.use HOK.out.few hxg (W7.heap.size+2);have Qdd:x.1∉ks:=λh=>by have:=(hSt.out.mem x.1).2 h;rw[HMX.out] at this;cases this
     have q9m:(x.1::ks).length<=U.length:=qpp (x.1::ks) U (List.nodup_cons.2 ⟨Qdd,hSt.out.nd⟩) (λy hy=>by
      rcases List.mem_cons.1 hy with rfl | hy
      ·exact hSt.out.inv.inU x (by simp)
      ·exact hSt.out.sub y hy)
     have hfn:R.length*foN (2*ks.length+2)<=553190424:=q87 HOK.out.few (by simp at q9m;omega);have Qfv:q'.length<=q0.length+ks.length*553190424:=by have:=hSt.out.len;rw[List.length_append] at this;simp at this;omega
     have hBn:V.heap.size < W7.heap.size:=(zg hP7.next).1;have qn0:∀d∈ds,d < W7.heap.size:=hP7.shut.lt;have hNW:N+2<=W7.heap.size:=by have:=hP7.bw;omega
     have Qgn:Bw < W7.heap.size:=hP7.box.lt;obtain⟨i0,hi,hz0,hz1,hz2⟩:=info_parts Tryz.infoLast
     (try simp only[hVN])
     rw[hW7];clear hW7 qcv Qb2 hfo n0 n1 n2 d0 d1 d2 d3 d40 d41 d42 cb cb2 fb fb2 x0 x1 x2 x3
     refine qfx (n:=14) (gf:=189) (lb:=#[.pointer (some ⟨VN+1,0,none⟩),.pointer (some ⟨VN,0,none⟩),.pointer (some ⟨VN+2,0,none⟩)]) rfl (enters_of Tryz.func189 (by kernel_rfl) rfl)
      ih qt.tr (λV' rc' o' ho=>qt.put V' _ _ o' (by omega) ho rfl (λ_ _ h=>by cases h)) (λ_=>rfl)
      (λpre V2=>∃v,Boxed V2 Bw 169 v/\V2.ownsRow (N+2) 172 4 v (q'++pre.map (λh=>(h.1,x.2))).length ((q'++pre.map (λh=>(h.1,x.2))).flatMap qo)/\v.ownBlock≠some V.heap.size/\Below N w V2/\qdx (Bw+1) ds V2/\V2.heap[V.heap.size]?=some (Obj.cells #[.string x.1.rel,.string x.1.x,.string x.1.y,.int .i64 x.2] 172)/\qt (W7.heap.size+2) W7 V2)
      (λ_ _ _=>False)
      ?hI2 (λ_ _ _ _ _ h _ _=>h) ⟨_,hP7.box,by simpa using hP7.own,λe=>by have:=hP7.gn;injection e with e;simp at e;omega,hP7.low,hP7.shut,hP7.next,qt.ofBelow (Below.refl _ _)⟩
      (λh a' V2=>∃Bx,V2.heap[Bx]?=some (Obj.cells h.1.c 111)/\a'={tmps:=#[.slice la R.length lc,.slice fa F.length fc,undef,undef,.map none,.map (some N),.pointer (some ⟨Bw,0,none⟩),.int .i64 ql,.pointer (some ⟨V.heap.size,0,none⟩),.pointer (some ⟨Bx,0,none⟩),.map (some N),.slice fa F.length fc,.func (.func 186) #[] #[.pointer (some ⟨N+1,0,none⟩)],.slice oa F.length oc,v14,v15,v16,v17,.slice (some ⟨g,0,none⟩) (ql+1) qc,.int .i64 (ql+1),.bool true,.slice (some ⟨g,0,none⟩) (ql+1) qc,.int .i64 (ql+1),.int .i64 ql,.slice (some ⟨g,0,none⟩) (ql+1) qc,.int .i64 ql,.pointer (some ⟨g,ql*4,none⟩),.agg #[.string x.1.rel,.string x.1.x,.string x.1.y,.int .i64 x.2],.slice (some ⟨g,0,none⟩) (ql+1) qc,.int .i64 ql,.slice (some ⟨g,0,none⟩) ql qc,.map (some N),.pointer (some ⟨V.heap.size,0,none⟩),.agg #[.string x.1.rel,.string x.1.x,.string x.1.y],.bool false,.map (some N),.agg #[.string x.1.rel,.string x.1.x,.string x.1.y,.int .i64 x.2],.tuple #[],.map (some N),.slice la R.length lc,.pointer (some ⟨V.heap.size,0,none⟩),.agg #[.string x.1.rel,.string x.1.x,.string x.1.y],.func (.func 189) #[] #[.pointer (some ⟨VN+1,0,none⟩),.pointer (some ⟨VN,0,none⟩),.pointer (some ⟨VN+2,0,none⟩)],.agg #[.string h.1.rel,.string h.1.x,.string h.1.y],undef,undef,undef,undef,undef,undef,undef,undef],defers:=[]})
      ?hAx2 ?assign2 ?body2 ?done2 (λ_ _ _ _ _ _ h _=>h.elim)
     case hI2=>
      rintro pre X X' row ⟨v,j1,j2,j3,j4,j5,j6,j7⟩ hg hr;have hk:=qj hg (λr e=>(hr r e).2);exact⟨v,hk _ _ _ _ j1,q8 j2 (λg c _ hc=>hk g c _ _ hc),j3,j4.grown hg (by have:=j4.size;omega) (λr e=>by have:=(hr r e).1;omega),j5.grown hg (λr e=>(hr r e).1) qn0,hk _ _ _ _ j6,j7.own hg (λr e=>(hr r e).1)⟩
     case hAx2=>
      rintro h a' _ X X' row ⟨Bx,k2,k3⟩ hg hr;exact⟨Bx,qj hg (λr e=>(hr r e).2) _ _ _ _ k2,k3⟩
     case assign2=>
      rintro l2 pre h X K hl2 hlr2 ⟨v,j1,j2,j3,j4,j5,j6,j7⟩ hK;have HK:Hid _:=hK;clear hK;unfold Gd.v Gd.c
      gi_wp2
      have hbl:Below X.heap.size X (X.alloc (.cells #[.string h.1.rel,.string h.1.x,.string h.1.y] 111)):=(Below.refl _ X).alloc zl _;exact HK.out _ _ (KeepsFrom.ofBelow hbl) (qt.ofBelow hbl) ⟨v,j1.alloc _,j2.alloc _,j3,j4.trans (hbl.mono (by have:=j7.from'.size;omega)),j5.below hbl,(hbl.block _ (zg j6).1).trans j6,j7.tr (qt.ofBelow hbl)⟩ ⟨X.heap.size,World.alloc_heap_new X _,rfl⟩
     case done2=>
      rintro D hs X hD ⟨s1,s2⟩ ⟨v,j1,j2,j3,j4,j5,j6,j7⟩ hK;obtain⟨va,vc,rfl⟩:=qn j2;have hDn:D∉ds:=λh=>by have:=qn0 D h;omega
      have q0h:=hSt.out.inv.add HOK.out.arity HOK.out.rules HOK.out.closed HOK.out.okU HMX.out (hs:=hs.map (·.1)) (λh=>s1 h);have q9u:(q'++hs.map (λh=>(h.1,x.2))).length=q'.length+hs.length:=by simp
      have Qcq:MdL N X N (2*(x.1::ks).length) (qdi M x.1 x.2):=by
       have:=hP7.md.kept j7.maps;rw[List.length_cons];exact this
      have qqu:(hs.map (·.1)).map (λg=>(g,x.2))=hs.map (λh=>(h.1,x.2)):=by rw[List.map_map];rfl
      rw[qqu] at q0h
      have qdt:qzl N Bw q0.length w ar R (F++Qk R) U (q'++hs.map (λh=>(h.1,x.2))) (qdi M x.1 x.2) (x.1::ks) (D::ds) va vc X:=by
       refine⟨j1,j2,j4,j5.cons (by omega) hK hDn,Qcq,q0h,List.nodup_cons.2 ⟨Qdd,hSt.out.nd⟩,λy=>?_,λy hy=>?_,?_,λy hy=>?_,j1.lt⟩
       ·by_cases e:y=x.1
        ·subst e;rw[qfd];simp
        ·rw[ql7 e,hSt.out.mem];simp[e]
       ·rcases List.mem_cons.1 hy with rfl | hy
        ·exact hSt.out.inv.inU x (by simp)
        ·exact hSt.out.sub y hy
       ·rw[q9u,List.length_cons,Nat.add_mul,Nat.one_mul];omega
       ·rcases List.mem_append.1 hy with hy | hy
        ·exact hSt.out.ends y (by simp[hy])
        ·obtain⟨h,_,rfl⟩:=List.mem_map.1 hy;exact hxe
      have Qd9:Hid _:=qdt
      have q0e:(U.length - (x.1::ks).length)*553190425+(q'++hs.map (λh=>(h.1,x.2))).length < gn:=by
       rw[HGN.out,q9u,List.length_append];have e1:U.length - ks.length=(U.length - (x.1::ks).length)+1:=by simp at q9m ⊢;omega
       rw[e1,Nat.add_mul,Nat.one_mul];simp;omega
      have Qd8:Hid _:=q0e;clear qdt q0h Qcq qqu s1 s2 q0e q9u
      gi_wp2
      exact⟨_,Qd8.out,_,_,x.1::ks,D::ds,va,vc,_,_,_,_,_,_,_,_,_,_,_,_,_,_,_,_,_,_,_,_,_,_,_,_,_,_,_,rfl,Qd9.out,rfl⟩
     case body2=>
      rintro l2 pre h a' X hl2 ⟨rc2,hrc2⟩ ⟨v,j1,j2,j3,j4,j5,j6,j7⟩ ⟨Bx,hbx,rfl⟩ qs0;obtain⟨va,vc,rfl⟩:=qn j2;have qe5:=hbx;unfold Gd.c at qe5;have r0:X.cell? ⟨Bx,0,none⟩=some (.string h.1.rel):=by simp[World.cell?,qe5]
      have r1:X.cell? ⟨Bx,1,none⟩=some (.string h.1.x):=by simp[World.cell?,qe5]
      have r2:X.cell? ⟨Bx,2,none⟩=some (.string h.1.y):=by simp[World.cell?,qe5]
      have r3:X.cell? ⟨V.heap.size,3,none⟩=some (.int .i64 x.2):=by simp[World.cell?,j6]
      have cw1:=j1.cell;have hln:(q'++pre.map (λh=>(h.1,x.2))).length=q'.length+pre.length:=by simp
      have hlb:(q'++pre.map (λh=>(h.1,x.2))).length<=2000000000000:=by
       rw[hln];have:=Qfu;have e1:ks.length<=2400:=by simp at q9m;omega
       omega
      have qhq:(q'++pre.map (λh=>(h.1,x.2))).length+1<=maxLen:=by unfold maxLen;omega
      have qdz:((q'++pre.map (λh=>(h.1,x.2))).length+1)*56<=140737488355328:=by omega
      have Qf1:Hid ((q'++(pre++[h]).map (λh=>(h.1,x.2))).length=(q'++pre.map (λh=>(h.1,x.2))).length+1):=by show _=_;simp;omega
      have qmr:Hid ((q'++(pre++[h]).map (λh=>(h.1,x.2))).flatMap qo=(q'++pre.map (λh=>(h.1,x.2))).flatMap qo++[.string h.1.rel,.string h.1.x,.string h.1.y,.int .i64 x.2]):=by
       show _=_;rw[List.map_append,<- List.append_assoc,List.flatMap_append];rfl
      have hN7:N+2<=X.heap.size:=by have:=j7.from'.size;omega
      clear hln hlb qe5;generalize hus:(q'++pre.map (λh=>(h.1,x.2))).length=un at *;generalize hub:(q'++pre.map (λh=>(h.1,x.2))).flatMap qo=uc at *;clear hus hub
      have hVX:Hid (∀w1,(X.alloc (.cells #[.string h.1.rel,.string h.1.x,.string h.1.y,.int .i64 x.2] 172)).grownBy w1 (Value.slice va un vc).ownBlock->Boxed w1 Bw 169 (.slice va un vc)/\Chg X w1 (λj=>some j=(Value.slice va un vc).ownBlock)):=by
       intro w1 hg;have hc:Chg X w1 (λj=>some j=(Value.slice va un vc).ownBlock):=((Chg.refl X _).alloc _).grown hg (λk e _=>e.symm);exact⟨(hc.block _ j1.lt (λe=>Qj j2 j1 (by decide) _ e.symm rfl)).trans j1,hc⟩
      gi_wp2_with (gi_at_builtin;refine wpListIn_append_own_at _ rfl _ _ 169 rfl (N+2) 172 i0 (.agg #[.string ⟨#[]⟩,.string ⟨#[]⟩,.string ⟨#[]⟩,.int .i64 0]) 4 56 Tryz.underlying169 hi hz0 hz1 hz2 rfl (by decide) _ _ _ rfl (World.ownsRow.alloc j2 _) ⟨X.heap.size,0,none⟩ 1 1 [.string h.1.rel,.string h.1.x,.string h.1.y,.int .i64 x.2] rfl rfl (qbz _ _ _ _ _ _) (by simp[Value.oneCell']) qhq qdz (by simp;omega) ?_;intro v' w1 hown1 hgrow1 _ hat;obtain⟨g',cap',hv'⟩:=ownsRow_succ hown1;subst hv';obtain⟨qcg,qxb⟩:=hVX.out w1 hgrow1;have cc:=qcg.cell;have ff:=qcg.frozen)
      have qgp:Chg X (w1.setCell ⟨Bw,0,none⟩ (.slice (some ⟨g',0,none⟩) (un+1) cap')) (λj=>j=Bw\/some j=(Value.slice va un vc).ownBlock):=(qxb.mono (λ_ _ e=>.inr e)).setCell ⟨Bw,0,none⟩ _ (λ_=>.inl rfl)
      have hcl:∀m',KeepsFrom m' X (w1.setCell ⟨Bw,0,none⟩ (.slice (some ⟨g',0,none⟩) (un+1) cap')):=λm'=>qni qgp (λj hj hx=>by
       rcases hx with rfl | hx
       ·exact⟨_,_,j1⟩
       ·obtain⟨_,c,hc⟩:=qe j2 hx.symm;exact⟨c,_,hc⟩)
      have hex:∀(k:Nat) (o:Obj),X.heap[k]?=some o->(∀c fz,o≠Obj.cells c 172 fz)->(∀c fz,o≠Obj.cells c 169 fz)->(w1.setCell ⟨Bw,0,none⟩ (.slice (some ⟨g',0,none⟩) (un+1) cap')).heap[k]?=some o:=λk o ho h1 h2=>by
       refine (qgp.block k (zg ho).1 (λe=>?_)).trans ho;rcases e with rfl | e
       ·have hj:=j1;rw[hj] at ho;cases ho;exact h2 _ _ rfl
       ·obtain⟨_,c,hc⟩:=qe j2 e.symm;rw[hc] at ho;cases ho;exact h1 _ _ rfl
      have hmk:∀m',qt m' X (w1.setCell ⟨Bw,0,none⟩ (.slice (some ⟨g',0,none⟩) (un+1) cap')):=λm'=>⟨λk c t ht hk=>hex k _ hk (λc' fz e=>by cases e;exact ht.2.2.1 rfl) (λc' fz e=>by cases e;exact ht.2.2.2 rfl),λk es c hk=>hex k _ hk (λ_ _ e=>by cases e) (λ_ _ e=>by cases e),hcl m'⟩;have hb5:=hP7.bw;have hXV:V.heap.size < X.heap.size:=by have:=j7.from'.size;omega
      refine⟨hcl _,hmk _,_,qbv qcg _,?_,?_,?_,⟨j5.nodup,λd hd=>⟨(j5.at' d hd).1,hex d _ (j5.at' d hd).2 (λ_ _ e=>by cases e) (λ_ _ e=>by cases e)⟩⟩,?_,j7.tr (hmk _)⟩
      ·rw[Qf1.out,qmr.out];have:=Qn hown1 ⟨Bw,0,none⟩ (.slice (some ⟨g',0,none⟩) (un+1) cap') (Qj hown1 qcg (by decide));simpa using this
      ·rcases hat with hat | hat
       ·rw[hat];exact j3
       ·rw[hat];intro e;injection e with e;simp at e;omega
      ·refine j4.trans ⟨qgp.os,qgp.tape,qgp.output,qgp.size,λk hk=>?_⟩;refine qgp.block k (by omega) (λe=>?_);rcases e with rfl | e
       ·omega
       ·have:=(qe j2 e.symm).1;omega
      ·refine (qgp.block _ hXV (λe=>?_)).trans j6;rcases e with e | e
       ·omega
       ·exact j3 e.symm
  | _=>exact False.elim hq
