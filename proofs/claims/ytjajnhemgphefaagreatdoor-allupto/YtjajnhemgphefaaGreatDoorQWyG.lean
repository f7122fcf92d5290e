/- A part -/
import Derived.Test.YtjajnhemgphefaaGreatDoorQMoJ
import Derived.Test.YtjajnhemgphefaaGreatDoorQEgI
import Derived.Test.YtjajnhemgphefaaGreatDoorQWyB
set_option linter.all false
set_option maxRecDepth 100000
set_option maxHeartbeats 16000000
open List renaming length->aD,length_append->bB,take_succ_eq_append_getElem->bD,getElem?_take->bE,length_cons->bG,mem_append->bI,mem_filterMap->bJ,getElem?_eq_getElem->bO,mem_cons->bU,flatMap_append->bX,getElem_of_mem->bZ,filter_eq_self->cA,mergeSort_perm->cD,flatMap_cons->cH,ext_getElem?->cI,length_take->cJ,nodup_cons->cL,drop_drop->cO
open Go.World renaming cell?->aE,frozen?->aF,ownsRow->aH,size_alloc->bC
open Go.Value renaming ownBlock->aI,slice->aJ,string->aK,agg->aL,bool->aM,tuple->aN,int->aO
open Go.Obj renaming cells->aP,map->bL
open Go.Ending renaming returned->aQ
open Go.IntKind renaming i64->aR
open Or renaming inl->aS,inr->aU
open Option renaming some->aX,none->aY
open Go renaming undef->aZ,callsIn_wide->cW
open Go.RowKit.Below renaming heap_alloc->bF,refl->bH,heap_setCell->cF
open Nat renaming mul_le_mul_right->bQ,le_of_lt->cE,lt_of_lt_of_le->cG,mod_lt->cM,add_zero->cP,le_trans->cQ,le_refl->cR,add_mul->cS,one_mul->cT
open Array renaming mem_toList_iff->bT
open Go.RowKit renaming Below->cU
open Go.Builtin renaming zeroCells->cX
open Go.Proofs.Tryz renaming prog->cZ
namespace Go.Proofs.YtjajnhemgphefaaGreatDoor
open Go renaming World->Wq,Value->Vq
open Go.RowKit Go.Shelf Go.Maps
attribute [local go_sem] Oper.semAt_some
variable {N b k Bw nn g qc Bn i ac be bm rb ad:Nat} {W V V' W':Wq} {q L:List (Gd×Int)} {x:Gd×Int} {M:Gd->Option Int} {ds ae:List Nat} {t:TypeId} {es:Array MapEntry} {S:Nat->Prop} {vr vn vk vf:Vq} {Sf:Nat->Nat->Prop}
structure Fu(ar:ByteArray->Nat)(R:List Rl)(F:List (Gd×Int))(U:List Gd):Prop where
 c:∀r,ar r=1\/ar r=2\/ar r=0
 u:∀r∈R,uS ar r/\r.d.d≠[]
 f:∀r∈R,Cq r
 I:aD R<=8
 v:∀x∈F++Qx R,gN ar x.1/\lZ x.1
 j:∀x∈F++Qx R,x.1∈U
 h:∀x∈F,0<=x.2/\x.2<=2000000
 closed:∀r∈R,r.n≠[]->∀p:fD,(∀a∈r.n,qb p a∈U/\gN ar (qb p a))->qb p r.d∈U
 m:∀g∈U,lZ g
 l:aD U<=2400
 d:aD F<=1000
theorem JY{a n:Nat}(C:a<=8)(E:n<=4800):a*nH n<=553190424:=by
 have z:nH n<=nH 4800:=by unfold nH;exact Nat.mul_le_mul_left _ (Nat.pow_le_pow_left (by lia) 2)
 have A:nH 4800=69148803:=by unfold nH;decide
 have:=Nat.mul_le_mul C z;rwa[A] at this
structure wv(N Bw n0:Nat)(w:Wq)(ar:ByteArray->Nat)(R:List Rl)(FF:List (Gd×Int))(U:List Gd)(q:List (Gd×Int))(M:Gd->Option Int)(ks:List Gd)(ds:List Nat)(qa:Option Addr)(qc:Nat)(V:Wq):Prop where
 A:Boxed V Bw 169 (aJ qa (aD q) qc)
 z:aH V (N+2) 172 4 (aJ qa (aD q) qc) (aD q) (q.flatMap qy)
 v:cU N w V
 c:iR (Bw+1) ds V
 C:kN N V N (2*aD ks) M
 d:rA ar R FF U M q
 j:ks.Nodup
 f:∀g,(M g).isSome=true↔g∈ks
 m:∀g∈ks,g∈U
 l:aD q<=n0+aD ks*553190424
 h:∀x∈q,0<=x.2/\x.2<=2000000
 n:Bw<V.heap.size
theorem Io(h:W.heap[N]?=aX (bL #[] 0)):kN N W N 0 (λ_=>aY):=by
 have A:W.ownsMap cZ 9 RV N 0 (.map []):=by have⟨es,c,h1,h2,h3,h4⟩:=World.ownsMap_made (H:=Vq) W cZ 9 RV;rw[World.alloc_heap_new] at h1;cases h1;exact⟨#[],0,h,h2,h3,h4⟩
 refine⟨.map [],λ_=>aY,A,λrel C=>⟨λ_=>⟨rfl,λ_ _=>rfl⟩,λb z=>(by cases z)⟩,λ_ _ _ h=>(by cases h),λ_ _ h=>(by cases h),cR _,λ_ _ h=>(by cases h)⟩
theorem Kj{T n c:Nat}{C:Option Addr}{xs ys:List Vq}(h:aH W b T k (aJ C (n+1) c) (n+1) (xs++ys))(z:aD xs=n*k):aH W b T k (aJ C n c) n xs:=by
 obtain⟨h0,⟨A,hn⟩|⟨g,G,E,A,M,O,h3,h4,h5,h6⟩⟩:=h
 .omega
 cases A;refine⟨z,aU ⟨g,c,E,rfl,M,O,by lia,h4,h5,?_⟩⟩;have:=congrArg (List.take (n*k)) h6;rwa[List.take_take,Nat.min_eq_left (bQ _ (by omega)),<-z,List.take_left,z] at this
theorem BE(q:List (Gd×Int)):aD (q.flatMap qy)=aD q*4:=by
 induction q with
 |nil=>rfl
 |cons x q ih=>rw[cH,bB,ih,rP,bG];lia
structure qR(N Bw:Nat)(w:Wq)(q:List (Gd×Int))(x:Gd×Int)(M:Gd->Option Int)(nn:Nat)(ds:List Nat)(g qc Bn:Nat)(V:Wq):Prop where
 A:Boxed V Bw 169 (Sc g (aD q) qc)
 z:aH V (N+2) 172 4 (Sc g (aD q) qc) (aD q) (q.flatMap qy)
 v:cU N w V
 c:iR (Bw+1) ds V
 C:kN N V N nn M
 o:V.heap[Bn]?=cC #[aK x.1.j,aK x.1.x,aK x.1.y,aO aR x.2] 172
 n:Bw<Bn
 d:g<Bn
theorem qR.f{w:Wq}(h:qR N Bw w q x M nn ds g qc Bn V)(z:cU V.heap.size V V'):qR N Bw w q x M nn ds g qc Bn V':=by
 have C:N<=V.heap.size:=by have:=h.C;have⟨D,blk,h1,_⟩:=this;exact cE h1.lt
 exact⟨(z.b _ h.A.lt).t h.A,qh h.z z,h.v.t (z.m C),h.c.f z,h.C.o (λk es c A=>(z.b k (zg A).1).t A),(z.b _ (zg h.o).1).t h.o,h.n,h.d⟩
theorem wv.o{n0:Nat}{w:Wq}{ar:ByteArray->Nat}{R:List Rl}{FF:List (Gd×Int)}{U:List Gd}{ks:List Gd}(et:N+2<=Bw)(h:wv N Bw n0 w ar R FF U (q++[x]) M ks ds (aX ⟨g,0,aY⟩) qc V):qR N Bw w q x M (2*aD ks) ds g qc V.heap.size ((V.setCell (Ad Bw 0) (Sc g (aD q) qc)).alloc (aP #[aK x.1.j,aK x.1.x,aK x.1.y,aO aR x.2] 172)):=by
 have O:=h.n;have E:=h.z;rw[bB,bX] at E;have gs:=Kj E (BE q);have G:(V.setCell (Ad Bw 0) (Sc g (aD q) qc)).heap.size=V.heap.size:=by simp
 have ai:cU V.heap.size (V.setCell (Ad Bw 0) (Sc g (aD q) qc)) ((V.setCell (Ad Bw 0) (Sc g (aD q) qc)).alloc (aP #[aK x.1.j,aK x.1.x,aK x.1.y,aO aR x.2] 172)):=zr.l (by lia) _;have A:∀(k:Nat) (o:Obj),k≠Bw->V.heap[k]?=aX o->((V.setCell (Ad Bw 0) (Sc g (aD q) qc)).alloc (aP #[aK x.1.j,aK x.1.x,aK x.1.y,aO aR x.2] 172)).heap[k]?=aX o:=λk o fe C=>(ai.b k (zg C).1).t ((cF _ _ _ _ (by show k≠Bw;exact fe)).t C);have ga:=Qj gs ⟨Bw,0,aY⟩ (Sc g (aD q) qc) (λg' f1=>Qh h.z h.A (by lia) g' f1);refine⟨(qQ h.A _).alloc _,ga.l _,?_,⟨h.c.s,λd hd=>⟨(h.c.c d hd).1,A d _ (by have:=(h.c.c d hd).1;lia) (h.c.c d hd).2⟩⟩,h.C.o (λk es c z=>A k _ (λe=>?_) z),?_,O,?_⟩
 .exact (h.v.c (p:=⟨Bw,0,aY⟩) (by show N<=Bw;lia) _).l (by simp;lia) _
 .have:=h.A;rw[e,this] at z;cases z
 .have:=zn (V.setCell (Ad Bw 0) (Sc g (aD q) qc)) (aP #[aK x.1.j,aK x.1.x,aK x.1.y,aO aR x.2] 172);rwa[G] at this
 have⟨_,c,hc⟩:=qe h.z (g:=g) rfl;exact (zg hc).1
theorem qR.l{w:Wq}{A:Gd->Option Int}{C:Nat}(h:qR N Bw w q x M nn ds g qc Bn V)(z:zD V V')(G:cU N V V')(E:kN N V' N C A):qR N Bw w q x A C ds g qc Bn V':=by refine⟨z.h _ _ h.A (λ_ _ e=>by cases e),qm h.z (λg' O ag=>?_),h.v.t G,⟨h.c.s,λd hd=>⟨(h.c.c d hd).1,z.h _ _ (h.c.c d hd).2 (λ_ _ e=>by cases e)⟩⟩,E,z.h _ _ h.o (λ_ _ e=>by cases e),h.n,h.d⟩;have⟨_,c,hc⟩:=qe h.z O;rw[hc];exact z.h _ _ hc (λ_ _ e=>by cases e)
theorem Lv(e:Int)(h0:0<=e)(z:e<=2000000):(Lit.int aR e).wf=true:=by simp[Lit.wf,IntKind.min,IntKind.max,IntKind.signed,IntKind.bits];lia
theorem CK(ar:ByteArray->Nat)(R:List Rl)(F:List (Gd×Int))(U:List Gd)(vl vf:Vq)(rb ad ac fb:Nat)(w:Wq)(am:Fu ar R F U)(hR:Qq w rb ad ac vl R)(hF:aH w fb 172 4 vf (aD F) (F.flatMap qy)):Cs 75 #[vl,vf] w λe w'=>∃B M,e=aQ (.map (aX B))/\kN w.heap.size w' B 5000 M/\kD R (F++Qx R) M/\vE ar M/\cU w.heap.size w w':=by
 obtain⟨E,G,rfl⟩:=hR.c;obtain⟨fa,fc,rfl⟩:=qq hF;refine (cW (n:=14)).1 ?_;refine callsIn_of_wp_marks Tryz.func75 rfl trivial ?_ rfl;simp only[Tryz.ntmps75,List.size_toArray,bG,List.length_nil,Nat.reduceAdd,Nat.reduceSub,Array.replicate_succ,Array.replicate_zero,List.push_toArray,List.append_toArray,List.nil_append,List.cons_append];have en:Hid (∀W,Cs 131 #[aJ fa (aD F) fc] W λe w'=>e=aQ (.func (.func 186) #[] #[Pt W.heap.size])/\w'=W.alloc (aP #[aJ fa (aD F) fc] 169)):=λW=>Mo _ W _ _ _ rfl;have hm:=@run_makeMap cZ;obtain⟨N,hN⟩:=aC w.heap.size;have ci:cU N w ((w.alloc (.map #[] 0)).alloc (aP #[aJ fa (aD F) fc] 169)):=hN▸((bH _ w).l zl _).l (by simp) _
 have c1:Hid (Cs 130 #[.func (.func 186) #[] #[Pt (N+1)],.func (.func 132) #[] #[]] ((w.alloc (.map #[] 0)).alloc (aP #[aJ fa (aD F) fc] 169)) λe w'=>∃(oa:Option Addr)(oc:Nat)(ys:List (Gd×Int)),e=aQ (aJ oa (aD F) oc)/\ys.Perm F/\ys.Pairwise (λa b=>a.2<=b.2)/\aH w' (N+2) 172 4 (aJ oa (aD F) oc) (aD ys) (ys.flatMap qy)/\cU (N+2) ((w.alloc (.map #[] 0)).alloc (aP #[aJ fa (aD F) fc] 169)) w'):=by have h1:=zn (w.alloc (.map #[] 0)) (aP #[aJ fa (aD F) fc] 169);rw[bC,hN] at h1;have h2:=Mr (aJ fa (aD F) fc) F fb (N+1) _ h1 (qh hF (hN▸ci)) (by have:=am.d;lia);refine h2.m ?_;rintro e w' ⟨v',ys,rfl,hp,hs,ho,hb⟩;have⟨oa,oc,cx⟩:=qq ho;have hl:=hp.length_eq;rw[bC,bC,hN] at ho hb;subst cx;rw[hl] at ho ⊢;exact⟨oa,oc,ys,rfl,hp,hs,hl▸ho,hb⟩
 have ei:Hid (∀W,Cs 135 #[aJ E (aD R) G] W λe w'=>e=aQ (.func (.func 188) #[] #[Pt W.heap.size])/\w'=W.alloc (aP #[aJ E (aD R) G] 75)):=λW=>Oa _ W _ _ _ rfl;have HR:=aA hR;have fp:=aA ci;have ab:=aA am;clear hR hF ci am
 gi_wp2_with (first|(refine⟨trivial,?_⟩;gi_at_call 131;refine (cW.2 (en.o _)).mono ?_;rintro e w' ⟨rfl,rfl⟩)|(refine⟨trivial,?_⟩;gi_at_call 130;refine (cW.2 (c1.o)).mono ?_;rintro e W3 ⟨oa,oc,ys,rfl,hp,hs,ho,aw⟩))
 have co:=hp.length_eq;have av:W3.heap[N]?=aX (bL #[] 0):=by refine (aw.b N (by lia)).t ((bF _ _ _ (by simp;lia)).t ?_);have:=zn w (.map #[] 0);rwa[hN] at this
 have dh:=(fp.o).t (aw.m (by lia));have gz:N+2<=W3.heap.size:=by have:=aw.s;simp at this;lia
 obtain⟨Bw,bn⟩:=aC W3.heap.size;obtain⟨W4,bk⟩:=aC (W3.alloc (aP #[aJ oa (aD F) oc] 169));have cf:cU Bw W3 W4:=by rw[<-bk,<-bn];exact (bH _ W3).l zl _
 have eb:W4.heap.size=Bw+1:=by rw[<-bk,<-bn];simp
 have bW:W4.heap[Bw]?=cC #[aJ oa (aD F) oc] 169:=by rw[<-bk,<-bn];exact zn W3 _
 have ew:=qh ho (by rw[bn];exact cf);have cr:=dh.t (cf.m (by lia));have c8:=(cf.b N (by lia)).t av;have cw:aE W4 (Ad Bw 0)=aX (aJ oa (aD F) oc):=zc bW
 (try simp only[bn])
 rw[bk];clear bk dh av aw ho c1 cf;obtain⟨q0,bj⟩:=aC (ys++Qx R);obtain⟨Pd,cu⟩:=aB (λqa qc w'=>Boxed w' Bw 169 (aJ qa (aD q0) qc)/\aH w' (N+2) 172 4 (aJ qa (aD q0) qc) (aD q0) (q0.flatMap qy)/\cU N w w'/\w'.heap[N]?=aX (bL #[] 0)/\Bw<w'.heap.size)
 have ea:Hid (∀W5,cU (Bw+1) W4 W5->W5.heap[Bw+1]?=cC #[aJ E (aD R) G] 75->Cs 134 #[aJ oa (aD F) oc,.func (.func 188) #[] #[Pt (Bw+1)]] W5 λe w'=>∃qa qc,e=aQ (aJ qa (aD q0) qc)/\(∃v,aE w' (Ad Bw 0)=aX v)/\aF w' (Ad Bw 0)=false/\Pd qa qc (w'.setCell (Ad Bw 0) (aJ qa (aD q0) qc))):=by
  intro W5 ax Qy;have g3:=(zg Qy).1;have c6:=qh ew (eb▸ax);have ck:aD ys+aD R<=2000000000000:=by{have:=ab.o.d;have:=ab.o.I;lia};rw[<-co];rw[<-co] at c6;have gl:=Qq.a HR.o (qf.d (by rw[hN];exact cr.t (ax.m (by lia))));refine (Ey (gf:=188) (lb:=#[Pt (Bw+1)]) (aJ oa (aD ys) oc) ys (N+2) W5 c6 (by lia) ck (enters_of Tryz.func188 (by kernel_rfl) rfl) (λm' n'=>My (N+2) (Bw+1) rb ad ac _ R W5 Qy gl (λr C=>⟨(ab.o.f r C).d,(ab.o.f r C).f⟩) ab.o.I m' n')).m ?_;rintro e w' ⟨v',zs,rfl,hz,b9,dy,e5⟩;have gb:=hz;rw[gb,bj] at b9;have⟨qa,qc,cx⟩:=qq b9;subst cx;have Qnx:=(ax.b Bw (by lia)).t bW;have bd:Boxed w' Bw 169 (aJ oa (aD F) oc):=e5 Bw _ (by lia) Qnx (aU (λc fz e=>by cases e));have fr:=(ax.b N (by lia)).t c8;have fw:=e5 N _ (by lia) fr (aU (λc fz e=>by cases e));refine⟨qa,qc,rfl,⟨_,bd.cell⟩,bd.frozen,?_⟩;rw[cu];refine⟨qQ bd _,Qj b9 ⟨Bw,0,aY⟩ _ (Qh b9 bd (by lia)),?_,(cF _ _ _ _ (by show N≠Bw;lia)).t fw,?_⟩;{exact ((cr.t (ax.m (by lia))).t (dy.m (by lia))).c (p:=⟨Bw,0,aY⟩) (by show N<=Bw;lia) _};{have:=dy.s;simp;lia}
 have HPd:=aA cu;have Qk5:Hid (∀W,cU (Bw+1) W4 W->W.heap.size=Bw+1->Cs 135 #[aJ E (aD R) G] W λe w'=>e=aQ (.func (.func 188) #[] #[Pt (Bw+1)])/\cU (Bw+1) W4 w'/\w'.heap[Bw+1]?=cC #[aJ E (aD R) G] 75/\aE w' (Ad Bw 0)=aX (aJ oa (aD F) oc)):=by intro W hb ao;refine (ei.o W).m ?_;rintro e w' ⟨rfl,rfl⟩;have h1:=zn W (aP #[aJ E (aD R) G] 75);rw[ao] at h1;have a7:cU (Bw+1) W4 (W.alloc (aP #[aJ E (aD R) G] 75)):=hb.l (by lia) _;refine⟨by rw[ao],a7,h1,?_⟩;have h2:=(a7.b Bw (by lia)).t bW;simp[aE,h2]
 clear ei cu;refine wpIn_mono (Q:=λe a' w'=>match e with|Exit.normal=>∃qa qc cd b4 b5 ca,a'={tmps:=#[aJ E (aD R) G,aJ fa (aD F) fc,aZ,aZ,.map aY,.map (aX N),Pt Bw,aZ,aZ,aZ,.map (aX N),aJ fa (aD F) fc,.func (.func 186) #[] #[Pt (N+1)],aJ oa (aD F) oc,cd,b4,b5,ca,aZ,aZ,aZ,aZ,aZ,aZ,aZ,aZ,aZ,aZ,aZ,aZ,aZ,aZ,aZ,aZ,aZ,aZ,aZ,aZ,aZ,aZ,aZ,aZ,aZ,aZ,aZ,aZ,aZ,aZ,aZ,aZ,aZ,aZ],defers:=[]}/\Pd qa qc w'|_=>False) ?reg ?rest
 case reg=>
  have Qnt:Hid (cU (Bw+1) W4 W4.drew):=(bH _ W4).drew;have Qo5:=aA eb;clear cr c8 ew bW HPd HR ab hp hs bj en hm
  first|(gi_region_with (first|(refine⟨trivial,?_⟩;(try refine⟨λh=>(by cases h),?_⟩);refine (cW.2 (Qk5.o _ Qnt.o Qo5.o)).mono ?_;rintro e W5 ⟨rfl,ax,fo,g2⟩)|(refine⟨trivial,?_⟩;(try refine⟨λh=>(by cases h),?_⟩);refine (cW.2 (ea.o W5 ax fo)).mono ?_;rintro e W6 ⟨qa,qc,rfl,⟨cv,hh⟩,h9,b8⟩)))|fail
  all_goals exact⟨qa,qc,_,_,_,_,rfl,b8⟩
 case rest=>
  rintro e a' W6 hq
  cases e with
  |normal=>
   obtain⟨qa,qc,cd,b4,b5,ca,rfl,b8⟩:=hq;rw[HPd.o] at b8;clear ea HPd Qk5
   gi_wp2
   have⟨pb,po,pl,pm,fq⟩:=b8
   have e3:q0.Pairwise (λa b=>a.2<=b.2):=by
    rw[<-bj];refine List.pairwise_append.2 ⟨hs,?_,λa ha b hb=>?_⟩
    .have:∀x∈Qx R,x.2=2000000:=λx hx=>by
      have⟨r,_,C⟩:=bJ.1 hx;split at C
      .cases C;rfl
      .cases C
     exact List.pairwise_of_forall_mem_list (λa ha b hb=>by rw[this a ha,this b hb];exact Int.le_refl _)
    .have⟨r,_,C⟩:=bJ.1 hb;split at C
     .cases C;exact (ab.o.h a (hp.mem_iff.1 ha)).2
     .cases C
   have Qac:∀x,x∈q0↔x∈F++Qx R:=λx=>by rw[<-bj,bI,bI,hp.mem_iff]
   have dj:∀x∈q0,0<=x.2/\x.2<=2000000:=λx hx=>by
    obtain h|h:=bI.1 ((Qac x).1 hx)
    .exact ab.o.h x h
    .have⟨r,_,C⟩:=bJ.1 h;split at C
     .cases C;exact⟨(by show (0:Int)<=2000000;decide),(by show (2000000:Int)<=2000000;decide)⟩
     .cases C
   have Qo0:aD q0<=1008:=by{rw[<-bj,bB,co];have h1:aD (Qx R)<=aD R:=List.length_filterMap_le _ _;have:=ab.o.d;have:=ab.o.I;lia};have dv:wv N Bw (aD q0) w ar R (F++Qx R) U q0 (λ_=>aY) [] [] qa qc W6:=⟨pb,po,pl,iR.j _ _,Io pm,rA.i e3 Qac ab.o.v ab.o.j,List.nodup_nil,λg=>by simp,by simp,by simp,dj,fq⟩;clear pb po pl pm e3 Qac dj hs hp;refine wpIn_loop_ghost (λn A V=>∃(q:List (Gd×Int))(M:Gd->Option Int)(ks:List Gd)(ds:List Nat)(qa:Option Addr)(qc:Nat)(u7 u8 db dg dk eo de dd d5 c3 ej ek eu c5 ep d6 e6 dr dl ec em dt d8 dx ee d9 dp:Vq),A={tmps:=#[aJ E (aD R) G,aJ fa (aD F) fc,aZ,aZ,.map aY,.map (aX N),Pt Bw,u7,u8,aZ,.map (aX N),aJ fa (aD F) fc,.func (.func 186) #[] #[Pt (N+1)],aJ oa (aD F) oc,cd,b4,b5,ca,db,dg,dk,eo,de,dd,d5,c3,ej,ek,eu,c5,ep,d6,e6,dr,dl,ec,em,dt,d8,dx,ee,d9,dp,aZ,aZ,aZ,aZ,aZ,aZ,aZ,aZ,aZ],defers:=nL ds}/\Hid (wv N Bw (aD q0) w ar R (F++Qx R) U q M ks ds qa qc V)/\n=(aD U-aD ks)*553190425+aD q) _ ⟨q0,_,[],[],qa,qc,_,_,_,_,_,_,_,_,_,_,_,_,_,_,_,_,_,_,_,_,_,_,_,_,_,_,_,rfl,dv,rfl⟩ ?_;rintro gn A V ⟨q,M,ks,ds,qa,qc,u7,u8,db,dg,dk,eo,de,dd,d5,c3,ej,ek,eu,c5,ep,d6,e6,dr,dl,ec,em,dt,d8,dx,ee,d9,dp,rfl,aa,cn⟩;clear dv;have hu:=Cf ks U aa.o.j aa.o.m;have hU:=ab.o.l;have gi:aD q<=1400000000000:=by have:=aa.o.l;lia
   have cb:=aa.o.A.cell;have fb:=aa.o.A.frozen;obtain rfl|⟨z,x,ev⟩:=List.eq_nil_or_concat q
   .have Qd:=aa.o.d.n;have b6:=aa.o.C;have c2:=aa.o.d.y;have dz:=aa.o.v;have ce:=aa.o.c;have HF:=aA Qd;have HM:=aA b6;have HO:=aA c2;clear Qd b6 c2 aa cn
    gi_wp2
    show LeavesInM Fence.wide 14 cZ _ _ _ (nL ds) .returning V;refine vO ds V ce.s (λD hD=>(ce.c D hD).2) (λW' hc ao=>?_);have gk:kN w.heap.size W' N 5000 M:=by{rw[hN];refine (kN.o HM.o (λk es c hk=>(hc.h k (zg hk).1 (λe=>?_)).t hk)).mono (by lia);rw[(ce.c k e).2] at hk;cases hk};refine⟨_,results_tmp rfl _ _ _,N,M,rfl,gk,HF.o,HO.o,?_⟩;rw[hN];refine dz.t ⟨hc.os,hc.tape,hc.output,hc.size,λk hk=>hc.h k (by have:=dz.s;lia) (λe=>?_)⟩;have:=(ce.c k e).1;lia
   .rw[List.concat_eq_append] at ev;subst ev;have ch:aD (z++[x])=aD z+1:=by{simp};have qt:=aa.o.z;have⟨g,c,e0,x0,x1,x2,x3⟩:=DO qt (k:=aD z) (by simp);have da:(z++[x])[aD z]'(by simp)=x:=by{simp};rw[da] at x0 x1 x2 x3;rw[ch] at e0 cb qt;cases e0;have g8:g<V.heap.size:=by{have⟨_,c',f2⟩:=qe qt (g:=g) rfl;exact (zg f2).1};have iq:g≠Bw:=λe=>Qh qt aa.o.A (by lia) g rfl e;have ai:=λO=>(bH _ V).l zl O;have f4:∀O,aE (V.alloc O) (Ad Bw 0)=aX (Sc g (aD z+1) qc):=λO=>cell_later (ai O) cb;have gj:∀O,aF (V.alloc O) (Ad Bw 0)=false:=λO=>(aa.o.A.alloc O).frozen
    have Qqj:(aD z:Int)+1<=(qc:Int):=by
     obtain⟨_,⟨hv,_⟩|⟨g',cap,ap,hv,_,_,h1,_⟩⟩:=qt;{cases hv}
     .cases hv;lia
    have g7:=aA ai;have Qpr:=aA qt;have ey:=aA cn;rw[ch] at gi;clear ai qt cn ch da;have et:N+2<=Bw:=by{lia};have Qd2:=wv.o et aa.o;have cj:=(aa.o.d.s x (by simp)).2;have cp:=aa.o.h x (by simp);have hw:=Qd2.n;have n0:∀v,aE ((V.alloc (aP #[aK x.1.j,aK x.1.x,aK x.1.y,aO aR x.2] 172)).setCell (Ad Bw 0) v) (Ad V.heap.size 0)=aX (aK x.1.j):=λv=>(Qw _ _ _ _ _ _ (by lia)).t (by simp);have n1:∀v,aE ((V.alloc (aP #[aK x.1.j,aK x.1.x,aK x.1.y,aO aR x.2] 172)).setCell (Ad Bw 0) v) (Ad V.heap.size 1)=aX (aK x.1.x):=λv=>(Qw _ _ _ _ _ _ (by lia)).t (by simp);have n2:∀v,aE ((V.alloc (aP #[aK x.1.j,aK x.1.x,aK x.1.y,aO aR x.2] 172)).setCell (Ad Bw 0) v) (Ad V.heap.size 2)=aX (aK x.1.y):=λv=>(Qw _ _ _ _ _ _ (by lia)).t (by simp);have cl:=BX N (2*aD ks) M x.1 cj _ Qd2.C.c;unfold Gd.v Gd.c at cl;have Qc1:=aA cl;have Qjl:=aA Qd2;clear cl Qd2;generalize hql:aD z=ql at *
    cases hMx:M x.1 with
    |some t=>
     have bh:=aa.o.d.o (by rw[hMx];rfl);rw[hMx] at Qc1;have HI:=aA bh;clear bh
     gi_wp2_with (refine⟨trivial,?_⟩;gi_at_call 136;refine (cW.2 Qc1.o).mono ?_;rintro e V3 ⟨rfl,aw⟩)
     have au:=qR.f Qjl.o aw;subst hql;refine⟨(aD U-aD ks)*553190425+aD z,by rw[ey.o];simp,z,M,ks,ds,aX ⟨g,0,aY⟩,qc,_,_,_,_,_,_,_,_,_,_,_,_,_,_,_,_,_,_,_,_,_,_,_,_,_,_,_,rfl,⟨au.A,au.z,au.v,au.c,au.C,HI.o,aa.o.j,aa.o.f,aa.o.m,by have:=aa.o.l;rw[bB] at this;simp at this;lia,λy hy=>aa.o.h y (by simp[hy]),au.A.lt⟩,rfl⟩
    |none=>
     rw[hMx] at Qc1;have el:=aA hMx;clear hMx;have Qkt:Hid (∀V3,qR N Bw w z x M (2*aD ks) ds g qc V.heap.size V3->aE V3 (Ad V.heap.size 0)=aX (aK x.1.j)/\aE V3 (Ad V.heap.size 1)=aX (aK x.1.x)/\aE V3 (Ad V.heap.size 2)=aX (aK x.1.y)/\aE V3 (Ad V.heap.size 3)=aX (aO aR x.2)):=by{intro V3 h;have:=h.o;refine⟨?_,?_,?_,?_⟩<;>simp[aE,this]};have c7:Hid (∀V3,qR N Bw w z x M (2*aD ks) ds g qc V.heap.size V3->Cs 137 #[.map (aX N),aL #[aK x.1.j,aK x.1.x,aK x.1.y,aO aR x.2]] V3 λe' w'=>e'=aQ (aN #[])/\qR N Bw w z x (iK M x.1 x.2) (2*aD ks+2) ds g qc V.heap.size w'/\aE w' (Ad V.heap.size 0)=aX (aK x.1.j)/\aE w' (Ad V.heap.size 1)=aX (aK x.1.x)/\aE w' (Ad V.heap.size 2)=aX (aK x.1.y)):=by intro V3 h;refine (KG N N (2*aD ks) M x.1 x.2 cj V3 h.C (by unfold maxLen;lia) (Lv x.2 cp.1 cp.2)).m ?_;rintro e w' ⟨rfl,h1,h2,h3⟩;have hP:=h.l h2 h3 h1;have:=hP.o;refine⟨rfl,hP,?_,?_,?_⟩<;>simp[aE,this]
     have dn:Hid (∀W,Cs 138 #[.map (aX N),aJ E (aD R) G,aL #[aK x.1.j,aK x.1.x,aK x.1.y]] W λe w'=>e=aQ (.func (.func 189) #[] #[Pt (W.heap.size+1),Pt W.heap.size,Pt (W.heap.size+2)])/\
   w'=((W.alloc (aP #[.map (aX N)] 98)).alloc (aP #[aJ E (aD R) G] 75)).alloc (aP #[aK x.1.j,aK x.1.x,aK x.1.y] 111)):=λW=>IP N _ x.1 W _ _ _ rfl
     gi_wp2_with (first|(refine⟨trivial,?_⟩;gi_at_call 136;refine (cW.2 Qc1.o).mono ?_;rintro e V3 ⟨rfl,aw⟩;have au:=qR.f Qjl.o aw;have dm:=aA au;clear au;have⟨d0,d1,d2,d3⟩:=Qkt.o V3 dm.o)|(refine⟨trivial,?_⟩;gi_at_call 137;refine (cW.2 (c7.o V3 dm.o)).mono ?_;rintro e V4 ⟨rfl,du,gc,gg,fv⟩;have f8:=aA du;clear du)|(refine⟨trivial,?_⟩;gi_at_call 138;refine (cW.2 (dn.o _)).mono ?_;rintro e w' ⟨rfl,rfl⟩))
     obtain⟨VN,bu⟩:=aC V4.heap.size;obtain⟨W7,a8⟩:=aC (((V4.alloc (aP #[.map (aX N)] 98)).alloc (aP #[aJ E (aD R) G] 75)).alloc (aP #[aK x.1.j,aK x.1.x,aK x.1.y] 111));have gu:cU V4.heap.size V4 W7:=a8▸(((bH _ V4).l zl _).l (by simp) _).l (by simp;omega) _;have ij:W7.heap.size=VN+3:=by{rw[<-a8,<-bu];simp};have eM:W7.heap[VN]?=cC #[.map (aX N)] 98:=by{rw[<-a8,<-bu];exact (bF _ _ _ (by simp;lia)).t ((bF _ _ _ (by simp)).t (zn V4 _))};have eL:W7.heap[VN+1]?=cC #[aJ E (aD R) G] 75:=by{rw[<-a8,<-bu];refine (bF _ _ _ (by simp)).t ?_;have:=zn (V4.alloc (aP #[.map (aX N)] 98)) (aP #[aJ E (aD R) G] 75);rwa[bC] at this};have eG:W7.heap[VN+2]?=aX (aP x.1.c 111):=by{rw[<-a8,<-bu];have:=zn ((V4.alloc (aP #[.map (aX N)] 98)).alloc (aP #[aJ E (aD R) G] 75)) (aP #[aK x.1.j,aK x.1.x,aK x.1.y] 111);rwa[bC,bC] at this};have ah:=qR.f f8.o gu;have gv:=Qq.a HR.o (qf.d (by rw[hN];exact ah.v));have gt:xX (VN+1) VN (VN+2) N (2*aD ks+2) rb ad ac (iK M x.1 x.2) (aJ E (aD R) G) R x.1 W7:=⟨eL,eM,eG,gv,ah.C.c⟩;have ih:=Le (14-1) (VN+1) VN (VN+2) N (2*aD ks+2) rb ad ac (iK M x.1 x.2) (aJ E (aD R) G) R x.1 W7 gt ab.o.f ab.o.I cj (W7.heap.size+2);have Qmh:x.1∉ks:=λh=>by have:=(aa.o.f x.1).2 h;rw[el.o] at this;cases this
     have Qhq:aD (x.1::ks)<=aD U:=Cf (x.1::ks) U (cL.2 ⟨Qmh,aa.o.j⟩) (λy hy=>by
      obtain rfl|hy:=bU.1 hy
      .exact aa.o.d.j x (by simp)
      .exact aa.o.m y hy)
     have ig:aD R*nH (2*aD ks+2)<=553190424:=JY ab.o.I (by simp at Qhq;lia);have Qo1:aD z<=aD q0+aD ks*553190424:=by{have:=aa.o.l;rw[bB] at this;simp at this;lia};have g1:=(zg ah.o).1;have d4:=ah.c.lt;have h8:N+2<=W7.heap.size:=by{have:=ah.n;lia};have Qps:=ah.A.lt;have⟨i0,hi,f0,cz,ed⟩:=info_parts Tryz.f
     (try simp only[bu])
     rw[a8];clear a8 c7 Qkt dn n0 n1 n2 d0 d1 d2 d3 gc gg fv cb f4 fb gj x0 x1 x2 x3
     refine ui (n:=14) (gf:=189) (lb:=#[Pt (VN+1),Pt VN,Pt (VN+2)]) rfl (enters_of Tryz.func189 (by kernel_rfl) rfl)
      ih qr.g (λV' im o' ho=>qr.H V' _ _ o' (by lia) ho rfl (λ_ _ h=>by cases h)) (λ_=>rfl)
      (λpre V2=>∃v,Boxed V2 Bw 169 v/\aH V2 (N+2) 172 4 v (aD (z++pre.map (λh=>(h.1,x.2)))) ((z++pre.map (λh=>(h.1,x.2))).flatMap qy)/\aI v≠aX V.heap.size/\cU N w V2/\iR (Bw+1) ds V2/\V2.heap[V.heap.size]?=cC #[aK x.1.j,aK x.1.x,aK x.1.y,aO aR x.2] 172/\qr (W7.heap.size+2) W7 V2)
      (λ_ _ _=>False)
      ?hI2 (λ_ _ _ _ _ h _ _=>h) ⟨_,ah.A,by simpa using ah.z,λe=>by have:=ah.d;injection e with e;simp at e;lia,ah.v,ah.c,ah.o,qr.d zr⟩
      (λh a' V2=>∃Bx,V2.heap[Bx]?=aX (aP h.1.c 111)/\a'={tmps:=#[aJ E (aD R) G,aJ fa (aD F) fc,aZ,aZ,.map aY,.map (aX N),Pt Bw,aO aR ql,Pt V.heap.size,Pt Bx,.map (aX N),aJ fa (aD F) fc,.func (.func 186) #[] #[Pt (N+1)],aJ oa (aD F) oc,cd,b4,b5,ca,Sc g (ql+1) qc,aO aR (ql+1),aM true,Sc g (ql+1) qc,aO aR (ql+1),aO aR ql,Sc g (ql+1) qc,aO aR ql,.pointer (aX ⟨g,ql*4,aY⟩),aL #[aK x.1.j,aK x.1.x,aK x.1.y,aO aR x.2],Sc g (ql+1) qc,aO aR ql,Sc g ql qc,.map (aX N),Pt V.heap.size,aL #[aK x.1.j,aK x.1.x,aK x.1.y],aM false,.map (aX N),aL #[aK x.1.j,aK x.1.x,aK x.1.y,aO aR x.2],aN #[],.map (aX N),aJ E (aD R) G,Pt V.heap.size,aL #[aK x.1.j,aK x.1.x,aK x.1.y],.func (.func 189) #[] #[Pt (VN+1),Pt VN,Pt (VN+2)],aL #[aK h.1.j,aK h.1.x,aK h.1.y],aZ,aZ,aZ,aZ,aZ,aZ,aZ,aZ],defers:=[]})
      ?hAx2 ?assign2 ?body2 ?done2 (λ_ _ _ _ _ _ h _=>h.elim)
     case hI2=>rintro pre X X' row ⟨v,j1,j2,j3,j4,j5,j6,j7⟩ hg C;have hk:=qn hg (λr e=>(C r e).2);exact⟨v,hk _ _ _ _ j1,Qe j2 (λg c _ hc=>hk g c _ _ hc),j3,j4.grown hg (by have:=j4.s;lia) (λr e=>by have:=(C r e).1;lia),j5.o hg (λr e=>(C r e).1) d4,hk _ _ _ _ j6,j7.z hg (λr e=>(C r e).1)⟩
     case hAx2=>rintro h a' _ X X' row ⟨Bx,k2,k3⟩ hg C;exact⟨Bx,qn hg (λr e=>(C r e).2) _ _ _ _ k2,k3⟩
     case assign2=>
      rintro l2 pre h X K gh fi ⟨v,j1,j2,j3,j4,j5,j6,j7⟩ hK;have HK:=aA hK;clear hK;unfold Gd.v Gd.c
      gi_wp2
      have ai:cU X.heap.size X (X.alloc (aP #[aK h.1.j,aK h.1.x,aK h.1.y] 111)):=(bH _ X).l zl _;exact HK.o _ _ (KeepsFrom.d ai) (qr.d ai) ⟨v,j1.alloc _,j2.l _,j3,j4.t (ai.m (by have:=j7.f.size;lia)),j5.f ai,(ai.b _ (zg j6).1).t j6,j7.g (qr.d ai)⟩ ⟨X.heap.size,zn X _,rfl⟩
     case done2=>
      rintro D hs X hD ⟨s1,s2⟩ ⟨v,j1,j2,j3,j4,j5,j6,j7⟩ hK;obtain⟨va,vc,rfl⟩:=qq j2;have fg:D∉ds:=λh=>by{have:=d4 D h;lia};have bh:=aa.o.d.l ab.o.c ab.o.u ab.o.closed ab.o.m el.o (hs:=hs.map (·.1)) (λh=>s1 h);have Qh5:aD (z++hs.map (λh=>(h.1,x.2)))=aD z+aD hs:=by{simp};have Qlk:kN N X N (2*aD (x.1::ks)) (iK M x.1 x.2):=by{have:=ah.C.o j7.j;rwa[bG]};have di:(hs.map (·.1)).map (λg=>(g,x.2))=hs.map (λh=>(h.1,x.2)):=by{rw[List.map_map];rfl};rw[di] at bh
      have eh:wv N Bw (aD q0) w ar R (F++Qx R) U (z++hs.map (λh=>(h.1,x.2))) (iK M x.1 x.2) (x.1::ks) (D::ds) va vc X:=by
       refine⟨j1,j2,j4,j5.cons (by lia) hK fg,Qlk,bh,cL.2 ⟨Qmh,aa.o.j⟩,λy=>?_,λy hy=>?_,?_,λy hy=>?_,j1.lt⟩
       .by_cases e:y=x.1;{subst e;rw[vG];simp};{rw[w9 e,aa.o.f];simp[e]}
       .obtain rfl|hy:=bU.1 hy
        .exact aa.o.d.j x (by simp)
        .exact aa.o.m y hy
       .rw[Qh5,bG,cS,cT];lia
       .obtain hy|hy:=bI.1 hy
        .exact aa.o.h y (by simp[hy])
        .obtain⟨h,_,rfl⟩:=List.mem_map.1 hy;exact cp
      have Qm5:=aA eh
      have df:(aD U-aD (x.1::ks))*553190425+aD (z++hs.map (λh=>(h.1,x.2)))<gn:=by
       rw[ey.o,Qh5,bB];have e1:aD U-aD ks=(aD U-aD (x.1::ks))+1:=by{simp at Qhq ⊢;lia};rw[e1,cS,cT];simp;lia
      have Qm3:=aA df;clear eh bh Qlk di s1 s2 df Qh5
      gi_wp2
      exact⟨_,Qm3.o,_,_,x.1::ks,D::ds,va,vc,_,_,_,_,_,_,_,_,_,_,_,_,_,_,_,_,_,_,_,_,_,_,_,_,_,_,_,rfl,Qm5.o,rfl⟩
     case body2=>
      rintro l2 pre h a' X gh ⟨g4,fk⟩ ⟨v,j1,j2,j3,j4,j5,j6,j7⟩ ⟨Bx,b7,rfl⟩ ii;obtain⟨va,vc,rfl⟩:=qq j2;have ct:=b7;unfold Gd.c at ct;have r0:∀j,aE X (Ad Bx j)=([aK h.1.j,aK h.1.x,aK h.1.y]:List Vq)[j]?:=λj=>by{simp[aE,ct]};have r3:aE X (Ad V.heap.size 3)=aX (aO aR x.2):=zc j6;have ia:=j1.cell;have c9:aD (z++pre.map (λh=>(h.1,x.2)))=aD z+aD pre:=by simp
      have gy:aD (z++pre.map (λh=>(h.1,x.2)))<=2000000000000:=by
       rw[c9];have:=Qo0;have e1:aD ks<=2400:=by{simp at Qhq;lia};lia
      have ft:aD (z++pre.map (λh=>(h.1,x.2)))+1<=maxLen:=by{unfold maxLen;lia};have f5:(aD (z++pre.map (λh=>(h.1,x.2)))+1)*56<=140737488355328:=by{lia};have Qo9:Hid (aD (z++(pre++[h]).map (λh=>(h.1,x.2)))=aD (z++pre.map (λh=>(h.1,x.2)))+1):=by{show _=_;simp;lia};have e9:Hid ((z++(pre++[h]).map (λh=>(h.1,x.2))).flatMap qy=(z++pre.map (λh=>(h.1,x.2))).flatMap qy++[aK h.1.j,aK h.1.x,aK h.1.y,aO aR x.2]):=by{show _=_;rw[List.map_append,<-List.append_assoc,bX];rfl};have ie:N+2<=X.heap.size:=by{have:=j7.f.size;lia};clear c9 gy ct;generalize hus:aD (z++pre.map (λh=>(h.1,x.2)))=un at *;generalize hub:(z++pre.map (λh=>(h.1,x.2))).flatMap qy=uc at *;clear hus hub;have fs:Hid (∀w1,(X.alloc (aP #[aK h.1.j,aK h.1.x,aK h.1.y,aO aR x.2] 172)).grownBy w1 (aI (aJ va un vc))->Boxed w1 Bw 169 (aJ va un vc)/\fC X w1 (λj=>aX j=aI (aJ va un vc))):=by intro w1 hg;have hc:=((fC.j X _).alloc _).o hg (λk e _=>e.s);exact⟨(hc.h _ j1.lt (λe=>Qh j2 j1 (by lia) _ e.s rfl)).t j1,hc⟩
      gi_wp2_with (gi_at_builtin;refine wpListIn_append_own_at _ rfl _ _ 169 rfl (N+2) 172 i0 (aL #[aK ⟨#[]⟩,aK ⟨#[]⟩,aK ⟨#[]⟩,aO aR 0]) 4 56 Tryz.underlying169 hi f0 cz ed rfl (by lia) _ _ _ rfl (aH.l j2 _) ⟨X.heap.size,0,aY⟩ 1 1 [aK h.1.j,aK h.1.x,aK h.1.y,aO aR x.2] rfl rfl (sL _ _ _ _ _ _) (by simp[Value.oneCell']) ft f5 (by simp;lia) ?_;intro v' w1 ak a6 _ b3;have⟨g',aj,gp⟩:=ownsRow_succ ak;subst gp;have⟨cg,f6⟩:=fs.o w1 a6;have cc:=cg.cell;have ff:=cg.frozen)
      have ay:fC X (w1.setCell (Ad Bw 0) (Sc g' (un+1) aj)) (λj=>j=Bw\/aX j=aI (aJ va un vc)):=(f6.mono (λ_ _ e=>aU e)).i (Ad Bw 0) _ (λ_=>aS rfl)
      have e7:∀m',KeepsFrom m' X (w1.setCell (Ad Bw 0) (Sc g' (un+1) aj)):=λm'=>BT ay (λj hj hx=>by
       obtain rfl|hx:=hx
       .exact⟨_,_,j1⟩
       .have⟨_,c,hc⟩:=qe j2 hx.s;exact⟨c,_,hc⟩)
      have c0:∀(k:Nat)(o:Obj),X.heap[k]?=aX o->(∀c fz,o≠aP c 172 fz)->(∀c fz,o≠aP c 169 fz)->(w1.setCell (Ad Bw 0) (Sc g' (un+1) aj)).heap[k]?=aX o:=λk o ho h1 h2=>by
       refine (ay.h k (zg ho).1 (λe=>?_)).t ho;obtain rfl|e:=e
       .have hj:=j1;rw[hj] at ho;cases ho;exact h2 _ _ rfl
       .have⟨_,c,hc⟩:=qe j2 e.s;rw[hc] at ho;cases ho;exact h1 _ _ rfl
      have dq:∀m',qr m' X (w1.setCell (Ad Bw 0) (Sc g' (un+1) aj)):=λm'=>⟨λk c t ht hk=>c0 k _ hk (λc' fz e=>by cases e;exact ht.2.2.1 rfl) (λc' fz e=>by cases e;exact ht.2.2.2 rfl),λk es c hk=>c0 k _ hk (λ_ _ e=>by cases e) (λ_ _ e=>by cases e),e7 m'⟩;have ax:=ah.n;have fx:V.heap.size<X.heap.size:=by{have:=j7.f.size;lia};refine⟨e7 _,dq _,_,qQ cg _,?_,?_,?_,⟨j5.s,λd hd=>⟨(j5.c d hd).1,c0 d _ (j5.c d hd).2 (λ_ _ e=>by cases e) (λ_ _ e=>by cases e)⟩⟩,?_,j7.g (dq _)⟩;{rw[Qo9.o,e9.o];have:=Qj ak ⟨Bw,0,aY⟩ (Sc g' (un+1) aj) (Qh ak cg (by lia));simpa using this}
      .obtain b3|b3:=b3
       .rwa[b3]
       .rw[b3];intro e;injection e with e;simp at e;lia
      .refine j4.t ⟨ay.os,ay.tape,ay.output,ay.size,λk hk=>?_⟩;refine ay.h k (by lia) (λe=>?_);obtain rfl|e:=e
       .omega
       .have:=(qe j2 e.s).1;lia
      .refine (ay.h _ fx (λe=>?_)).t j6;obtain e|e:=e
       .omega
       .exact j3 e.s
  |_=>exact False.elim hq
def EG(Bx:Nat)(p:Gd×Int->Bool)(ok:Gd×Int->Prop)(g:Nat)(w:Wq):Prop:=
 ∀W,fC w W (λk=>k=g)->∀d,ok d->Calls cZ 86 #[aL #[aK d.1.j,aK d.1.x,aK d.1.y,aO aR d.2],.pointer (aX ⟨Bx,0,aY⟩)] W λe w'=>e=aQ (aM (p d))/\cU W.heap.size W w'
def Ld(p:Gd×Int->Bool)(l:List (Gd×Int))(i:Int):Prop:=(i=-1/\∀d∈l,p d=false)\/∃k:Nat,i=k/\∃hk:k<aD l,p l[k]=true/\∀j,(hj:j<aD l)->j<k->p l[j]=false
theorem Lr(v:Vq)(l:List (Gd×Int))(b g c E:Nat)(p:Gd×Int->Bool)(ok:Gd×Int->Prop)(w:Wq)(hv:v=aJ (aX ⟨g,0,aY⟩) (aD l) c)(hS:aH w b 161 4 v (aD l) (l.flatMap qy))(hl:aD l<=1000)(am:∀d∈l,ok d)(hF:EG E p ok g w):Cs 145 #[v,.func (.func 86) #[] #[.pointer (aX ⟨E,0,aY⟩)]] w λe w'=>∃i:Int,e=aQ (aO aR i)/\Ld p l i/\cU w.heap.size w w':=by
 have Qi:∀k (O:k<aD l),aE w (Ad g (k*4))=aX (aK (l[k]).1.j)/\aE w (Ad g (k*4+1))=aX (aK (l[k]).1.x)/\aE w (Ad g (k*4+2))=aX (aK (l[k]).1.y)/\aE w (Ad g (k*4+3))=aX (aO aR (l[k]).2)/\g<w.heap.size:=by grind [wW]
 subst hv;have HC:Hid _:=Qi;have HF:Hid (EG E p ok g w):=hF;have ab:Hid _:=am;clear Qi hS hF am;go_enter Tryz.func145,Tryz.ntmps145;go_wp2;go_loopw [8] (λi wr=>∃k:Nat,k<=aD l/\i=aO aR k/\Hid (∀j,(A:j<aD l)->j<k->p l[j]=false)/\cU w.heap.size w wr) (λi _=>aD l-(intOf i).toNat)
 case atStart=>exact⟨0,zz,rfl,λj _ A=>by omega,zr⟩
 obtain⟨k,O,rfl,M,z⟩:=hrel;by_cases G:k<aD l
 .obtain⟨q0,q1,q2,q3,C⟩:=HC.o k G;have ib:=(z.cell (p:=⟨g,k*4,aY⟩) C).t q0;have g5:=(z.cell (p:=⟨g,k*4+1,aY⟩) C).t q1;have ip:=(z.cell (p:=⟨g,k*4+2,aY⟩) C).t q2;have g0:=(z.cell (p:=⟨g,k*4+3,aY⟩) C).t q3;have bq:=HF.o wr ⟨z.os,z.tape,z.output,z.s,λk O _=>z.b k O⟩ l[k] (ab.o _ (zm G));have i1:(k:Int)<(aD l:Int):=by{omega};generalize hbb:p l[k]=bb at *;have ez:Hid (p l[k]=bb):=hbb;clear hbb q0 q1 q2 q3;generalize htk:l[k]=tk at *;have c4:Hid (l[k]=tk):=htk;clear htk;cases bb with
  |true=>go_wp2_with fail;refine bq.m ?_;rintro e w1 ⟨rfl,af⟩;go_wp2;go_ret;exact⟨k,rfl,aU ⟨k,rfl,G,by rw[c4.o];exact ez.o,M.o⟩,z.t (af.m z.s)⟩
  |false=>
   go_wp2_with fail;refine bq.m ?_;rintro e w1 ⟨rfl,af⟩;go_wp2;go_roundw
   case rel=>refine⟨k+1,by omega,by go_num,?_,z.t (af.m z.s)⟩;intro j A g6;by_cases e:j=k;{subst e;rw[c4.o];exact ez.o};exact M.o j A (by omega)
   simp[intOf];omega
 go_wp2;go_ret;refine⟨-1,rfl,aS ⟨rfl,λd hd=>?_⟩,z⟩;obtain⟨j,A,rfl⟩:=bZ hd;exact M.o j A (by omega)
theorem xe:∀(L:List (Gd×Int)) (q r:Nat),r<4->(L.flatMap qy)[q*4+r]?=(L[q]?).bind (λd=>(qy d)[r]?)
 |[],q,r,_=>by simp
 |d::L,0,r,hr=>by grind [rP]
 |d::L,q+1,r,hr=>by rw[cH,List.getElem?_append_right (by rw[rP];lia),rP,show (q+1)*4+r-4=q*4+r by lia,xe L q r hr];simp
def B8(W:Wq)(g o:Nat)(d:Gd×Int):Wq:=(((W.setCell ⟨g,o,aY⟩ (aK d.1.j)).setCell ⟨g,o+1,aY⟩ (aK d.1.x)).setCell ⟨g,o+2,aY⟩ (aK d.1.y)).setCell ⟨g,o+3,aY⟩ (aO aR d.2)
theorem NT(W:Wq)(g o:Nat)(d:Gd×Int):B8 W g o d=W.setCells g o (qy d):=rfl
theorem Jo{c:Nat}(h:aH W b 161 4 (Sc g (aD L) c) (aD L) (L.flatMap qy)){i:Nat}(hi:i<aD L)(d:Gd×Int):aH (B8 W g (i*4) d) b 161 4 (Sc g (aD L) c) (aD L) ((L.set i d).flatMap qy)/\fC W (B8 W g (i*4) d) (λk=>k=g):=by
 obtain⟨h0,⟨z,_⟩|⟨g',c',A,z,E,G,M,O,h5,h6⟩⟩:=h
 .cases z
 cases z;have⟨az,k1,k2,k3,k4⟩:=uw (b:=g) (qy d) (i*4) W A G (by grind [rP]);rw[NT];refine⟨⟨by rw[BE];simp,aU ⟨g,c,az,rfl,E,k1,M,O,k2.t h5,?_⟩⟩,ur _ _ _ (fC.j _ _)⟩;refine cI (λm=>?_);obtain⟨q,r,C,rfl⟩:∃q r,r<4/\m=q*4+r:=⟨m / 4,m % 4,cM _ (by lia),by lia⟩;rw[xe _ _ _ C,bE];by_cases hq:q<aD L
 .rw[if_pos (by lia)];have hL:A[q*4+r]?=(L[q]?).bind (λd=>(qy d)[r]?):=by{rw[<-xe L q r C,<-h6,bE,if_pos (by lia)];simp};by_cases io:q=i;{grind [rP]};{grind [rP]}
 grind
theorem Jj{z:Array Vq}{n:Nat}{v:Vq}(h:v∈(cX z n).toList):v∈z.toList:=by
 unfold cX at h;rw[bT,Array.mem_map] at h;obtain⟨i,A,rfl⟩:=h;rw[Array.mem_range] at A;have C:0<z.size:=by grind
 have:=cM i C;rw[getElem!_pos z _ this,bT];exact Array.getElem_mem _
theorem Ji(w:Wq)(b o m c:Nat)(hm:0<m)(M:∀j,j<m*4->(aE w (Ad b (o+j))).isSome=true)(O:∀j,j<m*4->aF w (Ad b (o+j))=false):∃zs:List Vq,aD zs=m*4/\(Builtin.clear_ #[96] 0 #[aJ (aX ⟨b,o,aY⟩) m c]).run cZ w=.ok (aN #[]) (w.setCells b o zs):=by
 have A:aD (cX (aL #[aK ⟨#[]⟩,aK ⟨#[]⟩,aK ⟨#[]⟩,aO aR 0]).cells m).toList=m*4:=by rw[Array.length_toList,xz];rfl
 have z:=run_storeCells_cells (P:=cZ) b o (cX (aL #[aK ⟨#[]⟩,aK ⟨#[]⟩,aK ⟨#[]⟩,aO aR 0]).cells m).toList 0 w (by grind) (by grind) (by
  intro v E;have:=Jj E;have C:(aL #[aK ⟨#[]⟩,aK ⟨#[]⟩,aK ⟨#[]⟩,aO aR 0]).cells.toList=[aK ⟨#[]⟩,aK ⟨#[]⟩,aK ⟨#[]⟩,aO aR 0]:=rfl;rw[C] at this;simp only[bU,List.not_mem_nil,or_false] at this
  obtain rfl|rfl|rfl|rfl:=this<;>rfl)
 simp only[cP] at z;refine⟨_,A,?_⟩;obtain⟨m,rfl⟩:∃G,m=G+1:=⟨m-1,by lia⟩;simp[Builtin.clear_,run_underlying Tryz.underlying96,Tryz.zeroValue161 w,z]
theorem MK{c n:Nat}{zs:List Vq}(h:aH W b 161 4 (Sc g n c) n (L.flatMap qy))(hL:aD L=n)(hi:i<=n)(hz:aD zs=(n-i)*4):aH (W.setCells g (i*4) zs) b 161 4 (Sc g i c) i ((L.take i).flatMap qy)/\fC W (W.setCells g (i*4) zs) (λk=>k=g):=by
 obtain⟨h0,⟨z,_⟩|⟨g',c',A,z,G,M,h3,O,h5,h6⟩⟩:=h
 .cases z
 cases z;have g9:i*4+(n-i)*4=n*4:=by grind
 have⟨az,k1,k2,k3,k4⟩:=uw (b:=g) zs (i*4) W A M (by grind);refine⟨⟨by rw[BE,cJ];congr 1;lia,aU ⟨g,c,az,rfl,G,k1,by lia,O,k2.t h5,?_⟩⟩,ur _ _ _ (fC.j _ _)⟩;refine cI (λm=>?_);obtain⟨q,r,C,rfl⟩:∃q r,r<4/\m=q*4+r:=⟨m / 4,m % 4,cM _ (by lia),by lia⟩;rw[xe _ _ _ C,bE];by_cases hq:q<i
 .rw[if_pos (by lia)];have E:A[q*4+r]?=(L[q]?).bind (λd=>(qy d)[r]?):=by{rw[<-xe L q r C,<-h6,bE,if_pos (by lia)];simp};have:=k4 (q*4+r) (aS (by lia));simp only[Array.getElem?_toList];rw[this,E,bE,if_pos hq]
 grind
theorem IJ{p:Gd×Int->Bool}{l:List (Gd×Int)}{j:Nat}(O:j<aD l)(A:L.take i=(l.take j).filter (λd=>!p d))(G:L.drop j=l.drop j)(ik:aD L=aD l)(M:i<=j):(p l[j]=true->L.take i=(l.take (j+1)).filter (λd=>!p d)/\L.drop (j+1)=l.drop (j+1))/\
  (p l[j]=false->(L.set i l[j]).take (i+1)=(l.take (j+1)).filter (λd=>!p d)/\(L.set i l[j]).drop (j+1)=l.drop (j+1)):=by
 have hd:L.drop (j+1)=l.drop (j+1):=by have:=congrArg (List.drop 1) G;rw[cO,cO] at this;first|exact this|(rw[Nat.add_comm] at this;exact this)
 have C:(l.take (j+1)).filter (λd=>!p d)=(l.take j).filter (λd=>!p d)++(if p l[j] then [] else [l[j]]):=by grind [bD]
 refine⟨λz=>⟨by rw[C,z,A];simp,hd⟩,λz=>⟨?_,?_⟩⟩
 .rw[C,z,<-A];have E:i<aD (L.set i l[j]):=by{simp;lia};rw[bD E,List.getElem_set_self];simp only[Bool.false_eq_true,if_false];congr 1;rw[List.take_set_of_le (cR i)]
 grind [List.drop_set_of_lt]
theorem Hs(v:Vq)(l:List (Gd×Int))(b g c Bx:Nat)(p:Gd×Int->Bool)(ok:Gd×Int->Prop)(w:Wq)(hv:v=Sc g (aD l) c)(hS:aH w b 161 4 v (aD l) (l.flatMap qy))(hl:aD l<=1000)(am:∀d∈l,ok d)(hF:EG Bx p ok g w):Cs 85 #[v,.func (.func 86) #[] #[Pt Bx]] w λe w'=>e=aQ (Sc g (aD (l.filter (λd=>!p d))) c)/\aH w' b 161 4 (Sc g (aD (l.filter (λd=>!p d))) c) (aD (l.filter (λd=>!p d))) ((l.filter (λd=>!p d)).flatMap qy)/\fC w w' (λk=>k=g):=by
 have hI:=Lr v l b g c Bx p ok w hv hS hl am hF;subst hv;have HI:=aA hI;have HF:=aA hF;have ab:=aA am;have HS:=aA hS;clear hI hF am hS;go_enter Tryz.func85,Tryz.ntmps85;go_wp2_with fail;refine Calls.m HI.o ?_;rintro e w1 ⟨i,rfl,⟨rfl,aq⟩|⟨k,rfl,C,e4,aq⟩,af⟩
 .have Qob:Hid (l.filter (λd=>!p d)=l):=by{show _=_;rw[cA];intro d hd;rw[aq d hd];rfl};clear aq;go_wp2;go_ret;rw[Qob.o];exact⟨rfl,qh HS.o af,⟨af.os,af.tape,af.output,af.s,λk C _=>af.b k C⟩⟩
 have gm:((k:Int) == -1)=false:=by{simp};have fy:¬(k:Int)=-1:=by omega
 have dw:Hid (l.take k=(l.take (k+1)).filter (λd=>!p d)):=by show _=_;rw[bD C,List.filter_append];have h1:(l.take k).filter (λd=>!p d)=l.take k:=by{rw[cA];intro d hd;obtain⟨j,hj,rfl⟩:=bZ hd;rw[List.getElem_take,aq j (by simp at hj;omega) (by simp at hj;omega)];rfl};rw[h1];simp[e4]
 clear aq e4;go_wp2;go_loopw [5,6] (λvi vj wr=>∃(i j:Nat)(L:List (Gd×Int)),vi=aO aR i/\vj=aO aR j/\i<j/\j<=aD l/\Hid (aD L=aD l/\L.take i=(l.take j).filter (λd=>!p d)/\L.drop j=l.drop j)/\aH wr b 161 4 (aJ (aX ⟨g,0,aY⟩) (aD l) c) (aD l) (L.flatMap qy)/\fC w wr (λk=>k=g)) (λ_ vj _=>aD l-(intOf vj).toNat)
 case atStart=>exact⟨k,k+1,l,rfl,by go_num,by omega,by omega,⟨rfl,dw.o,rfl⟩,qh HS.o af,⟨af.os,af.tape,af.output,af.s,λk C _=>af.b k C⟩⟩
 obtain⟨i,j,L,rfl,rfl,cq,hj,A,qt,al⟩:=hrel;clear gm fy dw C;by_cases ag:j<aD l
 .have eg:L[j]'(by rw[A.o.1];exact ag)=l[j]:=by{have h1:=congrArg (λz=>z[0]?) A.o.2.2;simp only[List.getElem?_drop,cP] at h1;rw[bO (by rw[A.o.1];exact ag),bO ag] at h1;exact Option.some.inj h1};have cy:aH wr b 161 4 (Sc g (aD L) c) (aD L) (L.flatMap qy):=by{rw[A.o.1];exact qt};have⟨g',c',e0,q0,q1,q2,q3,hg⟩:=wW cy (k:=j) (by rw[A.o.1];exact ag);cases e0;rw[eg] at q0 q1 q2 q3;have i1:(j:Int)<(aD l:Int):=by{omega};have bq:Hid (∀O,Cs 86 #[aL #[aK (l[j]).1.j,aK (l[j]).1.x,aK (l[j]).1.y,aO aR (l[j]).2],Pt Bx] (wr.alloc O) λe w'=>e=aQ (aM (p l[j]))/\cU (wr.alloc O).heap.size (wr.alloc O) w'):=λO=>HF.o _ (al.alloc O) l[j] (ab.o _ (zm ag));have av:=IJ (p:=p) ag A.o.2.1 A.o.2.2 A.o.1 (cE cq);have b7:Hid (∀W2,cU (wr.alloc (aP #[aK (l[j]).1.j,aK (l[j]).1.x,aK (l[j]).1.y,aO aR (l[j]).2] 161)).heap.size (wr.alloc (aP #[aK (l[j]).1.j,aK (l[j]).1.x,aK (l[j]).1.y,aO aR (l[j]).2] 161)) W2->W2.heap[wr.heap.size]?=cC #[aK (l[j]).1.j,aK (l[j]).1.x,aK (l[j]).1.y,aO aR (l[j]).2] 161/\aH W2 b 161 4 (Sc g (aD L) c) (aD L) (L.flatMap qy)/\fC w W2 (λk=>k=g)):=λW2 G=>⟨(G.b _ (by simp)).t (zn wr _),qh (cy.l _) G,⟨G.os.t al.os,G.tape.t al.tape,G.output.t al.output,by have:=G.s;have:=al.size;simp at *;omega,λk C M=>(G.b k (by have:=al.size;simp;omega)).t ((bF _ _ _ (by have:=al.size;omega)).t (al.h k C M))⟩⟩;have e8:=aA av;clear eg cy qt al av;generalize hpb:p l[j]=bb at *;have ic:=aA hpb;clear hpb;generalize hlj:l[j]=d at *;clear hlj;cases bb with
  |true=>
   go_wp2_with fail;refine (bq.o _).m ?_;rintro e W2 ⟨rfl,a7⟩;go_wp2;go_roundw
   case rel=>have⟨x1,x2,x3⟩:=b7.o W2 a7;have⟨z1,z2⟩:=e8.o.1 (by trivial);exact⟨i,j+1,L,rfl,by go_num,by omega,by omega,⟨A.o.1,z1,z2⟩,by have:=x2;rw[A.o.1] at this;exact this,x3⟩
   simp[intOf];omega
  |false=>
   go_wp2_with fail;refine (bq.o _).m ?_;rintro e W2 ⟨rfl,a7⟩;have⟨x1,x2,x3⟩:=b7.o W2 a7;have t0:∀j,aE W2 (Ad wr.heap.size j)=([aK d.1.j,aK d.1.x,aK d.1.y,aO aR d.2]:List Vq)[j]?:=λj=>by{simp[aE,x1]};have⟨g',c',e0,s0,s1,s2,s3,il⟩:=wW x2 (k:=i) (by rw[A.o.1];omega);cases e0;have⟨_,cc,an⟩:=qe x2 (g:=g) rfl;have y0:aF W2 (Ad g (i*4))=false:=by{simp[aF,an]};have y1:aF W2 (Ad g (i*4+1))=false:=by{simp[aF,an]};have y2:aF W2 (Ad g (i*4+2))=false:=by{simp[aF,an]};have y3:aF W2 (Ad g (i*4+3))=false:=by{simp[aF,an]};have i3:(i:Int)<(aD l:Int):=by{omega};have E:Hid _:=And.intro x2 x3;clear x1 x2 x3 an a7;go_wp2;go_roundw
   case rel=>have⟨z1,z2⟩:=e8.o.2 (by trivial);have⟨o1,o2⟩:=Jo E.o.1 (i:=i) (by rw[A.o.1];omega) d;refine⟨i+1,j+1,L.set i d,by go_num,by go_num,by omega,by omega,⟨by simp[A.o.1],z1,z2⟩,?_,?_⟩;{have:=o1;rw[A.o.1] at this;exact this};{exact⟨o2.os.t E.o.2.os,o2.tape.t E.o.2.tape,o2.output.t E.o.2.output,cQ E.o.2.size o2.size,λk C M=>(o2.h k (cG C E.o.2.size) M).t (E.o.2.h k C M)⟩}
   simp[intOf];omega
 have fh:j=aD l:=by{omega};subst fh;have Qd:Hid (L.take i=l.filter (λd=>!p d)):=by{show _=_;rw[A.o.2.1,List.take_length]};have f9:Hid (aD (l.filter (λd=>!p d))=i):=by{show _=_;rw[<-Qd.o,cJ,A.o.1];omega};have⟨_,cc,an⟩:=qe qt (g:=g) rfl;have ao:cc.size=c*4/\aD l<=c:=by obtain⟨h0,⟨hv,_⟩|⟨g',c',ap,hv,h1,h2,h3,h4,h5,h6⟩⟩:=qt;{cases hv};cases hv;rw[an] at h2;cases h2;exact⟨h5,h3⟩
 have Qpx:aD l*4<=c*4:=bQ 4 ao.2;have⟨zs,cz,ed⟩:=Ji wr g (i*4) (aD l-i) (c-i) (by omega) (λj hj=>by
  have:i*4+j<cc.size:=by rw[ao.1];omega
  simp[aE,an,this]) (λj hj=>by simp[aF,an])
 have b0:=MK (zs:=zs) qt A.o.1 (cE cq) cz;have bc:=aA b0;have a9:=aA al;have Qp5:¬c=i:=by{omega};have i3:(i:Int)<=(aD l:Int):=by{omega};have i5:(i:Int)<=(c:Int):=by{omega};clear b0 qt an ao al;go_wp2;go_ret;rw[f9.o,<-Qd.o];refine⟨rfl,bc.o.1,?_⟩;exact⟨bc.o.2.os.t a9.o.os,bc.o.2.tape.t a9.o.tape,bc.o.2.output.t a9.o.output,cQ a9.o.size bc.o.2.size,λk C M=>(bc.o.2.h k (cG C a9.o.size) M).t (a9.o.h k C M)⟩
def sN:Tm:=⟨eB,0⟩
def su:Tm:=⟨eB,1⟩
theorem Bc{l C:List (List UInt8)}(h:l.Perm C):iL l=iL C:=by have hs:∀l:List (List UInt8),(iL l).Pairwise (λa b=>decide (a<=b)=true):=λl=>List.pairwise_mergeSort (le:=λx y=>decide (x<=y)) (λa b c z A=>by simp only[decide_eq_true_eq] at *;exact List.le_trans z A) (λa b=>by simp only[Bool.or_eq_true,decide_eq_true_eq];exact List.le_total a b) l;refine List.Perm.eq_of_pairwise (le:=λa b=>decide (a<=b)=true) (λa b _ _ z A=>?_) (hs l) (hs C) (((cD l _).trans h).trans (cD C _).symm);simp only[decide_eq_true_eq] at z A;exact List.le_antisymm z A
def wD:Tm:=⟨eB,2⟩
def zN(P E:ByteArray):List Rl:=[⟨⟨P,[sN,su]⟩,[⟨E,[sN,su]⟩]⟩,⟨⟨P,[sN,su]⟩,[⟨P,[sN,wD]⟩,⟨E,[wD,su]⟩]⟩]
structure Eg where
 z:List Rl
 j:Int
 u:Int
 w:Int
 h:Int
 c:List ByteArray
 o:List (Gd×Int)
 M:Gd->Option Int
 l:List Fs
def kX(W:Wq)(k:Nat):Prop:=∃c t,W.heap[k]?=aX (aP c t (0,0))/\(t=101\/t=161\/t=120\/t=198\/t=71\/t=9)
def pE(W:Wq)(k:Nat):Prop:=∃c t,W.heap[k]?=aX (aP c t (0,0))/\(t=198\/t=71)
theorem pE.w(h:pE W k):kX W k:=by
 obtain⟨c,t,A,z|z⟩:=h
 .exact⟨c,t,A,by simp[z]⟩
 exact⟨c,t,A,by simp[z]⟩
theorem kX.lt(h:kX W k):k<W.heap.size:=by have⟨c,t,h1,_⟩:=h;exact (zg h1).1
theorem pE.lt(h:pE W k):k<W.heap.size:=h.w.lt
theorem kX.u(h:kX W k)(z:W'.heap[k]?=W.heap[k]?):kX W' k:=by have⟨c,t,h1,h2⟩:=h;exact⟨c,t,z.t h1,h2⟩
theorem pE.u(h:pE W k)(z:W'.heap[k]?=W.heap[k]?):pE W' k:=by have⟨c,t,h1,h2⟩:=h;exact⟨c,t,z.t h1,h2⟩
theorem kX.c{c:Array Vq}(h:W.heap[k]?=cC c t)(C:t≠101/\t≠161/\t≠120/\t≠198/\t≠71/\t≠9):¬kX W k:=by
 rintro⟨c',E,A,z⟩;rw[h] at A;cases A;obtain z|z|z|z|z|z:=z
 .exact C.1 z
 .grind
 .grind
 .grind
 .grind
 grind
theorem kX.d{c:Nat}(h:W.heap[k]?=aX (bL es c)):¬kX W k:=by rintro⟨c',A,z,_⟩;rw[h] at z;cases z
def rB(b:Nat):Vq:=.pointer (aX ⟨b,0,aY⟩)
structure iQ(W:Wq)(S:Nat->Prop)(be:Nat)(e:Eg)(vr vn vk vf:Vq)(bm rb ad ac:Nat)(ae:List Nat)(Sf:Nat->Nat->Prop):Prop where
 d:W.heap[be]?=cC #[vr,aO aR e.j,aO aR e.u,aO aR e.w,aO aR e.h,vn,vk,.map (aX bm),vf] 101
 u:Qq W rb ad ac vr e.z
 c:aH W 0 9 1 vn (aD e.c) (e.c.map aK)
 o:aH W 0 161 4 vk (aD e.o) (e.o.flatMap qy)
 C:gH W bm 5000 e.M
 l:aD ae=aD e.l
 n:aH W 0 120 1 vf (aD ae) (ae.map rB)
 y:∀i (h:i<aD ae) (h':i<aD e.l),∃b,gC W (Sf i) ae[i] b e.l[i]
 r:∀i j,i≠j->∀k,Sf i k->¬Sf j k
 m:∀i,∀k,Sf i k->S k/\pE W k
 z:S be/\(∀g,aI vk=aX g->S g)/\(∀g,aI vf=aX g->S g)/\∀g,aI vn=aX g->S g
 w:∀k,S k->kX W k
def jD(W:Wq)(S:Nat->Prop)(be:Nat)(e:Eg):Prop:=∃vr vn vk vf bm rb ad ac ae Sf,iQ W S be e vr vn vk vf bm rb ad ac ae Sf
theorem gC.K{A:Nat}{f:Fs}(h:gC W S A ac f):gC W (λk=>S k/\pE W k) A ac f:=by
 have⟨va,vs,vq,h1,h2,h3,h4,h5,h6,h7⟩:=h;refine⟨va,vs,vq,h1,h2,h3,h4,λg z=>⟨⟨(h5 g z).1,?_⟩,(h5 g z).2⟩,λg z=>⟨h6 g z,?_⟩,h7,?_⟩
 .have⟨_,c,hc⟩:=qe h3 z;exact⟨c,_,hc,aU rfl⟩
 .have⟨_,c,hc⟩:=qe h4 z;exact⟨c,_,hc,aU rfl⟩
 exact⟨_,_,h1,aS rfl⟩
def pY(W:Wq)(k:Nat):Prop:=∃c t,W.heap[k]?=aX (aP c t (0,0))/\t≠136/\t≠92/\t≠166
theorem kX.n(h:kX W k):pY W k:=by have⟨c,t,h1,h2⟩:=h;exact⟨c,t,h1,by obtain rfl|rfl|rfl|rfl|rfl|rfl:=h2<;>decide⟩
theorem pY.c{c:Array Vq}(h:W.heap[k]?=cC c t)(z:t=136\/t=92\/t=166):¬pY W k:=by
 rintro⟨c',M,A,C,E,G⟩;rw[h] at A;cases A;obtain z|z|z:=z
 .exact C z
 .exact E z
 exact G z
theorem pY.d{c:Nat}(h:W.heap[k]?=aX (bL es c)):¬pY W k:=by rintro⟨c',A,z,_⟩;rw[h] at z;cases z
theorem iQ.v{e:Eg}(h:iQ W S be e vr vn vk vf bm rb ad ac ae Sf){ex:Nat->Prop}(z:fC W W' ex)(hS:∀k,S k->¬ex k)(M:∀k,k<W.heap.size->ex k->pY W k):iQ W' S be e vr vn vk vf bm rb ad ac ae Sf:=by have E:=z.h;have bi:=λk hs=>E k (h.w k hs).lt (hS k hs);have ge:∀(k:Nat) (c:Array Vq) (t:TypeId),W.heap[k]?=cC c t->(t=136\/t=92\/t=166)->W'.heap[k]?=cC c t:=λk c t z O=>(E k (zg z).1 (λA=>pY.c z O (M k (zg z).1 A))).t z;refine⟨(bi be h.z.1).t h.d,h.u.E (λk c t O z=>ge k c t z O),qm h.c (λg C ag=>bi g (h.z.2.2.2 g C)),qm h.o (λg C ag=>bi g (h.z.2.1 g C)),h.C.o (λk es c G=>(E k (zg G).1 (λA=>pY.d G (M k (zg G).1 A))).t G),h.l,qm h.n (λg C ag=>bi g (h.z.2.2.1 g C)),λi hi fj=>?_,h.r,λi k hs=>⟨(h.m i k hs).1,(h.m i k hs).2.u (bi k (h.m i k hs).1)⟩,h.z,λk hs=>(h.w k hs).u (bi k hs)⟩;have⟨b,hf⟩:=h.y i hi fj;exact⟨b,hf.E (ex:=ex) E (λk hs=>hS k (h.m i k hs).1) (λk c z A=>pY.c z (aU (aU rfl)) (M k (zg z).1 A))⟩
theorem iQ.E{e:Eg}(h:iQ W S be e vr vn vk vf bm rb ad ac ae Sf){ex:Nat->Prop}(G:fC W W' ex)(C:∀k,S k->¬ex k)(E:∀k,k<W.heap.size->ex k->kX W k):iQ W' S be e vr vn vk vf bm rb ad ac ae Sf:=
 h.v G C (λk z A=>(E k z A).n)
theorem jD.v{e:Eg}(h:jD W S be e){ex:Nat->Prop}(C:fC W W' ex)(z:∀k,S k->¬ex k)(A:∀k,k<W.heap.size->ex k->pY W k):jD W' S be e:=by have⟨vr,vn,vk,vf,bm,rb,ad,ac,ae,Sf,hv⟩:=h;exact⟨vr,vn,vk,vf,bm,rb,ad,ac,ae,Sf,hv.v C z A⟩
theorem jD.E{e:Eg}(h:jD W S be e){ex:Nat->Prop}(G:fC W W' ex)(C:∀k,S k->¬ex k)(E:∀k,k<W.heap.size->ex k->kX W k):jD W' S be e:=
 h.v G C (λk z A=>(E k z A).n)
theorem iQ.f{e:Eg}(h:iQ W S be e vr vn vk vf bm rb ad ac ae Sf)(z:cU W.heap.size W W'):iQ W' S be e vr vn vk vf bm rb ad ac ae Sf:=
 h.E (fC.d (λ_=>False) z) (λ_ _=>id) (λ_ _=>False.elim)
theorem jD.f{e:Eg}(h:jD W S be e)(z:cU W.heap.size W W'):jD W' S be e:=
 h.E (fC.d (λ_=>False) z) (λ_ _=>id) (λ_ _=>False.elim)
def jK(rs:List Rl):List ByteArray:=(rs.flatMap Qa).map (·.j)
structure nN(rs:List Rl):Prop where
 o:aD rs<=8
 d:∀r∈rs,kF r
 c:∀a∈rs.flatMap Qa,aD a.d=fG rs a.j/\(aD a.d=1\/aD a.d=2)
 f:∀a∈rs.flatMap Qa,∀t∈a.d,t.d<6
 j:∀r∈rs,∀t∈r.d.d,t.c=eB->∃a∈r.n,∃u∈a.d,u.c=eB/\u.d=t.d
structure fP(e:Eg):Prop where
 z:nN e.z
 j:1<=e.j/\e.j<=1000
 u:0<=e.u/\e.u<=1000
 w:1<=e.w/\e.w<=50
 h:0<=e.h/\e.h<=1000000
 A:aD e.c<=8
 n:∀x∈e.c,x.size<=1200
 v:∀r∈e.z,∀t∈r.d.d,t.c≠eB->t.c∈e.c
 m:aD e.o<=24
 o:∀d∈e.o,d.1∈jG (jK e.z) e.c/\gN (fG e.z) d.1/\0<=d.2/\d.2<=1000000
 C:∀g,(e.M g).isSome=true->gN (fG e.z) g/\g∈jG (jK e.z) e.c
 c:aD e.l<=3
 l:∀f∈e.l,tp f.c/\aD f.g<=1000/\aD f.w<=50
end Go.Proofs.YtjajnhemgphefaaGreatDoor
namespace Go.Proofs.YtjajnhemgphefaaGreatDoor
open Go renaming World->Wq,Value->Vq
open Go.RowKit Go.Shelf
variable {p:fD} {s:Nat->ByteArray} {a:Am} {ar:ByteArray->Nat} {F:List (Gd×Int)} {e:Int} {G:List Gr}
def fM(g:Gd):Gr:=⟨g.j,if qj g.y=true then [g.x] else [g.x,g.y]⟩
theorem xo{g h:Gd}(e:fM g=fM h):g=h:=by
 have⟨r,x,y⟩:=g;have⟨r',x',y'⟩:=h;unfold fM at e;simp only[Gr.mk.injEq] at e;obtain⟨rfl,e⟩:=e;by_cases z:qj y=true<;>by_cases A:qj y'=true
 .grind [sS]
 .grind
 .grind
 grind
def Ot(a:Am):Prop:=(aD a.d=1\/aD a.d=2)/\∀t∈a.d,t.d<6
def Ih(s:Nat->ByteArray)(a:Am):Prop:=∀t∈a.d,qj (lX s t)=false
theorem Cd{t:Tm}(h:qj t.c=true->p.f t.d=s t.d):fH p t=lX s t:=by grind [fH,lX,qj]
theorem wl(C:aD a.d=1\/aD a.d=2)(z:∀t∈a.d,qj t.c=true->p.f t.d=s t.d)(A:Ih s a):fM (qb p a)=iX s a:=by
 have⟨rel,args⟩:=a;simp only at C z A;unfold fM qb iX;simp only[Gr.mk.injEq,true_and];match args,C,z,A with
 |[t],_,z,A=>show (if qj fJ=true then [fH p t] else [fH p t,fJ])=[lX s t];rw[if_pos pB,Cd (z t zs)]
 |[t,u],_,z,A=>show (if qj (fH p u)=true then [fH p t] else [fH p t,fH p u])=[lX s t,lX s u];have E:=Cd (z t zs);have G:=Cd (z u (zt zs));have M:=A u (zt zs);rw[E,G,if_neg (by rw[M];decide)]
 |[],h,_,_=>simp at h
 |_::_::_::_,h,_,_=>simp at h
def xD(s:Nat->ByteArray):fD:=⟨s 0,s 1,s 2,s 3,s 4,s 5⟩
theorem Da(s:Nat->ByteArray){n:Nat}(h:n<6):(xD s).f n=s n:=by
 match n,h with
 |0,_=>rfl
 |1,_=>rfl
 |2,_=>rfl
 |3,_=>rfl
 |4,_=>rfl
 |5,_=>rfl
theorem vR(hs:∀v,qj (s v)=false)(t:Tm):qj (lX s t)=false:=by grind [lX]
def rY(ar:ByteArray->Nat)(g:Gd):Prop:=qj g.x=false/\((ar g.j=1/\qj g.y=true)\/(ar g.j=2/\qj g.y=false))
theorem yZ(C:aD a.d=1\/aD a.d=2)(z:aD a.d=ar a.j):rY ar (qb p a)↔∀t∈a.d,qj (fH p t)=false:=by
 have⟨rel,args⟩:=a;simp only at C z;match args,C,z with
 |[t],_,z=>show (qj (fH p t)=false/\((ar rel=1/\qj fJ=true)\/(ar rel=2/\qj fJ=false)))↔_;rw[pB];have A:ar rel=1:=z.s;simp[A]
 |[t,u],_,z=>show (qj (fH p t)=false/\((ar rel=1/\qj (fH p u)=true)\/(ar rel=2/\qj (fH p u)=false)))↔_;have A:ar rel=2:=z.s;simp[A]
 |[],h,_=>simp at h
 |_::_::_::_,h,_=>simp at h
structure yd(ar:ByteArray->Nat)(R:List Rl)(F:List (Gd×Int))(e:Int)(G:List Gr):Prop where
 D:∀x∈F,e<x.2->rY ar x.1/\(fM x.1∈G\/∃r∈R,r.n=[]/\x.1=qb Ql r.d)
 d:∀g∈G,∃x∈F,e<x.2/\fM x.1=g
 c:∀r∈R,r.n=[]->∃x∈F,e<x.2/\x.1=qb Ql r.d
structure sK(ar:ByteArray->Nat)(R:List Rl):Prop where
 f:∀r∈R,∀a∈r.d::r.n,Ot a/\aD a.d=ar a.j
 j:∀r∈R,∀v,lL r.d v->∃a∈r.n,lL a v
theorem Dq{r:Rl}(hs:∀v,lL r.d v->∃a∈r.n,lL a v)(z:r.n=[]):∀t∈r.d.d,qj t.c=false:=λt A=>by
 cases he:qj t.c with
 |false=>rfl
 |true=>have⟨a,ha,_⟩:=hs t.d ⟨t,A,he,rfl⟩;rw[z] at ha;cases ha
theorem Fn{R:List Rl}(z:sK ar R){r:Rl}(C:r∈R)(G:r.n=[])(p:fD)(s:Nat->ByteArray)(hs:∀v,qj (s v)=false):fM (qb p r.d)=iX s r.d:=by have M:=Dq (z.j r C) G;exact wl (z.f r C _ zs).1.1 (λt E A=>by rw[M t E] at A;cases A) (λt E=>vR hs t)
theorem KC{R:List Rl}(hR:sK ar R)(hF:yd ar R F e G){g:Gd}(hd:iZ R F e g):Dv R G (fM g)/\rY ar g:=by
 have ef:qj (⟨#[97]⟩:ByteArray)=false:=by decide +kernel
 refine hd (λg=>Dv R G (fM g)/\rY ar g) (λx hx M=>?_) (λr E hb p hp=>?_)
 .have⟨h1,C⟩:=hF.D x hx M;refine⟨?_,h1⟩;obtain C|⟨r,E,hb,e1⟩:=C;{exact λS s1 _=>s1 _ C};rw[e1,Fn hR E hb _ (λ_=>⟨#[97]⟩) (λ_=>ef)];exact λS _ s2=>s2 r E _ (λ_=>ef) (λa z=>by rw[hb] at z;cases z)
 have hv:∀v,(∃a∈r.n,lL a v)->qj (p.f v)=false:=λv ⟨a,z,t,A,M,hn⟩=>by{have⟨C,h3⟩:=hR.f r E a (zt z);have:=(yZ C.1 h3).1 (hp a z).2 t A;unfold fH at this;rwa[if_pos (by exact M),hn] at this};have hs:∀v,qj ((λv=>if qj (p.f v)=true then (⟨#[97]⟩:ByteArray) else p.f v) v)=false:=λv=>by{grind};have M:∀v,qj (p.f v)=false->p.f v=(λv=>if qj (p.f v)=true then (⟨#[97]⟩:ByteArray) else p.f v) v:=λv h=>by{grind};have gw:=λa z=>wl (hR.f r E a (zt z)).1.1 (λt A O=>M _ (hv _ ⟨a,z,t,A,O,rfl⟩)) (λt A=>vR hs t);have fm:=λt A O=>hv _ (hR.j r E _ ⟨t,A,O,rfl⟩);have⟨C,h3⟩:=hR.f r E r.d zs;refine⟨?_,(yZ C.1 h3).2 (λt A=>?_)⟩;{rw[wl C.1 (λt A O=>M _ (fm t A O)) (λt A=>vR hs t)];exact λS s1 s2=>s2 r E _ hs (λa z=>by rw[<-gw a z];exact (hp a z).1 S s1 s2)};{grind [fH,qj]}
theorem LN{R:List Rl}(A:sK ar R)(E:yd ar R F e G){h:Gr}(hd:Dv R G h):∃g,fM g=h/\iZ R F e g:=by
 refine hd (λh=>∃g,fM g=h/\iZ R F e g) (λx C=>?_) (λr z s hs hb=>?_)
 .have⟨y,hy,he,e1⟩:=E.d x C;exact⟨y.1,e1,iZ.f hy he⟩
 have hg:=λa M=>wl (A.f r z a M).1.1 (λt O _=>Da s ((A.f r z a M).1.2 t O)) (λt O=>vR hs t);by_cases h0:r.n=[];{have⟨x,C,he,e1⟩:=E.c r z h0;refine⟨x.1,?_,iZ.f C he⟩;rw[e1];exact Fn A z h0 _ s hs};{grind [qb,xD,iZ.b,xo,zs,List.mem_cons_of_mem]}
theorem KW{R:List Rl}(A:sK ar R)(z:yd ar R F e G)(g:Gd):iZ R F e g↔Dv R G (fM g):=by refine⟨λh=>(KC A z h).1,λh=>?_⟩;have⟨g',e1,h'⟩:=LN A z h;rwa[<-xo e1]
