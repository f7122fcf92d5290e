/- A part -/
import Derived.Test.YtjajnhemgphefaaGreatDoorJMoJ
set_option linter.all false
set_option maxRecDepth 100000
set_option maxHeartbeats 16000000
open List renaming length->aB,length_append->aX,length_cons->aZ,mem_append->bD,mem_filterMap->bE,flatMap_append->bF,nodup_cons->bI,mem_cons->bJ
open Go.World renaming cell?->aC,frozen?->aD,ownsRow->aE,size_alloc->aY
open Go.Value renaming ownBlock->aF,slice->aH,string->aI,agg->aJ,bool->aK,tuple->aL,int->aM
open Go.Obj renaming cells->aN,map->bH
open Go.Ending renaming returned->aO
open Go.IntKind renaming i64->aP
open Or renaming inl->aQ,inr->aR
open Option renaming some->aV,none->aW
open Go.RowKit.Below renaming heap_alloc->bB,refl->bC,heap_setCell->bG
open Go renaming callsIn_wide->bL
open Go.RowKit renaming Below->bO
namespace Go.Proofs.YtjajnhemgphefaaGreatDoor
open Go renaming World->Wq,Value->Vq
open Go.RowKit Go.Shelf Go.Maps
attribute [local go_sem] Oper.semAt_some
variable {N Bw nn g qc Bn:Nat} {W V V':Wq} {q:List (Gd×Int)} {x:Gd×Int} {M:Gd->Option Int} {ds:List Nat}
structure zv(ar:ByteArray->Nat)(R:List Rl)(F:List (Gd×Int))(U:List Gd):Prop where
 arity:∀r,ar r=1\/ar r=2\/ar r=0
 rules:∀r∈R,oV ar r/\r.head.args≠[]
 use:∀r∈R,wN r
 few:aB R<=8
 facts:∀x∈F++Qx R,eO ar x.1/\jl x.1
 inU:∀x∈F++Qx R,x.1∈U
 ends:∀x∈F,0<=x.2/\x.2<=2000000
 closed:∀r∈R,r.body≠[]->∀p:dF,(∀a∈r.body,qb p a∈U/\eO ar (qb p a))->qb p r.head∈U
 okU:∀g∈U,jl g
 small:aB U<=2400
 count:aB F<=1000
theorem DN{a n:Nat}(A:a<=8)(C:n<=4800):a*jp n<=553190424:=by
 have d:jp n<=jp 4800:=by unfold jp;exact Nat.mul_le_mul_left _ (Nat.pow_le_pow_left (by omega) 2)
 have z:jp 4800=69148803:=by unfold jp;decide
 have:=Nat.mul_le_mul A d;rw[z] at this;exact this
structure pX(N Bw n0:Nat)(w:Wq)(ar:ByteArray->Nat)(R:List Rl)(FF:List (Gd×Int))(U:List Gd)(q:List (Gd×Int))(M:Gd->Option Int)(ks:List Gd)(ds:List Nat)(qa:Option Addr)(qc:Nat)(V:Wq):Prop where
 box:Boxed V Bw 169 (aH qa (aB q) qc)
 own:aE V (N+2) 172 4 (aH qa (aB q) qc) (aB q) (q.flatMap qx)
 low:bO N w V
 shut:fV (Bw+1) ds V
 md:g9 N V N (2*aB ks) M
 inv:lA ar R FF U M q
 nd:ks.Nodup
 mem:∀g,(M g).isSome=true↔g∈ks
 sub:∀g∈ks,g∈U
 len:aB q<=n0+aB ks*553190424
 ends:∀x∈q,0<=x.2/\x.2<=2000000
 bw:Bw<V.heap.size
theorem FH(h:W.heap[N]?=aV (bH #[] 0)):g9 N W N 0 (λ_=>aW):=by
 have z:W.ownsMap Tryz.prog 9 RV N 0 (.map []):=by have⟨es,c,h1,h2,h3,h4⟩:=World.ownsMap_made (H:=Vq) W Tryz.prog 9 RV;rw[World.alloc_heap_new] at h1;cases h1;exact⟨#[],0,h,h2,h3,h4⟩
 refine⟨.map [],λ_=>aW,z,λrel A=>⟨λ_=>⟨rfl,λ_ _=>rfl⟩,λb d=>(by cases d)⟩,λ_ _ _ h=>(by cases h),λ_ _ h=>(by cases h),Nat.le_refl _,λ_ _ h=>(by cases h)⟩
theorem Fv{b T k n c:Nat}{A:Option Addr}{xs ys:List Vq}(h:aE W b T k (aH A (n+1) c) (n+1) (xs++ys))(d:aB xs=n*k):aE W b T k (aH A n c) n xs:=by
 obtain⟨h0,⟨z,hn⟩|⟨g,C,E,z,G,M,h3,O,Z,h6⟩⟩:=h
 .omega
 .cases z;refine⟨d,aR ⟨g,c,E,rfl,G,M,by omega,O,Z,?_⟩⟩;have:=congrArg (List.take (n*k)) h6;rw[List.take_take,Nat.min_eq_left (Nat.mul_le_mul_right _ (by omega)),<-d,List.take_left,d] at this;exact this
theorem we(q:List (Gd×Int)):aB (q.flatMap qx)=aB q*4:=by
 induction q with
 |nil=>rfl
 |cons x q ih=>rw[List.flatMap_cons,aX,ih,l4,aZ];omega
structure kO(N Bw:Nat)(w:Wq)(q:List (Gd×Int))(x:Gd×Int)(M:Gd->Option Int)(nn:Nat)(ds:List Nat)(g qc Bn:Nat)(V:Wq):Prop where
 box:Boxed V Bw 169 (Sc g (aB q) qc)
 own:aE V (N+2) 172 4 (Sc g (aB q) qc) (aB q) (q.flatMap qx)
 low:bO N w V
 shut:fV (Bw+1) ds V
 md:g9 N V N nn M
 next:V.heap[Bn]?=cC #[aI x.1.rel,aI x.1.x,aI x.1.y,aM aP x.2] 172
 bw:Bw<Bn
 gn:g<Bn
theorem kO.below{w:Wq}(h:kO N Bw w q x M nn ds g qc Bn V)(d:bO V.heap.size V V'):kO N Bw w q x M nn ds g qc Bn V':=by
 have A:N<=V.heap.size:=by have:=h.md;have⟨D,blk,h1,_⟩:=this;exact Nat.le_of_lt h1.lt
 exact⟨(d.block _ h.box.lt).trans h.box,qj h.own d,h.low.trans (d.mono A),h.shut.below d,h.md.kept (λk C c z=>(d.block k (zg z).1).trans z),(d.block _ (zg h.next).1).trans h.next,h.bw,h.gn⟩
theorem pX.pop{n0:Nat}{w:Wq}{O:ByteArray->Nat}{R:List Rl}{FF:List (Gd×Int)}{U:List Gd}{ks:List Gd}(dy:N+2<=Bw)(h:pX N Bw n0 w O R FF U (q++[x]) M ks ds (aV ⟨g,0,aW⟩) qc V):kO N Bw w q x M (2*aB ks) ds g qc V.heap.size ((V.setCell (Ad Bw 0) (Sc g (aB q) qc)).alloc (aN #[aI x.1.rel,aI x.1.x,aI x.1.y,aM aP x.2] 172)):=by
 have G:=h.bw;have E:=h.own;rw[aX,bF] at E;have em:=Fv E (we q);have aq:(V.setCell (Ad Bw 0) (Sc g (aB q) qc)).heap.size=V.heap.size:=by simp
 have ad:bO V.heap.size (V.setCell (Ad Bw 0) (Sc g (aB q) qc)) ((V.setCell (Ad Bw 0) (Sc g (aB q) qc)).alloc (aN #[aI x.1.rel,aI x.1.x,aI x.1.y,aM aP x.2] 172)):=zr.alloc (by omega) _;have A:∀(k:Nat) (o:Obj),k≠Bw->V.heap[k]?=aV o->((V.setCell (Ad Bw 0) (Sc g (aB q) qc)).alloc (aN #[aI x.1.rel,aI x.1.x,aI x.1.y,aM aP x.2] 172)).heap[k]?=aV o:=λk o eb C=>(ad.block k (zg C).1).trans ((bG _ _ _ _ (by show k≠Bw;exact eb)).trans C);have Z:=Qk em ⟨Bw,0,aW⟩ (Sc g (aB q) qc) (λg' ev=>Qe h.own h.box (by decide) g' ev);refine⟨(lh h.box _).alloc _,Z.alloc _,?_,⟨h.shut.nodup,λd hd=>⟨(h.shut.at' d hd).1,A d _ (by have:=(h.shut.at' d hd).1;omega) (h.shut.at' d hd).2⟩⟩,h.md.kept (λk es c z=>A k _ (λe=>?_) z),?_,G,?_⟩
 .exact (h.low.setCell (p:=⟨Bw,0,aW⟩) (by show N<=Bw;omega) _).alloc (by simp;omega) _
 .have:=h.box;rw[e,this] at z;cases z
 .have:=zn (V.setCell (Ad Bw 0) (Sc g (aB q) qc)) (aN #[aI x.1.rel,aI x.1.x,aI x.1.y,aM aP x.2] 172);rw[aq] at this;exact this
 .have⟨_,c,hc⟩:=qd h.own (g:=g) rfl;exact (zg hc).1
theorem kO.add{w:Wq}{A:Gd->Option Int}{C:Nat}(h:kO N Bw w q x M nn ds g qc Bn V)(z:ue V V')(G:bO N V V')(E:g9 N V' N C A):kO N Bw w q x A C ds g qc Bn V':=by refine⟨z.block _ _ h.box (λ_ _ e=>by cases e),qn h.own (λg' O Z=>?_),h.low.trans G,⟨h.shut.nodup,λd hd=>⟨(h.shut.at' d hd).1,z.block _ _ (h.shut.at' d hd).2 (λ_ _ e=>by cases e)⟩⟩,E,z.block _ _ h.next (λ_ _ e=>by cases e),h.bw,h.gn⟩;have⟨_,c,hc⟩:=qd h.own O;rw[hc];exact z.block _ _ hc (λ_ _ e=>by cases e)
theorem Jn(e:Int)(h0:0<=e)(d:e<=2000000):(Lit.int aP e).wf=true:=by simp[Lit.wf,IntKind.min,IntKind.max,IntKind.signed,IntKind.bits];omega
theorem Cb(ar:ByteArray->Nat)(R:List Rl)(F:List (Gd×Int))(U:List Gd)(vl vf:Vq)(rb ak an fb:Nat)(w:Wq)(bv:zv ar R F U)(hR:Qn w rb ak an vl R)(hF:aE w fb 172 4 vf (aB F) (F.flatMap qx)):Cs 75 #[vl,vf] w λe w'=>∃B M,e=aO (.map (aV B))/\g9 w.heap.size w' B 5000 M/\ia R (F++Qx R) M/\oW ar M/\bO w.heap.size w w':=by
 obtain⟨C,E,rfl⟩:=hR.form;obtain⟨fa,fc,rfl⟩:=qq hF;refine (bL (n:=14)).1 ?_;refine callsIn_of_wp_marks Tryz.func75 rfl trivial ?_ rfl;simp only[Tryz.ntmps75,List.size_toArray,aZ,List.length_nil,Nat.reduceAdd,Nat.reduceSub,Array.replicate_succ,Array.replicate_zero,List.push_toArray,List.append_toArray,List.nil_append,List.cons_append];have du:Hid (∀W,Cs 131 #[aH fa (aB F) fc] W λe w'=>e=aO (.func (.func 186) #[] #[Pt W.heap.size])/\w'=W.alloc (aN #[aH fa (aB F) fc] 169)):=λW=>Hg _ W _ _ _ rfl;have hm:=@run_makeMap Tryz.prog;obtain⟨N,hN⟩:∃N,w.heap.size=N:=⟨_,rfl⟩;have bk:bO N w ((w.alloc (.map #[] 0)).alloc (aN #[aH fa (aB F) fc] 169)):=by rw[<-hN];exact ((bC _ w).alloc zl _).alloc (by simp) _
 have ca:Hid (Cs 130 #[.func (.func 186) #[] #[Pt (N+1)],.func (.func 132) #[] #[]] ((w.alloc (.map #[] 0)).alloc (aN #[aH fa (aB F) fc] 169)) λe w'=>∃(oa:Option Addr) (oc:Nat) (ys:List (Gd×Int)),e=aO (aH oa (aB F) oc)/\ys.Perm F/\ys.Pairwise (λa b=>a.2<=b.2)/\aE w' (N+2) 172 4 (aH oa (aB F) oc) (aB ys) (ys.flatMap qx)/\bO (N+2) ((w.alloc (.map #[] 0)).alloc (aN #[aH fa (aB F) fc] 169)) w'):=by have h1:=zn (w.alloc (.map #[] 0)) (aN #[aH fa (aB F) fc] 169);rw[aY,hN] at h1;have h2:=F0 (aH fa (aB F) fc) F fb (N+1) _ h1 (qj hF (by rw[hN];exact bk)) (by have:=bv.count;omega);refine h2.mono ?_;rintro e w' ⟨v',ys,rfl,hp,hs,ho,hb⟩;have⟨oa,oc,b7⟩:=qq ho;have hl:=hp.length_eq;rw[aY,aY,hN] at ho hb;subst b7;rw[hl] at ho ⊢;exact⟨oa,oc,ys,rfl,hp,hs,by rw[hl];exact ho,hb⟩
 have dn:Hid (∀W,Cs 135 #[aH C (aB R) E] W λe w'=>e=aO (.func (.func 188) #[] #[Pt W.heap.size])/\w'=W.alloc (aN #[aH C (aB R) E] 75)):=λW=>DZ _ W _ _ _ rfl;have HR:=aA hR;have ei:=aA bk;have ab:=aA bv;clear hR hF bk bv
 gi_wp2_with (first|(refine⟨trivial,?_⟩;gi_at_call 131;refine (bL.2 (du.o _)).mono ?_;rintro e w' ⟨rfl,rfl⟩)|(refine⟨trivial,?_⟩;gi_at_call 130;refine (bL.2 (ca.o)).mono ?_;rintro e W3 ⟨oa,oc,ys,rfl,hp,hs,ho,ai⟩))
 have b0:aB ys=aB F:=hp.length_eq;have cz:W3.heap[N]?=aV (bH #[] 0):=by refine (ai.block N (by omega)).trans ((bB _ _ _ (by simp;omega)).trans ?_);have:=zn w (.map #[] 0);rw[hN] at this;exact this
 have cr:bO N w W3:=(ei.o).trans (ai.mono (by omega));have fq:N+2<=W3.heap.size:=by have:=ai.size;simp at this;omega
 obtain⟨Bw,aw⟩:∃Bw,W3.heap.size=Bw:=⟨_,rfl⟩;obtain⟨W4,av⟩:∃W4,W3.alloc (aN #[aH oa (aB F) oc] 169)=W4:=⟨_,rfl⟩;have bh:bO Bw W3 W4:=by rw[<-av,<-aw];exact (bC _ W3).alloc zl _
 have dk:W4.heap.size=Bw+1:=by rw[<-av,<-aw];simp
 have bW:W4.heap[Bw]?=cC #[aH oa (aB F) oc] 169:=by rw[<-av,<-aw];exact zn W3 _
 have d5:aE W4 (N+2) 172 4 (aH oa (aB F) oc) (aB ys) (ys.flatMap qx):=qj ho (by rw[aw];exact bh);have b4:bO N w W4:=cr.trans (bh.mono (by omega));have cg:W4.heap[N]?=aV (bH #[] 0):=(bh.block N (by omega)).trans cz;have cw:aC W4 (Ad Bw 0)=aV (aH oa (aB F) oc):=zc bW
 (try simp only[aw])
 rw[av];clear av cr cz ai ho ca bh;obtain⟨q0,au⟩:∃q0,ys++Qx R=q0:=⟨_,rfl⟩;obtain⟨Pd,b5⟩:∃Pd:Option Addr->Nat->Wq->Prop,Pd=λqa qc w'=>Boxed w' Bw 169 (aH qa (aB q0) qc)/\aE w' (N+2) 172 4 (aH qa (aB q0) qc) (aB q0) (q0.flatMap qx)/\bO N w w'/\w'.heap[N]?=aV (bH #[] 0)/\Bw<w'.heap.size:=⟨_,rfl⟩
 have dj:Hid (∀W5,bO (Bw+1) W4 W5->W5.heap[Bw+1]?=cC #[aH C (aB R) E] 75->Cs 134 #[aH oa (aB F) oc,.func (.func 188) #[] #[Pt (Bw+1)]] W5 λe w'=>∃qa qc,e=aO (aH qa (aB q0) qc)/\(∃v,aC w' (Ad Bw 0)=aV v)/\aD w' (Ad Bw 0)=false/\Pd qa qc (w'.setCell (Ad Bw 0) (aH qa (aB q0) qc))):=by
  intro W5 aj da;have ft:Bw+1<W5.heap.size:=(zg da).1;have cf:=qj d5 (by rw[dk];exact aj);have bq:aB ys+aB R<=2000000000000:=by{have:=ab.o.count;have:=ab.o.few;omega};rw[<-b0];rw[<-b0] at cf;have fi:Qn W5 rb ak an (aH C (aB R) E) R:=Qn.rk HR.o (qf.ofBelow (by rw[hN];exact b4.trans (aj.mono (by omega))));refine (zE (gf:=188) (lb:=#[Pt (Bw+1)]) (aH oa (aB ys) oc) ys (N+2) W5 cf (by omega) bq (enters_of Tryz.func188 (by kernel_rfl) rfl) (λm' n'=>JS (N+2) (Bw+1) rb ak an _ R W5 da fi (λr G=>⟨(ab.o.use r G).args,(ab.o.use r G).nums⟩) ab.o.few m' n')).mono ?_;rintro e w' ⟨v',zs,rfl,hz,bc,dc,d7⟩;have e5:zs=Qx R:=hz;rw[e5,au] at bc;have⟨qa,qc,b7⟩:=qq bc;subst b7;have Qj8:W5.heap[Bw]?=cC #[aH oa (aB F) oc] 169:=(aj.block Bw (by omega)).trans bW;have ao:Boxed w' Bw 169 (aH oa (aB F) oc):=d7 Bw _ (by omega) Qj8 (aR (λc fz e=>by cases e));have ek:W5.heap[N]?=aV (bH #[] 0):=(aj.block N (by omega)).trans cg;have ep:=d7 N _ (by omega) ek (aR (λc fz e=>by cases e));refine⟨qa,qc,rfl,⟨_,ao.cell⟩,ao.frozen,?_⟩;rw[b5];refine⟨lh ao _,Qk bc ⟨Bw,0,aW⟩ _ (Qe bc ao (by decide)),?_,(bG _ _ _ _ (by show N≠Bw;omega)).trans ep,?_⟩;{exact ((b4.trans (aj.mono (by omega))).trans (dc.mono (by omega))).setCell (p:=⟨Bw,0,aW⟩) (by show N<=Bw;omega) _};{have:=dc.size;simp;omega}
 have HPd:=aA b5;have Qhh:Hid (∀W,bO (Bw+1) W4 W->W.heap.size=Bw+1->Cs 135 #[aH C (aB R) E] W λe w'=>e=aO (.func (.func 188) #[] #[Pt (Bw+1)])/\bO (Bw+1) W4 w'/\w'.heap[Bw+1]?=cC #[aH C (aB R) E] 75/\aC w' (Ad Bw 0)=aV (aH oa (aB F) oc)):=by intro W hb aq;refine (dn.o W).mono ?_;rintro e w' ⟨rfl,rfl⟩;have h1:=zn W (aN #[aH C (aB R) E] 75);rw[aq] at h1;have c9:bO (Bw+1) W4 (W.alloc (aN #[aH C (aB R) E] 75)):=hb.alloc (by omega) _;refine⟨by rw[aq],c9,h1,?_⟩;have h2:=(c9.block Bw (by omega)).trans bW;simp[aC,h2]
 clear dn b5;refine wpIn_mono (Q:=λe a' w'=>match e with|Exit.normal=>∃qa qc be az a7 bd,a'={tmps:=#[aH C (aB R) E,aH fa (aB F) fc,undef,undef,.map aW,.map (aV N),Pt Bw,undef,undef,undef,.map (aV N),aH fa (aB F) fc,.func (.func 186) #[] #[Pt (N+1)],aH oa (aB F) oc,be,az,a7,bd,undef,undef,undef,undef,undef,undef,undef,undef,undef,undef,undef,undef,undef,undef,undef,undef,undef,undef,undef,undef,undef,undef,undef,undef,undef,undef,undef,undef,undef,undef,undef,undef,undef,undef],defers:=[]}/\Pd qa qc w'|_=>False) ?reg ?rest
 case reg=>
  have Qj5:Hid (bO (Bw+1) W4 W4.drew):=(bC _ W4).drew;have Qld:=aA dk;clear b4 cg d5 bW HPd HR ab hp hs au du hm
  first|(gi_region_with (first|(refine⟨trivial,?_⟩;(try refine⟨λh=>(by cases h),?_⟩);refine (bL.2 (Qhh.o _ Qj5.o Qld.o)).mono ?_;rintro e W5 ⟨rfl,aj,eh,fs⟩)|(refine⟨trivial,?_⟩;(try refine⟨λh=>(by cases h),?_⟩);refine (bL.2 (dj.o W5 aj eh)).mono ?_;rintro e W6 ⟨qa,qc,rfl,⟨cv,f0⟩,f5,bb⟩)))|fail
  all_goals exact⟨qa,qc,_,_,_,_,rfl,bb⟩
 case rest=>
  rintro e a' W6 hq
  cases e with
  |normal=>
   obtain⟨qa,qc,be,az,a7,bd,rfl,bb⟩:=hq;rw[HPd.o] at bb;clear dj HPd Qhh
   gi_wp2
   have⟨pb,po,pl,pm,ej⟩:=bb
   have cl:q0.Pairwise (λa b=>a.2<=b.2):=by
    rw[<-au];refine List.pairwise_append.2 ⟨hs,?_,λa ha b hb=>?_⟩
    .have:∀x∈Qx R,x.2=2000000:=λx hx=>by
      have⟨r,_,G⟩:=bE.1 hx;split at G
      .cases G;rfl
      .cases G
     exact List.pairwise_of_forall_mem_list (λa ha b hb=>by rw[this a ha,this b hb];exact Int.le_refl _)
    .have⟨r,_,G⟩:=bE.1 hb;split at G
     .cases G;exact (ab.o.ends a (hp.mem_iff.1 ha)).2
     .cases G
   have bj:∀x,x∈q0↔x∈F++Qx R:=λx=>by rw[<-au,bD,bD,hp.mem_iff]
   have Qcb:∀x∈q0,0<=x.2/\x.2<=2000000:=λx hx=>by
    rcases bD.1 ((bj x).1 hx) with h|h
    .exact ab.o.ends x h
    .have⟨r,_,G⟩:=bE.1 h;split at G
     .cases G;exact⟨(by show (0:Int)<=2000000;decide),(by show (2000000:Int)<=2000000;decide)⟩
     .cases G
   have Qk7:aB q0<=1008:=by{rw[<-au,aX,b0];have h1:aB (Qx R)<=aB R:=List.length_filterMap_le _ _;have:=ab.o.count;have:=ab.o.few;omega};have dx:pX N Bw (aB q0) w ar R (F++Qx R) U q0 (λ_=>aW) [] [] qa qc W6:=⟨pb,po,pl,fV.nil _ _,FH pm,lA.first cl bj ab.o.facts ab.o.inU,List.nodup_nil,λg=>by simp,by simp,by simp,Qcb,ej⟩;have f9:Qn W6 rb ak an (aH C (aB R) E) R:=Qn.rk HR.o (qf.ofBelow (by rw[hN];exact pl));clear pb po pl pm cl bj Qcb hs hp;refine wpIn_loop_ghost (λn A V=>∃(q:List (Gd×Int)) (M:Gd->Option Int) (ks:List Gd) (ds:List Nat) (qa:Option Addr) (qc:Nat) (u7 u8 ck cq cx dv co cn df cd dp dq dz ce dw dd d8 c5 cy dl dt c8 dh db dm di c3:Vq),A={tmps:=#[aH C (aB R) E,aH fa (aB F) fc,undef,undef,.map aW,.map (aV N),Pt Bw,u7,u8,undef,.map (aV N),aH fa (aB F) fc,.func (.func 186) #[] #[Pt (N+1)],aH oa (aB F) oc,be,az,a7,bd,ck,cq,cx,dv,co,cn,df,cd,dp,dq,dz,ce,dw,dd,d8,c5,cy,dl,dt,c8,dh,db,dm,di,c3,undef,undef,undef,undef,undef,undef,undef,undef,undef],defers:=jr ds}/\Hid (pX N Bw (aB q0) w ar R (F++Qx R) U q M ks ds qa qc V)/\n=(aB U-aB ks)*553190425+aB q) _ ⟨q0,_,[],[],qa,qc,_,_,_,_,_,_,_,_,_,_,_,_,_,_,_,_,_,_,_,_,_,_,_,_,_,_,_,rfl,dx,rfl⟩ ?_;rintro gn A V ⟨q,M,ks,ds,qa,qc,u7,u8,ck,cq,cx,dv,co,cn,df,cd,dp,dq,dz,ce,dw,dd,d8,c5,cy,dl,dt,c8,dh,db,dm,di,c3,rfl,aa,bu⟩;clear dx;have f1:aB ks<=aB U:=wE ks U aa.o.nd aa.o.sub;have hU:=ab.o.small;have e2:aB q<=1400000000000:=by have:=aa.o.len;omega
   have cb:=aa.o.box.cell;have fb:=aa.o.box.frozen;rcases List.eq_nil_or_concat q with rfl|⟨z,x,d4⟩
   .have Qf:=aa.o.inv.done;have a9:=aa.o.md;have de:=aa.o.inv.okM;have Qht:=aa.o.low;have bf:=aa.o.shut;have HF:=aA Qf;have HM:=aA a9;have HO:=aA de;clear Qf a9 de aa bu
    gi_wp2
    show LeavesInM Fence.wide 14 Tryz.prog _ _ _ (jr ds) .returning V;refine pw ds V bf.nodup (λD hD=>(bf.at' D hD).2) (λW' hc aq=>?_);have fh:g9 w.heap.size W' N 5000 M:=by{rw[hN];refine (g9.kept HM.o (λk es c hk=>(hc.block k (zg hk).1 (λe=>?_)).trans hk)).mono (by omega);rw[(bf.at' k e).2] at hk;cases hk};refine⟨_,results_tmp rfl _ _ _,N,M,rfl,fh,HF.o,HO.o,?_⟩;rw[hN];refine Qht.trans ⟨hc.os,hc.tape,hc.output,hc.size,λk hk=>hc.block k (by have:=Qht.size;omega) (λe=>?_)⟩;have:=(bf.at' k e).1;omega
   .rw[List.concat_eq_append] at d4;subst d4;have bi:aB (z++[x])=aB z+1:=by{simp};have qt:=aa.o.own;have⟨g,c,e0,x0,x1,x2,x3⟩:=AC qt (k:=aB z) (by simp);have cj:(z++[x])[aB z]'(by simp)=x:=by{simp};rw[cj] at x0 x1 x2 x3;rw[bi] at e0 cb qt;cases e0;have fy:g<V.heap.size:=by{have⟨_,c',ey⟩:=qd qt (g:=g) rfl;exact (zg ey).1};have gg:g≠Bw:=λe=>Qe qt aa.o.box (by decide) g rfl e;have ad:∀O,bO V.heap.size V (V.alloc O):=λO=>(bC _ V).alloc zl O;have ez:∀O,aC (V.alloc O) (Ad Bw 0)=aV (Sc g (aB z+1) qc):=λO=>cell_later (ad O) cb;have fg:∀O,aD (V.alloc O) (Ad Bw 0)=false:=λO=>(aa.o.box.alloc O).frozen
    have Qmo:(aB z:Int)+1<=(qc:Int):=by
     obtain⟨_,⟨hv,_⟩|⟨g',cap,ch,hv,_,_,h1,_⟩⟩:=qt;{cases hv}
     .cases hv;omega
    have fx:=aA ad;have Qly:=aA qt;have d6:=aA bu;rw[bi] at e2;clear ad qt bu bi cj;have dy:N+2<=Bw:=by{omega};have Qap:=pX.pop dy aa.o;have bn:jl x.1:=(aa.o.inv.okQ x (by simp)).2;have b3:=aa.o.ends x (by simp);have f2:=Qap.bw;have n0:∀v,aC ((V.alloc (aN #[aI x.1.rel,aI x.1.x,aI x.1.y,aM aP x.2] 172)).setCell (Ad Bw 0) v) (Ad V.heap.size 0)=aV (aI x.1.rel):=λv=>(Qv _ _ _ _ _ _ (by omega)).trans (by simp);have n1:∀v,aC ((V.alloc (aN #[aI x.1.rel,aI x.1.x,aI x.1.y,aM aP x.2] 172)).setCell (Ad Bw 0) v) (Ad V.heap.size 1)=aV (aI x.1.x):=λv=>(Qv _ _ _ _ _ _ (by omega)).trans (by simp);have n2:∀v,aC ((V.alloc (aN #[aI x.1.rel,aI x.1.x,aI x.1.y,aM aP x.2] 172)).setCell (Ad Bw 0) v) (Ad V.heap.size 2)=aV (aI x.1.y):=λv=>(Qv _ _ _ _ _ _ (by omega)).trans (by simp);have b8:=wt N (2*aB ks) M x.1 bn _ Qap.md.at';unfold Gd.v Gd.c at b8;have a6:=aA b8;have Qf0:=aA Qap;clear b8 Qap;generalize hql:aB z=ql at *
    cases hMx:M x.1 with
    |some t=>
     have ap:=aa.o.inv.skip (by rw[hMx];rfl);rw[hMx] at a6;have HI:=aA ap;clear ap
     gi_wp2_with (refine⟨trivial,?_⟩;gi_at_call 136;refine (bL.2 a6.o).mono ?_;rintro e V3 ⟨rfl,ai⟩)
     have ag:=kO.below Qf0.o ai;subst hql;refine⟨(aB U-aB ks)*553190425+aB z,by rw[d6.o];simp,z,M,ks,ds,aV ⟨g,0,aW⟩,qc,_,_,_,_,_,_,_,_,_,_,_,_,_,_,_,_,_,_,_,_,_,_,_,_,_,_,_,rfl,⟨ag.box,ag.own,ag.low,ag.shut,ag.md,HI.o,aa.o.nd,aa.o.mem,aa.o.sub,by have:=aa.o.len;rw[aX] at this;simp at this;omega,λy hy=>aa.o.ends y (by simp[hy]),ag.box.lt⟩,rfl⟩
    |none=>
     rw[hMx] at a6;have dr:=aA hMx;clear hMx;have Qg5:Hid (∀V3,kO N Bw w z x M (2*aB ks) ds g qc V.heap.size V3->aC V3 (Ad V.heap.size 0)=aV (aI x.1.rel)/\aC V3 (Ad V.heap.size 1)=aV (aI x.1.x)/\aC V3 (Ad V.heap.size 2)=aV (aI x.1.y)/\aC V3 (Ad V.heap.size 3)=aV (aM aP x.2)):=by{intro V3 h;have:=h.next;refine⟨?_,?_,?_,?_⟩<;>simp[aC,this]};have c4:Hid (∀V3,kO N Bw w z x M (2*aB ks) ds g qc V.heap.size V3->Cs 137 #[.map (aV N),aJ #[aI x.1.rel,aI x.1.x,aI x.1.y,aM aP x.2]] V3 λe' w'=>e'=aO (aL #[])/\kO N Bw w z x (fJ M x.1 x.2) (2*aB ks+2) ds g qc V.heap.size w'/\aC w' (Ad V.heap.size 0)=aV (aI x.1.rel)/\aC w' (Ad V.heap.size 1)=aV (aI x.1.x)/\aC w' (Ad V.heap.size 2)=aV (aI x.1.y)):=by intro V3 h;refine (Hr N N (2*aB ks) M x.1 x.2 bn V3 h.md (by unfold maxLen;omega) (Jn x.2 b3.1 b3.2)).mono ?_;rintro e w' ⟨rfl,h1,h2,h3⟩;have hP:=h.add h2 h3 h1;have:=hP.next;refine⟨rfl,hP,?_,?_,?_⟩<;>simp[aC,this]
     have c2:Hid (∀W,Cs 138 #[.map (aV N),aH C (aB R) E,aJ #[aI x.1.rel,aI x.1.x,aI x.1.y]] W λe w'=>e=aO (.func (.func 189) #[] #[Pt (W.heap.size+1),Pt W.heap.size,Pt (W.heap.size+2)])/\
   w'=((W.alloc (aN #[.map (aV N)] 98)).alloc (aN #[aH C (aB R) E] 75)).alloc (aN #[aI x.1.rel,aI x.1.x,aI x.1.y] 111)):=λW=>DI N _ x.1 W _ _ _ rfl
     gi_wp2_with (first|(refine⟨trivial,?_⟩;gi_at_call 136;refine (bL.2 a6.o).mono ?_;rintro e V3 ⟨rfl,ai⟩;have ag:=kO.below Qf0.o ai;have c0:=aA ag;clear ag;have⟨d0,d1,d2,d3⟩:=Qg5.o V3 c0.o)|(refine⟨trivial,?_⟩;gi_at_call 137;refine (bL.2 (c4.o V3 c0.o)).mono ?_;rintro e V4 ⟨rfl,c7,e6,e7,en⟩;have e3:=aA c7;clear c7)|(refine⟨trivial,?_⟩;gi_at_call 138;refine (bL.2 (c2.o _)).mono ?_;rintro e w' ⟨rfl,rfl⟩))
     obtain⟨Z,ax⟩:∃Z,V4.heap.size=Z:=⟨_,rfl⟩;obtain⟨W7,am⟩:∃W7,((V4.alloc (aN #[.map (aV N)] 98)).alloc (aN #[aH C (aB R) E] 75)).alloc (aN #[aI x.1.rel,aI x.1.x,aI x.1.y] 111)=W7:=⟨_,rfl⟩;have fm:bO V4.heap.size V4 W7:=by{rw[<-am];exact (((bC _ V4).alloc zl _).alloc (by simp) _).alloc (by simp;omega) _};have gc:W7.heap.size=Z+3:=by{rw[<-am,<-ax];simp};have eM:W7.heap[Z]?=cC #[.map (aV N)] 98:=by{rw[<-am,<-ax];exact (bB _ _ _ (by simp;omega)).trans ((bB _ _ _ (by simp)).trans (zn V4 _))};have eL:W7.heap[Z+1]?=cC #[aH C (aB R) E] 75:=by{rw[<-am,<-ax];refine (bB _ _ _ (by simp)).trans ?_;have:=zn (V4.alloc (aN #[.map (aV N)] 98)) (aN #[aH C (aB R) E] 75);rw[aY] at this;exact this};have eG:W7.heap[Z+2]?=aV (aN x.1.c 111):=by{rw[<-am,<-ax];have:=zn ((V4.alloc (aN #[.map (aV N)] 98)).alloc (aN #[aH C (aB R) E] 75)) (aN #[aI x.1.rel,aI x.1.x,aI x.1.y] 111);rw[aY,aY] at this;exact this};have ac:=kO.below e3.o fm;have fo:Qn W7 rb ak an (aH C (aB R) E) R:=Qn.rk HR.o (qf.ofBelow (by rw[hN];exact ac.low));have fl:rU (Z+1) Z (Z+2) N (2*aB ks+2) rb ak an (fJ M x.1 x.2) (aH C (aB R) E) R x.1 W7:=⟨eL,eM,eG,fo,ac.md.at'⟩;have ih:=Cu (14-1) (Z+1) Z (Z+2) N (2*aB ks+2) rb ak an (fJ M x.1 x.2) (aH C (aB R) E) R x.1 W7 fl ab.o.use ab.o.few bn (W7.heap.size+2);have Qiq:x.1∉ks:=λh=>by have:=(aa.o.mem x.1).2 h;rw[dr.o] at this;cases this
     have Qd9:aB (x.1::ks)<=aB U:=wE (x.1::ks) U (bI.2 ⟨Qiq,aa.o.nd⟩) (λy hy=>by
      rcases bJ.1 hy with rfl|hy
      .exact aa.o.inv.inU x (by simp)
      .exact aa.o.sub y hy)
     have gb:aB R*jp (2*aB ks+2)<=553190424:=DN ab.o.few (by simp at Qd9;omega);have Qk9:aB z<=aB q0+aB ks*553190424:=by{have:=aa.o.len;rw[aX] at this;simp at this;omega};have fr:V.heap.size<W7.heap.size:=(zg ac.next).1;have cp:∀d∈ds,d<W7.heap.size:=ac.shut.lt;have f4:N+2<=W7.heap.size:=by{have:=ac.bw;omega};have Ql0:Bw<W7.heap.size:=ac.box.lt;have⟨i0,hi,eu,fk,fe⟩:=info_parts Tryz.infoLast
     (try simp only[ax])
     rw[am];clear am c4 Qg5 c2 n0 n1 n2 d0 d1 d2 d3 e6 e7 en cb ez fb fg x0 x1 x2 x3
     refine nz (n:=14) (gf:=189) (lb:=#[Pt (Z+1),Pt Z,Pt (Z+2)]) rfl (enters_of Tryz.func189 (by kernel_rfl) rfl)
      ih qr.tr (λV' ge o' ho=>qr.put V' _ _ o' (by omega) ho rfl (λ_ _ h=>by cases h)) (λ_=>rfl)
      (λpre V2=>∃v,Boxed V2 Bw 169 v/\aE V2 (N+2) 172 4 v (aB (z++pre.map (λh=>(h.1,x.2)))) ((z++pre.map (λh=>(h.1,x.2))).flatMap qx)/\aF v≠aV V.heap.size/\bO N w V2/\fV (Bw+1) ds V2/\V2.heap[V.heap.size]?=cC #[aI x.1.rel,aI x.1.x,aI x.1.y,aM aP x.2] 172/\qr (W7.heap.size+2) W7 V2)
      (λ_ _ _=>False)
      ?hI2 (λ_ _ _ _ _ h _ _=>h) ⟨_,ac.box,by simpa using ac.own,λe=>by have:=ac.gn;injection e with e;simp at e;omega,ac.low,ac.shut,ac.next,qr.ofBelow zr⟩
      (λh a' V2=>∃Bx,V2.heap[Bx]?=aV (aN h.1.c 111)/\a'={tmps:=#[aH C (aB R) E,aH fa (aB F) fc,undef,undef,.map aW,.map (aV N),Pt Bw,aM aP ql,Pt V.heap.size,Pt Bx,.map (aV N),aH fa (aB F) fc,.func (.func 186) #[] #[Pt (N+1)],aH oa (aB F) oc,be,az,a7,bd,Sc g (ql+1) qc,aM aP (ql+1),aK true,Sc g (ql+1) qc,aM aP (ql+1),aM aP ql,Sc g (ql+1) qc,aM aP ql,.pointer (aV ⟨g,ql*4,aW⟩),aJ #[aI x.1.rel,aI x.1.x,aI x.1.y,aM aP x.2],Sc g (ql+1) qc,aM aP ql,Sc g ql qc,.map (aV N),Pt V.heap.size,aJ #[aI x.1.rel,aI x.1.x,aI x.1.y],aK false,.map (aV N),aJ #[aI x.1.rel,aI x.1.x,aI x.1.y,aM aP x.2],aL #[],.map (aV N),aH C (aB R) E,Pt V.heap.size,aJ #[aI x.1.rel,aI x.1.x,aI x.1.y],.func (.func 189) #[] #[Pt (Z+1),Pt Z,Pt (Z+2)],aJ #[aI h.1.rel,aI h.1.x,aI h.1.y],undef,undef,undef,undef,undef,undef,undef,undef],defers:=[]})
      ?hAx2 ?assign2 ?body2 ?done2 (λ_ _ _ _ _ _ h _=>h.elim)
     case hI2=>rintro pre X X' row ⟨v,j1,j2,j3,j4,j5,j6,j7⟩ hg G;have hk:=qm hg (λr e=>(G r e).2);exact⟨v,hk _ _ _ _ j1,Qc j2 (λg c _ hc=>hk g c _ _ hc),j3,j4.grown hg (by have:=j4.size;omega) (λr e=>by have:=(G r e).1;omega),j5.grown hg (λr e=>(G r e).1) cp,hk _ _ _ _ j6,j7.own hg (λr e=>(G r e).1)⟩
     case hAx2=>rintro h a' _ X X' row ⟨Bx,k2,k3⟩ hg G;exact⟨Bx,qm hg (λr e=>(G r e).2) _ _ _ _ k2,k3⟩
     case assign2=>
      rintro l2 pre h X K e9 ef ⟨v,j1,j2,j3,j4,j5,j6,j7⟩ hK;have HK:=aA hK;clear hK;unfold Gd.v Gd.c
      gi_wp2
      have ad:bO X.heap.size X (X.alloc (aN #[aI h.1.rel,aI h.1.x,aI h.1.y] 111)):=(bC _ X).alloc zl _;exact HK.o _ _ (KeepsFrom.ofBelow ad) (qr.ofBelow ad) ⟨v,j1.alloc _,j2.alloc _,j3,j4.trans (ad.mono (by have:=j7.from'.size;omega)),j5.below ad,(ad.block _ (zg j6).1).trans j6,j7.tr (qr.ofBelow ad)⟩ ⟨X.heap.size,zn X _,rfl⟩
     case done2=>
      rintro D hs X hD ⟨s1,s2⟩ ⟨v,j1,j2,j3,j4,j5,j6,j7⟩ hK;obtain⟨va,vc,rfl⟩:=qq j2;have ee:D∉ds:=λh=>by{have:=cp D h;omega};have ap:=aa.o.inv.add ab.o.arity ab.o.rules ab.o.closed ab.o.okU dr.o (hs:=hs.map (·.1)) (λh=>s1 h);have Qaq:aB (z++hs.map (λh=>(h.1,x.2)))=aB z+aB hs:=by{simp};have Qhv:g9 N X N (2*aB (x.1::ks)) (fJ M x.1 x.2):=by{have:=ac.md.kept j7.maps;rw[aZ];exact this};have ct:(hs.map (·.1)).map (λg=>(g,x.2))=hs.map (λh=>(h.1,x.2)):=by{rw[List.map_map];rfl};rw[ct] at ap
      have ea:pX N Bw (aB q0) w ar R (F++Qx R) U (z++hs.map (λh=>(h.1,x.2))) (fJ M x.1 x.2) (x.1::ks) (D::ds) va vc X:=by
       refine⟨j1,j2,j4,j5.cons (by omega) hK ee,Qhv,ap,bI.2 ⟨Qiq,aa.o.nd⟩,λy=>?_,λy hy=>?_,?_,λy hy=>?_,j1.lt⟩
       .by_cases e:y=x.1;{subst e;rw[pG];simp};{rw[sf e,aa.o.mem];simp[e]}
       .rcases bJ.1 hy with rfl|hy
        .exact aa.o.inv.inU x (by simp)
        .exact aa.o.sub y hy
       .rw[Qaq,aZ,Nat.add_mul,Nat.one_mul];omega
       .rcases bD.1 hy with hy|hy
        .exact aa.o.ends y (by simp[hy])
        .obtain⟨h,_,rfl⟩:=List.mem_map.1 hy;exact b3
      have Qjg:=aA ea
      have cu:(aB U-aB (x.1::ks))*553190425+aB (z++hs.map (λh=>(h.1,x.2)))<gn:=by
       rw[d6.o,Qaq,aX];have e1:aB U-aB ks=(aB U-aB (x.1::ks))+1:=by{simp at Qd9 ⊢;omega};rw[e1,Nat.add_mul,Nat.one_mul];simp;omega
      have Qje:=aA cu;clear ea ap Qhv ct s1 s2 cu Qaq
      gi_wp2
      exact⟨_,Qje.o,_,_,x.1::ks,D::ds,va,vc,_,_,_,_,_,_,_,_,_,_,_,_,_,_,_,_,_,_,_,_,_,_,_,_,_,_,_,rfl,Qjg.o,rfl⟩
     case body2=>
      rintro l2 pre h a' X e9 ⟨fv,eg⟩ ⟨v,j1,j2,j3,j4,j5,j6,j7⟩ ⟨Bx,ew,rfl⟩ f8;obtain⟨va,vc,rfl⟩:=qq j2;have b6:=ew;unfold Gd.c at b6;have r0:∀j,aC X (Ad Bx j)=([aI h.1.rel,aI h.1.x,aI h.1.y]:List Vq)[j]?:=λj=>by{simp[aC,b6]};have r3:aC X (Ad V.heap.size 3)=aV (aM aP x.2):=zc j6;have f7:=j1.cell;have ci:aB (z++pre.map (λh=>(h.1,x.2)))=aB z+aB pre:=by simp
      have fp:aB (z++pre.map (λh=>(h.1,x.2)))<=2000000000000:=by
       rw[ci];have:=Qk7;have e1:aB ks<=2400:=by{simp at Qd9;omega};omega
      have e8:aB (z++pre.map (λh=>(h.1,x.2)))+1<=maxLen:=by{unfold maxLen;omega};have eo:(aB (z++pre.map (λh=>(h.1,x.2)))+1)*56<=140737488355328:=by{omega};have Qlh:Hid (aB (z++(pre++[h]).map (λh=>(h.1,x.2)))=aB (z++pre.map (λh=>(h.1,x.2)))+1):=by{show _=_;simp;omega};have ec:Hid ((z++(pre++[h]).map (λh=>(h.1,x.2))).flatMap qx=(z++pre.map (λh=>(h.1,x.2))).flatMap qx++[aI h.1.rel,aI h.1.x,aI h.1.y,aM aP x.2]):=by{show _=_;rw[List.map_append,<-List.append_assoc,bF];rfl};have ga:N+2<=X.heap.size:=by{have:=j7.from'.size;omega};clear ci fp b6;generalize hus:aB (z++pre.map (λh=>(h.1,x.2)))=un at *;generalize hub:(z++pre.map (λh=>(h.1,x.2))).flatMap qx=uc at *;clear hus hub;have el:Hid (∀w1,(X.alloc (aN #[aI h.1.rel,aI h.1.x,aI h.1.y,aM aP x.2] 172)).grownBy w1 (aF (aH va un vc))->Boxed w1 Bw 169 (aH va un vc)/\dD X w1 (λj=>aV j=aF (aH va un vc))):=by intro w1 hg;have hc:dD X w1 (λj=>aV j=aF (aH va un vc)):=((dD.refl X _).alloc _).grown hg (λk e _=>e.symm);exact⟨(hc.block _ j1.lt (λe=>Qe j2 j1 (by decide) _ e.symm rfl)).trans j1,hc⟩
      gi_wp2_with (gi_at_builtin;refine wpListIn_append_own_at _ rfl _ _ 169 rfl (N+2) 172 i0 (aJ #[aI ⟨#[]⟩,aI ⟨#[]⟩,aI ⟨#[]⟩,aM aP 0]) 4 56 Tryz.underlying169 hi eu fk fe rfl (by decide) _ _ _ rfl (aE.alloc j2 _) ⟨X.heap.size,0,aW⟩ 1 1 [aI h.1.rel,aI h.1.x,aI h.1.y,aM aP x.2] rfl rfl (mF _ _ _ _ _ _) (by simp[Value.oneCell']) e8 eo (by simp;omega) ?_;intro v' w1 af al _ ay;have⟨g',ae,fj⟩:=ownsRow_succ af;subst fj;have⟨a8,ed⟩:=el.o w1 al;have cc:=a8.cell;have ff:=a8.frozen)
      have ah:dD X (w1.setCell (Ad Bw 0) (Sc g' (un+1) ae)) (λj=>j=Bw\/aV j=aF (aH va un vc)):=(ed.mono (λ_ _ e=>aR e)).setCell (Ad Bw 0) _ (λ_=>aQ rfl)
      have d9:∀m',KeepsFrom m' X (w1.setCell (Ad Bw 0) (Sc g' (un+1) ae)):=λm'=>uA ah (λj hj hx=>by
       rcases hx with rfl|hx
       .exact⟨_,_,j1⟩
       .have⟨_,c,hc⟩:=qd j2 hx.symm;exact⟨c,_,hc⟩)
      have b9:∀(k:Nat) (o:Obj),X.heap[k]?=aV o->(∀c fz,o≠aN c 172 fz)->(∀c fz,o≠aN c 169 fz)->(w1.setCell (Ad Bw 0) (Sc g' (un+1) ae)).heap[k]?=aV o:=λk o ho h1 h2=>by
       refine (ah.block k (zg ho).1 (λe=>?_)).trans ho;rcases e with rfl|e
       .have hj:=j1;rw[hj] at ho;cases ho;exact h2 _ _ rfl
       .have⟨_,c,hc⟩:=qd j2 e.symm;rw[hc] at ho;cases ho;exact h1 _ _ rfl
      have c6:∀m',qr m' X (w1.setCell (Ad Bw 0) (Sc g' (un+1) ae)):=λm'=>⟨λk c t ht hk=>b9 k _ hk (λc' fz e=>by cases e;exact ht.2.2.1 rfl) (λc' fz e=>by cases e;exact ht.2.2.2 rfl),λk es c hk=>b9 k _ hk (λ_ _ e=>by cases e) (λ_ _ e=>by cases e),d9 m'⟩;have aj:=ac.bw;have et:V.heap.size<X.heap.size:=by{have:=j7.from'.size;omega};refine⟨d9 _,c6 _,_,lh a8 _,?_,?_,?_,⟨j5.nodup,λd hd=>⟨(j5.at' d hd).1,b9 d _ (j5.at' d hd).2 (λ_ _ e=>by cases e) (λ_ _ e=>by cases e)⟩⟩,?_,j7.tr (c6 _)⟩;{rw[Qlh.o,ec.o];have:=Qk af ⟨Bw,0,aW⟩ (Sc g' (un+1) ae) (Qe af a8 (by decide));simpa using this}
      .rcases ay with ay|ay
       .rw[ay];exact j3
       .rw[ay];intro e;injection e with e;simp at e;omega
      .refine j4.trans ⟨ah.os,ah.tape,ah.output,ah.size,λk hk=>?_⟩;refine ah.block k (by omega) (λe=>?_);rcases e with rfl|e
       .omega
       .have:=(qd j2 e.symm).1;omega
      .refine (ah.block _ et (λe=>?_)).trans j6;rcases e with e|e
       .omega
       .exact j3 e.symm
  |_=>exact False.elim hq
