/- A part -/
import Derived.Test.YtjajnhemgphefaaGreatDoorKMoJ
set_option linter.all false
set_option maxRecDepth 100000
set_option maxHeartbeats 16000000
namespace Go.Proofs.YtjajnhemgphefaaGreatDoor
open Go renaming World->Wq,Value->Vq
open Go.RowKit Go.Shelf Go.Maps
attribute [local go_sem] Oper.semAt_some
variable {N Bw nn g qc Bn:Nat} {W V V':Wq} {q:List (Gd×Int)} {x:Gd×Int} {M:Gd->Option Int} {ds:List Nat}
structure Qcs(ar:By->Nat)(R:List Rl)(F:List (Gd×Int))(U:List Gd):Prop where
 arity:∀r,ar r=1\/ar r=2\/ar r=0
 rules:∀r∈R,qw3 ar r/\r.head.args≠[]
 use:∀r∈R,q26 r
 few:R.length<=8
 facts:∀x∈F++Qo R,qc6 ar x.1/\qik x.1
 inU:∀x∈F++Qo R,x.1∈U
 ends:∀x∈F,0<=x.2/\x.2<=2000000
 closed:∀r∈R,r.body≠[]->∀p:Nms,(∀a∈r.body,qb p a∈U/\qc6 ar (qb p a))->qb p r.head∈U
 okU:∀g∈U,qik g
 small:U.length<=2400
 count:F.length<=1000
theorem Qan{a n:Nat}(ha:a<=8)(hn:n<=4800):a*foN n<=553190424:=by
 have h1:foN n<=foN 4800:=by unfold foN;exact Nat.mul_le_mul_left _ (Nat.pow_le_pow_left (by omega) 2)
 have h2:foN 4800=69148803:=by unfold foN;decide
 have:=Nat.mul_le_mul ha h1;rw[h2] at this;exact this
structure qz8(N Bw n0:Nat)(w:Wq)(ar:By->Nat)(R:List Rl)(FF:List (Gd×Int))(U:List Gd)(q:List (Gd×Int))(M:Gd->Option Int)(ks:List Gd)(ds:List Nat)(qa:Option Addr)(qc:Nat)(V:Wq):Prop where
 box:Boxed V Bw 169 (.slice qa q.length qc)
 own:V.ownsRow (N+2) 172 4 (.slice qa q.length qc) q.length (q.flatMap qr)
 low:Below N w V
 shut:qd5 (Bw+1) ds V
 md:MdL N V N (2*ks.length) M
 inv:qia ar R FF U M q
 nd:ks.Nodup
 mem:∀g,(M g).isSome=true↔g∈ks
 sub:∀g∈ks,g∈U
 len:q.length<=n0+ks.length*553190424
 ends:∀x∈q,0<=x.2/\x.2<=2000000
 bw:Bw < V.heap.size
theorem q1h(h:W.heap[N]?=some (Obj.map #[] 0)):MdL N W N 0 (λ_=>none):=by
 have ho:W.ownsMap Tryz.prog 9 RV N 0 (.map []):=by
  obtain⟨es,c,h1,h2,h3,h4⟩:=World.ownsMap_made (H:=Vq) W Tryz.prog 9 RV;rw[World.alloc_heap_new] at h1;cases h1;exact⟨#[],0,h,h2,h3,h4⟩
 refine⟨.map [],λ_=>none,ho,λrel hr=>⟨λ_=>⟨rfl,λ_ _=>rfl⟩,λb hb=>(by cases hb)⟩,λ_ _ _ h=>(by cases h),λ_ _ h=>(by cases h),Nat.le_refl _,λ_ _ h=>(by cases h)⟩
theorem qyo{b T k n c:Nat}{qa:Option Addr}{xs ys:List Vq}(h:W.ownsRow b T k (.slice qa (n+1) c) (n+1) (xs++ys))(hx:xs.length=n*k):W.ownsRow b T k (.slice qa n c) n xs:=by
 obtain⟨h0,⟨hv,hn⟩ | ⟨g,cap,c8,hv,h1,h2,h3,h4,h5,h6⟩⟩:=h
 .omega
 .cases hv;refine⟨hx,.inr ⟨g,c,c8,rfl,h1,h2,by omega,h4,h5,?_⟩⟩;have:=congrArg (List.take (n*k)) h6;rw[List.take_take,Nat.min_eq_left (Nat.mul_le_mul_right _ (by omega)),<- hx,List.take_left,hx] at this;exact this
theorem qk3(q:List (Gd×Int)):(q.flatMap qr).length=q.length*4:=by
 induction q with
 | nil=>rfl
 | cons x q ih=>rw[List.flatMap_cons,List.length_append,ih,qb7,List.length_cons];omega
structure qg0(N Bw:Nat)(w:Wq)(q:List (Gd×Int))(x:Gd×Int)(M:Gd->Option Int)(nn:Nat)(ds:List Nat)(g qc Bn:Nat)(V:Wq):Prop where
 box:Boxed V Bw 169 (Sc g q.length qc)
 own:V.ownsRow (N+2) 172 4 (Sc g q.length qc) q.length (q.flatMap qr)
 low:Below N w V
 shut:qd5 (Bw+1) ds V
 md:MdL N V N nn M
 next:V.heap[Bn]?=cC #[.string x.1.rel,.string x.1.x,.string x.1.y,.int .i64 x.2] 172
 bw:Bw < Bn
 gn:g < Bn
theorem qg0.below{w:Wq}(h:qg0 N Bw w q x M nn ds g qc Bn V)(hb:Below V.heap.size V V'):qg0 N Bw w q x M nn ds g qc Bn V':=by
 have hN:N<=V.heap.size:=by have:=h.md;obtain⟨D,blk,h1,_⟩:=this;exact Nat.le_of_lt h1.lt
 exact⟨(hb.block _ h.box.lt).trans h.box,qk h.own hb,h.low.trans (hb.mono hN),h.shut.below hb,h.md.kept (λk es c hk=>(hb.block k (zg hk).1).trans hk),(hb.block _ (zg h.next).1).trans h.next,h.bw,h.gn⟩
theorem qz8.pop{n0:Nat}{w:Wq}{ar:By->Nat}{R:List Rl}{FF:List (Gd×Int)}{U:List Gd}{ks:List Gd}(c6:N+2<=Bw)(h:qz8 N Bw n0 w ar R FF U (q++[x]) M ks ds (some ⟨g,0,none⟩) qc V):qg0 N Bw w q x M (2*ks.length) ds g qc V.heap.size ((V.setCell (Ad Bw 0) (Sc g q.length qc)).alloc (.cells #[.string x.1.rel,.string x.1.x,.string x.1.y,.int .i64 x.2] 172)):=by
 have ao:=h.bw;have qq:=h.own;rw[List.length_append,List.flatMap_append] at qq;have eg:=qyo qq (qk3 q);have aq:(V.setCell (Ad Bw 0) (Sc g q.length qc)).heap.size=V.heap.size:=by simp
 have ad:Below V.heap.size (V.setCell (Ad Bw 0) (Sc g q.length qc)) ((V.setCell (Ad Bw 0) (Sc g q.length qc)).alloc (.cells #[.string x.1.rel,.string x.1.x,.string x.1.y,.int .i64 x.2] 172)):=zr.alloc (by omega) _
 have dt:∀(k:Nat) (o:Obj),k≠Bw->V.heap[k]?=some o->((V.setCell (Ad Bw 0) (Sc g q.length qc)).alloc (.cells #[.string x.1.rel,.string x.1.x,.string x.1.y,.int .i64 x.2] 172)).heap[k]?=some o:=λk o fk ho=>
  (ad.block k (zg ho).1).trans ((Below.heap_setCell _ _ _ _ (by show k≠Bw;exact fk)).trans ho)
 have ew:=Qg eg ⟨Bw,0,none⟩ (Sc g q.length qc) (λg' ez=>Qf h.own h.box (by decide) g' ez);refine⟨(qbj h.box _).alloc _,ew.alloc _,?_,⟨h.shut.nodup,λd hd=>⟨(h.shut.at' d hd).1,dt d _ (by have:=(h.shut.at' d hd).1;omega) (h.shut.at' d hd).2⟩⟩,h.md.kept (λk es c hk=>dt k _ (λe=>?_) hk),?_,ao,?_⟩
 .exact (h.low.setCell (p:=⟨Bw,0,none⟩) (by show N<=Bw;omega) _).alloc (by simp;omega) _
 .have:=h.box;rw[e,this] at hk;cases hk
 .have:=zn (V.setCell (Ad Bw 0) (Sc g q.length qc)) (.cells #[.string x.1.rel,.string x.1.x,.string x.1.y,.int .i64 x.2] 172);rw[aq] at this;exact this
 .obtain⟨_,c,hc⟩:=qe h.own (g:=g) rfl;exact (zg hc).1
theorem qg0.add{w:Wq}{M':Gd->Option Int}{de:Nat}(h:qg0 N Bw w q x M nn ds g qc Bn V)(hm:qou V V')(hb:Below N V V')(bc:MdL N V' N de M'):qg0 N Bw w q x M' de ds g qc Bn V':=by
 refine⟨hm.block _ _ h.box (λ_ _ e=>by cases e),qm h.own (λg' hg fy=>?_),h.low.trans hb,⟨h.shut.nodup,λd hd=>⟨(h.shut.at' d hd).1,hm.block _ _ (h.shut.at' d hd).2 (λ_ _ e=>by cases e)⟩⟩,bc,hm.block _ _ h.next (λ_ _ e=>by cases e),h.bw,h.gn⟩;obtain⟨_,c,hc⟩:=qe h.own hg;rw[hc];exact hm.block _ _ hc (λ_ _ e=>by cases e)
theorem Qcf(e:Int)(h0:0<=e)(h1:e<=2000000):(Lit.int .i64 e).wf=true:=by
 simp[Lit.wf,IntKind.min,IntKind.max,IntKind.signed,IntKind.bits];omega
theorem qsi(ar:By->Nat)(R:List Rl)(F:List (Gd×Int))(U:List Gd)(vl vf:Vq)(rb ak al fb:Nat)(w:Wq)(bk:Qcs ar R F U)(hR:Qb w rb ak al vl R)(hF:w.ownsRow fb 172 4 vf F.length (F.flatMap qr)) :
  Cs 75 #[vl,vf] w λe w'=>∃B M,e=.returned (.map (some B))/\MdL w.heap.size w' B 5000 M/\qcv R (F++Qo R) M/\qyj ar M/\Below w.heap.size w w':=by
 obtain⟨la,lc,rfl⟩:=hR.form;obtain⟨fa,fc,rfl⟩:=qo hF;refine (callsIn_wide (n:=14)).1 ?_;refine callsIn_of_wp_marks Tryz.func75 rfl trivial ?_ rfl;simp only[Tryz.ntmps75,List.size_toArray,List.length_cons,List.length_nil,Nat.reduceAdd,Nat.reduceSub,Array.replicate_succ,Array.replicate_zero,List.push_toArray,List.append_toArray,List.nil_append,List.cons_append];have c5:Hid (∀W,Cs 131 #[.slice fa F.length fc] W λe w'=>e=.returned (.func (.func 186) #[] #[Pt W.heap.size])/\w'=W.alloc (.cells #[.slice fa F.length fc] 169)):=λW=>qwp _ W _ _ _ rfl;have hm:=@run_makeMap Tryz.prog;obtain⟨N,hN⟩:∃N,w.heap.size=N:=⟨_,rfl⟩;have b4:Below N w ((w.alloc (.map #[] 0)).alloc (.cells #[.slice fa F.length fc] 169)):=by rw[<- hN];exact ((Below.refl _ w).alloc zl _).alloc (by simp) _
 have d9:Hid (Cs 130 #[.func (.func 186) #[] #[Pt (N+1)],.func (.func 132) #[] #[]] ((w.alloc (.map #[] 0)).alloc (.cells #[.slice fa F.length fc] 169)) λe w'=>∃(oa:Option Addr) (oc:Nat) (ys:List (Gd×Int)),e=.returned (.slice oa F.length oc)/\ys.Perm F/\ys.Pairwise (λa b=>a.2<=b.2)/\w'.ownsRow (N+2) 172 4 (.slice oa F.length oc) ys.length (ys.flatMap qr)/\Below (N+2) ((w.alloc (.map #[] 0)).alloc (.cells #[.slice fa F.length fc] 169)) w'):=by
  have h1:=zn (w.alloc (.map #[] 0)) (.cells #[.slice fa F.length fc] 169);rw[World.size_alloc,hN] at h1;have h2:=qwk (.slice fa F.length fc) F fb (N+1) _ h1 (qk hF (by rw[hN];exact b4)) (by have:=bk.count;omega);refine h2.mono ?_;rintro e w' ⟨v',ys,rfl,hp,hs,ho,hb⟩;obtain⟨oa,oc,b7⟩:=qo ho;have hl:=hp.length_eq;rw[World.size_alloc,World.size_alloc,hN] at ho hb;subst b7;rw[hl] at ho ⊢;exact⟨oa,oc,ys,rfl,hp,hs,by rw[hl];exact ho,hb⟩
 have d8:Hid (∀W,Cs 135 #[.slice la R.length lc] W λe w'=>e=.returned (.func (.func 188) #[] #[Pt W.heap.size])/\w'=W.alloc (.cells #[.slice la R.length lc] 75)):=λW=>q00 _ W _ _ _ rfl;have HR:Hid _:=hR;have ek:Hid _:=b4;have ab:Hid _:=bk;clear hR hF b4 bk
 gi_wp2_with (first | (refine⟨trivial,?_⟩;gi_at_call 131;refine (callsIn_wide.2 (c5.out _)).mono ?_;rintro e w' ⟨rfl,rfl⟩) | (refine⟨trivial,?_⟩;gi_at_call 130;refine (callsIn_wide.2 (d9.out)).mono ?_;rintro e W3 ⟨oa,oc,ys,rfl,hp,hs,ho,aj⟩))
 have b0:ys.length=F.length:=hp.length_eq
 have dh:W3.heap[N]?=some (Obj.map #[] 0):=by
  refine (aj.block N (by omega)).trans ((Below.heap_alloc _ _ _ (by simp;omega)).trans ?_);have:=zn w (.map #[] 0);rw[hN] at this;exact this
 have di:Below N w W3:=(ek.out).trans (aj.mono (by omega));have f2:N+2<=W3.heap.size:=by have:=aj.size;simp at this;omega
 obtain⟨Bw,av⟩:∃Bw,W3.heap.size=Bw:=⟨_,rfl⟩;obtain⟨W4,au⟩:∃W4,W3.alloc (.cells #[.slice oa F.length oc] 169)=W4:=⟨_,rfl⟩;have a7:Below Bw W3 W4:=by rw[<- au,<- av];exact (Below.refl _ W3).alloc zl _
 have cn:W4.heap.size=Bw+1:=by rw[<- au,<- av];simp
 have bW:W4.heap[Bw]?=cC #[.slice oa F.length oc] 169:=by rw[<- au,<- av];exact zn W3 _
 have dw:W4.ownsRow (N+2) 172 4 (.slice oa F.length oc) ys.length (ys.flatMap qr):=qk ho (by rw[av];exact a7);have b8:Below N w W4:=di.trans (a7.mono (by omega));have cm:W4.heap[N]?=some (Obj.map #[] 0):=(a7.block N (by omega)).trans dh;have cw:W4.cell? (Ad Bw 0)=some (.slice oa F.length oc):=zc bW
 (try simp only[av])
 rw[au];clear au di dh aj ho d9 a7;obtain⟨q0,ay⟩:∃q0,ys++Qo R=q0:=⟨_,rfl⟩;obtain⟨Pd,b6⟩:∃Pd:Option Addr->Nat->Wq->Prop,Pd=λqa qc w'=>Boxed w' Bw 169 (.slice qa q0.length qc)/\w'.ownsRow (N+2) 172 4 (.slice qa q0.length qc) q0.length (q0.flatMap qr)/\Below N w w'/\w'.heap[N]?=some (Obj.map #[] 0)/\Bw < w'.heap.size:=⟨_,rfl⟩
 have dc:Hid (∀W5,Below (Bw+1) W4 W5->W5.heap[Bw+1]?=cC #[.slice la R.length lc] 75->Cs 134 #[.slice oa F.length oc,.func (.func 188) #[] #[Pt (Bw+1)]] W5 λe w'=>∃qa qc,e=.returned (.slice qa q0.length qc)/\(∃v,w'.cell? (Ad Bw 0)=some v)/\w'.frozen? (Ad Bw 0)=false/\Pd qa qc (w'.setCell (Ad Bw 0) (.slice qa q0.length qc))):=by
  intro W5 ai Qs;have ft:Bw+1 < W5.heap.size:=(zg Qs).1;have d7:=qk dw (by rw[cn];exact ai);have bu:ys.length+R.length<=2000000000000:=by have:=ab.out.count;have:=ab.out.few;omega
  rw[<- b0];rw[<- b0] at d7;have fe:Qb W5 rb ak al (.slice la R.length lc) R:=Qb.rk HR.out (qf.ofBelow (by rw[hN];exact b8.trans (ai.mono (by omega))));refine (qir (gf:=188) (lb:=#[Pt (Bw+1)]) (.slice oa ys.length oc) ys (N+2) W5 d7 (by omega) bu (enters_of Tryz.func188 (by kernel_rfl) rfl) (λm' n'=>q01 (N+2) (Bw+1) rb ak al _ R W5 Qs fe (λr hr=>⟨(ab.out.use r hr).args,(ab.out.use r hr).nums⟩) ab.out.few m' n')).mono ?_;rintro e w' ⟨v',zs,rfl,hz,bi,dz,dl⟩;have fh:zs=Qo R:=hz;rw[fh,ay] at bi;obtain⟨qa,qc,b7⟩:=qo bi;subst b7;have Qf6:W5.heap[Bw]?=cC #[.slice oa F.length oc] 169:=(ai.block Bw (by omega)).trans bW;have ao:Boxed w' Bw 169 (.slice oa F.length oc):=dl Bw _ (by omega) Qf6 (.inr (λc fz e=>by cases e));have ei:W5.heap[N]?=some (Obj.map #[] 0):=(ai.block N (by omega)).trans cm;have eh:=dl N _ (by omega) ei (.inr (λc fz e=>by cases e));refine⟨qa,qc,rfl,⟨_,ao.cell⟩,ao.frozen,?_⟩;rw[b6];refine⟨qbj ao _,Qg bi ⟨Bw,0,none⟩ _ (Qf bi ao (by decide)),?_,(Below.heap_setCell _ _ _ _ (by show N≠Bw;omega)).trans eh,?_⟩
  .exact ((b8.trans (ai.mono (by omega))).trans (dz.mono (by omega))).setCell (p:=⟨Bw,0,none⟩) (by show N<=Bw;omega) _
  .have:=dz.size;simp;omega
 have HPd:Hid _:=b6
 have Qdu:Hid (∀W,Below (Bw+1) W4 W->W.heap.size=Bw+1->Cs 135 #[.slice la R.length lc] W λe w'=>e=.returned (.func (.func 188) #[] #[Pt (Bw+1)])/\Below (Bw+1) W4 w'/\w'.heap[Bw+1]?=cC #[.slice la R.length lc] 75/\w'.cell? (Ad Bw 0)=some (.slice oa F.length oc)):=by
  intro W hb aq;refine (d8.out W).mono ?_;rintro e w' ⟨rfl,rfl⟩;have h1:=zn W (.cells #[.slice la R.length lc] 75);rw[aq] at h1;have cl:Below (Bw+1) W4 (W.alloc (.cells #[.slice la R.length lc] 75)):=hb.alloc (by omega) _;refine⟨by rw[aq],cl,h1,?_⟩;have h2:=(cl.block Bw (by omega)).trans bW;simp[World.cell?,h2]
 clear d8 b6;refine wpIn_mono (Q:=λe a' w'=>match e with | Exit.normal=>∃qa qc bd bj bh a6,a'={tmps:=#[.slice la R.length lc,.slice fa F.length fc,undef,undef,.map none,.map (some N),Pt Bw,undef,undef,undef,.map (some N),.slice fa F.length fc,.func (.func 186) #[] #[Pt (N+1)],.slice oa F.length oc,bd,bj,bh,a6,undef,undef,undef,undef,undef,undef,undef,undef,undef,undef,undef,undef,undef,undef,undef,undef,undef,undef,undef,undef,undef,undef,undef,undef,undef,undef,undef,undef,undef,undef,undef,undef,undef,undef],defers:=[]}/\Pd qa qc w' | _=>False) ?reg ?rest
 case reg=>
  have Qf3:Hid (Below (Bw+1) W4 W4.drew):=(Below.refl _ W4).drew;have Qg4:Hid (W4.drew.heap.size=Bw+1):=cn;clear b8 cm dw bW HPd HR ab hp hs ay c5 hm
  first | (gi_region_with (first | (refine⟨trivial,?_⟩;(try refine⟨λh=>(by cases h),?_⟩);refine (callsIn_wide.2 (Qdu.out _ Qf3.out Qg4.out)).mono ?_;rintro e W5 ⟨rfl,ai,ev,fw⟩) | (refine⟨trivial,?_⟩;(try refine⟨λh=>(by cases h),?_⟩);refine (callsIn_wide.2 (dc.out W5 ai ev)).mono ?_;rintro e W6 ⟨qa,qc,rfl,⟨cv,ga⟩,f0,bf⟩))) | fail
  all_goals exact⟨qa,qc,_,_,_,_,rfl,bf⟩
 case rest=>
  rintro e a' W6 hq
  cases e with
  | normal=>
   obtain⟨qa,qc,bd,bj,bh,a6,rfl,bf⟩:=hq;rw[HPd.out] at bf;clear dc HPd Qdu
   gi_wp2
   obtain⟨pb,po,pl,pm,e2⟩:=bf
   have dm:q0.Pairwise (λa b=>a.2<=b.2):=by
    rw[<- ay];refine List.pairwise_append.2 ⟨hs,?_,λa ha b hb=>?_⟩
    .have:∀x∈Qo R,x.2=2000000:=λx hx=>by
      obtain⟨r,_,hr⟩:=List.mem_filterMap.1 hx;split at hr
      .cases hr;rfl
      .cases hr
     exact List.pairwise_of_forall_mem_list (λa ha b hb=>by rw[this a ha,this b hb];exact Int.le_refl _)
    .obtain⟨r,_,hr⟩:=List.mem_filterMap.1 hb;split at hr
     .cases hr;exact (ab.out.ends a (hp.mem_iff.1 ha)).2
     .cases hr
   have b3:∀x,x∈q0↔x∈F++Qo R:=λx=>by
    rw[<- ay,List.mem_append,List.mem_append,hp.mem_iff]
   have cj:∀x∈q0,0<=x.2/\x.2<=2000000:=λx hx=>by
    rcases List.mem_append.1 ((b3 x).1 hx) with h | h
    .exact ab.out.ends x h
    .obtain⟨r,_,hr⟩:=List.mem_filterMap.1 h;split at hr
     .cases hr;exact⟨(by show (0:Int)<=2000000;decide),(by show (2000000:Int)<=2000000;decide)⟩
     .cases hr
   have Qg1:q0.length<=1008:=by
    rw[<- ay,List.length_append,b0];have h1:(Qo R).length<=R.length:=List.length_filterMap_le _ _;have:=ab.out.count;have:=ab.out.few;omega
   have cq:qz8 N Bw q0.length w ar R (F++Qo R) U q0 (λ_=>none) [] [] qa qc W6:=⟨pb,po,pl,qd5.nil _ _,q1h pm,qia.first dm b3 ab.out.facts ab.out.inU,List.nodup_nil,λg=>by simp,by simp,by simp,cj,e2⟩;have fr:Qb W6 rb ak al (.slice la R.length lc) R:=Qb.rk HR.out (qf.ofBelow (by rw[hN];exact pl));clear pb po pl pm dm b3 cj hs hp;refine wpIn_loop_ghost (λn A V=>∃(q:List (Gd×Int)) (M:Gd->Option Int) (ks:List Gd) (ds:List Nat) (qa:Option Addr) (qc:Nat) (u7 u8 cx d4 cr c0 c3 c4 dp dk df du c9 ca c7 cd cz ck ce dr co da cg dx d6 dv ch:Vq),A={tmps:=#[.slice la R.length lc,.slice fa F.length fc,undef,undef,.map none,.map (some N),Pt Bw,u7,u8,undef,.map (some N),.slice fa F.length fc,.func (.func 186) #[] #[Pt (N+1)],.slice oa F.length oc,bd,bj,bh,a6,cx,d4,cr,c0,c3,c4,dp,dk,df,du,c9,ca,c7,cd,cz,ck,ce,dr,co,da,cg,dx,d6,dv,ch,undef,undef,undef,undef,undef,undef,undef,undef,undef],defers:=qe1 ds}/\Hid (qz8 N Bw q0.length w ar R (F++Qo R) U q M ks ds qa qc V)/\n=(U.length - ks.length)*553190425+q.length) _ ⟨q0,_,[],[],qa,qc,_,_,_,_,_,_,_,_,_,_,_,_,_,_,_,_,_,_,_,_,_,_,_,_,_,_,_,rfl,cq,rfl⟩ ?_;rintro gn A V ⟨q,M,ks,ds,qa,qc,u7,u8,cx,d4,cr,c0,c3,c4,dp,dk,df,du,c9,ca,c7,cd,cz,ck,ce,dr,co,da,cg,dx,d6,dv,ch,rfl,aa,bv⟩;clear cq;have gc:ks.length<=U.length:=qqa ks U aa.out.nd aa.out.sub;have hU:=ab.out.small;have et:q.length<=1400000000000:=by have:=aa.out.len;omega
   have cb:=aa.out.box.cell;have fb:=aa.out.box.frozen;rcases List.eq_nil_or_concat q with rfl | ⟨q',x,dg⟩
   .have q7:=aa.out.inv.done;have bc:=aa.out.md;have c1:=aa.out.inv.okM;have dj:=aa.out.low;have bb:=aa.out.shut;have HF:Hid _:=q7;have HM:Hid _:=bc;have HO:Hid _:=c1;clear q7 bc c1 aa bv
    gi_wp2
    show LeavesInM Fence.wide 14 Tryz.prog _ _ _ (qe1 ds) .returning V;refine qep ds V bb.nodup (λD hD=>(bb.at' D hD).2) (λW' hc aq=>?_)
    have fi:MdL w.heap.size W' N 5000 M:=by
     rw[hN];refine (MdL.kept HM.out (λk es c hk=>(hc.block k (zg hk).1 (λe=>?_)).trans hk)).mono (by omega);rw[(bb.at' k e).2] at hk;cases hk
    refine⟨_,results_tmp rfl _ _ _,N,M,rfl,fi,HF.out,HO.out,?_⟩;rw[hN];refine dj.trans ⟨hc.os,hc.tape,hc.output,hc.size,λk hk=>hc.block k (by have:=dj.size;omega) (λe=>?_)⟩;have:=(bb.at' k e).1;omega
   .rw[List.concat_eq_append] at dg;subst dg;have bo:(q'++[x]).length=q'.length+1:=by simp
    have qq:=aa.out.own;obtain⟨g,c,e0,x0,x1,x2,x3⟩:=qsh qq (k:=q'.length) (by simp);have b9:(q'++[x])[q'.length]'(by simp)=x:=by simp
    rw[b9] at x0 x1 x2 x3;rw[bo] at e0 cb qq;cases e0
    have f5:g < V.heap.size:=by
     obtain⟨_,c',eu⟩:=qe qq (g:=g) rfl;exact (zg eu).1
    have f7:g≠Bw:=λe=>Qf qq aa.out.box (by decide) g rfl e;have ad:∀O,Below V.heap.size V (V.alloc O):=λO=>(Below.refl _ V).alloc zl O;have ed:∀O,(V.alloc O).cell? (Ad Bw 0)=some (Sc g (q'.length+1) qc):=λO=>cell_later (ad O) cb;have e6:∀O,(V.alloc O).frozen? (Ad Bw 0)=false:=λO=>(aa.out.box.alloc O).frozen
    have Qh8:(q'.length:Int)+1<=(qc:Int):=by
     obtain⟨_,⟨hv,_⟩ | ⟨g',cap,c8,hv,_,_,h1,_⟩⟩:=qq
     .cases hv
     .cases hv;omega
    have fv:Hid _:=ad;have Qhn:Hid _:=qq;have dd:Hid _:=bv;rw[bo] at et;clear ad qq bv bo b9;have c6:N+2<=Bw:=by omega
    have a9:=qz8.pop c6 aa.out;have bn:qik x.1:=(aa.out.inv.okQ x (by simp)).2;have bt:=aa.out.ends x (by simp);have fs:=a9.bw;have n0:∀v,((V.alloc (.cells #[.string x.1.rel,.string x.1.x,.string x.1.y,.int .i64 x.2] 172)).setCell (Ad Bw 0) v).cell? (Ad V.heap.size 0)=some (.string x.1.rel):=λv=>(qbn _ _ _ _ _ _ (by omega)).trans (by simp);have n1:∀v,((V.alloc (.cells #[.string x.1.rel,.string x.1.x,.string x.1.y,.int .i64 x.2] 172)).setCell (Ad Bw 0) v).cell? (Ad V.heap.size 1)=some (.string x.1.x):=λv=>(qbn _ _ _ _ _ _ (by omega)).trans (by simp);have n2:∀v,((V.alloc (.cells #[.string x.1.rel,.string x.1.x,.string x.1.y,.int .i64 x.2] 172)).setCell (Ad Bw 0) v).cell? (Ad V.heap.size 2)=some (.string x.1.y):=λv=>(qbn _ _ _ _ _ _ (by omega)).trans (by simp);have bq:=qzj N (2*ks.length) M x.1 bn _ a9.md.at';unfold Gd.v Gd.c at bq;have a8:Hid _:=bq;have Qcm:Hid _:=a9;clear bq a9;generalize hql:q'.length=ql at *
    cases hMx:M x.1 with
    | some t=>
     have ap:=aa.out.inv.skip (by rw[hMx];rfl);rw[hMx] at a8;have HI:Hid _:=ap;clear ap
     gi_wp2_with (refine⟨trivial,?_⟩;gi_at_call 136;refine (callsIn_wide.2 a8.out).mono ?_;rintro e V3 ⟨rfl,aj⟩)
     have ag:=qg0.below Qcm.out aj;subst hql;refine⟨(U.length - ks.length)*553190425+q'.length,by rw[dd.out];simp,q',M,ks,ds,some ⟨g,0,none⟩,qc,_,_,_,_,_,_,_,_,_,_,_,_,_,_,_,_,_,_,_,_,_,_,_,_,_,_,_,rfl,⟨ag.box,ag.own,ag.low,ag.shut,ag.md,HI.out,aa.out.nd,aa.out.mem,aa.out.sub,by have:=aa.out.len;rw[List.length_append] at this;simp at this;omega,λy hy=>aa.out.ends y (by simp[hy]),ag.box.lt⟩,rfl⟩
    | none=>
     rw[hMx] at a8;have c2:Hid _:=hMx;clear hMx
     have Qdj:Hid (∀V3,qg0 N Bw w q' x M (2*ks.length) ds g qc V.heap.size V3->V3.cell? (Ad V.heap.size 0)=some (.string x.1.rel)/\V3.cell? (Ad V.heap.size 1)=some (.string x.1.x)/\V3.cell? (Ad V.heap.size 2)=some (.string x.1.y)/\V3.cell? (Ad V.heap.size 3)=some (.int .i64 x.2)):=by
      intro V3 h;have:=h.next;refine⟨?_,?_,?_,?_⟩ <;> simp[World.cell?,this]
     have cu:Hid (∀V3,qg0 N Bw w q' x M (2*ks.length) ds g qc V.heap.size V3->Cs 137 #[.map (some N),.agg #[.string x.1.rel,.string x.1.x,.string x.1.y,.int .i64 x.2]] V3 λe' w'=>e'=.returned (.tuple #[])/\qg0 N Bw w q' x (qdn M x.1 x.2) (2*ks.length+2) ds g qc V.heap.size w'/\w'.cell? (Ad V.heap.size 0)=some (.string x.1.rel)/\w'.cell? (Ad V.heap.size 1)=some (.string x.1.x)/\w'.cell? (Ad V.heap.size 2)=some (.string x.1.y)):=by
      intro V3 h;refine (Qac N N (2*ks.length) M x.1 x.2 bn V3 h.md (by unfold maxLen;omega) (Qcf x.2 bt.1 bt.2)).mono ?_;rintro e w' ⟨rfl,h1,h2,h3⟩;have hP:=h.add h2 h3 h1;have:=hP.next;refine⟨rfl,hP,?_,?_,?_⟩ <;> simp[World.cell?,this]
     have cp:Hid (∀W,Cs 138 #[.map (some N),.slice la R.length lc,.agg #[.string x.1.rel,.string x.1.x,.string x.1.y]] W λe w'=>e=.returned (.func (.func 189) #[] #[Pt (W.heap.size+1),Pt W.heap.size,Pt (W.heap.size+2)])/\
   w'=((W.alloc (.cells #[.map (some N)] 98)).alloc (.cells #[.slice la R.length lc] 75)).alloc (.cells #[.string x.1.rel,.string x.1.x,.string x.1.y] 111)):=λW=>qxn N _ x.1 W _ _ _ rfl
     gi_wp2_with (first | (refine⟨trivial,?_⟩;gi_at_call 136;refine (callsIn_wide.2 a8.out).mono ?_;rintro e V3 ⟨rfl,aj⟩;have ag:=qg0.below Qcm.out aj;have ci:Hid _:=ag;clear ag;obtain⟨d0,d1,d2,d3⟩:=Qdj.out V3 ci.out) | (refine⟨trivial,?_⟩;gi_at_call 137;refine (callsIn_wide.2 (cu.out V3 ci.out)).mono ?_;rintro e V4 ⟨rfl,cf,ea,ec,ee⟩;have eo:Hid _:=cf;clear cf) | (refine⟨trivial,?_⟩;gi_at_call 138;refine (callsIn_wide.2 (cp.out _)).mono ?_;rintro e w' ⟨rfl,rfl⟩))
     obtain⟨VN,az⟩:∃VN,V4.heap.size=VN:=⟨_,rfl⟩;obtain⟨W7,am⟩:∃W7,((V4.alloc (.cells #[.map (some N)] 98)).alloc (.cells #[.slice la R.length lc] 75)).alloc (.cells #[.string x.1.rel,.string x.1.x,.string x.1.y] 111)=W7:=⟨_,rfl⟩;have em:Below V4.heap.size V4 W7:=by rw[<- am];exact (((Below.refl _ V4).alloc zl _).alloc (by simp) _).alloc (by simp;omega) _
     have fx:W7.heap.size=VN+3:=by rw[<- am,<- az];simp
     have eM:W7.heap[VN]?=cC #[.map (some N)] 98:=by
      rw[<- am,<- az];exact (Below.heap_alloc _ _ _ (by simp;omega)).trans ((Below.heap_alloc _ _ _ (by simp)).trans (zn V4 _))
     have eL:W7.heap[VN+1]?=cC #[.slice la R.length lc] 75:=by
      rw[<- am,<- az];refine (Below.heap_alloc _ _ _ (by simp)).trans ?_;have:=zn (V4.alloc (.cells #[.map (some N)] 98)) (.cells #[.slice la R.length lc] 75);rw[World.size_alloc] at this;exact this
     have eG:W7.heap[VN+2]?=some (Obj.cells x.1.c 111):=by
      rw[<- am,<- az];have:=zn ((V4.alloc (.cells #[.map (some N)] 98)).alloc (.cells #[.slice la R.length lc] 75)) (.cells #[.string x.1.rel,.string x.1.x,.string x.1.y] 111);rw[World.size_alloc,World.size_alloc] at this;exact this
     have ac:=qg0.below eo.out em;have e9:Qb W7 rb ak al (.slice la R.length lc) R:=Qb.rk HR.out (qf.ofBelow (by rw[hN];exact ac.low));have fst:q2t (VN+1) VN (VN+2) N (2*ks.length+2) rb ak al (qdn M x.1 x.2) (.slice la R.length lc) R x.1 W7:=⟨eL,eM,eG,e9,ac.md.at'⟩;have ih:=qxo (14 - 1) (VN+1) VN (VN+2) N (2*ks.length+2) rb ak al (qdn M x.1 x.2) (.slice la R.length lc) R x.1 W7 fst ab.out.use ab.out.few bn (W7.heap.size+2);have Qer:x.1∉ks:=λh=>by have:=(aa.out.mem x.1).2 h;rw[c2.out] at this;cases this
     have Qa4:(x.1::ks).length<=U.length:=qqa (x.1::ks) U (List.nodup_cons.2 ⟨Qer,aa.out.nd⟩) (λy hy=>by
      rcases List.mem_cons.1 hy with rfl | hy
      .exact aa.out.inv.inU x (by simp)
      .exact aa.out.sub y hy)
     have f6:R.length*foN (2*ks.length+2)<=553190424:=Qan ab.out.few (by simp at Qa4;omega);have Qg2:q'.length<=q0.length+ks.length*553190424:=by have:=aa.out.len;rw[List.length_append] at this;simp at this;omega
     have fq:V.heap.size < W7.heap.size:=(zg ac.next).1;have dn:∀d∈ds,d < W7.heap.size:=ac.shut.lt;have fp:N+2<=W7.heap.size:=by have:=ac.bw;omega
     have Qhq:Bw < W7.heap.size:=ac.box.lt;obtain⟨i0,hi,e7,el,eb⟩:=info_parts Tryz.infoLast
     (try simp only[az])
     rw[am];clear am cu Qdj cp n0 n1 n2 d0 d1 d2 d3 ea ec ee cb ed fb e6 x0 x1 x2 x3
     refine qd1 (n:=14) (gf:=189) (lb:=#[Pt (VN+1),Pt VN,Pt (VN+2)]) rfl (enters_of Tryz.func189 (by kernel_rfl) rfl)
      ih qn.tr (λV' f1 o' ho=>qn.put V' _ _ o' (by omega) ho rfl (λ_ _ h=>by cases h)) (λ_=>rfl)
      (λpre V2=>∃v,Boxed V2 Bw 169 v/\V2.ownsRow (N+2) 172 4 v (q'++pre.map (λh=>(h.1,x.2))).length ((q'++pre.map (λh=>(h.1,x.2))).flatMap qr)/\v.ownBlock≠some V.heap.size/\Below N w V2/\qd5 (Bw+1) ds V2/\V2.heap[V.heap.size]?=cC #[.string x.1.rel,.string x.1.x,.string x.1.y,.int .i64 x.2] 172/\qn (W7.heap.size+2) W7 V2)
      (λ_ _ _=>False)
      ?hI2 (λ_ _ _ _ _ h _ _=>h) ⟨_,ac.box,by simpa using ac.own,λe=>by have:=ac.gn;injection e with e;simp at e;omega,ac.low,ac.shut,ac.next,qn.ofBelow zr⟩
      (λh a' V2=>∃Bx,V2.heap[Bx]?=some (Obj.cells h.1.c 111)/\a'={tmps:=#[.slice la R.length lc,.slice fa F.length fc,undef,undef,.map none,.map (some N),Pt Bw,.int .i64 ql,Pt V.heap.size,Pt Bx,.map (some N),.slice fa F.length fc,.func (.func 186) #[] #[Pt (N+1)],.slice oa F.length oc,bd,bj,bh,a6,Sc g (ql+1) qc,.int .i64 (ql+1),.bool true,Sc g (ql+1) qc,.int .i64 (ql+1),.int .i64 ql,Sc g (ql+1) qc,.int .i64 ql,.pointer (some ⟨g,ql*4,none⟩),.agg #[.string x.1.rel,.string x.1.x,.string x.1.y,.int .i64 x.2],Sc g (ql+1) qc,.int .i64 ql,Sc g ql qc,.map (some N),Pt V.heap.size,.agg #[.string x.1.rel,.string x.1.x,.string x.1.y],.bool false,.map (some N),.agg #[.string x.1.rel,.string x.1.x,.string x.1.y,.int .i64 x.2],.tuple #[],.map (some N),.slice la R.length lc,Pt V.heap.size,.agg #[.string x.1.rel,.string x.1.x,.string x.1.y],.func (.func 189) #[] #[Pt (VN+1),Pt VN,Pt (VN+2)],.agg #[.string h.1.rel,.string h.1.x,.string h.1.y],undef,undef,undef,undef,undef,undef,undef,undef],defers:=[]})
      ?hAx2 ?assign2 ?body2 ?done2 (λ_ _ _ _ _ _ h _=>h.elim)
     case hI2=>
      rintro pre X X' row ⟨v,j1,j2,j3,j4,j5,j6,j7⟩ hg hr;have hk:=qj hg (λr e=>(hr r e).2);exact⟨v,hk _ _ _ _ j1,q8 j2 (λg c _ hc=>hk g c _ _ hc),j3,j4.grown hg (by have:=j4.size;omega) (λr e=>by have:=(hr r e).1;omega),j5.grown hg (λr e=>(hr r e).1) dn,hk _ _ _ _ j6,j7.own hg (λr e=>(hr r e).1)⟩
     case hAx2=>
      rintro h a' _ X X' row ⟨Bx,k2,k3⟩ hg hr;exact⟨Bx,qj hg (λr e=>(hr r e).2) _ _ _ _ k2,k3⟩
     case assign2=>
      rintro l2 pre h X K e8 ey ⟨v,j1,j2,j3,j4,j5,j6,j7⟩ hK;have HK:Hid _:=hK;clear hK;unfold Gd.v Gd.c
      gi_wp2
      have ad:Below X.heap.size X (X.alloc (.cells #[.string h.1.rel,.string h.1.x,.string h.1.y] 111)):=(Below.refl _ X).alloc zl _;exact HK.out _ _ (KeepsFrom.ofBelow ad) (qn.ofBelow ad) ⟨v,j1.alloc _,j2.alloc _,j3,j4.trans (ad.mono (by have:=j7.from'.size;omega)),j5.below ad,(ad.block _ (zg j6).1).trans j6,j7.tr (qn.ofBelow ad)⟩ ⟨X.heap.size,zn X _,rfl⟩
     case done2=>
      rintro D hs X hD ⟨s1,s2⟩ ⟨v,j1,j2,j3,j4,j5,j6,j7⟩ hK;obtain⟨va,vc,rfl⟩:=qo j2;have ej:D∉ds:=λh=>by have:=dn D h;omega
      have ap:=aa.out.inv.add ab.out.arity ab.out.rules ab.out.closed ab.out.okU c2.out (hs:=hs.map (·.1)) (λh=>s1 h);have Qbd:(q'++hs.map (λh=>(h.1,x.2))).length=q'.length+hs.length:=by simp
      have Qd4:MdL N X N (2*(x.1::ks).length) (qdn M x.1 x.2):=by
       have:=ac.md.kept j7.maps;rw[List.length_cons];exact this
      have cy:(hs.map (·.1)).map (λg=>(g,x.2))=hs.map (λh=>(h.1,x.2)):=by rw[List.map_map];rfl
      rw[cy] at ap
      have ct:qz8 N Bw q0.length w ar R (F++Qo R) U (q'++hs.map (λh=>(h.1,x.2))) (qdn M x.1 x.2) (x.1::ks) (D::ds) va vc X:=by
       refine⟨j1,j2,j4,j5.cons (by omega) hK ej,Qd4,ap,List.nodup_cons.2 ⟨Qer,aa.out.nd⟩,λy=>?_,λy hy=>?_,?_,λy hy=>?_,j1.lt⟩
       .by_cases e:y=x.1
        .subst e;rw[qfo];simp
        .rw[qmn e,aa.out.mem];simp[e]
       .rcases List.mem_cons.1 hy with rfl | hy
        .exact aa.out.inv.inU x (by simp)
        .exact aa.out.sub y hy
       .rw[Qbd,List.length_cons,Nat.add_mul,Nat.one_mul];omega
       .rcases List.mem_append.1 hy with hy | hy
        .exact aa.out.ends y (by simp[hy])
        .obtain⟨h,_,rfl⟩:=List.mem_map.1 hy;exact bt
      have Qff:Hid _:=ct
      have db:(U.length - (x.1::ks).length)*553190425+(q'++hs.map (λh=>(h.1,x.2))).length < gn:=by
       rw[dd.out,Qbd,List.length_append];have e1:U.length - ks.length=(U.length - (x.1::ks).length)+1:=by simp at Qa4 ⊢;omega
       rw[e1,Nat.add_mul,Nat.one_mul];simp;omega
      have Qfe:Hid _:=db;clear ct ap Qd4 cy s1 s2 db Qbd
      gi_wp2
      exact⟨_,Qfe.out,_,_,x.1::ks,D::ds,va,vc,_,_,_,_,_,_,_,_,_,_,_,_,_,_,_,_,_,_,_,_,_,_,_,_,_,_,_,rfl,Qff.out,rfl⟩
     case body2=>
      rintro l2 pre h a' X e8 ⟨fo,e4⟩ ⟨v,j1,j2,j3,j4,j5,j6,j7⟩ ⟨Bx,e5,rfl⟩ gb;obtain⟨va,vc,rfl⟩:=qo j2;have ax:=e5;unfold Gd.c at ax;have r0:X.cell? (Ad Bx 0)=some (.string h.1.rel):=zc ax
      have r1:X.cell? (Ad Bx 1)=some (.string h.1.x):=zc ax
      have r2:X.cell? (Ad Bx 2)=some (.string h.1.y):=zc ax
      have r3:X.cell? (Ad V.heap.size 3)=some (.int .i64 x.2):=zc j6
      have f9:=j1.cell;have dq:(q'++pre.map (λh=>(h.1,x.2))).length=q'.length+pre.length:=by simp
      have fj:(q'++pre.map (λh=>(h.1,x.2))).length<=2000000000000:=by
       rw[dq];have:=Qg1;have e1:ks.length<=2400:=by simp at Qa4;omega
       omega
      have fm:(q'++pre.map (λh=>(h.1,x.2))).length+1<=maxLen:=by unfold maxLen;omega
      have en:((q'++pre.map (λh=>(h.1,x.2))).length+1)*56<=140737488355328:=by omega
      have Qg8:Hid ((q'++(pre++[h]).map (λh=>(h.1,x.2))).length=(q'++pre.map (λh=>(h.1,x.2))).length+1):=by show _=_;simp;omega
      have ef:Hid ((q'++(pre++[h]).map (λh=>(h.1,x.2))).flatMap qr=(q'++pre.map (λh=>(h.1,x.2))).flatMap qr++[.string h.1.rel,.string h.1.x,.string h.1.y,.int .i64 x.2]):=by
       show _=_;rw[List.map_append,<- List.append_assoc,List.flatMap_append];rfl
      have f8:N+2<=X.heap.size:=by have:=j7.from'.size;omega
      clear dq fj ax;generalize hus:(q'++pre.map (λh=>(h.1,x.2))).length=un at *;generalize hub:(q'++pre.map (λh=>(h.1,x.2))).flatMap qr=uc at *;clear hus hub
      have fl:Hid (∀w1,(X.alloc (.cells #[.string h.1.rel,.string h.1.x,.string h.1.y,.int .i64 x.2] 172)).grownBy w1 (Value.slice va un vc).ownBlock->Boxed w1 Bw 169 (.slice va un vc)/\Chg X w1 (λj=>some j=(Value.slice va un vc).ownBlock)):=by
       intro w1 hg;have hc:Chg X w1 (λj=>some j=(Value.slice va un vc).ownBlock):=((Chg.refl X _).alloc _).grown hg (λk e _=>e.symm);exact⟨(hc.block _ j1.lt (λe=>Qf j2 j1 (by decide) _ e.symm rfl)).trans j1,hc⟩
      gi_wp2_with (gi_at_builtin;refine wpListIn_append_own_at _ rfl _ _ 169 rfl (N+2) 172 i0 (.agg #[.string ⟨#[]⟩,.string ⟨#[]⟩,.string ⟨#[]⟩,.int .i64 0]) 4 56 Tryz.underlying169 hi e7 el eb rfl (by decide) _ _ _ rfl (World.ownsRow.alloc j2 _) ⟨X.heap.size,0,none⟩ 1 1 [.string h.1.rel,.string h.1.x,.string h.1.y,.int .i64 x.2] rfl rfl (qb1 _ _ _ _ _ _) (by simp[Value.oneCell']) fm en (by simp;omega) ?_;intro v' w1 af an _ aw;obtain⟨g',ae,ep⟩:=ownsRow_succ af;subst ep;obtain⟨be,fg⟩:=fl.out w1 an;have cc:=be.cell;have ff:=be.frozen)
      have ah:Chg X (w1.setCell (Ad Bw 0) (Sc g' (un+1) ae)) (λj=>j=Bw\/some j=(Value.slice va un vc).ownBlock):=(fg.mono (λ_ _ e=>.inr e)).setCell (Ad Bw 0) _ (λ_=>.inl rfl)
      have d5:∀m',KeepsFrom m' X (w1.setCell (Ad Bw 0) (Sc g' (un+1) ae)):=λm'=>qjb ah (λj hj hx=>by
       rcases hx with rfl | hx
       .exact⟨_,_,j1⟩
       .obtain⟨_,c,hc⟩:=qe j2 hx.symm;exact⟨c,_,hc⟩)
      have b5:∀(k:Nat) (o:Obj),X.heap[k]?=some o->(∀c fz,o≠Obj.cells c 172 fz)->(∀c fz,o≠Obj.cells c 169 fz)->(w1.setCell (Ad Bw 0) (Sc g' (un+1) ae)).heap[k]?=some o:=λk o ho h1 h2=>by
       refine (ah.block k (zg ho).1 (λe=>?_)).trans ho;rcases e with rfl | e
       .have hj:=j1;rw[hj] at ho;cases ho;exact h2 _ _ rfl
       .obtain⟨_,c,hc⟩:=qe j2 e.symm;rw[hc] at ho;cases ho;exact h1 _ _ rfl
      have dy:∀m',qn m' X (w1.setCell (Ad Bw 0) (Sc g' (un+1) ae)):=λm'=>⟨λk c t ht hk=>b5 k _ hk (λc' fz e=>by cases e;exact ht.2.2.1 rfl) (λc' fz e=>by cases e;exact ht.2.2.2 rfl),λk es c hk=>b5 k _ hk (λ_ _ e=>by cases e) (λ_ _ e=>by cases e),d5 m'⟩;have ai:=ac.bw;have e3:V.heap.size < X.heap.size:=by have:=j7.from'.size;omega
      refine⟨d5 _,dy _,_,qbj be _,?_,?_,?_,⟨j5.nodup,λd hd=>⟨(j5.at' d hd).1,b5 d _ (j5.at' d hd).2 (λ_ _ e=>by cases e) (λ_ _ e=>by cases e)⟩⟩,?_,j7.tr (dy _)⟩
      .rw[Qg8.out,ef.out];have:=Qg af ⟨Bw,0,none⟩ (Sc g' (un+1) ae) (Qf af be (by decide));simpa using this
      .rcases aw with aw | aw
       .rw[aw];exact j3
       .rw[aw];intro e;injection e with e;simp at e;omega
      .refine j4.trans ⟨ah.os,ah.tape,ah.output,ah.size,λk hk=>?_⟩;refine ah.block k (by omega) (λe=>?_);rcases e with rfl | e
       .omega
       .have:=(qe j2 e.symm).1;omega
      .refine (ah.block _ e3 (λe=>?_)).trans j6;rcases e with e | e
       .omega
       .exact j3 e.symm
  | _=>exact False.elim hq
