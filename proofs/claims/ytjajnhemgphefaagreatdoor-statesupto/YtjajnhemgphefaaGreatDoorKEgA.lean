/- A part -/
import Derived.Test.YtjajnhemgphefaaGreatDoorKTake2
set_option linter.all false
set_option maxRecDepth 100000
set_option maxHeartbeats 4000000
namespace Go.Proofs.YtjajnhemgphefaaGreatDoor
open Go renaming World->Wq,Value->Vq
open Go.RowKit Go.Shelf
attribute [local go_sem] Oper.semAt_some
variable {aa bS bp N A t1 ag ai D:Nat} {W W':Wq} {s:PSt} {y z:Vq}
theorem qol(s:By)(i:Nat):(Utf8.decode s i).2<=4:=by
 unfold Utf8.decode;dsimp only
 repeat' split
 all_goals simp
theorem qmh(s:By):∀f ad,s.size<=ad+f->s.size<=ad+4*Lib.runeCountFrom s f ad
 | 0,ad,h=>by simp[Lib.runeCountFrom];omega
 | f+1,ad,h=>by
  unfold Lib.runeCountFrom;split
  .rename_i hp;have h1:=Lib.decode_width_pos s ad hp;have h2:=qol s ad;have:=qmh s f (ad+(Utf8.decode s ad).2) (by omega);omega
  .omega
theorem qdv(s:By):s.size<=4*Lib.runeCount s:=by
 have:=qmh s s.size 0 (by omega);unfold Lib.runeCount;omega
theorem qgx(s:By)(w:Wq)(hs:s.size < 9223372036854775807) :
  Cs 95 #[St s] w λe w'=>e=.returned (Ii (Lib.runeCount s))/\∃ad,w'=w.alloc (.stringIter s ad):=Tryz.utf8_RuneCountInString s w hs
theorem PAt.keptAll(h:PAt aa bS W bp s)(hk:∀(k:Nat) (c:Array Vq) (t:TypeId),W.heap[k]?=cC c t->W'.heap[k]?=cC c t)(ak:W.heap.size<=W'.heap.size):PAt aa bS W' bp s:=by
 obtain⟨vr,va,vv,ag,ai,h1,h2,h3,h4,h5,h6,h7,hh,hV,hR,ps,e1,e2,e3,e4⟩:=h
 exact⟨vr,va,vv,ag,ai,h1,h2,Nat.le_trans h3 ak,Nat.le_trans h4 ak,h5,h6,Nat.le_trans h7 ak,hk _ _ _ hh,q8 hV (λg c _ hc=>hk g c _ hc),hR.kept (λg c _ hc=>hk g c _ hc) (λk c _ hc=>hk k c _ hc) (λk c _ hc=>hk k c _ hc),
  ps,e1,q8 e2 (λg c _ hc=>hk g c _ hc),λp hp=>(e3 p hp).kept (λk c _ hc=>hk k c _ hc),λp hp=>q8 (e4 p hp) (λg c _ hc=>hk g c _ hc)⟩
theorem qj{row:Option Nat}(hg:W.grownBy W' row)(hr:∀r,row=some r->∃o:Obj,W.heap[r]?=some o/\o.isCells=false) :
  ∀(k:Nat) (c:Array Vq) (t:TypeId) (fz:Nat×Nat),W.heap[k]?=some (Obj.cells c t fz)->W'.heap[k]?=some (Obj.cells c t fz):=by
 intro k c t fz hk;rw[hg.block k (zg hk).1 (λe=>?_)]
 .exact hk
 .obtain⟨o,ho,hc⟩:=hr k e.symm;rw[hk] at ho;cases ho;simp[Obj.isCells] at hc
theorem qa6{w:Wq}(h:Below N w W)(hN:w.heap.size=N):N<=W.heap.size:=by have:=h.size;omega
theorem qbj{B:Nat}{t:TypeId}{v:Vq}(h:Boxed W B t v)(u:Vq):Boxed (W.setCell (Ad B 0) u) B t u:=Qd h 0 u
theorem qz0{t2:Nat}(h1:Boxed W A t1 y)(h2:Boxed W (A+1) t2 z)(b c:Vq) :
  Boxed ((W.setCell (Ad A 0) b).setCell (Ad (A+1) 0) c) A t1 b/\Boxed ((W.setCell (Ad A 0) b).setCell (Ad (A+1) 0) c) (A+1) t2 c/\
  Chg W ((W.setCell (Ad A 0) b).setCell (Ad (A+1) 0) c) (λj=>j=A\/j=A+1)/\KeepsOthers W ((W.setCell (Ad A 0) b).setCell (Ad (A+1) 0) c):=by
 refine⟨(qbj h1 b).other (by omega) _,qbj (h2.other (by omega) _) c,?_,?_⟩
 .exact ((Chg.refl W _).setCell (Ad A 0) b (λ_=>.inl rfl)).setCell (Ad (A+1) 0) c (λ_=>.inr rfl)
 .exact (KeepsOthers.setCell _ _ _).trans (KeepsOthers.setCell _ _ _)
theorem Qb.keep{v:Vq}{l:List Rl}(h:Qb W aa ag ai v l)(hk:∀(k:Nat) (c:Array Vq) (t:TypeId),(t=136\/t=92\/t=166)->W.heap[k]?=cC c t->W'.heap[k]?=cC c t):Qb W' aa ag ai v l:=
 h.kept (λg c _ hc=>hk g c _ (.inl rfl) hc) (λk c _ hc=>hk k c _ (.inr (.inl rfl)) hc) (λk c _ hc=>hk k c _ (.inr (.inr rfl)) hc)
theorem qr7{W2:Wq}{t2:Nat}(h1:Boxed W2 A t1 y)(h2:Boxed W2 (A+1) t2 z)(hK:W2.heap[D]?=some (.deferred (some []))) :
  (W2.putObj D (.deferred none)).cell? (Ad A 0)=some y/\(W2.putObj D (.deferred none)).cell? (Ad (A+1) 0)=some z/\
  ∀(k:Nat) (c:Array Vq) (t:TypeId) (fz:Nat×Nat),W2.heap[k]?=some (Obj.cells c t fz)->(W2.putObj D (.deferred none)).heap[k]?=some (Obj.cells c t fz):=by
 have hk:=qj (grownBy_putObj' W2 D (.deferred none)) (λr e=>by cases e;exact⟨_,hK,rfl⟩);exact⟨Boxed.cell (t:=t1) (hk _ _ _ _ h1),Boxed.cell (t:=t2) (hk _ _ _ _ h2),hk⟩
theorem qjq{w:Wq}{o:Obj}(h:Below N w W)(hN:N<=D)(ak:N<=W.heap.size):Below N w (W.putObj D o):=
 h.grown (grownBy_putObj' W D o) ak (λk e=>by cases e;exact hN)
theorem q79{t2:Nat}(h1:Boxed W A t1 y)(h2:Boxed W (A+1) t2 z){k:Nat}{c:Array Vq}{t:TypeId}(hk:W.heap[k]?=cC c t)(a1:t≠t1)(a2:t≠t2):¬(k=A\/k=A+1):=by
 unfold Boxed at h1 h2;rintro (rfl | rfl)
 .rw[hk] at h1;cases h1;exact a1 rfl
 .rw[hk] at h2;cases h2;exact a2 rfl
theorem PAt.keptT(h:PAt aa bS W bp s)(hk:∀(k:Nat) (c:Array Vq) (t:TypeId),t=179\/t=136\/t=92\/t=166\/t=9->W.heap[k]?=cC c t->W'.heap[k]?=cC c t)(ak:W.heap.size<=W'.heap.size):PAt aa bS W' bp s:=by
 obtain⟨vr,va,vv,ag,ai,h1,h2,h3,h4,h5,h6,h7,hh,hV,hR,ps,e1,e2,e3,e4⟩:=h
 exact⟨vr,va,vv,ag,ai,h1,h2,Nat.le_trans h3 ak,Nat.le_trans h4 ak,h5,h6,Nat.le_trans h7 ak,hk _ _ _ (by simp) hh,q8 hV (λg c _ hc=>hk g c _ (by simp) hc),hR.kept (λg c _ hc=>hk g c _ (by simp) hc) (λk c _ hc=>hk k c _ (by simp) hc) (λk c _ hc=>hk k c _ (by simp) hc),
  ps,e1,q8 e2 (λg c _ hc=>hk g c _ (by simp) hc),λp hp=>(e3 p hp).kept (λk c _ hc=>hk k c _ (by simp) hc),λp hp=>q8 (e4 p hp) (λg c _ hc=>hk g c _ (by simp) hc)⟩
def qio(s:By)(aa bp:Nat)(w:Wq)(e:Ending)(w':Wq):Prop:=
 Below aa w w'/\match Q2 qb2 (qcr s.size s 0) with
 | (_,some (c,p))=>e=.returned (.tuple #[Ii c,Ii p])
 | (st,none)=>e=.returned (.tuple #[Ii 0,Ii 0])/\qmp st/\∃bS,PAt aa bS w' bp st
theorem qml(s:By)(bp:Nat)(w:Wq)(hs:s.size<=4611686018427387904)(ae:300 < Lib.runeCount s) :
  Cs 90 #[Pt bp,St s] w λe w'=>e=.returned (.tuple #[Ii 1,Ii 0])/\Below w.heap.size w w':=by
 have hl:(300:Int) < (Lib.runeCount s:Int):=by omega
 refine (callsIn_wide (n:=6)).1 ?_;refine callsIn_of_wp_marks Tryz.func90 rfl trivial ?_ rfl;simp only[Tryz.ntmps90,List.size_toArray,List.length_cons,List.length_nil,Nat.reduceAdd,Nat.reduceSub,Array.replicate_succ,Array.replicate_zero,List.push_toArray,List.append_toArray,List.nil_append,List.cons_append]
 gi_wp2_with (refine⟨trivial,?_⟩;gi_at_call 95;refine (callsIn_wide.2 (qgx _ _ (by omega))).mono ?_;rintro e w' ⟨rfl,ad,rfl⟩)
 refine⟨.tuple #[Ii 1,Ii 0],by simp[results,Tryz.results90,go_sem],rfl,?_⟩;exact ((((zr.alloc zl _).alloc (by simp) _).alloc (by simp;omega) _).alloc (by simp;omega) _)
theorem qko(s:By)(ao:Wq)(aa bp:Nat)(w:Wq)(ac:Lib.runeCount s<=300)(hT:Lib.Utf8Tabs 0 1 ao)(ay:ao.heap.size=aa)(a8:Below aa ao w)(ap:aa<=bp)(bc:w.heap[bp]?=cC #[Ii 0,.slice none 0 0,.slice none 0 0,.slice none 0 0] 179) :
  Cs 90 #[Pt bp,St s] w (qio s aa bp w):=by
 have hs:s.size<=1200:=by have:=qdv s;omega
 have hl:decide ((300:Int) < (Lib.runeCount s:Int))=false:=by simp;omega
 have Qf5:bp < w.heap.size:=(zg bc).1;have cg:aa<=w.heap.size:=by omega
 refine (callsIn_wide (n:=6)).1 ?_;refine callsIn_of_wp_marks Tryz.func90 rfl trivial ?_ rfl;simp only[Tryz.ntmps90,List.size_toArray,List.length_cons,List.length_nil,Nat.reduceAdd,Nat.reduceSub,Array.replicate_succ,Array.replicate_zero,List.push_toArray,List.append_toArray,List.nil_append,List.cons_append]
 gi_wp2_with (first | (refine⟨trivial,?_⟩;gi_at_call 95;refine (callsIn_wide.2 (qgx _ _ (by omega))).mono ?_;rintro e w' ⟨rfl,ad,rfl⟩) | (refine⟨trivial,?_⟩;gi_at_call 96;refine (callsIn_wide.2 (q67 _ _)).mono ?_;rintro e w' ⟨rfl,rfl⟩))
 have ck:Lib.runeCount s<=s.size:=Lib.runeCount_le s;generalize hrc:Lib.runeCount s=rc at *;have cm:Hid (Lib.runeCount s=rc):=hrc;clear hrc;obtain⟨N,hN⟩:∃N,w.heap.size=N:=⟨_,rfl⟩;obtain⟨W0,am⟩:∃W0,(((((w.alloc (.cells #[Pt bp] 268)).alloc (.cells #[Ii 0] 23)).alloc (.cells #[Ii 0] 3)).alloc (.stringIter s ad)).alloc (.cells #[St s] 9))=W0:=⟨_,rfl⟩;have ak:W0.heap.size=N+5:=by rw[<- am,<- hN];simp
 have be:Below w.heap.size w W0:=by
  rw[<- am];exact ((((zr.alloc zl _).alloc (by simp) _).alloc (by simp;omega) _).alloc (by simp;omega) _).alloc (by simp;omega) _
 have bj:Below aa w W0:=be.mono cg
 have b0:Boxed W0 N 268 (Pt bp):=by
  rw[<- am,<- hN];exact ((((Boxed.new w _ _).alloc _).alloc _).alloc _).alloc _
 have b1:Boxed W0 (N+1) 23 (Ii 0):=by
  have:=(((Boxed.new (w.alloc (.cells #[Pt bp] 268)) 23 (Ii 0)).alloc (.cells #[Ii 0] 3)).alloc (.stringIter s ad)).alloc (.cells #[St s] 9);rw[World.size_alloc,hN,am] at this;exact this
 have b2:Boxed W0 (N+1+1) 3 (Ii 0):=by
  have:=((Boxed.new ((w.alloc (.cells #[Pt bp] 268)).alloc (.cells #[Ii 0] 23)) 3 (Ii 0)).alloc (.stringIter s ad)).alloc (.cells #[St s] 9);rw[World.size_alloc,World.size_alloc,hN,am] at this;exact this
 have b5:Boxed W0 (N+4) 9 (St s):=by
  have:=Boxed.new ((((w.alloc (.cells #[Pt bp] 268)).alloc (.cells #[Ii 0] 23)).alloc (.cells #[Ii 0] 3)).alloc (.stringIter s ad)) 9 (St s);simp only[World.size_alloc] at this;rw[hN,am] at this;exact this
 have b6:PAt aa (N+5) W0 bp qb2:=⟨_,_,_,aa,aa,Nat.le_refl _,Nat.le_refl _,by omega,by omega,ap,by omega,by omega,(be.block bp Qf5).trans bc,zo,⟨[],rfl,zo,by simp⟩,[],rfl,zo,by simp,by simp⟩;simp only[hN];rw[am];clear am bc;have ca:Below ao.heap.size ao W0:=by rw[ay];exact a8.trans bj
 refine wpIn_rangeFunc_ownH rfl (by decide) (gf:=158) (lb:=#[Pt (N+4)]) rfl trivial (enters_of Tryz.func158 (by kernel_rfl) rfl)
  (q0b 5 (by decide) (N+4) s hs ao hT W0 ca (by omega) b5.cell) qct.tr (qct.put (by omega)) zr (λ_=>rfl)
  (λpre W=>∃st,Q2 qb2 pre=(st,none)/\qmp st/\PAt aa (N+5) W bp st/\Boxed W N 268 (Pt bp)/\Boxed W (N+1) 23 (Ii 0)/\Boxed W (N+1+1) 3 (Ii 0)/\Below aa w W/\N<=W.heap.size)
  (λc pre W=>c=.ret/\∃(st:PSt) (aj:List Tok) (x:Tok),pre=aj++[x]/\Q2 qb2 aj=(st,none)/\(qae st x.kind x.text x.runes).1≠0/\Boxed W (N+1) 23 (Ii (qae st x.kind x.text x.runes).1)/\Boxed W (N+1+1) 3 (Ii x.place)/\Below aa w W/\N<=W.heap.size)
  ?hI ?hIx ?h0
  (λx a' W=>∃Bx,W.heap[Bx]?=cC (qeh x.kind x.text x.place x.runes) 191/\a'={tmps:=#[Pt bp,St s,Pt N,undef,Pt (N+1),Pt (N+1+1),Pt Bx,undef,St s,Ii rc,.bool false,St s,.func (.func 158) #[] #[Pt (N+1+1+1+1)],x.v,undef,undef,undef,undef,undef,undef,undef,undef],defers:=[]})
  ?hAx ?assign ?body ?done ?stop
 case hI=>
  rintro pre W W' row ⟨st,h1,h2,h3,h4,h5,h6,h7,h8⟩ hg hr;have hk:=qj hg (λr e=>(hr r e).2);exact⟨st,h1,h2,h3.keptAll (λk c t h=>hk k c t _ h) hg.size,hk _ _ _ _ h4,hk _ _ _ _ h5,hk _ _ _ _ h6,h7.grown hg (by omega) (λk e=>by have:=(hr k e).1;omega),Nat.le_trans h8 hg.size⟩
 case hIx=>
  rintro c pre W W' row ⟨rfl,st,aj,x,h1,h2,h3,h5,h6,h7,h8⟩ hg hr;have hk:=qj hg (λr e=>(hr r e).2);exact⟨rfl,st,aj,x,h1,h2,h3,hk _ _ _ _ h5,hk _ _ _ _ h6,h7.grown hg (by omega) (λk e=>by have:=(hr k e).1;omega),Nat.le_trans h8 hg.size⟩
 case h0=>exact⟨qb2,rfl,⟨by decide,by decide,by simp[qb2],λ_=>rfl,λh=>absurd rfl h,λh=>absurd rfl h,by simp[qb2],by simp[qb2]⟩,b6,b0,b1,b2,bj,by omega⟩
 case hAx=>
  rintro x a' _ W W' row ⟨Bx,h2,h3⟩ hg hr;exact⟨Bx,qj hg (λr e=>(hr r e).2) _ _ _ _ h2,h3⟩
 case assign=>
  rintro l pre x W K ⟨st,h1,h2,h3,h4,h5,h6,h7,h8⟩ hK;have HK:Hid _:=hK;clear hK;unfold Tok.v qbk qeh
  gi_wp2
  have bo:Below W.heap.size W (W.alloc (.cells #[Ii x.kind,St x.text,Ii x.place,Ii x.runes] 191)):=(Below.refl _ W).alloc zl _;refine HK.out _ _ ((KeepsOthers.alloc _ _).from _) ⟨bo.mono (by omega),λk c fz hk=>(Below.heap_alloc _ _ _ (zg hk).1).trans hk⟩ ⟨st,h1,h2,h3.below bo,h4.alloc _,h5.alloc _,h6.alloc _,h7.alloc (by omega) _,by simp;omega⟩ ⟨W.heap.size,zn W _,rfl⟩
 case body=>
  rintro l pre x a' W hl ⟨r,hr⟩ ⟨st,h1,h2,h3,h4,h5,h6,h7,h8⟩ ⟨Bx,aw,rfl⟩ cj;have HT:=Qca aa (N+5) bp st x.kind x.text x.ok x.place x.runes W h3 h2;generalize hts:qae st x.kind x.text x.runes=ts at HT;obtain⟨ec,bk⟩:=ts;have kp:=h4.cell;have k0:W.cell? (Ad Bx 0)=some (Ii x.kind):=by simp[World.cell?,aw,qeh]
  have k1:W.cell? (Ad Bx 1)=some (St x.text):=by simp[World.cell?,aw,qeh]
  have k2:W.cell? (Ad Bx 2)=some (Ii x.place):=by simp[World.cell?,aw,qeh]
  have k3:W.cell? (Ad Bx 3)=some (Ii x.runes):=by simp[World.cell?,aw,qeh]
  unfold qbk qeh at HT;have av:Hid (qae st x.kind x.text x.runes=(ec,bk)):=hts;have H1:Hid (Q2 qb2 pre=(st,none)):=h1;clear hts h1
  gi_wp2_with fail
  refine⟨trivial,?_⟩;refine (CallsIn.inRound l (callsIn_wide.2 HT)).mono ?_;rintro e W1 ⟨rfl,b4,al⟩
  have aq:∀(B:Nat) (c:Array Vq) (t:TypeId),t≠179->t≠136->t≠92->t≠166->t≠9->W.heap[B]?=cC c t->W1.heap[B]?=cC c t:=by
   intro B c t a1 a2 a3 a4 a5 hB;exact al.same B _ hB (λc' t' cd e=>by cases e;exact⟨a1,a2,a3,a4,a5⟩)
  have g4:Boxed W1 N 268 (Pt bp):=aq _ _ _ (by decide) (by decide) (by decide) (by decide) (by decide) h4;have g5:Boxed W1 (N+1) 23 (Ii 0):=aq _ _ _ (by decide) (by decide) (by decide) (by decide) (by decide) h5;have g6:Boxed W1 (N+1+1) 3 (Ii 0):=aq _ _ _ (by decide) (by decide) (by decide) (by decide) (by decide) h6;have gx:=aq _ _ _ (by decide) (by decide) (by decide) (by decide) (by decide) aw;have bb:KeepsFrom W0.heap.size W W1:=⟨al.low.size,λk o _ hk ho=>al.same k o hk (λc t fz e=>by subst e;simp[Obj.isCells] at ho)⟩;have ci:qct ao.heap.size W W1:=⟨by rw[ay];exact al.low,λk c fz hk=>al.same k _ hk (λc' t' cd e=>by cases e;exact⟨by decide,by decide,by decide,by decide,by decide⟩)⟩;have bf:Below aa w W1:=h7.trans al.low;have bn:N<=W1.heap.size:=Nat.le_trans h8 al.low.size;by_cases bd:ec=0
  .subst bd;clear al aq HT
   gi_wp2
   refine⟨bb,ci,bk,?_,?_,b4,g4,g5,g6,bf,bn⟩
   .rw[qlv _ _ _ _ H1.out];simp[Q2,av.out]
   .have:=qsy st x.kind x.text x.runes x.ok h2 (by rw[av.out]);rw[av.out] at this;exact this
  .have Qhw:(ec == 0)=false:=by simp[bd]
   have c5:=g5.cell;have c6:=g6.cell;have f5:=g5.frozen;have f6:=g6.frozen;have cx:W1.cell? (Ad Bx 2)=some (Ii x.place):=by simp[World.cell?,gx,qeh]
   have n1:N+1≠Bx:=by intro e;subst e;unfold Boxed at g5;rw[gx] at g5;simp at g5
   have n2:N+1+1≠Bx:=by intro e;subst e;unfold Boxed at g6;rw[gx] at g6;simp at g6
   clear al aq HT k0 k1 k2 k3 kp
   gi_wp2
   gi_region
   all_goals
    gi_wp2
    obtain⟨t1,t2,tc,tk⟩:=qz0 g5 g6 (Ii ec) (Ii x.place);refine⟨⟨Nat.le_trans bb.size tk.size,λk o hk ho hc=>tk.same k o (bb.same k o hk ho hc) hc⟩,rfl,st,pre,x,rfl,H1.out,by rw[av.out];exact bd,by rw[av.out];exact t1,t2,(bf.trans (tc.below (by omega) (λk e=>by omega))).drew,?_⟩;exact Nat.le_trans bn tc.size
 case done=>
  rintro D xs W hD rfl ⟨st,h1,h2,h3,h4,h5,h6,h7,h8⟩ hK;have c5:=h5.cell;have c6:=h6.cell;have f5:=h5.frozen;have f6:=h6.frozen;have H1:Hid (Q2 qb2 (qcr s.size s 0)=(st,none)):=h1;clear h1
  gi_wp2
  obtain⟨t1,t2,tc,tk⟩:=qz0 h5 h6 (Ii 0) (Ii 0);refine⟨by simp,.inl ⟨_,_,rfl,run_takeDeferred (tk.same D _ hK rfl),?_⟩⟩;obtain⟨d1,d2,dk⟩:=qr7 t1 t2 (tk.same D _ hK rfl);refine⟨.tuple #[Ii 0,Ii 0],by simp[results,Tryz.results90,go_sem,d1,d2],?_⟩;have bv:=qjq (D:=D) (o:=.deferred none) (h7.trans (tc.below (by omega) (λk e=>by omega))) (by omega) (Nat.le_trans (by omega) tc.size);refine⟨bv,?_⟩;rw[H1.out];refine⟨rfl,h2,N+5,h3.keptT (λk c t ht hc=>dk k c t _ ?_) (Nat.le_trans tc.size (grownBy_putObj' _ D _).size)⟩;rw[tc.block k (zg hc).1 (q79 h5 h6 hc (by rcases ht with rfl | rfl | rfl | rfl | rfl <;> decide) (by rcases ht with rfl | rfl | rfl | rfl | rfl <;> decide))];exact hc
 case stop=>
  rintro D c pre W hD cf ⟨rfl,st,aj,x,rfl,h1,h2,h5,h6,h7,h8⟩ hK
  have bt:Hid (Q2 qb2 (qcr s.size s 0)=(st,some ((qae st x.kind x.text x.runes).1,x.place))):=by
   show _=_;obtain⟨tl,bu⟩:=cf;rw[<- bu,List.append_assoc,qlv _ _ _ _ h1];simp[Q2,h2]
  generalize (qae st x.kind x.text x.runes).1=ec at *
  gi_wp2
  refine⟨by simp,.inl ⟨_,_,rfl,run_takeDeferred hK,?_⟩⟩;obtain⟨d1,d2,dk⟩:=qr7 h5 h6 hK;refine⟨.tuple #[Ii ec,Ii x.place],by simp[results,Tryz.results90,go_sem,d1,d2],?_⟩;refine⟨qjq h7 (by omega) (by omega),?_⟩;rw[bt.out]
theorem qys(s:By)(w:Wq)(hs:s.size<=4611686018427387904)(ae:300 < Lib.runeCount s) :
  Cs 60 #[St s] w λe w'=>e=.returned (.tuple #[.slice none 0 0,Ii 1,Ii 0])/\Below w.heap.size w w':=by
 have h:Hid (∀bp W,Cs 90 #[Pt bp,St s] W λe w'=>e=.returned (.tuple #[Ii 1,Ii 0])/\Below W.heap.size W w'):=λbp W=>qml s bp W hs ae;go_enter Tryz.func60,Tryz.ntmps60
 go_wp2_with (go_at_call 90;refine (h.out _ _).mono ?_;rintro e w' ⟨rfl,hb⟩)
 go_ret3
 exact⟨rfl,((Below.refl _ w).alloc zl _).trans (hb.mono (by simp))⟩
def qrt(s:By)(w:Wq)(e:Ending)(w':Wq):Prop:=
 Below w.heap.size w w'/\match qd0 s with
  | .error (c,p)=>e=.returned (.tuple #[.slice none 0 0,Ii c,Ii p])
  | .ok rs=>∃v ag ai,e=.returned (.tuple #[v,Ii 0,Ii 0])/\w.heap.size<=ag/\w.heap.size<=ai/\Qb w' w.heap.size ag ai v rs/\rs.length<=8/\∀r∈rs,qch r
theorem qwb(s:By)(w:Wq)(ac:Lib.runeCount s<=300)(hT:Lib.Utf8Tabs 0 1 w) :
  Cs 60 #[St s] w (qrt s w):=by
 have hs:s.size<=1200:=by have:=qdv s;omega
 have af:Hid (∀O,O=Obj.cells #[Ii 0,.slice none 0 0,.slice none 0 0,.slice none 0 0] 179 (0,0)->Cs 90 #[Pt w.heap.size,St s] (w.alloc O) (qio s w.heap.size w.heap.size (w.alloc O))):=by
  rintro O rfl;exact qko s w w.heap.size w.heap.size _ ac hT rfl ((Below.refl _ w).alloc zl _) zl (zn w _)
 have hB:Hid (∀O W',Below w.heap.size (w.alloc O) W'->Below w.heap.size w W'):=λO W' h=>((Below.refl _ w).alloc zl O).trans h;have ab:Hid (qd0 s=match Q2 qb2 (qcr s.size s 0) with | (_,some ep)=>.error ep | (st,none)=>if st.st=0 then .ok st.rules else .error (2,Lib.runeCount s)):=rfl;unfold qio at af;unfold qrt;rcases hfo:Q2 qb2 (qcr s.size s 0) with⟨st,_ | ⟨c,p⟩⟩
 .rw[hfo] at ab af;simp only at ab af;by_cases h0:st.st=0
  .rw[if_pos h0] at ab;rw[ab.out];clear hfo;go_enter Tryz.func60,Tryz.ntmps60;go_wp2_with fail;refine (af.out _ rfl).mono ?_;rintro e W1 ⟨ah,rfl,hI,bS,hP⟩;obtain⟨vr,va,vv,ag,ai,h1,h2,h4,h5,h6,ax,au,hh,hV,hR,_⟩:=hP;rw[h0] at hh;have c0:W1.cell? (Ad w.heap.size 0)=some (Ii 0):=zc hh
   have c1:W1.cell? (Ad w.heap.size 1)=some vr:=zc hh
   obtain⟨ra,rc,rfl⟩:∃a c,vr=.slice a st.rules.length c:=by
    obtain⟨qs,q1,q2,q3⟩:=hR;obtain⟨a,c,e⟩:=qo q2;exact⟨a,c,by rw[e,<- q1];simp⟩
   have HF:Hid _:=And.intro (And.intro h1 h2) (And.intro hR hI);have HB:Hid _:=ah;clear h1 h2 h4 h5 h6 ax au hV hR hI hh ah;go_wp2
   go_ret3
   exact⟨hB.out _ _ HB.out,_,ag,ai,rfl,HF.out.1.1,HF.out.1.2,HF.out.2.1,HF.out.2.2.rules,HF.out.2.2.good⟩
  .rw[if_neg h0] at ab;rw[ab.out];clear hfo;have cb:(st.st == 0)=false:=by simp[h0]
   go_enter Tryz.func60,Tryz.ntmps60;go_wp2_with fail;refine (af.out _ rfl).mono ?_;rintro e W1 ⟨ah,rfl,hI,bS,hP⟩;have c0:=hP.cell0.1;have HB:Hid _:=ah;clear hP hI ah
   go_wp2_with (go_at_call 95;refine (qgx _ _ (by omega)).mono ?_;rintro e w' ⟨rfl,ad,rfl⟩)
   go_ret3
   exact⟨(hB.out _ _ HB.out).alloc (by have:=HB.out.size;simp at this;omega) _,rfl⟩
 .rw[hfo] at ab af;simp only at ab af;rw[ab.out];have a6:c≠0:=qjs _ _ _ _ _ hfo;have b3:(c == 0)=false:=by simp[a6]
  clear hfo a6;go_enter Tryz.func60,Tryz.ntmps60
  go_wp2_with (go_at_call 90;refine (af.out _ rfl).mono ?_;rintro e W1 ⟨ah,rfl⟩)
  go_ret3
  exact⟨hB.out _ _ ah,rfl⟩
def qcx(s:By):Option Am:=
 if 300 < Lib.runeCount s then none
 else match Q2 qb2 (qcr s.size s 0) with
  | (_,some _)=>none
  | (st,none)=>if st.st=5/\st.rules=[] then st.atoms.head? else none
def qfp(s:By)(w:Wq)(e:Ending)(w':Wq):Prop:=
 Below w.heap.size w w'/\match qcx s with
  | none=>e=.returned (.tuple #[.agg #[St ⟨#[]⟩,.slice none 0 0],.bool false])
  | some a=>∃va,e=.returned (.tuple #[.agg #[St a.rel,va],.bool true])/\qkr a/\Qi w' w'.heap.size va a.args
def qif(W:Wq)(N:Nat)(x:By)(v:Vq):Wq:=(W.setCell (Ad N 0) (St x)).setCell (Ad N 1) v
theorem qjf{w:Wq}(h:Below N w W)(x:By)(v:Vq):Below N w (qif W N x v):=
 (h.setCell (p:=⟨N,0,none⟩) zl _).setCell (p:=⟨N,1,none⟩) zl _
theorem qqg(W:Wq)(N:Nat)(x:By)(v:Vq):(qif W N x v).heap.size=W.heap.size:=by simp[qif]
theorem qoa(W:Wq)(N:Nat)(x:By)(v:Vq){k:Nat}(h:k≠N):(qif W N x v).heap[k]?=W.heap[k]?:=
 (Below.heap_setCell _ _ _ _ (by show k≠N;exact h)).trans (Below.heap_setCell _ _ _ _ (by show k≠N;exact h))
theorem q27{w:Wq}(hN:w.heap.size=N)(hb:Below (N+1) (w.alloc (.cells #[St ⟨#[]⟩,.slice none 0 0] 92)) W) :
  W.heap[N]?=cC #[St ⟨#[]⟩,.slice none 0 0] 92:=by
 have:=zn w (.cells #[St ⟨#[]⟩,.slice none 0 0] 92);rw[hN] at this;exact (hb.block N (by omega)).trans this
theorem qrq(s:By)(w:Wq)(hs:s.size<=4611686018427387904)(ae:300 < Lib.runeCount s) :
  Cs 49 #[St s] w (qfp s w):=by
 obtain⟨N,hN⟩:∃N,w.heap.size=N:=⟨_,rfl⟩
 have h:Hid (∀O,Cs 90 #[Pt (N+1),St s] ((w.alloc (.cells #[St ⟨#[]⟩,.slice none 0 0] 92)).alloc O) λe w'=>e=.returned (.tuple #[Ii 1,Ii 0])/\Below (N+1) (w.alloc (.cells #[St ⟨#[]⟩,.slice none 0 0] 92)) w'):=λO=>by
  refine (qml s _ _ hs ae).mono ?_;rintro e w' ⟨h1,h2⟩;exact⟨h1,(zr.alloc (by simp;omega) O).trans (h2.mono (by simp;omega))⟩
 have ha:Hid (qcx s=none):=by show _=_;unfold qcx;rw[if_pos ae]
 unfold qfp;rw[ha.out];have ap:Below N w (w.alloc (.cells #[St ⟨#[]⟩,.slice none 0 0] 92)):=(Below.refl _ w).alloc (by omega) _;have HN:Hid _:=hN;go_enter Tryz.func49,Tryz.ntmps49
 go_wp2_with (go_at_call 90;refine (h.out _).mono ?_;rintro e W1 ⟨rfl,hb⟩;have p1:=q27 HN.out hb;have q0:W1.cell? (Ad N 0)=some (St ⟨#[]⟩):=(by simp[World.cell?,p1]);have y0:W1.frozen? (Ad N 0)=false:=(by simp[World.frozen?,p1]);have q1:W1.cell? (Ad N 1)=some (.slice none 0 0):=(by simp[World.cell?,p1]);have y1:W1.frozen? (Ad N 1)=false:=(by simp[World.frozen?,p1]))
 refine bodyPost_ret (v:=.tuple #[.agg #[St ⟨#[]⟩,.slice none 0 0],.bool false]) (by simp[results,Tryz.results49,go_sem,q0,q1]) rfl ?_;exact⟨by rw[HN.out];exact qjf (ap.trans (hb.mono (by omega))) _ _,rfl⟩
theorem q95.first{v:Vq}{a:Am}{l:List Am}(h:q95 W ag ai v (a::l))(hb:ai<=W.heap.size) :
  ∃g c va,v=Sc g (l.length+1) c/\W.cell? (Ad g 0)=some (St a.rel)/\W.cell? (Ad g 1)=some va/\Qi W W.heap.size va a.args/\g < W.heap.size/\ag<=g:=by
 obtain⟨ps,h1,h2,h3,h4⟩:=h
 cases ps with
 | nil=>simp at h1
 | cons p ps=>
  simp only[List.map_cons,List.cons.injEq] at h1;obtain⟨rfl,rfl⟩:=h1;obtain⟨g,cap,rfl,ch,b7,hc,Qj⟩:=qb0 h2 (λ_=>rfl) (by simp);refine⟨g,cap,p.2,by simp,Qj 0 0 (by simp) _ (by decide) rfl,Qj 0 1 (by simp) _ (by decide) rfl,?_,b7,ch⟩
  cases ps with
  | nil=>exact Qi.ofOwns (h4 p rfl)
  | cons q qs=>exact (h3 p (by simp)).mono hb
theorem qqh(s:By)(w:Wq)(ac:Lib.runeCount s<=300)(hT:Lib.Utf8Tabs 0 1 w) :
  Cs 49 #[St s] w (qfp s w):=by
 obtain⟨N,hN⟩:∃N,w.heap.size=N:=⟨_,rfl⟩;obtain⟨WA,a9⟩:∃WA,w.alloc (.cells #[St ⟨#[]⟩,.slice none 0 0] 92)=WA:=⟨_,rfl⟩;have bi:WA.heap.size=N+1:=by rw[<- a9,<- hN];simp
 have ap:Below N w WA:=by rw[<- a9];exact (Below.refl _ w).alloc (by omega) _
 have bq:Lib.Utf8Tabs 0 1 WA:=Utf8Tabs_below hT (by rw[hN];exact ap)
 have af:Hid (∀O,O=Obj.cells #[Ii 0,.slice none 0 0,.slice none 0 0,.slice none 0 0] 179 (0,0)->Cs 90 #[Pt (N+1),St s] (WA.alloc O) (qio s (N+1) (N+1) (WA.alloc O))):=by
  rintro O rfl;exact qko s WA (N+1) (N+1) _ ac bq bi ((Below.refl _ WA).alloc (by omega) _) zl (by rw[<- bi];exact zn WA _)
 have hB:Hid (∀O W',Below (N+1) (WA.alloc O) W'->Below (N+1) WA W'):=λO W' h=>((Below.refl _ WA).alloc (by omega) O).trans h
 have ab:Hid (qcx s=match Q2 qb2 (qcr s.size s 0) with | (_,some _)=>none | (st,none)=>if st.st=5/\st.rules=[] then st.atoms.head? else none):=by
  show _=_;unfold qcx;rw[if_neg (by omega)]
 have Qs:Hid (∀W1,Below (N+1) WA W1->W1.heap[N]?=cC #[St ⟨#[]⟩,.slice none 0 0] 92):=λW1 hb=>q27 hN (by rw[a9];exact hb);have q7:Hid (∀W1 x v,Below (N+1) WA W1->Below w.heap.size w (qif W1 N x v)):=λW1 x v hb=>by rw[hN];exact qjf (ap.trans (hb.mono (by omega))) _ _
 unfold qio at af;clear bq hT ap;rcases hfo:Q2 qb2 (qcr s.size s 0) with⟨st,_ | ⟨c,p⟩⟩
 .rw[hfo] at ab af;simp only at ab af;clear hfo;go_enter Tryz.func49,Tryz.ntmps49;go_wp2_with fail;refine (af.out _ rfl).mono ?_;rintro e W1 ⟨ah,rfl,hI,bS,hP⟩;have an:=hB.out _ _ ah;have p1:=Qs.out W1 an;have q0:W1.cell? (Ad N 0)=some (St ⟨#[]⟩):=(by simp[World.cell?,p1]);have y0:W1.frozen? (Ad N 0)=false:=(by simp[World.frozen?,p1]);have q1:W1.cell? (Ad N 1)=some (.slice none 0 0):=(by simp[World.cell?,p1]);have y1:W1.frozen? (Ad N 1)=false:=(by simp[World.frozen?,p1]);obtain⟨vr,va,vv,ag,ai,h1,h2,h4,h5,h6,ax,au,hh,hV,hR,hA⟩:=hP;have c0:W1.cell? (Ad (N+1) 0)=some (Ii st.st):=zc hh
  have c1:W1.cell? (Ad (N+1) 1)=some vr:=zc hh
  have c2:W1.cell? (Ad (N+1) 2)=some va:=zc hh
  obtain⟨ra,rc,rfl⟩:∃a c,vr=.slice a st.rules.length c:=by
   obtain⟨qs,q1,q2,q3⟩:=hR;obtain⟨a,c,e⟩:=qo q2;exact⟨a,c,by rw[e,<- q1];simp⟩
  have HB:Hid _:=an;by_cases h0:st.st=5
  .by_cases az:st.rules=[]
   .rw[if_pos ⟨h0,az⟩] at ab;rw[az] at c1;rw[h0] at c0
    cases hat:st.atoms with
    | nil=>exact absurd hat (hI.some (by rw[h0];decide))
    | cons a l=>
     rw[hat] at hA ab;have bh:qkr a:=hI.ams a (by rw[hat];simp);obtain⟨g,cc,vx,rfl,d0,d1,a7,hg,Qhy⟩:=hA.first h5
     have cl:N≠g:=by omega
     obtain⟨xa,xc,rfl⟩:=a7.form
     have b9:Hid (Qi (qif W1 N a.rel (.slice xa a.args.length xc)) (qif W1 N a.rel (.slice xa a.args.length xc)).heap.size (.slice xa a.args.length xc) a.args):=by
      show Qi _ _ _ _;rw[qqg];refine a7.kept (λk c _ hc=>(qoa _ _ _ _ (λe=>?_)).trans hc);rw[e,p1] at hc;cases hc
     have b8:Hid _:=bh;simp only[List.head?_cons] at ab;simp only[List.length_nil] at c1;clear h1 h2 h4 h5 h6 ax au hV hR hI hh ah hA a7 bh an p1;go_wp2;refine bodyPost_ret (v:=.tuple #[.agg #[St a.rel,.slice xa a.args.length xc],.bool true]) (by simp[results,Tryz.results49,go_sem,q0,q1]) rfl ?_;exact⟨q7.out _ _ _ HB.out,by rw[ab.out];exact⟨_,rfl,b8.out,b9.out⟩⟩
   .rw[if_neg (λh=>az h.2)] at ab;rw[h0] at c0
    have ce:(0:Int) < (st.rules.length:Int):=by
     have:=List.length_pos_iff.2 az;omega
    clear h1 h2 h4 h5 h6 ax au hV hR hI hh ah hA an p1;go_wp2;refine bodyPost_ret (v:=.tuple #[.agg #[St ⟨#[]⟩,.slice none 0 0],.bool false]) (by simp[results,Tryz.results49,go_sem,q0,q1]) rfl ?_;exact⟨q7.out _ _ _ HB.out,by rw[ab.out]⟩
  .rw[if_neg (λh=>h0 h.1)] at ab;have cb:(st.st == 5)=false:=by simp[h0]
   clear h1 h2 h4 h5 h6 ax au hV hR hI hh ah hA an p1;go_wp2;refine bodyPost_ret (v:=.tuple #[.agg #[St ⟨#[]⟩,.slice none 0 0],.bool false]) (by simp[results,Tryz.results49,go_sem,q0,q1]) rfl ?_;exact⟨q7.out _ _ _ HB.out,by rw[ab.out]⟩
 .rw[hfo] at ab af;simp only at ab af;have a6:c≠0:=qjs _ _ _ _ _ hfo;have b3:(c == 0)=false:=by simp[a6]
  clear hfo;go_enter Tryz.func49,Tryz.ntmps49;go_wp2_with fail;refine (af.out _ rfl).mono ?_;rintro e W1 ⟨ah,rfl⟩;have an:=hB.out _ _ ah;have p1:=Qs.out W1 an;have q0:W1.cell? (Ad N 0)=some (St ⟨#[]⟩):=(by simp[World.cell?,p1]);have y0:W1.frozen? (Ad N 0)=false:=(by simp[World.frozen?,p1]);have q1:W1.cell? (Ad N 1)=some (.slice none 0 0):=(by simp[World.cell?,p1]);have y1:W1.frozen? (Ad N 1)=false:=(by simp[World.frozen?,p1]);clear p1;go_wp2;refine bodyPost_ret (v:=.tuple #[.agg #[St ⟨#[]⟩,.slice none 0 0],.bool false]) (by simp[results,Tryz.results49,go_sem,q0,q1]) rfl ?_;exact⟨q7.out _ _ _ an,by rw[ab.out]⟩
theorem qmc(s:By)(w:Wq)(hs:s.size<=4611686018427387904)(hT:Lib.Utf8Tabs 0 1 w) :
  Cs 49 #[St s] w (qfp s w):=by
 by_cases hl:300 < Lib.runeCount s
 .exact qrq s w hs hl
 .exact qqh s w (by omega) hT
