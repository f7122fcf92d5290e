/- A part -/
import Derived.Test.YtjajnhemgphefaaGreatDoorJTake2
set_option linter.all false
set_option maxRecDepth 100000
set_option maxHeartbeats 4000000
open List renaming length->aB,length_nil->bB,append_toArray->bE,size_toArray->bG,push_toArray->bH,length_cons->bI,cons_append->bJ,nil_append->bL
open Go.World renaming cell?->aC,frozen?->aD,size_alloc->aZ
open Go.Value renaming slice->aH,string->aI,agg->aJ,bool->aK,tuple->aL,int->aM
open Go.Obj renaming cells->aN
open Go.Ending renaming returned->aO
open Go.IntKind renaming i64->aP
open Or renaming inl->aQ,inr->aR
open Option renaming some->aV,none->aW
open Nat renaming le_trans->aX,reduceAdd->bO,reduceSub->bQ,le_refl->bT
open Go.RowKit.Below renaming refl->aY,heap_setCell->bF
open Array renaming replicate_succ->bC,replicate_zero->bD
open Go.Lib renaming runeCount->bU,Utf8Tabs->cE
open Go.RowKit renaming Below->bX
open Go renaming Boxed->bZ,callsIn_wide->cA,bodyPost_ret->cF,TypeId->cH,grownBy_putObj'->cI,callsIn_of_wp_marks->cM
open Go.Proofs.Tryz renaming results49->cD,ntmps60->cG,func60->cJ,results90->cL,ntmps49->cO
namespace Go.Proofs.YtjajnhemgphefaaGreatDoor
open Go renaming World->Wq,Value->Vq
open Go.RowKit Go.Shelf
attribute [local go_sem] Oper.semAt_some
variable {aa bS bp N A t1 ah ag D:Nat} {W W':Wq} {s:eD} {y z:Vq}
theorem Ej(s:ByteArray)(i:Nat):(Utf8.decode s i).2<=4:=by
 unfold Utf8.decode;dsimp only
 repeat' split
 all_goals simp
theorem Bb(s:ByteArray):∀f ad,s.size<=ad+f->s.size<=ad+4*Lib.runeCountFrom s f ad
 |0,ad,h=>by grind
 |f+1,ad,h=>by
  unfold Lib.runeCountFrom;split;{rename_i d;have z:=Lib.decode_width_pos s ad d;have A:=Ej s ad;have:=Bb s f (ad+(Utf8.decode s ad).2) (by omega);omega};{omega}
theorem mG(s:ByteArray):s.size<=4*bU s:=by have:=Bb s s.size 0 (by omega);unfold bU;omega
theorem re(s:ByteArray)(w:Wq)(hs:s.size<9223372036854775807):Cs 95 #[St s] w λe w'=>e=aO (Ii (bU s))/\∃ad,w'=w.alloc (.stringIter s ad):=Tryz.utf8_RuneCountInString s w hs
theorem eU.keptAll(h:eU aa bS W bp s)(z:∀(k:Nat) (c:Array Vq) (t:cH),W.heap[k]?=cC c t->W'.heap[k]?=cC c t)(ak:W.heap.size<=W'.heap.size):eU aa bS W' bp s:=by
 have⟨vr,va,vv,ah,ag,h1,h2,h3,h4,h5,h6,h7,hh,hV,hR,ps,e1,e2,e3,e4⟩:=h
 exact⟨vr,va,vv,ah,ag,h1,h2,aX h3 ak,aX h4 ak,h5,h6,aX h7 ak,z _ _ _ hh,Qc hV (λg c _ d=>z g c _ d),hR.kept (λg c _ d=>z g c _ d) (λk c _ d=>z k c _ d) (λk c _ d=>z k c _ d),
  ps,e1,Qc e2 (λg c _ d=>z g c _ d),λp A=>(e3 p A).kept (λk c _ d=>z k c _ d),λp A=>Qc (e4 p A) (λg c _ d=>z g c _ d)⟩
theorem qm{row:Option Nat}(A:W.grownBy W' row)(C:∀r,row=aV r->∃o:Obj,W.heap[r]?=aV o/\o.isCells=false):∀(k:Nat) (c:Array Vq) (t:cH) (d:Nat×Nat),W.heap[k]?=aV (aN c t d)->W'.heap[k]?=aV (aN c t d):=by
 intro k c t d z;rw[A.block k (zg z).1 (λe=>?_)]
 .exact z
 .have⟨o,ho,hc⟩:=C k e.symm;rw[z] at ho;cases ho;simp[Obj.isCells] at hc
theorem Qy{w:Wq}(h:bX N w W)(d:w.heap.size=N):N<=W.heap.size:=by have:=h.size;omega
theorem lh{B:Nat}{t:cH}{v:Vq}(h:bZ W B t v)(u:Vq):bZ (W.setCell (Ad B 0) u) B t u:=qw h 0 u
theorem sR{t2:Nat}(d:bZ W A t1 y)(C:bZ W (A+1) t2 z)(b c:Vq):bZ ((W.setCell (Ad A 0) b).setCell (Ad (A+1) 0) c) A t1 b/\bZ ((W.setCell (Ad A 0) b).setCell (Ad (A+1) 0) c) (A+1) t2 c/\
  dD W ((W.setCell (Ad A 0) b).setCell (Ad (A+1) 0) c) (λj=>j=A\/j=A+1)/\KeepsOthers W ((W.setCell (Ad A 0) b).setCell (Ad (A+1) 0) c):=by
 refine⟨(lh d b).other (by omega) _,lh (C.other (by omega) _) c,?_,?_⟩
 .exact ((dD.refl W _).setCell (Ad A 0) b (λ_=>aQ rfl)).setCell (Ad (A+1) 0) c (λ_=>aR rfl)
 .exact (KeepsOthers.setCell _ _ _).trans (KeepsOthers.setCell _ _ _)
theorem Qn.keep{v:Vq}{l:List Rl}(h:Qn W aa ah ag v l)(z:∀(k:Nat) (c:Array Vq) (t:cH),(t=136\/t=92\/t=166)->W.heap[k]?=cC c t->W'.heap[k]?=cC c t):Qn W' aa ah ag v l:=
 h.kept (λg c _ d=>z g c _ (aQ rfl) d) (λk c _ d=>z k c _ (aR (aQ rfl)) d) (λk c _ d=>z k c _ (aR (aR rfl)) d)
theorem sK{W2:Wq}{t2:Nat}(E:bZ W2 A t1 y)(G:bZ W2 (A+1) t2 z)(M:W2.heap[D]?=aV (.deferred (aV []))):aC (W2.putObj D (.deferred aW)) (Ad A 0)=aV y/\aC (W2.putObj D (.deferred aW)) (Ad (A+1) 0)=aV z/\
  ∀(k:Nat) (c:Array Vq) (t:cH) (C:Nat×Nat),W2.heap[k]?=aV (aN c t C)->(W2.putObj D (.deferred aW)).heap[k]?=aV (aN c t C):=by
 have d:=qm (cI W2 D (.deferred aW)) (λr e=>by cases e;exact⟨_,M,rfl⟩);exact⟨Boxed.cell (t:=t1) (d _ _ _ _ E),Boxed.cell (t:=t2) (d _ _ _ _ G),d⟩
theorem pQ{w:Wq}{o:Obj}(h:bX N w W)(d:N<=D)(ak:N<=W.heap.size):bX N w (W.putObj D o):=
 h.grown (cI W D o) ak (λk e=>by cases e;exact d)
theorem Eo{t2:Nat}(d:bZ W A t1 y)(C:bZ W (A+1) t2 z){k:Nat}{c:Array Vq}{t:cH}(E:W.heap[k]?=cC c t)(a1:t≠t1)(a2:t≠t2):¬(k=A\/k=A+1):=by
 unfold bZ at d C;rintro (rfl|rfl)
 .grind
 .grind
theorem eU.keptT(h:eU aa bS W bp s)(z:∀(k:Nat) (c:Array Vq) (t:cH),t=179\/t=136\/t=92\/t=166\/t=9->W.heap[k]?=cC c t->W'.heap[k]?=cC c t)(ak:W.heap.size<=W'.heap.size):eU aa bS W' bp s:=by
 have⟨vr,va,vv,ah,ag,h1,h2,h3,h4,h5,h6,h7,hh,hV,hR,ps,e1,e2,e3,e4⟩:=h
 exact⟨vr,va,vv,ah,ag,h1,h2,aX h3 ak,aX h4 ak,h5,h6,aX h7 ak,z _ _ _ (by simp) hh,Qc hV (λg c _ d=>z g c _ (by simp) d),hR.kept (λg c _ d=>z g c _ (by simp) d) (λk c _ d=>z k c _ (by simp) d) (λk c _ d=>z k c _ (by simp) d),
  ps,e1,Qc e2 (λg c _ d=>z g c _ (by simp) d),λp A=>(e3 p A).kept (λk c _ d=>z k c _ (by simp) d),λp A=>Qc (e4 p A) (λg c _ d=>z g c _ (by simp) d)⟩
def ro(s:ByteArray)(aa bp:Nat)(w:Wq)(e:Ending)(w':Wq):Prop:=
 bX aa w w'/\match Q5 eX (eA s.size s 0) with
 |(_,aV (c,p))=>e=aO (aL #[aM aP c,aM aP p])
 |(st,aW)=>e=aO (aL #[aM aP 0,aM aP 0])/\kZ st/\∃bS,eU aa bS w' bp st
theorem AG(s:ByteArray)(bp:Nat)(w:Wq)(hs:s.size<=4611686018427387904)(ae:300<bU s):Cs 90 #[Pt bp,St s] w λe w'=>e=aO (aL #[Ii 1,Ii 0])/\bX w.heap.size w w':=by
 have d:(300:Int)<(bU s:Int):=by omega
 refine (cA (n:=6)).1 ?_;refine cM Tryz.func90 rfl trivial ?_ rfl;simp only[Tryz.ntmps90,bG,bI,bB,bO,bQ,bC,bD,bH,bE,bL,bJ]
 gi_wp2_with (refine⟨trivial,?_⟩;gi_at_call 95;refine (cA.2 (re _ _ (by omega))).mono ?_;rintro e w' ⟨rfl,ad,rfl⟩)
 refine⟨aL #[Ii 1,Ii 0],by simp[results,cL,go_sem],rfl,?_⟩;exact ((((zr.alloc zl _).alloc (by simp) _).alloc (by simp;omega) _).alloc (by simp;omega) _)
theorem yi(s:ByteArray)(ap:Wq)(aa bp:Nat)(w:Wq)(ac:bU s<=300)(hT:cE 0 1 ap)(ay:ap.heap.size=aa)(a8:bX aa ap w)(ao:aa<=bp)(bb:w.heap[bp]?=cC #[Ii 0,aH aW 0 0,aH aW 0 0,aH aW 0 0] 179):Cs 90 #[Pt bp,St s] w (ro s aa bp w):=by
 have hs:s.size<=1200:=by have:=mG s;omega
 have hl:decide ((300:Int)<(bU s:Int))=false:=by simp;omega
 have Qj7:bp<w.heap.size:=(zg bb).1;have b3:aa<=w.heap.size:=by omega
 refine (cA (n:=6)).1 ?_;refine cM Tryz.func90 rfl trivial ?_ rfl;simp only[Tryz.ntmps90,bG,bI,bB,bO,bQ,bC,bD,bH,bE,bL,bJ]
 gi_wp2_with (first|(refine⟨trivial,?_⟩;gi_at_call 95;refine (cA.2 (re _ _ (by omega))).mono ?_;rintro e w' ⟨rfl,ad,rfl⟩)|(refine⟨trivial,?_⟩;gi_at_call 96;refine (cA.2 (A2 _ _)).mono ?_;rintro e w' ⟨rfl,rfl⟩))
 have co:bU s<=s.size:=Lib.runeCount_le s;generalize hrc:bU s=rc at *;have cq:=aA hrc;clear hrc;obtain⟨N,hN⟩:∃N,w.heap.size=N:=⟨_,rfl⟩;obtain⟨W0,am⟩:∃W0,(((((w.alloc (aN #[Pt bp] 268)).alloc (aN #[Ii 0] 23)).alloc (aN #[Ii 0] 3)).alloc (.stringIter s ad)).alloc (aN #[St s] 9))=W0:=⟨_,rfl⟩;have ak:W0.heap.size=N+5:=by rw[<-am,<-hN];simp
 have bi:bX w.heap.size w W0:=by rw[<-am];exact ((((zr.alloc zl _).alloc (by simp) _).alloc (by simp;omega) _).alloc (by simp;omega) _).alloc (by simp;omega) _
 have bn:bX aa w W0:=bi.mono b3;have b0:bZ W0 N 268 (Pt bp):=by rw[<-am,<-hN];exact ((((Boxed.new w _ _).alloc _).alloc _).alloc _).alloc _
 have b1:bZ W0 (N+1) 23 (Ii 0):=by have:=(((Boxed.new (w.alloc (aN #[Pt bp] 268)) 23 (Ii 0)).alloc (aN #[Ii 0] 3)).alloc (.stringIter s ad)).alloc (aN #[St s] 9);rw[aZ,hN,am] at this;exact this
 have b2:bZ W0 (N+1+1) 3 (Ii 0):=by have:=((Boxed.new ((w.alloc (aN #[Pt bp] 268)).alloc (aN #[Ii 0] 23)) 3 (Ii 0)).alloc (.stringIter s ad)).alloc (aN #[St s] 9);rw[aZ,aZ,hN,am] at this;exact this
 have b5:bZ W0 (N+4) 9 (St s):=by have:=Boxed.new ((((w.alloc (aN #[Pt bp] 268)).alloc (aN #[Ii 0] 23)).alloc (aN #[Ii 0] 3)).alloc (.stringIter s ad)) 9 (St s);simp only[aZ] at this;rw[hN,am] at this;exact this
 have cd:eU aa (N+5) W0 bp eX:=⟨_,_,_,aa,aa,bT _,bT _,by omega,by omega,ao,by omega,by omega,(bi.block bp Qj7).trans bb,zo,⟨[],rfl,zo,by simp⟩,[],rfl,zo,by simp,by simp⟩;simp only[hN];rw[am];clear am bb;have cb:bX ap.heap.size ap W0:=by rw[ay];exact a8.trans bn
 refine wpIn_rangeFunc_ownH rfl (by decide) (gf:=158) (lb:=#[Pt (N+4)]) rfl trivial (enters_of Tryz.func158 (by kernel_rfl) rfl)
  (B5 5 (by decide) (N+4) s hs ap hT W0 cb (by omega) b5.cell) kP.tr (kP.put (by omega)) zr (λ_=>rfl)
  (λpre W=>∃st,Q5 eX pre=(st,aW)/\kZ st/\eU aa (N+5) W bp st/\bZ W N 268 (Pt bp)/\bZ W (N+1) 23 (Ii 0)/\bZ W (N+1+1) 3 (Ii 0)/\bX aa w W/\N<=W.heap.size)
  (λc pre W=>c=.ret/\∃(st:eD) (aj:List eE) (x:eE),pre=aj++[x]/\Q5 eX aj=(st,aW)/\(dX st x.kind x.text x.runes).1≠0/\bZ W (N+1) 23 (Ii (dX st x.kind x.text x.runes).1)/\bZ W (N+1+1) 3 (Ii x.place)/\bX aa w W/\N<=W.heap.size)
  ?hI ?hIx ?h0
  (λx a' W=>∃G,W.heap[G]?=cC (fL x.kind x.text x.place x.runes) 191/\a'={tmps:=#[Pt bp,St s,Pt N,undef,Pt (N+1),Pt (N+1+1),Pt G,undef,St s,Ii rc,aK false,St s,.func (.func 158) #[] #[Pt (N+1+1+1+1)],x.v,undef,undef,undef,undef,undef,undef,undef,undef],defers:=[]})
  ?hAx ?assign ?body ?done ?stop
 case hI=>rintro pre W W' row ⟨st,E,z,M,h4,A,C,O,h8⟩ Z hr;have d:=qm Z (λr e=>(hr r e).2);exact⟨st,E,z,M.keptAll (λk c t h=>d k c t _ h) Z.size,d _ _ _ _ h4,d _ _ _ _ A,d _ _ _ _ C,O.grown Z (by omega) (λk e=>by have:=(hr k e).1;omega),aX h8 Z.size⟩
 case hIx=>rintro c pre W W' row ⟨rfl,st,aj,x,E,z,M,A,C,O,h8⟩ Z hr;have d:=qm Z (λr e=>(hr r e).2);exact⟨rfl,st,aj,x,E,z,M,d _ _ _ _ A,d _ _ _ _ C,O.grown Z (by omega) (λk e=>by have:=(hr k e).1;omega),aX h8 Z.size⟩
 case h0=>exact⟨eX,rfl,⟨by decide,by decide,by simp[eX],λ_=>rfl,λh=>absurd rfl h,λh=>absurd rfl h,by simp[eX],by simp[eX]⟩,cd,b0,b1,b2,bn,by omega⟩
 case hAx=>rintro x a' _ W W' row ⟨G,z,M⟩ Z hr;exact⟨G,qm Z (λr e=>(hr r e).2) _ _ _ _ z,M⟩
 case assign=>
  rintro l pre x W K ⟨st,E,z,M,h4,A,C,O,h8⟩ hK;have HK:=aA hK;clear hK;unfold eE.v dU fL
  gi_wp2
  have be:bX W.heap.size W (W.alloc (aN #[Ii x.kind,St x.text,Ii x.place,Ii x.runes] 191)):=(aY _ W).alloc zl _;refine HK.o _ _ ((KeepsOthers.alloc _ _).from _) ⟨be.mono (by omega),λk c fz d=>(Below.heap_alloc _ _ _ (zg d).1).trans d⟩ ⟨st,E,z,M.below be,h4.alloc _,A.alloc _,C.alloc _,O.alloc (by omega) _,by simp;omega⟩ ⟨W.heap.size,zn W _,rfl⟩
 case body=>
  rintro l pre x a' W hl ⟨r,hr⟩ ⟨st,E,z,M,h4,A,C,O,h8⟩ ⟨G,av,rfl⟩ cn;have HT:=Ih aa (N+5) bp st x.kind x.text x.ok x.place x.runes W M z;generalize hts:dX st x.kind x.text x.runes=ts at HT;have⟨ec,bk⟩:=ts;have kp:=h4.cell;have k0:aC W (Ad G 0)=aV (Ii x.kind):=by{simp[aC,av,fL]};have k1:aC W (Ad G 1)=aV (St x.text):=by{simp[aC,av,fL]};have k2:aC W (Ad G 2)=aV (Ii x.place):=by{simp[aC,av,fL]};have k3:aC W (Ad G 3)=aV (Ii x.runes):=by{simp[aC,av,fL]};unfold dU fL at HT;have au:=aA hts;have H1:=aA E;clear hts E
  gi_wp2_with fail
  refine⟨trivial,?_⟩;refine (CallsIn.inRound l (cA.2 HT)).mono ?_;rintro e W1 ⟨rfl,b8,al⟩;have aq:∀(B:Nat) (c:Array Vq) (t:cH),t≠179->t≠136->t≠92->t≠166->t≠9->W.heap[B]?=cC c t->W1.heap[B]?=cC c t:=by{intro B c t a1 a2 a3 a4 a5 hB;exact al.same B _ hB (λc' t' ck e=>by cases e;exact⟨a1,a2,a3,a4,a5⟩)};have g4:bZ W1 N 268 (Pt bp):=aq _ _ _ (by decide) (by decide) (by decide) (by decide) (by decide) h4;have g5:bZ W1 (N+1) 23 (Ii 0):=aq _ _ _ (by decide) (by decide) (by decide) (by decide) (by decide) A;have g6:bZ W1 (N+1+1) 3 (Ii 0):=aq _ _ _ (by decide) (by decide) (by decide) (by decide) (by decide) C;have gx:=aq _ _ _ (by decide) (by decide) (by decide) (by decide) (by decide) av;have bc:KeepsFrom W0.heap.size W W1:=⟨al.low.size,λk o _ d ho=>al.same k o d (λc t fz e=>by subst e;simp[Obj.isCells] at ho)⟩;have cj:kP ap.heap.size W W1:=⟨by rw[ay];exact al.low,λk c fz d=>al.same k _ d (λc' t' ck e=>by cases e;exact⟨by decide,by decide,by decide,by decide,by decide⟩)⟩;have bv:bX aa w W1:=O.trans al.low;have bj:N<=W1.heap.size:=aX h8 al.low.size;by_cases bd:ec=0
  .subst bd;clear al aq HT
   gi_wp2
   refine⟨bc,cj,bk,?_,?_,b8,g4,g5,g6,bv,bj⟩;{rw[xP _ _ _ _ H1.o];simp[Q5,au.o]};{have:=Ai st x.kind x.text x.runes x.ok z (by rw[au.o]);rw[au.o] at this;exact this}
  .have Ql7:(ec == 0)=false:=by{simp[bd]};have c5:=g5.cell;have c6:=g6.cell;have f5:=g5.frozen;have f6:=g6.frozen;have cx:aC W1 (Ad G 2)=aV (Ii x.place):=by{simp[aC,gx,fL]};have n1:N+1≠G:=by{intro e;subst e;unfold bZ at g5;rw[gx] at g5;simp at g5};have n2:N+1+1≠G:=by{intro e;subst e;unfold bZ at g6;rw[gx] at g6;simp at g6};clear al aq HT k0 k1 k2 k3 kp
   gi_wp2
   gi_region
   all_goals
    gi_wp2
    have⟨t1,t2,tc,tk⟩:=sR g5 g6 (Ii ec) (Ii x.place);refine⟨⟨aX bc.size tk.size,λk o d ho hc=>tk.same k o (bc.same k o d ho hc) hc⟩,rfl,st,pre,x,rfl,H1.o,by rw[au.o];exact bd,by rw[au.o];exact t1,t2,(bv.trans (tc.below (by omega) (λk e=>by omega))).drew,?_⟩;exact aX bj tc.size
 case done=>
  rintro D xs W hD rfl ⟨st,E,z,M,h4,A,C,O,h8⟩ hK;have c5:=A.cell;have c6:=C.cell;have f5:=A.frozen;have f6:=C.frozen;have H1:=aA E;clear E
  gi_wp2
  have⟨t1,t2,tc,tk⟩:=sR A C (Ii 0) (Ii 0);refine⟨by simp,aQ ⟨_,_,rfl,run_takeDeferred (tk.same D _ hK rfl),?_⟩⟩;have⟨d1,d2,dk⟩:=sK t1 t2 (tk.same D _ hK rfl);refine⟨aL #[Ii 0,Ii 0],by simp[results,cL,go_sem,d1,d2],?_⟩;have ch:=pQ (D:=D) (o:=.deferred aW) (O.trans (tc.below (by omega) (λk e=>by omega))) (by omega) (aX (by omega) tc.size);refine⟨ch,?_⟩;rw[H1.o];refine⟨rfl,z,N+5,M.keptT (λk c t ht hc=>dk k c t _ ?_) (aX tc.size (cI _ D _).size)⟩;rw[tc.block k (zg hc).1 (Eo A C hc (by rcases ht with rfl|rfl|rfl|rfl|rfl<;>decide) (by rcases ht with rfl|rfl|rfl|rfl|rfl<;>decide))];exact hc
 case stop=>
  rintro D c pre W hD b7 ⟨rfl,st,aj,x,rfl,E,z,A,C,O,h8⟩ hK;have ci:Hid (Q5 eX (eA s.size s 0)=(st,aV ((dX st x.kind x.text x.runes).1,x.place))):=by{show _=_;have⟨tl,b6⟩:=b7;rw[<-b6,List.append_assoc,xP _ _ _ _ E];simp[Q5,z]};generalize (dX st x.kind x.text x.runes).1=ec at *
  gi_wp2
  refine⟨by simp,aQ ⟨_,_,rfl,run_takeDeferred hK,?_⟩⟩;have⟨d1,d2,dk⟩:=sK A C hK;refine⟨aL #[Ii ec,Ii x.place],by simp[results,cL,go_sem,d1,d2],?_⟩;refine⟨pQ O (by omega) (by omega),?_⟩;rw[ci.o]
theorem G9(s:ByteArray)(w:Wq)(hs:s.size<=4611686018427387904)(ae:300<bU s):Cs 60 #[St s] w λe w'=>e=aO (aL #[aH aW 0 0,Ii 1,Ii 0])/\bX w.heap.size w w':=by
 have h:Hid (∀bp W,Cs 90 #[Pt bp,St s] W λe w'=>e=aO (aL #[Ii 1,Ii 0])/\bX W.heap.size W w'):=λbp W=>AG s bp W hs ae;go_enter cJ,cG
 go_wp2_with (go_at_call 90;refine (h.o _ _).mono ?_;rintro e w' ⟨rfl,d⟩)
 go_ret3
 exact⟨rfl,((aY _ w).alloc zl _).trans (d.mono (by simp))⟩
def Aa(s:ByteArray)(w:Wq)(e:Ending)(w':Wq):Prop:=
 bX w.heap.size w w'/\match jA s with
  |.error (c,p)=>e=aO (aL #[aH aW 0 0,aM aP c,aM aP p])
  |.ok rs=>∃v ah ag,e=aO (aL #[v,aM aP 0,aM aP 0])/\w.heap.size<=ah/\w.heap.size<=ag/\Qn w' w.heap.size ah ag v rs/\aB rs<=8/\∀r∈rs,iS r
theorem I2(s:ByteArray)(w:Wq)(ac:Lib.runeCount s<=300)(hT:Lib.Utf8Tabs 0 1 w):Cs 60 #[.string s] w (Aa s w):=by
 have hs:s.size<=1200:=by have:=mG s;omega
 have af:Hid (∀O,O=Obj.cells #[.int .i64 0,.slice none 0 0,.slice none 0 0,.slice none 0 0] 179 (0,0)->Cs 90 #[.pointer (some ⟨w.heap.size,0,none⟩),.string s] (w.alloc O) (ro s w.heap.size w.heap.size (w.alloc O))):=by rintro O rfl;exact yi s w w.heap.size w.heap.size _ ac hT rfl ((aY _ w).alloc zl _) zl (zn w _)
 have hB:Hid (∀O W',Below w.heap.size (w.alloc O) W'->Below w.heap.size w W'):=λO W' h=>((aY _ w).alloc zl O).trans h;have ab:Hid (jA s=match Q5 eX (eA s.size s 0) with|(_,some ep)=>.error ep|(st,none)=>if st.st=0 then .ok st.rules else .error (2,Lib.runeCount s)):=rfl;unfold ro at af;unfold Aa;rcases hfo:Q5 eX (eA s.size s 0) with⟨st,_|⟨c,p⟩⟩
 .rw[hfo] at ab af;simp only at ab af;by_cases h0:st.st=0
  .rw[if_pos h0] at ab;rw[ab.o];clear hfo;go_enter Tryz.func60,Tryz.ntmps60;go_wp2_with fail;refine (af.o _ rfl).mono ?_;rintro e W1 ⟨ai,rfl,hI,bS,hP⟩;obtain⟨vr,va,vv,ah,ag,h1,h2,h4,h5,h6,aw,ax,hh,hV,hR,_⟩:=hP;rw[h0] at hh;have c0:W1.cell? ⟨w.heap.size,0,none⟩=some (.int .i64 0):=zc hh;have c1:W1.cell? ⟨w.heap.size,1,none⟩=some vr:=zc hh;obtain⟨ra,rc,rfl⟩:∃a c,vr=.slice a st.rules.length c:=by obtain⟨qs,q1,q2,q3⟩:=hR;obtain⟨a,c,e⟩:=qq q2;exact⟨a,c,by rw[e,<-q1];simp⟩
   have HF:Hid _:=And.intro (And.intro h1 h2) (And.intro hR hI);have HB:Hid _:=ai;clear h1 h2 h4 h5 h6 aw ax hV hR hI hh ai;go_wp2
   go_ret3
   exact⟨hB.o _ _ HB.o,_,ah,ag,rfl,HF.o.1.1,HF.o.1.2,HF.o.2.1,HF.o.2.2.rules,HF.o.2.2.good⟩
  .rw[if_neg h0] at ab;rw[ab.o];clear hfo;have cl:(st.st == 0)=false:=by simp[h0]
   go_enter Tryz.func60,Tryz.ntmps60;go_wp2_with fail;refine (af.o _ rfl).mono ?_;rintro e W1 ⟨ai,rfl,hI,bS,hP⟩;have c0:=hP.cell0.1;have HB:Hid _:=ai;clear hP hI ai
   go_wp2_with (go_at_call 95;refine (re _ _ (by omega)).mono ?_;rintro e w' ⟨rfl,ad,rfl⟩)
   go_ret3
   exact⟨(hB.o _ _ HB.o).alloc (by have:=HB.o.size;simp at this;omega) _,rfl⟩
 .rw[hfo] at ab af;simp only at ab af;rw[ab.o];have az:c≠0:=tU _ _ _ _ _ hfo;have ca:(c == 0)=false:=by simp[az]
  clear hfo az;go_enter Tryz.func60,Tryz.ntmps60
  go_wp2_with (go_at_call 90;refine (af.o _ rfl).mono ?_;rintro e W1 ⟨ai,rfl⟩)
  go_ret3
  exact⟨hB.o _ _ ai,rfl⟩
def iX(s:ByteArray):Option Am:=
 if 300<bU s then aW
 else match Q5 eX (eA s.size s 0) with
  |(_,aV _)=>aW
  |(st,aW)=>if st.st=5/\st.rules=[] then st.atoms.head? else aW
def pH(s:ByteArray)(w:Wq)(e:Ending)(w':Wq):Prop:=
 bX w.heap.size w w'/\match iX s with
  |none=>e=aO (aL #[aJ #[aI ⟨#[]⟩,aH aW 0 0],aK false])
  |some a=>∃va,e=aO (aL #[aJ #[aI a.rel,va],aK true])/\kC a/\Qh w' w'.heap.size va a.args
def ky(W:Wq)(N:Nat)(x:ByteArray)(v:Vq):Wq:=(W.setCell ⟨N,0,aW⟩ (aI x)).setCell ⟨N,1,aW⟩ v
theorem rv{w:Wq}(h:bX N w W)(x:ByteArray)(v:Vq):bX N w (ky W N x v):=
 (h.setCell (p:=⟨N,0,aW⟩) zl _).setCell (p:=⟨N,1,aW⟩) zl _
theorem uK(W:Wq)(N:Nat)(x:ByteArray)(v:Vq):(ky W N x v).heap.size=W.heap.size:=by simp[ky]
theorem wK(W:Wq)(N:Nat)(x:ByteArray)(v:Vq){k:Nat}(h:k≠N):(ky W N x v).heap[k]?=W.heap[k]?:=
 (bF _ _ _ _ (by show k≠N;exact h)).trans (bF _ _ _ _ (by show k≠N;exact h))
theorem uL{w:Wq}(d:w.heap.size=N)(z:bX (N+1) (w.alloc (aN #[St ⟨#[]⟩,aH aW 0 0] 92)) W):W.heap[N]?=cC #[St ⟨#[]⟩,aH aW 0 0] 92:=by have:=zn w (aN #[St ⟨#[]⟩,aH aW 0 0] 92);rw[d] at this;exact (z.block N (by omega)).trans this
theorem CK(s:ByteArray)(w:Wq)(hs:s.size<=4611686018427387904)(ae:300<bU s):Cs 49 #[St s] w (pH s w):=by
 obtain⟨N,M⟩:∃N,w.heap.size=N:=⟨_,rfl⟩;have h:Hid (∀O,Cs 90 #[Pt (N+1),St s] ((w.alloc (aN #[St ⟨#[]⟩,aH aW 0 0] 92)).alloc O) λe w'=>e=aO (aL #[Ii 1,Ii 0])/\bX (N+1) (w.alloc (aN #[St ⟨#[]⟩,aH aW 0 0] 92)) w'):=λO=>by refine (AG s _ _ hs ae).mono ?_;rintro e w' ⟨E,G⟩;exact⟨E,(zr.alloc (by simp;omega) O).trans (G.mono (by simp;omega))⟩
 have Z:Hid (iX s=aW):=by show _=_;unfold iX;rw[if_pos ae]
 unfold pH;rw[Z.o];have C:bX N w (w.alloc (aN #[St ⟨#[]⟩,aH aW 0 0] 92)):=(aY _ w).alloc (by omega) _;have z:=aA M;go_enter Tryz.func49,cO
 go_wp2_with (go_at_call 90;refine (h.o _).mono ?_;rintro e W1 ⟨rfl,A⟩;have d:=uL z.o A;have q0:aC W1 (Ad N 0)=aV (St ⟨#[]⟩):=(by simp[aC,d]);have y0:aD W1 (Ad N 0)=false:=(by simp[aD,d]);have q1:aC W1 (Ad N 1)=aV (aH aW 0 0):=(by simp[aC,d]);have y1:aD W1 (Ad N 1)=false:=(by simp[aD,d]))
 refine cF (v:=aL #[aJ #[St ⟨#[]⟩,aH aW 0 0],aK false]) (by simp[results,cD,go_sem,q0,q1]) rfl ?_;exact⟨by rw[z.o];exact rv (C.trans (A.mono (by omega))) _ _,rfl⟩
theorem uU.first{v:Vq}{a:Am}{l:List Am}(h:uU W ah ag v (a::l))(G:ag<=W.heap.size):∃g c A,v=Sc g (aB l+1) c/\aC W (Ad g 0)=aV (St a.rel)/\aC W (Ad g 1)=aV A/\Qh W W.heap.size A a.args/\g<W.heap.size/\ah<=g:=by
 have⟨ps,h1,h2,h3,h4⟩:=h
 cases ps with
 |nil=>simp at h1
 |cons p ps=>
  simp only[List.map_cons,List.cons.injEq] at h1;obtain⟨rfl,rfl⟩:=h1;obtain⟨g,d,rfl,C,E,M,z⟩:=iI h2 (λ_=>rfl) (by simp);refine⟨g,d,p.2,by simp,z 0 0 (by simp) _ (by decide) rfl,z 0 1 (by simp) _ (by decide) rfl,?_,E,C⟩
  cases ps with
  |nil=>exact Qh.ofOwns (h4 p rfl)
  |cons q qs=>exact (h3 p (by simp)).mono G
theorem EK(s:ByteArray)(w:Wq)(ac:bU s<=300)(hT:cE 0 1 w):Cs 49 #[St s] w (pH s w):=by
 obtain⟨N,hN⟩:∃N,w.heap.size=N:=⟨_,rfl⟩;obtain⟨d,a7⟩:∃d,w.alloc (aN #[St ⟨#[]⟩,aH aW 0 0] 92)=d:=⟨_,rfl⟩;have bu:d.heap.size=N+1:=by rw[<-a7,<-hN];simp
 have ao:bX N w d:=by rw[<-a7];exact (aY _ w).alloc (by omega) _
 have bh:cE 0 1 d:=Utf8Tabs_below hT (by rw[hN];exact ao);have C:Hid (∀O,O=aN #[Ii 0,aH aW 0 0,aH aW 0 0,aH aW 0 0] 179 (0,0)->Cs 90 #[Pt (N+1),St s] (d.alloc O) (ro s (N+1) (N+1) (d.alloc O))):=by rintro O rfl;exact yi s d (N+1) (N+1) _ ac bh bu ((aY _ d).alloc (by omega) _) zl (by rw[<-bu];exact zn d _)
 have hB:Hid (∀O W',bX (N+1) (d.alloc O) W'->bX (N+1) d W'):=λO W' h=>((aY _ d).alloc (by omega) O).trans h;have ab:Hid (iX s=match Q5 eX (eA s.size s 0) with|(_,aV _)=>aW|(st,aW)=>if st.st=5/\st.rules=[] then st.atoms.head? else aW):=by show _=_;unfold iX;rw[if_neg (by omega)]
 have bq:Hid (∀W1,bX (N+1) d W1->W1.heap[N]?=cC #[St ⟨#[]⟩,aH aW 0 0] 92):=λW1 hb=>uL hN (by rw[a7];exact hb);have Z:Hid (∀W1 x v,bX (N+1) d W1->bX w.heap.size w (ky W1 N x v)):=λW1 x v hb=>by rw[hN];exact rv (ao.trans (hb.mono (by omega))) _ _
 unfold ro at C;clear bh hT ao;rcases hfo:Q5 eX (eA s.size s 0) with⟨st,_|⟨c,p⟩⟩
 .rw[hfo] at ab C;simp only at ab C;clear hfo;go_enter Tryz.func49,cO;go_wp2_with fail;refine (C.o _ rfl).mono ?_;rintro e W1 ⟨G,rfl,hI,bS,hP⟩;have A:=hB.o _ _ G;have z:=bq.o W1 A;have M:aC W1 (Ad N 0)=aV (St ⟨#[]⟩):=(by simp[aC,z]);have y0:aD W1 (Ad N 0)=false:=(by simp[aD,z]);have E:aC W1 (Ad N 1)=aV (aH aW 0 0):=(by simp[aC,z]);have y1:aD W1 (Ad N 1)=false:=(by simp[aD,z]);have⟨vr,va,vv,ah,ag,h1,h2,h4,h5,h6,aw,ax,hh,hV,hR,hA⟩:=hP;have c0:aC W1 (Ad (N+1) 0)=aV (Ii st.st):=zc hh;have c1:aC W1 (Ad (N+1) 1)=aV vr:=zc hh;have c2:aC W1 (Ad (N+1) 2)=aV va:=zc hh;obtain⟨ra,rc,rfl⟩:∃a c,vr=aH a (aB st.rules) c:=by{have⟨qs,E,q2,q3⟩:=hR;have⟨a,c,e⟩:=qq q2;exact⟨a,c,by rw[e,<-E];simp⟩};have HB:=aA A;by_cases h0:st.st=5
  .by_cases a6:st.rules=[]
   .rw[if_pos ⟨h0,a6⟩] at ab;rw[a6] at c1;rw[h0] at c0
    cases hat:st.atoms with
    |nil=>exact absurd hat (hI.some (by rw[h0];decide))
    |cons a l=>
     rw[hat] at hA ab;have bf:kC a:=hI.ams a (by rw[hat];simp);obtain⟨g,cc,vx,rfl,d0,d1,a9,hg,Qma⟩:=hA.first h5;have cp:N≠g:=by{omega};obtain⟨xa,xc,rfl⟩:=a9.form;have b9:Hid (Qh (ky W1 N a.rel (aH xa (aB a.args) xc)) (ky W1 N a.rel (aH xa (aB a.args) xc)).heap.size (aH xa (aB a.args) xc) a.args):=by{show Qh _ _ _ _;rw[uK];refine a9.kept (λk c _ hc=>(wK _ _ _ _ (λe=>?_)).trans hc);rw[e,z] at hc;cases hc};have b4:=aA bf;simp only[List.head?_cons] at ab;simp only[bB] at c1;clear h1 h2 h4 h5 h6 aw ax hV hR hI hh G hA a9 bf A z;go_wp2;refine cF (v:=aL #[aJ #[St a.rel,aH xa (aB a.args) xc],aK true]) (by simp[results,cD,go_sem,M,E]) rfl ?_;exact⟨Z.o _ _ _ HB.o,by rw[ab.o];exact⟨_,rfl,b4.o,b9.o⟩⟩
   .rw[if_neg (λh=>a6 h.2)] at ab;rw[h0] at c0;have ce:(0:Int)<(aB st.rules:Int):=by{have:=List.length_pos_iff.2 a6;omega};clear h1 h2 h4 h5 h6 aw ax hV hR hI hh G hA A z;go_wp2;refine cF (v:=aL #[aJ #[St ⟨#[]⟩,aH aW 0 0],aK false]) (by simp[results,cD,go_sem,M,E]) rfl ?_;exact⟨Z.o _ _ _ HB.o,by rw[ab.o]⟩
  .rw[if_neg (λh=>h0 h.1)] at ab;have cl:(st.st == 5)=false:=by{simp[h0]};clear h1 h2 h4 h5 h6 aw ax hV hR hI hh G hA A z;go_wp2;refine cF (v:=aL #[aJ #[St ⟨#[]⟩,aH aW 0 0],aK false]) (by simp[results,cD,go_sem,M,E]) rfl ?_;exact⟨Z.o _ _ _ HB.o,by rw[ab.o]⟩
 .rw[hfo] at ab C;simp only at ab C;have az:c≠0:=tU _ _ _ _ _ hfo;have ca:(c == 0)=false:=by{simp[az]};clear hfo;go_enter Tryz.func49,cO;go_wp2_with fail;refine (C.o _ rfl).mono ?_;rintro e W1 ⟨G,rfl⟩;have A:=hB.o _ _ G;have z:=bq.o W1 A;have M:aC W1 (Ad N 0)=aV (St ⟨#[]⟩):=(by simp[aC,z]);have y0:aD W1 (Ad N 0)=false:=(by simp[aD,z]);have E:aC W1 (Ad N 1)=aV (aH aW 0 0):=(by simp[aC,z]);have y1:aD W1 (Ad N 1)=false:=(by simp[aD,z]);clear z;go_wp2;refine cF (v:=aL #[aJ #[St ⟨#[]⟩,aH aW 0 0],aK false]) (by simp[results,cD,go_sem,M,E]) rfl ?_;exact⟨Z.o _ _ _ A,by rw[ab.o]⟩
theorem EN(s:ByteArray)(w:Wq)(hs:s.size<=4611686018427387904)(z:cE 0 1 w):Cs 49 #[St s] w (pH s w):=by
 by_cases d:300<bU s
 .exact CK s w hs d
 .grind [EK]
