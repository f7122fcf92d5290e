/- rules.ReadAtom: a text that is one atom. -/
import Derived.Test.YtjajnhemgphefaaGreatDoorJTake2
set_option linter.unusedVariables false
set_option linter.unusedSimpArgs false
set_option maxRecDepth 100000
set_option maxHeartbeats 4000000
namespace Go.Proofs.YtjajnhemgphefaaGreatDoor
open Go renaming World->Wq,Value->Vq
open Go.RowKit Go.Shelf
attribute [local go_sem] Oper.semAt_some
variable {base bS bp N A t1 b45 b87 D:Nat} {W W':Wq} {s:PSt} {y z:Vq}
theorem qnw(s:ByteArray)(i:Nat):(Utf8.decode s i).2<=4:=by
 unfold Utf8.decode;dsimp only
 repeat' split
 all_goals simp
theorem ql1(s:ByteArray):∀f pos,s.size<=pos+f->s.size<=pos+4*Lib.runeCountFrom s f pos
 | 0,pos,h=>by simp[Lib.runeCountFrom];omega
 | f+1,pos,h=>by
  unfold Lib.runeCountFrom;split
  ·rename_i hp;have h1:=Lib.decode_width_pos s pos hp;have h2:=qnw s pos;have:=ql1 s f (pos+(Utf8.decode s pos).2) (by omega);omega
  ·omega
theorem qcs(s:ByteArray):s.size<=4*Lib.runeCount s:=by
 have:=ql1 s s.size 0 (by omega);unfold Lib.runeCount;omega
theorem qgs(s:ByteArray)(w:Wq)(hs:s.size < 9223372036854775807) :
  Calls Tryz.prog 95 #[.string s] w λe w'=>e=.returned (.int .i64 (Lib.runeCount s))/\∃pos,w'=w.alloc (.stringIter s pos):=Tryz.utf8_RuneCountInString s w hs
theorem PAt.keptAll(h:PAt base bS W bp s)(hk:∀(k:Nat) (c:Array Vq) (t:TypeId),W.heap[k]?=some (Obj.cells c t (0,0))->W'.heap[k]?=some (Obj.cells c t (0,0)))(hsz:W.heap.size<=W'.heap.size):PAt base bS W' bp s:=by
 obtain⟨vr,va,vv,b45,b87,h1,h2,h3,h4,h5,h6,h7,hh,hV,hR,ps,e1,e2,e3,e4⟩:=h
 exact⟨vr,va,vv,b45,b87,h1,h2,Nat.le_trans h3 hsz,Nat.le_trans h4 hsz,h5,h6,Nat.le_trans h7 hsz,hk _ _ _ hh,q8 hV (λg c _ hc=>hk g c _ hc),hR.kept (λg c _ hc=>hk g c _ hc) (λk c _ hc=>hk k c _ hc) (λk c _ hc=>hk k c _ hc),
  ps,e1,q8 e2 (λg c _ hc=>hk g c _ hc),λp hp=>(e3 p hp).kept (λk c _ hc=>hk k c _ hc),λp hp=>q8 (e4 p hp) (λg c _ hc=>hk g c _ hc)⟩
theorem qj{row:Option Nat}(hg:W.grownBy W' row)(hr:∀r,row=some r->∃o:Obj,W.heap[r]?=some o/\o.isCells=false) :
  ∀(k:Nat) (c:Array Vq) (t:TypeId) (fz:Nat×Nat),W.heap[k]?=some (Obj.cells c t fz)->W'.heap[k]?=some (Obj.cells c t fz):=by
 intro k c t fz hk;rw[hg.block k (zg hk).1 (λe=>?_)]
 ·exact hk
 ·obtain⟨o,ho,hc⟩:=hr k e.symm;rw[hk] at ho;cases ho;simp[Obj.isCells] at hc
theorem qa6{w:Wq}(h:Below N w W)(hN:w.heap.size=N):N<=W.heap.size:=by have:=h.size;omega
theorem qbv{B:Nat}{t:TypeId}{v:Vq}(h:Boxed W B t v)(u:Vq):Boxed (W.setCell ⟨B,0,none⟩ u) B t u:=Qi h 0 u
theorem qzd{t2:Nat}(h1:Boxed W A t1 y)(h2:Boxed W (A+1) t2 z)(b c:Vq) :
  Boxed ((W.setCell ⟨A,0,none⟩ b).setCell ⟨A+1,0,none⟩ c) A t1 b/\Boxed ((W.setCell ⟨A,0,none⟩ b).setCell ⟨A+1,0,none⟩ c) (A+1) t2 c/\
  Chg W ((W.setCell ⟨A,0,none⟩ b).setCell ⟨A+1,0,none⟩ c) (λj=>j=A\/j=A+1)/\KeepsOthers W ((W.setCell ⟨A,0,none⟩ b).setCell ⟨A+1,0,none⟩ c):=by
 refine⟨(qbv h1 b).other (by omega) _,qbv (h2.other (by omega) _) c,?_,?_⟩
 ·exact ((Chg.refl W _).setCell ⟨A,0,none⟩ b (λ_=>.inl rfl)).setCell ⟨A+1,0,none⟩ c (λ_=>.inr rfl)
 ·exact (KeepsOthers.setCell _ _ _).trans (KeepsOthers.setCell _ _ _)
theorem Qa.keep{v:Vq}{l:List Rl}(h:Qa W base b45 b87 v l)(hk:∀(k:Nat) (c:Array Vq) (t:TypeId),(t=136\/t=92\/t=166)->W.heap[k]?=some (Obj.cells c t (0,0))->W'.heap[k]?=some (Obj.cells c t (0,0))):Qa W' base b45 b87 v l:=
 h.kept (λg c _ hc=>hk g c _ (.inl rfl) hc) (λk c _ hc=>hk k c _ (.inr (.inl rfl)) hc) (λk c _ hc=>hk k c _ (.inr (.inr rfl)) hc)
theorem qrh{W2:Wq}{t2:Nat}(h1:Boxed W2 A t1 y)(h2:Boxed W2 (A+1) t2 z)(hK:W2.heap[D]?=some (.deferred (some []))) :
  (W2.putObj D (.deferred none)).cell? ⟨A,0,none⟩=some y/\(W2.putObj D (.deferred none)).cell? ⟨A+1,0,none⟩=some z/\
  ∀(k:Nat) (c:Array Vq) (t:TypeId) (fz:Nat×Nat),W2.heap[k]?=some (Obj.cells c t fz)->(W2.putObj D (.deferred none)).heap[k]?=some (Obj.cells c t fz):=by
 have hk:=qj (grownBy_putObj' W2 D (.deferred none)) (λr e=>by cases e;exact⟨_,hK,rfl⟩);exact⟨Boxed.cell (t:=t1) (hk _ _ _ _ h1),Boxed.cell (t:=t2) (hk _ _ _ _ h2),hk⟩
theorem qmi{w:Wq}{o:Obj}(h:Below N w W)(hN:N<=D)(hsz:N<=W.heap.size):Below N w (W.putObj D o):=
 h.grown (grownBy_putObj' W D o) hsz (λk e=>by cases e;exact hN)
theorem q6y{t2:Nat}(h1:Boxed W A t1 y)(h2:Boxed W (A+1) t2 z){k:Nat}{c:Array Vq}{t:TypeId}(hk:W.heap[k]?=some (Obj.cells c t (0,0)))(a1:t≠t1)(a2:t≠t2):¬(k=A\/k=A+1):=by
 unfold Boxed at h1 h2;rintro (rfl | rfl)
 ·rw[hk] at h1;cases h1;exact a1 rfl
 ·rw[hk] at h2;cases h2;exact a2 rfl
theorem PAt.keptT(h:PAt base bS W bp s)(hk:∀(k:Nat) (c:Array Vq) (t:TypeId),t=179\/t=136\/t=92\/t=166\/t=9->W.heap[k]?=some (Obj.cells c t (0,0))->W'.heap[k]?=some (Obj.cells c t (0,0)))(hsz:W.heap.size<=W'.heap.size):PAt base bS W' bp s:=by
 obtain⟨vr,va,vv,b45,b87,h1,h2,h3,h4,h5,h6,h7,hh,hV,hR,ps,e1,e2,e3,e4⟩:=h
 exact⟨vr,va,vv,b45,b87,h1,h2,Nat.le_trans h3 hsz,Nat.le_trans h4 hsz,h5,h6,Nat.le_trans h7 hsz,hk _ _ _ (by simp) hh,q8 hV (λg c _ hc=>hk g c _ (by simp) hc),hR.kept (λg c _ hc=>hk g c _ (by simp) hc) (λk c _ hc=>hk k c _ (by simp) hc) (λk c _ hc=>hk k c _ (by simp) hc),
  ps,e1,q8 e2 (λg c _ hc=>hk g c _ (by simp) hc),λp hp=>(e3 p hp).kept (λk c _ hc=>hk k c _ (by simp) hc),λp hp=>q8 (e4 p hp) (λg c _ hc=>hk g c _ (by simp) hc)⟩
def qie(s:ByteArray)(base bp:Nat)(w:Wq)(e:Ending)(w':Wq):Prop:=
 Below base w w'/\match Q0 qb0 (qch s.size s 0) with
 | (_,some (c,p))=>e=.returned (.tuple #[.int .i64 c,.int .i64 p])
 | (st,none)=>e=.returned (.tuple #[.int .i64 0,.int .i64 0])/\ql9 st/\∃bS,PAt base bS w' bp st
theorem ql5(s:ByteArray)(bp:Nat)(w:Wq)(hs:s.size<=4611686018427387904)(hlong:300 < Lib.runeCount s) :
  Calls Tryz.prog 90 #[.pointer (some ⟨bp,0,none⟩),.string s] w λe w'=>e=.returned (.tuple #[.int .i64 1,.int .i64 0])/\Below w.heap.size w w':=by
 have hl:(300:Int) < (Lib.runeCount s:Int):=by omega
 refine (callsIn_wide (n:=6)).1 ?_;refine callsIn_of_wp_marks Tryz.func90 rfl trivial ?_ rfl;simp only[Tryz.ntmps90,List.size_toArray,List.length_cons,List.length_nil,Nat.reduceAdd,Nat.reduceSub,Array.replicate_succ,Array.replicate_zero,List.push_toArray,List.append_toArray,List.nil_append,List.cons_append]
 gi_wp2_with (refine⟨trivial,?_⟩;gi_at_call 95;refine (callsIn_wide.2 (qgs _ _ (by omega))).mono ?_;rintro e w' ⟨rfl,pos,rfl⟩)
 refine⟨.tuple #[.int .i64 1,.int .i64 0],by simp[results,Tryz.results90,go_sem],rfl,?_⟩;exact (((((Below.refl _ _).alloc zl _).alloc (by simp) _).alloc (by simp;omega) _).alloc (by simp;omega) _)
theorem qka(s:ByteArray)(w00:Wq)(base bp:Nat)(w:Wq)(hshort:Lib.runeCount s<=300)(hT:Lib.Utf8Tabs 0 1 w00)(hw00:w00.heap.size=base)(hB00:Below base w00 w)(hbw:base<=bp)(hh0:w.heap[bp]?=some (Obj.cells #[.int .i64 0,.slice none 0 0,.slice none 0 0,.slice none 0 0] 179)) :
  Calls Tryz.prog 90 #[.pointer (some ⟨bp,0,none⟩),.string s] w (qie s base bp w):=by
 have hs:s.size<=1200:=by have:=qcs s;omega
 have hl:decide ((300:Int) < (Lib.runeCount s:Int))=false:=by simp;omega
 have Qez:bp < w.heap.size:=(zg hh0).1;have qg6:base<=w.heap.size:=by omega
 refine (callsIn_wide (n:=6)).1 ?_;refine callsIn_of_wp_marks Tryz.func90 rfl trivial ?_ rfl;simp only[Tryz.ntmps90,List.size_toArray,List.length_cons,List.length_nil,Nat.reduceAdd,Nat.reduceSub,Array.replicate_succ,Array.replicate_zero,List.push_toArray,List.append_toArray,List.nil_append,List.cons_append]
 gi_wp2_with (first | (refine⟨trivial,?_⟩;gi_at_call 95;refine (callsIn_wide.2 (qgs _ _ (by omega))).mono ?_;rintro e w' ⟨rfl,pos,rfl⟩) | (refine⟨trivial,?_⟩;gi_at_call 96;refine (callsIn_wide.2 (q5z _ _)).mono ?_;rintro e w' ⟨rfl,rfl⟩))
 have hm1:Lib.runeCount s<=s.size:=Lib.runeCount_le s;generalize hrc:Lib.runeCount s=rc at *;have HRC:Hid (Lib.runeCount s=rc):=hrc;clear hrc;obtain⟨N,hN⟩:∃N,w.heap.size=N:=⟨_,rfl⟩;obtain⟨W0,hW0⟩:∃W0,(((((w.alloc (.cells #[.pointer (some ⟨bp,0,none⟩)] 268)).alloc (.cells #[.int .i64 0] 23)).alloc (.cells #[.int .i64 0] 3)).alloc (.stringIter s pos)).alloc (.cells #[.string s] 9))=W0:=⟨_,rfl⟩;have hsz:W0.heap.size=N+5:=by rw[<- hW0,<- hN];simp
 have hBw:Below w.heap.size w W0:=by
  rw[<- hW0];exact (((((Below.refl _ _).alloc zl _).alloc (by simp) _).alloc (by simp;omega) _).alloc (by simp;omega) _).alloc (by simp;omega) _
 have hB0:Below base w W0:=hBw.mono qg6
 have b0:Boxed W0 N 268 (.pointer (some ⟨bp,0,none⟩)):=by
  rw[<- hW0,<- hN];exact ((((Boxed.new w _ _).alloc _).alloc _).alloc _).alloc _
 have b1:Boxed W0 (N+1) 23 (.int .i64 0):=by
  have:=(((Boxed.new (w.alloc (.cells #[.pointer (some ⟨bp,0,none⟩)] 268)) 23 (.int .i64 0)).alloc (.cells #[.int .i64 0] 3)).alloc (.stringIter s pos)).alloc (.cells #[.string s] 9);rw[World.size_alloc,hN,hW0] at this;exact this
 have b2:Boxed W0 (N+1+1) 3 (.int .i64 0):=by
  have:=((Boxed.new ((w.alloc (.cells #[.pointer (some ⟨bp,0,none⟩)] 268)).alloc (.cells #[.int .i64 0] 23)) 3 (.int .i64 0)).alloc (.stringIter s pos)).alloc (.cells #[.string s] 9);rw[World.size_alloc,World.size_alloc,hN,hW0] at this;exact this
 have b5:Boxed W0 (N+4) 9 (.string s):=by
  have:=Boxed.new ((((w.alloc (.cells #[.pointer (some ⟨bp,0,none⟩)] 268)).alloc (.cells #[.int .i64 0] 23)).alloc (.cells #[.int .i64 0] 3)).alloc (.stringIter s pos)) 9 (.string s);simp only[World.size_alloc] at this;rw[hN,hW0] at this;exact this
 have hP0:PAt base (N+5) W0 bp qb0:=⟨_,_,_,base,base,Nat.le_refl _,Nat.le_refl _,by omega,by omega,hbw,by omega,by omega,(hBw.block bp Qez).trans hh0,World.ownsRow_nil _ _ _ _,⟨[],rfl,World.ownsRow_nil _ _ _ _,by simp⟩,[],rfl,World.ownsRow_nil _ _ _ _,by simp,by simp⟩;simp only[hN];rw[hW0];clear hW0 hh0;have hTB:Below w00.heap.size w00 W0:=by rw[hw00];exact hB00.trans hB0
 refine wpIn_rangeFunc_ownH rfl (by decide) (gf:=158) (lb:=#[.pointer (some ⟨N+4,0,none⟩)]) rfl trivial (enters_of Tryz.func158 (by kernel_rfl) rfl)
  (qzp 5 (by decide) (N+4) s hs w00 hT W0 hTB (by omega) b5.cell) qcq.tr (qcq.put (by omega)) (Below.refl _ _) (λ_=>rfl)
  (λpre W=>∃st,Q0 qb0 pre=(st,none)/\ql9 st/\PAt base (N+5) W bp st/\Boxed W N 268 (.pointer (some ⟨bp,0,none⟩))/\Boxed W (N+1) 23 (.int .i64 0)/\Boxed W (N+1+1) 3 (.int .i64 0)/\Below base w W/\N<=W.heap.size)
  (λc pre W=>c=.ret/\∃(st:PSt) (pre':List Tok) (x:Tok),pre=pre'++[x]/\Q0 qb0 pre'=(st,none)/\(qaf st x.kind x.text x.runes).1≠0/\Boxed W (N+1) 23 (.int .i64 (qaf st x.kind x.text x.runes).1)/\Boxed W (N+1+1) 3 (.int .i64 x.place)/\Below base w W/\N<=W.heap.size)
  ?hI ?hIx ?h0
  (λx a' W=>∃Bx,W.heap[Bx]?=some (Obj.cells (qec x.kind x.text x.place x.runes) 191)/\a'={tmps:=#[.pointer (some ⟨bp,0,none⟩),.string s,.pointer (some ⟨N,0,none⟩),undef,.pointer (some ⟨N+1,0,none⟩),.pointer (some ⟨N+1+1,0,none⟩),.pointer (some ⟨Bx,0,none⟩),undef,.string s,.int .i64 rc,.bool false,.string s,.func (.func 158) #[] #[.pointer (some ⟨N+1+1+1+1,0,none⟩)],x.v,undef,undef,undef,undef,undef,undef,undef,undef],defers:=[]})
  ?hAx ?assign ?body ?done ?stop
 case hI=>
  rintro pre W W' row ⟨st,h1,h2,h3,h4,h5,h6,h7,h8⟩ hg hr;have hk:=qj hg (λr e=>(hr r e).2);exact⟨st,h1,h2,h3.keptAll (λk c t h=>hk k c t _ h) hg.size,hk _ _ _ _ h4,hk _ _ _ _ h5,hk _ _ _ _ h6,h7.grown hg (by omega) (λk e=>by have:=(hr k e).1;omega),Nat.le_trans h8 hg.size⟩
 case hIx=>
  rintro c pre W W' row ⟨rfl,st,pre',x,h1,h2,h3,h5,h6,h7,h8⟩ hg hr;have hk:=qj hg (λr e=>(hr r e).2);exact⟨rfl,st,pre',x,h1,h2,h3,hk _ _ _ _ h5,hk _ _ _ _ h6,h7.grown hg (by omega) (λk e=>by have:=(hr k e).1;omega),Nat.le_trans h8 hg.size⟩
 case h0=>exact⟨qb0,rfl,⟨by decide,by decide,by simp[qb0],λ_=>rfl,λh=>absurd rfl h,λh=>absurd rfl h,by simp[qb0],by simp[qb0]⟩,hP0,b0,b1,b2,hB0,by omega⟩
 case hAx=>
  rintro x a' _ W W' row ⟨Bx,h2,h3⟩ hg hr;exact⟨Bx,qj hg (λr e=>(hr r e).2) _ _ _ _ h2,h3⟩
 case assign=>
  rintro l pre x W K ⟨st,h1,h2,h3,h4,h5,h6,h7,h8⟩ hK;have HK:Hid _:=hK;clear hK;unfold Tok.v qbk qec
  gi_wp2
  have hbl:Below W.heap.size W (W.alloc (.cells #[.int .i64 x.kind,.string x.text,.int .i64 x.place,.int .i64 x.runes] 191)):=(Below.refl _ W).alloc zl _;refine HK.out _ _ ((KeepsOthers.alloc _ _).from _) ⟨hbl.mono (by omega),λk c fz hk=>(Below.heap_alloc _ _ _ (zg hk).1).trans hk⟩ ⟨st,h1,h2,h3.below hbl,h4.alloc _,h5.alloc _,h6.alloc _,h7.alloc (by omega) _,by simp;omega⟩ ⟨W.heap.size,World.alloc_heap_new W _,rfl⟩
 case body=>
  rintro l pre x a' W hl ⟨r,hr⟩ ⟨st,h1,h2,h3,h4,h5,h6,h7,h8⟩ ⟨Bx,hbx,rfl⟩ hlt;have HT:=Qao base (N+5) bp st x.kind x.text x.ok x.place x.runes W h3 h2;generalize hts:qaf st x.kind x.text x.runes=ts at HT;obtain⟨ec,st'⟩:=ts;have kp:=h4.cell;have k0:W.cell? ⟨Bx,0,none⟩=some (.int .i64 x.kind):=by simp[World.cell?,hbx,qec]
  have k1:W.cell? ⟨Bx,1,none⟩=some (.string x.text):=by simp[World.cell?,hbx,qec]
  have k2:W.cell? ⟨Bx,2,none⟩=some (.int .i64 x.place):=by simp[World.cell?,hbx,qec]
  have k3:W.cell? ⟨Bx,3,none⟩=some (.int .i64 x.runes):=by simp[World.cell?,hbx,qec]
  unfold qbk qec at HT;have HTS:Hid (qaf st x.kind x.text x.runes=(ec,st')):=hts;have H1:Hid (Q0 qb0 pre=(st,none)):=h1;clear hts h1
  gi_wp2_with fail
  refine⟨trivial,?_⟩;refine (CallsIn.inRound l (callsIn_wide.2 HT)).mono ?_;rintro e W1 ⟨rfl,hP1,hF1⟩
  have hnp:∀(B:Nat) (c:Array Vq) (t:TypeId),t≠179->t≠136->t≠92->t≠166->t≠9->W.heap[B]?=some (Obj.cells c t (0,0))->W1.heap[B]?=some (Obj.cells c t (0,0)):=by
   intro B c t a1 a2 a3 a4 a5 hB;exact hF1.same B _ hB (λc' t' fz' e=>by cases e;exact⟨a1,a2,a3,a4,a5⟩)
  have g4:Boxed W1 N 268 (.pointer (some ⟨bp,0,none⟩)):=hnp _ _ _ (by decide) (by decide) (by decide) (by decide) (by decide) h4;have g5:Boxed W1 (N+1) 23 (.int .i64 0):=hnp _ _ _ (by decide) (by decide) (by decide) (by decide) (by decide) h5;have g6:Boxed W1 (N+1+1) 3 (.int .i64 0):=hnp _ _ _ (by decide) (by decide) (by decide) (by decide) (by decide) h6;have gx:=hnp _ _ _ (by decide) (by decide) (by decide) (by decide) (by decide) hbx;have hKF:KeepsFrom W0.heap.size W W1:=⟨hF1.low.size,λk o _ hk ho=>hF1.same k o hk (λc t fz e=>by subst e;simp[Obj.isCells] at ho)⟩;have hRK:qcq w00.heap.size W W1:=⟨by rw[hw00];exact hF1.low,λk c fz hk=>hF1.same k _ hk (λc' t' fz' e=>by cases e;exact⟨by decide,by decide,by decide,by decide,by decide⟩)⟩;have hBN:Below base w W1:=h7.trans hF1.low;have hN1:N<=W1.heap.size:=Nat.le_trans h8 hF1.low.size;by_cases hec:ec=0
  ·subst hec;clear hF1 hnp HT
   gi_wp2
   refine⟨hKF,hRK,st',?_,?_,hP1,g4,g5,g6,hBN,hN1⟩
   ·rw[qlg _ _ _ _ H1.out];simp[Q0,HTS.out]
   ·have:=qr9 st x.kind x.text x.runes x.ok h2 (by rw[HTS.out]);rw[HTS.out] at this;exact this
  ·have Qgt:(ec == 0)=false:=by simp[hec]
   have c5:=g5.cell;have c6:=g6.cell;have f5:=g5.frozen;have f6:=g6.frozen;have cx:W1.cell? ⟨Bx,2,none⟩=some (.int .i64 x.place):=by simp[World.cell?,gx,qec]
   have n1:N+1≠Bx:=by intro e;subst e;unfold Boxed at g5;rw[gx] at g5;simp at g5
   have n2:N+1+1≠Bx:=by intro e;subst e;unfold Boxed at g6;rw[gx] at g6;simp at g6
   clear hF1 hnp HT k0 k1 k2 k3 kp
   gi_wp2
   gi_region
   all_goals
    gi_wp2
    obtain⟨t1,t2,tc,tk⟩:=qzd g5 g6 (.int .i64 ec) (.int .i64 x.place);refine⟨⟨Nat.le_trans hKF.size tk.size,λk o hk ho hc=>tk.same k o (hKF.same k o hk ho hc) hc⟩,rfl,st,pre,x,rfl,H1.out,by rw[HTS.out];exact hec,by rw[HTS.out];exact t1,t2,(hBN.trans (tc.below (by omega) (λk e=>by omega))).drew,?_⟩;exact Nat.le_trans hN1 tc.size
 case done=>
  rintro D xs W hD rfl ⟨st,h1,h2,h3,h4,h5,h6,h7,h8⟩ hK;have c5:=h5.cell;have c6:=h6.cell;have f5:=h5.frozen;have f6:=h6.frozen;have H1:Hid (Q0 qb0 (qch s.size s 0)=(st,none)):=h1;clear h1
  gi_wp2
  obtain⟨t1,t2,tc,tk⟩:=qzd h5 h6 (.int .i64 0) (.int .i64 0);refine⟨by simp,.inl ⟨_,_,rfl,run_takeDeferred (tk.same D _ hK rfl),?_⟩⟩;obtain⟨d1,d2,dk⟩:=qrh t1 t2 (tk.same D _ hK rfl);refine⟨.tuple #[.int .i64 0,.int .i64 0],by simp[results,Tryz.results90,go_sem,d1,d2],?_⟩;have hBf:=qmi (D:=D) (o:=.deferred none) (h7.trans (tc.below (by omega) (λk e=>by omega))) (by omega) (Nat.le_trans (by omega) tc.size);refine⟨hBf,?_⟩;rw[H1.out];refine⟨rfl,h2,N+5,h3.keptT (λk c t ht hc=>dk k c t _ ?_) (Nat.le_trans tc.size (grownBy_putObj' _ D _).size)⟩;rw[tc.block k (zg hc).1 (q6y h5 h6 hc (by rcases ht with rfl | rfl | rfl | rfl | rfl <;> decide) (by rcases ht with rfl | rfl | rfl | rfl | rfl <;> decide))];exact hc
 case stop=>
  rintro D c pre W hD qiu ⟨rfl,st,pre',x,rfl,h1,h2,h5,h6,h7,h8⟩ hK
  have qbr:Hid (Q0 qb0 (qch s.size s 0)=(st,some ((qaf st x.kind x.text x.runes).1,x.place))):=by
   show _=_;obtain⟨tl,htl⟩:=qiu;rw[<- htl,List.append_assoc,qlg _ _ _ _ h1];simp[Q0,h2]
  generalize (qaf st x.kind x.text x.runes).1=ec at *
  gi_wp2
  refine⟨by simp,.inl ⟨_,_,rfl,run_takeDeferred hK,?_⟩⟩;obtain⟨d1,d2,dk⟩:=qrh h5 h6 hK;refine⟨.tuple #[.int .i64 ec,.int .i64 x.place],by simp[results,Tryz.results90,go_sem,d1,d2],?_⟩;refine⟨qmi h7 (by omega) (by omega),?_⟩;rw[qbr.out]
theorem qx6(s:ByteArray)(w:Wq)(hs:s.size<=4611686018427387904)(hlong:300 < Lib.runeCount s) :
  Calls Tryz.prog 60 #[.string s] w λe w'=>e=.returned (.tuple #[.slice none 0 0,.int .i64 1,.int .i64 0])/\Below w.heap.size w w':=by
 have h:Hid (∀bp W,Calls Tryz.prog 90 #[.pointer (some ⟨bp,0,none⟩),.string s] W λe w'=>e=.returned (.tuple #[.int .i64 1,.int .i64 0])/\Below W.heap.size W w'):=λbp W=>ql5 s bp W hs hlong;go_enter Tryz.func60,Tryz.ntmps60
 go_wp2_with (go_at_call 90;refine (h.out _ _).mono ?_;rintro e w' ⟨rfl,hb⟩)
 go_ret3
 exact⟨rfl,((Below.refl _ w).alloc zl _).trans (hb.mono (by simp))⟩
def qq3(s:ByteArray)(w:Wq)(e:Ending)(w':Wq):Prop:=
 Below w.heap.size w w'/\match qdv s with
  | .error (c,p)=>e=.returned (.tuple #[.slice none 0 0,.int .i64 c,.int .i64 p])
  | .ok rs=>∃v b45 b87,e=.returned (.tuple #[v,.int .i64 0,.int .i64 0])/\w.heap.size<=b45/\w.heap.size<=b87/\Qa w' w.heap.size b45 b87 v rs/\rs.length<=8/\∀r∈rs,qcd r
theorem qvp(s:ByteArray)(w:Wq)(hshort:Lib.runeCount s<=300)(hT:Lib.Utf8Tabs 0 1 w) :
  Calls Tryz.prog 60 #[.string s] w (qq3 s w):=by
 have hs:s.size<=1200:=by have:=qcs s;omega
 have hTK:Hid (∀O,O=Obj.cells #[.int .i64 0,.slice none 0 0,.slice none 0 0,.slice none 0 0] 179 (0,0)->Calls Tryz.prog 90 #[.pointer (some ⟨w.heap.size,0,none⟩),.string s] (w.alloc O) (qie s w.heap.size w.heap.size (w.alloc O))):=by
  rintro O rfl;exact qka s w w.heap.size w.heap.size _ hshort hT rfl ((Below.refl _ w).alloc zl _) zl (World.alloc_heap_new w _)
 have hB:Hid (∀O W',Below w.heap.size (w.alloc O) W'->Below w.heap.size w W'):=λO W' h=>((Below.refl _ w).alloc zl O).trans h;have hPR:Hid (qdv s=match Q0 qb0 (qch s.size s 0) with | (_,some ep)=>.error ep | (st,none)=>if st.st=0 then .ok st.rules else .error (2,Lib.runeCount s)):=rfl;unfold qie at hTK;unfold qq3;rcases hfo:Q0 qb0 (qch s.size s 0) with⟨st,_ | ⟨c,p⟩⟩
 ·rw[hfo] at hPR hTK;simp only at hPR hTK;by_cases h0:st.st=0
  ·rw[if_pos h0] at hPR;rw[hPR.out];clear hfo;go_enter Tryz.func60,Tryz.ntmps60;go_wp2_with fail;refine (hTK.out _ rfl).mono ?_;rintro e W1 ⟨hb1,rfl,hI,bS,hP⟩;obtain⟨vr,va,vv,b45,b87,h1,h2,h4,h5,h6,hS1,hS2,hh,hV,hR,_⟩:=hP;rw[h0] at hh;have c0:W1.cell? ⟨w.heap.size,0,none⟩=some (.int .i64 0):=by simp[World.cell?,hh]
   have c1:W1.cell? ⟨w.heap.size,1,none⟩=some vr:=by simp[World.cell?,hh]
   obtain⟨ra,rc,rfl⟩:∃a c,vr=.slice a st.rules.length c:=by
    obtain⟨qs,q1,q2,q3⟩:=hR;obtain⟨a,c,e⟩:=qn q2;exact⟨a,c,by rw[e,<- q1];simp⟩
   have HF:Hid _:=And.intro (And.intro h1 h2) (And.intro hR hI);have HB:Hid _:=hb1;clear h1 h2 h4 h5 h6 hS1 hS2 hV hR hI hh hb1;go_wp2
   go_ret3
   exact⟨hB.out _ _ HB.out,_,b45,b87,rfl,HF.out.1.1,HF.out.1.2,HF.out.2.1,HF.out.2.2.rules,HF.out.2.2.good⟩
  ·rw[if_neg h0] at hPR;rw[hPR.out];clear hfo;have h0':(st.st == 0)=false:=by simp[h0]
   go_enter Tryz.func60,Tryz.ntmps60;go_wp2_with fail;refine (hTK.out _ rfl).mono ?_;rintro e W1 ⟨hb1,rfl,hI,bS,hP⟩;have c0:=hP.cell0.1;have HB:Hid _:=hb1;clear hP hI hb1
   go_wp2_with (go_at_call 95;refine (qgs _ _ (by omega)).mono ?_;rintro e w' ⟨rfl,pos,rfl⟩)
   go_ret3
   exact⟨(hB.out _ _ HB.out).alloc (by have:=HB.out.size;simp at this;omega) _,rfl⟩
 ·rw[hfo] at hPR hTK;simp only at hPR hTK;rw[hPR.out];have hc0:c≠0:=qje _ _ _ _ _ hfo;have hc':(c == 0)=false:=by simp[hc0]
  clear hfo hc0;go_enter Tryz.func60,Tryz.ntmps60
  go_wp2_with (go_at_call 90;refine (hTK.out _ rfl).mono ?_;rintro e W1 ⟨hb1,rfl⟩)
  go_ret3
  exact⟨hB.out _ _ hb1,rfl⟩
def qc7(s:ByteArray):Option Am:=
 if 300 < Lib.runeCount s then none
 else match Q0 qb0 (qch s.size s 0) with
  | (_,some _)=>none
  | (st,none)=>if st.st=5/\st.rules=[] then st.atoms.head? else none
def qgv(s:ByteArray)(w:Wq)(e:Ending)(w':Wq):Prop:=
 Below w.heap.size w w'/\match qc7 s with
  | none=>e=.returned (.tuple #[.agg #[.string ⟨#[]⟩,.slice none 0 0],.bool false])
  | some a=>∃va,e=.returned (.tuple #[.agg #[.string a.rel,va],.bool true])/\qjs a/\Qd w' w'.heap.size va a.args
def qh6(W:Wq)(N:Nat)(x:ByteArray)(v:Vq):Wq:=(W.setCell ⟨N,0,none⟩ (.string x)).setCell ⟨N,1,none⟩ v
theorem qi4{w:Wq}(h:Below N w W)(x:ByteArray)(v:Vq):Below N w (qh6 W N x v):=
 (h.setCell (p:=⟨N,0,none⟩) zl _).setCell (p:=⟨N,1,none⟩) zl _
theorem qpw(W:Wq)(N:Nat)(x:ByteArray)(v:Vq):(qh6 W N x v).heap.size=W.heap.size:=by simp[qh6]
theorem qnm(W:Wq)(N:Nat)(x:ByteArray)(v:Vq){k:Nat}(h:k≠N):(qh6 W N x v).heap[k]?=W.heap[k]?:=
 (Below.heap_setCell _ _ _ _ (by show k≠N;exact h)).trans (Below.heap_setCell _ _ _ _ (by show k≠N;exact h))
theorem q2c{w:Wq}(hN:w.heap.size=N)(hb:Below (N+1) (w.alloc (.cells #[.string ⟨#[]⟩,.slice none 0 0] 92)) W) :
  W.heap[N]?=some (Obj.cells #[.string ⟨#[]⟩,.slice none 0 0] 92):=by
 have:=World.alloc_heap_new w (.cells #[.string ⟨#[]⟩,.slice none 0 0] 92);rw[hN] at this;exact (hb.block N (by omega)).trans this
theorem qq0(s:ByteArray)(w:Wq)(hs:s.size<=4611686018427387904)(hlong:300 < Lib.runeCount s) :
  Calls Tryz.prog 49 #[.string s] w (qgv s w):=by
 obtain⟨N,hN⟩:∃N,w.heap.size=N:=⟨_,rfl⟩
 have h:Hid (∀O,Calls Tryz.prog 90 #[.pointer (some ⟨N+1,0,none⟩),.string s] ((w.alloc (.cells #[.string ⟨#[]⟩,.slice none 0 0] 92)).alloc O) λe w'=>e=.returned (.tuple #[.int .i64 1,.int .i64 0])/\Below (N+1) (w.alloc (.cells #[.string ⟨#[]⟩,.slice none 0 0] 92)) w'):=λO=>by
  refine (ql5 s _ _ hs hlong).mono ?_;rintro e w' ⟨h1,h2⟩;exact⟨h1,((Below.refl _ _).alloc (by simp;omega) O).trans (h2.mono (by simp;omega))⟩
 have ha:Hid (qc7 s=none):=by show _=_;unfold qc7;rw[if_pos hlong]
 unfold qgv;rw[ha.out];have hbw:Below N w (w.alloc (.cells #[.string ⟨#[]⟩,.slice none 0 0] 92)):=(Below.refl _ w).alloc (by omega) _;have HN:Hid _:=hN;go_enter Tryz.func49,Tryz.ntmps49
 go_wp2_with (go_at_call 90;refine (h.out _).mono ?_;rintro e W1 ⟨rfl,hb⟩;have p1:=q2c HN.out hb;have q0:W1.cell? ⟨N,0,none⟩=some (.string ⟨#[]⟩):=(by simp[World.cell?,p1]);have y0:W1.frozen? ⟨N,0,none⟩=false:=(by simp[World.frozen?,p1]);have q1:W1.cell? ⟨N,1,none⟩=some (.slice none 0 0):=(by simp[World.cell?,p1]);have y1:W1.frozen? ⟨N,1,none⟩=false:=(by simp[World.frozen?,p1]))
 refine bodyPost_ret (v:=.tuple #[.agg #[.string ⟨#[]⟩,.slice none 0 0],.bool false]) (by simp[results,Tryz.results49,go_sem,q0,q1]) rfl ?_;exact⟨by rw[HN.out];exact qi4 (hbw.trans (hb.mono (by omega))) _ _,rfl⟩
theorem q8r.first{v:Vq}{a:Am}{l:List Am}(h:q8r W b45 b87 v (a::l))(hb:b87<=W.heap.size) :
  ∃g c va,v=.slice (some ⟨g,0,none⟩) (l.length+1) c/\W.cell? ⟨g,0,none⟩=some (.string a.rel)/\W.cell? ⟨g,1,none⟩=some va/\Qd W W.heap.size va a.args/\g < W.heap.size/\b45<=g:=by
 obtain⟨ps,h1,h2,h3,h4⟩:=h
 cases ps with
 | nil=>simp at h1
 | cons p ps=>
  simp only[List.map_cons,List.cons.injEq] at h1;obtain⟨rfl,rfl⟩:=h1;obtain⟨g,cap,rfl,hg1,hg2,hc,Ql⟩:=qbq h2 (λ_=>rfl) (by simp);refine⟨g,cap,p.2,by simp,Ql 0 0 (by simp) _ (by decide) rfl,Ql 0 1 (by simp) _ (by decide) rfl,?_,hg2,hg1⟩
  cases ps with
  | nil=>exact Qd.ofOwns (h4 p rfl)
  | cons q qs=>exact (h3 p (by simp)).mono hb
theorem qpx(s:ByteArray)(w:Wq)(hshort:Lib.runeCount s<=300)(hT:Lib.Utf8Tabs 0 1 w) :
  Calls Tryz.prog 49 #[.string s] w (qgv s w):=by
 obtain⟨N,hN⟩:∃N,w.heap.size=N:=⟨_,rfl⟩;obtain⟨WA,hWA⟩:∃WA,w.alloc (.cells #[.string ⟨#[]⟩,.slice none 0 0] 92)=WA:=⟨_,rfl⟩;have hsA:WA.heap.size=N+1:=by rw[<- hWA,<- hN];simp
 have hbw:Below N w WA:=by rw[<- hWA];exact (Below.refl _ w).alloc (by omega) _
 have hTA:Lib.Utf8Tabs 0 1 WA:=Utf8Tabs_below hT (by rw[hN];exact hbw)
 have hTK:Hid (∀O,O=Obj.cells #[.int .i64 0,.slice none 0 0,.slice none 0 0,.slice none 0 0] 179 (0,0)->Calls Tryz.prog 90 #[.pointer (some ⟨N+1,0,none⟩),.string s] (WA.alloc O) (qie s (N+1) (N+1) (WA.alloc O))):=by
  rintro O rfl;exact qka s WA (N+1) (N+1) _ hshort hTA hsA ((Below.refl _ WA).alloc (by omega) _) zl (by rw[<- hsA];exact World.alloc_heap_new WA _)
 have hB:Hid (∀O W',Below (N+1) (WA.alloc O) W'->Below (N+1) WA W'):=λO W' h=>((Below.refl _ WA).alloc (by omega) O).trans h
 have hPR:Hid (qc7 s=match Q0 qb0 (qch s.size s 0) with | (_,some _)=>none | (st,none)=>if st.st=5/\st.rules=[] then st.atoms.head? else none):=by
  show _=_;unfold qc7;rw[if_neg (by omega)]
 have qae:Hid (∀W1,Below (N+1) WA W1->W1.heap[N]?=some (Obj.cells #[.string ⟨#[]⟩,.slice none 0 0] 92)):=λW1 hb=>q2c hN (by rw[hWA];exact hb);have q9:Hid (∀W1 x v,Below (N+1) WA W1->Below w.heap.size w (qh6 W1 N x v)):=λW1 x v hb=>by rw[hN];exact qi4 (hbw.trans (hb.mono (by omega))) _ _
 unfold qie at hTK;clear hTA hT hbw;rcases hfo:Q0 qb0 (qch s.size s 0) with⟨st,_ | ⟨c,p⟩⟩
 ·rw[hfo] at hPR hTK;simp only at hPR hTK;clear hfo;go_enter Tryz.func49,Tryz.ntmps49;go_wp2_with fail;refine (hTK.out _ rfl).mono ?_;rintro e W1 ⟨hb1,rfl,hI,bS,hP⟩;have hb2:=hB.out _ _ hb1;have p1:=qae.out W1 hb2;have q0:W1.cell? ⟨N,0,none⟩=some (.string ⟨#[]⟩):=(by simp[World.cell?,p1]);have y0:W1.frozen? ⟨N,0,none⟩=false:=(by simp[World.frozen?,p1]);have q1:W1.cell? ⟨N,1,none⟩=some (.slice none 0 0):=(by simp[World.cell?,p1]);have y1:W1.frozen? ⟨N,1,none⟩=false:=(by simp[World.frozen?,p1]);obtain⟨vr,va,vv,b45,b87,h1,h2,h4,h5,h6,hS1,hS2,hh,hV,hR,hA⟩:=hP;have c0:W1.cell? ⟨N+1,0,none⟩=some (.int .i64 st.st):=by simp[World.cell?,hh]
  have c1:W1.cell? ⟨N+1,1,none⟩=some vr:=by simp[World.cell?,hh]
  have c2:W1.cell? ⟨N+1,2,none⟩=some va:=by simp[World.cell?,hh]
  obtain⟨ra,rc,rfl⟩:∃a c,vr=.slice a st.rules.length c:=by
   obtain⟨qs,q1,q2,q3⟩:=hR;obtain⟨a,c,e⟩:=qn q2;exact⟨a,c,by rw[e,<- q1];simp⟩
  have HB:Hid _:=hb2;by_cases h0:st.st=5
  ·by_cases hr0:st.rules=[]
   ·rw[if_pos ⟨h0,hr0⟩] at hPR;rw[hr0] at c1;rw[h0] at c0
    cases hat:st.atoms with
    | nil=>exact absurd hat (hI.some (by rw[h0];decide))
    | cons a l=>
     rw[hat] at hA hPR;have hav:qjs a:=hI.ams a (by rw[hat];simp);obtain⟨g,cc,vx,rfl,d0,d1,hsl,hg,Qgw⟩:=hA.first h5
     have hgN:N≠g:=by omega
     obtain⟨xa,xc,rfl⟩:=hsl.form
     have HSL:Hid (Qd (qh6 W1 N a.rel (.slice xa a.args.length xc)) (qh6 W1 N a.rel (.slice xa a.args.length xc)).heap.size (.slice xa a.args.length xc) a.args):=by
      show Qd _ _ _ _;rw[qpw];refine hsl.kept (λk c _ hc=>(qnm _ _ _ _ (λe=>?_)).trans hc);rw[e,p1] at hc;cases hc
     have HAV:Hid _:=hav;simp only[List.head?_cons] at hPR;simp only[List.length_nil] at c1;clear h1 h2 h4 h5 h6 hS1 hS2 hV hR hI hh hb1 hA hsl hav hb2 p1;go_wp2;refine bodyPost_ret (v:=.tuple #[.agg #[.string a.rel,.slice xa a.args.length xc],.bool true]) (by simp[results,Tryz.results49,go_sem,q0,q1]) rfl ?_;exact⟨q9.out _ _ _ HB.out,by rw[hPR.out];exact⟨_,rfl,HAV.out,HSL.out⟩⟩
   ·rw[if_neg (λh=>hr0 h.2)] at hPR;rw[h0] at c0
    have Q7:(0:Int) < (st.rules.length:Int):=by
     have:=List.length_pos_iff.2 hr0;omega
    clear h1 h2 h4 h5 h6 hS1 hS2 hV hR hI hh hb1 hA hb2 p1;go_wp2;refine bodyPost_ret (v:=.tuple #[.agg #[.string ⟨#[]⟩,.slice none 0 0],.bool false]) (by simp[results,Tryz.results49,go_sem,q0,q1]) rfl ?_;exact⟨q9.out _ _ _ HB.out,by rw[hPR.out]⟩
  ·rw[if_neg (λh=>h0 h.1)] at hPR;have h0':(st.st == 5)=false:=by simp[h0]
   clear h1 h2 h4 h5 h6 hS1 hS2 hV hR hI hh hb1 hA hb2 p1;go_wp2;refine bodyPost_ret (v:=.tuple #[.agg #[.string ⟨#[]⟩,.slice none 0 0],.bool false]) (by simp[results,Tryz.results49,go_sem,q0,q1]) rfl ?_;exact⟨q9.out _ _ _ HB.out,by rw[hPR.out]⟩
 ·rw[hfo] at hPR hTK;simp only at hPR hTK;have hc0:c≠0:=qje _ _ _ _ _ hfo;have hc':(c == 0)=false:=by simp[hc0]
  clear hfo;go_enter Tryz.func49,Tryz.ntmps49;go_wp2_with fail;refine (hTK.out _ rfl).mono ?_;rintro e W1 ⟨hb1,rfl⟩;have hb2:=hB.out _ _ hb1;have p1:=qae.out W1 hb2;have q0:W1.cell? ⟨N,0,none⟩=some (.string ⟨#[]⟩):=(by simp[World.cell?,p1]);have y0:W1.frozen? ⟨N,0,none⟩=false:=(by simp[World.frozen?,p1]);have q1:W1.cell? ⟨N,1,none⟩=some (.slice none 0 0):=(by simp[World.cell?,p1]);have y1:W1.frozen? ⟨N,1,none⟩=false:=(by simp[World.frozen?,p1]);clear p1;go_wp2;refine bodyPost_ret (v:=.tuple #[.agg #[.string ⟨#[]⟩,.slice none 0 0],.bool false]) (by simp[results,Tryz.results49,go_sem,q0,q1]) rfl ?_;exact⟨q9.out _ _ _ hb2,by rw[hPR.out]⟩
theorem qtg(s:ByteArray)(w:Wq)(hs:s.size<=4611686018427387904)(hT:Lib.Utf8Tabs 0 1 w) :
  Calls Tryz.prog 49 #[.string s] w (qgv s w):=by
 by_cases hl:300 < Lib.runeCount s
 ·exact qq0 s w hs hl
 ·exact qpx s w (by omega) hT
