/- Package model: the text of a ground atom; texts in order. -/
import Derived.Test.YtjajnhemgphefaaGreatDoorJMoB
import Derived.Test.YtjajnhemgphefaaGreatDoorMore
import Derived.Shelf.SlSortCmp.NoneTotal
set_option linter.unusedVariables false
set_option linter.unusedSimpArgs false
set_option maxRecDepth 100000
set_option maxHeartbeats 1000000
namespace Go.Proofs.YtjajnhemgphefaaGreatDoor
open Go renaming World->Wq,Value->Vq
open Go.RowKit Go.Shelf
def qfg{α:Type}(m n gf:Nat)(lb:Array Vq)(encs:α->Array Vq)(Kp:Wq->Wq->Prop)(S Sp:List α->Prop)(N:Nat)(w:Wq):Prop:=
 ∀(l:Nat) (J Jx:List α->Wq->Prop) (W:Wq),Below w.heap.size w W->m<=W.heap.size->OwnFrom W.heap.size J->OwnFrom W.heap.size Jx->
  (∀pre x W1,J pre W1->pre.length < N->YieldAt Fence.wide (n - 1) Tryz.prog l (encs x) W1 λe W'=>
   (e=.returned (.bool true)/\J (pre++[x]) W'/\Kp W1 W')\/(e=.returned (.bool false)/\Jx (pre++[x]) W'/\KeepsFrom m W1 W'))->
  J [] W->CallsIn Fence.wide n Tryz.prog gf (#[.func (.yield l) #[] #[]]++lb) W λe W'=>(∃v,e=.returned v)/\((∃xs,S xs/\J xs W')\/(∃pre,Sp pre/\Jx pre W'))
theorem q1w{n n' l:Nat}{args:Array Vq}{w:Wq}{R:Ending->Wq->Prop}(h:YieldAt Fence.wide n Tryz.prog l args w R):YieldAt Fence.wide n' Tryz.prog l args w R:=by
 obtain⟨fn,tmps,assign,body,hy,hR⟩:=h;exact⟨fn,tmps,assign,body,hy,⟨hR.1,λc cs _=>hR.2 c cs (room_wide _)⟩⟩
theorem qfg.any{α:Type}{m n gf:Nat}{lb:Array Vq}{encs:α->Array Vq}{Kp:Wq->Wq->Prop}{S Sp:List α->Prop}{N:Nat}{w:Wq}(h:qfg m n gf lb encs Kp S Sp N w)(n':Nat):qfg m n' gf lb encs Kp S Sp N w:=
 λl J Jx W hW hsz hJ hJx hY h0=>callsIn_wide.2 (callsIn_wide.1 (h l J Jx W hW hsz hJ hJx (λpre x W1 h1 h2=>q1w (hY pre x W1 h1 h2)) h0))
structure qf6(I:Wq->Prop)(D:Nat)(rec:Loop)(W:Wq):Prop where
 inv:I W
 loop:W.heap[D]?=some (.loop rec)
theorem qf6.own{β:Type}{I:β->Wq->Prop}{B D:Nat}{rec:β->Loop}(hI:OwnFrom B I)(hB:D+1<=B):OwnFrom B (λs=>qf6 (I s) D (rec s)):=by
 rintro s W W' row ⟨h1,h2⟩ hg hr;exact⟨hI s W W' row h1 hg hr,(hg.block D (zg h2).1 (λe=>by have:=(hr D e.symm).1;omega)).trans h2⟩
section
variable {α:Type} {n gf:Nat} {lb:Array Vq} {encs:α->Array Vq} {Kp:Wq->Wq->Prop} {S Sp:List α->Prop} {N:Nat}
theorem qfx{g:Operand}{ps:Array Tmp}{assign body:Code}{Q:Exit->Act->Wq->Prop}{a:Act}{w:Wq}(hg:a.eval g=.func (.func gf) #[] lb)(eg:∀args w,(callFunc gf args).run Tryz.prog w=.ok (.enter gf args) w)(hseq:qfg (w.heap.size+2) (n - 1) gf lb encs Kp S Sp N w)(hKt:∀{A B C:Wq},Kp A B->Kp B C->Kp A C)(hKb:∀(W:Wq) (rc:Loop) (o':Obj),W.heap[w.heap.size+1]?=some (.loop rc)->Kp W (W.putObj (w.heap.size+1) o'))(hps:∀x,(encs x).size=ps.size)(I:List α->Wq->Prop)(Ix:Code->List α->Wq->Prop)(hI:OwnFrom w.heap.size I)(hIx:∀c,OwnFrom w.heap.size (Ix c))(h0:I [] w)(Ax:α->Act->Wq->Prop)(hAx:∀x a',OwnFrom w.heap.size (λ(_:Unit) W=>Ax x a' W))(hassign:∀(l:Nat) (pre:List α) (x:α) (W:Wq) (K:Act->Wq->Prop),w.heap.size<=l->(∃r,W.heap[l]?=some (.loop r))->I pre W->(∀a' W',KeepsFrom w.heap.size W W'->Kp W W'->I pre W'->Ax x a' W'->K a' W')->
   assign.wpIn (Fence.wide.inRound l) (n - 1 - 1) Tryz.prog (Exit.then K (λ_ _ _=>False)) {tmps:=(ps.zip (encs x)).foldl (λt (p,v)=>t.setIfInBounds p v) a.tmps,defers:=[]} W)(qo1:∀(l:Nat) (pre:List α) (x:α) (a':Act) (W:Wq),w.heap.size<=l->(∃r,W.heap[l]?=some (.loop r))->I pre W->Ax x a' W->pre.length < N->body.wpIn (Fence.wide.inRound l) (n - 1 - 1) Tryz.prog (ownPostG w.heap.size Kp I Ix (pre++[x]) W) a' W)(qlj:∀(D:Nat) (xs:List α) (W:Wq),w.heap.size<=D->S xs->I xs W->W.heap[D]?=some (.deferred (some []))->Q .normal {a with defers:={target:=.collected D,args:=#[]}::a.defers} W)(qiw:∀(D:Nat) (c:Code) (pre:List α) (W:Wq),w.heap.size<=D->Sp pre->Ix c pre W->W.heap[D]?=some (.deferred (some []))->c.wpIn Fence.wide n Tryz.prog Q {a with defers:={target:=.collected D,args:=#[]}::a.defers} W) :
  (Code.rangeFunc g ps assign body).wpIn Fence.wide n Tryz.prog Q a w:=by
 refine wpIn_rangeFunc (λfn hfn=>?_)
 let rc:LoopState->Option Code->Loop:=λst pe=>{state:=st,pending:=pe,fn:=fn,tmps:=a.tmps,params:=ps,assign:=assign,body:=body,defers:=w.heap.size}
 let wA:=w.alloc (.deferred (some []))
 let wB:=wA.alloc (.loop (rc .ready none))
 have sA:wA.heap.size=w.heap.size+1:=by simp[wA]
 have sB:wB.heap.size=w.heap.size+2:=by simp[wB,wA]
 have gB:Below w.heap.size w wB:=((Below.refl _ w).alloc zl _).alloc (by simp) _
 have quw:qep (I []) w.heap.size (rc .ready none) wB:=by
  refine⟨hI _ _ _ none h0 (qh gB) (λr e=>by cases e),?_,?_⟩
  ·have:=World.alloc_heap_new wA (.loop (rc .ready none));rw[sA] at this;exact this
  ·exact (Below.heap_alloc wA _ _ (by omega)).trans (World.alloc_heap_new w _)
 have turn:∀{I':Wq->Prop} {r:Loop} (r':Loop) {W:Wq},OwnFrom w.heap.size (λ(_:Unit)=>I')->qep I' w.heap.size r W->qep I' w.heap.size r' (W.putObj (w.heap.size+1) (.loop r')):=by
  intro I' r r' W ho hh;exact⟨ho.putObj (s:=()) _ hh.inv (by omega) hh.loop rfl,World.putObj_heap_same (zg hh.loop).1,(World.putObj_heap_other (by omega)).trans hh.mark⟩
 have oI:∀pre,OwnFrom w.heap.size (λ(_:Unit)=>I pre):=λpre _ A B row hs hg' hr=>hI pre A B row hs hg' hr;have oX:∀c pre,OwnFrom w.heap.size (λ(_:Unit)=>Ix c pre):=λc pre _ A B row hs hg' hr=>hIx c pre A B row hs hg' hr;have up:∀{β:Type} {X:β->Wq->Prop},OwnFrom w.heap.size X->OwnFrom wB.heap.size X:=λh s A B row hs hg' hr=>h s A B row hs hg' (λr e=>⟨by have:=(hr r e).1;omega,(hr r e).2⟩);have oJ:OwnFrom wB.heap.size (λpre=>qep (I pre) w.heap.size (rc .ready none)):=qep.own (up hI) (by omega)
 have oJx:OwnFrom wB.heap.size (λpre W=>∃c,qep (Ix c pre) w.heap.size (rc .done (some c)) W):=by
  rintro pre A B row ⟨c,hc⟩ hg' hr;exact⟨c,qep.own (I:=λ_:Unit=>Ix c pre) (rec:=λ_=>rc .done (some c)) (up (oX c pre)) (by omega) () A B row hc hg' hr⟩
 refine⟨w.heap.size+1,[{target:=.collected w.heap.size,args:=#[]}],wB,{target:=.fn (.func gf) lb,args:=#[.func (.yield (w.heap.size+1)) #[] #[]]},wB,gf,#[.func (.yield (w.heap.size+1)) #[] #[]]++lb,wB,run_enterLoop_outer _ _ _ _ _,?_,λ_ _=>trivial,?_,(λh=>(by cases h)),?_⟩
 ·simp only[resolve,hg];simp[go_sem]
 ·simp[invoke,go_sem,eg]
 refine (hseq (w.heap.size+1) (λpre=>qep (I pre) w.heap.size (rc .ready none)) (λpre W=>∃c,qep (Ix c pre) w.heap.size (rc .done (some c)) W) wB gB (by omega) oJ oJx ?_ quw).mono ?_
 ·intro pre x W hh Q7;have hy:=run_yield (P:=Tryz.prog) (args:=encs x) hh.loop (hps x);refine⟨fn,_,assign,body,hy,roundIn_of_wpIn trivial (hassign _ pre x W _ (by omega) ⟨_,hh.loop⟩ hh.inv ?_)⟩;intro a' Wa kA kpA iA axA;have hhA:qep (I pre) w.heap.size (rc .ready none) Wa:=⟨iA,kA.same _ _ (by omega) hh.loop rfl,kA.same _ _ zl hh.mark rfl⟩;refine⟨_,run_beginRound hhA.loop rfl,?_⟩;have hhB:=turn {rc .ready none with state:=.busy} (oI pre) hhA;have kpB:=hKb Wa _ (.loop {rc .ready none with state:=.busy}) hhA.loop;refine wpIn_mono (qo1 _ pre x a' _ (by omega) ⟨_,hhB.loop⟩ hhB.inv ((hAx x a').putObj (s:=()) _ axA (by omega) hhA.loop rfl) Q7) ?_;intro e a3 W3 hp
  have done:∀(jump:Option Code) {I':Wq->Prop},OwnFrom w.heap.size (λ(_:Unit)=>I')->KeepsFrom w.heap.size (Wa.putObj (w.heap.size+1) (.loop {rc .ready none with state:=.busy})) W3->I' W3->
    ∃W4,(Instr.endRound (w.heap.size+1) jump).run Tryz.prog W3=.ok (.bool jump.isNone) W4/\qep I' w.heap.size (rc (if jump.isNone then .ready else .done) jump) W4/\Kp W3 W4/\KeepsFrom (w.heap.size+2) W W4:=by
   intro jump I' ho kf i3;have h3:qep I' w.heap.size {rc .ready none with state:=.busy} W3:=⟨i3,kf.same _ _ (by omega) hhB.loop rfl,kf.same _ _ zl hhB.mark rfl⟩;exact⟨_,run_endRound jump h3.loop,turn _ ho h3,hKb _ _ _ h3.loop,KeepsFrom.tr (KeepsFrom.tr (KeepsFrom.tr (KeepsFrom.up kA (by omega)) (KeepsFrom.put _ _ _ (by omega))) (KeepsFrom.up kf (by omega))) (KeepsFrom.put _ _ _ (by omega))⟩
  cases e with
  | normal=>
   obtain⟨kf,kp,i3⟩:=hp;obtain⟨W4,hr,h4,k4,_⟩:=done none (oI _) kf i3;exact⟨_,_,hr,.inl ⟨rfl,h4,hKt kpA (hKt kpB (hKt kp k4))⟩⟩
  | ret=>
   obtain⟨kf,i3⟩:=hp;obtain⟨W4,hr,h4,_,k4⟩:=done (some .ret) (oX _ _) kf i3;exact⟨_,_,hr,.inr ⟨rfl,⟨_,h4⟩,k4⟩⟩
  | exit id=>
   obtain⟨kf,i3⟩:=hp;obtain⟨W4,hr,h4,_,k4⟩:=done (some (.exit id)) (oX _ _) kf i3;exact⟨_,_,hr,.inr ⟨rfl,⟨_,h4⟩,k4⟩⟩
  | goto t=>
   obtain⟨kf,i3⟩:=hp;obtain⟨W4,hr,h4,_,k4⟩:=done (some (.goto t)) (oX _ _) kf i3;exact⟨_,_,hr,.inr ⟨rfl,⟨_,h4⟩,k4⟩⟩
  | panic ch=>exact hp.elim
  | outgrown=>exact hp.elim
 ·rintro e W2 ⟨⟨v,rfl⟩,(⟨xs,hS,hh⟩ | ⟨pre,hSp,c,hh⟩)⟩
  ·have h2:=turn {rc .ready none with state:=.exhausted} (oI xs) hh;exact⟨none,_,run_endLoop hh.loop (by intro h;cases h),qlj _ xs _ zl hS h2.inv h2.mark⟩
  ·have h2:=turn {rc .done (some c) with state:=.exhausted} (oX c pre) hh;exact⟨some c,_,run_endLoop hh.loop (by intro h;cases h),qiw _ c pre _ zl hSp h2.inv h2.mark⟩
theorem q05{g:Operand}{ps:Array Tmp}{assign body:Code}{Q:Exit->Act->Wq->Prop}{a:Act}{w:Wq}{l₀:Nat}{r₀:Loop}(hl₀:w.heap[l₀]?=some (.loop r₀))(hg:a.eval g=.func (.func gf) #[] lb)(eg:∀args w,(callFunc gf args).run Tryz.prog w=.ok (.enter gf args) w)(hseq:qfg (w.heap.size+1) (n - 1) gf lb encs Kp S Sp N w)(hKt:∀{A B C:Wq},Kp A B->Kp B C->Kp A C)(hKb:∀(W:Wq) (rc:Loop) (o':Obj),W.heap[w.heap.size]?=some (.loop rc)->Kp W (W.putObj w.heap.size o'))(hps:∀x,(encs x).size=ps.size)(I:List α->Wq->Prop)(Ix:Code->List α->Wq->Prop)(hI:OwnFrom w.heap.size I)(hIx:∀c,OwnFrom w.heap.size (Ix c))(h0:I [] w)(Ax:α->Act->Wq->Prop)(hAx:∀x a',OwnFrom w.heap.size (λ(_:Unit) W=>Ax x a' W))(hassign:∀(l:Nat) (pre:List α) (x:α) (W:Wq) (K:Act->Wq->Prop),w.heap.size<=l->(∃r,W.heap[l]?=some (.loop r))->I pre W->(∀a' W',KeepsFrom w.heap.size W W'->Kp W W'->I pre W'->Ax x a' W'->K a' W')->
   assign.wpIn (Fence.wide.inRound l) (n - 1 - 1) Tryz.prog (Exit.then K (λ_ _ _=>False)) {tmps:=(ps.zip (encs x)).foldl (λt (p,v)=>t.setIfInBounds p v) a.tmps,defers:=[]} W)(qo1:∀(l:Nat) (pre:List α) (x:α) (a':Act) (W:Wq),w.heap.size<=l->(∃r,W.heap[l]?=some (.loop r))->I pre W->Ax x a' W->pre.length < N->body.wpIn (Fence.wide.inRound l) (n - 1 - 1) Tryz.prog (ownPostG w.heap.size Kp I Ix (pre++[x]) W) a' W)(qlj:∀(xs:List α) (W:Wq),S xs->I xs W->Q .normal a W)(qiw:∀(c:Code) (pre:List α) (W:Wq),Sp pre->Ix c pre W->c.wpIn (Fence.wide.inRound l₀) n Tryz.prog Q a W) :
  (Code.rangeFunc g ps assign body).wpIn (Fence.wide.inRound l₀) n Tryz.prog Q a w:=by
 refine wpIn_rangeFunc (λfn hfn=>?_)
 let rc:LoopState->Option Code->Loop:=λst pe=>{state:=st,pending:=pe,fn:=fn,tmps:=a.tmps,params:=ps,assign:=assign,body:=body,defers:=r₀.defers}
 let wB:=w.alloc (.loop (rc .ready none))
 have sB:wB.heap.size=w.heap.size+1:=by simp[wB]
 have gB:Below w.heap.size w wB:=(Below.refl _ w).alloc zl _;have quw:qf6 (I []) w.heap.size (rc .ready none) wB:=⟨hI _ _ _ none h0 (qh gB) (λr e=>by cases e),World.alloc_heap_new w _⟩
 have turn:∀{I':Wq->Prop} {r:Loop} (r':Loop) {W:Wq},OwnFrom w.heap.size (λ(_:Unit)=>I')->qf6 I' w.heap.size r W->qf6 I' w.heap.size r' (W.putObj w.heap.size (.loop r')):=by
  intro I' r r' W ho hh;exact⟨ho.putObj (s:=()) _ hh.inv zl hh.loop rfl,World.putObj_heap_same (zg hh.loop).1⟩
 have oI:∀pre,OwnFrom w.heap.size (λ(_:Unit)=>I pre):=λpre _ A B row hs hg' hr=>hI pre A B row hs hg' hr;have oX:∀c pre,OwnFrom w.heap.size (λ(_:Unit)=>Ix c pre):=λc pre _ A B row hs hg' hr=>hIx c pre A B row hs hg' hr;have up:∀{β:Type} {X:β->Wq->Prop},OwnFrom w.heap.size X->OwnFrom wB.heap.size X:=λh s A B row hs hg' hr=>h s A B row hs hg' (λr e=>⟨by have:=(hr r e).1;omega,(hr r e).2⟩);have oJ:OwnFrom wB.heap.size (λpre=>qf6 (I pre) w.heap.size (rc .ready none)):=qf6.own (up hI) (by omega)
 have oJx:OwnFrom wB.heap.size (λpre W=>∃c,qf6 (Ix c pre) w.heap.size (rc .done (some c)) W):=by
  rintro pre A B row ⟨c,hc⟩ hg' hr;exact⟨c,qf6.own (I:=λ_:Unit=>Ix c pre) (rec:=λ_=>rc .done (some c)) (up (oX c pre)) (by omega) () A B row hc hg' hr⟩
 refine⟨w.heap.size,[],wB,{target:=.fn (.func gf) lb,args:=#[.func (.yield w.heap.size) #[] #[]]},wB,gf,#[.func (.yield w.heap.size) #[] #[]]++lb,wB,run_enterLoop_inner hl₀ _ _ _ _ _,?_,λ_ _=>trivial,?_,(λh=>(by cases h)),?_⟩
 ·simp only[resolve,hg];simp[go_sem]
 ·simp[invoke,go_sem,eg]
 refine (CallsIn.inRound l₀ (hseq w.heap.size (λpre=>qf6 (I pre) w.heap.size (rc .ready none)) (λpre W=>∃c,qf6 (Ix c pre) w.heap.size (rc .done (some c)) W) wB gB (by omega) oJ oJx ?_ quw)).mono ?_
 ·intro pre x W hh Q7;have hy:=run_yield (P:=Tryz.prog) (args:=encs x) hh.loop (hps x);refine⟨fn,_,assign,body,hy,roundIn_of_wpIn trivial (hassign _ pre x W _ zl ⟨_,hh.loop⟩ hh.inv ?_)⟩;intro a' Wa kA kpA iA axA;have hhA:qf6 (I pre) w.heap.size (rc .ready none) Wa:=⟨iA,kA.same _ _ zl hh.loop rfl⟩;refine⟨_,run_beginRound hhA.loop rfl,?_⟩;have hhB:=turn {rc .ready none with state:=.busy} (oI pre) hhA;have kpB:=hKb Wa _ (.loop {rc .ready none with state:=.busy}) hhA.loop;refine wpIn_mono (qo1 _ pre x a' _ zl ⟨_,hhB.loop⟩ hhB.inv ((hAx x a').putObj (s:=()) _ axA zl hhA.loop rfl) Q7) ?_;intro e a3 W3 hp
  have done:∀(jump:Option Code) {I':Wq->Prop},OwnFrom w.heap.size (λ(_:Unit)=>I')->KeepsFrom w.heap.size (Wa.putObj w.heap.size (.loop {rc .ready none with state:=.busy})) W3->I' W3->
    ∃W4,(Instr.endRound w.heap.size jump).run Tryz.prog W3=.ok (.bool jump.isNone) W4/\qf6 I' w.heap.size (rc (if jump.isNone then .ready else .done) jump) W4/\Kp W3 W4/\KeepsFrom (w.heap.size+1) W W4:=by
   intro jump I' ho kf i3;have h3:qf6 I' w.heap.size {rc .ready none with state:=.busy} W3:=⟨i3,kf.same _ _ zl hhB.loop rfl⟩;exact⟨_,run_endRound jump h3.loop,turn _ ho h3,hKb _ _ _ h3.loop,KeepsFrom.tr (KeepsFrom.tr (KeepsFrom.tr (KeepsFrom.up kA (by omega)) (KeepsFrom.put _ _ _ (by omega))) (KeepsFrom.up kf (by omega))) (KeepsFrom.put _ _ _ (by omega))⟩
  cases e with
  | normal=>
   obtain⟨kf,kp,i3⟩:=hp;obtain⟨W4,hr,h4,k4,_⟩:=done none (oI _) kf i3;exact⟨_,_,hr,.inl ⟨rfl,h4,hKt kpA (hKt kpB (hKt kp k4))⟩⟩
  | ret=>
   obtain⟨kf,i3⟩:=hp;obtain⟨W4,hr,h4,_,k4⟩:=done (some .ret) (oX _ _) kf i3;exact⟨_,_,hr,.inr ⟨rfl,⟨_,h4⟩,k4⟩⟩
  | exit id=>
   obtain⟨kf,i3⟩:=hp;obtain⟨W4,hr,h4,_,k4⟩:=done (some (.exit id)) (oX _ _) kf i3;exact⟨_,_,hr,.inr ⟨rfl,⟨_,h4⟩,k4⟩⟩
  | goto t=>
   obtain⟨kf,i3⟩:=hp;obtain⟨W4,hr,h4,_,k4⟩:=done (some (.goto t)) (oX _ _) kf i3;exact⟨_,_,hr,.inr ⟨rfl,⟨_,h4⟩,k4⟩⟩
  | panic ch=>exact hp.elim
  | outgrown=>exact hp.elim
 ·rintro e W2 ⟨⟨v,rfl⟩,(⟨xs,hS,hh⟩ | ⟨pre,hSp,c,hh⟩)⟩
  ·have h2:=turn {rc .ready none with state:=.exhausted} (oI xs) hh;exact⟨none,_,run_endLoop hh.loop (by intro h;cases h),qlj xs _ hS h2.inv⟩
  ·have h2:=turn {rc .done (some c) with state:=.exhausted} (oX c pre) hh;exact⟨some c,_,run_endLoop hh.loop (by intro h;cases h),qiw c pre _ hSp h2.inv⟩
end
end Go.Proofs.YtjajnhemgphefaaGreatDoor
namespace Go.Proofs.YtjajnhemgphefaaGreatDoor
open Go renaming World->Wq,Value->Vq
open Go.RowKit Go.Shelf Go.Maps
attribute [local go_sem] Oper.semAt_some
variable {B base m gf N:Nat} {X Y Z W W':Wq} {lb:Array Vq}
def qo(x:Gd×Int):List Vq:=[.string x.1.rel,.string x.1.x,.string x.1.y,.int .i64 x.2]
theorem qb7(x:Gd×Int):(qo x).length=4:=rfl
theorem Tryz.infoLast:(Tryz.prog.info? 172).map (λi=>(i.zero,i.size,i.bytes))=some (some (.agg #[.string ⟨#[]⟩,.string ⟨#[]⟩,.string ⟨#[]⟩,.int .i64 0]),4,56):=by kernel_rfl
theorem qv2(v:Vq)(w:Wq)(ta:Option Addr)(tn tc:Nat)(hva:v=.slice ta tn tc) :
  Calls Tryz.prog 131 #[v] w λe w'=>e=.returned (.func (.func 186) #[] #[.pointer (some ⟨w.heap.size,0,none⟩)])/\w'=w.alloc (.cells #[v] 169):=by
 subst hva;go_enter Tryz.func131,Tryz.ntmps131;go_wp2;go_ret;exact⟨rfl,rfl⟩
structure qcw(B base m:Nat)(W W':Wq):Prop where
 block:∀(k:Nat) (o:Obj),k < B->W.heap[k]?=some o->(k < base\/∀c fz,o≠Obj.cells c 172 fz)->W'.heap[k]?=some o
 from':KeepsFrom m W W'
theorem qcw.tr(h:qcw B base m X Y)(k:qcw B base m Y Z):qcw B base m X Z:=⟨λi o hi ho hx=>k.block i o hi (h.block i o hi ho hx) hx,KeepsFrom.tr h.from' k.from'⟩
theorem qcw.ofBelow(h:Below W.heap.size W W'):qcw B base m W W':=⟨λk o _ hk _=>(h.block k (zg hk).1).trans hk,KeepsFrom.ofBelow h⟩
theorem qcw.put(W:Wq)(l:Nat)(o':Obj)(hl:l < m)(hB:B<=l):qcw B base m W (W.putObj l o'):=
 ⟨λk o hk ho _=>((grownBy_putObj' W l o').block k (zg ho).1 (by simp;omega)).trans ho,KeepsFrom.put W l o' hl⟩
theorem qni{V:Wq}{ex:Nat->Prop}(h:Chg V W' ex)(hx:∀k,k < V.heap.size->ex k->∃(c:Array Vq) (t:TypeId),V.heap[k]?=some (Obj.cells c t (0,0))):KeepsFrom m V W':=
 ⟨h.size,λk o _ hk hc=>by
  have hlt:=(zg hk).1;refine (h.block k hlt (λe=>?_)).trans hk;obtain⟨c,t,h1⟩:=hx k hlt e
  rw[h1] at hk;cases hk;cases hc⟩
theorem qfg.later{α:Type}{n:Nat}{encs:α->Array Vq}{Kp:Wq->Wq->Prop}{S Sp:List α->Prop}{w w1:Wq}(h:qfg m n gf lb encs Kp S Sp N w)(hb:Below w.heap.size w w1):qfg m n gf lb encs Kp S Sp N w1:=
 λl J Jx W hW=>h l J Jx W (hb.trans (hW.mono hb.size))
def qdr(B base:Nat)(W W':Wq):Prop:=∀(k:Nat) (o:Obj),k < B->W.heap[k]?=some o->(k < base\/∀c fz,o≠Obj.cells c 172 fz)->W'.heap[k]?=some o
theorem qdr.tr(h:qdr B base X Y)(k:qdr B base Y Z):qdr B base X Z:=λi o hi ho hx=>k i o hi (h i o hi ho hx) hx
theorem qdr.grown{row:Option Nat}(h:qdr B base X Y)(hg:Y.grownBy Z row)(hr:∀r,row=some r->B<=r):qdr B base X Z:=λi o hi ho hx=>by
 have h1:=h i o hi ho hx;exact (hg.block i (zg h1).1 (λe=>by have:=hr i e.symm;omega)).trans h1
theorem qdr.ofBelow(h:Below W.heap.size W W'):qdr B base W W':=λk o _ hk _=>(h.block k (zg hk).1).trans hk
theorem qbz(w:Wq)(x y z u:Vq)(t:TypeId):∀j q,[x,y,z,u][j]?=some q->(w.alloc (.cells #[x,y,z,u] t)).cell? ((⟨w.heap.size,0,none⟩:Addr).add j)=some q:=by
 intro j q hj
 match j,hj with
 | 0,hj=>simp at hj;subst hj;simp[Addr.add]
 | 1,hj=>simp at hj;subst hj;simp[Addr.add]
 | 2,hj=>simp at hj;subst hj;simp[Addr.add]
 | 3,hj=>simp at hj;subst hj;simp[Addr.add]
 | j+4,hj=>simp at hj
theorem qig{S Sp:List (Gd×Int)->Prop}(v:Vq)(xs:List (Gd×Int))(base:Nat)(w:Wq)(qr:w.ownsRow base 172 4 v xs.length (xs.flatMap qo))(hbw:base<=w.heap.size)(hl:xs.length+N<=2000000000000)(eg:∀args w,(callFunc gf args).run Tryz.prog w=.ok (.enter gf args) w)(hseq:∀m n,qfg m n gf lb (λx:Gd×Int=>#[.agg (qo x).toArray]) (qcw w.heap.size base m) S Sp N w) :
  Calls Tryz.prog 134 #[v,.func (.func gf) #[] lb] w λe w'=>∃v' ys,e=.returned v'/\S ys/\w'.ownsRow base 172 4 v' (xs++ys).length ((xs++ys).flatMap qo)/\Below base w w'/\qdr w.heap.size base w w':=by
 obtain⟨va0,vc0,hvf⟩:=qn qr;obtain⟨NB,hN⟩:∃N,w.heap.size=N:=⟨_,rfl⟩;obtain⟨i0,hi,hz0,hz1,hz2⟩:=info_parts Tryz.infoLast;rw[hvf] at qr ⊢;refine (callsIn_wide (n:=8)).1 ?_;refine callsIn_of_wp_marks Tryz.func134 rfl trivial ?_ rfl;simp only[Tryz.ntmps134,List.size_toArray,List.length_cons,List.length_nil,Nat.reduceAdd,Nat.reduceSub,Array.replicate_succ,Array.replicate_zero,List.push_toArray,List.append_toArray,List.nil_append,List.cons_append]
 gi_wp2
 obtain⟨W0,hW0⟩:∃W0,w.alloc (.cells #[.slice va0 xs.length vc0] 169)=W0:=⟨_,rfl⟩;have hb0:Below w.heap.size w W0:=by rw[<- hW0];exact (Below.refl _ w).alloc zl _
 have hs0:W0.heap.size=NB+1:=by rw[<- hW0,<- hN];simp
 have bV:Boxed W0 NB 169 (.slice va0 xs.length vc0):=by
  have:=Boxed.new w 169 (.slice va0 xs.length vc0);rw[hN,hW0] at this;exact this
 have qga:=qk qr hb0
 (try simp only[hN])
 rw[hW0]
 refine qfx (n:=8) (gf:=gf) (lb:=lb) rfl eg ((hseq _ _).later hb0) qcw.tr (λV rc o' ho=>qcw.put V _ o' (by omega) (by omega)) (λ_=>rfl)
  (λpre V=>∃v,Boxed V NB 169 v/\V.ownsRow base 172 4 v (xs++pre).length ((xs++pre).flatMap qo)/\Below base w V/\NB < V.heap.size/\qdr w.heap.size base w V)
  (λ_ _ _=>False)
  ?hI (λ_ _ _ _ _ h _ _=>h) ⟨_,bV,by rw[List.append_nil];exact qga,(hb0.mono hbw),by omega,qdr.ofBelow hb0⟩
  (λx a' V=>∃Bx,V.heap[Bx]?=some (Obj.cells #[.string x.1.rel,.string x.1.x,.string x.1.y,.int .i64 x.2] 172)/\a'={tmps:=#[.slice va0 xs.length vc0,.func (.func gf) #[] lb,.pointer (some ⟨NB,0,none⟩),undef,.slice none 0 0,.pointer (some ⟨Bx,0,none⟩),.func (.func gf) #[] lb,.agg #[.string x.1.rel,.string x.1.x,.string x.1.y,.int .i64 x.2],undef,undef,undef,undef,undef],defers:=[]})
  ?hAx ?assign ?body ?done (λ_ _ _ _ _ _ h _=>h.elim)
 case hI=>
  rintro pre V V' row ⟨v,h1,h2,h3,h4,h5⟩ hg hr;have hk:=qj hg (λr e=>(hr r e).2);exact⟨v,hk _ _ _ _ h1,q8 h2 (λg c _ hc=>hk g c _ _ hc),h3.grown hg (by omega) (λk e=>by have:=(hr k e).1;omega),by have:=hg.size;omega,h5.grown hg (λr e=>by have:=(hr r e).1;omega)⟩
 case hAx=>
  rintro x a' _ V V' row ⟨Bx,h2,h5⟩ hg hr;exact⟨Bx,qj hg (λr e=>(hr r e).2) _ _ _ _ h2,h5⟩
 case assign=>
  rintro l' pre t V K hl hlr ⟨v,h1,h2,h3,h4,h5⟩ hK;have HK:Hid _:=hK;clear hK;unfold qo
  gi_wp2
  have hbl:Below V.heap.size V (V.alloc (.cells #[.string t.1.rel,.string t.1.x,.string t.1.y,.int .i64 t.2] 172)):=(Below.refl _ V).alloc zl _;exact HK.out _ _ (KeepsFrom.ofBelow hbl) (qcw.ofBelow hbl) ⟨v,h1.alloc _,h2.alloc _,h3.trans (hbl.mono (by omega)),by simp;omega,h5.tr (qdr.ofBelow hbl)⟩ ⟨V.heap.size,World.alloc_heap_new V _,rfl⟩
 case body=>
  rintro l' pre t a' V hl' ⟨r,hr⟩ ⟨v,h1,h2,h3,h4,h5⟩ ⟨Bx,hbx,rfl⟩ hlt;have H5:Hid _:=h5;clear h5;have c0:V.cell? ⟨Bx,0,none⟩=some (.string t.1.rel):=by simp[World.cell?,hbx]
  have c1:V.cell? ⟨Bx,1,none⟩=some (.string t.1.x):=by simp[World.cell?,hbx]
  have c2:V.cell? ⟨Bx,2,none⟩=some (.string t.1.y):=by simp[World.cell?,hbx]
  have c3:V.cell? ⟨Bx,3,none⟩=some (.int .i64 t.2):=by simp[World.cell?,hbx]
  have cb:=h1.cell;obtain⟨va,vc,rfl⟩:=qn h2;have hln:(xs++pre).length=xs.length+pre.length:=by simp
  have qhq:(xs++pre).length+1<=maxLen:=by unfold maxLen;omega
  have qdz:((xs++pre).length+1)*56<=140737488355328:=by omega
  have Q5:Hid ((xs++(pre++[t])).flatMap qo=(xs++pre).flatMap qo++[.string t.1.rel,.string t.1.x,.string t.1.y,.int .i64 t.2]):=by
   show _=_;rw[<- List.append_assoc,List.flatMap_append];rfl
  have Qf2:Hid ((xs++(pre++[t])).length=(xs++pre).length+1):=by show _=_;simp;omega
  generalize hus:(xs++pre).length=un at *;generalize hub:(xs++pre).flatMap qo=uc at *;clear hus hub hln
  have hVN:Hid (∀w1,(V.alloc (.cells #[.string t.1.rel,.string t.1.x,.string t.1.y,.int .i64 t.2] 172)).grownBy w1 (Value.slice va un vc).ownBlock->Boxed w1 NB 169 (.slice va un vc)/\Chg V w1 (λj=>some j=(Value.slice va un vc).ownBlock)):=by
   intro w1 hg;have hc:Chg V w1 (λj=>some j=(Value.slice va un vc).ownBlock):=((Chg.refl V _).alloc _).grown hg (λk e _=>e.symm);exact⟨(hc.block _ h1.lt (λe=>Qj h2 h1 (by decide) _ e.symm rfl)).trans h1,hc⟩
  gi_wp2_with (gi_at_builtin;refine wpListIn_append_own _ rfl _ _ 169 rfl base 172 i0 (.agg #[.string ⟨#[]⟩,.string ⟨#[]⟩,.string ⟨#[]⟩,.int .i64 0]) 4 56 Tryz.underlying169 hi hz0 hz1 hz2 rfl (by decide) _ _ _ rfl (World.ownsRow.alloc h2 _) ⟨V.heap.size,0,none⟩ 1 1 [.string t.1.rel,.string t.1.x,.string t.1.y,.int .i64 t.2] rfl rfl (qbz _ _ _ _ _ _) (by simp[Value.oneCell']) qhq qdz (by simp;omega) ?_;intro v' w1 hown1 hgrow1 _;obtain⟨g',cap',hv'⟩:=ownsRow_succ hown1;subst hv';obtain⟨qcg,qxb⟩:=hVN.out w1 hgrow1;have cc:=qcg.cell;have ff:=qcg.frozen)
  have qgp:Chg V (w1.setCell ⟨NB,0,none⟩ (.slice (some ⟨g',0,none⟩) (un+1) cap')) (λj=>j=NB\/some j=(Value.slice va un vc).ownBlock):=(qxb.mono (λ_ _ e=>.inr e)).setCell ⟨NB,0,none⟩ _ (λ_=>.inl rfl)
  have hcl:∀m',KeepsFrom m' V (w1.setCell ⟨NB,0,none⟩ (.slice (some ⟨g',0,none⟩) (un+1) cap')):=λm'=>qni qgp (λj hj hx=>by
   rcases hx with rfl | hx
   ·exact⟨_,_,h1⟩
   ·obtain⟨_,c,hc⟩:=qe h2 hx.symm;exact⟨c,_,hc⟩)
  have hLB:qdr w.heap.size base V (w1.setCell ⟨NB,0,none⟩ (.slice (some ⟨g',0,none⟩) (un+1) cap')):=λk o hk ho hx=>by
   refine (qgp.block k (zg ho).1 (λe=>?_)).trans ho;rcases e with rfl | e
   ·omega
   ·obtain⟨hbk,c,hc⟩:=qe h2 e.symm;rcases hx with hx | hx
    ·omega
    ·rw[hc] at ho;cases ho;exact hx _ _ rfl
  refine⟨hcl _,⟨hLB,hcl _⟩,_,qbv qcg _,?_,?_,?_,qdr.tr H5.out hLB⟩
  ·rw[Q5.out,Qf2.out];have:=Qn hown1 ⟨NB,0,none⟩ (.slice (some ⟨g',0,none⟩) (un+1) cap') (Qj hown1 qcg (by decide));simpa using this
  ·refine h3.trans ⟨qgp.os,qgp.tape,qgp.output,qgp.size,λk hk=>?_⟩;refine qgp.block k (by omega) (λe=>?_);rcases e with rfl | e
   ·omega
   ·have:=(qe h2 e.symm).1;omega
  ·have:=qgp.size;omega
 case done=>
  rintro D ys V hD hS ⟨v,h1,h2,h3,h4,h5⟩ hK;have c1:=h1.cell
  gi_wp2
  refine⟨by simp,.inl ⟨_,_,rfl,run_takeDeferred hK,?_⟩⟩;have hk:=qj (grownBy_putObj' V D (.deferred none)) (λr e=>by cases e;exact⟨_,hK,rfl⟩);refine⟨_,results_tmp rfl _ _ _,v,ys,rfl,hS,q8 h2 (λg c _ hc=>hk g c _ _ hc),?_⟩;exact⟨qmi h3 (by omega) (by omega),h5.grown (grownBy_putObj' V D (.deferred none)) (λr e=>by cases e;omega)⟩
theorem qrv{b:Nat}{v:Vq}{xs:List (Gd×Int)}(h:W.ownsRow b 172 4 v xs.length (xs.flatMap qo)){k:Nat}(hk:k < xs.length) :
  ∃(g c:Nat),v=.slice (some ⟨g,0,none⟩) xs.length c/\W.cell? ⟨g,k*4,none⟩=some (.string (xs[k]).1.rel)/\W.cell? ⟨g,k*4+1,none⟩=some (.string (xs[k]).1.x)/\W.cell? ⟨g,k*4+2,none⟩=some (.string (xs[k]).1.y)/\W.cell? ⟨g,k*4+3,none⟩=some (.int .i64 (xs[k]).2):=by
 obtain⟨_,⟨_,hz⟩ | ⟨g,c,cur,hv,_,hw,_,_,_,htk⟩⟩:=h
 ·omega
 have q3d:∀(l:List (Gd×Int)) (i:Nat) (hi:i < l.length),(l.flatMap qo)[i*4]?=some (.string (l[i]).1.rel)/\(l.flatMap qo)[i*4+1]?=some (.string (l[i]).1.x)/\(l.flatMap qo)[i*4+2]?=some (.string (l[i]).1.y)/\(l.flatMap qo)[i*4+3]?=some (.int .i64 (l[i]).2):=by
  intro l
  induction l with
  | nil=>intro i hi;simp at hi
  | cons x l ih=>
   intro i hi
   cases i with
   | zero=>simp[qo]
   | succ i=>
    simp only[List.length_cons] at hi;have:=ih i (by omega);simp only[List.flatMap_cons,qo,List.cons_append,List.nil_append];rw[show (i+1)*4=i*4+4 by omega];exact this
 obtain⟨p0,p1,p2,p3⟩:=q3d xs k hk;rw[<- htk,List.getElem?_take,if_pos (by omega)] at p0 p1 p2 p3;refine⟨g,c,hv,?_,?_,?_,?_⟩
 ·simp only[World.cell?,hw];simpa using p0
 ·simp only[World.cell?,hw];simpa using p1
 ·simp only[World.cell?,hw];simpa using p2
 ·simp only[World.cell?,hw];simpa using p3
theorem qv3(B base Bs b:Nat)(v:Vq)(xs:List (Gd×Int))(w:Wq)(qae:w.heap[Bs]?=some (Obj.cells #[v] 169))(hBs:Bs < B)(qr:w.ownsRow b 172 4 v xs.length (xs.flatMap qo))(Q4:∀g,v.ownBlock=some g->g < base/\g < B)(hl:xs.length<=1000000)(m n0:Nat) :
  qfg m n0 186 #[.pointer (some ⟨Bs,0,none⟩)] (λx:Gd×Int=>#[.agg (qo x).toArray]) (qcw B base m) (λys=>ys=xs) (λ_=>True) xs.length w:=by
 obtain⟨n,hn⟩:∃n,12<=n:=⟨12,Nat.le_refl _⟩;refine qfg.any (n:=n) ?_ n0;have n1:1<=n:=by omega
 intro l J Jx W hW hsz hJ hJx hY h0;have hbW:=(hW.block Bs (zg qae).1).trans qae;have qxf:=qk qr hW;clear qae qr hW;obtain⟨va,vc,rfl⟩:=qn qxf;have c0:W.cell? ⟨Bs,0,none⟩=some (.slice va xs.length vc):=by simp[World.cell?,hbW]
 have HY:Hid _:=hY;have HJ:Hid (OwnFrom W.heap.size J):=hJ;have HJx:Hid (OwnFrom W.heap.size Jx):=hJx;clear hY hJ hJx;refine callsIn_of_wp_marks Tryz.func186 rfl trivial ?_ rfl;simp only[Tryz.ntmps186,List.size_toArray,List.length_cons,List.length_nil,Nat.reduceAdd,Nat.reduceSub,Array.replicate_succ,Array.replicate_zero,List.push_toArray,List.append_toArray,List.nil_append,List.cons_append]
 gi_wp2
 refine wpIn_loop (λA V=>∃(k:Nat) (u4 u8 u9 u10 u11 u12 u13 u14 u15:Vq),A={tmps:=#[.func (.yield l) #[] #[],.pointer (some ⟨Bs,0,none⟩),undef,undef,u4,.slice va xs.length vc,.int .i64 xs.length,.int .i64 k,u8,u9,u10,u11,u12,u13,u14,u15],defers:=[]}/\k<=xs.length/\J (xs.take k) V/\qcw B base m W V) (λA _=>xs.length - (intOf (A.tmps.getD 7 undef)).toNat) ⟨0,_,_,_,_,_,_,_,_,_,rfl,Nat.zero_le _,by simpa using h0,qcw.ofBelow (Below.refl _ _)⟩ ?_;rintro A V ⟨k,u4,u8,u9,u10,u11,u12,u13,u14,u15,rfl,hk,hJk,hLk⟩;by_cases hlt:k < xs.length
 ·have hoV:V.ownsRow b 172 4 (.slice va xs.length vc) xs.length (xs.flatMap qo):=q8 qxf (λg c hg hc=>hLk.block g _ (Q4 g hg).2 hc (.inl (Q4 g hg).1));obtain⟨g,c,e0,x0,x1,x2,x3⟩:=qrv hoV hlt;cases e0;have hal:∀O,Below V.heap.size V (V.alloc O):=λO=>(Below.refl _ V).alloc zl O;have Q5:Hid (xs.take (k+1)=xs.take k++[xs[k]]):=by show _=_;rw[List.take_succ_eq_append_getElem hlt]
  obtain⟨fn,tmps,assign,body,hy,hR⟩:=HY.out (xs.take k) xs[k] (V.alloc (.cells #[.string (xs[k]).1.rel,.string (xs[k]).1.x,.string (xs[k]).1.y,.int .i64 (xs[k]).2] 172)) (HJ.out _ _ _ none hJk (qh (hal _)) (λr e=>by cases e)) (by simp;omega);unfold qo at hy;generalize hxk:xs[k]=xk at *;have HLK:Hid _:=hLk;have HB:Hid _:=hal;clear hoV qxf hal hLk hxk
  gi_wp2
  refine hR.mono ?_;rintro e W1 (⟨rfl,hJ1,hk1⟩ | ⟨rfl,hJx1,_⟩)
  ·clear hy hR
   gi_wp2
   refine⟨⟨k+1,_,_,_,_,_,_,_,_,_,rfl,by omega,by rw[Q5.out];exact hJ1,(qcw.tr HLK.out (qcw.ofBelow (HB.out _))).tr hk1⟩,?_⟩;simp[intOf];omega
  ·clear hy hR
   gi_wp2
   exact⟨_,results_none rfl _ _ _,⟨_,rfl⟩,.inr ⟨_,trivial,hJx1⟩⟩
 ·have hkl:k=xs.length:=by omega
  subst hkl;rw[List.take_length] at hJk
  gi_wp2
  exact⟨_,results_none rfl _ _ _,⟨_,rfl⟩,.inl ⟨xs,rfl,hJk⟩⟩
def q2m(x y:Gd×Int):Int:=Lib.compareInt x.2 y.2
theorem qxu(x y:Gd×Int)(w:Wq):Calls Tryz.prog 132 #[.agg (qo x).toArray,.agg (qo y).toArray] w λe w'=>e=.returned (.int .i64 (q2m x y))/\∃q os,w'=Sort.grow (w.drewN q) os:=by
 unfold qo q2m;have hc:=λW=>Tryz.cmp_Compare_int x.2 y.2 W;go_enter Tryz.func132,Tryz.ntmps132
 go_wp2_with (go_at_call 133;refine (hc _).mono ?_;rintro e W1 ⟨rfl,rfl⟩)
 go_ret;refine⟨rfl,0,#[Obj.cells #[.string x.1.rel,.string x.1.x,.string x.1.y,.int .i64 x.2] 172] ++ #[Obj.cells #[.string y.1.rel,.string y.1.x,.string y.1.y,.int .i64 y.2] 172],?_⟩;rw[Sort.alloc_eq_grow,Sort.alloc_eq_grow];show Sort.grow (Sort.grow w _) _=Sort.grow w _;rw[Sort.grow_grow]
theorem qrl(x0:Gd×Int):∀(xs:List (Gd×Int)) (t:Nat),t < xs.length*4->(xs.flatMap qo)[t]?=(qo (xs[t / 4]?.getD x0))[t % 4]?
 | [],t,h=>by simp at h
 | x::xs,t,h=>by
  by_cases h4:t < 4
  ·have hc:t=0\/t=1\/t=2\/t=3:=by omega
   rcases hc with rfl | rfl | rfl | rfl <;> simp[qo]
  ·obtain⟨s,rfl⟩:∃s,t=s+4:=⟨t - 4,by omega⟩;simp only[List.length_cons] at h;have ih:=qrl x0 xs s (by omega);have e1:(s+4) / 4=s / 4+1:=by omega
   have e2:(s+4) % 4=s % 4:=by omega
   rw[List.flatMap_cons,List.getElem?_append_right (by simp[qo]),e1,e2];simp only[qb7,Nat.add_sub_cancel,List.getElem?_cons_succ];exact ih
abbrev qu9:Inhabited (Gd×Int):=⟨(⟨⟨#[]⟩,⟨#[]⟩,⟨#[]⟩⟩,0)⟩
theorem qov(xs:List (Gd×Int)):(@Sort.flatK _ qu9 qo 4 xs.toArray).toList=xs.flatMap qo:=by
 letI:=qu9
 refine List.ext_getElem? (λt=>?_);by_cases h:t < xs.length*4
 ·rw[qrl qu9.default xs t h];have h4:t / 4 < xs.length:=by omega
  simp only[Sort.flatK,Array.toList_map,List.getElem?_map,Array.getElem?_toList];rw[Array.getElem?_range,if_pos (by simpa using h)];have hm:t % 4 < 4:=by omega
  have hx:xs[t / 4]?.getD qu9.default=xs[t / 4]:=by rw[List.getElem?_eq_getElem h4];rfl
  have hy:xs.toArray[t / 4]! = xs[t / 4]:=by simp[h4]
  rw[hx];simp only[Option.map_some,hy];have hl:t % 4 < (qo xs[t / 4]).length:=by rw[qb7];exact hm
  rw[List.getElem?_eq_getElem hl];simp[hl]
 ·have h1:(xs.flatMap qo).length=xs.length*4:=by
   induction xs with
   | nil=>rfl
   | cons x xs ih=>simp only[List.length_cons] at h;rw[List.flatMap_cons,List.length_append,ih (by omega),qb7,List.length_cons];omega
  rw[List.getElem?_eq_none (by simp;omega),List.getElem?_eq_none (by omega)]
theorem qr7{w:Wq}{blk n:Nat}{cur:Array Vq}{T:TypeId}(F:Array Vq)(os:Array Obj)(hb:w.heap[blk]?=some (Obj.cells cur T (0,0)))(hF:F.size<=cur.size) :
  (Sort.grow (Sort.putRow id (Sort.ahead w n) blk 0 F) os).heap[blk]?=some (Obj.cells (Sort.putCells id 0 F cur) T (0,0))/\(∀k,k < w.heap.size->k≠blk->(Sort.grow (Sort.putRow id (Sort.ahead w n) blk 0 F) os).heap[k]?=w.heap[k]?)/\(Sort.putCells id 0 F cur).size=cur.size/\(Sort.putCells id 0 F cur).toList.take F.size=F.toList:=by
 have hlt:=(zg hb).1;refine⟨?_,λk hk hne=>?_,by simp[Sort.putCells],?_⟩
 ·simp only[Sort.grow,Sort.putRow,Sort.mapBlock,Sort.ahead];rw[Array.getElem?_append_left (by simpa using hlt),Array.getElem?_modify,if_pos rfl,hb];rfl
 ·simp only[Sort.grow,Sort.putRow,Sort.mapBlock,Sort.ahead];rw[Array.getElem?_append_left (by simpa using hk),Array.getElem?_modify,if_neg (λe=>hne e.symm)]
 ·refine List.ext_getElem? (λt=>?_);by_cases h:t < F.size
  ·rw[List.getElem?_take,if_pos h];have hc:t < cur.size:=by omega
   simp[Sort.putCells,h,hc]
  ·rw[List.getElem?_take,if_neg h,List.getElem?_eq_none (by simpa using h)]
theorem qf9(x y:Gd×Int):@Go.Proofs.ltOf (Gd×Int) q2m x y=decide (x.2 < y.2):=by
 unfold Go.Proofs.ltOf q2m Lib.compareInt;by_cases h:x.2 < y.2
 ·simp[h]
 ·by_cases h2:x.2 > y.2
  ·simp[h,h2]
  ·simp[h,h2]
theorem q1g(v:Vq)(xs:List (Gd×Int))(b:Nat)(w:Wq)(qr:w.ownsRow b 172 4 v xs.length (xs.flatMap qo))(hl:xs.length<=1000000) :
  Calls Tryz.prog 185 #[v,.func (.func 132) #[] #[]] w λe w'=>e=.returned (.tuple #[])/\∃ys:List (Gd×Int),ys.Perm xs/\ys.Pairwise (λa b=>a.2<=b.2)/\w'.ownsRow b 172 4 v ys.length (ys.flatMap qo)/\Chg w w' (λk=>some k=v.ownBlock):=by
 letI:=qu9
 have quz:=qr;obtain⟨Q7,⟨hv,hn⟩ | ⟨g,cap,cur,hv,hb,hh,h1,h2,h3,h4⟩⟩:=qr
 ·subst hv;have:xs=[]:=List.eq_nil_of_length_eq_zero hn;subst this;refine (AnyF.slices_SortFunc_none Tryz.sortLasting none 0 _ w).mono ?_;rintro e w' ⟨rfl,rfl⟩;exact⟨rfl,[],.refl _,.nil,quz,Chg.refl _ _⟩
 ·subst hv;have hlt:=(zg hh).1;have hfl:(Sort.flatK qo 4 xs.toArray).toList=xs.flatMap qo:=qov xs
  have hH:Sort.HoldsK qo 4 w g 0 xs.toArray:=by
   intro j hj;have hj':j < xs.length*4:=by simpa using hj
   refine⟨?_,by simp[World.frozen?,hh]⟩
   have e1:(Sort.flatK qo 4 xs.toArray).toList[j]?=cur.toList[j]?:=by
    rw[hfl,<- h4,List.getElem?_take,if_pos hj']
   have e2:(Sort.flatK qo 4 xs.toArray)[j]?=cur[j]?:=by simpa using e1
   have e3:(Sort.flatK qo 4 xs.toArray)[j]?=some (Sort.flatK qo 4 xs.toArray)[j]!:=by
    rw[Array.getElem?_eq_getElem hj];exact congrArg some (getElem!_pos (Sort.flatK qo 4 xs.toArray) j hj).symm
   simp only[World.cell?,hh];rw[e3] at e2;simpa using e2.symm
  refine (AnyQ.slices_SortFunc Tryz.sortLasting 4 (λW=>Tryz.isAgg172 W) (λW=>Tryz.sizeOf172 W) qo qb7 (λx u hu=>by
    simp only[qo,List.mem_cons,List.not_mem_nil,or_false] at hu
    rcases hu with rfl | rfl | rfl | rfl <;> rfl) q2m ⟨λx=>?_,λx y z=>?_,λx y z=>?_⟩ 132 #[] g 0 cap xs.toArray w (enters_of Tryz.func132 (by kernel_rfl) rfl) (λm os dk hs x y=>?_) hH hlt (by simp;omega)).mono ?_
  ·rw[qf9];simp
  ·rw[qf9,qf9,qf9];simp;omega
  ·rw[qf9,qf9,qf9];simp;omega
  ·exact (qxu x y _)
  ·rintro e w' ⟨rfl,d',n,os,hp,hs,rfl⟩;obtain⟨p1,p2,p3⟩:=hp;have hd:d'.size=xs.length:=by simpa using p1
   have Qcx:d'.toList.Perm xs:=by
    have q1:d'.extract 0 xs.toArray.size=d':=by rw[Array.extract_eq_self_of_le (by simp[hd])]
    have q2:xs.toArray.extract 0 xs.toArray.size=xs.toArray:=by rw[Array.extract_eq_self_of_le zl]
    rw[q1,q2] at p3;simpa using p3
   refine⟨rfl,d'.toList,Qcx,?_,?_,?_⟩
   ·rw[List.pairwise_iff_getElem];intro i j hi hj hij;have:=hs i j (Nat.zero_le _) hij (by simp at hj ⊢;omega);rw[qf9] at this;simp at hi hj;simp[hi,hj] at this;simpa using this
   ·have hF:(Sort.flatK qo 4 d').size<=cur.size:=by simp[hd,h3];exact Nat.mul_le_mul_right _ h1
    obtain⟨s1,s2,s3,s4⟩:=qr7 (n:=n) (Sort.flatK qo 4 d') os hh hF
    have hfd:(Sort.flatK qo 4 d').toList=d'.toList.flatMap qo:=by
     have:=qov d'.toList;simpa using this
    refine⟨?_,.inr ⟨g,cap,_,by simp[hd],hb,s1,by simp[hd];exact h1,h2,s3.trans h3,?_⟩⟩
    ·rw[<- hfd];simp
    ·have:d'.toList.length*4=(Sort.flatK qo 4 d').size:=by simp
     rw[this,s4,hfd]
   ·have hF:(Sort.flatK qo 4 d').size<=cur.size:=by simp[hd,h3];exact Nat.mul_le_mul_right _ h1
    obtain⟨s1,s2,s3,s4⟩:=qr7 (n:=n) (Sort.flatK qo 4 d') os hh hF;exact⟨rfl,rfl,rfl,size_sortWorldK_c _ _ _ _ _ _ _ _,λk hk hx=>s2 k hk (λe=>hx (by rw[e];rfl))⟩
theorem qsm(v:Vq)(xs:List (Gd×Int))(b Bs:Nat)(w:Wq)(qae:w.heap[Bs]?=some (Obj.cells #[v] 169))(qr:w.ownsRow b 172 4 v xs.length (xs.flatMap qo))(hl:xs.length<=1000000) :
  Calls Tryz.prog 184 #[.func (.func 186) #[] #[.pointer (some ⟨Bs,0,none⟩)]] w λe w'=>∃v',e=.returned v'/\w'.ownsRow w.heap.size 172 4 v' xs.length (xs.flatMap qo)/\Below w.heap.size w w':=by
 have hap:=qig (.slice none 0 0) [] w.heap.size w ⟨rfl,.inl ⟨rfl,rfl⟩⟩ zl (by simp;omega) (enters_of Tryz.func186 (by kernel_rfl) rfl)
  (λm n=>qv3 w.heap.size w.heap.size Bs b v xs w qae (zg qae).1 qr (λg hg=>by
   obtain⟨_,c,hc⟩:=qe qr hg;have:=(zg hc).1
   exact⟨this,this⟩) hl m n)
 have HAP:Hid (Calls Tryz.prog 134 #[.slice none 0 0,.func (.func 186) #[] #[.pointer (some ⟨Bs,0,none⟩)]] w λe w'=>∃oa oc,e=.returned (.slice oa xs.length oc)/\w'.ownsRow w.heap.size 172 4 (.slice oa xs.length oc) xs.length (xs.flatMap qo)/\Below w.heap.size w w'):=by
  refine hap.mono ?_;rintro e W1 ⟨v',ys,rfl,hys,ho,hb,_⟩;have Qgc:ys=xs:=hys;rw[Qgc,List.nil_append] at ho;obtain⟨oa,oc,hof⟩:=qn ho;subst hof;exact⟨oa,oc,rfl,ho,hb⟩
 clear hap qr qae;go_enter Tryz.func184,Tryz.ntmps184
 go_wp2_with (go_at_call 134;refine (HAP.out).mono ?_;rintro e W1 ⟨oa,oc,rfl,ho,hb⟩)
 go_ret;exact⟨_,rfl,ho,hb⟩
theorem qvy(v:Vq)(xs:List (Gd×Int))(b Bs:Nat)(w:Wq)(qae:w.heap[Bs]?=some (Obj.cells #[v] 169))(qr:w.ownsRow b 172 4 v xs.length (xs.flatMap qo))(hl:xs.length<=1000000) :
  Calls Tryz.prog 130 #[.func (.func 186) #[] #[.pointer (some ⟨Bs,0,none⟩)],.func (.func 132) #[] #[]] w λe w'=>∃(v':Vq) (ys:List (Gd×Int)),e=.returned v'/\ys.Perm xs/\ys.Pairwise (λa b=>a.2<=b.2)/\w'.ownsRow w.heap.size 172 4 v' ys.length (ys.flatMap qo)/\Below w.heap.size w w':=by
 have HC:Hid (Calls Tryz.prog 184 #[.func (.func 186) #[] #[.pointer (some ⟨Bs,0,none⟩)]] w λe w'=>∃oa oc,e=.returned (.slice oa xs.length oc)/\w'.ownsRow w.heap.size 172 4 (.slice oa xs.length oc) xs.length (xs.flatMap qo)/\Below w.heap.size w w'):=by
  refine (qsm v xs b Bs w qae qr hl).mono ?_;rintro e W1 ⟨v',rfl,ho,hb⟩;obtain⟨oa,oc,hof⟩:=qn ho;subst hof;exact⟨oa,oc,rfl,ho,hb⟩
 have HSF:Hid (∀oa oc W,W.ownsRow w.heap.size 172 4 (.slice oa xs.length oc) xs.length (xs.flatMap qo)->Calls Tryz.prog 185 #[.slice oa xs.length oc,.func (.func 132) #[] #[]] W λe w'=>e=.returned (.tuple #[])/\∃ys:List (Gd×Int),ys.Perm xs/\ys.Pairwise (λa b=>a.2<=b.2)/\w'.ownsRow w.heap.size 172 4 (.slice oa xs.length oc) ys.length (ys.flatMap qo)/\Chg W w' (λk=>some k=(Value.slice oa xs.length oc).ownBlock)):=λoa oc W ho=>q1g _ xs _ W ho hl;clear qr qae;go_enter Tryz.func130,Tryz.ntmps130
 go_wp2_with (first | (go_at_call 184;refine (HC.out).mono ?_;rintro e W1 ⟨oa,oc,rfl,ho,hb⟩) | (go_at_call 185;refine (HSF.out oa oc W1 ho).mono ?_;rintro e W2 ⟨rfl,ys,hp,hs,ho2,hch⟩))
 go_ret;refine⟨_,ys,rfl,hp,hs,ho2,hb.trans ⟨hch.os,hch.tape,hch.output,hch.size,λk hk=>hch.block k (by have:=hb.size;omega) (λe=>?_)⟩⟩;have:=(qe ho e.symm).1;omega
attribute [local go_sem] Oper.semAt_some
def Qbb(g:Gd):List ByteArray:=if g.y.toList.isEmpty=true then [g.x] else [g.x,g.y]
def Qdk(g:Gd):ByteArray:=⟨(Lib.join ((Qbb g).map (·.data.toList)) (⟨#[44]⟩:ByteArray).data.toList).toArray⟩
def Qd3(g:Gd):ByteArray:=g.rel ++ ⟨#[40]⟩++Qdk g ++ ⟨#[41]⟩
