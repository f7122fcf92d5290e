/- A part -/
import Derived.Test.YtjajnhemgphefaaGreatDoorKMoB
import Derived.Test.YtjajnhemgphefaaGreatDoorMore
import Derived.Shelf.SlSortCmp.NoneTotal
set_option linter.all false
set_option maxRecDepth 100000
set_option maxHeartbeats 2000000
namespace Go.Proofs.YtjajnhemgphefaaGreatDoor
open Go renaming World->Wq,Value->Vq
open Go.RowKit Go.Shelf
def qey{α:Type}(m n gf:Nat)(lb:Array Vq)(ab:α->Array Vq)(Kp:Wq->Wq->Prop)(S Sp:List α->Prop)(N:Nat)(w:Wq):Prop:=
 ∀(l:Nat) (J Jx:List α->Wq->Prop) (W:Wq),Below w.heap.size w W->m<=W.heap.size->OwnFrom W.heap.size J->OwnFrom W.heap.size Jx->
  (∀pre x W1,J pre W1->pre.length < N->YieldAt Fence.wide (n - 1) Tryz.prog l (ab x) W1 λe W'=>
   (e=.returned (.bool true)/\J (pre++[x]) W'/\Kp W1 W')\/(e=.returned (.bool false)/\Jx (pre++[x]) W'/\KeepsFrom m W1 W'))->
  J [] W->CallsIn Fence.wide n Tryz.prog gf (#[.func (.yield l) #[] #[]]++lb) W λe W'=>(∃v,e=.returned v)/\((∃xs,S xs/\J xs W')\/(∃pre,Sp pre/\Jx pre W'))
theorem q2q{n n' l:Nat}{args:Array Vq}{w:Wq}{R:Ending->Wq->Prop}(h:YieldAt Fence.wide n Tryz.prog l args w R):YieldAt Fence.wide n' Tryz.prog l args w R:=by
 obtain⟨fn,tmps,assign,body,hy,hR⟩:=h;exact⟨fn,tmps,assign,body,hy,⟨hR.1,λc cs _=>hR.2 c cs (room_wide _)⟩⟩
theorem qey.any{α:Type}{m n gf:Nat}{lb:Array Vq}{ab:α->Array Vq}{Kp:Wq->Wq->Prop}{S Sp:List α->Prop}{N:Nat}{w:Wq}(h:qey m n gf lb ab Kp S Sp N w)(n':Nat):qey m n' gf lb ab Kp S Sp N w:=
 λl J Jx W hW cl hJ a8 hY h0=>callsIn_wide.2 (callsIn_wide.1 (h l J Jx W hW cl hJ a8 (λpre x W1 h1 h2=>q2q (hY pre x W1 h1 h2)) h0))
structure qgi(I:Wq->Prop)(D:Nat)(rec:Loop)(W:Wq):Prop where
 inv:I W
 loop:W.heap[D]?=some (.loop rec)
theorem qgi.own{β:Type}{I:β->Wq->Prop}{B D:Nat}{rec:β->Loop}(hI:OwnFrom B I)(hB:D+1<=B):OwnFrom B (λs=>qgi (I s) D (rec s)):=by
 rintro s W W' row ⟨h1,h2⟩ hg hr;exact⟨hI s W W' row h1 hg hr,(hg.block D (zg h2).1 (λe=>by have:=(hr D e.symm).1;omega)).trans h2⟩
section
variable {α:Type} {n gf:Nat} {lb:Array Vq} {ab:α->Array Vq} {Kp:Wq->Wq->Prop} {S Sp:List α->Prop} {N:Nat}
theorem qd1{g:Operand}{ps:Array Tmp}{assign body:Code}{Q:Exit->Act->Wq->Prop}{a:Act}{w:Wq}(hg:a.eval g=.func (.func gf) #[] lb)(eg:∀args w,(callFunc gf args).run Tryz.prog w=.ok (.enter gf args) w)(ah:qey (w.heap.size+2) (n - 1) gf lb ab Kp S Sp N w)(au:∀{A B C:Wq},Kp A B->Kp B C->Kp A C)(ax:∀(W:Wq) (rc:Loop) (o':Obj),W.heap[w.heap.size+1]?=some (.loop rc)->Kp W (W.putObj (w.heap.size+1) o'))(bk:∀x,(ab x).size=ps.size)(I:List α->Wq->Prop)(Ix:Code->List α->Wq->Prop)(hI:OwnFrom w.heap.size I)(hIx:∀c,OwnFrom w.heap.size (Ix c))(h0:I [] w)(Ax:α->Act->Wq->Prop)(hAx:∀x a',OwnFrom w.heap.size (λ(_:Unit) W=>Ax x a' W))(ae:∀(l:Nat) (pre:List α) (x:α) (W:Wq) (K:Act->Wq->Prop),w.heap.size<=l->(∃r,W.heap[l]?=some (.loop r))->I pre W->(∀a' W',KeepsFrom w.heap.size W W'->Kp W W'->I pre W'->Ax x a' W'->K a' W')->
   assign.wpIn (Fence.wide.inRound l) (n - 1 - 1) Tryz.prog (Exit.then K (λ_ _ _=>False)) {tmps:=(ps.zip (ab x)).foldl (λt (p,v)=>t.setIfInBounds p v) a.tmps,defers:=[]} W)(b5:∀(l:Nat) (pre:List α) (x:α) (a':Act) (W:Wq),w.heap.size<=l->(∃r,W.heap[l]?=some (.loop r))->I pre W->Ax x a' W->pre.length < N->body.wpIn (Fence.wide.inRound l) (n - 1 - 1) Tryz.prog (ownPostG w.heap.size Kp I Ix (pre++[x]) W) a' W)(bh:∀(D:Nat) (xs:List α) (W:Wq),w.heap.size<=D->S xs->I xs W->W.heap[D]?=some (.deferred (some []))->Q .normal {a with defers:={target:=.collected D,args:=#[]}::a.defers} W)(bd:∀(D:Nat) (c:Code) (pre:List α) (W:Wq),w.heap.size<=D->Sp pre->Ix c pre W->W.heap[D]?=some (.deferred (some []))->c.wpIn Fence.wide n Tryz.prog Q {a with defers:={target:=.collected D,args:=#[]}::a.defers} W) :
  (Code.rangeFunc g ps assign body).wpIn Fence.wide n Tryz.prog Q a w:=by
 refine wpIn_rangeFunc (λfn dh=>?_)
 let rc:LoopState->Option Code->Loop:=λst pe=>{state:=st,pending:=pe,fn:=fn,tmps:=a.tmps,params:=ps,assign:=assign,body:=body,defers:=w.heap.size}
 let wA:=w.alloc (.deferred (some []))
 let wB:=wA.alloc (.loop (rc .ready none))
 have sA:wA.heap.size=w.heap.size+1:=by simp[wA]
 have sB:wB.heap.size=w.heap.size+2:=by simp[wB,wA]
 have gB:Below w.heap.size w wB:=((Below.refl _ w).alloc zl _).alloc (by simp) _
 have bt:qev (I []) w.heap.size (rc .ready none) wB:=by
  refine⟨hI _ _ _ none h0 (qi gB) (λr e=>by cases e),?_,?_⟩
  .have:=zn wA (.loop (rc .ready none));rw[sA] at this;exact this
  .exact (Below.heap_alloc wA _ _ (by omega)).trans (zn w _)
 have ad:∀{I':Wq->Prop} {r:Loop} (r':Loop) {W:Wq},OwnFrom w.heap.size (λ(_:Unit)=>I')->qev I' w.heap.size r W->qev I' w.heap.size r' (W.putObj (w.heap.size+1) (.loop r')):=by
  intro I' r r' W ho hh;exact⟨ho.putObj (s:=()) _ hh.inv (by omega) hh.loop rfl,World.putObj_heap_same (zg hh.loop).1,(World.putObj_heap_other (by omega)).trans hh.mark⟩
 have oI:∀pre,OwnFrom w.heap.size (λ(_:Unit)=>I pre):=λpre _ A B row hs af hr=>hI pre A B row hs af hr;have oX:∀c pre,OwnFrom w.heap.size (λ(_:Unit)=>Ix c pre):=λc pre _ A B row hs af hr=>hIx c pre A B row hs af hr;have up:∀{β:Type} {X:β->Wq->Prop},OwnFrom w.heap.size X->OwnFrom wB.heap.size X:=λh s A B row hs af hr=>h s A B row hs af (λr e=>⟨by have:=(hr r e).1;omega,(hr r e).2⟩);have oJ:OwnFrom wB.heap.size (λpre=>qev (I pre) w.heap.size (rc .ready none)):=qev.own (up hI) (by omega)
 have b3:OwnFrom wB.heap.size (λpre W=>∃c,qev (Ix c pre) w.heap.size (rc .done (some c)) W):=by
  rintro pre A B row ⟨c,hc⟩ af hr;exact⟨c,qev.own (I:=λ_:Unit=>Ix c pre) (rec:=λ_=>rc .done (some c)) (up (oX c pre)) (by omega) () A B row hc af hr⟩
 refine⟨w.heap.size+1,[{target:=.collected w.heap.size,args:=#[]}],wB,{target:=.fn (.func gf) lb,args:=#[.func (.yield (w.heap.size+1)) #[] #[]]},wB,gf,#[.func (.yield (w.heap.size+1)) #[] #[]]++lb,wB,run_enterLoop_outer _ _ _ _ _,?_,λ_ _=>trivial,?_,(λh=>(by cases h)),?_⟩
 .simp only[resolve,hg];simp[go_sem]
 .simp[invoke,go_sem,eg]
 refine (ah (w.heap.size+1) (λpre=>qev (I pre) w.heap.size (rc .ready none)) (λpre W=>∃c,qev (Ix c pre) w.heap.size (rc .done (some c)) W) wB gB (by omega) oJ b3 ?_ bt).mono ?_
 .intro pre x W hh am;have hy:=run_yield (P:=Tryz.prog) (args:=ab x) hh.loop (bk x);refine⟨fn,_,assign,body,hy,roundIn_of_wpIn trivial (ae _ pre x W _ (by omega) ⟨_,hh.loop⟩ hh.inv ?_)⟩;intro a' Wa kA be iA bv;have al:qev (I pre) w.heap.size (rc .ready none) Wa:=⟨iA,kA.same _ _ (by omega) hh.loop rfl,kA.same _ _ zl hh.mark rfl⟩;refine⟨_,run_beginRound al.loop rfl,?_⟩;have ao:=ad {rc .ready none with state:=.busy} (oI pre) al;have bj:=ax Wa _ (.loop {rc .ready none with state:=.busy}) al.loop;refine wpIn_mono (b5 _ pre x a' _ (by omega) ⟨_,ao.loop⟩ ao.inv ((hAx x a').putObj (s:=()) _ bv (by omega) al.loop rfl) am) ?_;intro e a3 W3 hp
  have done:∀(ac:Option Code) {I':Wq->Prop},OwnFrom w.heap.size (λ(_:Unit)=>I')->KeepsFrom w.heap.size (Wa.putObj (w.heap.size+1) (.loop {rc .ready none with state:=.busy})) W3->I' W3->
    ∃W4,(Instr.endRound (w.heap.size+1) ac).run Tryz.prog W3=.ok (.bool ac.isNone) W4/\qev I' w.heap.size (rc (if ac.isNone then .ready else .done) ac) W4/\Kp W3 W4/\KeepsFrom (w.heap.size+2) W W4:=by
   intro ac I' ho kf i3;have h3:qev I' w.heap.size {rc .ready none with state:=.busy} W3:=⟨i3,kf.same _ _ (by omega) ao.loop rfl,kf.same _ _ zl ao.mark rfl⟩;exact⟨_,run_endRound ac h3.loop,ad _ ho h3,ax _ _ _ h3.loop,KeepsFrom.tr (KeepsFrom.tr (KeepsFrom.tr (KeepsFrom.up kA (by omega)) (KeepsFrom.put _ _ _ (by omega))) (KeepsFrom.up kf (by omega))) (KeepsFrom.put _ _ _ (by omega))⟩
  cases e with
  | normal=>
   obtain⟨kf,kp,i3⟩:=hp;obtain⟨W4,hr,h4,k4,_⟩:=done none (oI _) kf i3;exact⟨_,_,hr,.inl ⟨rfl,h4,au be (au bj (au kp k4))⟩⟩
  | ret=>
   obtain⟨kf,i3⟩:=hp;obtain⟨W4,hr,h4,_,k4⟩:=done (some .ret) (oX _ _) kf i3;exact⟨_,_,hr,.inr ⟨rfl,⟨_,h4⟩,k4⟩⟩
  | exit id=>
   obtain⟨kf,i3⟩:=hp;obtain⟨W4,hr,h4,_,k4⟩:=done (some (.exit id)) (oX _ _) kf i3;exact⟨_,_,hr,.inr ⟨rfl,⟨_,h4⟩,k4⟩⟩
  | goto t=>
   obtain⟨kf,i3⟩:=hp;obtain⟨W4,hr,h4,_,k4⟩:=done (some (.goto t)) (oX _ _) kf i3;exact⟨_,_,hr,.inr ⟨rfl,⟨_,h4⟩,k4⟩⟩
  | panic ch=>exact hp.elim
  | outgrown=>exact hp.elim
 .rintro e W2 ⟨⟨v,rfl⟩,(⟨xs,hS,hh⟩ | ⟨pre,bu,c,hh⟩)⟩
  .have h2:=ad {rc .ready none with state:=.exhausted} (oI xs) hh;exact⟨none,_,run_endLoop hh.loop (by intro h;cases h),bh _ xs _ zl hS h2.inv h2.mark⟩
  .have h2:=ad {rc .done (some c) with state:=.exhausted} (oX c pre) hh;exact⟨some c,_,run_endLoop hh.loop (by intro h;cases h),bd _ c pre _ zl bu h2.inv h2.mark⟩
theorem q1y{g:Operand}{ps:Array Tmp}{assign body:Code}{Q:Exit->Act->Wq->Prop}{a:Act}{w:Wq}{l₀:Nat}{r₀:Loop}(hl₀:w.heap[l₀]?=some (.loop r₀))(hg:a.eval g=.func (.func gf) #[] lb)(eg:∀args w,(callFunc gf args).run Tryz.prog w=.ok (.enter gf args) w)(ah:qey (w.heap.size+1) (n - 1) gf lb ab Kp S Sp N w)(au:∀{A B C:Wq},Kp A B->Kp B C->Kp A C)(ax:∀(W:Wq) (rc:Loop) (o':Obj),W.heap[w.heap.size]?=some (.loop rc)->Kp W (W.putObj w.heap.size o'))(bk:∀x,(ab x).size=ps.size)(I:List α->Wq->Prop)(Ix:Code->List α->Wq->Prop)(hI:OwnFrom w.heap.size I)(hIx:∀c,OwnFrom w.heap.size (Ix c))(h0:I [] w)(Ax:α->Act->Wq->Prop)(hAx:∀x a',OwnFrom w.heap.size (λ(_:Unit) W=>Ax x a' W))(ae:∀(l:Nat) (pre:List α) (x:α) (W:Wq) (K:Act->Wq->Prop),w.heap.size<=l->(∃r,W.heap[l]?=some (.loop r))->I pre W->(∀a' W',KeepsFrom w.heap.size W W'->Kp W W'->I pre W'->Ax x a' W'->K a' W')->
   assign.wpIn (Fence.wide.inRound l) (n - 1 - 1) Tryz.prog (Exit.then K (λ_ _ _=>False)) {tmps:=(ps.zip (ab x)).foldl (λt (p,v)=>t.setIfInBounds p v) a.tmps,defers:=[]} W)(b5:∀(l:Nat) (pre:List α) (x:α) (a':Act) (W:Wq),w.heap.size<=l->(∃r,W.heap[l]?=some (.loop r))->I pre W->Ax x a' W->pre.length < N->body.wpIn (Fence.wide.inRound l) (n - 1 - 1) Tryz.prog (ownPostG w.heap.size Kp I Ix (pre++[x]) W) a' W)(bh:∀(xs:List α) (W:Wq),S xs->I xs W->Q .normal a W)(bd:∀(c:Code) (pre:List α) (W:Wq),Sp pre->Ix c pre W->c.wpIn (Fence.wide.inRound l₀) n Tryz.prog Q a W) :
  (Code.rangeFunc g ps assign body).wpIn (Fence.wide.inRound l₀) n Tryz.prog Q a w:=by
 refine wpIn_rangeFunc (λfn dh=>?_)
 let rc:LoopState->Option Code->Loop:=λst pe=>{state:=st,pending:=pe,fn:=fn,tmps:=a.tmps,params:=ps,assign:=assign,body:=body,defers:=r₀.defers}
 let wB:=w.alloc (.loop (rc .ready none))
 have sB:wB.heap.size=w.heap.size+1:=by simp[wB]
 have gB:Below w.heap.size w wB:=(Below.refl _ w).alloc zl _;have bt:qgi (I []) w.heap.size (rc .ready none) wB:=⟨hI _ _ _ none h0 (qi gB) (λr e=>by cases e),zn w _⟩
 have ad:∀{I':Wq->Prop} {r:Loop} (r':Loop) {W:Wq},OwnFrom w.heap.size (λ(_:Unit)=>I')->qgi I' w.heap.size r W->qgi I' w.heap.size r' (W.putObj w.heap.size (.loop r')):=by
  intro I' r r' W ho hh;exact⟨ho.putObj (s:=()) _ hh.inv zl hh.loop rfl,World.putObj_heap_same (zg hh.loop).1⟩
 have oI:∀pre,OwnFrom w.heap.size (λ(_:Unit)=>I pre):=λpre _ A B row hs af hr=>hI pre A B row hs af hr;have oX:∀c pre,OwnFrom w.heap.size (λ(_:Unit)=>Ix c pre):=λc pre _ A B row hs af hr=>hIx c pre A B row hs af hr;have up:∀{β:Type} {X:β->Wq->Prop},OwnFrom w.heap.size X->OwnFrom wB.heap.size X:=λh s A B row hs af hr=>h s A B row hs af (λr e=>⟨by have:=(hr r e).1;omega,(hr r e).2⟩);have oJ:OwnFrom wB.heap.size (λpre=>qgi (I pre) w.heap.size (rc .ready none)):=qgi.own (up hI) (by omega)
 have b3:OwnFrom wB.heap.size (λpre W=>∃c,qgi (Ix c pre) w.heap.size (rc .done (some c)) W):=by
  rintro pre A B row ⟨c,hc⟩ af hr;exact⟨c,qgi.own (I:=λ_:Unit=>Ix c pre) (rec:=λ_=>rc .done (some c)) (up (oX c pre)) (by omega) () A B row hc af hr⟩
 refine⟨w.heap.size,[],wB,{target:=.fn (.func gf) lb,args:=#[.func (.yield w.heap.size) #[] #[]]},wB,gf,#[.func (.yield w.heap.size) #[] #[]]++lb,wB,run_enterLoop_inner hl₀ _ _ _ _ _,?_,λ_ _=>trivial,?_,(λh=>(by cases h)),?_⟩
 .simp only[resolve,hg];simp[go_sem]
 .simp[invoke,go_sem,eg]
 refine (CallsIn.inRound l₀ (ah w.heap.size (λpre=>qgi (I pre) w.heap.size (rc .ready none)) (λpre W=>∃c,qgi (Ix c pre) w.heap.size (rc .done (some c)) W) wB gB (by omega) oJ b3 ?_ bt)).mono ?_
 .intro pre x W hh am;have hy:=run_yield (P:=Tryz.prog) (args:=ab x) hh.loop (bk x);refine⟨fn,_,assign,body,hy,roundIn_of_wpIn trivial (ae _ pre x W _ zl ⟨_,hh.loop⟩ hh.inv ?_)⟩;intro a' Wa kA be iA bv;have al:qgi (I pre) w.heap.size (rc .ready none) Wa:=⟨iA,kA.same _ _ zl hh.loop rfl⟩;refine⟨_,run_beginRound al.loop rfl,?_⟩;have ao:=ad {rc .ready none with state:=.busy} (oI pre) al;have bj:=ax Wa _ (.loop {rc .ready none with state:=.busy}) al.loop;refine wpIn_mono (b5 _ pre x a' _ zl ⟨_,ao.loop⟩ ao.inv ((hAx x a').putObj (s:=()) _ bv zl al.loop rfl) am) ?_;intro e a3 W3 hp
  have done:∀(ac:Option Code) {I':Wq->Prop},OwnFrom w.heap.size (λ(_:Unit)=>I')->KeepsFrom w.heap.size (Wa.putObj w.heap.size (.loop {rc .ready none with state:=.busy})) W3->I' W3->
    ∃W4,(Instr.endRound w.heap.size ac).run Tryz.prog W3=.ok (.bool ac.isNone) W4/\qgi I' w.heap.size (rc (if ac.isNone then .ready else .done) ac) W4/\Kp W3 W4/\KeepsFrom (w.heap.size+1) W W4:=by
   intro ac I' ho kf i3;have h3:qgi I' w.heap.size {rc .ready none with state:=.busy} W3:=⟨i3,kf.same _ _ zl ao.loop rfl⟩;exact⟨_,run_endRound ac h3.loop,ad _ ho h3,ax _ _ _ h3.loop,KeepsFrom.tr (KeepsFrom.tr (KeepsFrom.tr (KeepsFrom.up kA (by omega)) (KeepsFrom.put _ _ _ (by omega))) (KeepsFrom.up kf (by omega))) (KeepsFrom.put _ _ _ (by omega))⟩
  cases e with
  | normal=>
   obtain⟨kf,kp,i3⟩:=hp;obtain⟨W4,hr,h4,k4,_⟩:=done none (oI _) kf i3;exact⟨_,_,hr,.inl ⟨rfl,h4,au be (au bj (au kp k4))⟩⟩
  | ret=>
   obtain⟨kf,i3⟩:=hp;obtain⟨W4,hr,h4,_,k4⟩:=done (some .ret) (oX _ _) kf i3;exact⟨_,_,hr,.inr ⟨rfl,⟨_,h4⟩,k4⟩⟩
  | exit id=>
   obtain⟨kf,i3⟩:=hp;obtain⟨W4,hr,h4,_,k4⟩:=done (some (.exit id)) (oX _ _) kf i3;exact⟨_,_,hr,.inr ⟨rfl,⟨_,h4⟩,k4⟩⟩
  | goto t=>
   obtain⟨kf,i3⟩:=hp;obtain⟨W4,hr,h4,_,k4⟩:=done (some (.goto t)) (oX _ _) kf i3;exact⟨_,_,hr,.inr ⟨rfl,⟨_,h4⟩,k4⟩⟩
  | panic ch=>exact hp.elim
  | outgrown=>exact hp.elim
 .rintro e W2 ⟨⟨v,rfl⟩,(⟨xs,hS,hh⟩ | ⟨pre,bu,c,hh⟩)⟩
  .have h2:=ad {rc .ready none with state:=.exhausted} (oI xs) hh;exact⟨none,_,run_endLoop hh.loop (by intro h;cases h),bh xs _ hS h2.inv⟩
  .have h2:=ad {rc .done (some c) with state:=.exhausted} (oX c pre) hh;exact⟨some c,_,run_endLoop hh.loop (by intro h;cases h),bd c pre _ bu h2.inv⟩
end
end Go.Proofs.YtjajnhemgphefaaGreatDoor
namespace Go.Proofs.YtjajnhemgphefaaGreatDoor
open Go renaming World->Wq,Value->Vq
open Go.RowKit Go.Shelf Go.Maps
attribute [local go_sem] Oper.semAt_some
variable {B aa m gf N:Nat} {X Y Z W W':Wq} {lb:Array Vq}
def qr(x:Gd×Int):List Vq:=[.string x.1.rel,.string x.1.x,.string x.1.y,.int .i64 x.2]
theorem qb7(x:Gd×Int):(qr x).length=4:=rfl
theorem Tryz.infoLast:(Tryz.prog.info? 172).map (λi=>(i.zero,i.size,i.bytes))=some (some (.agg #[.string ⟨#[]⟩,.string ⟨#[]⟩,.string ⟨#[]⟩,.int .i64 0]),4,56):=by kernel_rfl
theorem qwp(v:Vq)(w:Wq)(ta:Option Addr)(tn tc:Nat)(dc:v=.slice ta tn tc) :
  Calls Tryz.prog 131 #[v] w λe w'=>e=.returned (.func (.func 186) #[] #[.pointer (some ⟨w.heap.size,0,none⟩)])/\w'=w.alloc (.cells #[v] 169):=by
 subst dc;go_enter Tryz.func131,Tryz.ntmps131;go_wp2;go_ret;exact⟨rfl,rfl⟩
structure qc4(B aa m:Nat)(W W':Wq):Prop where
 block:∀(k:Nat) (o:Obj),k < B->W.heap[k]?=some o->(k < aa\/∀c fz,o≠Obj.cells c 172 fz)->W'.heap[k]?=some o
 from':KeepsFrom m W W'
theorem qc4.tr(h:qc4 B aa m X Y)(k:qc4 B aa m Y Z):qc4 B aa m X Z:=⟨λi o hi ho hx=>k.block i o hi (h.block i o hi ho hx) hx,KeepsFrom.tr h.from' k.from'⟩
theorem qc4.ofBelow(h:Below W.heap.size W W'):qc4 B aa m W W':=⟨λk o _ hk _=>(h.block k (zg hk).1).trans hk,KeepsFrom.ofBelow h⟩
theorem qc4.put(W:Wq)(l:Nat)(o':Obj)(hl:l < m)(hB:B<=l):qc4 B aa m W (W.putObj l o'):=
 ⟨λk o hk ho _=>((grownBy_putObj' W l o').block k (zg ho).1 (by simp;omega)).trans ho,KeepsFrom.put W l o' hl⟩
theorem qjb{V:Wq}{ex:Nat->Prop}(h:Chg V W' ex)(hx:∀k,k < V.heap.size->ex k->∃(c:Array Vq) (t:TypeId),V.heap[k]?=some (Obj.cells c t (0,0))):KeepsFrom m V W':=
 ⟨h.size,λk o _ hk hc=>by
  have aj:=(zg hk).1;refine (h.block k aj (λe=>?_)).trans hk;obtain⟨c,t,h1⟩:=hx k aj e
  rw[h1] at hk;cases hk;cases hc⟩
theorem qey.later{α:Type}{n:Nat}{ab:α->Array Vq}{Kp:Wq->Wq->Prop}{S Sp:List α->Prop}{w w1:Wq}(h:qey m n gf lb ab Kp S Sp N w)(hb:Below w.heap.size w w1):qey m n gf lb ab Kp S Sp N w1:=
 λl J Jx W hW=>h l J Jx W (hb.trans (hW.mono hb.size))
def qdx(B aa:Nat)(W W':Wq):Prop:=∀(k:Nat) (o:Obj),k < B->W.heap[k]?=some o->(k < aa\/∀c fz,o≠Obj.cells c 172 fz)->W'.heap[k]?=some o
theorem qdx.tr(h:qdx B aa X Y)(k:qdx B aa Y Z):qdx B aa X Z:=λi o hi ho hx=>k i o hi (h i o hi ho hx) hx
theorem qdx.grown{row:Option Nat}(h:qdx B aa X Y)(hg:Y.grownBy Z row)(hr:∀r,row=some r->B<=r):qdx B aa X Z:=λi o hi ho hx=>by
 have h1:=h i o hi ho hx;exact (hg.block i (zg h1).1 (λe=>by have:=hr i e.symm;omega)).trans h1
theorem qdx.ofBelow(h:Below W.heap.size W W'):qdx B aa W W':=λk o _ hk _=>(h.block k (zg hk).1).trans hk
theorem qb1(w:Wq)(x y z u:Vq)(t:TypeId):∀j q,[x,y,z,u][j]?=some q->(w.alloc (.cells #[x,y,z,u] t)).cell? ((⟨w.heap.size,0,none⟩:Addr).add j)=some q:=by
 intro j q hj
 match j,hj with
 | 0,hj=>simp at hj;subst hj;simp[Addr.add]
 | 1,hj=>simp at hj;subst hj;simp[Addr.add]
 | 2,hj=>simp at hj;subst hj;simp[Addr.add]
 | 3,hj=>simp at hj;subst hj;simp[Addr.add]
 | j+4,hj=>simp at hj
theorem qir{S Sp:List (Gd×Int)->Prop}(v:Vq)(xs:List (Gd×Int))(aa:Nat)(w:Wq)(qq:w.ownsRow aa 172 4 v xs.length (xs.flatMap qr))(dm:aa<=w.heap.size)(hl:xs.length+N<=2000000000000)(eg:∀args w,(callFunc gf args).run Tryz.prog w=.ok (.enter gf args) w)(ah:∀m n,qey m n gf lb (λx:Gd×Int=>#[.agg (qr x).toArray]) (qc4 w.heap.size aa m) S Sp N w) :
  Calls Tryz.prog 134 #[v,.func (.func gf) #[] lb] w λe w'=>∃v' ys,e=.returned v'/\S ys/\w'.ownsRow aa 172 4 v' (xs++ys).length ((xs++ys).flatMap qr)/\Below aa w w'/\qdx w.heap.size aa w w':=by
 obtain⟨a7,az,df⟩:=qo qq;obtain⟨NB,hN⟩:∃N,w.heap.size=N:=⟨_,rfl⟩;obtain⟨i0,hi,cy,c9,dj⟩:=info_parts Tryz.infoLast;rw[df] at qq ⊢;refine (callsIn_wide (n:=8)).1 ?_;refine callsIn_of_wp_marks Tryz.func134 rfl trivial ?_ rfl;simp only[Tryz.ntmps134,List.size_toArray,List.length_cons,List.length_nil,Nat.reduceAdd,Nat.reduceSub,Array.replicate_succ,Array.replicate_zero,List.push_toArray,List.append_toArray,List.nil_append,List.cons_append]
 gi_wp2
 obtain⟨W0,bc⟩:∃W0,w.alloc (.cells #[.slice a7 xs.length az] 169)=W0:=⟨_,rfl⟩;have ap:Below w.heap.size w W0:=by rw[<- bc];exact (Below.refl _ w).alloc zl _
 have dv:W0.heap.size=NB+1:=by rw[<- bc,<- hN];simp
 have bV:Boxed W0 NB 169 (.slice a7 xs.length az):=by
  have:=Boxed.new w 169 (.slice a7 xs.length az);rw[hN,bc] at this;exact this
 have cz:=qk qq ap
 (try simp only[hN])
 rw[bc]
 refine qd1 (n:=8) (gf:=gf) (lb:=lb) rfl eg ((ah _ _).later ap) qc4.tr (λV rc o' ho=>qc4.put V _ o' (by omega) (by omega)) (λ_=>rfl)
  (λpre V=>∃v,Boxed V NB 169 v/\V.ownsRow aa 172 4 v (xs++pre).length ((xs++pre).flatMap qr)/\Below aa w V/\NB < V.heap.size/\qdx w.heap.size aa w V)
  (λ_ _ _=>False)
  ?hI (λ_ _ _ _ _ h _ _=>h) ⟨_,bV,by rw[List.append_nil];exact cz,(ap.mono dm),by omega,qdx.ofBelow ap⟩
  (λx a' V=>∃Bx,V.heap[Bx]?=some (Obj.cells #[.string x.1.rel,.string x.1.x,.string x.1.y,.int .i64 x.2] 172)/\a'={tmps:=#[.slice a7 xs.length az,.func (.func gf) #[] lb,.pointer (some ⟨NB,0,none⟩),undef,.slice none 0 0,.pointer (some ⟨Bx,0,none⟩),.func (.func gf) #[] lb,.agg #[.string x.1.rel,.string x.1.x,.string x.1.y,.int .i64 x.2],undef,undef,undef,undef,undef],defers:=[]})
  ?hAx ?assign ?body ?done (λ_ _ _ _ _ _ h _=>h.elim)
 case hI=>
  rintro pre V V' row ⟨v,h1,h2,h3,h4,h5⟩ hg hr;have hk:=qj hg (λr e=>(hr r e).2);exact⟨v,hk _ _ _ _ h1,q8 h2 (λg c _ hc=>hk g c _ _ hc),h3.grown hg (by omega) (λk e=>by have:=(hr k e).1;omega),by have:=hg.size;omega,h5.grown hg (λr e=>by have:=(hr r e).1;omega)⟩
 case hAx=>
  rintro x a' _ V V' row ⟨Bx,h2,h5⟩ hg hr;exact⟨Bx,qj hg (λr e=>(hr r e).2) _ _ _ _ h2,h5⟩
 case assign=>
  rintro l' pre t V K hl du ⟨v,h1,h2,h3,h4,h5⟩ hK;have HK:Hid _:=hK;clear hK;unfold qr
  gi_wp2
  have a6:Below V.heap.size V (V.alloc (.cells #[.string t.1.rel,.string t.1.x,.string t.1.y,.int .i64 t.2] 172)):=(Below.refl _ V).alloc zl _;exact HK.out _ _ (KeepsFrom.ofBelow a6) (qc4.ofBelow a6) ⟨v,h1.alloc _,h2.alloc _,h3.trans (a6.mono (by omega)),by simp;omega,h5.tr (qdx.ofBelow a6)⟩ ⟨V.heap.size,zn V _,rfl⟩
 case body=>
  rintro l' pre t a' V dw ⟨r,hr⟩ ⟨v,h1,h2,h3,h4,h5⟩ ⟨Bx,bb,rfl⟩ aj;have H5:Hid _:=h5;clear h5;have c0:V.cell? ⟨Bx,0,none⟩=some (.string t.1.rel):=by simp[World.cell?,bb]
  have c1:V.cell? ⟨Bx,1,none⟩=some (.string t.1.x):=by simp[World.cell?,bb]
  have c2:V.cell? ⟨Bx,2,none⟩=some (.string t.1.y):=by simp[World.cell?,bb]
  have c3:V.cell? ⟨Bx,3,none⟩=some (.int .i64 t.2):=by simp[World.cell?,bb]
  have cb:=h1.cell;obtain⟨va,vc,rfl⟩:=qo h2;have c7:(xs++pre).length=xs.length+pre.length:=by simp
  have de:(xs++pre).length+1<=maxLen:=by unfold maxLen;omega
  have dg:((xs++pre).length+1)*56<=140737488355328:=by omega
  have Q7:Hid ((xs++(pre++[t])).flatMap qr=(xs++pre).flatMap qr++[.string t.1.rel,.string t.1.x,.string t.1.y,.int .i64 t.2]):=by
   show _=_;rw[<- List.append_assoc,List.flatMap_append];rfl
  have Qg9:Hid ((xs++(pre++[t])).length=(xs++pre).length+1):=by show _=_;simp;omega
  generalize hus:(xs++pre).length=un at *;generalize hub:(xs++pre).flatMap qr=uc at *;clear hus hub c7
  have da:Hid (∀w1,(V.alloc (.cells #[.string t.1.rel,.string t.1.x,.string t.1.y,.int .i64 t.2] 172)).grownBy w1 (Value.slice va un vc).ownBlock->Boxed w1 NB 169 (.slice va un vc)/\Chg V w1 (λj=>some j=(Value.slice va un vc).ownBlock)):=by
   intro w1 hg;have hc:Chg V w1 (λj=>some j=(Value.slice va un vc).ownBlock):=((Chg.refl V _).alloc _).grown hg (λk e _=>e.symm);exact⟨(hc.block _ h1.lt (λe=>Qf h2 h1 (by decide) _ e.symm rfl)).trans h1,hc⟩
  gi_wp2_with (gi_at_builtin;refine wpListIn_append_own _ rfl _ _ 169 rfl aa 172 i0 (.agg #[.string ⟨#[]⟩,.string ⟨#[]⟩,.string ⟨#[]⟩,.int .i64 0]) 4 56 Tryz.underlying169 hi cy c9 dj rfl (by decide) _ _ _ rfl (World.ownsRow.alloc h2 _) ⟨V.heap.size,0,none⟩ 1 1 [.string t.1.rel,.string t.1.x,.string t.1.y,.int .i64 t.2] rfl rfl (qb1 _ _ _ _ _ _) (by simp[Value.oneCell']) de dg (by simp;omega) ?_;intro v' w1 ai aq _;obtain⟨g',ak,dp⟩:=ownsRow_succ ai;subst dp;obtain⟨ay,cn⟩:=da.out w1 aq;have cc:=ay.cell;have ff:=ay.frozen)
  have an:Chg V (w1.setCell ⟨NB,0,none⟩ (.slice (some ⟨g',0,none⟩) (un+1) ak)) (λj=>j=NB\/some j=(Value.slice va un vc).ownBlock):=(cn.mono (λ_ _ e=>.inr e)).setCell ⟨NB,0,none⟩ _ (λ_=>.inl rfl)
  have cf:∀m',KeepsFrom m' V (w1.setCell ⟨NB,0,none⟩ (.slice (some ⟨g',0,none⟩) (un+1) ak)):=λm'=>qjb an (λj hj hx=>by
   rcases hx with rfl | hx
   .exact⟨_,_,h1⟩
   .obtain⟨_,c,hc⟩:=qe h2 hx.symm;exact⟨c,_,hc⟩)
  have ck:qdx w.heap.size aa V (w1.setCell ⟨NB,0,none⟩ (.slice (some ⟨g',0,none⟩) (un+1) ak)):=λk o hk ho hx=>by
   refine (an.block k (zg ho).1 (λe=>?_)).trans ho;rcases e with rfl | e
   .omega
   .obtain⟨dt,c,hc⟩:=qe h2 e.symm;rcases hx with hx | hx
    .omega
    .rw[hc] at ho;cases ho;exact hx _ _ rfl
  refine⟨cf _,⟨ck,cf _⟩,_,qbj ay _,?_,?_,?_,qdx.tr H5.out ck⟩
  .rw[Q7.out,Qg9.out];have:=Qg ai ⟨NB,0,none⟩ (.slice (some ⟨g',0,none⟩) (un+1) ak) (Qf ai ay (by decide));simpa using this
  .refine h3.trans ⟨an.os,an.tape,an.output,an.size,λk hk=>?_⟩;refine an.block k (by omega) (λe=>?_);rcases e with rfl | e
   .omega
   .have:=(qe h2 e.symm).1;omega
  .have:=an.size;omega
 case done=>
  rintro D ys V hD hS ⟨v,h1,h2,h3,h4,h5⟩ hK;have c1:=h1.cell
  gi_wp2
  refine⟨by simp,.inl ⟨_,_,rfl,run_takeDeferred hK,?_⟩⟩;have hk:=qj (grownBy_putObj' V D (.deferred none)) (λr e=>by cases e;exact⟨_,hK,rfl⟩);refine⟨_,results_tmp rfl _ _ _,v,ys,rfl,hS,q8 h2 (λg c _ hc=>hk g c _ _ hc),?_⟩;exact⟨qjq h3 (by omega) (by omega),h5.grown (grownBy_putObj' V D (.deferred none)) (λr e=>by cases e;omega)⟩
theorem qsh{b:Nat}{v:Vq}{xs:List (Gd×Int)}(h:W.ownsRow b 172 4 v xs.length (xs.flatMap qr)){k:Nat}(hk:k < xs.length) :
  ∃(g c:Nat),v=.slice (some ⟨g,0,none⟩) xs.length c/\W.cell? ⟨g,k*4,none⟩=some (.string (xs[k]).1.rel)/\W.cell? ⟨g,k*4+1,none⟩=some (.string (xs[k]).1.x)/\W.cell? ⟨g,k*4+2,none⟩=some (.string (xs[k]).1.y)/\W.cell? ⟨g,k*4+3,none⟩=some (.int .i64 (xs[k]).2):=by
 obtain⟨_,⟨_,hz⟩ | ⟨g,c,ag,hv,_,hw,_,_,_,cp⟩⟩:=h
 .omega
 have c8:∀(l:List (Gd×Int)) (i:Nat) (hi:i < l.length),(l.flatMap qr)[i*4]?=some (.string (l[i]).1.rel)/\(l.flatMap qr)[i*4+1]?=some (.string (l[i]).1.x)/\(l.flatMap qr)[i*4+2]?=some (.string (l[i]).1.y)/\(l.flatMap qr)[i*4+3]?=some (.int .i64 (l[i]).2):=by
  intro l
  induction l with
  | nil=>intro i hi;simp at hi
  | cons x l ih=>
   intro i hi
   cases i with
   | zero=>simp[qr]
   | succ i=>
    simp only[List.length_cons] at hi;have:=ih i (by omega);simp only[List.flatMap_cons,qr,List.cons_append,List.nil_append];rw[show (i+1)*4=i*4+4 by omega];exact this
 obtain⟨p0,p1,p2,p3⟩:=c8 xs k hk;rw[<- cp,List.getElem?_take,if_pos (by omega)] at p0 p1 p2 p3;refine⟨g,c,hv,?_,?_,?_,?_⟩
 .simp only[World.cell?,hw];simpa using p0
 .simp only[World.cell?,hw];simpa using p1
 .simp only[World.cell?,hw];simpa using p2
 .simp only[World.cell?,hw];simpa using p3
theorem qwq(B aa Bs b:Nat)(v:Vq)(xs:List (Gd×Int))(w:Wq)(Qs:w.heap[Bs]?=some (Obj.cells #[v] 169))(dq:Bs < B)(qq:w.ownsRow b 172 4 v xs.length (xs.flatMap qr))(Qv:∀g,v.ownBlock=some g->g < aa/\g < B)(hl:xs.length<=1000000)(m n0:Nat) :
  qey m n0 186 #[.pointer (some ⟨Bs,0,none⟩)] (λx:Gd×Int=>#[.agg (qr x).toArray]) (qc4 B aa m) (λys=>ys=xs) (λ_=>True) xs.length w:=by
 obtain⟨n,hn⟩:∃n,12<=n:=⟨12,Nat.le_refl _⟩;refine qey.any (n:=n) ?_ n0;have n1:1<=n:=by omega
 intro l J Jx W hW cl hJ a8 hY h0;have di:=(hW.block Bs (zg Qs).1).trans Qs;have bi:=qk qq hW;clear Qs qq hW;obtain⟨va,vc,rfl⟩:=qo bi;have c0:W.cell? ⟨Bs,0,none⟩=some (.slice va xs.length vc):=by simp[World.cell?,di]
 have HY:Hid _:=hY;have HJ:Hid (OwnFrom W.heap.size J):=hJ;have HJx:Hid (OwnFrom W.heap.size Jx):=a8;clear hY hJ a8;refine callsIn_of_wp_marks Tryz.func186 rfl trivial ?_ rfl;simp only[Tryz.ntmps186,List.size_toArray,List.length_cons,List.length_nil,Nat.reduceAdd,Nat.reduceSub,Array.replicate_succ,Array.replicate_zero,List.push_toArray,List.append_toArray,List.nil_append,List.cons_append]
 gi_wp2
 refine wpIn_loop (λA V=>∃(k:Nat) (u4 u8 u9 cm b8 ca b7 b9 cd:Vq),A={tmps:=#[.func (.yield l) #[] #[],.pointer (some ⟨Bs,0,none⟩),undef,undef,u4,.slice va xs.length vc,.int .i64 xs.length,.int .i64 k,u8,u9,cm,b8,ca,b7,b9,cd],defers:=[]}/\k<=xs.length/\J (xs.take k) V/\qc4 B aa m W V) (λA _=>xs.length - (intOf (A.tmps.getD 7 undef)).toNat) ⟨0,_,_,_,_,_,_,_,_,_,rfl,zz,by simpa using h0,qc4.ofBelow zr⟩ ?_;rintro A V ⟨k,u4,u8,u9,cm,b8,ca,b7,b9,cd,rfl,hk,bq,bo⟩;by_cases aj:k < xs.length
 .have ce:V.ownsRow b 172 4 (.slice va xs.length vc) xs.length (xs.flatMap qr):=q8 bi (λg c hg hc=>bo.block g _ (Qv g hg).2 hc (.inl (Qv g hg).1));obtain⟨g,c,e0,x0,x1,x2,x3⟩:=qsh ce aj;cases e0;have av:∀O,Below V.heap.size V (V.alloc O):=λO=>(Below.refl _ V).alloc zl O;have Q7:Hid (xs.take (k+1)=xs.take k++[xs[k]]):=by show _=_;rw[List.take_succ_eq_append_getElem aj]
  obtain⟨fn,tmps,assign,body,hy,hR⟩:=HY.out (xs.take k) xs[k] (V.alloc (.cells #[.string (xs[k]).1.rel,.string (xs[k]).1.x,.string (xs[k]).1.y,.int .i64 (xs[k]).2] 172)) (HJ.out _ _ _ none bq (qi (av _)) (λr e=>by cases e)) (by simp;omega);unfold qr at hy;generalize hxk:xs[k]=xk at *;have cr:Hid _:=bo;have HB:Hid _:=av;clear ce bi av bo hxk
  gi_wp2
  refine hR.mono ?_;rintro e W1 (⟨rfl,c4,cv⟩ | ⟨rfl,bf,_⟩)
  .clear hy hR
   gi_wp2
   refine⟨⟨k+1,_,_,_,_,_,_,_,_,_,rfl,by omega,by rw[Q7.out];exact c4,(qc4.tr cr.out (qc4.ofBelow (HB.out _))).tr cv⟩,?_⟩;simp[intOf];omega
  .clear hy hR
   gi_wp2
   exact⟨_,results_none rfl _ _ _,⟨_,rfl⟩,.inr ⟨_,trivial,bf⟩⟩
 .have c6:k=xs.length:=by omega
  subst c6;rw[List.take_length] at bq
  gi_wp2
  exact⟨_,results_none rfl _ _ _,⟨_,rfl⟩,.inl ⟨xs,rfl,bq⟩⟩
def q3l(x y:Gd×Int):Int:=Lib.compareInt x.2 y.2
theorem qyh(x y:Gd×Int)(w:Wq):Calls Tryz.prog 132 #[.agg (qr x).toArray,.agg (qr y).toArray] w λe w'=>e=.returned (.int .i64 (q3l x y))/\∃q os,w'=Sort.grow (w.drewN q) os:=by
 unfold qr q3l;have hc:=λW=>Tryz.cmp_Compare_int x.2 y.2 W;go_enter Tryz.func132,Tryz.ntmps132
 go_wp2_with (go_at_call 133;refine (hc _).mono ?_;rintro e W1 ⟨rfl,rfl⟩)
 go_ret;refine⟨rfl,0,#[Obj.cells #[.string x.1.rel,.string x.1.x,.string x.1.y,.int .i64 x.2] 172] ++ #[Obj.cells #[.string y.1.rel,.string y.1.x,.string y.1.y,.int .i64 y.2] 172],?_⟩;rw[Sort.alloc_eq_grow,Sort.alloc_eq_grow];show Sort.grow (Sort.grow w _) _=Sort.grow w _;rw[Sort.grow_grow]
theorem qr9(x0:Gd×Int):∀(xs:List (Gd×Int)) (t:Nat),t < xs.length*4->(xs.flatMap qr)[t]?=(qr (xs[t / 4]?.getD x0))[t % 4]?
 | [],t,h=>by simp at h
 | x::xs,t,h=>by
  by_cases h4:t < 4
  .have hc:t=0\/t=1\/t=2\/t=3:=by omega
   rcases hc with rfl | rfl | rfl | rfl <;> simp[qr]
  .obtain⟨s,rfl⟩:∃s,t=s+4:=⟨t - 4,by omega⟩;simp only[List.length_cons] at h;have ih:=qr9 x0 xs s (by omega);have e1:(s+4) / 4=s / 4+1:=by omega
   have e2:(s+4) % 4=s % 4:=by omega
   rw[List.flatMap_cons,List.getElem?_append_right (by simp[qr]),e1,e2];simp only[qb7,Nat.add_sub_cancel,List.getElem?_cons_succ];exact ih
abbrev qvv:Inhabited (Gd×Int):=⟨(⟨⟨#[]⟩,⟨#[]⟩,⟨#[]⟩⟩,0)⟩
theorem qph(xs:List (Gd×Int)):(@Sort.flatK _ qvv qr 4 xs.toArray).toList=xs.flatMap qr:=by
 letI:=qvv
 refine List.ext_getElem? (λt=>?_);by_cases h:t < xs.length*4
 .rw[qr9 qvv.default xs t h];have h4:t / 4 < xs.length:=by omega
  simp only[Sort.flatK,Array.toList_map,List.getElem?_map,Array.getElem?_toList];rw[Array.getElem?_range,if_pos (by simpa using h)];have hm:t % 4 < 4:=by omega
  have hx:xs[t / 4]?.getD qvv.default=xs[t / 4]:=by rw[List.getElem?_eq_getElem h4];rfl
  have hy:xs.toArray[t / 4]! = xs[t / 4]:=by simp[h4]
  rw[hx];simp only[Option.map_some,hy];have hl:t % 4 < (qr xs[t / 4]).length:=by rw[qb7];exact hm
  rw[List.getElem?_eq_getElem hl];simp[hl]
 .have h1:(xs.flatMap qr).length=xs.length*4:=by
   induction xs with
   | nil=>rfl
   | cons x xs ih=>simp only[List.length_cons] at h;rw[List.flatMap_cons,List.length_append,ih (by omega),qb7,List.length_cons];omega
  rw[List.getElem?_eq_none (by simp;omega),List.getElem?_eq_none (by omega)]
theorem qnm{w:Wq}{blk n:Nat}{ag:Array Vq}{T:TypeId}(F:Array Vq)(os:Array Obj)(hb:w.heap[blk]?=some (Obj.cells ag T (0,0)))(hF:F.size<=ag.size) :
  (Sort.grow (Sort.putRow id (Sort.ahead w n) blk 0 F) os).heap[blk]?=some (Obj.cells (Sort.putCells id 0 F ag) T (0,0))/\(∀k,k < w.heap.size->k≠blk->(Sort.grow (Sort.putRow id (Sort.ahead w n) blk 0 F) os).heap[k]?=w.heap[k]?)/\(Sort.putCells id 0 F ag).size=ag.size/\(Sort.putCells id 0 F ag).toList.take F.size=F.toList:=by
 have aj:=(zg hb).1;refine⟨?_,λk hk db=>?_,by simp[Sort.putCells],?_⟩
 .simp only[Sort.grow,Sort.putRow,Sort.mapBlock,Sort.ahead];rw[Array.getElem?_append_left (by simpa using aj),Array.getElem?_modify,if_pos rfl,hb];rfl
 .simp only[Sort.grow,Sort.putRow,Sort.mapBlock,Sort.ahead];rw[Array.getElem?_append_left (by simpa using hk),Array.getElem?_modify,if_neg (λe=>db e.symm)]
 .refine List.ext_getElem? (λt=>?_);by_cases h:t < F.size
  .rw[List.getElem?_take,if_pos h];have hc:t < ag.size:=by omega
   simp[Sort.putCells,h,hc]
  .rw[List.getElem?_take,if_neg h,List.getElem?_eq_none (by simpa using h)]
theorem qgl(x y:Gd×Int):@Go.Proofs.ltOf (Gd×Int) q3l x y=decide (x.2 < y.2):=by
 unfold Go.Proofs.ltOf q3l Lib.compareInt;by_cases h:x.2 < y.2
 .simp[h]
 .by_cases h2:x.2 > y.2
  .simp[h,h2]
  .simp[h,h2]
theorem q18(v:Vq)(xs:List (Gd×Int))(b:Nat)(w:Wq)(qq:w.ownsRow b 172 4 v xs.length (xs.flatMap qr))(hl:xs.length<=1000000) :
  Calls Tryz.prog 185 #[v,.func (.func 132) #[] #[]] w λe w'=>e=.returned (.tuple #[])/\∃ys:List (Gd×Int),ys.Perm xs/\ys.Pairwise (λa b=>a.2<=b.2)/\w'.ownsRow b 172 4 v ys.length (ys.flatMap qr)/\Chg w w' (λk=>some k=v.ownBlock):=by
 letI:=qvv
 have dl:=qq;obtain⟨am,⟨hv,hn⟩ | ⟨g,cap,ag,hv,hb,hh,h1,h2,h3,h4⟩⟩:=qq
 .subst hv;have:xs=[]:=List.eq_nil_of_length_eq_zero hn;subst this;refine (AnyF.slices_SortFunc_none Tryz.sortLasting none 0 _ w).mono ?_;rintro e w' ⟨rfl,rfl⟩;exact⟨rfl,[],.refl _,.nil,dl,Chg.refl _ _⟩
 .subst hv;have aj:=(zg hh).1;have dd:(Sort.flatK qr 4 xs.toArray).toList=xs.flatMap qr:=qph xs
  have hH:Sort.HoldsK qr 4 w g 0 xs.toArray:=by
   intro j hj;have c5:j < xs.length*4:=by simpa using hj
   refine⟨?_,by simp[World.frozen?,hh]⟩
   have e1:(Sort.flatK qr 4 xs.toArray).toList[j]?=ag.toList[j]?:=by
    rw[dd,<- h4,List.getElem?_take,if_pos c5]
   have e2:(Sort.flatK qr 4 xs.toArray)[j]?=ag[j]?:=by simpa using e1
   have e3:(Sort.flatK qr 4 xs.toArray)[j]?=some (Sort.flatK qr 4 xs.toArray)[j]!:=by
    rw[Array.getElem?_eq_getElem hj];exact congrArg some (getElem!_pos (Sort.flatK qr 4 xs.toArray) j hj).symm
   simp only[World.cell?,hh];rw[e3] at e2;simpa using e2.symm
  refine (AnyQ.slices_SortFunc Tryz.sortLasting 4 (λW=>Tryz.isAgg172 W) (λW=>Tryz.sizeOf172 W) qr qb7 (λx u hu=>by
    simp only[qr,List.mem_cons,List.not_mem_nil,or_false] at hu
    rcases hu with rfl | rfl | rfl | rfl <;> rfl) q3l ⟨λx=>?_,λx y z=>?_,λx y z=>?_⟩ 132 #[] g 0 cap xs.toArray w (enters_of Tryz.func132 (by kernel_rfl) rfl) (λm os dk hs x y=>?_) hH aj (by simp;omega)).mono ?_
  .rw[qgl];simp
  .rw[qgl,qgl,qgl];simp;omega
  .rw[qgl,qgl,qgl];simp;omega
  .exact (qyh x y _)
  .rintro e w' ⟨rfl,d',n,os,hp,hs,rfl⟩;obtain⟨p1,p2,p3⟩:=hp;have hd:d'.size=xs.length:=by simpa using p1
   have Qed:d'.toList.Perm xs:=by
    have q1:d'.extract 0 xs.toArray.size=d':=by rw[Array.extract_eq_self_of_le (by simp[hd])]
    have q2:xs.toArray.extract 0 xs.toArray.size=xs.toArray:=by rw[Array.extract_eq_self_of_le zl]
    rw[q1,q2] at p3;simpa using p3
   refine⟨rfl,d'.toList,Qed,?_,?_,?_⟩
   .rw[List.pairwise_iff_getElem];intro i j hi hj ct;have:=hs i j zz ct (by simp at hj ⊢;omega);rw[qgl] at this;simp at hi hj;simp[hi,hj] at this;simpa using this
   .have hF:(Sort.flatK qr 4 d').size<=ag.size:=by simp[hd,h3];exact Nat.mul_le_mul_right _ h1
    obtain⟨s1,s2,s3,s4⟩:=qnm (n:=n) (Sort.flatK qr 4 d') os hh hF
    have b6:(Sort.flatK qr 4 d').toList=d'.toList.flatMap qr:=by
     have:=qph d'.toList;simpa using this
    refine⟨?_,.inr ⟨g,cap,_,by simp[hd],hb,s1,by simp[hd];exact h1,h2,s3.trans h3,?_⟩⟩
    .rw[<- b6];simp
    .have:d'.toList.length*4=(Sort.flatK qr 4 d').size:=by simp
     rw[this,s4,b6]
   .have hF:(Sort.flatK qr 4 d').size<=ag.size:=by simp[hd,h3];exact Nat.mul_le_mul_right _ h1
    obtain⟨s1,s2,s3,s4⟩:=qnm (n:=n) (Sort.flatK qr 4 d') os hh hF;exact⟨rfl,rfl,rfl,size_sortWorldK_c _ _ _ _ _ _ _ _,λk hk hx=>s2 k hk (λe=>hx (by rw[e];rfl))⟩
theorem qte(v:Vq)(xs:List (Gd×Int))(b Bs:Nat)(w:Wq)(Qs:w.heap[Bs]?=some (Obj.cells #[v] 169))(qq:w.ownsRow b 172 4 v xs.length (xs.flatMap qr))(hl:xs.length<=1000000) :
  Calls Tryz.prog 184 #[.func (.func 186) #[] #[.pointer (some ⟨Bs,0,none⟩)]] w λe w'=>∃v',e=.returned v'/\w'.ownsRow w.heap.size 172 4 v' xs.length (xs.flatMap qr)/\Below w.heap.size w w':=by
 have ci:=qir (.slice none 0 0) [] w.heap.size w ⟨rfl,.inl ⟨rfl,rfl⟩⟩ zl (by simp;omega) (enters_of Tryz.func186 (by kernel_rfl) rfl)
  (λm n=>qwq w.heap.size w.heap.size Bs b v xs w Qs (zg Qs).1 qq (λg hg=>by
   obtain⟨_,c,hc⟩:=qe qq hg;have:=(zg hc).1
   exact⟨this,this⟩) hl m n)
 have cu:Hid (Calls Tryz.prog 134 #[.slice none 0 0,.func (.func 186) #[] #[.pointer (some ⟨Bs,0,none⟩)]] w λe w'=>∃oa oc,e=.returned (.slice oa xs.length oc)/\w'.ownsRow w.heap.size 172 4 (.slice oa xs.length oc) xs.length (xs.flatMap qr)/\Below w.heap.size w w'):=by
  refine ci.mono ?_;rintro e W1 ⟨v',ys,rfl,dn,ho,hb,_⟩;have Qhg:ys=xs:=dn;rw[Qhg,List.nil_append] at ho;obtain⟨oa,oc,b4⟩:=qo ho;subst b4;exact⟨oa,oc,rfl,ho,hb⟩
 clear ci qq Qs;go_enter Tryz.func184,Tryz.ntmps184
 go_wp2_with (go_at_call 134;refine (cu.out).mono ?_;rintro e W1 ⟨oa,oc,rfl,ho,hb⟩)
 go_ret;exact⟨_,rfl,ho,hb⟩
theorem qwk(v:Vq)(xs:List (Gd×Int))(b Bs:Nat)(w:Wq)(Qs:w.heap[Bs]?=some (Obj.cells #[v] 169))(qq:w.ownsRow b 172 4 v xs.length (xs.flatMap qr))(hl:xs.length<=1000000) :
  Calls Tryz.prog 130 #[.func (.func 186) #[] #[.pointer (some ⟨Bs,0,none⟩)],.func (.func 132) #[] #[]] w λe w'=>∃(v':Vq) (ys:List (Gd×Int)),e=.returned v'/\ys.Perm xs/\ys.Pairwise (λa b=>a.2<=b.2)/\w'.ownsRow w.heap.size 172 4 v' ys.length (ys.flatMap qr)/\Below w.heap.size w w':=by
 have HC:Hid (Calls Tryz.prog 184 #[.func (.func 186) #[] #[.pointer (some ⟨Bs,0,none⟩)]] w λe w'=>∃oa oc,e=.returned (.slice oa xs.length oc)/\w'.ownsRow w.heap.size 172 4 (.slice oa xs.length oc) xs.length (xs.flatMap qr)/\Below w.heap.size w w'):=by
  refine (qte v xs b Bs w Qs qq hl).mono ?_;rintro e W1 ⟨v',rfl,ho,hb⟩;obtain⟨oa,oc,b4⟩:=qo ho;subst b4;exact⟨oa,oc,rfl,ho,hb⟩
 have co:Hid (∀oa oc W,W.ownsRow w.heap.size 172 4 (.slice oa xs.length oc) xs.length (xs.flatMap qr)->Calls Tryz.prog 185 #[.slice oa xs.length oc,.func (.func 132) #[] #[]] W λe w'=>e=.returned (.tuple #[])/\∃ys:List (Gd×Int),ys.Perm xs/\ys.Pairwise (λa b=>a.2<=b.2)/\w'.ownsRow w.heap.size 172 4 (.slice oa xs.length oc) ys.length (ys.flatMap qr)/\Chg W w' (λk=>some k=(Value.slice oa xs.length oc).ownBlock)):=λoa oc W ho=>q18 _ xs _ W ho hl;clear qq Qs;go_enter Tryz.func130,Tryz.ntmps130
 go_wp2_with (first | (go_at_call 184;refine (HC.out).mono ?_;rintro e W1 ⟨oa,oc,rfl,ho,hb⟩) | (go_at_call 185;refine (co.out oa oc W1 ho).mono ?_;rintro e W2 ⟨rfl,ys,hp,hs,cw,aw⟩))
 go_ret;refine⟨_,ys,rfl,hp,hs,cw,hb.trans ⟨aw.os,aw.tape,aw.output,aw.size,λk hk=>aw.block k (by have:=hb.size;omega) (λe=>?_)⟩⟩;have:=(qe ho e.symm).1;omega
attribute [local go_sem] Oper.semAt_some
def qit(g:Gd):List ByteArray:=if g.y.toList.isEmpty=true then [g.x] else [g.x,g.y]
def qn4(g:Gd):ByteArray:=⟨(Lib.join ((qit g).map (·.data.toList)) (⟨#[44]⟩:ByteArray).data.toList).toArray⟩
def qcb(g:Gd):ByteArray:=g.rel ++ ⟨#[40]⟩++qn4 g ++ ⟨#[41]⟩
theorem q46(g:Gd)(h2:g.x.size<=2000)(h3:g.y.size<=2000):(Lib.join ((qit g).map (·.data.toList)) (⟨#[44]⟩:ByteArray).data.toList).length<=4001:=by
 have e1:g.x.data.toList.length=g.x.size:=by simp
 have e2:g.y.data.toList.length=g.y.size:=by simp
 unfold qit;split
 .simp[Lib.join];omega
 .simp[Lib.join];omega
theorem q6h(g:Gd)(w:Wq)(h1:g.rel.size<=2000)(h2:g.x.size<=2000)(h3:g.y.size<=2000) :
  Calls Tryz.prog 91 #[g.v] w λe w'=>e=.returned (.string (qcb g))/\Below w.heap.size w w':=by
 have cg:=q46 g h2 h3
 have dr:(qn4 g).size<=4001:=by
  show (qn4 g).data.size<=_;unfold qn4;simpa using cg
 obtain⟨N,hN⟩:∃N,w.heap.size=N:=⟨_,rfl⟩
 have Qj:∀W1,Below (N+1) (w.alloc (.cells #[.string g.rel,.string g.x,.string g.y] 111)) W1->W1.heap[N]?=some (Obj.cells #[.string g.rel,.string g.x,.string g.y] 111):=by
  intro W1 hb;have:=zn w (.cells #[.string g.rel,.string g.x,.string g.y] 111);rw[hN] at this;exact (hb.block N (by omega)).trans this
 have a9:Hid (∀W1,Below (N+1) (w.alloc (.cells #[.string g.rel,.string g.x,.string g.y] 111)) W1->∀ln,(qit g).length=ln->Calls Tryz.prog 153 #[.slice (some ⟨N,1,none⟩) ln 2,.string ⟨#[44]⟩] W1 λe w'=>e=.returned (.string (qn4 g))/\Below W1.heap.size W1 w'/\w'.cell? ⟨N,0,none⟩=some (.string g.rel)/\Below (N+1) (w.alloc (.cells #[.string g.rel,.string g.x,.string g.y] 111)) w'):=by
  rintro W1 hb ln rfl;have hh:=Qj W1 hb;have hs:=hb.size;rw[World.size_alloc,hN] at hs;have av:(qit g).length<=2:=by unfold qit;split <;> simp
  refine (Tryz.strings_Join N 1 2 (qit g) ⟨#[44]⟩ W1 ?_ (by omega) (by omega) av (by omega)).mono ?_
  .intro j x hj;simp only[World.cell?,hh];unfold qit at hj;split at hj
   .match j,hj with
    | 0,hj=>simp at hj;subst hj;simp
   .match j,hj with
    | 0,hj=>simp at hj;subst hj;simp
    | 1,hj=>simp at hj;subst hj;simp
  .rintro e w' ⟨rfl,bn⟩;refine⟨rfl,bn,?_,hb.trans (bn.mono (by omega))⟩;have:=Qj w' (hb.trans (bn.mono (by omega)));simp[World.cell?,this]
 have cj:Hid (qcb g=g.rel ++ ⟨#[40]⟩++qn4 g ++ ⟨#[41]⟩):=rfl;have ap:Hid (Below (N+1) (w.alloc (.cells #[.string g.rel,.string g.x,.string g.y] 111)) (w.alloc (.cells #[.string g.rel,.string g.x,.string g.y] 111)).drew):=zr.drew;have HW:Hid (∀W1,Below (N+1) (w.alloc (.cells #[.string g.rel,.string g.x,.string g.y] 111)) W1->Below w.heap.size w W1):=λW1 hb=>((Below.refl _ w).alloc zl _).trans (hb.mono (by omega));unfold Gd.v Gd.c;generalize qcb g=tx at *;generalize qn4 g=jg at *;clear Qj cg
 cases hy:g.y.toList.isEmpty with
 | true=>
  have Qa3:Hid (∀W1,Below (N+1) (w.alloc (.cells #[.string g.rel,.string g.x,.string g.y] 111)) W1->Calls Tryz.prog 153 #[.slice (some ⟨N,1,none⟩) 1 2,.string ⟨#[44]⟩] W1 λe w'=>e=.returned (.string jg)/\Below W1.heap.size W1 w'/\w'.cell? ⟨N,0,none⟩=some (.string g.rel)/\Below (N+1) (w.alloc (.cells #[.string g.rel,.string g.x,.string g.y] 111)) w'):=λW1 hb=>a9.out W1 hb 1 (by unfold qit;rw[if_pos hy];rfl);clear a9;go_enter Tryz.func91,Tryz.ntmps91;go_wp2
  (try simp only[hN])
  go_region_with (go_at_call 153;refine (Qa3.out _ ap.out).mono ?_;rintro e W1 ⟨rfl,cq,cx,b0⟩)
  all_goals go_wp2
  all_goals go_ret
  all_goals rw[cj.out]
  all_goals exact⟨rfl,HW.out W1 b0⟩
 | false=>
  have Qa3:Hid (∀W1,Below (N+1) (w.alloc (.cells #[.string g.rel,.string g.x,.string g.y] 111)) W1->Calls Tryz.prog 153 #[.slice (some ⟨N,1,none⟩) 2 2,.string ⟨#[44]⟩] W1 λe w'=>e=.returned (.string jg)/\Below W1.heap.size W1 w'/\w'.cell? ⟨N,0,none⟩=some (.string g.rel)/\Below (N+1) (w.alloc (.cells #[.string g.rel,.string g.x,.string g.y] 111)) w'):=λW1 hb=>a9.out W1 hb 2 (by unfold qit;rw[if_neg (by rw[hy];simp)];rfl);clear a9;go_enter Tryz.func91,Tryz.ntmps91;go_wp2
  (try simp only[hN])
  go_region_with (go_at_call 153;refine (Qa3.out _ ap.out).mono ?_;rintro e W1 ⟨rfl,cq,cx,b0⟩)
  all_goals go_wp2
  all_goals go_ret
  all_goals rw[cj.out]
  all_goals exact⟨rfl,HW.out W1 b0⟩
