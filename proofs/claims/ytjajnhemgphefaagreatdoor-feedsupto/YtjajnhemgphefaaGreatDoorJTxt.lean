/- A part -/
import Derived.Test.YtjajnhemgphefaaGreatDoorJMoB
import Derived.Test.YtjajnhemgphefaaGreatDoorMore
import Derived.Shelf.SlSortCmp.NoneTotal
set_option linter.all false
set_option maxRecDepth 100000
set_option maxHeartbeats 2000000
open List renaming length->aB,length_cons->aX,getElem?_take->aZ,nil_append->bD,getElem?_eq_none->bF,append_toArray->bL,size_toArray->bO,push_toArray->bQ,flatMap_cons->bT,ext_getElem?->bU,cons_append->bX,length_nil->bZ
open Go.World renaming cell?->aC,frozen?->aD,ownsRow->aE,putObj_heap_same->bE
open Go.Value renaming ownBlock->aF,slice->aH,string->aI,agg->aJ,bool->aK,tuple->aL,int->aM
open Go.Obj renaming cells->aN
open Go.Ending renaming returned->aO
open Go.IntKind renaming i64->aP
open Or renaming inl->aQ,inr->aR
open Option renaming some->aV,none->aW
open Go.RowKit.Below renaming refl->aY
open Array renaming extract_eq_self_of_le->bB,getElem?_append_left->bC,getElem?_modify->bG,replicate_succ->bH,replicate_zero->bI
open Nat renaming mul_le_mul_right->bJ,reduceAdd->cA,reduceSub->cD
open Go renaming OwnFrom->cE,KeepsFrom->cI,grownBy_putObj'->cO,run_endLoop->cQ,Code->cR,callsIn_of_wp_marks->cT,Loop->cU,callsIn_wide->cX
open Go.Proofs.Tryz renaming prog->cF
open Go.RowKit renaming Below->cG
open Go.Sort renaming flatK->cH,grow->cJ,putCells->cL,putRow->cP,ahead->cS,alloc_eq_grow->cW
open Go.Fence renaming wide->cM
namespace Go.Proofs.YtjajnhemgphefaaGreatDoor
open Go renaming World->Wq,Value->Vq
open Go.RowKit Go.Shelf
def fW{α:Type}(m n gf:Nat)(lb:Array Vq)(ab:α->Array Vq)(Kp:Wq->Wq->Prop)(S Sp:List α->Prop)(N:Nat)(w:Wq):Prop:=
 ∀(l:Nat) (J Jx:List α->Wq->Prop) (W:Wq),cG w.heap.size w W->m<=W.heap.size->cE W.heap.size J->cE W.heap.size Jx->
  (∀pre x W1,J pre W1->aB pre<N->YieldAt cM (n-1) cF l (ab x) W1 λe W'=>(e=aO (aK true)/\J (pre++[x]) W'/\Kp W1 W')\/(e=aO (aK false)/\Jx (pre++[x]) W'/\cI m W1 W'))->
  J [] W->CallsIn cM n cF gf (#[.func (.yield l) #[] #[]]++lb) W λe W'=>(∃v,e=aO v)/\((∃xs,S xs/\J xs W')\/(∃pre,Sp pre/\Jx pre W'))
theorem FD{n n' l:Nat}{args:Array Vq}{w:Wq}{R:Ending->Wq->Prop}(h:YieldAt cM n cF l args w R):YieldAt cM n' cF l args w R:=by have⟨fn,tmps,assign,body,hy,hR⟩:=h;exact⟨fn,tmps,assign,body,hy,⟨hR.1,λc d _=>hR.2 c d (room_wide _)⟩⟩
theorem fW.any{α:Type}{m n gf:Nat}{lb:Array Vq}{ab:α->Array Vq}{Kp:Wq->Wq->Prop}{S Sp:List α->Prop}{N:Nat}{w:Wq}(h:fW m n gf lb ab Kp S Sp N w)(n':Nat):fW m n' gf lb ab Kp S Sp N w:=
 λl J d W M A G z O h0=>cX.2 (cX.1 (h l J d W M A G z (λpre x W1 C E=>FD (O pre x W1 C E)) h0))
structure kh(I:Wq->Prop)(D:Nat)(rec:cU)(W:Wq):Prop where
 inv:I W
 loop:W.heap[D]?=aV (.loop rec)
theorem kh.own{β:Type}{I:β->Wq->Prop}{B D:Nat}{rec:β->cU}(hI:cE B I)(E:D+1<=B):cE B (λs=>kh (I s) D (rec s)):=by rintro s W W' row ⟨C,d⟩ z A;exact⟨hI s W W' row C z A,(z.block D (zg d).1 (λe=>by have:=(A D e.symm).1;omega)).trans d⟩
section
variable {α:Type} {n gf:Nat} {lb:Array Vq} {ab:α->Array Vq} {Kp:Wq->Wq->Prop} {S Sp:List α->Prop} {N:Nat}
theorem nz{g:Operand}{ps:Array Tmp}{assign body:cR}{Q:Exit->Act->Wq->Prop}{a:Act}{w:Wq}(hg:a.eval g=.func (.func gf) #[] lb)(eg:∀args w,(callFunc gf args).run cF w=.ok (.enter gf args) w)(ai:fW (w.heap.size+2) (n-1) gf lb ab Kp S Sp N w)(av:∀{A B C:Wq},Kp A B->Kp B C->Kp A C)(aw:∀(W:Wq) (d:cU) (o':Obj),W.heap[w.heap.size+1]?=aV (.loop d)->Kp W (W.putObj (w.heap.size+1) o'))(bn:∀x,(ab x).size=ps.size)(I:List α->Wq->Prop)(Ix:cR->List α->Wq->Prop)(hI:cE w.heap.size I)(hIx:∀c,cE w.heap.size (Ix c))(h0:I [] w)(Ax:α->Act->Wq->Prop)(hAx:∀x O,cE w.heap.size (λ(_:Unit) W=>Ax x O W))(ad:∀(l:Nat) (pre:List α) (x:α) (W:Wq) (K:Act->Wq->Prop),w.heap.size<=l->(∃r,W.heap[l]?=aV (.loop r))->I pre W->(∀O W',cI w.heap.size W W'->Kp W W'->I pre W'->Ax x O W'->K O W')->
   assign.wpIn (Fence.wide.inRound l) (n-1-1) cF (Exit.then K (λ_ _ _=>False)) {tmps:=(ps.zip (ab x)).foldl (λt (p,v)=>t.setIfInBounds p v) a.tmps,defers:=[]} W)(bq:∀(l:Nat) (pre:List α) (x:α) (O:Act) (W:Wq),w.heap.size<=l->(∃r,W.heap[l]?=aV (.loop r))->I pre W->Ax x O W->aB pre<N->body.wpIn (Fence.wide.inRound l) (n-1-1) cF (ownPostG w.heap.size Kp I Ix (pre++[x]) W) O W)(bf:∀(D:Nat) (xs:List α) (W:Wq),w.heap.size<=D->S xs->I xs W->W.heap[D]?=aV (.deferred (aV []))->Q .normal {a with defers:={target:=.collected D,args:=#[]}::a.defers} W)(b0:∀(D:Nat) (c:cR) (pre:List α) (W:Wq),w.heap.size<=D->Sp pre->Ix c pre W->W.heap[D]?=aV (.deferred (aV []))->c.wpIn cM n cF Q {a with defers:={target:=.collected D,args:=#[]}::a.defers} W):(Code.rangeFunc g ps assign body).wpIn cM n cF Q a w:=by
 refine wpIn_rangeFunc (λfn dg=>?_)
 let d:LoopState->Option cR->Loop:=λst pe=>{state:=st,pending:=pe,fn:=fn,tmps:=a.tmps,params:=ps,assign:=assign,body:=body,defers:=w.heap.size}
 let wA:=w.alloc (.deferred (aV []))
 let M:=wA.alloc (.loop (d .ready aW))
 have sA:wA.heap.size=w.heap.size+1:=by simp[wA]
 have sB:M.heap.size=w.heap.size+2:=by simp[M,wA]
 have gB:cG w.heap.size w M:=((aY _ w).alloc zl _).alloc (by simp) _
 have bv:gK (I []) w.heap.size (d .ready aW) M:=by
  refine⟨hI _ _ _ aW h0 (qg gB) (λr e=>by cases e),?_,?_⟩;{have:=zn wA (.loop (d .ready aW));rw[sA] at this;exact this};{exact (Below.heap_alloc wA _ _ (by omega)).trans (zn w _)}
 have ae:∀{I':Wq->Prop} {r:cU} (r':cU) {W:Wq},cE w.heap.size (λ(_:Unit)=>I')->gK I' w.heap.size r W->gK I' w.heap.size r' (W.putObj (w.heap.size+1) (.loop r')):=by intro I' r r' W ho z;exact⟨ho.putObj (s:=()) _ z.inv (by omega) z.loop rfl,bE (zg z.loop).1,(World.putObj_heap_other (by omega)).trans z.mark⟩
 have oI:∀pre,cE w.heap.size (λ(_:Unit)=>I pre):=λpre _ A B row hs af E=>hI pre A B row hs af E;have oX:∀c pre,cE w.heap.size (λ(_:Unit)=>Ix c pre):=λc pre _ A B row hs af E=>hIx c pre A B row hs af E;have up:∀{β:Type} {X:β->Wq->Prop},cE w.heap.size X->cE M.heap.size X:=λh s A B row hs af E=>h s A B row hs af (λr e=>⟨by have:=(E r e).1;omega,(E r e).2⟩);have oJ:cE M.heap.size (λpre=>gK (I pre) w.heap.size (d .ready aW)):=gK.own (up hI) (by omega);have be:cE M.heap.size (λpre W=>∃c,gK (Ix c pre) w.heap.size (d .done (aV c)) W):=by rintro pre A B row ⟨c,hc⟩ af E;exact⟨c,gK.own (I:=λ_:Unit=>Ix c pre) (rec:=λ_=>d .done (aV c)) (up (oX c pre)) (by omega) () A B row hc af E⟩
 refine⟨w.heap.size+1,[{target:=.collected w.heap.size,args:=#[]}],M,{target:=.fn (.func gf) lb,args:=#[.func (.yield (w.heap.size+1)) #[] #[]]},M,gf,#[.func (.yield (w.heap.size+1)) #[] #[]]++lb,M,run_enterLoop_outer _ _ _ _ _,?_,λ_ _=>trivial,?_,(λh=>(by cases h)),?_⟩
 .simp only[resolve,hg];simp[go_sem]
 .simp[invoke,go_sem,eg]
 refine (ai (w.heap.size+1) (λpre=>gK (I pre) w.heap.size (d .ready aW)) (λpre W=>∃c,gK (Ix c pre) w.heap.size (d .done (aV c)) W) M gB (by omega) oJ be ?_ bv).mono ?_
 .intro pre x W z al;have hy:=run_yield (P:=cF) (args:=ab x) z.loop (bn x);refine⟨fn,_,assign,body,hy,roundIn_of_wpIn trivial (ad _ pre x W _ (by omega) ⟨_,z.loop⟩ z.inv ?_)⟩;intro O Wa kA bi iA b3;have an:gK (I pre) w.heap.size (d .ready aW) Wa:=⟨iA,kA.same _ _ (by omega) z.loop rfl,kA.same _ _ zl z.mark rfl⟩;refine⟨_,run_beginRound an.loop rfl,?_⟩;have ap:=ae {d .ready aW with state:=.busy} (oI pre) an;have bk:=aw Wa _ (.loop {d .ready aW with state:=.busy}) an.loop;refine wpIn_mono (bq _ pre x O _ (by omega) ⟨_,ap.loop⟩ ap.inv ((hAx x O).putObj (s:=()) _ b3 (by omega) an.loop rfl) al) ?_;intro e a3 W3 hp
  have done:∀(ac:Option cR) {I':Wq->Prop},cE w.heap.size (λ(_:Unit)=>I')->cI w.heap.size (Wa.putObj (w.heap.size+1) (.loop {d .ready aW with state:=.busy})) W3->I' W3->
    ∃W4,(Instr.endRound (w.heap.size+1) ac).run cF W3=.ok (aK ac.isNone) W4/\gK I' w.heap.size (d (if ac.isNone then .ready else .done) ac) W4/\Kp W3 W4/\cI (w.heap.size+2) W W4:=by
   intro ac I' ho G Z;have h3:gK I' w.heap.size {d .ready aW with state:=.busy} W3:=⟨Z,G.same _ _ (by omega) ap.loop rfl,G.same _ _ zl ap.mark rfl⟩;exact⟨_,run_endRound ac h3.loop,ae _ ho h3,aw _ _ _ h3.loop,KeepsFrom.tr (KeepsFrom.tr (KeepsFrom.tr (KeepsFrom.up kA (by omega)) (KeepsFrom.put _ _ _ (by omega))) (KeepsFrom.up G (by omega))) (KeepsFrom.put _ _ _ (by omega))⟩
  cases e with
  |normal=>have⟨G,kp,Z⟩:=hp;have⟨W4,E,h4,k4,_⟩:=done aW (oI _) G Z;exact⟨_,_,E,aQ ⟨rfl,h4,av bi (av bk (av kp k4))⟩⟩
  |ret=>have⟨G,Z⟩:=hp;have⟨W4,E,h4,_,k4⟩:=done (aV .ret) (oX _ _) G Z;exact⟨_,_,E,aR ⟨rfl,⟨_,h4⟩,k4⟩⟩
  |exit id=>have⟨G,Z⟩:=hp;have⟨W4,E,h4,_,k4⟩:=done (aV (.exit id)) (oX _ _) G Z;exact⟨_,_,E,aR ⟨rfl,⟨_,h4⟩,k4⟩⟩
  |goto t=>have⟨G,Z⟩:=hp;have⟨W4,E,h4,_,k4⟩:=done (aV (.goto t)) (oX _ _) G Z;exact⟨_,_,E,aR ⟨rfl,⟨_,h4⟩,k4⟩⟩
  |panic ch=>exact hp.elim
  |outgrown=>exact hp.elim
 .rintro e W2 ⟨⟨v,rfl⟩,(⟨xs,hS,z⟩|⟨pre,b7,c,z⟩)⟩;{have h2:=ae {d .ready aW with state:=.exhausted} (oI xs) z;exact⟨aW,_,cQ z.loop (by intro h;cases h),bf _ xs _ zl hS h2.inv h2.mark⟩};{have h2:=ae {d .done (aV c) with state:=.exhausted} (oX c pre) z;exact⟨aV c,_,cQ z.loop (by intro h;cases h),b0 _ c pre _ zl b7 h2.inv h2.mark⟩}
theorem JK{g:Operand}{ps:Array Tmp}{assign body:cR}{Q:Exit->Act->Wq->Prop}{a:Act}{w:Wq}{l₀:Nat}{r₀:cU}(hl₀:w.heap[l₀]?=aV (.loop r₀))(hg:a.eval g=.func (.func gf) #[] lb)(eg:∀args w,(callFunc gf args).run cF w=.ok (.enter gf args) w)(ai:fW (w.heap.size+1) (n-1) gf lb ab Kp S Sp N w)(av:∀{A B C:Wq},Kp A B->Kp B C->Kp A C)(aw:∀(W:Wq) (d:cU) (o':Obj),W.heap[w.heap.size]?=aV (.loop d)->Kp W (W.putObj w.heap.size o'))(bn:∀x,(ab x).size=ps.size)(I:List α->Wq->Prop)(Ix:cR->List α->Wq->Prop)(hI:cE w.heap.size I)(hIx:∀c,cE w.heap.size (Ix c))(h0:I [] w)(Ax:α->Act->Wq->Prop)(hAx:∀x M,cE w.heap.size (λ(_:Unit) W=>Ax x M W))(ad:∀(l:Nat) (pre:List α) (x:α) (W:Wq) (K:Act->Wq->Prop),w.heap.size<=l->(∃r,W.heap[l]?=aV (.loop r))->I pre W->(∀M W',cI w.heap.size W W'->Kp W W'->I pre W'->Ax x M W'->K M W')->
   assign.wpIn (Fence.wide.inRound l) (n-1-1) cF (Exit.then K (λ_ _ _=>False)) {tmps:=(ps.zip (ab x)).foldl (λt (p,v)=>t.setIfInBounds p v) a.tmps,defers:=[]} W)(bq:∀(l:Nat) (pre:List α) (x:α) (M:Act) (W:Wq),w.heap.size<=l->(∃r,W.heap[l]?=aV (.loop r))->I pre W->Ax x M W->aB pre<N->body.wpIn (Fence.wide.inRound l) (n-1-1) cF (ownPostG w.heap.size Kp I Ix (pre++[x]) W) M W)(bf:∀(xs:List α) (W:Wq),S xs->I xs W->Q .normal a W)(b0:∀(c:cR) (pre:List α) (W:Wq),Sp pre->Ix c pre W->c.wpIn (Fence.wide.inRound l₀) n cF Q a W):(Code.rangeFunc g ps assign body).wpIn (Fence.wide.inRound l₀) n cF Q a w:=by
 refine wpIn_rangeFunc (λfn dg=>?_)
 let d:LoopState->Option cR->Loop:=λst pe=>{state:=st,pending:=pe,fn:=fn,tmps:=a.tmps,params:=ps,assign:=assign,body:=body,defers:=r₀.defers}
 let G:=w.alloc (.loop (d .ready aW))
 have sB:G.heap.size=w.heap.size+1:=by simp[G]
 have gB:cG w.heap.size w G:=(aY _ w).alloc zl _;have bv:kh (I []) w.heap.size (d .ready aW) G:=⟨hI _ _ _ aW h0 (qg gB) (λr e=>by cases e),zn w _⟩;have ae:∀{I':Wq->Prop} {r:cU} (r':cU) {W:Wq},cE w.heap.size (λ(_:Unit)=>I')->kh I' w.heap.size r W->kh I' w.heap.size r' (W.putObj w.heap.size (.loop r')):=by intro I' r r' W ho E;exact⟨ho.putObj (s:=()) _ E.inv zl E.loop rfl,bE (zg E.loop).1⟩
 have oI:∀pre,cE w.heap.size (λ(_:Unit)=>I pre):=λpre _ A B row hs af z=>hI pre A B row hs af z;have oX:∀c pre,cE w.heap.size (λ(_:Unit)=>Ix c pre):=λc pre _ A B row hs af z=>hIx c pre A B row hs af z;have up:∀{β:Type} {X:β->Wq->Prop},cE w.heap.size X->cE G.heap.size X:=λh s A B row hs af z=>h s A B row hs af (λr e=>⟨by have:=(z r e).1;omega,(z r e).2⟩);have oJ:cE G.heap.size (λpre=>kh (I pre) w.heap.size (d .ready aW)):=kh.own (up hI) (by omega);have be:cE G.heap.size (λpre W=>∃c,kh (Ix c pre) w.heap.size (d .done (aV c)) W):=by rintro pre A B row ⟨c,hc⟩ af z;exact⟨c,kh.own (I:=λ_:Unit=>Ix c pre) (rec:=λ_=>d .done (aV c)) (up (oX c pre)) (by omega) () A B row hc af z⟩
 refine⟨w.heap.size,[],G,{target:=.fn (.func gf) lb,args:=#[.func (.yield w.heap.size) #[] #[]]},G,gf,#[.func (.yield w.heap.size) #[] #[]]++lb,G,run_enterLoop_inner hl₀ _ _ _ _ _,?_,λ_ _=>trivial,?_,(λh=>(by cases h)),?_⟩
 .simp only[resolve,hg];simp[go_sem]
 .simp[invoke,go_sem,eg]
 refine (CallsIn.inRound l₀ (ai w.heap.size (λpre=>kh (I pre) w.heap.size (d .ready aW)) (λpre W=>∃c,kh (Ix c pre) w.heap.size (d .done (aV c)) W) G gB (by omega) oJ be ?_ bv)).mono ?_
 .intro pre x W E al;have hy:=run_yield (P:=cF) (args:=ab x) E.loop (bn x);refine⟨fn,_,assign,body,hy,roundIn_of_wpIn trivial (ad _ pre x W _ zl ⟨_,E.loop⟩ E.inv ?_)⟩;intro M Wa kA bi iA b3;have an:kh (I pre) w.heap.size (d .ready aW) Wa:=⟨iA,kA.same _ _ zl E.loop rfl⟩;refine⟨_,run_beginRound an.loop rfl,?_⟩;have ap:=ae {d .ready aW with state:=.busy} (oI pre) an;have bk:=aw Wa _ (.loop {d .ready aW with state:=.busy}) an.loop;refine wpIn_mono (bq _ pre x M _ zl ⟨_,ap.loop⟩ ap.inv ((hAx x M).putObj (s:=()) _ b3 zl an.loop rfl) al) ?_;intro e a3 W3 hp
  have done:∀(ac:Option cR) {I':Wq->Prop},cE w.heap.size (λ(_:Unit)=>I')->cI w.heap.size (Wa.putObj w.heap.size (.loop {d .ready aW with state:=.busy})) W3->I' W3->
    ∃W4,(Instr.endRound w.heap.size ac).run cF W3=.ok (aK ac.isNone) W4/\kh I' w.heap.size (d (if ac.isNone then .ready else .done) ac) W4/\Kp W3 W4/\cI (w.heap.size+1) W W4:=by
   intro ac I' ho O Z;have h3:kh I' w.heap.size {d .ready aW with state:=.busy} W3:=⟨Z,O.same _ _ zl ap.loop rfl⟩;exact⟨_,run_endRound ac h3.loop,ae _ ho h3,aw _ _ _ h3.loop,KeepsFrom.tr (KeepsFrom.tr (KeepsFrom.tr (KeepsFrom.up kA (by omega)) (KeepsFrom.put _ _ _ (by omega))) (KeepsFrom.up O (by omega))) (KeepsFrom.put _ _ _ (by omega))⟩
  cases e with
  |normal=>have⟨O,kp,Z⟩:=hp;have⟨W4,z,h4,k4,_⟩:=done aW (oI _) O Z;exact⟨_,_,z,aQ ⟨rfl,h4,av bi (av bk (av kp k4))⟩⟩
  |ret=>have⟨O,Z⟩:=hp;have⟨W4,z,h4,_,k4⟩:=done (aV .ret) (oX _ _) O Z;exact⟨_,_,z,aR ⟨rfl,⟨_,h4⟩,k4⟩⟩
  |exit id=>have⟨O,Z⟩:=hp;have⟨W4,z,h4,_,k4⟩:=done (aV (.exit id)) (oX _ _) O Z;exact⟨_,_,z,aR ⟨rfl,⟨_,h4⟩,k4⟩⟩
  |goto t=>have⟨O,Z⟩:=hp;have⟨W4,z,h4,_,k4⟩:=done (aV (.goto t)) (oX _ _) O Z;exact⟨_,_,z,aR ⟨rfl,⟨_,h4⟩,k4⟩⟩
  |panic ch=>exact hp.elim
  |outgrown=>exact hp.elim
 .rintro e W2 ⟨⟨v,rfl⟩,(⟨xs,hS,E⟩|⟨pre,b7,c,E⟩)⟩;{have h2:=ae {d .ready aW with state:=.exhausted} (oI xs) E;exact⟨aW,_,cQ E.loop (by intro h;cases h),bf xs _ hS h2.inv⟩};{have h2:=ae {d .done (aV c) with state:=.exhausted} (oX c pre) E;exact⟨aV c,_,cQ E.loop (by intro h;cases h),b0 c pre _ b7 h2.inv⟩}
end
end Go.Proofs.YtjajnhemgphefaaGreatDoor
namespace Go.Proofs.YtjajnhemgphefaaGreatDoor
open Go renaming World->Wq,Value->Vq
open Go.RowKit Go.Shelf Go.Maps
attribute [local go_sem] Oper.semAt_some
variable {B aa m gf N:Nat} {X Y Z W W':Wq} {lb:Array Vq}
def qx(x:Gd×Int):List Vq:=[aI x.1.rel,aI x.1.x,aI x.1.y,aM aP x.2]
theorem l4(x:Gd×Int):aB (qx x)=4:=rfl
theorem Tryz.infoLast:(Tryz.prog.info? 172).map (λi=>(i.zero,i.size,i.bytes))=aV (aV (aJ #[St ⟨#[]⟩,St ⟨#[]⟩,St ⟨#[]⟩,Ii 0]),4,56):=by kernel_rfl
theorem Hg(v:Vq)(w:Wq)(z:Option Addr)(C A:Nat)(d:v=aH z C A):Cs 131 #[v] w λe w'=>e=aO (.func (.func 186) #[] #[Pt w.heap.size])/\w'=w.alloc (aN #[v] 169):=by subst d;go_enter Tryz.func131,Tryz.ntmps131;go_wp2;go_ret;exact⟨rfl,rfl⟩
structure ib(B aa m:Nat)(W W':Wq):Prop where
 block:∀(k:Nat) (o:Obj),k<B->W.heap[k]?=aV o->(k<aa\/∀c fz,o≠aN c 172 fz)->W'.heap[k]?=aV o
 from':cI m W W'
theorem ib.tr(h:ib B aa m X Y)(k:ib B aa m Y Z):ib B aa m X Z:=⟨λi o d A z=>k.block i o d (h.block i o d A z) z,KeepsFrom.tr h.from' k.from'⟩
theorem ib.ofBelow(h:cG W.heap.size W W'):ib B aa m W W':=⟨λk o _ d _=>(h.block k (zg d).1).trans d,KeepsFrom.ofBelow h⟩
theorem ib.put(W:Wq)(l:Nat)(d:Obj)(A:l<m)(C:B<=l):ib B aa m W (W.putObj l d):=
 ⟨λk o E z _=>((cO W l d).block k (zg z).1 (by simp;omega)).trans z,KeepsFrom.put W l d A⟩
theorem uA{V:Wq}{ex:Nat->Prop}(h:dD V W' ex)(C:∀k,k<V.heap.size->ex k->∃(c:Array Vq) (t:TypeId),V.heap[k]?=cC c t):cI m V W':=
 ⟨h.size,λk o _ d A=>by
  have z:=(zg d).1;refine (h.block k z (λe=>?_)).trans d;have⟨c,t,h1⟩:=C k z e
  rw[h1] at d;cases d;cases A⟩
theorem fW.later{α:Type}{n:Nat}{ab:α->Array Vq}{Kp:Wq->Wq->Prop}{S Sp:List α->Prop}{w w1:Wq}(h:fW m n gf lb ab Kp S Sp N w)(d:cG w.heap.size w w1):fW m n gf lb ab Kp S Sp N w1:=
 λl J z W A=>h l J z W (d.trans (A.mono d.size))
def j9(B aa:Nat)(W W':Wq):Prop:=∀(k:Nat) (o:Obj),k<B->W.heap[k]?=aV o->(k<aa\/∀c fz,o≠aN c 172 fz)->W'.heap[k]?=aV o
theorem j9.tr(h:j9 B aa X Y)(k:j9 B aa Y Z):j9 B aa X Z:=λi o d A z=>k i o d (h i o d A z) z
theorem j9.grown{row:Option Nat}(h:j9 B aa X Y)(z:Y.grownBy Z row)(E:∀r,row=aV r->B<=r):j9 B aa X Z:=λi o A C G=>by have d:=h i o A C G;exact (z.block i (zg d).1 (λe=>by have:=E i e.symm;omega)).trans d
theorem j9.ofBelow(h:cG W.heap.size W W'):j9 B aa W W':=λk o _ d _=>(h.block k (zg d).1).trans d
theorem mF(w:Wq)(x y z u:Vq)(t:TypeId):∀j q,[x,y,z,u][j]?=aV q->aC (w.alloc (aN #[x,y,z,u] t)) ((⟨w.heap.size,0,aW⟩:Addr).add j)=aV q:=by
 intro j q d
 match j,d with
 |0,d=>simp at d;subst d;simp[Addr.add]
 |1,d=>simp at d;subst d;simp[Addr.add]
 |2,d=>simp at d;subst d;simp[Addr.add]
 |3,d=>simp at d;subst d;simp[Addr.add]
 |j+4,d=>simp at d
theorem zE{S Sp:List (Gd×Int)->Prop}(v:Vq)(xs:List (Gd×Int))(aa:Nat)(w:Wq)(qt:w.ownsRow aa 172 4 v xs.length (xs.flatMap qx))(db:aa<=w.heap.size)(hl:xs.length+N<=2000000000000)(eg:∀args w,(callFunc gf args).run Tryz.prog w=.ok (.enter gf args) w)(ai:∀m n,fW m n gf lb (λx:Gd×Int=>#[.agg (qx x).toArray]) (ib w.heap.size aa m) S Sp N w):Cs 134 #[v,.func (.func gf) #[] lb] w λe w'=>∃v' ys,e=.returned v'/\S ys/\w'.ownsRow aa 172 4 v' (xs++ys).length ((xs++ys).flatMap qx)/\Below aa w w'/\j9 w.heap.size aa w w':=by
 obtain⟨az,a7,cw⟩:=qq qt;obtain⟨NB,hN⟩:∃N,w.heap.size=N:=⟨_,rfl⟩;obtain⟨i0,hi,c4,dp,df⟩:=info_parts Tryz.infoLast;rw[cw] at qt ⊢;refine (callsIn_wide (n:=8)).1 ?_;refine callsIn_of_wp_marks Tryz.func134 rfl trivial ?_ rfl;simp only[Tryz.ntmps134,bO,aX,bZ,cA,cD,bH,bI,bQ,bL,bD,bX]
 gi_wp2
 obtain⟨W0,bc⟩:∃W0,w.alloc (.cells #[.slice az xs.length a7] 169)=W0:=⟨_,rfl⟩;have au:Below w.heap.size w W0:=by rw[<-bc];exact (aY _ w).alloc zl _
 have dw:W0.heap.size=NB+1:=by rw[<-bc,<-hN];simp
 have bV:Boxed W0 NB 169 (.slice az xs.length a7):=by have:=Boxed.new w 169 (.slice az xs.length a7);rw[hN,bc] at this;exact this
 have cu:=qj qt au
 (try simp only[hN])
 rw[bc]
 refine nz (n:=8) (gf:=gf) (lb:=lb) rfl eg ((ai _ _).later au) ib.tr (λV rc o' ho=>ib.put V _ o' (by omega) (by omega)) (λ_=>rfl)
  (λpre V=>∃v,Boxed V NB 169 v/\V.ownsRow aa 172 4 v (xs++pre).length ((xs++pre).flatMap qx)/\Below aa w V/\NB<V.heap.size/\j9 w.heap.size aa w V)
  (λ_ _ _=>False)
  ?hI (λ_ _ _ _ _ h _ _=>h) ⟨_,bV,by rw[List.append_nil];exact cu,(au.mono db),by omega,j9.ofBelow au⟩
  (λx a' V=>∃Bx,V.heap[Bx]?=some (Obj.cells #[.string x.1.rel,.string x.1.x,.string x.1.y,.int .i64 x.2] 172)/\a'={tmps:=#[.slice az xs.length a7,.func (.func gf) #[] lb,.pointer (some ⟨NB,0,none⟩),undef,.slice none 0 0,.pointer (some ⟨Bx,0,none⟩),.func (.func gf) #[] lb,.agg #[.string x.1.rel,.string x.1.x,.string x.1.y,.int .i64 x.2],undef,undef,undef,undef,undef],defers:=[]})
  ?hAx ?assign ?body ?done (λ_ _ _ _ _ _ h _=>h.elim)
 case hI=>rintro pre V V' row ⟨v,h1,h2,h3,h4,h5⟩ hg hr;have hk:=qm hg (λr e=>(hr r e).2);exact⟨v,hk _ _ _ _ h1,Qc h2 (λg c _ hc=>hk g c _ _ hc),h3.grown hg (by omega) (λk e=>by have:=(hr k e).1;omega),by have:=hg.size;omega,h5.grown hg (λr e=>by have:=(hr r e).1;omega)⟩
 case hAx=>rintro x a' _ V V' row ⟨Bx,h2,h5⟩ hg hr;exact⟨Bx,qm hg (λr e=>(hr r e).2) _ _ _ _ h2,h5⟩
 case assign=>
  rintro l' pre t V K hl dv ⟨v,h1,h2,h3,h4,h5⟩ hK;have HK:Hid _:=hK;clear hK;unfold qx
  gi_wp2
  have bb:Below V.heap.size V (V.alloc (.cells #[.string t.1.rel,.string t.1.x,.string t.1.y,.int .i64 t.2] 172)):=(aY _ V).alloc zl _;exact HK.o _ _ (KeepsFrom.ofBelow bb) (ib.ofBelow bb) ⟨v,h1.alloc _,h2.alloc _,h3.trans (bb.mono (by omega)),by simp;omega,h5.tr (j9.ofBelow bb)⟩ ⟨V.heap.size,zn V _,rfl⟩
 case body=>
  rintro l' pre t a' V dz ⟨r,hr⟩ ⟨v,h1,h2,h3,h4,h5⟩ ⟨Bx,a8,rfl⟩ aj;have H5:Hid _:=h5;clear h5;have c0:V.cell? ⟨Bx,0,none⟩=some (.string t.1.rel):=zc a8;have c1:V.cell? ⟨Bx,1,none⟩=some (.string t.1.x):=zc a8;have c2:V.cell? ⟨Bx,2,none⟩=some (.string t.1.y):=zc a8;have c3:V.cell? ⟨Bx,3,none⟩=some (.int .i64 t.2):=zc a8;have cb:=h1.cell;obtain⟨va,vc,rfl⟩:=qq h2;have cx:(xs++pre).length=xs.length+pre.length:=by simp
  have da:(xs++pre).length+1<=maxLen:=by unfold maxLen;omega
  have cy:((xs++pre).length+1)*56<=140737488355328:=by omega
  have Q9:Hid ((xs++(pre++[t])).flatMap qx=(xs++pre).flatMap qx++[.string t.1.rel,.string t.1.x,.string t.1.y,.int .i64 t.2]):=by show _=_;rw[<-List.append_assoc,List.flatMap_append];rfl
  have Qli:Hid ((xs++(pre++[t])).length=(xs++pre).length+1):=by show _=_;simp;omega
  generalize hus:(xs++pre).length=un at *;generalize hub:(xs++pre).flatMap qx=uc at *;clear hus hub cx;have c9:Hid (∀w1,(V.alloc (.cells #[.string t.1.rel,.string t.1.x,.string t.1.y,.int .i64 t.2] 172)).grownBy w1 (Value.slice va un vc).ownBlock->Boxed w1 NB 169 (.slice va un vc)/\dD V w1 (λj=>some j=(Value.slice va un vc).ownBlock)):=by intro w1 hg;have hc:dD V w1 (λj=>some j=(Value.slice va un vc).ownBlock):=((dD.refl V _).alloc _).grown hg (λk e _=>e.symm);exact⟨(hc.block _ h1.lt (λe=>Qe h2 h1 (by decide) _ e.symm rfl)).trans h1,hc⟩
  gi_wp2_with (gi_at_builtin;refine wpListIn_append_own _ rfl _ _ 169 rfl aa 172 i0 (.agg #[.string ⟨#[]⟩,.string ⟨#[]⟩,.string ⟨#[]⟩,.int .i64 0]) 4 56 Tryz.underlying169 hi c4 dp df rfl (by decide) _ _ _ rfl (World.ownsRow.alloc h2 _) ⟨V.heap.size,0,none⟩ 1 1 [.string t.1.rel,.string t.1.x,.string t.1.y,.int .i64 t.2] rfl rfl (mF _ _ _ _ _ _) (by simp[Value.oneCell']) da cy (by simp;omega) ?_;intro v' w1 ah aq _;obtain⟨g',am,dn⟩:=ownsRow_succ ah;subst dn;obtain⟨a6,ct⟩:=c9.o w1 aq;have cc:=a6.cell;have ff:=a6.frozen)
  have ao:dD V (w1.setCell ⟨NB,0,none⟩ (.slice (some ⟨g',0,none⟩) (un+1) am)) (λj=>j=NB\/some j=(Value.slice va un vc).ownBlock):=(ct.mono (λ_ _ e=>.inr e)).setCell ⟨NB,0,none⟩ _ (λ_=>.inl rfl)
  have cq:∀m',KeepsFrom m' V (w1.setCell ⟨NB,0,none⟩ (.slice (some ⟨g',0,none⟩) (un+1) am)):=λm'=>uA ao (λj hj hx=>by
   rcases hx with rfl|hx
   .exact⟨_,_,h1⟩
   .obtain⟨_,c,hc⟩:=qd h2 hx.symm;exact⟨c,_,hc⟩)
  have ce:j9 w.heap.size aa V (w1.setCell ⟨NB,0,none⟩ (.slice (some ⟨g',0,none⟩) (un+1) am)):=λk o hk ho hx=>by
   refine (ao.block k (zg ho).1 (λe=>?_)).trans ho;rcases e with rfl|e
   .omega
   .obtain⟨d0,c,hc⟩:=qd h2 e.symm;rcases hx with hx|hx
    .omega
    .rw[hc] at ho;cases ho;exact hx _ _ rfl
  refine⟨cq _,⟨ce,cq _⟩,_,lh a6 _,?_,?_,?_,j9.tr H5.o ce⟩
  .rw[Q9.o,Qli.o];have:=Qk ah ⟨NB,0,none⟩ (.slice (some ⟨g',0,none⟩) (un+1) am) (Qe ah a6 (by decide));simpa using this
  .refine h3.trans ⟨ao.os,ao.tape,ao.output,ao.size,λk hk=>?_⟩;refine ao.block k (by omega) (λe=>?_);rcases e with rfl|e
   .omega
   .have:=(qd h2 e.symm).1;omega
  .have:=ao.size;omega
 case done=>
  rintro D ys V hD hS ⟨v,h1,h2,h3,h4,h5⟩ hK;have c1:=h1.cell
  gi_wp2
  refine⟨by simp,.inl ⟨_,_,rfl,run_takeDeferred hK,?_⟩⟩;have hk:=qm (grownBy_putObj' V D (.deferred none)) (λr e=>by cases e;exact⟨_,hK,rfl⟩);refine⟨_,results_tmp rfl _ _ _,v,ys,rfl,hS,Qc h2 (λg c _ hc=>hk g c _ _ hc),?_⟩;exact⟨pQ h3 (by omega) (by omega),h5.grown (grownBy_putObj' V D (.deferred none)) (λr e=>by cases e;omega)⟩
theorem AC{b:Nat}{v:Vq}{xs:List (Gd×Int)}(h:aE W b 172 4 v (aB xs) (xs.flatMap qx)){k:Nat}(E:k<aB xs):∃(g c:Nat),v=Sc g (aB xs) c/\aC W (Ad g (k*4))=aV (St (xs[k]).1.rel)/\aC W (Ad g (k*4+1))=aV (St (xs[k]).1.x)/\aC W (Ad g (k*4+2))=aV (St (xs[k]).1.y)/\aC W (Ad g (k*4+3))=aV (Ii (xs[k]).2):=by
 obtain⟨_,⟨_,O⟩|⟨g,c,M,G,_,d,_,_,_,C⟩⟩:=h
 .omega
 have A:∀(l:List (Gd×Int)) (i:Nat) (z:i<aB l),(l.flatMap qx)[i*4]?=aV (St (l[i]).1.rel)/\(l.flatMap qx)[i*4+1]?=aV (St (l[i]).1.x)/\(l.flatMap qx)[i*4+2]?=aV (St (l[i]).1.y)/\(l.flatMap qx)[i*4+3]?=aV (Ii (l[i]).2):=by
  intro l
  induction l with
  |nil=>intro i z;simp at z
  |cons x l ih=>
   intro i z
   cases i with
   |zero=>simp[qx]
   |succ i=>grind [qx]
 have⟨p0,p1,p2,p3⟩:=A xs k E;rw[<-C,aZ,if_pos (by omega)] at p0 p1 p2 p3;refine⟨g,c,G,?_,?_,?_,?_⟩
 .simp only[aC,d];simpa using p0
 .simp only[aC,d];simpa using p1
 .simp only[aC,d];simpa using p2
 .simp only[aC,d];simpa using p3
theorem GM(B aa d b:Nat)(v:Vq)(xs:List (Gd×Int))(w:Wq)(ak:w.heap[d]?=cC #[v] 169)(dx:d<B)(qt:aE w b 172 4 v (aB xs) (xs.flatMap qx))(Q2:∀g,aF v=aV g->g<aa/\g<B)(hl:aB xs<=1000000)(m n0:Nat):fW m n0 186 #[Pt d] (λx:Gd×Int=>#[aJ (qx x).toArray]) (ib B aa m) (λys=>ys=xs) (λ_=>True) (aB xs) w:=by
 obtain⟨n,hn⟩:∃n,12<=n:=⟨12,Nat.le_refl _⟩;refine fW.any (n:=n) ?_ n0;have n1:1<=n:=by omega
 intro l J Jx W G cd hJ bd hY h0;have dq:=(G.block d (zg ak).1).trans ak;have z:=qj qt G;clear ak qt G;obtain⟨M,Z,rfl⟩:=qq z;have c0:aC W (Ad d 0)=aV (aH M (aB xs) Z):=zc dq;have HY:=aA hY;have HJ:=aA hJ;have HJx:=aA bd;clear hY hJ bd;refine cT Tryz.func186 rfl trivial ?_ rfl;simp only[Tryz.ntmps186,bO,aX,bZ,cA,cD,bH,bI,bQ,bL,bD,bX]
 gi_wp2
 refine wpIn_loop (λA V=>∃(k:Nat) (u4 u8 u9 ci cp cf ck co cl:Vq),A={tmps:=#[.func (.yield l) #[] #[],Pt d,undef,undef,u4,aH M (aB xs) Z,Ii (aB xs),Ii k,u8,u9,ci,cp,cf,ck,co,cl],defers:=[]}/\k<=aB xs/\J (xs.take k) V/\ib B aa m W V) (λA _=>aB xs-(intOf (A.tmps.getD 7 undef)).toNat) ⟨0,_,_,_,_,_,_,_,_,_,rfl,zz,by simpa using h0,ib.ofBelow zr⟩ ?_;rintro A V ⟨k,u4,u8,u9,ci,cp,cf,ck,co,cl,rfl,hk,E,C⟩;by_cases aj:k<aB xs
 .have cj:aE V b 172 4 (aH M (aB xs) Z) (aB xs) (xs.flatMap qx):=Qc z (λg c hg hc=>C.block g _ (Q2 g hg).2 hc (aQ (Q2 g hg).1));have⟨g,c,e0,x0,x1,x2,x3⟩:=AC cj aj;cases e0;have ax:∀O,cG V.heap.size V (V.alloc O):=λO=>(aY _ V).alloc zl O;have Q9:Hid (xs.take (k+1)=xs.take k++[xs[k]]):=by{show _=_;rw[List.take_succ_eq_append_getElem aj]};have⟨fn,tmps,assign,body,hy,hR⟩:=HY.o (xs.take k) xs[k] (V.alloc (aN #[St (xs[k]).1.rel,St (xs[k]).1.x,St (xs[k]).1.y,Ii (xs[k]).2] 172)) (HJ.o _ _ _ aW E (qg (ax _)) (λr e=>by cases e)) (by simp;omega);unfold qx at hy;generalize hxk:xs[k]=xk at *;have dc:=aA C;have HB:=aA ax;clear cj z ax C hxk
  gi_wp2
  refine hR.mono ?_;rintro e W1 (⟨rfl,dh,di⟩|⟨rfl,b6,_⟩)
  .clear hy hR
   gi_wp2
   refine⟨⟨k+1,_,_,_,_,_,_,_,_,_,rfl,by omega,by rw[Q9.o];exact dh,(ib.tr dc.o (ib.ofBelow (HB.o _))).tr di⟩,?_⟩;simp[intOf];omega
  .clear hy hR
   gi_wp2
   exact⟨_,results_none rfl _ _ _,⟨_,rfl⟩,aR ⟨_,trivial,b6⟩⟩
 .have dj:k=aB xs:=by{omega};subst dj;rw[List.take_length] at E
  gi_wp2
  exact⟨_,results_none rfl _ _ _,⟨_,rfl⟩,aQ ⟨xs,rfl,E⟩⟩
def rz(x y:Gd×Int):Int:=Lib.compareInt x.2 y.2
theorem Ft(x y:Gd×Int)(w:Wq):Cs 132 #[aJ (qx x).toArray,aJ (qx y).toArray] w λe w'=>e=aO (Ii (rz x y))/\∃q z,w'=cJ (w.drewN q) z:=by
 unfold qx rz;have d:=λW=>Tryz.cmp_Compare_int x.2 y.2 W;go_enter Tryz.func132,Tryz.ntmps132
 go_wp2_with (go_at_call 133;refine (d _).mono ?_;rintro e W1 ⟨rfl,rfl⟩)
 go_ret;refine⟨rfl,0,#[aN #[St x.1.rel,St x.1.x,St x.1.y,Ii x.2] 172] ++ #[aN #[St y.1.rel,St y.1.x,St y.1.y,Ii y.2] 172],?_⟩;rw[cW,cW];show cJ (cJ w _) _=cJ w _;rw[Sort.grow_grow]
theorem AA(d:Gd×Int):∀(xs:List (Gd×Int)) (t:Nat),t<aB xs*4->(xs.flatMap qx)[t]?=(qx (xs[t / 4]?.getD d))[t % 4]?
 |[],t,h=>by simp at h
 |x::xs,t,h=>by
  by_cases E:t<4;{grind [qx]}
  .obtain⟨s,rfl⟩:∃s,t=s+4:=⟨t-4,by omega⟩;simp only[aX] at h;have C:=AA d xs s (by omega);have z:(s+4) / 4=s / 4+1:=by{omega};have A:(s+4) % 4=s % 4:=by{omega};rw[bT,List.getElem?_append_right (by simp[qx]),z,A];simp only[l4,Nat.add_sub_cancel,List.getElem?_cons_succ];exact C
abbrev r7:Inhabited (Gd×Int):=⟨(⟨⟨#[]⟩,⟨#[]⟩,⟨#[]⟩⟩,0)⟩
theorem zJ(xs:List (Gd×Int)):(@Sort.flatK _ r7 qx 4 xs.toArray).toList=xs.flatMap qx:=by
 letI:=r7
 refine bU (λt=>?_);by_cases h:t<aB xs*4
 .rw[AA r7.default xs t h];have z:t / 4<aB xs:=by{omega};simp only[cH,Array.toList_map,List.getElem?_map,Array.getElem?_toList];rw[Array.getElem?_range,if_pos (by simpa using h)];have A:t % 4<4:=by{omega};have C:xs[t / 4]?.getD r7.default=xs[t / 4]:=by{grind};have E:xs.toArray[t / 4]! = xs[t / 4]:=by{simp[z]};rw[C];simp only[Option.map_some,E];have d:t % 4<aB (qx xs[t / 4]):=by{rw[l4];exact A};rw[List.getElem?_eq_getElem d];simp[d]
 .have G:aB (xs.flatMap qx)=aB xs*4:=by
   induction xs with
   |nil=>rfl
   |cons x xs ih=>simp only[aX] at h;rw[bT,List.length_append,ih (by omega),l4,aX];omega
  rw[bF (by simp;omega),bF (by omega)]
theorem uO{w:Wq}{blk n:Nat}{d:Array Vq}{T:TypeId}(F:Array Vq)(A:Array Obj)(z:w.heap[blk]?=cC d T)(O:F.size<=d.size):(cJ (cP id (cS w n) blk 0 F) A).heap[blk]?=cC (cL id 0 F d) T/\(∀k,k<w.heap.size->k≠blk->(cJ (cP id (cS w n) blk 0 F) A).heap[k]?=w.heap[k]?)/\(cL id 0 F d).size=d.size/\(cL id 0 F d).toList.take F.size=F.toList:=by
 have C:=(zg z).1;refine⟨?_,λk M E=>?_,by simp[cL],?_⟩
 .simp only[cJ,cP,Sort.mapBlock,cS];rw[bC (by simpa using C),bG,if_pos rfl,z];rfl
 .simp only[cJ,cP,Sort.mapBlock,cS];rw[bC (by simpa using M),bG,if_neg (λe=>E e.symm)]
 .refine bU (λt=>?_);by_cases h:t<F.size
  .rw[aZ,if_pos h];have G:t<d.size:=by{omega};simp[cL,h,G]
  .grind
theorem ni(x y:Gd×Int):@Go.Proofs.ltOf (Gd×Int) rz x y=decide (x.2<y.2):=by
 unfold Go.Proofs.ltOf rz Lib.compareInt;by_cases h:x.2<y.2
 .simp[h]
 .grind
theorem GU(v:Vq)(xs:List (Gd×Int))(b:Nat)(w:Wq)(qt:aE w b 172 4 v (aB xs) (xs.flatMap qx))(hl:aB xs<=1000000):Cs 185 #[v,.func (.func 132) #[] #[]] w λe w'=>e=aO (aL #[])/\∃M:List (Gd×Int),M.Perm xs/\M.Pairwise (λa b=>a.2<=b.2)/\aE w' b 172 4 v (aB M) (M.flatMap qx)/\dD w w' (λk=>aV k=aF v):=by
 letI:=r7
 have cz:=qt;obtain⟨al,⟨hv,hn⟩|⟨g,C,G,hv,hb,E,Z,h2,h3,h4⟩⟩:=qt
 .subst hv;have:xs=[]:=List.eq_nil_of_length_eq_zero hn;subst this;refine (AnyF.slices_SortFunc_none Tryz.sortLasting aW 0 _ w).mono ?_;rintro e w' ⟨rfl,rfl⟩;exact⟨rfl,[],.refl _,.nil,cz,dD.refl _ _⟩
 .subst hv;have aj:=(zg E).1;have c7:(cH qx 4 xs.toArray).toList=xs.flatMap qx:=zJ xs
  have hH:Sort.HoldsK qx 4 w g 0 xs.toArray:=by
   intro j A;have dr:j<aB xs*4:=by{simpa using A};refine⟨?_,by simp[aD,E]⟩;have e1:(cH qx 4 xs.toArray).toList[j]?=G.toList[j]?:=by{rw[c7,<-h4,aZ,if_pos dr]};have e2:(cH qx 4 xs.toArray)[j]?=G[j]?:=by{simpa using e1};have e3:(cH qx 4 xs.toArray)[j]?=aV (cH qx 4 xs.toArray)[j]!:=by{rw[Array.getElem?_eq_getElem A];exact congrArg aV (getElem!_pos (cH qx 4 xs.toArray) j A).symm};simp only[aC,E];rw[e3] at e2;simpa using e2.symm
  refine (AnyQ.slices_SortFunc Tryz.sortLasting 4 (λW=>Tryz.isAgg172 W) (λW=>Tryz.sizeOf172 W) qx l4 (λx u hu=>by
    simp only[qx,List.mem_cons,List.not_mem_nil,or_false] at hu
    rcases hu with rfl|rfl|rfl|rfl<;>rfl) rz ⟨λx=>?_,λx y z=>?_,λx y z=>?_⟩ 132 #[] g 0 C xs.toArray w (enters_of Tryz.func132 (by kernel_rfl) rfl) (λm os dk hs x y=>?_) hH aj (by simp;omega)).mono ?_
  .rw[ni];simp
  .rw[ni,ni,ni];simp;omega
  .rw[ni,ni,ni];simp;omega
  .exact (Ft x y _)
  .rintro e w' ⟨rfl,d,n,os,hp,hs,rfl⟩;have⟨p1,p2,p3⟩:=hp;have hd:d.size=aB xs:=by simpa using p1
   have O:d.toList.Perm xs:=by
    have q1:d.extract 0 xs.toArray.size=d:=by{rw[bB (by simp[hd])]};have q2:xs.toArray.extract 0 xs.toArray.size=xs.toArray:=by{rw[bB zl]};rw[q1,q2] at p3;simpa using p3
   refine⟨rfl,d.toList,O,?_,?_,?_⟩;{rw[List.pairwise_iff_getElem];intro i j hi A c5;have:=hs i j zz c5 (by simp at A ⊢;omega);rw[ni] at this;simp at hi A;simp[hi,A] at this;simpa using this}
   .have hF:(cH qx 4 d).size<=G.size:=by{simp[hd,h3];exact bJ _ Z};have⟨s1,s2,s3,s4⟩:=uO (n:=n) (cH qx 4 d) os E hF;have cg:(cH qx 4 d).toList=d.toList.flatMap qx:=by{have:=zJ d.toList;simpa using this};refine⟨?_,aR ⟨g,C,_,by simp[hd],hb,s1,by simp[hd];exact Z,h2,s3.trans h3,?_⟩⟩;{rw[<-cg];simp}
    .have:aB d.toList*4=(cH qx 4 d).size:=by{simp};rw[this,s4,cg]
   .have hF:(cH qx 4 d).size<=G.size:=by{simp[hd,h3];exact bJ _ Z};have⟨s1,s2,s3,s4⟩:=uO (n:=n) (cH qx 4 d) os E hF;exact⟨rfl,rfl,rfl,size_sortWorldK_c _ _ _ _ _ _ _ _,λk hk hx=>s2 k hk (λe=>hx (by rw[e];rfl))⟩
theorem DC(v:Vq)(xs:List (Gd×Int))(b C:Nat)(w:Wq)(ak:w.heap[C]?=cC #[v] 169)(M:aE w b 172 4 v (aB xs) (xs.flatMap qx))(hl:aB xs<=1000000):Cs 184 #[.func (.func 186) #[] #[Pt C]] w λe w'=>∃O,e=aO O/\aE w' w.heap.size 172 4 O (aB xs) (xs.flatMap qx)/\cG w.heap.size w w':=by
 have Z:=zE (aH aW 0 0) [] w.heap.size w ⟨rfl,aQ ⟨rfl,rfl⟩⟩ zl (by simp;omega) (enters_of Tryz.func186 (by kernel_rfl) rfl)
  (λm n=>GM w.heap.size w.heap.size C b v xs w ak (zg ak).1 M (λg hg=>by
   have⟨_,c,hc⟩:=qd M hg;have:=(zg hc).1
   exact⟨this,this⟩) hl m n)
 have dm:Hid (Cs 134 #[aH aW 0 0,.func (.func 186) #[] #[Pt C]] w λe w'=>∃z A,e=aO (aH z (aB xs) A)/\aE w' w.heap.size 172 4 (aH z (aB xs) A) (aB xs) (xs.flatMap qx)/\cG w.heap.size w w'):=by refine Z.mono ?_;rintro e W1 ⟨O,ys,rfl,dd,d,G,_⟩;have E:ys=xs:=dd;rw[E,bD] at d;have⟨z,A,b5⟩:=qq d;subst b5;exact⟨z,A,rfl,d,G⟩
 clear Z M ak;go_enter Tryz.func184,Tryz.ntmps184
 go_wp2_with (go_at_call 134;refine (dm.o).mono ?_;rintro e W1 ⟨z,A,rfl,d,G⟩)
 go_ret;exact⟨_,rfl,d,G⟩
theorem F0(v:Vq)(xs:List (Gd×Int))(b G:Nat)(w:Wq)(ak:w.heap[G]?=cC #[v] 169)(qt:aE w b 172 4 v (aB xs) (xs.flatMap qx))(Z:aB xs<=1000000):Cs 130 #[.func (.func 186) #[] #[Pt G],.func (.func 132) #[] #[]] w λe w'=>∃(O:Vq) (A:List (Gd×Int)),e=aO O/\A.Perm xs/\A.Pairwise (λa b=>a.2<=b.2)/\aE w' w.heap.size 172 4 O (aB A) (A.flatMap qx)/\cG w.heap.size w w':=by
 have HC:Hid (Cs 184 #[.func (.func 186) #[] #[Pt G]] w λe w'=>∃d z,e=aO (aH d (aB xs) z)/\aE w' w.heap.size 172 4 (aH d (aB xs) z) (aB xs) (xs.flatMap qx)/\cG w.heap.size w w'):=by refine (DC v xs b G w ak qt Z).mono ?_;rintro e W1 ⟨O,rfl,C,M⟩;have⟨d,z,b5⟩:=qq C;subst b5;exact⟨d,z,rfl,C,M⟩
 have cv:Hid (∀d z W,aE W w.heap.size 172 4 (aH d (aB xs) z) (aB xs) (xs.flatMap qx)->Cs 185 #[aH d (aB xs) z,.func (.func 132) #[] #[]] W λe w'=>e=aO (aL #[])/\∃A:List (Gd×Int),A.Perm xs/\A.Pairwise (λa b=>a.2<=b.2)/\aE w' w.heap.size 172 4 (aH d (aB xs) z) (aB A) (A.flatMap qx)/\dD W w' (λk=>aV k=aF (aH d (aB xs) z))):=λd z W C=>GU _ xs _ W C Z;clear qt ak;go_enter Tryz.func130,Tryz.ntmps130
 go_wp2_with (first|(go_at_call 184;refine (HC.o).mono ?_;rintro e W1 ⟨d,z,rfl,C,M⟩)|(go_at_call 185;refine (cv.o d z W1 C).mono ?_;rintro e W2 ⟨rfl,A,hp,hs,c8,E⟩))
 go_ret;refine⟨_,A,rfl,hp,hs,c8,M.trans ⟨E.os,E.tape,E.output,E.size,λk hk=>E.block k (by have:=M.size;omega) (λe=>?_)⟩⟩;have:=(qd C e.symm).1;omega
attribute [local go_sem] Oper.semAt_some
def lz(g:Gd):List ByteArray:=if g.y.toList.isEmpty=true then [g.x] else [g.x,g.y]
def mT(g:Gd):ByteArray:=⟨(Lib.join ((lz g).map (·.data.toList)) (⟨#[44]⟩:ByteArray).data.toList).toArray⟩
def dY(g:Gd):ByteArray:=g.rel ++ ⟨#[40]⟩++mT g ++ ⟨#[41]⟩
theorem E4(g:Gd)(A:g.x.size<=2000)(C:g.y.size<=2000):aB (Lib.join ((lz g).map (·.data.toList)) (⟨#[44]⟩:ByteArray).data.toList)<=4001:=by
 have d:aB g.x.data.toList=g.x.size:=by simp
 have z:aB g.y.data.toList=g.y.size:=by simp
 unfold lz;split
 .simp[Lib.join];omega
 .simp[Lib.join];omega
theorem Gh(g:Gd)(w:Wq)(h1:g.rel.size<=2000)(h2:g.x.size<=2000)(h3:g.y.size<=2000):Cs 91 #[g.v] w λe w'=>e=aO (St (dY g))/\cG w.heap.size w w':=by
 have ca:=E4 g h2 h3;have dy:(mT g).size<=4001:=by show (mT g).data.size<=_;unfold mT;simpa using ca
 obtain⟨N,E⟩:∃N,w.heap.size=N:=⟨_,rfl⟩;have G:∀W1,cG (N+1) (w.alloc (aN #[St g.rel,St g.x,St g.y] 111)) W1->W1.heap[N]?=cC #[St g.rel,St g.x,St g.y] 111:=by intro W1 z;have:=zn w (aN #[St g.rel,St g.x,St g.y] 111);rw[E] at this;exact (z.block N (by omega)).trans this
 have C:Hid (∀W1,cG (N+1) (w.alloc (aN #[St g.rel,St g.x,St g.y] 111)) W1->∀Z,aB (lz g)=Z->Cs 153 #[aH (aV ⟨N,1,aW⟩) Z 2,St ⟨#[44]⟩] W1 λe w'=>e=aO (St (mT g))/\cG W1.heap.size W1 w'/\aC w' (Ad N 0)=aV (St g.rel)/\cG (N+1) (w.alloc (aN #[St g.rel,St g.x,St g.y] 111)) w'):=by
  rintro W1 z Z rfl;have hh:=G W1 z;have hs:=z.size;rw[World.size_alloc,E] at hs;have ax:aB (lz g)<=2:=by unfold lz;split<;>simp
  refine (Tryz.strings_Join N 1 2 (lz g) ⟨#[44]⟩ W1 ?_ (by omega) (by omega) ax (by omega)).mono ?_
  .intro j x d;simp only[aC,hh];unfold lz at d;split at d
   .match j,d with
    |0,d=>simp at d;subst d;simp
   .match j,d with
    |0,d=>simp at d;subst d;simp
    |1,d=>simp at d;subst d;simp
  .rintro e w' ⟨rfl,O⟩;refine⟨rfl,O,?_,z.trans (O.mono (by omega))⟩;have:=G w' (z.trans (O.mono (by omega)));simp[aC,this]
 have b9:Hid (dY g=g.rel ++ ⟨#[40]⟩++mT g ++ ⟨#[41]⟩):=rfl;have au:Hid (cG (N+1) (w.alloc (aN #[St g.rel,St g.x,St g.y] 111)) (w.alloc (aN #[St g.rel,St g.x,St g.y] 111)).drew):=zr.drew;have HW:Hid (∀W1,cG (N+1) (w.alloc (aN #[St g.rel,St g.x,St g.y] 111)) W1->cG w.heap.size w W1):=λW1 z=>((aY _ w).alloc zl _).trans (z.mono (by omega));unfold Gd.v Gd.c;generalize dY g=tx at *;generalize mT g=jg at *;clear G ca
 cases hy:g.y.toList.isEmpty with
 |true=>
  have A:Hid (∀W1,cG (N+1) (w.alloc (aN #[St g.rel,St g.x,St g.y] 111)) W1->Cs 153 #[aH (aV ⟨N,1,aW⟩) 1 2,St ⟨#[44]⟩] W1 λe w'=>e=aO (St jg)/\cG W1.heap.size W1 w'/\aC w' (Ad N 0)=aV (St g.rel)/\cG (N+1) (w.alloc (aN #[St g.rel,St g.x,St g.y] 111)) w'):=λW1 z=>C.o W1 z 1 (by unfold lz;rw[if_pos hy];rfl);clear C;go_enter Tryz.func91,Tryz.ntmps91;go_wp2
  (try simp only[E])
  go_region_with (go_at_call 153;refine (A.o _ au.o).mono ?_;rintro e W1 ⟨rfl,dt,du,M⟩)
  all_goals go_wp2
  all_goals go_ret
  all_goals rw[b9.o]
  all_goals exact⟨rfl,HW.o W1 M⟩
 |false=>
  have A:Hid (∀W1,cG (N+1) (w.alloc (aN #[St g.rel,St g.x,St g.y] 111)) W1->Cs 153 #[aH (aV ⟨N,1,aW⟩) 2 2,St ⟨#[44]⟩] W1 λe w'=>e=aO (St jg)/\cG W1.heap.size W1 w'/\aC w' (Ad N 0)=aV (St g.rel)/\cG (N+1) (w.alloc (aN #[St g.rel,St g.x,St g.y] 111)) w'):=λW1 z=>C.o W1 z 2 (by unfold lz;rw[if_neg (by rw[hy];simp)];rfl);clear C;go_enter Tryz.func91,Tryz.ntmps91;go_wp2
  (try simp only[E])
  go_region_with (go_at_call 153;refine (A.o _ au.o).mono ?_;rintro e W1 ⟨rfl,dt,du,M⟩)
  all_goals go_wp2
  all_goals go_ret
  all_goals rw[b9.o]
  all_goals exact⟨rfl,HW.o W1 M⟩
