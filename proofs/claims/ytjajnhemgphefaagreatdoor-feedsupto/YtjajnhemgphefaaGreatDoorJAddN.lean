/- A part -/
import Derived.Test.YtjajnhemgphefaaGreatDoorJEgA
import Derived.Maps.AppendAt
set_option linter.all false
set_option maxRecDepth 100000
set_option maxHeartbeats 1000000
open List renaming length->aB,getElem?_take->aX,take_succ_eq_append_getElem->aZ,append_toArray->bD,size_toArray->bE,push_toArray->bF,length_cons->bG,cons_append->bH,length_nil->bJ,nil_append->bL,take_of_length_le->bO,getElem?_drop->bU,take_prefix->bX,flatMap_map->bZ
open Go.World renaming cell?->aC,ownsRow->aE
open Go.Value renaming ownBlock->aF,slice->aH,string->aI,agg->aJ,bool->aK,int->aM
open Go.Obj renaming cells->aN
open Go.Ending renaming returned->aO
open Go.IntKind renaming i64->aP
open Or renaming inl->aQ,inr->aR
open Option renaming some->aV,none->aW
open Go.RowKit.Below renaming refl->aY,heap_alloc->bI
open Array renaming replicate_succ->bB,replicate_zero->bC
open Nat renaming reduceAdd->bQ,reduceSub->bT
open Go renaming grownBy_putObj'->cA,KeepsFrom->cD,OwnFrom->cF,callsIn_wide->cH,results_none->cL,run_takeDeferred->cM,callsIn_of_wp_marks->cP
open Go.Proofs.Tryz renaming prog->cE
open Go.Fence renaming wide->cG
open Go.RowKit renaming Below->cI
open Go.CallsIn renaming inRound->cJ
open Go.Oper renaming semAt_some->cO
namespace Go.Proofs.YtjajnhemgphefaaGreatDoor
open Go renaming World->Wq,Value->Vq
open Go.RowKit Go.Shelf
attribute [local go_sem] cO
def jj(w0:Wq)(b:Nat):Type:={p:Am×Vq // Qh w0 b p.2 p.1.args/\kC p.1}
def qf(W W':Wq):Prop:=∀(k:Nat) (c:Array Vq) (t:TypeId),(t=136\/t=92\/t=166)->W.heap[k]?=aV (aN c t (0,0))->W'.heap[k]?=aV (aN c t (0,0))
theorem qf.refl(W:Wq):qf W W:=λ_ _ _ _ h=>h
theorem qf.trans{A B C:Wq}(h:qf A B)(k:qf B C):qf A C:=λi c t d z=>k i c t d (h i c t d z)
theorem qf.ofBelow{W W':Wq}(h:cI W.heap.size W W'):qf W W':=λk c t _ d=>(h.block k (zg d).1).trans d
theorem qf.put(W:Wq)(l:Nat)(o d:Obj)(h:W.heap[l]?=aV o)(A:o.isCells=false):qf W (W.putObj l d):=λk c t _ z=>qm (cA W l d) (λr e=>by cases e;exact⟨_,h,A⟩) k c t _ z
theorem Qh.rk{W W':Wq}{b:Nat}{v:Vq}{l:List Tm}(h:Qh W b v l)(z:qf W W'):Qh W' b v l:=h.kept (λk c _ d=>z k c _ (aR (aR rfl)) d)
theorem eW.rk{W W':Wq}{aq aa:Nat}{v:Vq}{l:List Am}(h:eW W aq aa v l)(z:qf W W'):eW W' aq aa v l:=h.kept (λk c _ d=>z k c _ (aR (aQ rfl)) d) (λk c _ d=>z k c _ (aR (aR rfl)) d)
theorem uD(c:Array Vq)(x y z:Vq)(d:c=#[x,y,z])(A:x.oneCell'=true)(C:y.oneCell'=true)(E:z.oneCell'=true)(w:Wq):Cs 98 #[aJ c] w λe w'=>e=aO (.func (.func 163) #[] #[Pt w.heap.size])/\w'=w.alloc (aN #[x,y,z] 136):=by subst d;go_enter Tryz.func98,Tryz.ntmps98;go_wp2;go_ret;exact⟨rfl,rfl⟩
theorem sP{α:Type}(f g:α->Vq)(l:List α)(i:Nat)(h:i<aB l):(l.flatMap λx=>[f x,g x])[i*2]?=aV (f l[i])/\(l.flatMap λx=>[f x,g x])[i*2+1]?=aV (g l[i]):=by
 induction l generalizing i with
 |nil=>simp at h
 |cons a l ih=>grind
theorem Df(n:Nat)(hn:1<=n)(l B:Nat)(w0:Wq)(aa:Nat)(d:jj w0 aa)(L:List (jj w0 aa))(hL:aB L<=1000)(a:Option Addr)(A:Nat)(J Jx:List (jj w0 aa)->Wq->Prop)(W:Wq)(hJ:AbidesFrom W.heap.size J)(Z:∀pre x W1,J pre W1->aB pre<aB (d::L)->YieldAt cG (n-1) cE l #[aJ #[aI x.1.1.rel,x.1.2]] W1 λe W'=>
   (e=aO (aK true)/\J (pre++[x]) W'/\qf W1 W')\/(e=aO (aK false)/\Jx (pre++[x]) W'))(C:W.heap[B]?=cC #[aI d.1.1.rel,d.1.2,aH a (aB L) A] 136)(Q2:L≠[]->∃(g z:Nat) (ab:Array Vq),a=aV ⟨g,z,aW⟩/\W.heap[g]?=cC ab 92/\(ab.toList.drop z).take (aB L*2)=L.flatMap λx=>[aI x.1.1.rel,x.1.2])(h0:J [] W):CallsIn cG n cE 163 #[.func (.yield l) #[] #[],Pt B] W λe W'=>(∃v,e=aO v)/\
   ((∃ys,ys=d::L/\J ys W')\/(∃pre,pre <+: d::L/\Jx pre W')):=by
 refine callsIn_of_wp Tryz.func163 rfl trivial ?_ rfl;simp only[Tryz.ntmps163,bE,bG,bJ,bQ,bT,bB,bC,bF,bD,bL,bH];have HY:=aA Z;have HJ:=aA hJ;have ec:aC W (Ad B 0)=aV (aI d.1.1.rel):=zc C;have ct:aC W (Ad B 1)=aV d.1.2:=zc C;have ei:∃E n' c',d.1.2=aH E n' c':=by have⟨E,c',e⟩:=d.2.1.form;exact⟨E,_,c',e⟩
 have⟨fn,tmps,assign,body,hy,hR⟩:=Z [] d W h0 (by simp);clear Z hJ;have⟨fa,es,fc,hf⟩:=ei;rw[hf] at ct hy
 gi_wp2
 refine hR.mono ?_;rintro e W1 (⟨rfl,d8,c5⟩|⟨rfl,cl⟩)
 .have cr:=c5 _ _ _ (aQ rfl) C;have eh:aC W1 (Ad B 2)=aV (aH a (aB L) A):=zc cr;clear hy hR ec ct
  gi_wp2
  gi_loopw [13] (λi wr=>∃k:Nat,k<=aB L/\i=aM aP k/\J (d::L.take k) wr/\qf W wr) (λi _=>aB L-(intOf i).toNat)
  case atStart=>exact⟨0,zz,rfl,by simpa using d8,c5⟩
  case round=>
   obtain⟨k,hk,rfl,O,a8⟩:=hrel;by_cases al:k<aB L
   .obtain⟨g,z,ab,rfl,hg,M⟩:=Q2 (by intro e;rw[e] at al;simp at al);have c9:=a8 _ _ _ (aR (aQ rfl)) hg;have⟨p0,p1⟩:=sP (λx:jj w0 aa=>aI x.1.1.rel) (λx=>x.1.2) L k al;rw[<-M,aX,if_pos (by omega),bU] at p0;rw[<-M,aX,if_pos (by omega),bU] at p1;have G:d::L.take (k+1)=(d::L.take k)++[L[k]]:=by{rw[aZ al];rfl};have b4:=aA G;have dm:Hid ((d::L.take k)++[L[k]] <+: d::L):=by{show _ <+: _;rw[<-G];exact List.cons_prefix_cons.2 ⟨rfl,bX _ _⟩};clear G;have ai:aB (d::L.take k)<aB (d::L):=by{simp;omega};generalize L[k]=xk at *;have⟨co,cf,cg⟩:=xk.2.1.form;have q0:aC wr (Ad g (z+k*2))=aV (aI xk.1.1.rel):=by{simp only[aC,c9];simpa using p0};have q1:aC wr (Ad g (z+k*2+1))=aV (aH co (aB xk.1.1.args) cf):=by{simp only[aC,c9];rw[<-cg];simpa [Nat.add_assoc] using p1};have ah:cI wr.heap.size wr (wr.alloc (aN #[aI xk.1.1.rel,aH co (aB xk.1.1.args) cf] 92)):=(aY _ wr).alloc zl _;have⟨ek,bj,assign2,body2,b0,bh⟩:=HY.o (d::L.take k) xk (wr.alloc (aN #[aI xk.1.1.rel,aH co (aB xk.1.1.args) cf] 92)) (HJ.o _ _ _ aW O (qg ah) (λr e=>by cases e)) ai;rw[cg] at b0;clear p0 p1 M cg C Q2 eh cr
    gi_wp2
    refine bh.mono ?_;rintro e W3 (⟨rfl,cn,be⟩|⟨rfl,a7⟩)
    .clear b0 bh
     gi_wp2
     go_roundw
     case rel=>exact⟨k+1,by omega,by go_num,by rw[b4.o];exact cn,(a8.trans (qf.ofBelow ah)).trans be⟩
     case measure=>simp[intOf];omega
    .gi_wp2
     refine bodyPost_ret (cL rfl _ _ _) rfl ?_;exact⟨⟨_,rfl⟩,aR ⟨_,dm.o,a7⟩⟩
   .gi_wp2
    go_end0
    exact⟨⟨_,rfl⟩,aQ ⟨_,rfl,by rw[bO (by omega)] at O;exact O⟩⟩
 .gi_wp2
  refine bodyPost_ret (cL rfl _ _ _) rfl ?_;exact⟨⟨_,rfl⟩,aR ⟨[d],⟨L,rfl⟩,cl⟩⟩
theorem uE(n:Nat)(hn:1<=n)(B:Nat)(w0:Wq)(aa:Nat)(d:jj w0 aa)(L:List (jj w0 aa))(hL:aB L<=1000)(a:Option Addr)(z:Nat)(w:Wq)(O:w.heap[B]?=cC #[aI d.1.1.rel,d.1.2,aH a (aB L) z] 136)(G:L≠[]->∃(g A:Nat) (ab:Array Vq),a=aV ⟨g,A,aW⟩/\w.heap[g]?=cC ab 92/\(ab.toList.drop A).take (aB L*2)=L.flatMap λx=>[aI x.1.1.rel,x.1.2]):SeqStopsK cG n cE 163 #[Pt B] (λx:jj w0 aa=>#[aJ #[aI x.1.1.rel,x.1.2]]) qf (λys=>ys=d::L) (λpre=>pre <+: d::L) (aB (d::L)) w:=
 λl J E W C Z _ hY h0=>Df n hn l B w0 aa d L hL a z J E W Z hY (qf.ofBelow C _ _ _ (aQ rfl) O)
  (λM=>by have⟨g,A,ab,h1,h2,h3⟩:=G M;exact⟨g,A,ab,h1,qf.ofBelow C _ _ _ (aR (aQ rfl)) h2,h3⟩) h0
def mW{α:Type}(n gf:Nat)(lb:Array Vq)(ag:α->Array Vq)(Kp:Wq->Wq->Prop)(S Sp:List α->Prop)(N:Nat)(w:Wq):Prop:=
 ∀(l:Nat) (J Jx:List α->Wq->Prop) (W:Wq),cI w.heap.size w W->w.heap.size+2<=W.heap.size->cF W.heap.size J->cF W.heap.size Jx->
  (∀pre x W1,J pre W1->aB pre<N->YieldAt cG (n-1) cE l (ag x) W1 λe W'=>(e=aO (aK true)/\J (pre++[x]) W'/\Kp W1 W')\/(e=aO (aK false)/\Jx (pre++[x]) W'/\cD (w.heap.size+2) W1 W'))->
  J [] W->CallsIn cG n cE gf (#[.func (.yield l) #[] #[]]++lb) W λe W'=>(∃v,e=aO v)/\((∃xs,S xs/\J xs W')\/(∃pre,Sp pre/\Jx pre W'))
theorem KeepsFrom.tr{m:Nat}{A B C:Wq}(h:cD m A B)(k:cD m B C):cD m A C:=⟨Nat.le_trans h.size k.size,λi o z E d=>k.same i o z (h.same i o z E d) d⟩
theorem KeepsFrom.up{m d:Nat}{A B:Wq}(h:cD m A B)(G:m<=d):cD d A B:=⟨h.size,λi o E C z=>h.same i o (by omega) C z⟩
theorem KeepsFrom.ofBelow{m:Nat}{W W':Wq}(h:cI W.heap.size W W'):cD m W W':=⟨h.size,λk o _ d _=>(h.block k (zg d).1).trans d⟩
theorem KeepsFrom.put{m:Nat}(W:Wq)(l:Nat)(d:Obj)(C:l<m):cD m W (W.putObj l d):=
 ⟨(cA W l d).size,λk x A z _=>((cA W l d).block k (zg z).1 (by simp;omega)).trans z⟩
theorem mW.ofStops{α:Type}{n gf:Nat}{lb:Array Vq}{ag:α->Array Vq}{Kp:Wq->Wq->Prop}{S Sp:List α->Prop}{N:Nat}{w:Wq}(h:SeqStopsK cG n cE gf lb ag Kp S Sp N w):mW n gf lb ag Kp S Sp N w:=by
 intro l J E W Z _ O G hY h0;refine h l J E W Z (λs A B row hs z C=>O s A B row hs z (λr e=>?_)) (λs A B row hs z C=>G s A B row hs z (λr e=>?_)) (λpre x W1 d M=>(hY pre x W1 d M).mono (λe W' h=>h.imp id (λk=>⟨k.1,k.2.1⟩))) h0
 all_goals
  have⟨d,o,ho,hw⟩:=C r e;exact⟨d,o,ho,Obj.not_cells_of_walk hw⟩
structure gK(I:Wq->Prop)(D:Nat)(rec:Loop)(W:Wq):Prop where
 inv:I W
 loop:W.heap[D+1]?=aV (.loop rec)
 mark:W.heap[D]?=aV (.deferred (aV []))
theorem gK.own{β:Type}{I:β->Wq->Prop}{B D:Nat}{rec:β->Loop}(hI:cF B I)(O:D+2<=B):cF B (λs=>gK (I s) D (rec s)):=by
 rintro s W W' row ⟨E,G,M⟩ z C;have d:∀(k:Nat) (o:Obj),k<B->W.heap[k]?=aV o->W'.heap[k]?=aV o:=λk o d A=>(z.block k (zg A).1 (λe=>by have:=(C k e.symm).1;omega)).trans A;exact⟨hI s W W' row E z C,d _ _ (by omega) G,d _ _ (by omega) M⟩
section
variable {α:Type} {n gf:Nat} {lb:Array Vq} {ag:α->Array Vq} {Kp:Wq->Wq->Prop} {S Sp:List α->Prop} {N:Nat}
theorem rQ{g:Operand}{ps:Array Tmp}{assign body:Code}{Q:Exit->Act->Wq->Prop}{a:Act}{w:Wq}(hg:a.eval g=.func (.func gf) #[] lb)(eg:∀args w,(callFunc gf args).run cE w=.ok (.enter gf args) w)(ci:mW (n-1) gf lb ag Kp S Sp N w)(ck:∀{A B C:Wq},Kp A B->Kp B C->Kp A C)(cu:∀(W:Wq) (o o':Obj),W.heap[w.heap.size+1]?=aV o->o.isCells=false->Kp W (W.putObj (w.heap.size+1) o'))(dt:∀x,(ag x).size=ps.size)(I:List α->Wq->Prop)(Ix:Code->List α->Wq->Prop)(hI:cF w.heap.size I)(hIx:∀c,cF w.heap.size (Ix c))(h0:I [] w)(Ax:α->Act->Wq->Prop)(hAx:∀x O,cF w.heap.size (λ(_:Unit) W=>Ax x O W))(au:∀(l:Nat) (pre:List α) (x:α) (W:Wq) (K:Act->Wq->Prop),w.heap.size<=l->(∃r,W.heap[l]?=aV (.loop r))->I pre W->(∀O W',cD w.heap.size W W'->Kp W W'->I pre W'->Ax x O W'->K O W')->
   assign.wpIn (Fence.wide.inRound l) (n-1-1) cE (Exit.then K (λ_ _ _=>False)) {tmps:=(ps.zip (ag x)).foldl (λt (p,v)=>t.setIfInBounds p v) a.tmps,defers:=[]} W)(du:∀(l:Nat) (pre:List α) (x:α) (O:Act) (W:Wq),w.heap.size<=l->(∃r,W.heap[l]?=aV (.loop r))->I pre W->Ax x O W->aB pre<N->body.wpIn (Fence.wide.inRound l) (n-1-1) cE (ownPostG w.heap.size Kp I Ix (pre++[x]) W) O W)(dd:∀(D:Nat) (xs:List α) (W:Wq),w.heap.size<=D->S xs->I xs W->W.heap[D]?=aV (.deferred (aV []))->Q .normal {a with defers:={target:=.collected D,args:=#[]}::a.defers} W)(d3:∀(D:Nat) (c:Code) (pre:List α) (W:Wq),w.heap.size<=D->Sp pre->Ix c pre W->W.heap[D]?=aV (.deferred (aV []))->c.wpIn cG n cE Q {a with defers:={target:=.collected D,args:=#[]}::a.defers} W):(Code.rangeFunc g ps assign body).wpIn cG n cE Q a w:=by
 refine wpIn_rangeFunc (λfn et=>?_)
 let E:LoopState->Option Code->Loop:=λst pe=>{state:=st,pending:=pe,fn:=fn,tmps:=a.tmps,params:=ps,assign:=assign,body:=body,defers:=w.heap.size}
 let wA:=w.alloc (.deferred (aV []))
 let M:=wA.alloc (.loop (E .ready aW))
 have sA:wA.heap.size=w.heap.size+1:=by simp[wA]
 have sB:M.heap.size=w.heap.size+2:=by simp[M,wA]
 have gB:cI w.heap.size w M:=((aY _ w).alloc zl _).alloc (by simp) _
 have dx:gK (I []) w.heap.size (E .ready aW) M:=by
  refine⟨hI _ _ _ aW h0 (qg gB) (λr e=>by cases e),?_,?_⟩;{have:=zn wA (.loop (E .ready aW));rw[sA] at this;exact this};{exact (bI wA _ _ (by omega)).trans (zn w _)}
 have av:∀{I':Wq->Prop} {r:Loop} (r':Loop) {W:Wq},cF w.heap.size (λ(_:Unit)=>I')->gK I' w.heap.size r W->gK I' w.heap.size r' (W.putObj (w.heap.size+1) (.loop r')):=by intro I' r r' W ho d;exact⟨ho.putObj (s:=()) _ d.inv (by omega) d.loop rfl,World.putObj_heap_same (zg d.loop).1,(World.putObj_heap_other (by omega)).trans d.mark⟩
 have oI:∀pre,cF w.heap.size (λ(_:Unit)=>I pre):=λpre _ A B row hs a6 z=>hI pre A B row hs a6 z;have oX:∀c pre,cF w.heap.size (λ(_:Unit)=>Ix c pre):=λc pre _ A B row hs a6 z=>hIx c pre A B row hs a6 z;have up:∀{β:Type} {X:β->Wq->Prop},cF w.heap.size X->cF M.heap.size X:=λh s A B row hs a6 z=>h s A B row hs a6 (λr e=>⟨by have:=(z r e).1;omega,(z r e).2⟩);have oJ:cF M.heap.size (λpre=>gK (I pre) w.heap.size (E .ready aW)):=gK.own (up hI) (by omega);have da:cF M.heap.size (λpre W=>∃c,gK (Ix c pre) w.heap.size (E .done (aV c)) W):=by rintro pre A B row ⟨c,hc⟩ a6 z;exact⟨c,gK.own (I:=λ_:Unit=>Ix c pre) (rec:=λ_=>E .done (aV c)) (up (oX c pre)) (by omega) () A B row hc a6 z⟩
 refine⟨w.heap.size+1,[{target:=.collected w.heap.size,args:=#[]}],M,{target:=.fn (.func gf) lb,args:=#[.func (.yield (w.heap.size+1)) #[] #[]]},M,gf,#[.func (.yield (w.heap.size+1)) #[] #[]]++lb,M,run_enterLoop_outer _ _ _ _ _,?_,λ_ _=>trivial,?_,(λh=>(by cases h)),?_⟩
 .simp only[resolve,hg];simp[go_sem]
 .simp[invoke,go_sem,eg]
 refine (ci (w.heap.size+1) (λpre=>gK (I pre) w.heap.size (E .ready aW)) (λpre W=>∃c,gK (Ix c pre) w.heap.size (E .done (aV c)) W) M gB (by omega) oJ da ?_ dx).mono ?_
 .intro pre x W d ai;have hy:=run_yield (P:=cE) (args:=ag x) d.loop (dt x);refine⟨fn,_,assign,body,hy,roundIn_of_wpIn trivial (au _ pre x W _ (by omega) ⟨_,d.loop⟩ d.inv ?_)⟩;intro O Wa kA di iA d5;have b7:gK (I pre) w.heap.size (E .ready aW) Wa:=⟨iA,kA.same _ _ (by omega) d.loop rfl,kA.same _ _ zl d.mark rfl⟩;refine⟨_,run_beginRound b7.loop rfl,?_⟩;have bn:=av {E .ready aW with state:=.busy} (oI pre) b7;have dr:=cu Wa _ (.loop {E .ready aW with state:=.busy}) b7.loop rfl;refine wpIn_mono (du _ pre x O _ (by omega) ⟨_,bn.loop⟩ bn.inv ((hAx x O).putObj (s:=()) _ d5 (by omega) b7.loop rfl) ai) ?_;intro e a3 W3 hp
  have done:∀(am:Option Code) {I':Wq->Prop},cF w.heap.size (λ(_:Unit)=>I')->cD w.heap.size (Wa.putObj (w.heap.size+1) (.loop {E .ready aW with state:=.busy})) W3->I' W3->
    ∃W4,(Instr.endRound (w.heap.size+1) am).run cE W3=.ok (aK am.isNone) W4/\gK I' w.heap.size (E (if am.isNone then .ready else .done) am) W4/\Kp W3 W4/\cD (w.heap.size+2) W W4:=by
   intro am I' ho G Z;have h3:gK I' w.heap.size {E .ready aW with state:=.busy} W3:=⟨Z,G.same _ _ (by omega) bn.loop rfl,G.same _ _ zl bn.mark rfl⟩;exact⟨_,run_endRound am h3.loop,av _ ho h3,cu _ _ _ h3.loop rfl,KeepsFrom.tr (KeepsFrom.tr (KeepsFrom.tr (KeepsFrom.up kA (by omega)) (KeepsFrom.put _ _ _ (by omega))) (KeepsFrom.up G (by omega))) (KeepsFrom.put _ _ _ (by omega))⟩
  cases e with
  |normal=>have⟨G,kp,Z⟩:=hp;have⟨W4,z,h4,k4,_⟩:=done aW (oI _) G Z;exact⟨_,_,z,aQ ⟨rfl,h4,ck di (ck dr (ck kp k4))⟩⟩
  |ret=>have⟨G,Z⟩:=hp;have⟨W4,z,h4,_,k4⟩:=done (aV .ret) (oX _ _) G Z;exact⟨_,_,z,aR ⟨rfl,⟨_,h4⟩,k4⟩⟩
  |exit id=>have⟨G,Z⟩:=hp;have⟨W4,z,h4,_,k4⟩:=done (aV (.exit id)) (oX _ _) G Z;exact⟨_,_,z,aR ⟨rfl,⟨_,h4⟩,k4⟩⟩
  |goto t=>have⟨G,Z⟩:=hp;have⟨W4,z,h4,_,k4⟩:=done (aV (.goto t)) (oX _ _) G Z;exact⟨_,_,z,aR ⟨rfl,⟨_,h4⟩,k4⟩⟩
  |panic ch=>exact hp.elim
  |outgrown=>exact hp.elim
 .rintro e W2 ⟨⟨v,rfl⟩,(⟨xs,hS,d⟩|⟨pre,ee,c,d⟩)⟩;{have h2:=av {E .ready aW with state:=.exhausted} (oI xs) d;exact⟨aW,_,run_endLoop d.loop (by intro h;cases h),dd _ xs _ zl hS h2.inv h2.mark⟩};{have h2:=av {E .done (aV c) with state:=.exhausted} (oX c pre) d;exact⟨aV c,_,run_endLoop d.loop (by intro h;cases h),d3 _ c pre _ zl ee h2.inv h2.mark⟩}
end
attribute [local go_sem] cO
structure gA(m:Nat)(W W':Wq):Prop where
 rule:qf W W'
 func:∀(k:Nat) (c:Array Vq),W.heap[k]?=cC c 259->W'.heap[k]?=cC c 259
 from':cD m W W'
theorem gA.tr{m:Nat}{A B C:Wq}(h:gA m A B)(k:gA m B C):gA m A C:=⟨h.rule.trans k.rule,λi c d=>k.func i c (h.func i c d),KeepsFrom.tr h.from' k.from'⟩
theorem gA.ofBelow{m:Nat}{W W':Wq}(h:cI W.heap.size W W'):gA m W W':=⟨qf.ofBelow h,λk c d=>(h.block k (zg d).1).trans d,KeepsFrom.ofBelow h⟩
theorem gA.put{m:Nat}(W:Wq)(l:Nat)(o d:Obj)(E:l<m)(h:W.heap[l]?=aV o)(A:o.isCells=false):gA m W (W.putObj l d):=
 ⟨qf.put W l o d h A,λk c z=>qm (cA W l d) (λr e=>by cases e;exact⟨_,h,A⟩) k c _ _ z,
  (cA W l d).size,λk x z C _=>((cA W l d).block k (zg C).1 (by simp;omega)).trans C⟩
theorem qK{n m l z:Nat}{f:FuncId}{tmps:Array Vq}{assign body:Code}{w:Wq}{R:Ending->Wq->Prop}(h:RoundIn cG n cE l f tmps assign body w R):RoundIn (Fence.wide.inRound z) m cE l f tmps assign body w R:=
 ⟨h.1,λc d _=>h.2 c d (room_wide _)⟩
theorem wL(c:Array Vq)(x y z:Vq)(d:c=#[x,y,z])(w:Wq):Cs 77 #[aJ c] w λe w'=>e=aO (.func (.func 141) #[] #[Pt w.heap.size])/\w'=w.alloc (aN #[x,y,z] 136):=by subst d;go_enter Tryz.func77,Tryz.ntmps77;go_wp2;go_ret;exact⟨rfl,rfl⟩
theorem Dn{w0:Wq}{b:Nat}(L:List (jj w0 b)):aB (L.flatMap (·.1.1.args))<=aB L*2:=by
 induction L with
 |nil=>simp
 |cons x L ih=>have:=x.2.2.args;simp at ih ⊢;omega
def iq{w0:Wq}{b:Nat}(L:List (jj w0 b)):List Tm:=L.flatMap (·.1.1.args)
theorem EY(n:Nat)(hn:4<=n)(B:Nat)(w0:Wq)(aa:Nat)(d:jj w0 aa)(L:List (jj w0 aa))(hL:aB L<=1000)(a:Option Addr)(A:Nat)(w:Wq)(cx:qf w0 w)(hB:w.heap[B]?=cC #[aI d.1.1.rel,d.1.2,aH a (aB L) A] 136)(Q2:L≠[]->∃(g E:Nat) (ab:Array Vq),a=aV ⟨g,E,aW⟩/\w.heap[g]?=cC ab 92/\(ab.toList.drop E).take (aB L*2)=L.flatMap λx=>[aI x.1.1.rel,x.1.2]):mW n 141 #[.pointer (aV ⟨B,0,aW⟩)] (λt:Tm=>#[aJ #[aI t.name,aM aP t.num]]) (gA (w.heap.size+2)) (λys=>ys=iq (d::L)) (λpre=>pre <+: iq (d::L)) ((aB L+1)*2) w:=by
 intro l J Jx W hW dg hJ b5 hY h0;generalize w.heap.size+2=m at dg hY;have b6:=qf.ofBelow hW _ _ _ (aQ rfl) hB;have Qib:L≠[]->∃(g E:Nat) (ab:Array Vq),a=aV ⟨g,E,aW⟩/\W.heap[g]?=cC ab 92/\(ab.toList.drop E).take (aB L*2)=L.flatMap λx=>[aI x.1.1.rel,x.1.2]:=λaw=>by obtain⟨g,E,ab,C,z,M⟩:=Q2 aw;exact⟨g,E,ab,C,qf.ofBelow hW _ _ _ (aR (aQ rfl)) z,M⟩
 have Qks:qf w0 W:=cx.trans (qf.ofBelow hW);clear hB Q2 cx hW w;obtain⟨fa,fc,hf⟩:=d.2.1.form;refine cP Tryz.func141 rfl trivial ?_ rfl;simp only[Tryz.ntmps141,bE,bG,bJ,bQ,bT,bB,bC,bF,bD,bL,bH];have Qgj:B<W.heap.size:=(zg b6).1;have c0:aC W (Ad B 0)=aV (aI d.1.1.rel):=zc b6;have c1:aC W (Ad B 1)=aV (aH fa (aB d.1.1.args) fc):=by simp[aC,b6,hf]
 have c2:aC W (Ad B 2)=aV (aH a (aB L) A):=zc b6;have n1:1<=n:=by omega
 have n2:1<=n-1:=by omega
 have n3:1<=n-1-1:=by omega
 have HY:Hid _:=hY;have HJ:Hid (cF W.heap.size J):=hJ;have HJx:Hid (cF W.heap.size Jx):=b5;clear hY hJ b5
 gi_wp2_with (refine⟨trivial,?_⟩;gi_at_call 98;refine (cH.2 (uD _ _ _ _ rfl rfl rfl rfl _)).mono ?_;rintro e w' ⟨rfl,rfl⟩)
 obtain⟨NB,b3⟩:∃NB,W.heap.size=NB:=⟨_,rfl⟩;obtain⟨W0,an⟩:∃W0,(W.alloc (aN #[.func (.yield l) #[] #[]] 259)).alloc (aN #[aI d.1.1.rel,aH fa (aB d.1.1.args) fc,aH a (aB L) A] 136)=W0:=⟨_,rfl⟩;have ax:cI W.heap.size W W0:=by rw[<-an];exact ((aY _ W).alloc zl _).alloc (by simp) _
 have dq:W0.heap.size=NB+2:=by rw[<-an,<-b3];simp
 have bY:W0.heap[NB]?=cC #[.func (.yield l) #[] #[]] 259:=by rw[<-an,<-b3];exact (bI _ _ _ (by simp)).trans (zn W _)
 have bR:W0.heap[NB+1]?=cC #[aI d.1.1.rel,d.1.2,aH a (aB L) A] 136:=by rw[<-an,<-b3,hf];have:=zn (W.alloc (aN #[.func (.yield l) #[] #[]] 259)) (aN #[aI d.1.1.rel,aH fa (aB d.1.1.args) fc,aH a (aB L) A] 136);rw[World.size_alloc] at this;exact this
 have cj:L≠[]->∃(g E:Nat) (ab:Array Vq),a=aV ⟨g,E,aW⟩/\W0.heap[g]?=cC ab 92/\(ab.toList.drop E).take (aB L*2)=L.flatMap λx=>[aI x.1.1.rel,x.1.2]:=λaw=>by obtain⟨g,E,ab,C,z,M⟩:=Qib aw;exact⟨g,E,ab,C,qf.ofBelow ax _ _ _ (aR (aQ rfl)) z,M⟩
 have Qkt:qf w0 W0:=Qks.trans (qf.ofBelow ax);have dj:J [] W0:=HJ.o _ _ _ aW h0 (qg ax) (λr e=>by cases e);simp only[b3];rw[an];clear an
 refine rQ (n:=n) (gf:=163) (lb:=#[.pointer (aV ⟨NB+1,0,aW⟩)]) rfl (enters_of Tryz.func163 (by kernel_rfl) rfl)
  (mW.ofStops (uE (n-1) n2 (NB+1) w0 aa d L hL a A W0 bR cj)) qf.trans (λV o o' ho hc=>qf.put V _ o o' ho hc) (λ_=>rfl)
  (λpre V=>J (iq pre) V/\V.heap[NB]?=cC #[.func (.yield l) #[] #[]] 259/\qf w0 V)
  (λc pre V=>c=.ret/\∃(ak:List (jj w0 aa)) (x:jj w0 aa) (k:Nat),pre=ak++[x]/\Jx (iq ak++x.1.1.args.take k) V)
  ?hI ?hIx ⟨dj,bY,Qkt⟩
  (λx a' V=>∃Bx,V.heap[Bx]?=cC #[aI x.1.1.rel,x.1.2] 92/\a'={tmps:=#[.func (.yield l) #[] #[],.pointer (aV ⟨B,0,aW⟩),.pointer (aV ⟨NB,0,aW⟩),.pointer (aV ⟨Bx,0,aW⟩),undef,undef,aJ #[aI d.1.1.rel,aH fa (aB d.1.1.args) fc,aH a (aB L) A],.func (.func 163) #[] #[.pointer (aV ⟨NB+1,0,aW⟩)],aJ #[aI x.1.1.rel,x.1.2],undef,undef,undef,undef,undef,undef,undef,undef,undef,undef,undef,undef],defers:=[]})
  ?hAx ?assign ?body ?done ?stop
 case hI=>rintro pre V V' row ⟨C,z,M⟩ hg Z;have hk:=qm hg (λr e=>(Z r e).2);exact⟨HJ.o _ _ _ row C hg (λr e=>⟨by have:=(Z r e).1;omega,(Z r e).2⟩),hk _ _ _ _ z,M.trans (λk c t _ hc=>hk k c t _ hc)⟩
 case hIx=>rintro c pre V V' row ⟨rfl,ak,x,k,C,z⟩ hg Z;exact⟨rfl,ak,x,k,C,HJx.o _ _ _ row z hg (λr e=>⟨by have:=(Z r e).1;omega,(Z r e).2⟩)⟩
 case hAx=>rintro x a' _ V V' row ⟨Bx,z,M⟩ hg Z;exact⟨Bx,qm hg (λr e=>(Z r e).2) _ _ _ _ z,M⟩
 case assign=>
  rintro l' pre x V K hl dk ⟨C,z,M⟩ hK;have HK:Hid _:=hK;clear hK;obtain⟨ga,gc,az⟩:=x.2.1.form;simp only[az]
  gi_wp2
  have G:cI V.heap.size V (V.alloc (aN #[aI x.1.1.rel,aH ga (aB x.1.1.args) gc] 92)):=(aY _ V).alloc zl _;exact HK.o _ _ (KeepsFrom.ofBelow G) (qf.ofBelow G) ⟨HJ.o _ _ _ aW C (qg G) (λr e=>by cases e),(G.block NB (zg z).1).trans z,M.trans (qf.ofBelow G)⟩ ⟨V.heap.size,by rw[az];exact zn V _,by rw[az]⟩
 case body=>
  rintro l' pre x a' V ef ⟨r,Z⟩ ⟨dp,d2,dy⟩ ⟨Bx,bc,rfl⟩ al;obtain⟨ga,gc,az⟩:=x.2.1.form;have eo:=x.2.2.args;have c7:=x.2.1;have dz:=Dn pre;generalize qj5:x.1.1.args=args at *;have en:aC V (Ad Bx 0)=aV (aI x.1.1.rel):=zc bc;have eu:aC V (Ad Bx 1)=aV (aH ga (aB args) gc):=by simp[aC,bc,az]
  have HX:Hid (x.1.1.args=args):=qj5;have HN:Hid (aB pre<aB (d::L)):=al;clear qj5 al
  gi_wp2
  gi_loopw [12] (λi V'=>∃k:Nat,k<=aB args/\i=aM aP k/\J (iq pre++args.take k) V'/\V'.heap[NB]?=aV (aN #[.func (.yield l) #[] #[]] 259)/\qf w0 V'/\qf V V'/\cD W0.heap.size V V')
   (λi _=>aB args-(intOf i).toNat)
  case atStart=>exact⟨0,zz,rfl,by simpa using dp,d2,dy,qf.refl V,KeepsFrom.refl _ V⟩
  case round=>
   obtain⟨k,hk,rfl,ay,O,a8,cy,ca⟩:=hrel;by_cases al:k<aB args
   .have el:=c7.rk a8;obtain⟨e0,_⟩|⟨g,cp,ab,hv,ey,b9,c6⟩:=el
    .rw[e0] at al;simp at al
    rw[az] at hv;cases hv;obtain⟨p0,p1⟩:=sP (λt:Tm=>aI t.name) (λt=>aM aP t.num) args k al;have cd:ab.toList.take (aB args*2)=args.flatMap λt=>[aI t.name,aM aP t.num]:=c6;rw[<-cd,aX,if_pos (by omega)] at p0;rw[<-cd,aX,if_pos (by omega)] at p1;have a9:iq pre++args.take (k+1)=(iq pre++args.take k)++[args[k]]:=by rw[aZ al,List.append_assoc]
    have b4:Hid (iq pre++args.take (k+1)=(iq pre++args.take k)++[args[k]]):=a9;clear a9;have ai:aB (iq pre++args.take k)<(aB L+1)*2:=by have:=HN.o;have z:aB (iq pre)<=aB pre*2:=dz;simp at this ⊢;omega
    generalize args[k]=tk at *;have q0:aC wr (Ad g (k*2))=aV (aI tk.name):=by simp only[aC,b9];simpa using p0
    have q1:aC wr (Ad g (k*2+1))=aV (aM aP tk.num):=by simp only[aC,b9];simpa using p1
    have cY:aC wr (Ad NB 0)=aV (.func (.yield l) #[] #[]):=zc O;have G:cI wr.heap.size wr (wr.alloc (aN #[aI tk.name,aM aP tk.num] 166)):=(aY _ wr).alloc zl _;have Qgl:NB<wr.heap.size:=(zg O).1;obtain⟨ek,bj,assign2,body2,b0,bh⟩:=HY.o (iq pre++args.take k) tk (wr.alloc (aN #[aI tk.name,aM aP tk.num] 166)) (HJ.o _ _ _ aW ay (qg G) (λr e=>by cases e)) ai;clear p0 p1 c6 cd b9 az c7
    gi_wp2
    refine (qK bh).mono ?_;rintro e V3 (⟨rfl,cn,be⟩|⟨rfl,a7,b8⟩)
    .clear b0 bh;have dv:=be.func NB _ ((G.block NB Qgl).trans O)
     gi_wp2
     go_roundw
     case rel=>exact⟨k+1,by omega,by go_num,by rw[b4.o];exact cn,dv,(a8.trans (qf.ofBelow G)).trans be.rule,(cy.trans (qf.ofBelow G)).trans be.rule,KeepsFrom.tr (KeepsFrom.tr ca (KeepsFrom.ofBelow G)) (KeepsFrom.up be.from' (by omega))⟩
     case measure=>simp[intOf];omega
    .gi_wp2
     refine⟨KeepsFrom.tr (KeepsFrom.tr ca (KeepsFrom.ofBelow G)) (KeepsFrom.up b8 (by omega)),rfl,pre,x,k+1,rfl,?_⟩;rw[HX.o,b4.o];exact a7
   .gi_wp2
    refine⟨ca,cy,?_,O,a8⟩;have:iq (pre++[x])=iq pre++args:=by unfold iq;simp[HX.o]
    rw[this];rw[bO (by omega)] at ay;exact ay
 case done=>
  rintro D xs V hD rfl ⟨C,z,M⟩ hK
  gi_wp2
  refine⟨by simp,aQ ⟨_,_,rfl,cM hK,?_⟩⟩;exact⟨_,cL rfl _ _ _,⟨_,rfl⟩,aQ ⟨_,rfl,HJ.o _ _ _ (aV D) C (cA _ _ _) (λr e=>by cases e;exact⟨by omega,_,hK,rfl⟩)⟩⟩
 case stop=>
  rintro D c pre V hD hp ⟨rfl,ak,x,k,rfl,z⟩ hK;have C:iq ak++x.1.1.args.take k <+: iq (d::L):=by obtain⟨tl,ea⟩:=hp;refine List.IsPrefix.trans ?_ (⟨iq tl,by unfold iq;rw[<-ea];simp⟩:iq (ak++[x]) <+: iq (d::L));unfold iq;simp only[List.flatMap_append,List.flatMap_cons,List.flatMap_nil,List.append_nil];exact List.prefix_append_right_inj _ |>.2 (bX _ _)
  gi_wp2
  refine⟨by simp,aQ ⟨_,_,rfl,cM hK,?_⟩⟩;exact⟨_,cL rfl _ _ _,⟨_,rfl⟩,aR ⟨_,C,HJx.o _ _ _ (aV D) z (cA _ _ _) (λr e=>by cases e;exact⟨by omega,_,hK,rfl⟩)⟩⟩
end Go.Proofs.YtjajnhemgphefaaGreatDoor
namespace Go.Proofs.YtjajnhemgphefaaGreatDoor
open Go renaming World->Wq,Value->Vq
def fB(af:List Am)(l:List UInt8):Option Nat:=(af.find? (λa=>a.rel.data.toList == l)).map (·.args.length)
def ly(af:List Am)(a:Am):Bool:=match fB af a.rel.data.toList with|some n=>n == aB a.args|none=>true
def iB:List Am->List Am->Option (List Am)
 |af,[]=>aV af
 |af,a::l=>if ly af a=true then iB (af++[a]) l else aW
def iW:List Am->Nat->List Rl->Int
 |_,_,[]=>-1
 |af,i,r::rs=>match iB af (r.head::r.body) with
  |none=>i
  |some s=>iW s (i+1) rs
def s9(x:ByteArray)(xb:Nat)(t:Tm):Bool:=x.toList == t.name.toList && xb == t.num
def ki(l:List Tm)(x:ByteArray)(xb:Nat):Bool:=l.any (s9 x xb)
def qC(r:Rl)(x:ByteArray)(xb:Nat):Bool:=r.body.any (λa=>ki a.args x xb)
def mu(r:Rl)(t:Tm):Bool:=t.name.toList.isEmpty && !qC r t.name t.num
def kF(r:Rl):Bool:=r.head.args.any (mu r)
def mp(p:Rl->Bool):Nat->List Rl->Int
 |_,[]=>-1
 |i,r::rs=>if p r=true then i else mp p (i+1) rs
def mP(rs:List Rl):Int:=mp kF 0 rs
def jo:List ByteArray->Nat->List Rl->Int
 |_,_,[]=>-1
 |ns,i,r::rs=>if 8<aB (dG ns (Q0 (qz r))) then i else jo (dG ns (Q0 (qz r))) (i+1) rs
def jP(rs:List Rl):Int×Int:=
 if 0<=iW [] 0 rs then (4,iW [] 0 rs)
 else if 0<=mP rs then (5,mP rs)
 else if 0<=jo [] 0 rs then (3,jo [] 0 rs)
 else (0,0)
end Go.Proofs.YtjajnhemgphefaaGreatDoor
namespace Go.Proofs.YtjajnhemgphefaaGreatDoor
open Go renaming World->Wq,Value->Vq
open Go.RowKit Go.Shelf
attribute [local go_sem] cO
variable {W' W:Wq} {aq aa:Nat} {r:Rl} {v0 vb:Vq}
theorem Qa.ofBelow{B:Nat}{a b:Wq}(h:cI a.heap.size a b):Qa B a b:=⟨h.os,h.tape,h.output,h.size,λk d _=>h.block k d⟩
theorem Jt(d:List ByteArray)(t:Tm):aB (gI d t)<=aB d+1:=by grind [gI,za]
theorem Bd(d:List ByteArray)(l:List Tm)(t:Tm):dG d (l++[t])=gI (dG d l) t:=by simp[dG]
theorem yp(l:List Tm):∀(d:List ByteArray),aB (dG d l)<=aB d+aB l:=by
 induction l with
 |nil=>intro d;simp[dG]
 |cons t l ih=>grind [gI,Jt,dG]
theorem yj(d:List ByteArray)(x:ByteArray):Lib.containsS d x=decide (dS d x<aB d):=by
 have C:=Lib.containsS_iff d x;have E:=Lib.idxOfS_nonneg_iff d x;rcases ya d x with⟨z,A⟩|⟨z,A⟩
 .grind
 .grind
theorem As{m:Nat}{V:Wq}{ex:Nat->Prop}(h:dD V W' ex)(G:∀k,k<V.heap.size->ex k->∃(c:Array Vq) (t:TypeId),V.heap[k]?=cC c t/\t≠136/\t≠92/\t≠166/\t≠259):cD m V W'/\∀A,gA A V W':=by
 have z:∀C,cD C V W':=λC=>⟨h.size,λk o _ z E=>by
  rw[h.block k (zg z).1 (λe=>?_)];{exact z}
  .have⟨c,t,d,_⟩:=G k (zg z).1 e
   rw[z] at d;cases d;simp[Obj.isCells] at E⟩
 refine⟨z m,λA=>⟨λk c t M d=>?_,λk c d=>?_,z A⟩⟩
 .rw[h.block k (zg d).1 (λe=>?_)];{exact d};{grind}
 .rw[h.block k (zg d).1 (λe=>?_)];{exact d};{grind}
def jx(W:Wq)(aq aa:Nat)(r:Rl)(v0 vb:Vq):Prop:=Qh W aa v0 r.head.args/\eW W aq aa vb r.body
def Q4(r:Rl):List Tm:=r.head.args++r.body.flatMap (·.args)
theorem jx.rk(h:jx W aq aa r v0 vb)(d:qf W W'):jx W' aq aa r v0 vb:=⟨h.1.rk d,h.2.rk d⟩
theorem xU:∀(ps:List (Am×Vq)),(∀p∈ps,Qh W aa p.2 p.1.args)->(∀p∈ps,kC p.1)->∃L:List (jj W aa),L.map (·.1)=ps
 |[],_,_=>⟨[],rfl⟩
 |p::ps,h,h2=>by have⟨L,hL⟩:=xU ps (λq d=>h q (by simp[d])) (λq d=>h2 q (by simp[d]));exact⟨⟨p,h p (by simp),h2 p (by simp)⟩::L,congrArg (λl=>p::l) hL⟩
theorem xd(G:jx W aq aa r v0 vb)(A:iS r):∃(M:jj W aa) (L:List (jj W aa)) (a:Option Addr) (d:Nat),M.1=(r.head,v0)/\L.map (·.1.1)=r.body/\vb=aH a (aB L) d/\aB L<=3/\
   (L≠[]->∃(g z:Nat) (ab:Array Vq),a=aV ⟨g,z,aW⟩/\W.heap[g]?=cC ab 92/\(ab.toList.drop z).take (aB L*2)=L.flatMap λx=>[aI x.1.1.rel,x.1.2]):=by
 have⟨h1,ps,a,d,e1,e2,e3,e4⟩:=G;have⟨L,hL⟩:=xU ps e3.1 (λp Z=>A.ams _ (by grind));have E:L.map (·.1.1)=r.body:=by rw[<-e1,<-hL,List.map_map];rfl
 have C:aB L=aB r.body:=by grind
 refine⟨⟨(r.head,v0),h1,A.head⟩,L,a,d,rfl,E,by rw[C];exact e2,by have:=A.body;omega,λO=>?_⟩;have⟨g,z,ab,k1,k2,k3,k4⟩:=e4 (by grind);refine⟨g,z,ab,k1,k3,?_⟩;rw[C,k4,<-hL,bZ];rfl
theorem DB{W:Wq}{aa:Nat}{d:jj W aa}{L:List (jj W aa)}(h0:d.1=(r.head,v0))(z:L.map (·.1.1)=r.body):iq (d::L)=Q4 r:=by grind [iq,Q4,bZ]
theorem Ho(r:Rl):Q4 r=Q0 (qz r):=by unfold Q4 Q0 qz;simp
theorem A5(r:Rl)(v0 vb v:Vq)(z:List ByteArray)(ad aq aa B:Nat)(w:Wq)(bb:iS r)(hv:jx w aq aa r v0 vb)(hB:w.heap[B]?=cC #[aI r.head.rel,v0,vb] 136)(qt:aE w ad 9 1 v (aB z) (z.map aI))(ep:ad<=w.heap.size)(ev:aB z<=900):Cs 76 #[v,.func (.func 141) #[] #[Pt B]] w λe w'=>∃v',e=aO v'/\aE w' ad 9 1 v' (aB (dG z (Q4 r))) ((dG z (Q4 r)).map aI)/\Qa ad w w':=by
 obtain⟨x0,L,a,cap,bu,hL,rfl,em,Q2⟩:=xd hv bb;have Qct:=DB bu hL;rw[<-Qct];have c4:r.head.rel=x0.1.1.rel:=by rw[bu]
 have c8:v0=x0.1.2:=by rw[bu]
 rw[c4,c8] at hB;clear Qct c4 c8 bu hL hv bb;have⟨bk,bv,df⟩:=qq qt;obtain⟨N,hN⟩:∃N,w.heap.size=N:=⟨_,rfl⟩;have⟨i0,hi,dn,ed,d4⟩:=info_parts Tryz.info9;have Qgj:B<w.heap.size:=(zg hB).1;rw[df] at qt ⊢;refine (cH (n:=8)).1 ?_;refine cP Tryz.func76 rfl trivial ?_ rfl;simp only[Tryz.ntmps76,bE,bG,bJ,bQ,bT,bB,bC,bF,bD,bL,bH]
 gi_wp2
 obtain⟨W0,an⟩:∃W0,w.alloc (aN #[aH bk (aB z) bv] 22)=W0:=⟨_,rfl⟩;have ax:cI w.heap.size w W0:=by rw[<-an];exact (aY _ w).alloc zl _
 have dq:W0.heap.size=N+1:=by rw[<-an,<-hN];simp
 have bV:Boxed W0 N 22 (aH bk (aB z) bv):=by have:=Boxed.new w 22 (aH bk (aB z) bv);rw[hN,an] at this;exact this
 have bR:W0.heap[B]?=cC #[aI x0.1.1.rel,x0.1.2,aH a (aB L) cap] 136:=(ax.block B Qgj).trans hB;have cj:L≠[]->∃(g ac:Nat) (ab:Array Vq),a=aV ⟨g,ac,aW⟩/\W0.heap[g]?=cC ab 92/\(ab.toList.drop ac).take (aB L*2)=L.flatMap λx=>[aI x.1.1.rel,x.1.2]:=λaw=>by have⟨g,ac,ab,E,A,C⟩:=Q2 aw;exact⟨g,ac,ab,E,qf.ofBelow ax _ _ _ (aR (aQ rfl)) A,C⟩
 have db:=qj qt ax;have Qer:Qa ad w W0:=by rw[<-an];exact (Qa.refl ad w).alloc _
 (try simp only[hN])
 rw[an];clear an Q2 hB
 refine rQ (n:=8) (gf:=141) (lb:=#[Pt B]) rfl (enters_of Tryz.func141 (by kernel_rfl) rfl)
  (EY 7 (by decide) B w aa x0 L (by omega) a cap W0 (qf.ofBelow ax) bR cj) gA.tr (λV o o' ho M=>gA.put V _ o o' (by omega) ho M) (λ_=>rfl)
  (λpre V=>∃v,Boxed V N 22 v/\aE V ad 9 1 v (aB (dG z pre)) ((dG z pre).map aI)/\Qa ad w V)
  (λ_ _ _=>False)
  ?hI (λ_ _ _ _ _ h _ _=>h) ⟨_,bV,db,Qer⟩
  (λt a' V=>∃G,V.heap[G]?=cC #[aI t.name,aM aP t.num] 166/\a'={tmps:=#[aH bk (aB z) bv,.func (.func 141) #[] #[Pt B],Pt N,undef,aH aW 0 0,Pt G,.func (.func 141) #[] #[Pt B],aJ #[aI t.name,aM aP t.num],undef,undef,undef,undef,undef,undef,undef,undef,undef,undef,undef,undef,undef,undef,undef,undef],defers:=[]})
  ?hAx ?assign ?body ?done (λ_ _ _ _ _ _ h _=>h.elim)
 case hI=>rintro pre V V' row ⟨v,E,A,C⟩ hg hr;have hk:=qm hg (λr e=>(hr r e).2);exact⟨v,hk _ _ _ _ E,Qc A (λg c _ M=>hk g c _ _ M),C.grown hg (λk e=>aQ (by have:=(hr k e).1;omega))⟩
 case hAx=>rintro x a' _ V V' row ⟨G,A,C⟩ hg hr;exact⟨G,qm hg (λr e=>(hr r e).2) _ _ _ _ A,C⟩
 case assign=>
  rintro l' pre t V K hl dk ⟨v,E,A,C⟩ hK;have HK:=aA hK;clear hK
  gi_wp2
  have ah:cI V.heap.size V (V.alloc (aN #[aI t.name,aM aP t.num] 166)):=(aY _ V).alloc zl _;exact HK.o _ _ (KeepsFrom.ofBelow ah) (gA.ofBelow ah) ⟨v,E.alloc _,A.alloc _,C.alloc _⟩ ⟨V.heap.size,zn V _,rfl⟩
 case done=>
  rintro D xs V hD rfl ⟨v,E,A,C⟩ hK;have c1:=E.cell
  gi_wp2
  refine⟨by simp,aQ ⟨_,_,rfl,cM hK,?_⟩⟩;have hk:=qm (cA V D (.deferred aW)) (λr e=>by cases e;exact⟨_,hK,rfl⟩);refine⟨_,results_tmp rfl _ _ _,v,rfl,Qc A (λg c _ M=>hk g c _ _ M),?_⟩;exact C.grown (cA V D (.deferred aW)) (λk e=>aQ (by cases e;omega))
 case body=>
  rintro l' pre t a' V ef ⟨r,hr⟩ ⟨v,E,A,C⟩ ⟨G,bc,rfl⟩ al;have ez:=yp pre z;have Qku:aB (dG z pre)<=950:=by{omega};have ew:N<=V.heap.size:=by{have:=C.size;omega};have d6:G<V.heap.size:=(zg bc).1;have c0:aC V (Ad G 0)=aV (aI t.name):=zc bc;have c1:aC V (Ad G 1)=aV (aM aP t.num):=zc bc;have cv:=Bd z pre t;have bi:=pu t V;obtain⟨O,Z,rfl⟩:=qq A;have bd:=yj (dG z pre) t.name;generalize hvs:dG z pre=us at *;have HS:=aA cv;clear cv hvs
  cases htv:t.name.toList.isEmpty with
  |true=>
   rw[htv] at bi;have Qf:Hid (dG z (pre++[t])=us):=by{show _=_;rw[HS.o];unfold gI;rw[if_pos htv]};clear htv
   gi_wp2_with (refine⟨trivial,?_⟩;gi_at_call 139;refine (cJ l' (cH.2 bi)).mono ?_;rintro e V1 ⟨rfl,ae⟩)
   refine⟨trivial,?_⟩
   gi_wp2
   refine⟨KeepsFrom.ofBelow ae,gA.ofBelow ae,aH O (aB us) Z,?_,?_,?_⟩;{exact (ae.block _ E.lt).trans E};{rw[Qf.o];exact qj A ae};{exact C.trans (Qa.ofBelow ae)}
  |false=>
   rw[htv] at bi;have c3:=aA bi;have cw:Hid (gI us t=Qq us t.name):=by{show _=_;unfold gI;rw[if_neg (by simp[htv])]};clear htv bi;have ce:Hid (∀V1,cI V.heap.size V V1->Boxed V1 N 22 (aH O (aB us) Z)/\aE V1 ad 9 1 (aH O (aB us) Z) (aB us) (us.map aI)/\aC V1 (Ad G 0)=aV (aI t.name)/\Qa ad w V1):=λV1 ae=>⟨(ae.block _ E.lt).trans E,qj A ae,(ae.cell (p:=⟨G,0,aW⟩) d6).trans c0,C.trans (Qa.ofBelow ae)⟩
   cases hct:Lib.containsS us t.name with
   |true=>
    have Qf:Hid (dG z (pre++[t])=us):=by{show _=_;rw[HS.o,cw.o];unfold Qq;rw[if_pos (by rw[hct] at bd;simpa using bd.symm)]};have cq:=aA hct;clear hct bd E A C
    gi_wp2_with (first|(refine⟨trivial,?_⟩;gi_at_call 139;refine (cJ l' (cH.2 c3.o)).mono ?_;rintro e V1 ⟨rfl,ae⟩;have⟨k1,k2,k3,k4⟩:=ce.o V1 ae;have kc:=k1.cell)|(refine⟨trivial,?_⟩;gi_at_call 140;refine (cJ l' (cH.2 (tX k2 (by omega) t.name))).mono ?_;rintro e w' ⟨rfl,cb⟩;obtain rfl:V1=w':=cb.symm;rw[cq.o]))
    exact⟨KeepsFrom.ofBelow ae,gA.ofBelow ae,_,k1,by rw[Qf.o];exact k2,k4⟩
   |false=>
    have Qf:Hid (dG z (pre++[t])=us++[t.name]):=by{show _=_;rw[HS.o,cw.o];unfold Qq;rw[if_neg (by rw[hct] at bd;simpa using bd.symm)]};have cq:=aA hct;clear hct bd E A C;have d1:aB us+1<=maxLen:=by{unfold maxLen;omega};have dl:(aB us+1)*16<=140737488355328:=by{omega};have dw:Hid (∀V1 w1,cI V.heap.size V V1->(V1.alloc (aN #[aI t.name] 9)).grownBy w1 (aF (aH O (aB us) Z))->Boxed w1 N 22 (aH O (aB us) Z)/\dD V1 w1 (λj=>aV j=aF (aH O (aB us) Z))):=by{intro V1 w1 ae hg;have⟨k1,k2,k3,k4⟩:=ce.o V1 ae;have M:dD V1 w1 (λj=>aV j=aF (aH O (aB us) Z)):=((dD.refl V1 _).alloc _).grown hg (λk e _=>e.symm);exact⟨(M.block _ k1.lt (λe=>Qe k2 k1 (by decide) _ e.symm rfl)).trans k1,M⟩};have dh:Hid (∀V1,cI V.heap.size V V1->ad<=(V1.alloc (aN #[aI t.name] 9)).heap.size):=λV1 ae=>by have:=ae.size;show ad<=_;simp;omega
    gi_wp2_with (first|(refine⟨trivial,?_⟩;gi_at_call 139;refine (cJ l' (cH.2 c3.o)).mono ?_;rintro e V1 ⟨rfl,ae⟩;have⟨k1,k2,k3,k4⟩:=ce.o V1 ae;have kc:=k1.cell)|(refine⟨trivial,?_⟩;gi_at_call 140;refine (cJ l' (cH.2 (tX k2 (by omega) t.name))).mono ?_;rintro e w' ⟨rfl,cb⟩;obtain rfl:V1=w':=cb.symm;rw[cq.o])|(gi_at_builtin;refine wpListIn_append_own _ rfl _ _ 22 rfl ad 9 i0 (aI ⟨#[]⟩) 1 16 Tryz.underlying22 hi dn ed d4 rfl (by decide) _ _ _ rfl (aE.alloc k2 _) ⟨V1.heap.size,0,aW⟩ 1 1 [aI t.name] rfl rfl (cell_one_new _ _ _) (by simp[Value.oneCell']) d1 dl (dh.o V1 ae) ?_;intro v' w1 ap ao _;have⟨g',bf,eb⟩:=ownsRow_succ ap;subst eb;have⟨bq,dc⟩:=dw.o V1 w1 ae ao;have cc:=bq.cell;have ff:=bq.frozen))
    have de:dD V1 (w1.setCell (Ad N 0) (Sc g' (aB us+1) bf)) (λj=>j=N\/aV j=aF (aH O (aB us) Z)):=(dc.mono (λ_ _ e=>aR e)).setCell (Ad N 0) _ (λ_=>aQ rfl)
    have⟨d7,d9⟩:=As (m:=W0.heap.size) de (λj hj hx=>by
     rcases hx with rfl|hx
     .exact⟨_,_,k1,by decide,by decide,by decide,by decide⟩
     .have⟨_,c,M⟩:=qd k2 hx.symm;exact⟨c,_,M,by decide,by decide,by decide,by decide⟩)
    refine⟨KeepsFrom.trans (KeepsFrom.ofBelow ae) d7,(gA.ofBelow ae).tr (d9 _),_,lh bq _,?_,?_⟩;{rw[Qf.o];have:=Qk ap ⟨N,0,aW⟩ (Sc g' (aB us+1) bf) (Qe ap bq (by decide));simpa using this}
    .exact (k4.alloc _ |>.grown ao (λj e=>by
      have⟨ej,d,hd⟩:=qd k2 e
      exact aR ⟨ej,d,_,(bI _ _ _ (zg hd).1).trans hd⟩)).setCell (Nat.le_of_eq hN) _
