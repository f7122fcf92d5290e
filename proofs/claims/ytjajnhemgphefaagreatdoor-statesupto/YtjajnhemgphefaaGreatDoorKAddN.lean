/- A part -/
import Derived.Test.YtjajnhemgphefaaGreatDoorKEgA
import Derived.Maps.AppendAt
set_option linter.all false
set_option maxRecDepth 100000
set_option maxHeartbeats 1000000
namespace Go.Proofs.YtjajnhemgphefaaGreatDoor
open Go renaming World->Wq,Value->Vq
open Go.RowKit Go.Shelf
attribute [local go_sem] Oper.semAt_some
def AtX(w0:Wq)(b:Nat):Type:={p:Am×Vq // Qi w0 b p.2 p.1.args/\qkr p.1}
def qf(W W':Wq):Prop:=∀(k:Nat) (c:Array Vq) (t:TypeId),(t=136\/t=92\/t=166)->W.heap[k]?=cC c t->W'.heap[k]?=cC c t
theorem qf.refl(W:Wq):qf W W:=λ_ _ _ _ h=>h
theorem qf.trans{A B C:Wq}(h:qf A B)(k:qf B C):qf A C:=λi c t ht hi=>k i c t ht (h i c t ht hi)
theorem qf.ofBelow{W W':Wq}(h:Below W.heap.size W W'):qf W W':=λk c t _ hk=>(h.block k (zg hk).1).trans hk
theorem qf.put(W:Wq)(l:Nat)(o o':Obj)(h:W.heap[l]?=some o)(ho:o.isCells=false):qf W (W.putObj l o'):=λk c t _ hk=>
 qj (grownBy_putObj' W l o') (λr e=>by cases e;exact⟨_,h,ho⟩) k c t _ hk
theorem Qi.rk{W W':Wq}{b:Nat}{v:Vq}{l:List Tm}(h:Qi W b v l)(hk:qf W W'):Qi W' b v l:=h.kept (λk c _ hc=>hk k c _ (.inr (.inr rfl)) hc)
theorem qar.rk{W W':Wq}{aq aa:Nat}{v:Vq}{l:List Am}(h:qar W aq aa v l)(hk:qf W W'):qar W' aq aa v l:=h.kept (λk c _ hc=>hk k c _ (.inr (.inl rfl)) hc) (λk c _ hc=>hk k c _ (.inr (.inr rfl)) hc)
theorem qk8(c:Array Vq)(x y z:Vq)(hc:c=#[x,y,z])(hx:x.oneCell'=true)(hy:y.oneCell'=true)(hz:z.oneCell'=true)(w:Wq) :
  Cs 98 #[.agg c] w λe w'=>e=.returned (.func (.func 163) #[] #[.pointer (some ⟨w.heap.size,0,none⟩)])/\w'=w.alloc (.cells #[x,y,z] 136):=by
 subst hc;go_enter Tryz.func98,Tryz.ntmps98;go_wp2;go_ret;exact⟨rfl,rfl⟩
theorem qlu{α:Type}(f g:α->Vq)(l:List α)(i:Nat)(h:i < l.length):(l.flatMap λx=>[f x,g x])[i*2]?=some (f l[i])/\(l.flatMap λx=>[f x,g x])[i*2+1]?=some (g l[i]):=by
 induction l generalizing i with
 | nil=>simp at h
 | cons a l ih=>
  cases i with
  | zero=>simp
  | succ i=>
   simp only[List.length_cons] at h;have:=ih i (by omega);simp only[List.flatMap_cons,List.cons_append,List.nil_append];rw[show (i+1)*2=i*2+2 by omega];exact this
theorem q0j(n:Nat)(hn:1<=n)(l B:Nat)(w0:Wq)(aa:Nat)(x0:AtX w0 aa)(L:List (AtX w0 aa))(hL:L.length<=1000)(a:Option Addr)(cap:Nat)(J Jx:List (AtX w0 aa)->Wq->Prop)(W:Wq)(hJ:AbidesFrom W.heap.size J)(hY:∀pre x W1,J pre W1->pre.length < (x0::L).length->YieldAt Fence.wide (n - 1) Tryz.prog l #[.agg #[.string x.1.1.rel,x.1.2]] W1 λe W'=>
   (e=.returned (.bool true)/\J (pre++[x]) W'/\qf W1 W')\/(e=.returned (.bool false)/\Jx (pre++[x]) W'))(hB:W.heap[B]?=cC #[.string x0.1.1.rel,x0.1.2,.slice a L.length cap] 136)(Qv:L≠[]->∃(g ab:Nat) (ac:Array Vq),a=some ⟨g,ab,none⟩/\W.heap[g]?=cC ac 92/\(ac.toList.drop ab).take (L.length*2)=L.flatMap λx=>[.string x.1.1.rel,x.1.2])(h0:J [] W) :
  CallsIn Fence.wide n Tryz.prog 163 #[.func (.yield l) #[] #[],.pointer (some ⟨B,0,none⟩)] W λe W'=>(∃v,e=.returned v)/\
   ((∃ys,ys=x0::L/\J ys W')\/(∃pre,pre <+: x0::L/\Jx pre W')):=by
 refine callsIn_of_wp Tryz.func163 rfl trivial ?_ rfl;simp only[Tryz.ntmps163,List.size_toArray,List.length_cons,List.length_nil,Nat.reduceAdd,Nat.reduceSub,Array.replicate_succ,Array.replicate_zero,List.push_toArray,List.append_toArray,List.nil_append,List.cons_append];have HY:Hid _:=hY;have HJ:Hid (AbidesFrom W.heap.size J):=hJ;have dq:W.cell? (Ad B 0)=some (.string x0.1.1.rel):=zc hB
 have c9:W.cell? (Ad B 1)=some x0.1.2:=zc hB
 have de:∃a' n' c',x0.1.2=.slice a' n' c':=by obtain⟨a',c',e⟩:=x0.2.1.form;exact⟨a',_,c',e⟩
 obtain⟨fn,tmps,assign,body,hy,hR⟩:=hY [] x0 W h0 (by simp);clear hY hJ;obtain⟨fa,et,fc,hf⟩:=de;rw[hf] at c9 hy
 gi_wp2
 refine hR.mono ?_;rintro e W1 (⟨rfl,df,cw⟩ | ⟨rfl,cg⟩)
 .have c5:=cw _ _ _ (.inl rfl) hB;have ea:W1.cell? (Ad B 2)=some (.slice a L.length cap):=zc c5
  clear hy hR dq c9
  gi_wp2
  gi_loopw [13] (λi wr=>∃k:Nat,k<=L.length/\i=.int .i64 k/\J (x0::L.take k) wr/\qf W wr) (λi _=>L.length - (intOf i).toNat)
  case atStart=>exact⟨0,zz,rfl,by simpa using df,cw⟩
  case round=>
   obtain⟨k,hk,rfl,a7,bc⟩:=hrel;by_cases am:k < L.length
   .obtain⟨g,ab,ac,rfl,hg,ak⟩:=Qv (by intro e;rw[e] at am;simp at am);have ct:=bc _ _ _ (.inr (.inl rfl)) hg;obtain⟨p0,p1⟩:=qlu (λx:AtX w0 aa=>Value.string x.1.1.rel) (λx=>x.1.2) L k am;rw[<- ak,List.getElem?_take,if_pos (by omega),List.getElem?_drop] at p0;rw[<- ak,List.getElem?_take,if_pos (by omega),List.getElem?_drop] at p1;have bd:x0::L.take (k+1)=(x0::L.take k)++[L[k]]:=by rw[List.take_succ_eq_append_getElem am];rfl
    have b7:Hid (x0::L.take (k+1)=(x0::L.take k)++[L[k]]):=bd;have ec:Hid ((x0::L.take k)++[L[k]] <+: x0::L):=by show _ <+: _;rw[<- bd];exact List.cons_prefix_cons.2 ⟨rfl,List.take_prefix _ _⟩
    clear bd;have af:(x0::L.take k).length < (x0::L).length:=by simp;omega
    generalize L[k]=xk at *;obtain⟨ca,b9,cm⟩:=xk.2.1.form;have q0:wr.cell? (Ad g (ab+k*2))=some (.string xk.1.1.rel):=by simp only[World.cell?,ct];simpa using p0
    have q1:wr.cell? (Ad g (ab+k*2+1))=some (.slice ca xk.1.1.args.length b9):=by simp only[World.cell?,ct];rw[<- cm];simpa [Nat.add_assoc] using p1
    have ai:Below wr.heap.size wr (wr.alloc (.cells #[.string xk.1.1.rel,.slice ca xk.1.1.args.length b9] 92)):=(Below.refl _ wr).alloc zl _;obtain⟨d9,bh,assign2,body2,bn,bj⟩:=HY.out (x0::L.take k) xk (wr.alloc (.cells #[.string xk.1.1.rel,.slice ca xk.1.1.args.length b9] 92)) (HJ.out _ _ _ none a7 (qi ai) (λr e=>by cases e)) af;rw[cm] at bn;clear p0 p1 ak cm hB Qv ea c5
    gi_wp2
    refine bj.mono ?_;rintro e W3 (⟨rfl,ck,a8⟩ | ⟨rfl,a6⟩)
    .clear bn bj
     gi_wp2
     go_roundw
     case rel=>exact⟨k+1,by omega,by go_num,by rw[b7.out];exact ck,(bc.trans (qf.ofBelow ai)).trans a8⟩
     case measure=>simp[intOf];omega
    .gi_wp2
     refine bodyPost_ret (results_none rfl _ _ _) rfl ?_;exact⟨⟨_,rfl⟩,.inr ⟨_,ec.out,a6⟩⟩
   .gi_wp2
    go_end0
    exact⟨⟨_,rfl⟩,.inl ⟨_,rfl,by rw[List.take_of_length_le (by omega)] at a7;exact a7⟩⟩
 .gi_wp2
  refine bodyPost_ret (results_none rfl _ _ _) rfl ?_;exact⟨⟨_,rfl⟩,.inr ⟨[x0],⟨L,rfl⟩,cg⟩⟩
theorem qiv(n:Nat)(hn:1<=n)(B:Nat)(w0:Wq)(aa:Nat)(x0:AtX w0 aa)(L:List (AtX w0 aa))(hL:L.length<=1000)(a:Option Addr)(cap:Nat)(w:Wq)(hB:w.heap[B]?=cC #[.string x0.1.1.rel,x0.1.2,.slice a L.length cap] 136)(Qv:L≠[]->∃(g ab:Nat) (ac:Array Vq),a=some ⟨g,ab,none⟩/\w.heap[g]?=cC ac 92/\(ac.toList.drop ab).take (L.length*2)=L.flatMap λx=>[.string x.1.1.rel,x.1.2]) :
  SeqStopsK Fence.wide n Tryz.prog 163 #[.pointer (some ⟨B,0,none⟩)] (λx:AtX w0 aa=>#[.agg #[.string x.1.1.rel,x.1.2]]) qf (λys=>ys=x0::L) (λpre=>pre <+: x0::L) (x0::L).length w:=
 λl J Jx W hW hJ _ hY h0=>q0j n hn l B w0 aa x0 L hL a cap J Jx W hJ hY (qf.ofBelow hW _ _ _ (.inl rfl) hB)
  (λav=>by obtain⟨g,ab,ac,h1,h2,h3⟩:=Qv av;exact⟨g,ab,ac,h1,qf.ofBelow hW _ _ _ (.inr (.inl rfl)) h2,h3⟩) h0
def qs4{α:Type}(n gf:Nat)(lb:Array Vq)(ah:α->Array Vq)(Kp:Wq->Wq->Prop)(S Sp:List α->Prop)(N:Nat)(w:Wq):Prop:=
 ∀(l:Nat) (J Jx:List α->Wq->Prop) (W:Wq),Below w.heap.size w W->w.heap.size+2<=W.heap.size->OwnFrom W.heap.size J->OwnFrom W.heap.size Jx->
  (∀pre x W1,J pre W1->pre.length < N->YieldAt Fence.wide (n - 1) Tryz.prog l (ah x) W1 λe W'=>
   (e=.returned (.bool true)/\J (pre++[x]) W'/\Kp W1 W')\/(e=.returned (.bool false)/\Jx (pre++[x]) W'/\KeepsFrom (w.heap.size+2) W1 W'))->
  J [] W->CallsIn Fence.wide n Tryz.prog gf (#[.func (.yield l) #[] #[]]++lb) W λe W'=>(∃v,e=.returned v)/\((∃xs,S xs/\J xs W')\/(∃pre,Sp pre/\Jx pre W'))
theorem KeepsFrom.tr{m:Nat}{A B C:Wq}(h:KeepsFrom m A B)(k:KeepsFrom m B C):KeepsFrom m A C:=⟨Nat.le_trans h.size k.size,λi o hi ho hc=>k.same i o hi (h.same i o hi ho hc) hc⟩
theorem KeepsFrom.up{m m':Nat}{A B:Wq}(h:KeepsFrom m A B)(hm:m<=m'):KeepsFrom m' A B:=⟨h.size,λi o hi ho hc=>h.same i o (by omega) ho hc⟩
theorem KeepsFrom.ofBelow{m:Nat}{W W':Wq}(h:Below W.heap.size W W'):KeepsFrom m W W':=⟨h.size,λk o _ hk _=>(h.block k (zg hk).1).trans hk⟩
theorem KeepsFrom.put{m:Nat}(W:Wq)(l:Nat)(o':Obj)(hl:l < m):KeepsFrom m W (W.putObj l o'):=
 ⟨(grownBy_putObj' W l o').size,λk x hk hx _=>((grownBy_putObj' W l o').block k (zg hx).1 (by simp;omega)).trans hx⟩
theorem qs4.ofStops{α:Type}{n gf:Nat}{lb:Array Vq}{ah:α->Array Vq}{Kp:Wq->Wq->Prop}{S Sp:List α->Prop}{N:Nat}{w:Wq}(h:SeqStopsK Fence.wide n Tryz.prog gf lb ah Kp S Sp N w):qs4 n gf lb ah Kp S Sp N w:=by
 intro l J Jx W hW _ hJ bt hY h0;refine h l J Jx W hW (λs A B row hs hg hr=>hJ s A B row hs hg (λr e=>?_)) (λs A B row hs hg hr=>bt s A B row hs hg (λr e=>?_)) (λpre x W1 h1 h2=>(hY pre x W1 h1 h2).mono (λe W' h=>h.imp id (λk=>⟨k.1,k.2.1⟩))) h0
 all_goals
  obtain⟨h1,o,ho,hw⟩:=hr r e;exact⟨h1,o,ho,Obj.not_cells_of_walk hw⟩
structure qev(I:Wq->Prop)(D:Nat)(rec:Loop)(W:Wq):Prop where
 inv:I W
 loop:W.heap[D+1]?=some (.loop rec)
 mark:W.heap[D]?=some (.deferred (some []))
theorem qev.own{β:Type}{I:β->Wq->Prop}{B D:Nat}{rec:β->Loop}(hI:OwnFrom B I)(hB:D+2<=B):OwnFrom B (λs=>qev (I s) D (rec s)):=by
 rintro s W W' row ⟨h1,h2,h3⟩ hg hr
 have hk:∀(k:Nat) (o:Obj),k < B->W.heap[k]?=some o->W'.heap[k]?=some o:=λk o hk ho=>
  (hg.block k (zg ho).1 (λe=>by have:=(hr k e.symm).1;omega)).trans ho
 exact⟨hI s W W' row h1 hg hr,hk _ _ (by omega) h2,hk _ _ (by omega) h3⟩
section
variable {α:Type} {n gf:Nat} {lb:Array Vq} {ah:α->Array Vq} {Kp:Wq->Wq->Prop} {S Sp:List α->Prop} {N:Nat}
theorem qhk{g:Operand}{ps:Array Tmp}{assign body:Code}{Q:Exit->Act->Wq->Prop}{a:Act}{w:Wq}(hg:a.eval g=.func (.func gf) #[] lb)(eg:∀args w,(callFunc gf args).run Tryz.prog w=.ok (.enter gf args) w)(cf:qs4 (n - 1) gf lb ah Kp S Sp N w)(cl:∀{A B C:Wq},Kp A B->Kp B C->Kp A C)(cr:∀(W:Wq) (o o':Obj),W.heap[w.heap.size+1]?=some o->o.isCells=false->Kp W (W.putObj (w.heap.size+1) o'))(d2:∀x,(ah x).size=ps.size)(I:List α->Wq->Prop)(Ix:Code->List α->Wq->Prop)(hI:OwnFrom w.heap.size I)(hIx:∀c,OwnFrom w.heap.size (Ix c))(h0:I [] w)(Ax:α->Act->Wq->Prop)(hAx:∀x a',OwnFrom w.heap.size (λ(_:Unit) W=>Ax x a' W))(aw:∀(l:Nat) (pre:List α) (x:α) (W:Wq) (K:Act->Wq->Prop),w.heap.size<=l->(∃r,W.heap[l]?=some (.loop r))->I pre W->(∀a' W',KeepsFrom w.heap.size W W'->Kp W W'->I pre W'->Ax x a' W'->K a' W')->
   assign.wpIn (Fence.wide.inRound l) (n - 1 - 1) Tryz.prog (Exit.then K (λ_ _ _=>False)) {tmps:=(ps.zip (ah x)).foldl (λt (p,v)=>t.setIfInBounds p v) a.tmps,defers:=[]} W)(eh:∀(l:Nat) (pre:List α) (x:α) (a':Act) (W:Wq),w.heap.size<=l->(∃r,W.heap[l]?=some (.loop r))->I pre W->Ax x a' W->pre.length < N->body.wpIn (Fence.wide.inRound l) (n - 1 - 1) Tryz.prog (ownPostG w.heap.size Kp I Ix (pre++[x]) W) a' W)(ei:∀(D:Nat) (xs:List α) (W:Wq),w.heap.size<=D->S xs->I xs W->W.heap[D]?=some (.deferred (some []))->Q .normal {a with defers:={target:=.collected D,args:=#[]}::a.defers} W)(dy:∀(D:Nat) (c:Code) (pre:List α) (W:Wq),w.heap.size<=D->Sp pre->Ix c pre W->W.heap[D]?=some (.deferred (some []))->c.wpIn Fence.wide n Tryz.prog Q {a with defers:={target:=.collected D,args:=#[]}::a.defers} W) :
  (Code.rangeFunc g ps assign body).wpIn Fence.wide n Tryz.prog Q a w:=by
 refine wpIn_rangeFunc (λfn em=>?_)
 let rc:LoopState->Option Code->Loop:=λst pe=>{state:=st,pending:=pe,fn:=fn,tmps:=a.tmps,params:=ps,assign:=assign,body:=body,defers:=w.heap.size}
 let wA:=w.alloc (.deferred (some []))
 let wB:=wA.alloc (.loop (rc .ready none))
 have sA:wA.heap.size=w.heap.size+1:=by simp[wA]
 have sB:wB.heap.size=w.heap.size+2:=by simp[wB,wA]
 have gB:Below w.heap.size w wB:=((Below.refl _ w).alloc zl _).alloc (by simp) _
 have dc:qev (I []) w.heap.size (rc .ready none) wB:=by
  refine⟨hI _ _ _ none h0 (qi gB) (λr e=>by cases e),?_,?_⟩
  .have:=zn wA (.loop (rc .ready none));rw[sA] at this;exact this
  .exact (Below.heap_alloc wA _ _ (by omega)).trans (zn w _)
 have au:∀{I':Wq->Prop} {r:Loop} (r':Loop) {W:Wq},OwnFrom w.heap.size (λ(_:Unit)=>I')->qev I' w.heap.size r W->qev I' w.heap.size r' (W.putObj (w.heap.size+1) (.loop r')):=by
  intro I' r r' W ho hh;exact⟨ho.putObj (s:=()) _ hh.inv (by omega) hh.loop rfl,World.putObj_heap_same (zg hh.loop).1,(World.putObj_heap_other (by omega)).trans hh.mark⟩
 have oI:∀pre,OwnFrom w.heap.size (λ(_:Unit)=>I pre):=λpre _ A B row hs az hr=>hI pre A B row hs az hr;have oX:∀c pre,OwnFrom w.heap.size (λ(_:Unit)=>Ix c pre):=λc pre _ A B row hs az hr=>hIx c pre A B row hs az hr;have up:∀{β:Type} {X:β->Wq->Prop},OwnFrom w.heap.size X->OwnFrom wB.heap.size X:=λh s A B row hs az hr=>h s A B row hs az (λr e=>⟨by have:=(hr r e).1;omega,(hr r e).2⟩);have oJ:OwnFrom wB.heap.size (λpre=>qev (I pre) w.heap.size (rc .ready none)):=qev.own (up hI) (by omega)
 have dn:OwnFrom wB.heap.size (λpre W=>∃c,qev (Ix c pre) w.heap.size (rc .done (some c)) W):=by
  rintro pre A B row ⟨c,hc⟩ az hr;exact⟨c,qev.own (I:=λ_:Unit=>Ix c pre) (rec:=λ_=>rc .done (some c)) (up (oX c pre)) (by omega) () A B row hc az hr⟩
 refine⟨w.heap.size+1,[{target:=.collected w.heap.size,args:=#[]}],wB,{target:=.fn (.func gf) lb,args:=#[.func (.yield (w.heap.size+1)) #[] #[]]},wB,gf,#[.func (.yield (w.heap.size+1)) #[] #[]]++lb,wB,run_enterLoop_outer _ _ _ _ _,?_,λ_ _=>trivial,?_,(λh=>(by cases h)),?_⟩
 .simp only[resolve,hg];simp[go_sem]
 .simp[invoke,go_sem,eg]
 refine (cf (w.heap.size+1) (λpre=>qev (I pre) w.heap.size (rc .ready none)) (λpre W=>∃c,qev (Ix c pre) w.heap.size (rc .done (some c)) W) wB gB (by omega) oJ dn ?_ dc).mono ?_
 .intro pre x W hh af;have hy:=run_yield (P:=Tryz.prog) (args:=ah x) hh.loop (d2 x);refine⟨fn,_,assign,body,hy,roundIn_of_wpIn trivial (aw _ pre x W _ (by omega) ⟨_,hh.loop⟩ hh.inv ?_)⟩;intro a' Wa kA dx iA di;have b3:qev (I pre) w.heap.size (rc .ready none) Wa:=⟨iA,kA.same _ _ (by omega) hh.loop rfl,kA.same _ _ zl hh.mark rfl⟩;refine⟨_,run_beginRound b3.loop rfl,?_⟩;have b5:=au {rc .ready none with state:=.busy} (oI pre) b3;have d1:=cr Wa _ (.loop {rc .ready none with state:=.busy}) b3.loop rfl;refine wpIn_mono (eh _ pre x a' _ (by omega) ⟨_,b5.loop⟩ b5.inv ((hAx x a').putObj (s:=()) _ di (by omega) b3.loop rfl) af) ?_;intro e a3 W3 hp
  have done:∀(an:Option Code) {I':Wq->Prop},OwnFrom w.heap.size (λ(_:Unit)=>I')->KeepsFrom w.heap.size (Wa.putObj (w.heap.size+1) (.loop {rc .ready none with state:=.busy})) W3->I' W3->
    ∃W4,(Instr.endRound (w.heap.size+1) an).run Tryz.prog W3=.ok (.bool an.isNone) W4/\qev I' w.heap.size (rc (if an.isNone then .ready else .done) an) W4/\Kp W3 W4/\KeepsFrom (w.heap.size+2) W W4:=by
   intro an I' ho kf i3;have h3:qev I' w.heap.size {rc .ready none with state:=.busy} W3:=⟨i3,kf.same _ _ (by omega) b5.loop rfl,kf.same _ _ zl b5.mark rfl⟩;exact⟨_,run_endRound an h3.loop,au _ ho h3,cr _ _ _ h3.loop rfl,KeepsFrom.tr (KeepsFrom.tr (KeepsFrom.tr (KeepsFrom.up kA (by omega)) (KeepsFrom.put _ _ _ (by omega))) (KeepsFrom.up kf (by omega))) (KeepsFrom.put _ _ _ (by omega))⟩
  cases e with
  | normal=>
   obtain⟨kf,kp,i3⟩:=hp;obtain⟨W4,hr,h4,k4,_⟩:=done none (oI _) kf i3;exact⟨_,_,hr,.inl ⟨rfl,h4,cl dx (cl d1 (cl kp k4))⟩⟩
  | ret=>
   obtain⟨kf,i3⟩:=hp;obtain⟨W4,hr,h4,_,k4⟩:=done (some .ret) (oX _ _) kf i3;exact⟨_,_,hr,.inr ⟨rfl,⟨_,h4⟩,k4⟩⟩
  | exit id=>
   obtain⟨kf,i3⟩:=hp;obtain⟨W4,hr,h4,_,k4⟩:=done (some (.exit id)) (oX _ _) kf i3;exact⟨_,_,hr,.inr ⟨rfl,⟨_,h4⟩,k4⟩⟩
  | goto t=>
   obtain⟨kf,i3⟩:=hp;obtain⟨W4,hr,h4,_,k4⟩:=done (some (.goto t)) (oX _ _) kf i3;exact⟨_,_,hr,.inr ⟨rfl,⟨_,h4⟩,k4⟩⟩
  | panic ch=>exact hp.elim
  | outgrown=>exact hp.elim
 .rintro e W2 ⟨⟨v,rfl⟩,(⟨xs,hS,hh⟩ | ⟨pre,dh,c,hh⟩)⟩
  .have h2:=au {rc .ready none with state:=.exhausted} (oI xs) hh;exact⟨none,_,run_endLoop hh.loop (by intro h;cases h),ei _ xs _ zl hS h2.inv h2.mark⟩
  .have h2:=au {rc .done (some c) with state:=.exhausted} (oX c pre) hh;exact⟨some c,_,run_endLoop hh.loop (by intro h;cases h),dy _ c pre _ zl dh h2.inv h2.mark⟩
end
attribute [local go_sem] Oper.semAt_some
structure qab(m:Nat)(W W':Wq):Prop where
 rule:qf W W'
 func:∀(k:Nat) (c:Array Vq),W.heap[k]?=cC c 259->W'.heap[k]?=cC c 259
 from':KeepsFrom m W W'
theorem qab.tr{m:Nat}{A B C:Wq}(h:qab m A B)(k:qab m B C):qab m A C:=⟨h.rule.trans k.rule,λi c hi=>k.func i c (h.func i c hi),KeepsFrom.tr h.from' k.from'⟩
theorem qab.ofBelow{m:Nat}{W W':Wq}(h:Below W.heap.size W W'):qab m W W':=⟨qf.ofBelow h,λk c hk=>(h.block k (zg hk).1).trans hk,KeepsFrom.ofBelow h⟩
theorem qab.put{m:Nat}(W:Wq)(l:Nat)(o o':Obj)(hl:l < m)(h:W.heap[l]?=some o)(ho:o.isCells=false):qab m W (W.putObj l o'):=
 ⟨qf.put W l o o' h ho,λk c hk=>qj (grownBy_putObj' W l o') (λr e=>by cases e;exact⟨_,h,ho⟩) k c _ _ hk,
  (grownBy_putObj' W l o').size,λk x hk hx _=>((grownBy_putObj' W l o').block k (zg hx).1 (by simp;omega)).trans hx⟩
theorem qe3{n m l l':Nat}{f:FuncId}{tmps:Array Vq}{assign body:Code}{w:Wq}{R:Ending->Wq->Prop}(h:RoundIn Fence.wide n Tryz.prog l f tmps assign body w R):RoundIn (Fence.wide.inRound l') m Tryz.prog l f tmps assign body w R:=
 ⟨h.1,λc cs _=>h.2 c cs (room_wide _)⟩
theorem qnf(c:Array Vq)(x y z:Vq)(hc:c=#[x,y,z])(w:Wq) :
  Cs 77 #[.agg c] w λe w'=>e=.returned (.func (.func 141) #[] #[.pointer (some ⟨w.heap.size,0,none⟩)])/\w'=w.alloc (.cells #[x,y,z] 136):=by
 subst hc;go_enter Tryz.func77,Tryz.ntmps77;go_wp2;go_ret;exact⟨rfl,rfl⟩
theorem qwm{w0:Wq}{b:Nat}(L:List (AtX w0 b)):(L.flatMap (·.1.1.args)).length<=L.length*2:=by
 induction L with
 | nil=>simp
 | cons x L ih=>have:=x.2.2.args;simp at ih ⊢;omega
def qaq{w0:Wq}{b:Nat}(L:List (AtX w0 b)):List Tm:=L.flatMap (·.1.1.args)
theorem q28(n:Nat)(hn:4<=n)(B:Nat)(w0:Wq)(aa:Nat)(x0:AtX w0 aa)(L:List (AtX w0 aa))(hL:L.length<=1000)(a:Option Addr)(cap:Nat)(w:Wq)(cv:qf w0 w)(hB:w.heap[B]?=cC #[.string x0.1.1.rel,x0.1.2,.slice a L.length cap] 136)(Qv:L≠[]->∃(g ab:Nat) (ac:Array Vq),a=some ⟨g,ab,none⟩/\w.heap[g]?=cC ac 92/\(ac.toList.drop ab).take (L.length*2)=L.flatMap λx=>[.string x.1.1.rel,x.1.2]) :
  qs4 n 141 #[.pointer (some ⟨B,0,none⟩)] (λt:Tm=>#[.agg #[.string t.name,.int .i64 t.num]]) (qab (w.heap.size+2)) (λys=>ys=qaq (x0::L)) (λpre=>pre <+: qaq (x0::L)) ((L.length+1)*2) w:=by
 intro l J Jx W hW el hJ bt hY h0;generalize w.heap.size+2=m at el hY;have b0:=qf.ofBelow hW _ _ _ (.inl rfl) hB
 have Qej:L≠[]->∃(g ab:Nat) (ac:Array Vq),a=some ⟨g,ab,none⟩/\W.heap[g]?=cC ac 92/\(ac.toList.drop ab).take (L.length*2)=L.flatMap λx=>[.string x.1.1.rel,x.1.2]:=λav=>by
  obtain⟨g,ab,ac,h1,h2,h3⟩:=Qv av;exact⟨g,ab,ac,h1,qf.ofBelow hW _ _ _ (.inr (.inl rfl)) h2,h3⟩
 have Qgo:qf w0 W:=cv.trans (qf.ofBelow hW);clear hB Qv cv hW w;obtain⟨fa,fc,hf⟩:=x0.2.1.form;refine callsIn_of_wp_marks Tryz.func141 rfl trivial ?_ rfl;simp only[Tryz.ntmps141,List.size_toArray,List.length_cons,List.length_nil,Nat.reduceAdd,Nat.reduceSub,Array.replicate_succ,Array.replicate_zero,List.push_toArray,List.append_toArray,List.nil_append,List.cons_append];have Qc4:B < W.heap.size:=(zg b0).1;have c0:W.cell? (Ad B 0)=some (.string x0.1.1.rel):=zc b0
 have c1:W.cell? (Ad B 1)=some (.slice fa x0.1.1.args.length fc):=by simp[World.cell?,b0,hf]
 have c2:W.cell? (Ad B 2)=some (.slice a L.length cap):=zc b0
 have n1:1<=n:=by omega
 have n2:1<=n - 1:=by omega
 have n3:1<=n - 1 - 1:=by omega
 have HY:Hid _:=hY;have HJ:Hid (OwnFrom W.heap.size J):=hJ;have HJx:Hid (OwnFrom W.heap.size Jx):=bt;clear hY hJ bt
 gi_wp2_with (refine⟨trivial,?_⟩;gi_at_call 98;refine (callsIn_wide.2 (qk8 _ _ _ _ rfl rfl rfl rfl _)).mono ?_;rintro e w' ⟨rfl,rfl⟩)
 obtain⟨NB,bq⟩:∃NB,W.heap.size=NB:=⟨_,rfl⟩;obtain⟨W0,al⟩:∃W0,(W.alloc (.cells #[.func (.yield l) #[] #[]] 259)).alloc (.cells #[.string x0.1.1.rel,.slice fa x0.1.1.args.length fc,.slice a L.length cap] 136)=W0:=⟨_,rfl⟩;have ax:Below W.heap.size W W0:=by rw[<- al];exact ((Below.refl _ W).alloc zl _).alloc (by simp) _
 have dm:W0.heap.size=NB+2:=by rw[<- al,<- bq];simp
 have bY:W0.heap[NB]?=cC #[.func (.yield l) #[] #[]] 259:=by
  rw[<- al,<- bq];exact (Below.heap_alloc _ _ _ (by simp)).trans (zn W _)
 have bR:W0.heap[NB+1]?=cC #[.string x0.1.1.rel,x0.1.2,.slice a L.length cap] 136:=by
  rw[<- al,<- bq,hf];have:=zn (W.alloc (.cells #[.func (.yield l) #[] #[]] 259)) (.cells #[.string x0.1.1.rel,.slice fa x0.1.1.args.length fc,.slice a L.length cap] 136);rw[World.size_alloc] at this;exact this
 have cd:L≠[]->∃(g ab:Nat) (ac:Array Vq),a=some ⟨g,ab,none⟩/\W0.heap[g]?=cC ac 92/\(ac.toList.drop ab).take (L.length*2)=L.flatMap λx=>[.string x.1.1.rel,x.1.2]:=λav=>by
  obtain⟨g,ab,ac,h1,h2,h3⟩:=Qej av;exact⟨g,ab,ac,h1,qf.ofBelow ax _ _ _ (.inr (.inl rfl)) h2,h3⟩
 have Qgp:qf w0 W0:=Qgo.trans (qf.ofBelow ax);have dt:J [] W0:=HJ.out _ _ _ none h0 (qi ax) (λr e=>by cases e);simp only[bq];rw[al];clear al
 refine qhk (n:=n) (gf:=163) (lb:=#[.pointer (some ⟨NB+1,0,none⟩)]) rfl (enters_of Tryz.func163 (by kernel_rfl) rfl)
  (qs4.ofStops (qiv (n - 1) n2 (NB+1) w0 aa x0 L hL a cap W0 bR cd)) qf.trans (λV o o' ho hc=>qf.put V _ o o' ho hc) (λ_=>rfl)
  (λpre V=>J (qaq pre) V/\V.heap[NB]?=cC #[.func (.yield l) #[] #[]] 259/\qf w0 V)
  (λc pre V=>c=.ret/\∃(aj:List (AtX w0 aa)) (x:AtX w0 aa) (k:Nat),pre=aj++[x]/\Jx (qaq aj++x.1.1.args.take k) V)
  ?hI ?hIx ⟨dt,bY,Qgp⟩
  (λx a' V=>∃Bx,V.heap[Bx]?=cC #[.string x.1.1.rel,x.1.2] 92/\a'={tmps:=#[.func (.yield l) #[] #[],.pointer (some ⟨B,0,none⟩),.pointer (some ⟨NB,0,none⟩),.pointer (some ⟨Bx,0,none⟩),undef,undef,.agg #[.string x0.1.1.rel,.slice fa x0.1.1.args.length fc,.slice a L.length cap],.func (.func 163) #[] #[.pointer (some ⟨NB+1,0,none⟩)],.agg #[.string x.1.1.rel,x.1.2],undef,undef,undef,undef,undef,undef,undef,undef,undef,undef,undef,undef],defers:=[]})
  ?hAx ?assign ?body ?done ?stop
 case hI=>
  rintro pre V V' row ⟨h1,h2,h3⟩ hg hr;have hk:=qj hg (λr e=>(hr r e).2);exact⟨HJ.out _ _ _ row h1 hg (λr e=>⟨by have:=(hr r e).1;omega,(hr r e).2⟩),hk _ _ _ _ h2,h3.trans (λk c t _ hc=>hk k c t _ hc)⟩
 case hIx=>
  rintro c pre V V' row ⟨rfl,aj,x,k,h1,h2⟩ hg hr;exact⟨rfl,aj,x,k,h1,HJx.out _ _ _ row h2 hg (λr e=>⟨by have:=(hr r e).1;omega,(hr r e).2⟩)⟩
 case hAx=>
  rintro x a' _ V V' row ⟨Bx,h2,h3⟩ hg hr;exact⟨Bx,qj hg (λr e=>(hr r e).2) _ _ _ _ h2,h3⟩
 case assign=>
  rintro l' pre x V K hl dg ⟨h1,h2,h3⟩ hK;have HK:Hid _:=hK;clear hK;obtain⟨ga,gc,ay⟩:=x.2.1.form;simp only[ay]
  gi_wp2
  have ai:Below V.heap.size V (V.alloc (.cells #[.string x.1.1.rel,.slice ga x.1.1.args.length gc] 92)):=(Below.refl _ V).alloc zl _;exact HK.out _ _ (KeepsFrom.ofBelow ai) (qf.ofBelow ai) ⟨HJ.out _ _ _ none h1 (qi ai) (λr e=>by cases e),(ai.block NB (zg h2).1).trans h2,h3.trans (qf.ofBelow ai)⟩ ⟨V.heap.size,by rw[ay];exact zn V _,by rw[ay]⟩
 case body=>
  rintro l' pre x a' V dd ⟨r,hr⟩ ⟨dr,dz,db⟩ ⟨Bx,bb,rfl⟩ am;obtain⟨ga,gc,ay⟩:=x.2.1.form;have en:=x.2.2.args;have cz:=x.2.1;have dv:=qwm pre;generalize qi1:x.1.1.args=args at *;have ez:V.cell? (Ad Bx 0)=some (.string x.1.1.rel):=zc bb
  have es:V.cell? (Ad Bx 1)=some (.slice ga args.length gc):=by simp[World.cell?,bb,ay]
  have HX:Hid (x.1.1.args=args):=qi1;have HN:Hid (pre.length < (x0::L).length):=am;clear qi1 am
  gi_wp2
  gi_loopw [12] (λi V'=>∃k:Nat,k<=args.length/\i=.int .i64 k/\J (qaq pre++args.take k) V'/\V'.heap[NB]?=some (Obj.cells #[.func (.yield l) #[] #[]] 259)/\qf w0 V'/\qf V V'/\KeepsFrom W0.heap.size V V')
   (λi _=>args.length - (intOf i).toNat)
  case atStart=>exact⟨0,zz,rfl,by simpa using dr,dz,db,qf.refl V,KeepsFrom.refl _ V⟩
  case round=>
   obtain⟨k,hk,rfl,a7,b4,bc,c6,cj⟩:=hrel;by_cases am:k < args.length
   .have ej:=cz.rk bc;obtain⟨e0,_⟩ | ⟨g,cp,ac,hv,ew,b8,cx⟩:=ej
    .rw[e0] at am;simp at am
    rw[ay] at hv;cases hv;obtain⟨p0,p1⟩:=qlu (λt:Tm=>Value.string t.name) (λt=>Value.int .i64 t.num) args k am;have ci:ac.toList.take (args.length*2)=args.flatMap λt=>[Value.string t.name,Value.int .i64 t.num]:=cx;rw[<- ci,List.getElem?_take,if_pos (by omega)] at p0;rw[<- ci,List.getElem?_take,if_pos (by omega)] at p1;have bd:qaq pre++args.take (k+1)=(qaq pre++args.take k)++[args[k]]:=by rw[List.take_succ_eq_append_getElem am,List.append_assoc]
    have b7:Hid (qaq pre++args.take (k+1)=(qaq pre++args.take k)++[args[k]]):=bd;clear bd
    have af:(qaq pre++args.take k).length < (L.length+1)*2:=by
     have:=HN.out;have h2:(qaq pre).length<=pre.length*2:=dv;simp at this ⊢;omega
    generalize args[k]=tk at *;have q0:wr.cell? (Ad g (k*2))=some (.string tk.name):=by simp only[World.cell?,b8];simpa using p0
    have q1:wr.cell? (Ad g (k*2+1))=some (.int .i64 tk.num):=by simp only[World.cell?,b8];simpa using p1
    have cY:wr.cell? (Ad NB 0)=some (.func (.yield l) #[] #[]):=zc b4
    have ai:Below wr.heap.size wr (wr.alloc (.cells #[.string tk.name,.int .i64 tk.num] 166)):=(Below.refl _ wr).alloc zl _;have Qc6:NB < wr.heap.size:=(zg b4).1;obtain⟨d9,bh,assign2,body2,bn,bj⟩:=HY.out (qaq pre++args.take k) tk (wr.alloc (.cells #[.string tk.name,.int .i64 tk.num] 166)) (HJ.out _ _ _ none a7 (qi ai) (λr e=>by cases e)) af;clear p0 p1 cx ci b8 ay cz
    gi_wp2
    refine (qe3 bj).mono ?_;rintro e V3 (⟨rfl,ck,a8⟩ | ⟨rfl,a6,co⟩)
    .clear bn bj;have dj:=a8.func NB _ ((ai.block NB Qc6).trans b4)
     gi_wp2
     go_roundw
     case rel=>exact⟨k+1,by omega,by go_num,by rw[b7.out];exact ck,dj,(bc.trans (qf.ofBelow ai)).trans a8.rule,(c6.trans (qf.ofBelow ai)).trans a8.rule,KeepsFrom.tr (KeepsFrom.tr cj (KeepsFrom.ofBelow ai)) (KeepsFrom.up a8.from' (by omega))⟩
     case measure=>simp[intOf];omega
    .gi_wp2
     refine⟨KeepsFrom.tr (KeepsFrom.tr cj (KeepsFrom.ofBelow ai)) (KeepsFrom.up co (by omega)),rfl,pre,x,k+1,rfl,?_⟩;rw[HX.out,b7.out];exact a6
   .gi_wp2
    refine⟨cj,c6,?_,b4,bc⟩;have:qaq (pre++[x])=qaq pre++args:=by unfold qaq;simp[HX.out]
    rw[this];rw[List.take_of_length_le (by omega)] at a7;exact a7
 case done=>
  rintro D xs V hD rfl ⟨h1,h2,h3⟩ hK
  gi_wp2
  refine⟨by simp,.inl ⟨_,_,rfl,run_takeDeferred hK,?_⟩⟩;exact⟨_,results_none rfl _ _ _,⟨_,rfl⟩,.inl ⟨_,rfl,HJ.out _ _ _ (some D) h1 (grownBy_putObj' _ _ _) (λr e=>by cases e;exact⟨by omega,_,hK,rfl⟩)⟩⟩
 case stop=>
  rintro D c pre V hD hp ⟨rfl,aj,x,k,rfl,h2⟩ hK
  have h1:qaq aj++x.1.1.args.take k <+: qaq (x0::L):=by
   obtain⟨tl,d4⟩:=hp;refine List.IsPrefix.trans ?_ (⟨qaq tl,by unfold qaq;rw[<- d4];simp⟩:qaq (aj++[x]) <+: qaq (x0::L));unfold qaq;simp only[List.flatMap_append,List.flatMap_cons,List.flatMap_nil,List.append_nil];exact List.prefix_append_right_inj _ |>.2 (List.take_prefix _ _)
  gi_wp2
  refine⟨by simp,.inl ⟨_,_,rfl,run_takeDeferred hK,?_⟩⟩;exact⟨_,results_none rfl _ _ _,⟨_,rfl⟩,.inr ⟨_,h1,HJx.out _ _ _ (some D) h2 (grownBy_putObj' _ _ _) (λr e=>by cases e;exact⟨by omega,_,hK,rfl⟩)⟩⟩
end Go.Proofs.YtjajnhemgphefaaGreatDoor
namespace Go.Proofs.YtjajnhemgphefaaGreatDoor
open Go renaming World->Wq,Value->Vq
def qcw(ag:List Am)(l:List UInt8):Option Nat:=(ag.find? (λa=>a.rel.data.toList == l)).map (·.args.length)
def qhb(ag:List Am)(a:Am):Bool:=match qcw ag a.rel.data.toList with | some n=>n == a.args.length | none=>true
def qdu:List Am->List Am->Option (List Am)
 | ag,[]=>some ag
 | ag,a::l=>if qhb ag a=true then qdu (ag++[a]) l else none
def qah:List Am->Nat->List Rl->Int
 | _,_,[]=>-1
 | ag,i,r::rs=>match qdu ag (r.head::r.body) with
  | none=>i
  | some s=>qah s (i+1) rs
def qzy(x:By)(xb:Nat)(t:Tm):Bool:=x.toList == t.name.toList && xb == t.num
def qka(l:List Tm)(x:By)(xb:Nat):Bool:=l.any (qzy x xb)
def qgk(r:Rl)(x:By)(xb:Nat):Bool:=r.body.any (λa=>qka a.args x xb)
def qdd(r:Rl)(t:Tm):Bool:=t.name.toList.isEmpty && !qgk r t.name t.num
def qdm(r:Rl):Bool:=r.head.args.any (qdd r)
def qcu(p:Rl->Bool):Nat->List Rl->Int
 | _,[]=>-1
 | i,r::rs=>if p r=true then i else qcu p (i+1) rs
def qci(rs:List Rl):Int:=qcu qdm 0 rs
def qa2:List By->Nat->List Rl->Int
 | _,_,[]=>-1
 | ns,i,r::rs=>if 8 < (nmL ns (Qp (qx r))).length then i else qa2 (nmL ns (Qp (qx r))) (i+1) rs
def qdk(rs:List Rl):Int×Int:=
 if 0<=qah [] 0 rs then (4,qah [] 0 rs)
 else if 0<=qci rs then (5,qci rs)
 else if 0<=qa2 [] 0 rs then (3,qa2 [] 0 rs)
 else (0,0)
end Go.Proofs.YtjajnhemgphefaaGreatDoor
namespace Go.Proofs.YtjajnhemgphefaaGreatDoor
open Go renaming World->Wq,Value->Vq
open Go.RowKit Go.Shelf
attribute [local go_sem] Oper.semAt_some
variable {W' W:Wq} {aq aa:Nat} {r:Rl} {v0 vb:Vq}
theorem qz.ofBelow{B:Nat}{a b:Wq}(h:Below a.heap.size a b):qz B a b:=⟨h.os,h.tape,h.output,h.size,λk hk _=>h.block k hk⟩
theorem q1r(vs:List By)(t:Tm):(qaw vs t).length<=vs.length+1:=by
 unfold qaw;split
 .omega
 .exact qwh _ _
theorem qv3(vs:List By)(l:List Tm)(t:Tm):nmL vs (l++[t])=qaw (nmL vs l) t:=by simp[nmL]
theorem q5n(l:List Tm):∀(vs:List By),(nmL vs l).length<=vs.length+l.length:=by
 induction l with
 | nil=>intro vs;simp[nmL]
 | cons t l ih=>
  intro vs;have h1:=ih (qaw vs t);have h2:=q1r vs t;simp only[nmL,List.foldl_cons,List.length_cons] at h1 ⊢;omega
theorem qkj(vs:List By)(x:By):Lib.containsS vs x=decide (Qx vs x < vs.length):=by
 have h1:=Lib.containsS_iff vs x;have h2:=Lib.idxOfS_nonneg_iff vs x;rcases qvo vs x with⟨h3,h4⟩ | ⟨h3,h4⟩
 .have:¬x∈vs:=λh=>by have:=h2.2 h;omega
  have hc:Lib.containsS vs x=false:=by
   cases hh:Lib.containsS vs x with
   | false=>rfl
   | true=>exact absurd (h1.1 hh) this
  rw[hc,h4];simp
 .have:x∈vs:=h2.1 (by omega);rw[h1.2 this];simp[h4]
theorem qn6{m:Nat}{V:Wq}{ex:Nat->Prop}(h:Chg V W' ex)(hx:∀k,k < V.heap.size->ex k->∃(c:Array Vq) (t:TypeId),V.heap[k]?=cC c t/\t≠136/\t≠92/\t≠166/\t≠259):KeepsFrom m V W'/\∀m',qab m' V W':=by
 have hk:∀da,KeepsFrom da V W':=λda=>⟨h.size,λk o _ hk ho=>by
  rw[h.block k (zg hk).1 (λe=>?_)]
  .exact hk
  .obtain⟨c,t,hc,_⟩:=hx k (zg hk).1 e
   rw[hk] at hc;cases hc;simp[Obj.isCells] at ho⟩
 refine⟨hk m,λm'=>⟨λk c t ht hc=>?_,λk c hc=>?_,hk m'⟩⟩
 .rw[h.block k (zg hc).1 (λe=>?_)]
  .exact hc
  .obtain⟨c',t',bi,a1,a2,a3,a4⟩:=hx k (zg hc).1 e;rw[hc] at bi;cases bi;rcases ht with h | h | h
   .exact a1 h
   .exact a2 h
   .exact a3 h
 .rw[h.block k (zg hc).1 (λe=>?_)]
  .exact hc
  .obtain⟨c',t',bi,a1,a2,a3,a4⟩:=hx k (zg hc).1 e;rw[hc] at bi;cases bi;exact a4 rfl
def qfb(W:Wq)(aq aa:Nat)(r:Rl)(v0 vb:Vq):Prop:=Qi W aa v0 r.head.args/\qar W aq aa vb r.body
def Qr(r:Rl):List Tm:=r.head.args++r.body.flatMap (·.args)
theorem qfb.rk(h:qfb W aq aa r v0 vb)(hk:qf W W'):qfb W' aq aa r v0 vb:=⟨h.1.rk hk,h.2.rk hk⟩
theorem qun:∀(ps:List (Am×Vq)),(∀p∈ps,Qi W aa p.2 p.1.args)->(∀p∈ps,qkr p.1)->∃L:List (AtX W aa),L.map (·.1)=ps
 | [],_,_=>⟨[],rfl⟩
 | p::ps,h,h2=>by
  obtain⟨L,hL⟩:=qun ps (λq hq=>h q (by simp[hq])) (λq hq=>h2 q (by simp[hq]));exact⟨⟨p,h p (by simp),h2 p (by simp)⟩::L,congrArg (λl=>p::l) hL⟩
theorem qqn(hv:qfb W aq aa r v0 vb)(be:qch r) :
  ∃(x0:AtX W aa) (L:List (AtX W aa)) (a:Option Addr) (cap:Nat),x0.1=(r.head,v0)/\L.map (·.1.1)=r.body/\vb=.slice a L.length cap/\L.length<=3/\
   (L≠[]->∃(g ab:Nat) (ac:Array Vq),a=some ⟨g,ab,none⟩/\W.heap[g]?=cC ac 92/\(ac.toList.drop ab).take (L.length*2)=L.flatMap λx=>[.string x.1.1.rel,x.1.2]):=by
 obtain⟨h1,ps,a,cap,e1,e2,e3,e4⟩:=hv;obtain⟨L,hL⟩:=qun ps e3.1 (λp hp=>be.ams _ (by rw[<- e1];exact List.mem_map_of_mem hp));have c4:L.map (·.1.1)=r.body:=by rw[<- e1,<- hL,List.map_map];rfl
 have af:L.length=r.body.length:=by rw[<- c4];simp
 refine⟨⟨(r.head,v0),h1,be.head⟩,L,a,cap,rfl,c4,by rw[af];exact e2,by have:=be.body;omega,λav=>?_⟩;obtain⟨g,ab,ac,k1,k2,k3,k4⟩:=e4 (by intro e;rw[e] at af;exact av (List.eq_nil_of_length_eq_zero af));refine⟨g,ab,ac,k1,k3,?_⟩;rw[af,k4,<- hL,List.flatMap_map];rfl
theorem qt9{W:Wq}{aa:Nat}{x0:AtX W aa}{L:List (AtX W aa)}(h0:x0.1=(r.head,v0))(hL:L.map (·.1.1)=r.body):qaq (x0::L)=Qr r:=by
 unfold qaq Qr;rw[<- hL,List.flatMap_map,List.flatMap_cons,h0]
theorem qrr(r:Rl):Qr r=Qp (qx r):=by unfold Qr Qp qx;simp
theorem qlm(r:Rl)(v0 vb v:Vq)(vs:List By)(ad aq aa B:Nat)(w:Wq)(be:qch r)(hv:qfb w aq aa r v0 vb)(hB:w.heap[B]?=cC #[.string r.head.rel,v0,vb] 136)(qq:w.ownsRow ad 9 1 v vs.length (vs.map Value.string))(eo:ad<=w.heap.size)(ev:vs.length<=900) :
  Cs 76 #[v,.func (.func 141) #[] #[.pointer (some ⟨B,0,none⟩)]] w λe w'=>∃v',e=.returned v'/\w'.ownsRow ad 9 1 v' (nmL vs (Qr r)).length ((nmL vs (Qr r)).map Value.string)/\qz ad w w':=by
 obtain⟨x0,L,a,cap,bv,hL,rfl,ep,Qv⟩:=qqn hv be;have c7:=qt9 bv hL;rw[<- c7];have cu:r.head.rel=x0.1.1.rel:=by rw[bv]
 have c8:v0=x0.1.2:=by rw[bv]
 rw[cu,c8] at hB;clear c7 cu c8 bv hL hv be;obtain⟨b6,bo,d3⟩:=qo qq;obtain⟨N,hN⟩:∃N,w.heap.size=N:=⟨_,rfl⟩;obtain⟨i0,hi,ee,dp,du⟩:=info_parts Tryz.info9;have Qc4:B < w.heap.size:=(zg hB).1;rw[d3] at qq ⊢;refine (callsIn_wide (n:=8)).1 ?_;refine callsIn_of_wp_marks Tryz.func76 rfl trivial ?_ rfl;simp only[Tryz.ntmps76,List.size_toArray,List.length_cons,List.length_nil,Nat.reduceAdd,Nat.reduceSub,Array.replicate_succ,Array.replicate_zero,List.push_toArray,List.append_toArray,List.nil_append,List.cons_append]
 gi_wp2
 obtain⟨W0,al⟩:∃W0,w.alloc (.cells #[.slice b6 vs.length bo] 22)=W0:=⟨_,rfl⟩;have ax:Below w.heap.size w W0:=by rw[<- al];exact (Below.refl _ w).alloc zl _
 have dm:W0.heap.size=N+1:=by rw[<- al,<- hN];simp
 have bV:Boxed W0 N 22 (.slice b6 vs.length bo):=by
  have:=Boxed.new w 22 (.slice b6 vs.length bo);rw[hN,al] at this;exact this
 have bR:W0.heap[B]?=cC #[.string x0.1.1.rel,x0.1.2,.slice a L.length cap] 136:=(ax.block B Qc4).trans hB
 have cd:L≠[]->∃(g ab:Nat) (ac:Array Vq),a=some ⟨g,ab,none⟩/\W0.heap[g]?=cC ac 92/\(ac.toList.drop ab).take (L.length*2)=L.flatMap λx=>[.string x.1.1.rel,x.1.2]:=λav=>by
  obtain⟨g,ab,ac,h1,h2,h3⟩:=Qv av;exact⟨g,ab,ac,h1,qf.ofBelow ax _ _ _ (.inr (.inl rfl)) h2,h3⟩
 have dw:=qk qq ax;have Qbo:qz ad w W0:=by rw[<- al];exact (qz.refl ad w).alloc _
 (try simp only[hN])
 rw[al];clear al Qv hB
 refine qhk (n:=8) (gf:=141) (lb:=#[.pointer (some ⟨B,0,none⟩)]) rfl (enters_of Tryz.func141 (by kernel_rfl) rfl)
  (q28 7 (by decide) B w aa x0 L (by omega) a cap W0 (qf.ofBelow ax) bR cd) qab.tr (λV o o' ho hc=>qab.put V _ o o' (by omega) ho hc) (λ_=>rfl)
  (λpre V=>∃v,Boxed V N 22 v/\V.ownsRow ad 9 1 v (nmL vs pre).length ((nmL vs pre).map Value.string)/\qz ad w V)
  (λ_ _ _=>False)
  ?hI (λ_ _ _ _ _ h _ _=>h) ⟨_,bV,dw,Qbo⟩
  (λt a' V=>∃Bx,V.heap[Bx]?=cC #[.string t.name,.int .i64 t.num] 166/\a'={tmps:=#[.slice b6 vs.length bo,.func (.func 141) #[] #[.pointer (some ⟨B,0,none⟩)],.pointer (some ⟨N,0,none⟩),undef,.slice none 0 0,.pointer (some ⟨Bx,0,none⟩),.func (.func 141) #[] #[.pointer (some ⟨B,0,none⟩)],.agg #[.string t.name,.int .i64 t.num],undef,undef,undef,undef,undef,undef,undef,undef,undef,undef,undef,undef,undef,undef,undef,undef],defers:=[]})
  ?hAx ?assign ?body ?done (λ_ _ _ _ _ _ h _=>h.elim)
 case hI=>
  rintro pre V V' row ⟨v,h1,h2,h3⟩ hg hr;have hk:=qj hg (λr e=>(hr r e).2);exact⟨v,hk _ _ _ _ h1,q8 h2 (λg c _ hc=>hk g c _ _ hc),h3.grown hg (λk e=>.inl (by have:=(hr k e).1;omega))⟩
 case hAx=>
  rintro x a' _ V V' row ⟨Bx,h2,h3⟩ hg hr;exact⟨Bx,qj hg (λr e=>(hr r e).2) _ _ _ _ h2,h3⟩
 case assign=>
  rintro l' pre t V K hl dg ⟨v,h1,h2,h3⟩ hK;have HK:Hid _:=hK;clear hK
  gi_wp2
  have ai:Below V.heap.size V (V.alloc (.cells #[.string t.name,.int .i64 t.num] 166)):=(Below.refl _ V).alloc zl _;exact HK.out _ _ (KeepsFrom.ofBelow ai) (qab.ofBelow ai) ⟨v,h1.alloc _,h2.alloc _,h3.alloc _⟩ ⟨V.heap.size,zn V _,rfl⟩
 case done=>
  rintro D xs V hD rfl ⟨v,h1,h2,h3⟩ hK;have c1:=h1.cell
  gi_wp2
  refine⟨by simp,.inl ⟨_,_,rfl,run_takeDeferred hK,?_⟩⟩;have hk:=qj (grownBy_putObj' V D (.deferred none)) (λr e=>by cases e;exact⟨_,hK,rfl⟩);refine⟨_,results_tmp rfl _ _ _,v,rfl,q8 h2 (λg c _ hc=>hk g c _ _ hc),?_⟩;exact h3.grown (grownBy_putObj' V D (.deferred none)) (λk e=>.inl (by cases e;omega))
 case body=>
  rintro l' pre t a' V dd ⟨r,hr⟩ ⟨v,h1,h2,h3⟩ ⟨Bx,bb,rfl⟩ am;have eu:=q5n pre vs;have Qgq:(nmL vs pre).length<=950:=by omega
  have ey:N<=V.heap.size:=by have:=h3.size;omega
  have d0:Bx < V.heap.size:=(zg bb).1;have c0:V.cell? (Ad Bx 0)=some (.string t.name):=zc bb
  have c1:V.cell? (Ad Bx 1)=some (.int .i64 t.num):=zc bb
  have c3:=qv3 vs pre t;have bk:=qb6 t V;obtain⟨va,vc,rfl⟩:=qo h2;have a9:=qkj (nmL vs pre) t.name;generalize hvs:nmL vs pre=us at *;have HS:Hid (nmL vs (pre++[t])=qaw us t):=c3;clear c3 hvs
  cases htv:t.name.toList.isEmpty with
  | true=>
   rw[htv] at bk;have q7:Hid (nmL vs (pre++[t])=us):=by show _=_;rw[HS.out];unfold qaw;rw[if_pos htv]
   clear htv
   gi_wp2_with (refine⟨trivial,?_⟩;gi_at_call 139;refine (CallsIn.inRound l' (callsIn_wide.2 bk)).mono ?_;rintro e V1 ⟨rfl,ae⟩)
   refine⟨trivial,?_⟩
   gi_wp2
   refine⟨KeepsFrom.ofBelow ae,qab.ofBelow ae,.slice va us.length vc,?_,?_,?_⟩
   .exact (ae.block _ h1.lt).trans h1
   .rw[q7.out];exact qk h2 ae
   .exact h3.trans (qz.ofBelow ae)
  | false=>
   rw[htv] at bk;have cq:Hid _:=bk;have cy:Hid (qaw us t=Qh us t.name):=by show _=_;unfold qaw;rw[if_neg (by simp[htv])]
   clear htv bk
   have cb:Hid (∀V1,Below V.heap.size V V1->Boxed V1 N 22 (.slice va us.length vc)/\V1.ownsRow ad 9 1 (.slice va us.length vc) us.length (us.map Value.string)/\V1.cell? (Ad Bx 0)=some (.string t.name)/\qz ad w V1):=λV1 ae=>
    ⟨(ae.block _ h1.lt).trans h1,qk h2 ae,(ae.cell (p:=⟨Bx,0,none⟩) d0).trans c0,h3.trans (qz.ofBelow ae)⟩
   cases hct:Lib.containsS us t.name with
   | true=>
    have q7:Hid (nmL vs (pre++[t])=us):=by
     show _=_;rw[HS.out,cy.out];unfold Qh;rw[if_pos (by rw[hct] at a9;simpa using a9.symm)]
    have cn:Hid _:=hct;clear hct a9 h1 h2 h3
    gi_wp2_with (first | (refine⟨trivial,?_⟩;gi_at_call 139;refine (CallsIn.inRound l' (callsIn_wide.2 cq.out)).mono ?_;rintro e V1 ⟨rfl,ae⟩;obtain⟨k1,k2,k3,k4⟩:=cb.out V1 ae;have kc:=k1.cell) | (refine⟨trivial,?_⟩;gi_at_call 140;refine (CallsIn.inRound l' (callsIn_wide.2 (qfg k2 (by omega) t.name))).mono ?_;rintro e w' ⟨rfl,ce⟩;obtain rfl:V1=w':=ce.symm;rw[cn.out]))
    exact⟨KeepsFrom.ofBelow ae,qab.ofBelow ae,_,k1,by rw[q7.out];exact k2,k4⟩
   | false=>
    have q7:Hid (nmL vs (pre++[t])=us++[t.name]):=by
     show _=_;rw[HS.out,cy.out];unfold Qh;rw[if_neg (by rw[hct] at a9;simpa using a9.symm)]
    have cn:Hid _:=hct;clear hct a9 h1 h2 h3;have eb:us.length+1<=maxLen:=by unfold maxLen;omega
    have ek:(us.length+1)*16<=140737488355328:=by omega
    have d8:Hid (∀V1 w1,Below V.heap.size V V1->(V1.alloc (.cells #[.string t.name] 9)).grownBy w1 (Value.slice va us.length vc).ownBlock->Boxed w1 N 22 (.slice va us.length vc)/\Chg V1 w1 (λj=>some j=(Value.slice va us.length vc).ownBlock)):=by
     intro V1 w1 ae hg;obtain⟨k1,k2,k3,k4⟩:=cb.out V1 ae;have hc:Chg V1 w1 (λj=>some j=(Value.slice va us.length vc).ownBlock):=((Chg.refl V1 _).alloc _).grown hg (λk e _=>e.symm);exact⟨(hc.block _ k1.lt (λe=>Qf k2 k1 (by decide) _ e.symm rfl)).trans k1,hc⟩
    have d6:Hid (∀V1,Below V.heap.size V V1->ad<=(V1.alloc (.cells #[.string t.name] 9)).heap.size):=λV1 ae=>by
     have:=ae.size;show ad<=_;simp;omega
    gi_wp2_with (first | (refine⟨trivial,?_⟩;gi_at_call 139;refine (CallsIn.inRound l' (callsIn_wide.2 cq.out)).mono ?_;rintro e V1 ⟨rfl,ae⟩;obtain⟨k1,k2,k3,k4⟩:=cb.out V1 ae;have kc:=k1.cell) | (refine⟨trivial,?_⟩;gi_at_call 140;refine (CallsIn.inRound l' (callsIn_wide.2 (qfg k2 (by omega) t.name))).mono ?_;rintro e w' ⟨rfl,ce⟩;obtain rfl:V1=w':=ce.symm;rw[cn.out]) | (gi_at_builtin;refine wpListIn_append_own _ rfl _ _ 22 rfl ad 9 i0 (.string ⟨#[]⟩) 1 16 Tryz.underlying22 hi ee dp du rfl (by decide) _ _ _ rfl (World.ownsRow.alloc k2 _) ⟨V1.heap.size,0,none⟩ 1 1 [.string t.name] rfl rfl (cell_one_new _ _ _) (by simp[Value.oneCell']) eb ek (d6.out V1 ae) ?_;intro v' w1 ap ao _;obtain⟨g',bf,d7⟩:=ownsRow_succ ap;subst d7;obtain⟨bu,dk⟩:=d8.out V1 w1 ae ao;have cc:=bu.cell;have ff:=bu.frozen))
    have dl:Chg V1 (w1.setCell (Ad N 0) (.slice (some ⟨g',0,none⟩) (us.length+1) bf)) (λj=>j=N\/some j=(Value.slice va us.length vc).ownBlock):=(dk.mono (λ_ _ e=>.inr e)).setCell (Ad N 0) _ (λ_=>.inl rfl)
    obtain⟨ef,ed⟩:=qn6 (m:=W0.heap.size) dl (λj hj hx=>by
     rcases hx with rfl | hx
     .exact⟨_,_,k1,by decide,by decide,by decide,by decide⟩
     .obtain⟨_,c,hc⟩:=qe k2 hx.symm;exact⟨c,_,hc,by decide,by decide,by decide,by decide⟩)
    refine⟨KeepsFrom.trans (KeepsFrom.ofBelow ae) ef,(qab.ofBelow ae).tr (ed _),_,qbj bu _,?_,?_⟩
    .rw[q7.out];have:=Qg ap ⟨N,0,none⟩ (.slice (some ⟨g',0,none⟩) (us.length+1) bf) (Qf ap bu (by decide));simpa using this
    .exact (k4.alloc _ |>.grown ao (λj e=>by
      obtain⟨d5,d,hd⟩:=qe k2 e
      exact .inr ⟨d5,d,_,(Below.heap_alloc _ _ _ (zg hd).1).trans hd⟩)).setCell (Nat.le_of_eq hN) _
