/- rules.AddNames over the arguments of a rule: the names that -/
import Derived.Test.YtjajnhemgphefaaGreatDoorJEgA
import Derived.Maps.AppendAt
set_option linter.unusedVariables false
set_option linter.unusedSimpArgs false
set_option maxRecDepth 100000
set_option maxHeartbeats 1000000
namespace Go.Proofs.YtjajnhemgphefaaGreatDoor
open Go renaming World->Wq,Value->Vq
open Go.RowKit Go.Shelf
attribute [local go_sem] Oper.semAt_some
def AtX(w0:Wq)(b:Nat):Type:={p:Am×Vq // Qd w0 b p.2 p.1.args/\qjs p.1}
def qf(W W':Wq):Prop:=∀(k:Nat) (c:Array Vq) (t:TypeId),(t=136\/t=92\/t=166)->W.heap[k]?=some (Obj.cells c t (0,0))->W'.heap[k]?=some (Obj.cells c t (0,0))
theorem qf.refl(W:Wq):qf W W:=λ_ _ _ _ h=>h
theorem qf.trans{A B C:Wq}(h:qf A B)(k:qf B C):qf A C:=λi c t ht hi=>k i c t ht (h i c t ht hi)
theorem qf.ofBelow{W W':Wq}(h:Below W.heap.size W W'):qf W W':=λk c t _ hk=>(h.block k (zg hk).1).trans hk
theorem qf.put(W:Wq)(l:Nat)(o o':Obj)(h:W.heap[l]?=some o)(ho:o.isCells=false):qf W (W.putObj l o'):=λk c t _ hk=>
 qj (grownBy_putObj' W l o') (λr e=>by cases e;exact⟨_,h,ho⟩) k c t _ hk
theorem Qd.rk{W W':Wq}{b:Nat}{v:Vq}{l:List Tm}(h:Qd W b v l)(hk:qf W W'):Qd W' b v l:=h.kept (λk c _ hc=>hk k c _ (.inr (.inr rfl)) hc)
theorem qas.rk{W W':Wq}{b45 b87:Nat}{v:Vq}{l:List Am}(h:qas W b45 b87 v l)(hk:qf W W'):qas W' b45 b87 v l:=h.kept (λk c _ hc=>hk k c _ (.inr (.inl rfl)) hc) (λk c _ hc=>hk k c _ (.inr (.inr rfl)) hc)
theorem qkt(c:Array Vq)(x y z:Vq)(hc:c=#[x,y,z])(hx:x.oneCell'=true)(hy:y.oneCell'=true)(hz:z.oneCell'=true)(w:Wq) :
  Calls Tryz.prog 98 #[.agg c] w λe w'=>e=.returned (.func (.func 163) #[] #[.pointer (some ⟨w.heap.size,0,none⟩)])/\w'=w.alloc (.cells #[x,y,z] 136):=by
 subst hc;go_enter Tryz.func98,Tryz.ntmps98;go_wp2;go_ret;exact⟨rfl,rfl⟩
theorem qlf{α:Type}(f g:α->Vq)(l:List α)(i:Nat)(h:i < l.length):(l.flatMap λx=>[f x,g x])[i*2]?=some (f l[i])/\(l.flatMap λx=>[f x,g x])[i*2+1]?=some (g l[i]):=by
 induction l generalizing i with
 | nil=>simp at h
 | cons a l ih=>
  cases i with
  | zero=>simp
  | succ i=>
   simp only[List.length_cons] at h;have:=ih i (by omega);simp only[List.flatMap_cons,List.cons_append,List.nil_append];rw[show (i+1)*2=i*2+2 by omega];exact this
theorem qzv(n:Nat)(hn:1<=n)(l B:Nat)(w0:Wq)(b87:Nat)(x0:AtX w0 b87)(L:List (AtX w0 b87))(hL:L.length<=1000)(a:Option Addr)(cap:Nat)(J Jx:List (AtX w0 b87)->Wq->Prop)(W:Wq)(hJ:AbidesFrom W.heap.size J)(hY:∀pre x W1,J pre W1->pre.length < (x0::L).length->YieldAt Fence.wide (n - 1) Tryz.prog l #[.agg #[.string x.1.1.rel,x.1.2]] W1 λe W'=>
   (e=.returned (.bool true)/\J (pre++[x]) W'/\qf W1 W')\/(e=.returned (.bool false)/\Jx (pre++[x]) W'))(hB:W.heap[B]?=some (Obj.cells #[.string x0.1.1.rel,x0.1.2,.slice a L.length cap] 136))(Q4:L≠[]->∃(g off:Nat) (cur:Array Vq),a=some ⟨g,off,none⟩/\W.heap[g]?=some (Obj.cells cur 92)/\(cur.toList.drop off).take (L.length*2)=L.flatMap λx=>[.string x.1.1.rel,x.1.2])(h0:J [] W) :
  CallsIn Fence.wide n Tryz.prog 163 #[.func (.yield l) #[] #[],.pointer (some ⟨B,0,none⟩)] W λe W'=>(∃v,e=.returned v)/\
   ((∃ys,ys=x0::L/\J ys W')\/(∃pre,pre <+: x0::L/\Jx pre W')):=by
 refine callsIn_of_wp Tryz.func163 rfl trivial ?_ rfl;simp only[Tryz.ntmps163,List.size_toArray,List.length_cons,List.length_nil,Nat.reduceAdd,Nat.reduceSub,Array.replicate_succ,Array.replicate_zero,List.push_toArray,List.append_toArray,List.nil_append,List.cons_append];have HY:Hid _:=hY;have HJ:Hid (AbidesFrom W.heap.size J):=hJ;have cB0:W.cell? ⟨B,0,none⟩=some (.string x0.1.1.rel):=by simp[World.cell?,hB]
 have cB1:W.cell? ⟨B,1,none⟩=some x0.1.2:=by simp[World.cell?,hB]
 have qbd:∃a' n' c',x0.1.2=.slice a' n' c':=by obtain⟨a',c',e⟩:=x0.2.1.form;exact⟨a',_,c',e⟩
 obtain⟨fn,tmps,assign,body,hy,hR⟩:=hY [] x0 W h0 (by simp);clear hY hJ;obtain⟨fa,fn',fc,hf⟩:=qbd;rw[hf] at cB1 hy
 gi_wp2
 refine hR.mono ?_;rintro e W1 (⟨rfl,hJ1,hk1⟩ | ⟨rfl,hJx1⟩)
 ·have hB1:=hk1 _ _ _ (.inl rfl) hB;have cB2:W1.cell? ⟨B,2,none⟩=some (.slice a L.length cap):=by simp[World.cell?,hB1]
  clear hy hR cB0 cB1
  gi_wp2
  gi_loopw [13] (λi wr=>∃k:Nat,k<=L.length/\i=.int .i64 k/\J (x0::L.take k) wr/\qf W wr) (λi _=>L.length - (intOf i).toNat)
  case atStart=>exact⟨0,Nat.zero_le _,rfl,by simpa using hJ1,hk1⟩
  case round=>
   obtain⟨k,hk,rfl,hJk,hkk⟩:=hrel;by_cases hlt:k < L.length
   ·obtain⟨g,off,cur,rfl,hg,qb5⟩:=Q4 (by intro e;rw[e] at hlt;simp at hlt);have hgr:=hkk _ _ _ (.inr (.inl rfl)) hg;obtain⟨p0,p1⟩:=qlf (λx:AtX w0 b87=>Value.string x.1.1.rel) (λx=>x.1.2) L k hlt;rw[<- qb5,List.getElem?_take,if_pos (by omega),List.getElem?_drop] at p0;rw[<- qb5,List.getElem?_take,if_pos (by omega),List.getElem?_drop] at p1;have hxk:x0::L.take (k+1)=(x0::L.take k)++[L[k]]:=by rw[List.take_succ_eq_append_getElem hlt];rfl
    have HXK:Hid (x0::L.take (k+1)=(x0::L.take k)++[L[k]]):=hxk;have hpf:Hid ((x0::L.take k)++[L[k]] <+: x0::L):=by show _ <+: _;rw[<- hxk];exact List.cons_prefix_cons.2 ⟨rfl,List.take_prefix _ _⟩
    clear hxk;have Q7:(x0::L.take k).length < (x0::L).length:=by simp;omega
    generalize L[k]=xk at *;obtain⟨fa',fc',hfk⟩:=xk.2.1.form;have q0:wr.cell? ⟨g,off+k*2,none⟩=some (.string xk.1.1.rel):=by simp only[World.cell?,hgr];simpa using p0
    have q1:wr.cell? ⟨g,off+k*2+1,none⟩=some (.slice fa' xk.1.1.args.length fc'):=by simp only[World.cell?,hgr];rw[<- hfk];simpa [Nat.add_assoc] using p1
    have hbl:Below wr.heap.size wr (wr.alloc (.cells #[.string xk.1.1.rel,.slice fa' xk.1.1.args.length fc'] 92)):=(Below.refl _ wr).alloc zl _;obtain⟨fn2,tmps2,assign2,body2,hy2,hR2⟩:=HY.out (x0::L.take k) xk (wr.alloc (.cells #[.string xk.1.1.rel,.slice fa' xk.1.1.args.length fc'] 92)) (HJ.out _ _ _ none hJk (qh hbl) (λr e=>by cases e)) Q7;rw[hfk] at hy2;clear p0 p1 qb5 hfk hB Q4 cB2 hB1
    gi_wp2
    refine hR2.mono ?_;rintro e W3 (⟨rfl,hJ3,hk3⟩ | ⟨rfl,hJx3⟩)
    ·clear hy2 hR2
     gi_wp2
     go_roundw
     case rel=>exact⟨k+1,by omega,by go_num,by rw[HXK.out];exact hJ3,(hkk.trans (qf.ofBelow hbl)).trans hk3⟩
     case measure=>simp[intOf];omega
    ·gi_wp2
     refine bodyPost_ret (results_none rfl _ _ _) rfl ?_;exact⟨⟨_,rfl⟩,.inr ⟨_,hpf.out,hJx3⟩⟩
   ·gi_wp2
    go_end0
    exact⟨⟨_,rfl⟩,.inl ⟨_,rfl,by rw[List.take_of_length_le (by omega)] at hJk;exact hJk⟩⟩
 ·gi_wp2
  refine bodyPost_ret (results_none rfl _ _ _) rfl ?_;exact⟨⟨_,rfl⟩,.inr ⟨[x0],⟨L,rfl⟩,hJx1⟩⟩
theorem qij(n:Nat)(hn:1<=n)(B:Nat)(w0:Wq)(b87:Nat)(x0:AtX w0 b87)(L:List (AtX w0 b87))(hL:L.length<=1000)(a:Option Addr)(cap:Nat)(w:Wq)(hB:w.heap[B]?=some (Obj.cells #[.string x0.1.1.rel,x0.1.2,.slice a L.length cap] 136))(Q4:L≠[]->∃(g off:Nat) (cur:Array Vq),a=some ⟨g,off,none⟩/\w.heap[g]?=some (Obj.cells cur 92)/\(cur.toList.drop off).take (L.length*2)=L.flatMap λx=>[.string x.1.1.rel,x.1.2]) :
  SeqStopsK Fence.wide n Tryz.prog 163 #[.pointer (some ⟨B,0,none⟩)] (λx:AtX w0 b87=>#[.agg #[.string x.1.1.rel,x.1.2]]) qf (λys=>ys=x0::L) (λpre=>pre <+: x0::L) (x0::L).length w:=
 λl J Jx W hW hJ _ hY h0=>qzv n hn l B w0 b87 x0 L hL a cap J Jx W hJ hY (qf.ofBelow hW _ _ _ (.inl rfl) hB)
  (λhne=>by obtain⟨g,off,cur,h1,h2,h3⟩:=Q4 hne;exact⟨g,off,cur,h1,qf.ofBelow hW _ _ _ (.inr (.inl rfl)) h2,h3⟩) h0
def qse{α:Type}(n gf:Nat)(lb:Array Vq)(encs:α->Array Vq)(Kp:Wq->Wq->Prop)(S Sp:List α->Prop)(N:Nat)(w:Wq):Prop:=
 ∀(l:Nat) (J Jx:List α->Wq->Prop) (W:Wq),Below w.heap.size w W->w.heap.size+2<=W.heap.size->OwnFrom W.heap.size J->OwnFrom W.heap.size Jx->
  (∀pre x W1,J pre W1->pre.length < N->YieldAt Fence.wide (n - 1) Tryz.prog l (encs x) W1 λe W'=>
   (e=.returned (.bool true)/\J (pre++[x]) W'/\Kp W1 W')\/(e=.returned (.bool false)/\Jx (pre++[x]) W'/\KeepsFrom (w.heap.size+2) W1 W'))->
  J [] W->CallsIn Fence.wide n Tryz.prog gf (#[.func (.yield l) #[] #[]]++lb) W λe W'=>(∃v,e=.returned v)/\((∃xs,S xs/\J xs W')\/(∃pre,Sp pre/\Jx pre W'))
theorem KeepsFrom.tr{m:Nat}{A B C:Wq}(h:KeepsFrom m A B)(k:KeepsFrom m B C):KeepsFrom m A C:=⟨Nat.le_trans h.size k.size,λi o hi ho hc=>k.same i o hi (h.same i o hi ho hc) hc⟩
theorem KeepsFrom.up{m m':Nat}{A B:Wq}(h:KeepsFrom m A B)(hm:m<=m'):KeepsFrom m' A B:=⟨h.size,λi o hi ho hc=>h.same i o (by omega) ho hc⟩
theorem KeepsFrom.ofBelow{m:Nat}{W W':Wq}(h:Below W.heap.size W W'):KeepsFrom m W W':=⟨h.size,λk o _ hk _=>(h.block k (zg hk).1).trans hk⟩
theorem KeepsFrom.put{m:Nat}(W:Wq)(l:Nat)(o':Obj)(hl:l < m):KeepsFrom m W (W.putObj l o'):=
 ⟨(grownBy_putObj' W l o').size,λk x hk hx _=>((grownBy_putObj' W l o').block k (zg hx).1 (by simp;omega)).trans hx⟩
theorem qse.ofStops{α:Type}{n gf:Nat}{lb:Array Vq}{encs:α->Array Vq}{Kp:Wq->Wq->Prop}{S Sp:List α->Prop}{N:Nat}{w:Wq}(h:SeqStopsK Fence.wide n Tryz.prog gf lb encs Kp S Sp N w):qse n gf lb encs Kp S Sp N w:=by
 intro l J Jx W hW _ hJ hJx hY h0;refine h l J Jx W hW (λs A B row hs hg hr=>hJ s A B row hs hg (λr e=>?_)) (λs A B row hs hg hr=>hJx s A B row hs hg (λr e=>?_)) (λpre x W1 h1 h2=>(hY pre x W1 h1 h2).mono (λe W' h=>h.imp id (λk=>⟨k.1,k.2.1⟩))) h0
 all_goals
  obtain⟨h1,o,ho,hw⟩:=hr r e;exact⟨h1,o,ho,Obj.not_cells_of_walk hw⟩
structure qep(I:Wq->Prop)(D:Nat)(rec:Loop)(W:Wq):Prop where
 inv:I W
 loop:W.heap[D+1]?=some (.loop rec)
 mark:W.heap[D]?=some (.deferred (some []))
theorem qep.own{β:Type}{I:β->Wq->Prop}{B D:Nat}{rec:β->Loop}(hI:OwnFrom B I)(hB:D+2<=B):OwnFrom B (λs=>qep (I s) D (rec s)):=by
 rintro s W W' row ⟨h1,h2,h3⟩ hg hr
 have hk:∀(k:Nat) (o:Obj),k < B->W.heap[k]?=some o->W'.heap[k]?=some o:=λk o hk ho=>
  (hg.block k (zg ho).1 (λe=>by have:=(hr k e.symm).1;omega)).trans ho
 exact⟨hI s W W' row h1 hg hr,hk _ _ (by omega) h2,hk _ _ (by omega) h3⟩
section
variable {α:Type} {n gf:Nat} {lb:Array Vq} {encs:α->Array Vq} {Kp:Wq->Wq->Prop} {S Sp:List α->Prop} {N:Nat}
theorem qhd{g:Operand}{ps:Array Tmp}{assign body:Code}{Q:Exit->Act->Wq->Prop}{a:Act}{w:Wq}(hg:a.eval g=.func (.func gf) #[] lb)(eg:∀args w,(callFunc gf args).run Tryz.prog w=.ok (.enter gf args) w)(hseq:qse (n - 1) gf lb encs Kp S Sp N w)(hKt:∀{A B C:Wq},Kp A B->Kp B C->Kp A C)(hKb:∀(W:Wq) (o o':Obj),W.heap[w.heap.size+1]?=some o->o.isCells=false->Kp W (W.putObj (w.heap.size+1) o'))(hps:∀x,(encs x).size=ps.size)(I:List α->Wq->Prop)(Ix:Code->List α->Wq->Prop)(hI:OwnFrom w.heap.size I)(hIx:∀c,OwnFrom w.heap.size (Ix c))(h0:I [] w)(Ax:α->Act->Wq->Prop)(hAx:∀x a',OwnFrom w.heap.size (λ(_:Unit) W=>Ax x a' W))(hassign:∀(l:Nat) (pre:List α) (x:α) (W:Wq) (K:Act->Wq->Prop),w.heap.size<=l->(∃r,W.heap[l]?=some (.loop r))->I pre W->(∀a' W',KeepsFrom w.heap.size W W'->Kp W W'->I pre W'->Ax x a' W'->K a' W')->
   assign.wpIn (Fence.wide.inRound l) (n - 1 - 1) Tryz.prog (Exit.then K (λ_ _ _=>False)) {tmps:=(ps.zip (encs x)).foldl (λt (p,v)=>t.setIfInBounds p v) a.tmps,defers:=[]} W)(qo1:∀(l:Nat) (pre:List α) (x:α) (a':Act) (W:Wq),w.heap.size<=l->(∃r,W.heap[l]?=some (.loop r))->I pre W->Ax x a' W->pre.length < N->body.wpIn (Fence.wide.inRound l) (n - 1 - 1) Tryz.prog (ownPostG w.heap.size Kp I Ix (pre++[x]) W) a' W)(qlj:∀(D:Nat) (xs:List α) (W:Wq),w.heap.size<=D->S xs->I xs W->W.heap[D]?=some (.deferred (some []))->Q .normal {a with defers:={target:=.collected D,args:=#[]}::a.defers} W)(qiw:∀(D:Nat) (c:Code) (pre:List α) (W:Wq),w.heap.size<=D->Sp pre->Ix c pre W->W.heap[D]?=some (.deferred (some []))->c.wpIn Fence.wide n Tryz.prog Q {a with defers:={target:=.collected D,args:=#[]}::a.defers} W) :
  (Code.rangeFunc g ps assign body).wpIn Fence.wide n Tryz.prog Q a w:=by
 refine wpIn_rangeFunc (λfn hfn=>?_)
 let rc:LoopState->Option Code->Loop:=λst pe=>{state:=st,pending:=pe,fn:=fn,tmps:=a.tmps,params:=ps,assign:=assign,body:=body,defers:=w.heap.size}
 let wA:=w.alloc (.deferred (some []))
 let wB:=wA.alloc (.loop (rc .ready none))
 have sA:wA.heap.size=w.heap.size+1:=by simp[wA]
 have sB:wB.heap.size=w.heap.size+2:=by simp[wB,wA]
 have gB:Below w.heap.size w wB:=((Below.refl _ w).alloc zl _).alloc (by simp) _
 have quw:qep (I []) w.heap.size (rc .ready none) wB:=by
  refine⟨hI _ _ _ none h0 (qh gB) (λr e=>by cases e),?_,?_⟩
  ·have:=World.alloc_heap_new wA (.loop (rc .ready none));rw[sA] at this;exact this
  ·exact (Below.heap_alloc wA _ _ (by omega)).trans (World.alloc_heap_new w _)
 have turn:∀{I':Wq->Prop} {r:Loop} (r':Loop) {W:Wq},OwnFrom w.heap.size (λ(_:Unit)=>I')->qep I' w.heap.size r W->qep I' w.heap.size r' (W.putObj (w.heap.size+1) (.loop r')):=by
  intro I' r r' W ho hh;exact⟨ho.putObj (s:=()) _ hh.inv (by omega) hh.loop rfl,World.putObj_heap_same (zg hh.loop).1,(World.putObj_heap_other (by omega)).trans hh.mark⟩
 have oI:∀pre,OwnFrom w.heap.size (λ(_:Unit)=>I pre):=λpre _ A B row hs hg' hr=>hI pre A B row hs hg' hr;have oX:∀c pre,OwnFrom w.heap.size (λ(_:Unit)=>Ix c pre):=λc pre _ A B row hs hg' hr=>hIx c pre A B row hs hg' hr;have up:∀{β:Type} {X:β->Wq->Prop},OwnFrom w.heap.size X->OwnFrom wB.heap.size X:=λh s A B row hs hg' hr=>h s A B row hs hg' (λr e=>⟨by have:=(hr r e).1;omega,(hr r e).2⟩);have oJ:OwnFrom wB.heap.size (λpre=>qep (I pre) w.heap.size (rc .ready none)):=qep.own (up hI) (by omega)
 have oJx:OwnFrom wB.heap.size (λpre W=>∃c,qep (Ix c pre) w.heap.size (rc .done (some c)) W):=by
  rintro pre A B row ⟨c,hc⟩ hg' hr;exact⟨c,qep.own (I:=λ_:Unit=>Ix c pre) (rec:=λ_=>rc .done (some c)) (up (oX c pre)) (by omega) () A B row hc hg' hr⟩
 refine⟨w.heap.size+1,[{target:=.collected w.heap.size,args:=#[]}],wB,{target:=.fn (.func gf) lb,args:=#[.func (.yield (w.heap.size+1)) #[] #[]]},wB,gf,#[.func (.yield (w.heap.size+1)) #[] #[]]++lb,wB,run_enterLoop_outer _ _ _ _ _,?_,λ_ _=>trivial,?_,(λh=>(by cases h)),?_⟩
 ·simp only[resolve,hg];simp[go_sem]
 ·simp[invoke,go_sem,eg]
 refine (hseq (w.heap.size+1) (λpre=>qep (I pre) w.heap.size (rc .ready none)) (λpre W=>∃c,qep (Ix c pre) w.heap.size (rc .done (some c)) W) wB gB (by omega) oJ oJx ?_ quw).mono ?_
 ·intro pre x W hh Q7;have hy:=run_yield (P:=Tryz.prog) (args:=encs x) hh.loop (hps x);refine⟨fn,_,assign,body,hy,roundIn_of_wpIn trivial (hassign _ pre x W _ (by omega) ⟨_,hh.loop⟩ hh.inv ?_)⟩;intro a' Wa kA kpA iA axA;have hhA:qep (I pre) w.heap.size (rc .ready none) Wa:=⟨iA,kA.same _ _ (by omega) hh.loop rfl,kA.same _ _ zl hh.mark rfl⟩;refine⟨_,run_beginRound hhA.loop rfl,?_⟩;have hhB:=turn {rc .ready none with state:=.busy} (oI pre) hhA;have kpB:=hKb Wa _ (.loop {rc .ready none with state:=.busy}) hhA.loop rfl;refine wpIn_mono (qo1 _ pre x a' _ (by omega) ⟨_,hhB.loop⟩ hhB.inv ((hAx x a').putObj (s:=()) _ axA (by omega) hhA.loop rfl) Q7) ?_;intro e a3 W3 hp
  have done:∀(jump:Option Code) {I':Wq->Prop},OwnFrom w.heap.size (λ(_:Unit)=>I')->KeepsFrom w.heap.size (Wa.putObj (w.heap.size+1) (.loop {rc .ready none with state:=.busy})) W3->I' W3->
    ∃W4,(Instr.endRound (w.heap.size+1) jump).run Tryz.prog W3=.ok (.bool jump.isNone) W4/\qep I' w.heap.size (rc (if jump.isNone then .ready else .done) jump) W4/\Kp W3 W4/\KeepsFrom (w.heap.size+2) W W4:=by
   intro jump I' ho kf i3;have h3:qep I' w.heap.size {rc .ready none with state:=.busy} W3:=⟨i3,kf.same _ _ (by omega) hhB.loop rfl,kf.same _ _ zl hhB.mark rfl⟩;exact⟨_,run_endRound jump h3.loop,turn _ ho h3,hKb _ _ _ h3.loop rfl,KeepsFrom.tr (KeepsFrom.tr (KeepsFrom.tr (KeepsFrom.up kA (by omega)) (KeepsFrom.put _ _ _ (by omega))) (KeepsFrom.up kf (by omega))) (KeepsFrom.put _ _ _ (by omega))⟩
  cases e with
  | normal=>
   obtain⟨kf,kp,i3⟩:=hp;obtain⟨W4,hr,h4,k4,_⟩:=done none (oI _) kf i3;exact⟨_,_,hr,.inl ⟨rfl,h4,hKt kpA (hKt kpB (hKt kp k4))⟩⟩
  | ret=>
   obtain⟨kf,i3⟩:=hp;obtain⟨W4,hr,h4,_,k4⟩:=done (some .ret) (oX _ _) kf i3;exact⟨_,_,hr,.inr ⟨rfl,⟨_,h4⟩,k4⟩⟩
  | exit id=>
   obtain⟨kf,i3⟩:=hp;obtain⟨W4,hr,h4,_,k4⟩:=done (some (.exit id)) (oX _ _) kf i3;exact⟨_,_,hr,.inr ⟨rfl,⟨_,h4⟩,k4⟩⟩
  | goto t=>
   obtain⟨kf,i3⟩:=hp;obtain⟨W4,hr,h4,_,k4⟩:=done (some (.goto t)) (oX _ _) kf i3;exact⟨_,_,hr,.inr ⟨rfl,⟨_,h4⟩,k4⟩⟩
  | panic ch=>exact hp.elim
  | outgrown=>exact hp.elim
 ·rintro e W2 ⟨⟨v,rfl⟩,(⟨xs,hS,hh⟩ | ⟨pre,hSp,c,hh⟩)⟩
  ·have h2:=turn {rc .ready none with state:=.exhausted} (oI xs) hh;exact⟨none,_,run_endLoop hh.loop (by intro h;cases h),qlj _ xs _ zl hS h2.inv h2.mark⟩
  ·have h2:=turn {rc .done (some c) with state:=.exhausted} (oX c pre) hh;exact⟨some c,_,run_endLoop hh.loop (by intro h;cases h),qiw _ c pre _ zl hSp h2.inv h2.mark⟩
end
attribute [local go_sem] Oper.semAt_some
structure qaa(m:Nat)(W W':Wq):Prop where
 rule:qf W W'
 func:∀(k:Nat) (c:Array Vq),W.heap[k]?=some (Obj.cells c 259)->W'.heap[k]?=some (Obj.cells c 259)
 from':KeepsFrom m W W'
theorem qaa.tr{m:Nat}{A B C:Wq}(h:qaa m A B)(k:qaa m B C):qaa m A C:=⟨h.rule.trans k.rule,λi c hi=>k.func i c (h.func i c hi),KeepsFrom.tr h.from' k.from'⟩
theorem qaa.ofBelow{m:Nat}{W W':Wq}(h:Below W.heap.size W W'):qaa m W W':=⟨qf.ofBelow h,λk c hk=>(h.block k (zg hk).1).trans hk,KeepsFrom.ofBelow h⟩
theorem qaa.put{m:Nat}(W:Wq)(l:Nat)(o o':Obj)(hl:l < m)(h:W.heap[l]?=some o)(ho:o.isCells=false):qaa m W (W.putObj l o'):=
 ⟨qf.put W l o o' h ho,λk c hk=>qj (grownBy_putObj' W l o') (λr e=>by cases e;exact⟨_,h,ho⟩) k c _ _ hk,
  (grownBy_putObj' W l o').size,λk x hk hx _=>((grownBy_putObj' W l o').block k (zg hx).1 (by simp;omega)).trans hx⟩
theorem qge{n m l l':Nat}{f:FuncId}{tmps:Array Vq}{assign body:Code}{w:Wq}{R:Ending->Wq->Prop}(h:RoundIn Fence.wide n Tryz.prog l f tmps assign body w R):RoundIn (Fence.wide.inRound l') m Tryz.prog l f tmps assign body w R:=
 ⟨h.1,λc cs _=>h.2 c cs (room_wide _)⟩
theorem qmw(c:Array Vq)(x y z:Vq)(hc:c=#[x,y,z])(w:Wq) :
  Calls Tryz.prog 77 #[.agg c] w λe w'=>e=.returned (.func (.func 141) #[] #[.pointer (some ⟨w.heap.size,0,none⟩)])/\w'=w.alloc (.cells #[x,y,z] 136):=by
 subst hc;go_enter Tryz.func77,Tryz.ntmps77;go_wp2;go_ret;exact⟨rfl,rfl⟩
theorem qv0{w0:Wq}{b:Nat}(L:List (AtX w0 b)):(L.flatMap (·.1.1.args)).length<=L.length*2:=by
 induction L with
 | nil=>simp
 | cons x L ih=>have:=x.2.2.args;simp at ih ⊢;omega
def qar{w0:Wq}{b:Nat}(L:List (AtX w0 b)):List Tm:=L.flatMap (·.1.1.args)
theorem q2d(n:Nat)(hn:4<=n)(B:Nat)(w0:Wq)(b87:Nat)(x0:AtX w0 b87)(L:List (AtX w0 b87))(hL:L.length<=1000)(a:Option Addr)(cap:Nat)(w:Wq)(hk0:qf w0 w)(hB:w.heap[B]?=some (Obj.cells #[.string x0.1.1.rel,x0.1.2,.slice a L.length cap] 136))(Q4:L≠[]->∃(g off:Nat) (cur:Array Vq),a=some ⟨g,off,none⟩/\w.heap[g]?=some (Obj.cells cur 92)/\(cur.toList.drop off).take (L.length*2)=L.flatMap λx=>[.string x.1.1.rel,x.1.2]) :
  qse n 141 #[.pointer (some ⟨B,0,none⟩)] (λt:Tm=>#[.agg #[.string t.name,.int .i64 t.num]]) (qaa (w.heap.size+2)) (λys=>ys=qar (x0::L)) (λpre=>pre <+: qar (x0::L)) ((L.length+1)*2) w:=by
 intro l J Jx W hW hsz hJ hJx hY h0;generalize w.heap.size+2=m at hsz hY;have hB':=qf.ofBelow hW _ _ _ (.inl rfl) hB
 have Qc3:L≠[]->∃(g off:Nat) (cur:Array Vq),a=some ⟨g,off,none⟩/\W.heap[g]?=some (Obj.cells cur 92)/\(cur.toList.drop off).take (L.length*2)=L.flatMap λx=>[.string x.1.1.rel,x.1.2]:=λhne=>by
  obtain⟨g,off,cur,h1,h2,h3⟩:=Q4 hne;exact⟨g,off,cur,h1,qf.ofBelow hW _ _ _ (.inr (.inl rfl)) h2,h3⟩
 have Qfi:qf w0 W:=hk0.trans (qf.ofBelow hW);clear hB Q4 hk0 hW w;obtain⟨fa,fc,hf⟩:=x0.2.1.form;refine callsIn_of_wp_marks Tryz.func141 rfl trivial ?_ rfl;simp only[Tryz.ntmps141,List.size_toArray,List.length_cons,List.length_nil,Nat.reduceAdd,Nat.reduceSub,Array.replicate_succ,Array.replicate_zero,List.push_toArray,List.append_toArray,List.nil_append,List.cons_append];have Qbk:B < W.heap.size:=(zg hB').1;have c0:W.cell? ⟨B,0,none⟩=some (.string x0.1.1.rel):=by simp[World.cell?,hB']
 have c1:W.cell? ⟨B,1,none⟩=some (.slice fa x0.1.1.args.length fc):=by simp[World.cell?,hB',hf]
 have c2:W.cell? ⟨B,2,none⟩=some (.slice a L.length cap):=by simp[World.cell?,hB']
 have n1:1<=n:=by omega
 have n2:1<=n - 1:=by omega
 have n3:1<=n - 1 - 1:=by omega
 have HY:Hid _:=hY;have HJ:Hid (OwnFrom W.heap.size J):=hJ;have HJx:Hid (OwnFrom W.heap.size Jx):=hJx;clear hY hJ hJx
 gi_wp2_with (refine⟨trivial,?_⟩;gi_at_call 98;refine (callsIn_wide.2 (qkt _ _ _ _ rfl rfl rfl rfl _)).mono ?_;rintro e w' ⟨rfl,rfl⟩)
 obtain⟨NB,hNB⟩:∃NB,W.heap.size=NB:=⟨_,rfl⟩;obtain⟨W0,hW0⟩:∃W0,(W.alloc (.cells #[.func (.yield l) #[] #[]] 259)).alloc (.cells #[.string x0.1.1.rel,.slice fa x0.1.1.args.length fc,.slice a L.length cap] 136)=W0:=⟨_,rfl⟩;have hb0:Below W.heap.size W W0:=by rw[<- hW0];exact ((Below.refl _ W).alloc zl _).alloc (by simp) _
 have hs0:W0.heap.size=NB+2:=by rw[<- hW0,<- hNB];simp
 have bY:W0.heap[NB]?=some (Obj.cells #[.func (.yield l) #[] #[]] 259):=by
  rw[<- hW0,<- hNB];exact (Below.heap_alloc _ _ _ (by simp)).trans (World.alloc_heap_new W _)
 have bR:W0.heap[NB+1]?=some (Obj.cells #[.string x0.1.1.rel,x0.1.2,.slice a L.length cap] 136):=by
  rw[<- hW0,<- hNB,hf];have:=World.alloc_heap_new (W.alloc (.cells #[.func (.yield l) #[] #[]] 259)) (.cells #[.string x0.1.1.rel,.slice fa x0.1.1.args.length fc,.slice a L.length cap] 136);rw[World.size_alloc] at this;exact this
 have qpa:L≠[]->∃(g off:Nat) (cur:Array Vq),a=some ⟨g,off,none⟩/\W0.heap[g]?=some (Obj.cells cur 92)/\(cur.toList.drop off).take (L.length*2)=L.flatMap λx=>[.string x.1.1.rel,x.1.2]:=λhne=>by
  obtain⟨g,off,cur,h1,h2,h3⟩:=Qc3 hne;exact⟨g,off,cur,h1,qf.ofBelow hb0 _ _ _ (.inr (.inl rfl)) h2,h3⟩
 have Qfj:qf w0 W0:=Qfi.trans (qf.ofBelow hb0);have hJ0:J [] W0:=HJ.out _ _ _ none h0 (qh hb0) (λr e=>by cases e);simp only[hNB];rw[hW0];clear hW0
 refine qhd (n:=n) (gf:=163) (lb:=#[.pointer (some ⟨NB+1,0,none⟩)]) rfl (enters_of Tryz.func163 (by kernel_rfl) rfl)
  (qse.ofStops (qij (n - 1) n2 (NB+1) w0 b87 x0 L hL a cap W0 bR qpa)) qf.trans (λV o o' ho hc=>qf.put V _ o o' ho hc) (λ_=>rfl)
  (λpre V=>J (qar pre) V/\V.heap[NB]?=some (Obj.cells #[.func (.yield l) #[] #[]] 259)/\qf w0 V)
  (λc pre V=>c=.ret/\∃(pre':List (AtX w0 b87)) (x:AtX w0 b87) (k:Nat),pre=pre'++[x]/\Jx (qar pre'++x.1.1.args.take k) V)
  ?hI ?hIx ⟨hJ0,bY,Qfj⟩
  (λx a' V=>∃Bx,V.heap[Bx]?=some (Obj.cells #[.string x.1.1.rel,x.1.2] 92)/\a'={tmps:=#[.func (.yield l) #[] #[],.pointer (some ⟨B,0,none⟩),.pointer (some ⟨NB,0,none⟩),.pointer (some ⟨Bx,0,none⟩),undef,undef,.agg #[.string x0.1.1.rel,.slice fa x0.1.1.args.length fc,.slice a L.length cap],.func (.func 163) #[] #[.pointer (some ⟨NB+1,0,none⟩)],.agg #[.string x.1.1.rel,x.1.2],undef,undef,undef,undef,undef,undef,undef,undef,undef,undef,undef,undef],defers:=[]})
  ?hAx ?assign ?body ?done ?stop
 case hI=>
  rintro pre V V' row ⟨h1,h2,h3⟩ hg hr;have hk:=qj hg (λr e=>(hr r e).2);exact⟨HJ.out _ _ _ row h1 hg (λr e=>⟨by have:=(hr r e).1;omega,(hr r e).2⟩),hk _ _ _ _ h2,h3.trans (λk c t _ hc=>hk k c t _ hc)⟩
 case hIx=>
  rintro c pre V V' row ⟨rfl,pre',x,k,h1,h2⟩ hg hr;exact⟨rfl,pre',x,k,h1,HJx.out _ _ _ row h2 hg (λr e=>⟨by have:=(hr r e).1;omega,(hr r e).2⟩)⟩
 case hAx=>
  rintro x a' _ V V' row ⟨Bx,h2,h3⟩ hg hr;exact⟨Bx,qj hg (λr e=>(hr r e).2) _ _ _ _ h2,h3⟩
 case assign=>
  rintro l' pre x V K hl hlr ⟨h1,h2,h3⟩ hK;have HK:Hid _:=hK;clear hK;obtain⟨ga,gc,hgx⟩:=x.2.1.form;simp only[hgx]
  gi_wp2
  have hbl:Below V.heap.size V (V.alloc (.cells #[.string x.1.1.rel,.slice ga x.1.1.args.length gc] 92)):=(Below.refl _ V).alloc zl _;exact HK.out _ _ (KeepsFrom.ofBelow hbl) (qf.ofBelow hbl) ⟨HJ.out _ _ _ none h1 (qh hbl) (λr e=>by cases e),(hbl.block NB (zg h2).1).trans h2,h3.trans (qf.ofBelow hbl)⟩ ⟨V.heap.size,by rw[hgx];exact World.alloc_heap_new V _,by rw[hgx]⟩
 case body=>
  rintro l' pre x a' V hl' ⟨r,hr⟩ ⟨hJp,hbY,hkV⟩ ⟨Bx,hbx,rfl⟩ hlt;obtain⟨ga,gc,hgx⟩:=x.2.1.form;have hm2:=x.2.2.args;have hxS:=x.2.1;have hpl:=qv0 pre;generalize qlh:x.1.1.args=args at *;have c0':V.cell? ⟨Bx,0,none⟩=some (.string x.1.1.rel):=by simp[World.cell?,hbx]
  have c1':V.cell? ⟨Bx,1,none⟩=some (.slice ga args.length gc):=by simp[World.cell?,hbx,hgx]
  have HX:Hid (x.1.1.args=args):=qlh;have HN:Hid (pre.length < (x0::L).length):=hlt;clear qlh hlt
  gi_wp2
  gi_loopw [12] (λi V'=>∃k:Nat,k<=args.length/\i=.int .i64 k/\J (qar pre++args.take k) V'/\V'.heap[NB]?=some (Obj.cells #[.func (.yield l) #[] #[]] 259)/\qf w0 V'/\qf V V'/\KeepsFrom W0.heap.size V V')
   (λi _=>args.length - (intOf i).toNat)
  case atStart=>exact⟨0,Nat.zero_le _,rfl,by simpa using hJp,hbY,hkV,qf.refl V,KeepsFrom.refl _ V⟩
  case round=>
   obtain⟨k,hk,rfl,hJk,q6e,hkk,hVk,hFk⟩:=hrel;by_cases hlt:k < args.length
   ·have hSk:=hxS.rk hkk;obtain⟨e0,_⟩ | ⟨g,cp,cur,hv,hgb,qxd,htk⟩:=hSk
    ·rw[e0] at hlt;simp at hlt
    rw[hgx] at hv;cases hv;obtain⟨p0,p1⟩:=qlf (λt:Tm=>Value.string t.name) (λt=>Value.int .i64 t.num) args k hlt;have qs4:cur.toList.take (args.length*2)=args.flatMap λt=>[Value.string t.name,Value.int .i64 t.num]:=htk;rw[<- qs4,List.getElem?_take,if_pos (by omega)] at p0;rw[<- qs4,List.getElem?_take,if_pos (by omega)] at p1;have hxk:qar pre++args.take (k+1)=(qar pre++args.take k)++[args[k]]:=by rw[List.take_succ_eq_append_getElem hlt,List.append_assoc]
    have HXK:Hid (qar pre++args.take (k+1)=(qar pre++args.take k)++[args[k]]):=hxk;clear hxk
    have Q7:(qar pre++args.take k).length < (L.length+1)*2:=by
     have:=HN.out;have h2:(qar pre).length<=pre.length*2:=hpl;simp at this ⊢;omega
    generalize args[k]=tk at *;have q0:wr.cell? ⟨g,k*2,none⟩=some (.string tk.name):=by simp only[World.cell?,qxd];simpa using p0
    have q1:wr.cell? ⟨g,k*2+1,none⟩=some (.int .i64 tk.num):=by simp only[World.cell?,qxd];simpa using p1
    have cY:wr.cell? ⟨NB,0,none⟩=some (.func (.yield l) #[] #[]):=by simp[World.cell?,q6e]
    have hbl:Below wr.heap.size wr (wr.alloc (.cells #[.string tk.name,.int .i64 tk.num] 166)):=(Below.refl _ wr).alloc zl _;have Qbn:NB < wr.heap.size:=(zg q6e).1;obtain⟨fn2,tmps2,assign2,body2,hy2,hR2⟩:=HY.out (qar pre++args.take k) tk (wr.alloc (.cells #[.string tk.name,.int .i64 tk.num] 166)) (HJ.out _ _ _ none hJk (qh hbl) (λr e=>by cases e)) Q7;clear p0 p1 htk qs4 qxd hgx hxS
    gi_wp2
    refine (qge hR2).mono ?_;rintro e V3 (⟨rfl,hJ3,hk3⟩ | ⟨rfl,hJx3,hkx3⟩)
    ·clear hy2 hR2;have hb3:=hk3.func NB _ ((hbl.block NB Qbn).trans q6e)
     gi_wp2
     go_roundw
     case rel=>exact⟨k+1,by omega,by go_num,by rw[HXK.out];exact hJ3,hb3,(hkk.trans (qf.ofBelow hbl)).trans hk3.rule,(hVk.trans (qf.ofBelow hbl)).trans hk3.rule,KeepsFrom.tr (KeepsFrom.tr hFk (KeepsFrom.ofBelow hbl)) (KeepsFrom.up hk3.from' (by omega))⟩
     case measure=>simp[intOf];omega
    ·gi_wp2
     refine⟨KeepsFrom.tr (KeepsFrom.tr hFk (KeepsFrom.ofBelow hbl)) (KeepsFrom.up hkx3 (by omega)),rfl,pre,x,k+1,rfl,?_⟩;rw[HX.out,HXK.out];exact hJx3
   ·gi_wp2
    refine⟨hFk,hVk,?_,q6e,hkk⟩;have:qar (pre++[x])=qar pre++args:=by unfold qar;simp[HX.out]
    rw[this];rw[List.take_of_length_le (by omega)] at hJk;exact hJk
 case done=>
  rintro D xs V hD rfl ⟨h1,h2,h3⟩ hK
  gi_wp2
  refine⟨by simp,.inl ⟨_,_,rfl,run_takeDeferred hK,?_⟩⟩;exact⟨_,results_none rfl _ _ _,⟨_,rfl⟩,.inl ⟨_,rfl,HJ.out _ _ _ (some D) h1 (grownBy_putObj' _ _ _) (λr e=>by cases e;exact⟨by omega,_,hK,rfl⟩)⟩⟩
 case stop=>
  rintro D c pre V hD hp ⟨rfl,pre',x,k,rfl,h2⟩ hK
  have h1:qar pre'++x.1.1.args.take k <+: qar (x0::L):=by
   obtain⟨tl,htl⟩:=hp;refine List.IsPrefix.trans ?_ (⟨qar tl,by unfold qar;rw[<- htl];simp⟩:qar (pre'++[x]) <+: qar (x0::L));unfold qar;simp only[List.flatMap_append,List.flatMap_cons,List.flatMap_nil,List.append_nil];exact List.prefix_append_right_inj _ |>.2 (List.take_prefix _ _)
  gi_wp2
  refine⟨by simp,.inl ⟨_,_,rfl,run_takeDeferred hK,?_⟩⟩;exact⟨_,results_none rfl _ _ _,⟨_,rfl⟩,.inr ⟨_,h1,HJx.out _ _ _ (some D) h2 (grownBy_putObj' _ _ _) (λr e=>by cases e;exact⟨by omega,_,hK,rfl⟩)⟩⟩
end Go.Proofs.YtjajnhemgphefaaGreatDoor
namespace Go.Proofs.YtjajnhemgphefaaGreatDoor
open Go renaming World->Wq,Value->Vq
def qct(seen:List Am)(l:List UInt8):Option Nat:=(seen.find? (λa=>a.rel.data.toList == l)).map (·.args.length)
def qg4(seen:List Am)(a:Am):Bool:=match qct seen a.rel.data.toList with | some n=>n == a.args.length | none=>true
def qdp:List Am->List Am->Option (List Am)
 | seen,[]=>some seen
 | seen,a::l=>if qg4 seen a=true then qdp (seen++[a]) l else none
def qah:List Am->Nat->List Rl->Int
 | _,_,[]=>-1
 | seen,i,r::rs=>match qdp seen (r.head::r.body) with
  | none=>i
  | some s=>qah s (i+1) rs
def qzb(x:ByteArray)(xb:Nat)(t:Tm):Bool:=x.toList == t.name.toList && xb == t.num
def qju(l:List Tm)(x:ByteArray)(xb:Nat):Bool:=l.any (qzb x xb)
def qf8(r:Rl)(x:ByteArray)(xb:Nat):Bool:=r.body.any (λa=>qju a.args x xb)
def qc3(r:Rl)(t:Tm):Bool:=t.name.toList.isEmpty && !qf8 r t.name t.num
def qdg(r:Rl):Bool:=r.head.args.any (qc3 r)
def qcr(p:Rl->Bool):Nat->List Rl->Int
 | _,[]=>-1
 | i,r::rs=>if p r=true then i else qcr p (i+1) rs
def qcf(rs:List Rl):Int:=qcr qdg 0 rs
def qa3:List ByteArray->Nat->List Rl->Int
 | _,_,[]=>-1
 | ns,i,r::rs=>if 8 < (nmL ns (Qp (qy r))).length then i else qa3 (nmL ns (Qp (qy r))) (i+1) rs
def qdc(rs:List Rl):Int×Int:=
 if 0<=qah [] 0 rs then (4,qah [] 0 rs)
 else if 0<=qcf rs then (5,qcf rs)
 else if 0<=qa3 [] 0 rs then (3,qa3 [] 0 rs)
 else (0,0)
end Go.Proofs.YtjajnhemgphefaaGreatDoor
namespace Go.Proofs.YtjajnhemgphefaaGreatDoor
open Go renaming World->Wq,Value->Vq
open Go.RowKit Go.Shelf
attribute [local go_sem] Oper.semAt_some
variable {W' W:Wq} {b45 b87:Nat} {r:Rl} {v0 vb:Vq}
theorem qw.ofBelow{B:Nat}{a b:Wq}(h:Below a.heap.size a b):qw B a b:=⟨h.os,h.tape,h.output,h.size,λk hk _=>h.block k hk⟩
theorem q0x(vs:List ByteArray)(t:Tm):(qax vs t).length<=vs.length+1:=by
 unfold qax;split
 ·omega
 ·exact qvv _ _
theorem qvh(vs:List ByteArray)(l:List Tm)(t:Tm):nmL vs (l++[t])=qax (nmL vs l) t:=by simp[nmL]
theorem q4m(l:List Tm):∀(vs:List ByteArray),(nmL vs l).length<=vs.length+l.length:=by
 induction l with
 | nil=>intro vs;simp[nmL]
 | cons t l ih=>
  intro vs;have h1:=ih (qax vs t);have h2:=q0x vs t;simp only[nmL,List.foldl_cons,List.length_cons] at h1 ⊢;omega
theorem qj4(vs:List ByteArray)(x:ByteArray):Lib.containsS vs x=decide (Qw vs x < vs.length):=by
 have h1:=Lib.containsS_iff vs x;have h2:=Lib.idxOfS_nonneg_iff vs x;rcases qu3 vs x with⟨h3,h4⟩ | ⟨h3,h4⟩
 ·have:¬x∈vs:=λh=>by have:=h2.2 h;omega
  have hc:Lib.containsS vs x=false:=by
   cases hh:Lib.containsS vs x with
   | false=>rfl
   | true=>exact absurd (h1.1 hh) this
  rw[hc,h4];simp
 ·have:x∈vs:=h2.1 (by omega);rw[h1.2 this];simp[h4]
theorem qnj{m:Nat}{V:Wq}{ex:Nat->Prop}(h:Chg V W' ex)(hx:∀k,k < V.heap.size->ex k->∃(c:Array Vq) (t:TypeId),V.heap[k]?=some (Obj.cells c t (0,0))/\t≠136/\t≠92/\t≠166/\t≠259):KeepsFrom m V W'/\∀m',qaa m' V W':=by
 have hk:∀m'',KeepsFrom m'' V W':=λm''=>⟨h.size,λk o _ hk ho=>by
  rw[h.block k (zg hk).1 (λe=>?_)]
  ·exact hk
  ·obtain⟨c,t,hc,_⟩:=hx k (zg hk).1 e
   rw[hk] at hc;cases hc;simp[Obj.isCells] at ho⟩
 refine⟨hk m,λm'=>⟨λk c t ht hc=>?_,λk c hc=>?_,hk m'⟩⟩
 ·rw[h.block k (zg hc).1 (λe=>?_)]
  ·exact hc
  ·obtain⟨c',t',hc',a1,a2,a3,a4⟩:=hx k (zg hc).1 e;rw[hc] at hc';cases hc';rcases ht with h | h | h
   ·exact a1 h
   ·exact a2 h
   ·exact a3 h
 ·rw[h.block k (zg hc).1 (λe=>?_)]
  ·exact hc
  ·obtain⟨c',t',hc',a1,a2,a3,a4⟩:=hx k (zg hc).1 e;rw[hc] at hc';cases hc';exact a4 rfl
def qez(W:Wq)(b45 b87:Nat)(r:Rl)(v0 vb:Vq):Prop:=Qd W b87 v0 r.head.args/\qas W b45 b87 vb r.body
def Qr(r:Rl):List Tm:=r.head.args++r.body.flatMap (·.args)
theorem qez.rk(h:qez W b45 b87 r v0 vb)(hk:qf W W'):qez W' b45 b87 r v0 vb:=⟨h.1.rk hk,h.2.rk hk⟩
theorem qt0:∀(ps:List (Am×Vq)),(∀p∈ps,Qd W b87 p.2 p.1.args)->(∀p∈ps,qjs p.1)->∃L:List (AtX W b87),L.map (·.1)=ps
 | [],_,_=>⟨[],rfl⟩
 | p::ps,h,h2=>by
  obtain⟨L,hL⟩:=qt0 ps (λq hq=>h q (by simp[hq])) (λq hq=>h2 q (by simp[hq]));exact⟨⟨p,h p (by simp),h2 p (by simp)⟩::L,congrArg (λl=>p::l) hL⟩
theorem qp2(hv:qez W b45 b87 r v0 vb)(hok:qcd r) :
  ∃(x0:AtX W b87) (L:List (AtX W b87)) (a:Option Addr) (cap:Nat),x0.1=(r.head,v0)/\L.map (·.1.1)=r.body/\vb=.slice a L.length cap/\L.length<=3/\
   (L≠[]->∃(g off:Nat) (cur:Array Vq),a=some ⟨g,off,none⟩/\W.heap[g]?=some (Obj.cells cur 92)/\(cur.toList.drop off).take (L.length*2)=L.flatMap λx=>[.string x.1.1.rel,x.1.2]):=by
 obtain⟨h1,ps,a,cap,e1,e2,e3,e4⟩:=hv;obtain⟨L,hL⟩:=qt0 ps e3.1 (λp hp=>hok.ams _ (by rw[<- e1];exact List.mem_map_of_mem hp));have hLb:L.map (·.1.1)=r.body:=by rw[<- e1,<- hL,List.map_map];rfl
 have Q7:L.length=r.body.length:=by rw[<- hLb];simp
 refine⟨⟨(r.head,v0),h1,hok.head⟩,L,a,cap,rfl,hLb,by rw[Q7];exact e2,by have:=hok.body;omega,λhne=>?_⟩;obtain⟨g,off,cur,k1,k2,k3,k4⟩:=e4 (by intro e;rw[e] at Q7;exact hne (List.eq_nil_of_length_eq_zero Q7));refine⟨g,off,cur,k1,k3,?_⟩;rw[Q7,k4,<- hL,List.flatMap_map];rfl
theorem qto{x0:AtX W b87}{L:List (AtX W b87)}(h0:x0.1=(r.head,v0))(hL:L.map (·.1.1)=r.body):qar (x0::L)=Qr r:=by
 unfold qar Qr;rw[<- hL,List.flatMap_map,List.flatMap_cons,h0]
theorem qq1(r:Rl):Qr r=Qp (qy r):=by unfold Qr Qp qy;simp
theorem qk7(r:Rl)(v0 vb v:Vq)(vs:List ByteArray)(base b45 b87 B:Nat)(w:Wq)(hok:qcd r)(hv:qez w b45 b87 r v0 vb)(hB:w.heap[B]?=some (Obj.cells #[.string r.head.rel,v0,vb] 136))(qr:w.ownsRow base 9 1 v vs.length (vs.map Value.string))(hbw:base<=w.heap.size)(hvl:vs.length<=900) :
  Calls Tryz.prog 76 #[v,.func (.func 141) #[] #[.pointer (some ⟨B,0,none⟩)]] w λe w'=>∃v',e=.returned v'/\w'.ownsRow base 9 1 v' (nmL vs (Qr r)).length ((nmL vs (Qr r)).map Value.string)/\qw base w w':=by
 obtain⟨x0,L,a,cap,hx0,hL,rfl,hL3,Q4⟩:=qp2 hv hok;have q8c:=qto hx0 hL;rw[<- q8c];have hr0:r.head.rel=x0.1.1.rel:=by rw[hx0]
 have hv0:v0=x0.1.2:=by rw[hx0]
 rw[hr0,hv0] at hB;clear q8c hr0 hv0 hx0 hL hv hok;obtain⟨va0,vc0,hvf⟩:=qn qr;obtain⟨N,hN⟩:∃N,w.heap.size=N:=⟨_,rfl⟩;obtain⟨i0,hi,hz0,hz1,hz2⟩:=info_parts Tryz.info9;have Qbk:B < w.heap.size:=(zg hB).1;rw[hvf] at qr ⊢;refine (callsIn_wide (n:=8)).1 ?_;refine callsIn_of_wp_marks Tryz.func76 rfl trivial ?_ rfl;simp only[Tryz.ntmps76,List.size_toArray,List.length_cons,List.length_nil,Nat.reduceAdd,Nat.reduceSub,Array.replicate_succ,Array.replicate_zero,List.push_toArray,List.append_toArray,List.nil_append,List.cons_append]
 gi_wp2
 obtain⟨W0,hW0⟩:∃W0,w.alloc (.cells #[.slice va0 vs.length vc0] 22)=W0:=⟨_,rfl⟩;have hb0:Below w.heap.size w W0:=by rw[<- hW0];exact (Below.refl _ w).alloc zl _
 have hs0:W0.heap.size=N+1:=by rw[<- hW0,<- hN];simp
 have bV:Boxed W0 N 22 (.slice va0 vs.length vc0):=by
  have:=Boxed.new w 22 (.slice va0 vs.length vc0);rw[hN,hW0] at this;exact this
 have bR:W0.heap[B]?=some (Obj.cells #[.string x0.1.1.rel,x0.1.2,.slice a L.length cap] 136):=(hb0.block B Qbk).trans hB
 have qpa:L≠[]->∃(g off:Nat) (cur:Array Vq),a=some ⟨g,off,none⟩/\W0.heap[g]?=some (Obj.cells cur 92)/\(cur.toList.drop off).take (L.length*2)=L.flatMap λx=>[.string x.1.1.rel,x.1.2]:=λhne=>by
  obtain⟨g,off,cur,h1,h2,h3⟩:=Q4 hne;exact⟨g,off,cur,h1,qf.ofBelow hb0 _ _ _ (.inr (.inl rfl)) h2,h3⟩
 have qga:=qk qr hb0;have q91:qw base w W0:=by rw[<- hW0];exact (qw.refl base w).alloc _
 (try simp only[hN])
 rw[hW0];clear hW0 Q4 hB
 refine qhd (n:=8) (gf:=141) (lb:=#[.pointer (some ⟨B,0,none⟩)]) rfl (enters_of Tryz.func141 (by kernel_rfl) rfl)
  (q2d 7 (by decide) B w b87 x0 L (by omega) a cap W0 (qf.ofBelow hb0) bR qpa) qaa.tr (λV o o' ho hc=>qaa.put V _ o o' (by omega) ho hc) (λ_=>rfl)
  (λpre V=>∃v,Boxed V N 22 v/\V.ownsRow base 9 1 v (nmL vs pre).length ((nmL vs pre).map Value.string)/\qw base w V)
  (λ_ _ _=>False)
  ?hI (λ_ _ _ _ _ h _ _=>h) ⟨_,bV,qga,q91⟩
  (λt a' V=>∃Bx,V.heap[Bx]?=some (Obj.cells #[.string t.name,.int .i64 t.num] 166)/\a'={tmps:=#[.slice va0 vs.length vc0,.func (.func 141) #[] #[.pointer (some ⟨B,0,none⟩)],.pointer (some ⟨N,0,none⟩),undef,.slice none 0 0,.pointer (some ⟨Bx,0,none⟩),.func (.func 141) #[] #[.pointer (some ⟨B,0,none⟩)],.agg #[.string t.name,.int .i64 t.num],undef,undef,undef,undef,undef,undef,undef,undef,undef,undef,undef,undef,undef,undef,undef,undef],defers:=[]})
  ?hAx ?assign ?body ?done (λ_ _ _ _ _ _ h _=>h.elim)
 case hI=>
  rintro pre V V' row ⟨v,h1,h2,h3⟩ hg hr;have hk:=qj hg (λr e=>(hr r e).2);exact⟨v,hk _ _ _ _ h1,q8 h2 (λg c _ hc=>hk g c _ _ hc),h3.grown hg (λk e=>.inl (by have:=(hr k e).1;omega))⟩
 case hAx=>
  rintro x a' _ V V' row ⟨Bx,h2,h3⟩ hg hr;exact⟨Bx,qj hg (λr e=>(hr r e).2) _ _ _ _ h2,h3⟩
 case assign=>
  rintro l' pre t V K hl hlr ⟨v,h1,h2,h3⟩ hK;have HK:Hid _:=hK;clear hK
  gi_wp2
  have hbl:Below V.heap.size V (V.alloc (.cells #[.string t.name,.int .i64 t.num] 166)):=(Below.refl _ V).alloc zl _;exact HK.out _ _ (KeepsFrom.ofBelow hbl) (qaa.ofBelow hbl) ⟨v,h1.alloc _,h2.alloc _,h3.alloc _⟩ ⟨V.heap.size,World.alloc_heap_new V _,rfl⟩
 case done=>
  rintro D xs V hD rfl ⟨v,h1,h2,h3⟩ hK;have c1:=h1.cell
  gi_wp2
  refine⟨by simp,.inl ⟨_,_,rfl,run_takeDeferred hK,?_⟩⟩;have hk:=qj (grownBy_putObj' V D (.deferred none)) (λr e=>by cases e;exact⟨_,hK,rfl⟩);refine⟨_,results_tmp rfl _ _ _,v,rfl,q8 h2 (λg c _ hc=>hk g c _ _ hc),?_⟩;exact h3.grown (grownBy_putObj' V D (.deferred none)) (λk e=>.inl (by cases e;omega))
 case body=>
  rintro l' pre t a' V hl' ⟨r,hr⟩ ⟨v,h1,h2,h3⟩ ⟨Bx,hbx,rfl⟩ hlt;have q0i:=q4m pre vs;have Qfk:(nmL vs pre).length<=950:=by omega
  have hN1:N<=V.heap.size:=by have:=h3.size;omega
  have q20:Bx < V.heap.size:=(zg hbx).1;have c0:V.cell? ⟨Bx,0,none⟩=some (.string t.name):=by simp[World.cell?,hbx]
  have c1:V.cell? ⟨Bx,1,none⟩=some (.int .i64 t.num):=by simp[World.cell?,hbx]
  have hsn:=qvh vs pre t;have hiv:=qb6 t V;obtain⟨va,vc,rfl⟩:=qn h2;have hcs:=qj4 (nmL vs pre) t.name;generalize hvs:nmL vs pre=us at *;have HS:Hid (nmL vs (pre++[t])=qax us t):=hsn;clear hsn hvs
  cases htv:t.name.toList.isEmpty with
  | true=>
   rw[htv] at hiv;have q9:Hid (nmL vs (pre++[t])=us):=by show _=_;rw[HS.out];unfold qax;rw[if_pos htv]
   clear htv
   gi_wp2_with (refine⟨trivial,?_⟩;gi_at_call 139;refine (CallsIn.inRound l' (callsIn_wide.2 hiv)).mono ?_;rintro e V1 ⟨rfl,hb1⟩)
   refine⟨trivial,?_⟩
   gi_wp2
   refine⟨KeepsFrom.ofBelow hb1,qaa.ofBelow hb1,.slice va us.length vc,?_,?_,?_⟩
   ·exact (hb1.block _ h1.lt).trans h1
   ·rw[q9.out];exact qk h2 hb1
   ·exact h3.trans (qw.ofBelow hb1)
  | false=>
   rw[htv] at hiv;have HIV:Hid _:=hiv;have hst:Hid (qax us t=Qc us t.name):=by show _=_;unfold qax;rw[if_neg (by simp[htv])]
   clear htv hiv
   have qhp:Hid (∀V1,Below V.heap.size V V1->Boxed V1 N 22 (.slice va us.length vc)/\V1.ownsRow base 9 1 (.slice va us.length vc) us.length (us.map Value.string)/\V1.cell? ⟨Bx,0,none⟩=some (.string t.name)/\qw base w V1):=λV1 hb1=>
    ⟨(hb1.block _ h1.lt).trans h1,qk h2 hb1,(hb1.cell (p:=⟨Bx,0,none⟩) q20).trans c0,h3.trans (qw.ofBelow hb1)⟩
   cases hct:Lib.containsS us t.name with
   | true=>
    have q9:Hid (nmL vs (pre++[t])=us):=by
     show _=_;rw[HS.out,hst.out];unfold Qc;rw[if_pos (by rw[hct] at hcs;simpa using hcs.symm)]
    have HCT:Hid _:=hct;clear hct hcs h1 h2 h3
    gi_wp2_with (first | (refine⟨trivial,?_⟩;gi_at_call 139;refine (CallsIn.inRound l' (callsIn_wide.2 HIV.out)).mono ?_;rintro e V1 ⟨rfl,hb1⟩;obtain⟨k1,k2,k3,k4⟩:=qhp.out V1 hb1;have kc:=k1.cell) | (refine⟨trivial,?_⟩;gi_at_call 140;refine (CallsIn.inRound l' (callsIn_wide.2 (qe4 k2 (by omega) t.name))).mono ?_;rintro e w' ⟨rfl,hw'⟩;obtain rfl:V1=w':=hw'.symm;rw[HCT.out]))
    exact⟨KeepsFrom.ofBelow hb1,qaa.ofBelow hb1,_,k1,by rw[q9.out];exact k2,k4⟩
   | false=>
    have q9:Hid (nmL vs (pre++[t])=us++[t.name]):=by
     show _=_;rw[HS.out,hst.out];unfold Qc;rw[if_neg (by rw[hct] at hcs;simpa using hcs.symm)]
    have HCT:Hid _:=hct;clear hct hcs h1 h2 h3;have qhq:us.length+1<=maxLen:=by unfold maxLen;omega
    have qdz:(us.length+1)*16<=140737488355328:=by omega
    have hVN:Hid (∀V1 w1,Below V.heap.size V V1->(V1.alloc (.cells #[.string t.name] 9)).grownBy w1 (Value.slice va us.length vc).ownBlock->Boxed w1 N 22 (.slice va us.length vc)/\Chg V1 w1 (λj=>some j=(Value.slice va us.length vc).ownBlock)):=by
     intro V1 w1 hb1 hg;obtain⟨k1,k2,k3,k4⟩:=qhp.out V1 hb1;have hc:Chg V1 w1 (λj=>some j=(Value.slice va us.length vc).ownBlock):=((Chg.refl V1 _).alloc _).grown hg (λk e _=>e.symm);exact⟨(hc.block _ k1.lt (λe=>Qj k2 k1 (by decide) _ e.symm rfl)).trans k1,hc⟩
    have hbb:Hid (∀V1,Below V.heap.size V V1->base<=(V1.alloc (.cells #[.string t.name] 9)).heap.size):=λV1 hb1=>by
     have:=hb1.size;show base<=_;simp;omega
    gi_wp2_with (first | (refine⟨trivial,?_⟩;gi_at_call 139;refine (CallsIn.inRound l' (callsIn_wide.2 HIV.out)).mono ?_;rintro e V1 ⟨rfl,hb1⟩;obtain⟨k1,k2,k3,k4⟩:=qhp.out V1 hb1;have kc:=k1.cell) | (refine⟨trivial,?_⟩;gi_at_call 140;refine (CallsIn.inRound l' (callsIn_wide.2 (qe4 k2 (by omega) t.name))).mono ?_;rintro e w' ⟨rfl,hw'⟩;obtain rfl:V1=w':=hw'.symm;rw[HCT.out]) | (gi_at_builtin;refine wpListIn_append_own _ rfl _ _ 22 rfl base 9 i0 (.string ⟨#[]⟩) 1 16 Tryz.underlying22 hi hz0 hz1 hz2 rfl (by decide) _ _ _ rfl (World.ownsRow.alloc k2 _) ⟨V1.heap.size,0,none⟩ 1 1 [.string t.name] rfl rfl (cell_one_new _ _ _) (by simp[Value.oneCell']) qhq qdz (hbb.out V1 hb1) ?_;intro v' w1 hown1 hgrow1 _;obtain⟨g',cap',hv'⟩:=ownsRow_succ hown1;subst hv';obtain⟨qcg,qxb⟩:=hVN.out V1 w1 hb1 hgrow1;have cc:=qcg.cell;have ff:=qcg.frozen))
    have qgp:Chg V1 (w1.setCell ⟨N,0,none⟩ (.slice (some ⟨g',0,none⟩) (us.length+1) cap')) (λj=>j=N\/some j=(Value.slice va us.length vc).ownBlock):=(qxb.mono (λ_ _ e=>.inr e)).setCell ⟨N,0,none⟩ _ (λ_=>.inl rfl)
    obtain⟨hkf,hak⟩:=qnj (m:=W0.heap.size) qgp (λj hj hx=>by
     rcases hx with rfl | hx
     ·exact⟨_,_,k1,by decide,by decide,by decide,by decide⟩
     ·obtain⟨_,c,hc⟩:=qe k2 hx.symm;exact⟨c,_,hc,by decide,by decide,by decide,by decide⟩)
    refine⟨KeepsFrom.trans (KeepsFrom.ofBelow hb1) hkf,(qaa.ofBelow hb1).tr (hak _),_,qbv qcg _,?_,?_⟩
    ·rw[q9.out];have:=Qn hown1 ⟨N,0,none⟩ (.slice (some ⟨g',0,none⟩) (us.length+1) cap') (Qj hown1 qcg (by decide));simpa using this
    ·exact (k4.alloc _ |>.grown hgrow1 (λj e=>by
      obtain⟨hbj,d,hd⟩:=qe k2 e
      exact .inr ⟨hbj,d,_,(Below.heap_alloc _ _ _ (zg hd).1).trans hd⟩)).setCell (Nat.le_of_eq hN) _
