/- A part -/
import Derived.Test.YtjajnhemgphefaaGreatDoorQEgA
import Derived.Maps.AppendAt
import Derived.Laws.StructEq
import Derived.Maps.OwnIn
import Derived.Maps.OwnSet
set_option linter.all false
set_option maxRecDepth 100000
set_option maxHeartbeats 1000000
open List renaming length->aD,getElem?_take->bC,append_toArray->bI,drop_eq_getElem_cons->bJ,size_toArray->bL,push_toArray->bO,length_cons->bQ,cons_append->bT,take_succ_eq_append_getElem->bU,any_eq_true->bX,getElem_mem->bZ,length_nil->cA,nil_append->cD,nodup_cons->cE,getElem?_drop->cF,mem_cons->cI,take_of_length_le->cJ,drop_of_length_le->cL,take_prefix->cP,flatMap_map->cQ,map_append->cR,map_cons->cS
open Go.World renaming cell?->aE,frozen?->aF,ownsRow->aH,size_alloc->bE
open Go.Value renaming ownBlock->aI,slice->aJ,string->aK,agg->aL,bool->aM,tuple->aN,int->aO
open Go.Obj renaming cells->aP
open Go.Ending renaming returned->aQ
open Go.IntKind renaming i64->aR
open Or renaming inl->aS,inr->aU
open Option renaming some->aX,none->aY
open Go renaming undef->aZ,grownBy_putObj'->cZ,KeepsFrom->dA,callsIn_wide->dD,OwnFrom->dE,wpListIn_lookup_own_ok_int->dI,run_takeDeferred->dK,callsIn_of_wp_marks->dM,Boxed->dO,bodyPost_ret->dP,results_none->dQ,wpListIn_mapUpdate_own->dS,LeavesInM->dT
open Go.RowKit.Below renaming refl->bB,heap_alloc->bD,heap_setCell->cO,cell->cU
open Array renaming replicate_succ->bF,replicate_zero->bG
open Go.Calls renaming mono->bH
open Nat renaming reduceAdd->cG,reduceSub->cH,add_assoc->cM,le_of_eq->cT
open Go.RowKit renaming Below->cW
open Go.Proofs.Tryz renaming prog->cX,underlying9->dC,underlying3->dF,underlying285->dG,zeroValue3->dR,func163->dU,results100->dV
open Go.Fence renaming wide->dB
open Go.Maps renaming string_keyed->dH
open Go.CallsIn renaming inRound->dJ
open Go.Oper renaming semAt_some->dL
namespace Go.Proofs.YtjajnhemgphefaaGreatDoor
open Go renaming World->Wq,Value->Vq
open Go.RowKit Go.Shelf
attribute [local go_sem] dL
def nA(w0:Wq)(b:Nat):Type:={p:Am×Vq // Qg w0 b p.2 p.1.d/\lO p.1}
def qf(W W':Wq):Prop:=∀(k:Nat) (c:Array Vq) (t:TypeId),(t=136\/t=92\/t=166)->W.heap[k]?=aX (aP c t (0,0))->W'.heap[k]?=aX (aP c t (0,0))
def qf.j(W:Wq):qf W W:=λ_ _ _ _ h=>h
def qf.trans{A B C:Wq}(h:qf A B)(k:qf B C):qf A C:=λi c t z E=>k i c t z (h i c t z E)
def qf.d{W W':Wq}(h:cW W.heap.size W W'):qf W W':=λk c t _ z=>(h.b k (zg z).1).t z
def qf.H(W:Wq)(l:Nat)(o z:Obj)(h:W.heap[l]?=aX o)(C:o.isCells=false):qf W (W.putObj l z):=λk c t _ A=>qn (cZ W l z) (λr e=>by cases e;exact⟨_,h,C⟩) k c t _ A
def Qg.a{W W':Wq}{b:Nat}{v:Vq}{l:List Tm}(h:Qg W b v l)(A:qf W W'):Qg W' b v l:=h.o (λk c _ z=>A k c _ (aU (aU rfl)) z)
def gP.a{W W':Wq}{ag ac:Nat}{v:Vq}{l:List Am}(h:gP W ag ac v l)(A:qf W W'):gP W' ag ac v l:=h.o (λk c _ z=>A k c _ (aU (aS rfl)) z) (λk c _ z=>A k c _ (aU (aU rfl)) z)
def BI(c:Array Vq)(x y z:Vq)(A:c=#[x,y,z])(C:x.oneCell'=true)(E:y.oneCell'=true)(G:z.oneCell'=true)(w:Wq):Cs 98 #[aL c] w λe w'=>e=aQ (.func (.func 163) #[] #[Pt w.heap.size])/\w'=w.alloc (aP #[x,y,z] 136):=by subst A;go_enter Tryz.func98,Tryz.ntmps98;go_wp2;go_ret;exact⟨rfl,rfl⟩
theorem yz{α:Type}(f g:α->Vq)(l:List α)(i:Nat)(h:i<aD l):(l.flatMap λx=>[f x,g x])[i*2]?=aX (f l[i])/\(l.flatMap λx=>[f x,g x])[i*2+1]?=aX (g l[i]):=by
 induction l generalizing i with
 |nil=>simp at h
 |cons a l ih=>grind
def Nv(n:Nat)(hn:1<=n)(l B:Nat)(w0:Wq)(ac:Nat)(z:nA w0 ac)(L:List (nA w0 ac))(hL:aD L<=1000)(a:Option Addr)(A:Nat)(J Jx:List (nA w0 ac)->Wq->Prop)(W:Wq)(hJ:AbidesFrom W.heap.size J)(hY:∀pre x W1,J pre W1->aD pre<aD (z::L)->YieldAt dB (n-1) cX l #[aL #[aK x.1.1.j,x.1.2]] W1 λe W'=>
   (e=aQ (aM true)/\J (pre++[x]) W'/\qf W1 W')\/(e=aQ (aM false)/\Jx (pre++[x]) W'))(E:W.heap[B]?=cC #[aK z.1.1.j,z.1.2,aJ a (aD L) A] 136)(Qv:L≠[]->∃(g ae:Nat) (ai:Array Vq),a=aX ⟨g,ae,aY⟩/\W.heap[g]?=cC ai 92/\(ai.toList.drop ae).take (aD L*2)=L.flatMap λx=>[aK x.1.1.j,x.1.2])(h0:J [] W):CallsIn dB n cX 163 #[.func (.yield l) #[] #[],Pt B] W λe W'=>(∃v,e=aQ v)/\
   ((∃ys,ys=z::L/\J ys W')\/(∃pre,pre <+: z::L/\Jx pre W')):=by
 refine callsIn_of_wp dU rfl trivial ?_ rfl;simp only[Tryz.ntmps163,bL,bQ,cA,cG,cH,bF,bG,bO,bI,cD,bT];have HY:=aA hY;have HJ:=aA hJ;have im:aE W (Ad B 0)=aX (aK z.1.1.j):=zc E;have e8:aE W (Ad B 1)=aX z.1.2:=zc E;have ao:∃G n' c',z.1.2=aJ G n' c':=by have⟨G,c',e⟩:=z.2.1.c;exact⟨G,_,c',e⟩
 have⟨fn,tmps,assign,body,hy,hR⟩:=hY [] z W h0 (by simp);clear hY hJ;have⟨fa,i9,fc,hf⟩:=ao;rw[hf] at e8 hy;gi_wp2;refine hR.mono ?_;rintro e W1 (⟨rfl,ii,f1⟩|⟨rfl,ej⟩)
 .have eu:=f1 _ _ _ (aS rfl) E;have iv:aE W1 (Ad B 2)=aX (aJ a (aD L) A):=zc eu;clear hy hR im e8;gi_wp2;gi_loopw [13] (λi wr=>∃k:Nat,k<=aD L/\i=aO aR k/\J (z::L.take k) wr/\qf W wr) (λi _=>aD L-(intOf i).toNat)
  case atStart=>exact⟨0,zz,rfl,ii,f1⟩
  obtain⟨k,hk,rfl,O,ck⟩:=hrel;by_cases C:k<aD L
  .obtain⟨g,ae,ai,rfl,hg,M⟩:=Qv (by intro e;rw[e] at C;simp at C);have dx:=ck _ _ _ (aU (aS rfl)) hg;have⟨p0,p1⟩:=yz (λx:nA w0 ac=>aK x.1.1.j) (λx=>x.1.2) L k C;rw[<-M,bC,if_pos (by omega),cF] at p0;rw[<-M,bC,if_pos (by omega),cF] at p1;have cl:z::L.take (k+1)=(z::L.take k)++[L[k]]:=by{rw[bU C];rfl};have du:=aA cl;have gw:Hid ((z::L.take k)++[L[k]] <+: z::L):=by{show _ <+: _;rw[<-cl];exact List.cons_prefix_cons.2 ⟨rfl,cP _ _⟩};clear cl;have av:aD (z::L.take k)<aD (z::L):=by{simp;omega};generalize L[k]=xk at *;have⟨el,d8,ea⟩:=xk.2.1.c;have q0:aE wr (Ad g (ae+k*2))=aX (aK xk.1.1.j):=by{simp only[aE,dx];simpa using p0};have q1:aE wr (Ad g (ae+k*2+1))=aX (aJ el (aD xk.1.1.d) d8):=by{simp only[aE,dx];rw[<-ea];simpa [cM] using p1};have am:cW wr.heap.size wr (wr.alloc (aP #[aK xk.1.1.j,aJ el (aD xk.1.1.d) d8] 92)):=(bB _ wr).l zl _;have⟨iz,c8,assign2,body2,dg,cz⟩:=HY.o (z::L.take k) xk (wr.alloc (aP #[aK xk.1.1.j,aJ el (aD xk.1.1.d) d8] 92)) (HJ.o _ _ _ aY O (qi am) (λr e=>by cases e)) av;rw[ea] at dg;clear p0 p1 M ea E Qv iv eu;gi_wp2;refine cz.mono ?_;rintro e W3 (⟨rfl,ek,cq⟩|⟨rfl,cf⟩)
   .clear dg cz;gi_wp2;go_roundw
    case rel=>exact⟨k+1,by omega,by go_num,du.o▸ek,(ck.trans (qf.d am)).trans cq⟩
    simp[intOf];omega
   gi_wp2;refine dP (dQ rfl _ _ _) rfl ?_;exact⟨⟨_,rfl⟩,aU ⟨_,gw.o,cf⟩⟩
  gi_wp2;go_end0;exact⟨⟨_,rfl⟩,aS ⟨_,rfl,by rwa[cJ (by omega)] at O⟩⟩
 gi_wp2;refine dP (dQ rfl _ _ _) rfl ?_;exact⟨⟨_,rfl⟩,aU ⟨[z],⟨L,rfl⟩,ej⟩⟩
def zZ(n:Nat)(hn:1<=n)(B:Nat)(w0:Wq)(ac:Nat)(z:nA w0 ac)(L:List (nA w0 ac))(hL:aD L<=1000)(a:Option Addr)(A:Nat)(w:Wq)(O:w.heap[B]?=cC #[aK z.1.1.j,z.1.2,aJ a (aD L) A] 136)(G:L≠[]->∃(g ae:Nat) (ai:Array Vq),a=aX ⟨g,ae,aY⟩/\w.heap[g]?=cC ai 92/\(ai.toList.drop ae).take (aD L*2)=L.flatMap λx=>[aK x.1.1.j,x.1.2]):SeqStopsK dB n cX 163 #[Pt B] (λx:nA w0 ac=>#[aL #[aK x.1.1.j,x.1.2]]) qf (λys=>ys=z::L) (λpre=>pre <+: z::L) (aD (z::L)) w:=
 λl J E W C hJ _ hY h0=>Nv n hn l B w0 ac z L hL a A J E W hJ hY (qf.d C _ _ _ (aS rfl) O)
  (λM=>by have⟨g,ae,ai,h1,h2,h3⟩:=G M;exact⟨g,ae,ai,h1,qf.d C _ _ _ (aU (aS rfl)) h2,h3⟩) h0
def tf{α:Type}(n gf:Nat)(lb:Array Vq)(aq:α->Array Vq)(Kp:Wq->Wq->Prop)(S Sp:List α->Prop)(N:Nat)(w:Wq):Prop:=
 ∀(l:Nat) (J Jx:List α->Wq->Prop) (W:Wq),cW w.heap.size w W->w.heap.size+2<=W.heap.size->dE W.heap.size J->dE W.heap.size Jx->
  (∀pre x W1,J pre W1->aD pre<N->YieldAt dB (n-1) cX l (aq x) W1 λe W'=>(e=aQ (aM true)/\J (pre++[x]) W'/\Kp W1 W')\/(e=aQ (aM false)/\Jx (pre++[x]) W'/\dA (w.heap.size+2) W1 W'))->
  J [] W->CallsIn dB n cX gf (#[.func (.yield l) #[] #[]]++lb) W λe W'=>(∃v,e=aQ v)/\((∃xs,S xs/\J xs W')\/(∃pre,Sp pre/\Jx pre W'))
def KeepsFrom.g{m:Nat}{A B C:Wq}(h:dA m A B)(k:dA m B C):dA m A C:=⟨Nat.le_trans h.size k.size,λi o E G z=>k.same i o E (h.same i o E G z) z⟩
def KeepsFrom.h{m z:Nat}{A B:Wq}(h:dA m A B)(M:m<=z):dA z A B:=⟨h.size,λi o G E C=>h.same i o (by lia) E C⟩
def KeepsFrom.d{m:Nat}{W W':Wq}(h:cW W.heap.size W W'):dA m W W':=⟨h.s,λk o _ z _=>(h.b k (zg z).1).t z⟩
def KeepsFrom.H{m:Nat}(W:Wq)(l:Nat)(z:Obj)(E:l<m):dA m W (W.putObj l z):=
 ⟨(cZ W l z).size,λk x C A _=>((cZ W l z).b k (zg A).1 (by simp;lia)).t A⟩
def tf.a{α:Type}{n gf:Nat}{lb:Array Vq}{aq:α->Array Vq}{Kp:Wq->Wq->Prop}{S Sp:List α->Prop}{N:Nat}{w:Wq}(h:SeqStopsK dB n cX gf lb aq Kp S Sp N w):tf n gf lb aq Kp S Sp N w:=by
 intro l J G W hW _ hJ M hY h0;refine h l J G W hW (λs A B row hs C E=>hJ s A B row hs C (λr e=>?_)) (λs A B row hs C E=>M s A B row hs C (λr e=>?_)) (λpre x W1 z O=>(hY pre x W1 z O).mono (λe W' h=>h.imp id (λk=>⟨k.1,k.2.1⟩))) h0;all_goals
  have⟨z,o,ho,hw⟩:=E r e;exact⟨z,o,ho,Obj.not_cells_of_walk hw⟩
structure jU(I:Wq->Prop)(D:Nat)(rec:Loop)(W:Wq):Prop where
 d:I W
 c:W.heap[D+1]?=aX (.loop rec)
 h:W.heap[D]?=aX (.deferred (aX []))
def jU.z{β:Type}{I:β->Wq->Prop}{B D:Nat}{rec:β->Loop}(hI:dE B I)(hB:D+2<=B):dE B (λs=>jU (I s) D (rec s)):=by rintro s W W' row ⟨G,M,O⟩ A E;have z:∀(k:Nat) (o:Obj),k<B->W.heap[k]?=aX o->W'.heap[k]?=aX o:=λk o z C=>(A.b k (zg C).1 (λe=>by have:=(E k e.s).1;lia)).t C;exact⟨hI s W W' row G A E,z _ _ (by lia) M,z _ _ (by lia) O⟩
section
variable {α:Type} {n gf:Nat} {lb:Array Vq} {aq:α->Array Vq} {Kp:Wq->Wq->Prop} {S Sp:List α->Prop} {N:Nat}
def x8{g:Operand}{ps:Array Tmp}{assign body:Code}{Q:Exit->Act->Wq->Prop}{a:Act}{w:Wq}(hg:a.eval g=.func (.func gf) #[] lb)(eg:∀args w,(callFunc gf args).run cX w=.ok (.enter gf args) w)(ec:tf (n-1) gf lb aq Kp S Sp N w)(ei:∀{A B C:Wq},Kp A B->Kp B C->Kp A C)(fb:∀(W:Wq) (o o':Obj),W.heap[w.heap.size+1]?=aX o->o.isCells=false->Kp W (W.putObj (w.heap.size+1) o'))(g4:∀x,(aq x).size=ps.size)(I:List α->Wq->Prop)(Ix:Code->List α->Wq->Prop)(hI:dE w.heap.size I)(hIx:∀c,dE w.heap.size (Ix c))(h0:I [] w)(Ax:α->Act->Wq->Prop)(hAx:∀x a',dE w.heap.size (λ(_:Unit) W=>Ax x a' W))(bv:∀(l:Nat) (pre:List α) (x:α) (W:Wq) (K:Act->Wq->Prop),w.heap.size<=l->(∃r,W.heap[l]?=aX (.loop r))->I pre W->(∀a' W',dA w.heap.size W W'->Kp W W'->I pre W'->Ax x a' W'->K a' W')->
   assign.wpIn (Fence.wide.inRound l) (n-1-1) cX (Exit.then K (λ_ _ _=>False)) {tmps:=(ps.zip (aq x)).foldl (λt (p,v)=>t.setIfInBounds p v) a.tmps,defers:=[]} W)(iu:∀(l:Nat) (pre:List α) (x:α) (a':Act) (W:Wq),w.heap.size<=l->(∃r,W.heap[l]?=aX (.loop r))->I pre W->Ax x a' W->aD pre<N->body.wpIn (Fence.wide.inRound l) (n-1-1) cX (ownPostG w.heap.size Kp I Ix (pre++[x]) W) a' W)(h6:∀(D:Nat) (xs:List α) (W:Wq),w.heap.size<=D->S xs->I xs W->W.heap[D]?=aX (.deferred (aX []))->Q .normal {a with defers:={target:=.collected D,args:=#[]}::a.defers} W)(gz:∀(D:Nat) (c:Code) (pre:List α) (W:Wq),w.heap.size<=D->Sp pre->Ix c pre W->W.heap[D]?=aX (.deferred (aX []))->c.wpIn dB n cX Q {a with defers:={target:=.collected D,args:=#[]}::a.defers} W):(Code.rangeFunc g ps assign body).wpIn dB n cX Q a w:=by
 refine wpIn_rangeFunc (λfn ja=>?_)
 let G:LoopState->Option Code->Loop:=λst pe=>{state:=st,pending:=pe,fn:=fn,tmps:=a.tmps,params:=ps,assign:=assign,body:=body,defers:=w.heap.size}
 let wA:=w.alloc (.deferred (aX []))
 let O:=wA.alloc (.loop (G .ready aY))
 have sA:wA.heap.size=w.heap.size+1:=by simp[wA]
 have sB:O.heap.size=w.heap.size+2:=by simp[O,wA]
 have gB:cW w.heap.size w O:=((bB _ w).l zl _).l (by simp) _
 have gm:jU (I []) w.heap.size (G .ready aY) O:=by
  refine⟨hI _ _ _ aY h0 (qi gB) (λr e=>by cases e),?_,?_⟩;{have:=zn wA (.loop (G .ready aY));rwa[sA] at this};{exact (bD wA _ _ (by omega)).t (zn w _)}
 have b4:∀{I':Wq->Prop}{r:Loop}(r':Loop){W:Wq},dE w.heap.size (λ(_:Unit)=>I')->jU I' w.heap.size r W->jU I' w.heap.size r' (W.putObj (w.heap.size+1) (.loop r')):=by intro I' r r' W ho z;exact⟨ho.putObj (s:=()) _ z.d (by omega) z.c rfl,World.putObj_heap_same (zg z.c).1,(World.putObj_heap_other (by omega)).t z.h⟩
 have oI:∀pre,dE w.heap.size (λ(_:Unit)=>I pre):=λpre _ A B row hs bf E=>hI pre A B row hs bf E;have oX:∀c pre,dE w.heap.size (λ(_:Unit)=>Ix c pre):=λc pre _ A B row hs bf E=>hIx c pre A B row hs bf E;have up:∀{β:Type} {X:β->Wq->Prop},dE w.heap.size X->dE O.heap.size X:=λh s A B row hs bf E=>h s A B row hs bf (λr e=>⟨by have:=(E r e).1;omega,(E r e).2⟩);have oJ:dE O.heap.size (λpre=>jU (I pre) w.heap.size (G .ready aY)):=jU.z (up hI) (by omega);have gg:dE O.heap.size (λpre W=>∃c,jU (Ix c pre) w.heap.size (G .done (aX c)) W):=by rintro pre A B row ⟨c,hc⟩ bf E;exact⟨c,jU.z (I:=λ_:Unit=>Ix c pre) (rec:=λ_=>G .done (aX c)) (up (oX c pre)) (by omega) () A B row hc bf E⟩
 refine⟨w.heap.size+1,[{target:=.collected w.heap.size,args:=#[]}],O,{target:=.fn (.func gf) lb,args:=#[.func (.yield (w.heap.size+1)) #[] #[]]},O,gf,#[.func (.yield (w.heap.size+1)) #[] #[]]++lb,O,run_enterLoop_outer _ _ _ _ _,?_,λ_ _=>trivial,?_,(λh=>(by cases h)),?_⟩
 .simp only[resolve,hg];simp[go_sem]
 .simp[invoke,go_sem,eg]
 refine (ec (w.heap.size+1) (λpre=>jU (I pre) w.heap.size (G .ready aY)) (λpre W=>∃c,jU (Ix c pre) w.heap.size (G .done (aX c)) W) O gB (by omega) oJ gg ?_ gm).mono ?_
 .intro pre x W z av;have hy:=run_yield (P:=cX) (args:=aq x) z.c (g4 x);refine⟨fn,_,assign,body,hy,roundIn_of_wpIn trivial (bv _ pre x W _ (by omega) ⟨_,z.c⟩ z.d ?_)⟩;intro a' Wa kA gp iA ib;have d0:jU (I pre) w.heap.size (G .ready aY) Wa:=⟨iA,kA.same _ _ (by omega) z.c rfl,kA.same _ _ zl z.h rfl⟩;refine⟨_,run_beginRound d0.c rfl,?_⟩;have dd:=b4 {G .ready aY with state:=.busy} (oI pre) d0;have g3:=fb Wa _ (.loop {G .ready aY with state:=.busy}) d0.c rfl;refine wpIn_mono (iu _ pre x a' _ (by omega) ⟨_,dd.c⟩ dd.d ((hAx x a').putObj (s:=()) _ ib (by omega) d0.c rfl) av) ?_;intro e a3 W3 hp
  have done:∀(a9:Option Code){I':Wq->Prop},dE w.heap.size (λ(_:Unit)=>I')->dA w.heap.size (Wa.putObj (w.heap.size+1) (.loop {G .ready aY with state:=.busy})) W3->I' W3->
    ∃W4,(Instr.endRound (w.heap.size+1) a9).run cX W3=.ok (aM a9.isNone) W4/\jU I' w.heap.size (G (if a9.isNone then .ready else .done) a9) W4/\Kp W3 W4/\dA (w.heap.size+2) W W4:=by
   intro a9 I' ho M i3;have h3:jU I' w.heap.size {G .ready aY with state:=.busy} W3:=⟨i3,M.same _ _ (by omega) dd.c rfl,M.same _ _ zl dd.h rfl⟩;exact⟨_,run_endRound a9 h3.c,b4 _ ho h3,fb _ _ _ h3.c rfl,KeepsFrom.g (KeepsFrom.g (KeepsFrom.g (KeepsFrom.h kA (by omega)) (KeepsFrom.H _ _ _ (by omega))) (KeepsFrom.h M (by omega))) (KeepsFrom.H _ _ _ (by omega))⟩
  cases e with
  |normal=>have⟨M,kp,i3⟩:=hp;have⟨W4,E,h4,k4,_⟩:=done aY (oI _) M i3;exact⟨_,_,E,aS ⟨rfl,h4,ei gp (ei g3 (ei kp k4))⟩⟩
  |ret=>have⟨M,i3⟩:=hp;have⟨W4,E,h4,_,k4⟩:=done (aX .ret) (oX _ _) M i3;exact⟨_,_,E,aU ⟨rfl,⟨_,h4⟩,k4⟩⟩
  |exit id=>have⟨M,i3⟩:=hp;have⟨W4,E,h4,_,k4⟩:=done (aX (.exit id)) (oX _ _) M i3;exact⟨_,_,E,aU ⟨rfl,⟨_,h4⟩,k4⟩⟩
  |goto t=>have⟨M,i3⟩:=hp;have⟨W4,E,h4,_,k4⟩:=done (aX (.goto t)) (oX _ _) M i3;exact⟨_,_,E,aU ⟨rfl,⟨_,h4⟩,k4⟩⟩
  |panic ch=>exact hp.elim
  |outgrown=>exact hp.elim
 .rintro e W2 ⟨⟨v,rfl⟩,(⟨xs,hS,z⟩|⟨pre,ir,c,z⟩)⟩;{have h2:=b4 {G .ready aY with state:=.exhausted} (oI xs) z;exact⟨aY,_,run_endLoop z.c (by intro h;cases h),h6 _ xs _ zl hS h2.d h2.h⟩};{have h2:=b4 {G .done (aX c) with state:=.exhausted} (oX c pre) z;exact⟨aX c,_,run_endLoop z.c (by intro h;cases h),gz _ c pre _ zl ir h2.d h2.h⟩}
end
attribute [local go_sem] dL
structure jF(m:Nat)(W W':Wq):Prop where
 b:qf W W'
 a:∀(k:Nat) (c:Array Vq),W.heap[k]?=cC c 259->W'.heap[k]?=cC c 259
 f:dA m W W'
def jF.g{m:Nat}{A B C:Wq}(h:jF m A B)(k:jF m B C):jF m A C:=⟨h.b.trans k.b,λi c z=>k.a i c (h.a i c z),KeepsFrom.g h.f k.f⟩
def jF.d{m:Nat}{W W':Wq}(h:cW W.heap.size W W'):jF m W W':=⟨qf.d h,λk c z=>(h.b k (zg z).1).t z,KeepsFrom.d h⟩
def jF.H{m:Nat}(W:Wq)(l:Nat)(o z:Obj)(G:l<m)(h:W.heap[l]?=aX o)(C:o.isCells=false):jF m W (W.putObj l z):=
 ⟨qf.H W l o z h C,λk c A=>qn (cZ W l z) (λr e=>by cases e;exact⟨_,h,C⟩) k c _ _ A,
  (cZ W l z).size,λk x A E _=>((cZ W l z).b k (zg E).1 (by simp;lia)).t E⟩
def vF{n m l z:Nat}{f:FuncId}{tmps:Array Vq}{assign body:Code}{w:Wq}{R:Ending->Wq->Prop}(h:RoundIn dB n cX l f tmps assign body w R):RoundIn (Fence.wide.inRound z) m cX l f tmps assign body w R:=
 ⟨h.1,λc cs _=>h.2 c cs (room_wide _)⟩
def AE(c:Array Vq)(x y z:Vq)(A:c=#[x,y,z])(w:Wq):Cs 77 #[aL c] w λe w'=>e=aQ (.func (.func 141) #[] #[Pt w.heap.size])/\w'=w.alloc (aP #[x,y,z] 136):=by subst A;go_enter Tryz.func77,Tryz.ntmps77;go_wp2;go_ret;exact⟨rfl,rfl⟩
theorem I9{w0:Wq}{b:Nat}(L:List (nA w0 b)):aD (L.flatMap (·.1.1.d))<=aD L*2:=by
 induction L with
 |nil=>simp
 |cons x L ih=>have:=x.2.2.d;simp at ih ⊢;lia
def lC{w0:Wq}{b:Nat}(L:List (nA w0 b)):List Tm:=L.flatMap (·.1.1.d)
theorem KV(n:Nat)(hn:4<=n)(B:Nat)(w0:Wq)(ac:Nat)(z:nA w0 ac)(L:List (nA w0 ac))(hL:aD L<=1000)(a:Option Addr)(C:Nat)(w:Wq)(fi:qf w0 w)(hB:w.heap[B]?=cC #[aK z.1.1.j,z.1.2,aJ a (aD L) C] 136)(Qv:L≠[]->∃(g ae:Nat) (ai:Array Vq),a=aX ⟨g,ae,aY⟩/\w.heap[g]?=cC ai 92/\(ai.toList.drop ae).take (aD L*2)=L.flatMap λx=>[aK x.1.1.j,x.1.2]):tf n 141 #[.pointer (aX ⟨B,0,aY⟩)] (λt:Tm=>#[aL #[aK t.c,aO aR t.d]]) (jF (w.heap.size+2)) (λys=>ys=lC (z::L)) (λpre=>pre <+: lC (z::L)) ((aD L+1)*2) w:=by
 intro l J Jx W hW d1 hJ dv hY h0;generalize w.heap.size+2=m at d1 hY;have dw:=qf.d hW _ _ _ (aS rfl) hB;have Ql4:L≠[]->∃(g ae:Nat)(ai:Array Vq),a=aX ⟨g,ae,aY⟩/\W.heap[g]?=cC ai 92/\(ai.toList.drop ae).take (aD L*2)=L.flatMap λx=>[aK x.1.1.j,x.1.2]:=λbc=>by obtain⟨g,ae,ai,E,A,M⟩:=Qv bc;exact⟨g,ae,ai,E,qf.d hW _ _ _ (aU (aS rfl)) A,M⟩
 have Qol:=fi.trans (qf.d hW);clear hB Qv fi hW w;obtain⟨fa,fc,hf⟩:=z.2.1.c;refine dM Tryz.func141 rfl trivial ?_ rfl;simp only[Tryz.ntmps141,bL,bQ,cA,cG,cH,bF,bG,bO,bI,cD,bT];have Qj4:=(zg dw).1;have c0:=cZz dw;have c1:aE W (Ad B 1)=aX (aJ fa (aD z.1.1.d) fc):=by simp[aE,dw,hf]
 have n1:1<=n:=by omega
 have n2:1<=n-1:=by omega
 have n3:1<=n-1-1:=by omega
 have HY:Hid _:=hY;have HJ:=aA hJ;have HJx:=aA dv;clear hY hJ dv;gi_wp2_with (refine⟨trivial,?_⟩;gi_at_call 98;refine (dD.2 (BI _ _ _ _ rfl rfl rfl rfl _)).mono ?_;rintro e w' ⟨rfl,rfl⟩);obtain⟨NB,dt⟩:=aC W.heap.size;obtain⟨W0,ap⟩:=aC ((W.alloc (aP #[.func (.yield l) #[] #[]] 259)).alloc (aP #[aK z.1.1.j,aJ fa (aD z.1.1.d) fc,aJ a (aD L) C] 136));have au:cW W.heap.size W W0:=ap▸((bB _ W).alloc zl _).alloc (by simp) _
 have dh:W0.heap.size=NB+2:=by rw[<-ap,<-dt];simp
 have bY:W0.heap[NB]?=cC #[.func (.yield l) #[] #[]] 259:=by rw[<-ap,<-dt];exact (bD _ _ _ (by simp)).t (zn W _)
 have bR:W0.heap[NB+1]?=cC #[aK z.1.1.j,z.1.2,aJ a (aD L) C] 136:=by rw[<-ap,<-dt,hf];have:=zn (W.alloc (aP #[.func (.yield l) #[] #[]] 259)) (aP #[aK z.1.1.j,aJ fa (aD z.1.1.d) fc,aJ a (aD L) C] 136);rwa[bE] at this
 have cw:L≠[]->∃(g ae:Nat)(ai:Array Vq),a=aX ⟨g,ae,aY⟩/\W0.heap[g]?=cC ai 92/\(ai.toList.drop ae).take (aD L*2)=L.flatMap λx=>[aK x.1.1.j,x.1.2]:=λbc=>by obtain⟨g,ae,ai,E,A,M⟩:=Ql4 bc;exact⟨g,ae,ai,E,qf.d au _ _ _ (aU (aS rfl)) A,M⟩
 have Qom:=Qol.trans (qf.d au);have gq:=HJ.o _ _ _ aY h0 (qi au) (λr e=>by cases e);simp only[dt];rw[ap];clear ap;refine x8 (n:=n) (gf:=163) (lb:=#[.pointer (aX ⟨NB+1,0,aY⟩)]) rfl (enters_of dU (by kernel_rfl) rfl)
  (tf.a (zZ (n-1) n2 (NB+1) w0 ac z L hL a C W0 bR cw)) qf.trans (λV o o' ho hc=>qf.H V _ o o' ho hc) (λ_=>rfl)
  (λpre V=>J (lC pre) V/\V.heap[NB]?=cC #[.func (.yield l) #[] #[]] 259/\qf w0 V)
  (λc pre V=>c=.ret/\∃(az:List (nA w0 ac))(x:nA w0 ac)(k:Nat),pre=az++[x]/\Jx (lC az++x.1.1.d.take k) V)
  ?hI ?hIx ⟨gq,bY,Qom⟩
  (λx a' V=>∃Bx,V.heap[Bx]?=cC #[aK x.1.1.j,x.1.2] 92/\a'={tmps:=#[.func (.yield l) #[] #[],.pointer (aX ⟨B,0,aY⟩),.pointer (aX ⟨NB,0,aY⟩),.pointer (aX ⟨Bx,0,aY⟩),aZ,aZ,aL #[aK z.1.1.j,aJ fa (aD z.1.1.d) fc,aJ a (aD L) C],.func (.func 163) #[] #[.pointer (aX ⟨NB+1,0,aY⟩)],aL #[aK x.1.1.j,x.1.2],aZ,aZ,aZ,aZ,aZ,aZ,aZ,aZ,aZ,aZ,aZ,aZ],defers:=[]})
  ?hAx ?assign ?body ?done ?stop
 case hI=>rintro pre V V' row ⟨E,A,M⟩ hg hr;have hk:=qn hg (λr e=>(hr r e).2);exact⟨HJ.o _ _ _ row E hg (λr e=>⟨by have:=(hr r e).1;omega,(hr r e).2⟩),hk _ _ _ _ A,M.trans (λk c t _ hc=>hk k c t _ hc)⟩
 case hIx=>rintro c pre V V' row ⟨rfl,az,x,k,E,A⟩ hg hr;exact⟨rfl,az,x,k,E,HJx.o _ _ _ row A hg (λr e=>⟨by have:=(hr r e).1;omega,(hr r e).2⟩)⟩
 case hAx=>rintro x a' _ V V' row ⟨Bx,A,M⟩ hg hr;exact⟨Bx,qn hg (λr e=>(hr r e).2) _ _ _ _ A,M⟩
 case assign=>rintro l' pre x V K hl e9 ⟨E,A,M⟩ hK;have HK:Hid _:=hK;clear hK;obtain⟨ga,gc,a6⟩:=x.2.1.c;simp only[a6];gi_wp2;have G:cW V.heap.size V (V.alloc (aP #[aK x.1.1.j,aJ ga (aD x.1.1.d) gc] 92)):=(bB _ V).l zl _;exact HK.o _ _ (KeepsFrom.d G) (qf.d G) ⟨HJ.o _ _ _ aY E (qi G) (λr e=>by cases e),(G.b NB (zg A).1).t A,M.trans (qf.d G)⟩ ⟨V.heap.size,a6▸zn V _,by rw[a6]⟩
 case body=>
  rintro l' pre x a' V f6 ⟨r,hr⟩ ⟨gy,h7,g8⟩ ⟨Bx,bi,rfl⟩ aj;obtain⟨ga,gc,a6⟩:=x.2.1.c;have i5:=x.2.2.d;have f5:=x.2.1;have fq:=I9 pre;generalize qin:x.1.1.d=args at *;have jb:aE V (Ad Bx 1)=aX (aJ ga (aD args) gc):=by{simp[aE,bi,a6]};have HX:=aA qin;have HN:=aA aj;clear qin aj;gi_wp2;gi_loopw [12] (λi V'=>∃k:Nat,k<=aD args/\i=aO aR k/\J (lC pre++args.take k) V'/\V'.heap[NB]?=aX (aP #[.func (.yield l) #[] #[]] 259)/\qf w0 V'/\qf V V'/\dA W0.heap.size V V') (λi _=>aD args-(intOf i).toNat)
  case atStart=>exact⟨0,zz,rfl,by simpa using gy,h7,g8,qf.j V,KeepsFrom.refl _ V⟩
  obtain⟨k,hk,rfl,cd,O,ck,fk,d3⟩:=hrel;by_cases aj:k<aD args
  .have i4:=f5.a ck;obtain⟨e0,_⟩|⟨g,cp,ai,hv,eo,cg,b0⟩:=i4;{rw[e0] at aj;simp at aj};rw[a6] at hv;cases hv;obtain⟨p0,p1⟩:=yz (λt:Tm=>aK t.c) (λt=>aO aR t.d) args k aj;have c6:ai.toList.take (aD args*2)=args.flatMap λt=>[aK t.c,aO aR t.d]:=b0;rw[<-c6,bC,if_pos (by omega)] at p0;rw[<-c6,bC,if_pos (by omega)] at p1;have cl:lC pre++args.take (k+1)=(lC pre++args.take k)++[args[k]]:=by{rw[bU aj,List.append_assoc]};have du:=aA cl;clear cl;have av:aD (lC pre++args.take k)<(aD L+1)*2:=by{have:=HN.o;have A:aD (lC pre)<=aD pre*2:=fq;simp at this ⊢;omega};generalize args[k]=tk at *;have q0:aE wr (Ad g (k*2))=aX (aK tk.c):=by{simp only[aE,cg];simpa using p0};have q1:aE wr (Ad g (k*2+1))=aX (aO aR tk.d):=by{simp only[aE,cg];simpa using p1};have cY:aE wr (Ad NB 0)=aX (.func (.yield l) #[] #[]):=zc O;have G:cW wr.heap.size wr (wr.alloc (aP #[aK tk.c,aO aR tk.d] 166)):=(bB _ wr).l zl _;have Qj7:=(zg O).1;obtain⟨iz,c8,assign2,body2,dg,cz⟩:=HY.o (lC pre++args.take k) tk (wr.alloc (aP #[aK tk.c,aO aR tk.d] 166)) (HJ.o _ _ _ aY cd (qi G) (λr e=>by cases e)) av;clear p0 p1 b0 c6 cg a6 f5;gi_wp2;refine (vF cz).mono ?_;rintro e V3 (⟨rfl,ek,cq⟩|⟨rfl,cf,d2⟩)
   .clear dg cz;have dl:=cq.a NB _ ((G.b NB Qj7).t O);gi_wp2;go_roundw
    case rel=>exact⟨k+1,by omega,by go_num,du.o▸ek,dl,(ck.trans (qf.d G)).trans cq.b,(fk.trans (qf.d G)).trans cq.b,KeepsFrom.g (KeepsFrom.g d3 (KeepsFrom.d G)) (KeepsFrom.h cq.f (by omega))⟩
    simp[intOf];omega
   gi_wp2;refine⟨KeepsFrom.g (KeepsFrom.g d3 (KeepsFrom.d G)) (KeepsFrom.h d2 (by omega)),rfl,pre,x,k+1,rfl,?_⟩;rwa[HX.o,du.o]
  gi_wp2;refine⟨d3,fk,?_,O,ck⟩;have:lC (pre++[x])=lC pre++args:=by{unfold lC;simp[HX.o]};rw[this];rwa[cJ (by omega)] at cd
 case done=>rintro D xs V hD rfl ⟨E,A,M⟩ hK;gi_wp2;refine⟨by simp,aS ⟨_,_,rfl,dK hK,?_⟩⟩;exact⟨_,dQ rfl _ _ _,⟨_,rfl⟩,aS ⟨_,rfl,HJ.o _ _ _ (aX D) E (cZ _ _ _) (λr e=>by cases e;exact⟨by omega,_,hK,rfl⟩)⟩⟩
 rintro D c pre V hD hp ⟨rfl,az,x,k,rfl,A⟩ hK;have E:lC az++x.1.1.d.take k <+: lC (z::L):=by obtain⟨tl,ef⟩:=hp;refine List.IsPrefix.trans ?_ (⟨lC tl,by unfold lC;rw[<-ef];simp⟩:lC (az++[x]) <+: lC (z::L));unfold lC;simp only[List.flatMap_append,List.flatMap_cons,List.flatMap_nil,List.append_nil];exact List.prefix_append_right_inj _ |>.2 (cP _ _)
 gi_wp2;refine⟨by simp,aS ⟨_,_,rfl,dK hK,?_⟩⟩;exact⟨_,dQ rfl _ _ _,⟨_,rfl⟩,aU ⟨_,E,HJx.o _ _ _ (aX D) A (cZ _ _ _) (λr e=>by cases e;exact⟨by omega,_,hK,rfl⟩)⟩⟩
end Go.Proofs.YtjajnhemgphefaaGreatDoor
namespace Go.Proofs.YtjajnhemgphefaaGreatDoor
open Go renaming World->Wq,Value->Vq
def gV(aa:List Am)(l:List UInt8):Option Nat:=(aa.find? (λa=>a.j.data.toList == l)).map (·.d.length)
def rE(aa:List Am)(a:Am):Bool:=match gV aa a.j.data.toList with|some n=>n == aD a.d|none=>true
def lK:List Am->List Am->Option (List Am)
 |aa,[]=>aX aa
 |aa,a::l=>if rE aa a=true then lK (aa++[a]) l else aY
def mO:List Am->Nat->List Rl->Int
 |_,_,[]=>-1
 |aa,i,r::rs=>match lK aa (r.d::r.n) with
  |none=>i
  |some s=>mO s (i+1) rs
def yJ(x:ByteArray)(xb:Nat)(t:Tm):Bool:=x.toList == t.c.toList && xb == t.d
def pS(l:List Tm)(x:ByteArray)(xb:Nat):Bool:=l.any (yJ x xb)
def wm(r:Rl)(x:ByteArray)(xb:Nat):Bool:=r.n.any (λa=>pS a.d x xb)
def so(r:Rl)(t:Tm):Bool:=t.c.toList.isEmpty && !wm r t.c t.d
def pU(r:Rl):Bool:=r.d.d.any (so r)
def sM(p:Rl->Bool):Nat->List Rl->Int
 |_,[]=>-1
 |i,r::rs=>if p r=true then i else sM p (i+1) rs
def sW(rs:List Rl):Int:=sM pU 0 rs
def mS:List ByteArray->Nat->List Rl->Int
 |_,_,[]=>-1
 |ns,i,r::rs=>if 8<aD (fF ns (Q3 (Qa r))) then i else mS (fF ns (Q3 (Qa r))) (i+1) rs
def nM(rs:List Rl):Int×Int:=
 if 0<=mO [] 0 rs then (4,mO [] 0 rs)
 else if 0<=sW rs then (5,sW rs)
 else if 0<=mS [] 0 rs then (3,mS [] 0 rs)
 else (0,0)
end Go.Proofs.YtjajnhemgphefaaGreatDoor
namespace Go.Proofs.YtjajnhemgphefaaGreatDoor
open Go renaming World->Wq,Value->Vq
open Go.RowKit Go.Shelf
attribute [local go_sem] dL
variable {m ag ac af N:Nat} {W' W:Wq} {r:Rl} {v0 vb:Vq} {l aa:List Am} {D:DataW Unit} {ds:List Nat}
def Qb.d{B:Nat}{a b:Wq}(h:cW a.heap.size a b):Qb B a b:=⟨h.os,h.tape,h.output,h.s,λk z _=>h.b k z⟩
theorem Js(z:List ByteArray)(t:Tm):aD (jO z t)<=aD z+1:=by grind [jO,Df]
def ED(z:List ByteArray)(l:List Tm)(t:Tm):fF z (l++[t])=jO (fF z l) t:=by simp[fF]
theorem El(l:List Tm):∀(z:List ByteArray),aD (fF z l)<=aD z+aD l:=by
 induction l with
 |nil=>intro z;simp[fF]
 |cons t l ih=>grind [jO,Js,fF]
def DW(z:List ByteArray)(x:ByteArray):Lib.containsS z x=decide (fW z x<aD z):=by
 have E:=Lib.containsS_iff z x;have G:=Lib.idxOfS_nonneg_iff z x;obtain⟨A,C⟩|⟨A,C⟩:=Dp z x
 .grind
 grind
def Gn{V:Wq}{ex:Nat->Prop}(h:fC V W' ex)(M:∀k,k<V.heap.size->ex k->∃(c:Array Vq) (t:TypeId),V.heap[k]?=cC c t/\t≠136/\t≠92/\t≠166/\t≠259):dA m V W'/\∀C,jF C V W':=by
 have A:∀E,dA E V W':=λE=>⟨h.size,λk o _ A G=>by
  rw[h.h k (zg A).1 (λe=>?_)];{exact A}
  .have⟨c,t,z,_⟩:=M k (zg A).1 e
   rw[A] at z;cases z;simp[Obj.isCells] at G⟩
 refine⟨A m,λC=>⟨λk c t O z=>?_,λk c z=>?_,A C⟩⟩
 .rw[h.h k (zg z).1 (λe=>?_)];{exact z};{grind}
 rw[h.h k (zg z).1 (λe=>?_)];{exact z};{grind}
def mF(W:Wq)(ag ac:Nat)(r:Rl)(v0 vb:Vq):Prop:=Qg W ac v0 r.d.d/\gP W ag ac vb r.n
def Q8(r:Rl):List Tm:=r.d.d++r.n.flatMap (·.d)
def mF.a(h:mF W ag ac r v0 vb)(z:qf W W'):mF W' ag ac r v0 vb:=⟨h.1.a z,h.2.a z⟩
theorem Ex:∀(ps:List (Am×Vq)),(∀p∈ps,Qg W ac p.2 p.1.d)->(∀p∈ps,lO p.1)->∃L:List (nA W ac),L.map (·.1)=ps
 |[],_,_=>⟨[],rfl⟩
 |p::ps,h,h2=>by have⟨L,hL⟩:=Ex ps (λq z=>h q (by simp[z])) (λq z=>h2 q (by simp[z]));exact⟨⟨p,h p (by simp),h2 p (by simp)⟩::L,congrArg (λl=>p::l) hL⟩
def Af(G:mF W ag ac r v0 vb)(A:kF r):∃(M:nA W ac) (L:List (nA W ac)) (a:Option Addr) (z:Nat),M.1=(r.d,v0)/\L.map (·.1.1)=r.n/\vb=aJ a (aD L) z/\aD L<=3/\
   (L≠[]->∃(g ae:Nat) (ai:Array Vq),a=aX ⟨g,ae,aY⟩/\W.heap[g]?=cC ai 92/\(ai.toList.drop ae).take (aD L*2)=L.flatMap λx=>[aK x.1.1.j,x.1.2]):=by
 have⟨h1,ps,a,z,e1,e2,e3,e4⟩:=G;have⟨L,hL⟩:=Ex ps e3.1 (λp hp=>A.h _ (by grind));have E:L.map (·.1.1)=r.n:=by rw[<-e1,<-hL,List.map_map];rfl
 have C:aD L=aD r.n:=by grind
 refine⟨⟨(r.d,v0),h1,A.d⟩,L,a,z,rfl,E,C▸e2,by have:=A.n;lia,λO=>?_⟩;have⟨g,ae,ai,k1,k2,k3,k4⟩:=e4 (by grind);refine⟨g,ae,ai,k1,k3,?_⟩;rw[C,k4,<-hL,cQ];rfl
def KA{W:Wq}{ac:Nat}{z:nA W ac}{L:List (nA W ac)}(h0:z.1=(r.d,v0))(A:L.map (·.1.1)=r.n):lC (z::L)=Q8 r:=by grind [lC,Q8,cQ]
def KY(r:Rl):Q8 r=Q3 (Qa r):=by unfold Q8 Q3 Qa;simp
def FZ(r:Rl)(v0 vb v:Vq)(A:List ByteArray)(af ag ac B:Nat)(w:Wq)(ak:kF r)(hv:mF w ag ac r v0 vb)(hB:w.heap[B]?=cC #[aK r.d.j,v0,vb] 136)(qt:aH w af 9 1 v (aD A) (A.map aK))(dn:af<=w.heap.size)(jc:aD A<=900):Cs 76 #[v,.func (.func 141) #[] #[Pt B]] w λe w'=>∃v',e=aQ v'/\aH w' af 9 1 v' (aD (fF A (Q8 r))) ((fF A (Q8 r)).map aK)/\Qb af w w':=by
 obtain⟨x0,L,a,cap,bq,hL,rfl,gk,Qv⟩:=Af hv ak;have f8:=KA bq hL;rw[<-f8];have c4:r.d.j=x0.1.1.j:=by rw[bq]
 have c5:v0=x0.1.2:=by rw[bq]
 rw[c4,c5] at hB;clear f8 c4 c5 bq hL hv ak;have⟨dc,de,gi⟩:=qq qt;obtain⟨N,hN⟩:=aC w.heap.size;have⟨i0,hi,gx,iq,h9⟩:=info_parts Tryz.d;have Qj4:=(zg hB).1;rw[gi] at qt ⊢;refine (dD (n:=8)).1 ?_;refine dM Tryz.func76 rfl trivial ?_ rfl;simp only[Tryz.ntmps76,bL,bQ,cA,cG,cH,bF,bG,bO,bI,cD,bT];gi_wp2;obtain⟨W0,ap⟩:=aC (w.alloc (aP #[aJ dc (aD A) de] 22));have au:cW w.heap.size w W0:=ap▸(bB _ w).alloc zl _
 have dh:W0.heap.size=N+1:=by rw[<-ap,<-hN];simp
 have bV:dO W0 N 22 (aJ dc (aD A) de):=by have:=Boxed.new w 22 (aJ dc (aD A) de);rwa[hN,ap] at this
 have bR:=(au.b B Qj4).t hB;have cw:L≠[]->∃(g ae:Nat)(ai:Array Vq),a=aX ⟨g,ae,aY⟩/\W0.heap[g]?=cC ai 92/\(ai.toList.drop ae).take (aD L*2)=L.flatMap λx=>[aK x.1.1.j,x.1.2]:=λbc=>by have⟨g,ae,ai,G,C,E⟩:=Qv bc;exact⟨g,ae,ai,G,qf.d au _ _ _ (aU (aS rfl)) C,E⟩
 have ia:=qh qt au;have Qig:Qb af w W0:=ap▸(Qb.j af w).alloc _
 (try simp only[hN]);rw[ap];clear ap Qv hB;refine x8 (n:=8) (gf:=141) (lb:=#[Pt B]) rfl (enters_of Tryz.func141 (by kernel_rfl) rfl)
  (KV 7 (by lia) B w ac x0 L (by lia) a cap W0 (qf.d au) bR cw) jF.g (λV o o' ho O=>jF.H V _ o o' (by lia) ho O) (λ_=>rfl)
  (λpre V=>∃v,dO V N 22 v/\aH V af 9 1 v (aD (fF A pre)) ((fF A pre).map aK)/\Qb af w V)
  (λ_ _ _=>False)
  ?hI (λ_ _ _ _ _ h _ _=>h) ⟨_,bV,ia,Qig⟩
  (λt a' V=>∃M,V.heap[M]?=cC #[aK t.c,aO aR t.d] 166/\a'={tmps:=#[aJ dc (aD A) de,.func (.func 141) #[] #[Pt B],Pt N,aZ,aJ aY 0 0,Pt M,.func (.func 141) #[] #[Pt B],aL #[aK t.c,aO aR t.d],aZ,aZ,aZ,aZ,aZ,aZ,aZ,aZ,aZ,aZ,aZ,aZ,aZ,aZ,aZ,aZ],defers:=[]})
  ?hAx ?assign ?body ?done (λ_ _ _ _ _ _ h _=>h.elim)
 case hI=>rintro pre V V' row ⟨v,G,C,E⟩ hg hr;have hk:=qn hg (λr e=>(hr r e).2);exact⟨v,hk _ _ _ _ G,Qe C (λg c _ O=>hk g c _ _ O),E.o hg (λk e=>aS (by have:=(hr k e).1;lia))⟩
 case hAx=>rintro x a' _ V V' row ⟨M,C,E⟩ hg hr;exact⟨M,qn hg (λr e=>(hr r e).2) _ _ _ _ C,E⟩
 case assign=>rintro l' pre t V K hl e9 ⟨v,G,C,E⟩ hK;have HK:=aA hK;clear hK;gi_wp2;have am:cW V.heap.size V (V.alloc (aP #[aK t.c,aO aR t.d] 166)):=(bB _ V).l zl _;exact HK.o _ _ (KeepsFrom.d am) (jF.d am) ⟨v,G.alloc _,C.l _,E.alloc _⟩ ⟨V.heap.size,zn V _,rfl⟩
 case done=>rintro D xs V hD rfl ⟨v,G,C,E⟩ hK;have c1:=G.cell;gi_wp2;refine⟨by simp,aS ⟨_,_,rfl,dK hK,?_⟩⟩;have hk:=qn (cZ V D (.deferred aY)) (λr e=>by cases e;exact⟨_,hK,rfl⟩);refine⟨_,results_tmp rfl _ _ _,v,rfl,Qe C (λg c _ O=>hk g c _ _ O),?_⟩;exact E.o (cZ V D (.deferred aY)) (λk e=>aS (by cases e;lia))
 rintro l' pre t a' V f6 ⟨r,hr⟩ ⟨v,G,C,E⟩ ⟨M,bi,rfl⟩ aj;have i8:=El pre A;have Qon:aD (fF A pre)<=950:=by{lia};have jf:N<=V.heap.size:=by{have:=E.size;lia};have ip:=(zg bi).1;have c0:aE V (Ad M 0)=aX (aK t.c):=zc bi;have c1:aE V (Ad M 1)=aX (aO aR t.d):=zc bi;have fg:=ED A pre t;have ca:=uY t V;obtain⟨va,vc,rfl⟩:=qq C;have cn:=DW (fF A pre) t.c;generalize hvs:fF A pre=us at *;have HS:=aA fg;clear fg hvs;cases htv:t.c.toList.isEmpty with
 |true=>rw[htv] at ca;have Qd:Hid (fF A (pre++[t])=us):=by{show _=_;rw[HS.o];unfold jO;rw[if_pos htv]};clear htv;gi_wp2_with (refine⟨trivial,?_⟩;gi_at_call 139;refine (dJ l' (dD.2 ca)).mono ?_;rintro e V1 ⟨rfl,z⟩);refine⟨trivial,?_⟩;gi_wp2;refine⟨KeepsFrom.d z,jF.d z,aJ va (aD us) vc,?_,?_,?_⟩;{exact (z.b _ G.lt).t G};{rw[Qd.o];exact qh C z};{exact E.trans (Qb.d z)}
 |false=>
  rw[htv] at ca;have fs:=aA ca;have fh:Hid (jO us t=Qs us t.c):=by{show _=_;unfold jO;rw[if_neg (by simp[htv])]};clear htv ca;have eb:Hid (∀V1,cW V.heap.size V V1->dO V1 N 22 (aJ va (aD us) vc)/\aH V1 af 9 1 (aJ va (aD us) vc) (aD us) (us.map aK)/\aE V1 (Ad M 0)=aX (aK t.c)/\Qb af w V1):=λV1 z=>⟨(z.b _ G.lt).t G,qh C z,(z.cell (p:=⟨M,0,aY⟩) ip).t c0,E.trans (Qb.d z)⟩;cases hct:Lib.containsS us t.c with
  |true=>have Qd:Hid (fF A (pre++[t])=us):=by{show _=_;rw[HS.o,fh.o];unfold Qs;rw[if_pos (by rw[hct] at cn;simpa using cn.s)]};have em:=aA hct;clear hct cn G C E;gi_wp2_with (first|(refine⟨trivial,?_⟩;gi_at_call 139;refine (dJ l' (dD.2 fs.o)).mono ?_;rintro e V1 ⟨rfl,z⟩;have⟨k1,k2,k3,k4⟩:=eb.o V1 z;have kc:=k1.cell)|(refine⟨trivial,?_⟩;gi_at_call 140;refine (dJ l' (dD.2 (yO k2 (by lia) t.c))).mono ?_;rintro e w' ⟨rfl,d4⟩;obtain rfl:V1=w':=d4.s;rw[em.o]));exact⟨KeepsFrom.d z,jF.d z,_,k1,Qd.o▸k2,k4⟩
  |false=>
   have Qd:Hid (fF A (pre++[t])=us++[t.c]):=by{show _=_;rw[HS.o,fh.o];unfold Qs;rw[if_neg (by rw[hct] at cn;simpa using cn.s)]};have em:=aA hct;clear hct cn G C E;have gt:aD us+1<=maxLen:=by{unfold maxLen;lia};have dj:(aD us+1)*16<=140737488355328:=by{lia};have g6:Hid (∀V1 w1,cW V.heap.size V V1->(V1.alloc (aP #[aK t.c] 9)).grownBy w1 (aI (aJ va (aD us) vc))->dO w1 N 22 (aJ va (aD us) vc)/\fC V1 w1 (λj=>aX j=aI (aJ va (aD us) vc))):=by{intro V1 w1 z hg;have⟨k1,k2,k3,k4⟩:=eb.o V1 z;have O:=((fC.j V1 _).alloc _).o hg (λk e _=>e.s);exact⟨(O.h _ k1.lt (λe=>Qh k2 k1 (by lia) _ e.s rfl)).t k1,O⟩};have a8:Hid (∀V1,cW V.heap.size V V1->af<=(V1.alloc (aP #[aK t.c] 9)).heap.size):=λV1 z=>by{have:=z.s;show af<=_;simp;lia};gi_wp2_with (first|(refine⟨trivial,?_⟩;gi_at_call 139;refine (dJ l' (dD.2 fs.o)).mono ?_;rintro e V1 ⟨rfl,z⟩;have⟨k1,k2,k3,k4⟩:=eb.o V1 z;have kc:=k1.cell)|(refine⟨trivial,?_⟩;gi_at_call 140;refine (dJ l' (dD.2 (yO k2 (by lia) t.c))).mono ?_;rintro e w' ⟨rfl,d4⟩;obtain rfl:V1=w':=d4.s;rw[em.o])|(gi_at_builtin;refine wpListIn_append_own _ rfl _ _ 22 rfl af 9 i0 (aK ⟨#[]⟩) 1 16 Tryz.underlying22 hi gx iq h9 rfl (by lia) _ _ _ rfl (aH.l k2 _) ⟨V1.heap.size,0,aY⟩ 1 1 [aK t.c] rfl rfl (cell_one_new _ _ _) (by simp[Value.oneCell']) gt dj (a8.o V1 z) ?_;intro v' w1 al ah _;have⟨g',cu,il⟩:=ownsRow_succ al;subst il;have⟨dz,g1⟩:=g6.o V1 w1 z ah;have cc:=dz.cell;have ff:=dz.frozen));have iw:fC V1 (w1.setCell (Ad N 0) (Sc g' (aD us+1) cu)) (λj=>j=N\/aX j=aI (aJ va (aD us) vc)):=(g1.mono (λ_ _ e=>aU e)).i (Ad N 0) _ (λ_=>aS rfl);have⟨ig,ij⟩:=Gn (m:=W0.heap.size) iw (λj hj hx=>by
    obtain rfl|hx:=hx
    .exact⟨_,_,k1,by lia,by lia,by lia,by lia⟩
    .have⟨_,c,O⟩:=qe k2 hx.s;exact⟨c,_,O,by lia,by lia,by lia,by lia⟩)
   refine⟨KeepsFrom.trans (KeepsFrom.d z) ig,(jF.d z).g (ij _),_,qQ dz _,?_,?_⟩;{rw[Qd.o];have:=Qj al (Ad N 0) (Sc g' (aD us+1) cu) (Qh al dz (by lia));simpa using this}
   .exact (k4.alloc _ |>.o ah (λj e=>by
     have⟨iy,d,hd⟩:=qe k2 e
     exact aU ⟨iy,d,_,(bD _ _ _ (zg hd).1).t hd⟩)).i (cT hN) _
def nL(ds:List Nat):List Deferred:=ds.map λD=>{target:=.collected D,args:=#[]}
theorem vO{n:Nat}{fn:Func}{tmps:Array Vq}{R:Ending->Wq->Prop}:∀(ds:List Nat) (W:Wq),ds.Nodup->(∀D∈ds,W.heap[D]?=aX (.deferred (aX [])))->
  (∀W',fC W W' (λj=>j∈ds)->W'.heap.size=W.heap.size->dT dB n cX fn tmps R [] .returning W')->dT dB n cX fn tmps R (nL ds) .returning W
 |[],W,_,_,h=>h W (fC.j _ _) rfl
 |D::ds,W,hn,hd,h=>by
  have O:=hd D (by simp);refine⟨by simp,aS ⟨_,_,rfl,dK O,?_⟩⟩;have E:=cZ W D (.deferred aY);have d1:(W.putObj D (.deferred aY)).heap.size=W.heap.size:=by{simp_all};have hc:fC W (W.putObj D (.deferred aY)) (λj=>j∈D::ds):=(fC.j W _).o E (λk e _=>by cases e;simp);refine vO ds _ (cE.1 hn).2 (λz C=>?_) (λW' M i6=>h W' (hc.trans (M.mono (λ_ _ e=>by simp[e]))) (by lia));have G:z≠D:=λe=>(cE.1 hn).1 (e ▸ C);have A:=hd z (by simp[C]);exact (E.b z (zg A).1 (by simpa using G)).t A
def sY{v:Vq}{rs:List Rl}(h:Qq W af ag ac v rs){k:Nat}(hk:k<aD rs):∃(g c:Nat) (v0 vb:Vq),v=Sc g (aD rs) c/\aE W (Ad g (k*3))=aX (aK (rs[k]).d.j)/\aE W (Ad g (k*3+1))=aX v0/\aE W (Ad g (k*3+2))=aX vb/\mF W ag ac rs[k] v0 vb:=by
 have⟨qs,r1,r2,r3⟩:=h;have O:aD qs=aD rs:=by grind
 obtain⟨_,⟨_,hz⟩|⟨g,c,ai,M,_,A,_,_,_,G⟩⟩:=r2
 .omega
 have E:k<aD qs:=by lia
 have C:rs[k]=(qs[k]).1:=by simp[<-r1]
 have io:∀(l:List (Rl×Vq×Vq))(i:Nat)(z:i<aD l),(l.flatMap tM)[i*3]?=aX (aK (l[i]).1.d.j)/\(l.flatMap tM)[i*3+1]?=aX (l[i]).2.1/\(l.flatMap tM)[i*3+2]?=aX (l[i]).2.2:=by
  intro l;induction l with
  |nil=>intro i z;simp at z
  |cons x l ih=>
   intro i z;cases i with
   |zero=>simp[tM]
   |succ i=>grind [tM]
 have⟨p0,p1,p2⟩:=io qs k E;rw[<-G,bC,if_pos (by lia)] at p0 p1 p2;refine⟨g,c,(qs[k]).2.1,(qs[k]).2.2,by rw[M,O],?_,?_,?_,?_⟩
 .simp only[aE,A];rw[C];simpa using p0
 .simp only[aE,A];simpa using p1
 .simp only[aE,A];simpa using p2
 rw[C];exact r3 _ (zm E)
def Qq.a{v:Vq}{l:List Rl}(h:Qq W af ag ac v l)(A:qf W W'):Qq W' af ag ac v l:=h.E (λk c t C z=>A k c t C z)
def Qq.c{v:Vq}{l:List Rl}(h:Qq W af ag ac v l):∃a c,v=aJ a (aD l) c:=by have⟨qs,r1,r2,r3⟩:=h;have⟨a,c,e⟩:=qq r2;exact⟨a,c,by rw[e,<-r1];simp⟩
def Hp(a c:ByteArray)(b d:Nat)(w:Wq):(binOp .eql 166 (aL #[aK a,aO aR b]) (aL #[aK c,aO aR d])).run cX w=.ok (aM (a.toList == c.toList && b == d)) w:=by
 have M:=dC;have a3:=Tryz.isAgg9;have z3:=Tryz.sizeOf9;have O:=dF;have a4:=Tryz.isAgg3;have z4:=Tryz.sizeOf3;have E:Tryz.prog.underlying 166=aX (.struct (Tryz.prog.fieldsOf 166)):=by kernel_rfl
 have G:Tryz.prog.stoodInHeld 166=false:=by kernel_rfl
 rw[run_eql_struct,show (10000:Nat)=9999+1 from rfl,run_equalIn_agg w 9999 166 _ _ E G];simp only[Program.fieldsOf,Tryz.underlying166];go_simp;by_cases A:b=d
 .subst A;by_cases z:a.toList=c.toList<;>simp[z]
 have C:¬((b:Int)=(d:Int)):=by{omega};by_cases z:a.toList=c.toList<;>simp[z,A,C]
theorem uJ{b:Nat}{v:Vq}{l:List Tm}(h:Qg W b v l){k:Nat}(E:k<aD l):∃g c,v=Sc g (aD l) c/\aE W (Ad g (k*2))=aX (aK (l[k]).c)/\aE W (Ad g (k*2+1))=aX (aO aR (l[k]).d)/\g<W.heap.size:=by
 obtain⟨M,_⟩|⟨g,cp,ai,G,O,z,A⟩:=h
 .grind
 have⟨p0,p1⟩:=yz (λt:Tm=>aK t.c) (λt=>aO aR t.d) l k E;have C:ai.toList.take (aD l*2)=l.flatMap λt=>[aK t.c,aO aR t.d]:=A;rw[<-C,bC,if_pos (by lia)] at p0 p1;exact⟨g,cp,G,by simp only[aE,z];simpa using p0,by simp only[aE,z];simpa using p1,(zg z).1⟩
def vQ{α:Type}(p:α->Bool)(l:List α)(h:∀j,(z:j<aD l)->p l[j]=false):l.any p=false:=by grind [List.any_eq_false,List.getElem_of_mem]
def LR(v:Vq)(l:List Tm)(b:Nat)(x:ByteArray)(z:Nat)(w:Wq)(O:Qg w b v l)(hl:aD l<=1000):Cs 218 #[v,aL #[aK x,aO aR z]] w λe w'=>∃r:Int,e=aQ (aO aR r)/\decide (0<=r)=pS l x z/\cW w.heap.size w w':=by
 have⟨a,c,ao⟩:=O.c;have C:∀k(hk:k<aD l),∃g,a=aX ⟨g,0,aY⟩/\aE w (Ad g (k*2))=aX (aK (l[k]).c)/\aE w (Ad g (k*2+1))=aX (aO aR (l[k]).d)/\g<w.heap.size:=by grind [uJ]
 subst ao;have HC:=aA C;clear C O;go_enter Tryz.func218,Tryz.ntmps218;go_wp2;go_loopw [8] (λi wr=>∃k q:Nat,k<=aD l/\i=aO aR k/\Hid (∀j,(A:j<aD l)->j<k->yJ x z l[j]=false)/\wr=(w.alloc (aP #[aK x,aO aR z] 166)).drewN q) (λi _=>aD l-(intOf i).toNat)
 case atStart=>exact⟨0,0,zz,rfl,λj _ A=>by omega,rfl⟩
 obtain⟨k,q,hk,rfl,ay,rfl⟩:=hrel;by_cases E:k<aD l
 .obtain⟨g,rfl,q0,q1,hg⟩:=HC.o k E;have he:=λW=>Hp x (l[k]).c z (l[k]).d W;have i1:(k:Int)<(aD l:Int):=by{omega};have i2:(0:Int)<=(k:Int):=by{omega};have M:Hid (yJ x z l[k]=((x.toList == (l[k]).c.toList) && (z == (l[k]).d))):=rfl;generalize b0:l[k]=tk at *;have G:=aA b0;clear b0;generalize hb:((x.toList == tk.c.toList) && (z == tk.d))=bb at *;have bd:=aA hb;clear hb;cases bb with
  |true=>go_wp2;go_quiet (fail);go_wp2;go_ret;refine⟨k,rfl,?_,?_⟩;{have h1:pS l x z=true:=by{unfold pS;rw[bX];exact⟨l[k],bZ E,by rw[G.o,M.o]⟩};rw[h1];simp};exact⟨rfl,rfl,rfl,by show _<=(w.alloc _).heap.size;simp,λj A=>bD _ _ j A⟩
  |false=>
   go_wp2;go_quiet (fail);go_wp2;go_roundw
   case rel=>refine⟨k+1,q+nq,by omega,by go_num,?_,rfl⟩;intro j A df;by_cases e:j=k;{subst e;rw[G.o];exact M.o};{exact ay.o j A (by omega)}
   simp[intOf];omega
 go_wp2;go_ret;refine⟨-1,rfl,?_,?_⟩;{unfold pS;rw[vQ _ _ (λj A=>ay.o j A (by omega))];rfl};{exact⟨rfl,rfl,rfl,by show _<=(w.alloc _).heap.size;simp,λj A=>bD _ _ j A⟩}
def JG(v:Vq)(l:List Tm)(b:Nat)(x:ByteArray)(z:Nat)(w:Wq)(C:Qg w b v l)(hl:aD l<=1000):Cs 168 #[v,aL #[aK x,aO aR z]] w λe w'=>e=aQ (aM (pS l x z))/\cW w.heap.size w w':=by
 have hI:∀O,Cs 218 #[v,aL #[aK x,aO aR z]] (w.alloc O) λe w'=>∃r:Int,e=aQ (aO aR r)/\decide (0<=r)=pS l x z/\cW w.heap.size w w':=λO=>by have A:=(bB _ w).l zl O;refine (LR v l b x z (w.alloc O) (C.a (qf.d A)) hl).m ?_;rintro e w' ⟨r,h1,h2,h3⟩;exact⟨r,h1,h2,A.t (h3.m (by simp))⟩
 have G:=aA hI;clear hI;obtain⟨a,c,rfl⟩:=C.c;clear C;go_enter Tryz.func168,Tryz.ntmps168;go_wp2_with fail;refine (G.o _).m ?_;rintro e w1 ⟨r,rfl,E,A⟩;have M:=aA E;clear E;go_wp2;go_ret;exact⟨kU (by rw[<-M.o]),A⟩
def OZ(rel:ByteArray)(v:Vq)(l:List Tm)(b A:Nat)(x:ByteArray)(z:Nat)(w:Wq)(G:Qg w b v l)(hl:aD l<=1000)(C:w.heap[A]?=cC #[aK x,aO aR z] 166):Cs 167 #[aL #[aK rel,v],Pt A] w λe w'=>e=aQ (aM (pS l x z))/\cW w.heap.size w w':=by
 have aj:=(zg C).1;have c0:=cZz C;have hI:∀O,Cs 168 #[v,aL #[aK x,aO aR z]] (w.alloc O) λe w'=>e=aQ (aM (pS l x z))/\cW w.heap.size w w':=λO=>by have E:=(bB _ w).l zl O;refine (JG v l b x z (w.alloc O) (G.a (qf.d E)) hl).m ?_;rintro e w' ⟨h1,h3⟩;exact⟨h1,E.t (h3.m (by simp))⟩
 have M:=aA hI;clear hI C;obtain⟨a,c,rfl⟩:=G.c;clear G;go_enter Tryz.func167,Tryz.ntmps167;go_wp2_with fail;refine (M.o _).m ?_;rintro e w1 ⟨rfl,E⟩;go_wp2;go_ret;exact⟨rfl,E⟩
theorem xp{v:Vq}(h:gP W ag ac v l){k:Nat}(z:k<aD l):∃g ae c A,v=aJ (aX ⟨g,ae,aY⟩) (aD l) c/\aE W (Ad g (ae+k*2))=aX (aK (l[k]).j)/\aE W (Ad g (ae+k*2+1))=aX A/\Qg W ac A (l[k]).d/\g<W.heap.size:=by
 have⟨ps,a,cap,e1,e2,e3,e4⟩:=h;have G:aD ps=aD l:=by grind
 have⟨g,ae,ai,k1,k2,k3,k4⟩:=e4 (by intro e;rw[e] at z;simp at z);have C:k<aD ps:=by lia
 have⟨p0,p1⟩:=yz (λp:Am×Vq=>aK p.1.j) (λp=>p.2) ps k C;have E:(ai.toList.drop ae).take (aD l*2)=ps.flatMap λp=>[aK p.1.j,p.2]:=k4;rw[<-E,bC,if_pos (by lia),cF] at p0 p1;have gs:l[k]=(ps[k]).1:=by simp[<-e1]
 refine⟨g,ae,cap,(ps[k]).2,by rw[e2,k1],?_,?_,?_,(zg k3).1⟩
 .simp only[aE,k3];rw[gs];simpa using p0
 .simp only[aE,k3];simpa [cM] using p1
 grind
def gP.c{v:Vq}(h:gP W ag ac v l):∃a c,v=aJ a (aD l) c:=by have⟨ps,a,cap,e1,e2,_⟩:=h;exact⟨a,cap,e2⟩
def gP.b{v:Vq}(h:gP W ag ac v l):∃a c,v=aJ a (aD l) c/\aD l<=c:=by have⟨ps,a,cap,e1,e2,e3,_⟩:=h;exact⟨a,cap,e2,e3.2⟩
theorem Of(v:Vq)(l:List Am)(ag ac E:Nat)(x:ByteArray)(A:Nat)(w:Wq)(hS:gP w ag ac v l)(hl:aD l<=1000)(ha:∀a∈l,aD a.d<=1000)(bj:w.heap[E]?=cC #[aK x,aO aR A] 166):Cs 217 #[v,.func (.func 167) #[] #[.pointer (aX ⟨E,0,aY⟩)]] w λe w'=>∃r:Int,e=aQ (aO aR r)/\decide (0<=r)=l.any (λa=>pS a.d x A)/\cW w.heap.size w w':=by
 obtain⟨a,c,ao⟩:=hS.c;have Qi:∀k(hk:k<aD l),∃g ae G,a=aX ⟨g,ae,aY⟩/\aE w (Ad g (ae+k*2))=aX (aK (l[k]).j)/\aE w (Ad g (ae+k*2+1))=aX G/\Qg w ac G (l[k]).d/\g<w.heap.size:=by grind [xp]
 subst ao;have HC:Hid _:=Qi;have f0:Hid _:=bj;have HA:Hid _:=ha;clear Qi hS bj ha;go_enter Tryz.func217,Tryz.ntmps217;go_wp2;go_loopw [8] (λi wr=>∃k:Nat,k<=aD l/\i=aO aR k/\Hid (∀j,(C:j<aD l)->j<k->pS (l[j]).d x A=false)/\cW w.heap.size w wr) (λi _=>aD l-(intOf i).toNat)
 case atStart=>exact⟨0,zz,rfl,λj _ C=>by omega,zr⟩
 obtain⟨k,hk,rfl,ay,z⟩:=hrel;by_cases O:k<aD l
 .obtain⟨g,ae,G,rfl,q0,q1,hs,hg⟩:=HC.o k O;have b7:=(z.cell (p:=⟨g,ae+k*2,aY⟩) hg).t q0;have be:=(z.cell (p:=⟨g,ae+k*2+1,aY⟩) hg).t q1;have aw:=OZ (l[k]).j G (l[k]).d ac E x A wr (hs.a (qf.d z)) (HA.o _ (zm O)) ((z.b E (zg f0.o).1).t f0.o);obtain⟨sa,sc,b3⟩:=hs.c;rw[b3] at aw be;have i1:(k:Int)<(aD l:Int):=by{omega};generalize a8:pS (l[k]).d x A=bb at *;have bd:=aA a8;clear a8 q0 q1 hs b3;generalize (l[k]).j=rel at *;generalize (aD (l[k]).d)=m at *;cases bb with
  |true=>go_wp2_with fail;refine aw.m ?_;rintro e w1 ⟨rfl,M⟩;go_wp2;go_ret;refine⟨k,rfl,?_,z.t (M.m z.s)⟩;have h1:l.any (λa=>pS a.d x A)=true:=by{rw[bX];exact⟨l[k],bZ O,bd.o⟩};rw[h1];simp
  |false=>
   go_wp2_with fail;refine aw.m ?_;rintro e w1 ⟨rfl,M⟩;go_wp2;go_roundw
   case rel=>refine⟨k+1,by omega,by go_num,?_,z.t (M.m z.s)⟩;intro j C df;by_cases e:j=k;{subst e;exact bd.o};exact ay.o j C (by omega)
   simp[intOf];omega
 go_wp2;go_ret;refine⟨-1,rfl,?_,z⟩;rw[vQ _ _ (λj C=>ay.o j C (by omega))];rfl
theorem OY(r:Rl)(vb:Vq)(ag ac A:Nat)(x:ByteArray)(z:Nat)(w:Wq)(E:kF r)(C:gP w ag ac vb r.n)(G:w.heap[A]?=cC #[aK x,aO aR z] 166):Cs 166 #[vb,.func (.func 167) #[] #[Pt A]] w λe w'=>e=aQ (aM (wm r x z))/\cW w.heap.size w w':=by have hI:=Of vb r.n ag ac A x z w C (by have:=E.n;omega) (λa ha=>by have:=(E.h a ha).d;omega) G;obtain⟨a,c,rfl⟩:=C.c;have O:Hid _:=hI;clear hI C G;go_enter Tryz.func166,Tryz.ntmps166;go_wp2_with fail;refine bH O.o ?_;rintro e w1 ⟨i,rfl,M,hb⟩;have HR:Hid (decide (0<=i)=wm r x z):=M;clear M;go_wp2;go_ret;exact⟨kU (by rw[<-HR.o]),hb⟩
theorem Lg(r:Rl)(v0 vb:Vq)(ag ac C:Nat)(t:Tm)(w:Wq)(ak:kF r)(hv:mF w ag ac r v0 vb)(G:w.heap[C]?=cC #[aK r.d.j,v0,vb] 136):Cs 165 #[aL #[aK t.c,aO aR t.d],Pt C] w λe w'=>e=aQ (aM (so r t))/\cW w.heap.size w w':=by
 have aj:=(zg G).1;have c2:aE w (Ad C 2)=aX vb:=zc G;have⟨a,c,ao⟩:=hv.2.c;have hI:∀W1,cW (w.alloc (aP #[aK t.c,aO aR t.d] 166)).heap.size (w.alloc (aP #[aK t.c,aO aR t.d] 166)) W1->Cs 166 #[vb,.func (.func 167) #[] #[Pt w.heap.size]] W1 λe w'=>e=aQ (aM (wm r t.c t.d))/\cW w.heap.size w w':=by intro W1 z;have E:cW w.heap.size w (w.alloc (aP #[aK t.c,aO aR t.d] 166)):=(bB _ w).l zl _;have A:=E.t (z.m (by simp));refine (OY r vb ag ac w.heap.size t.c t.d _ ak (hv.2.a (qf.d A)) ((z.b w.heap.size (by simp)).t (zn w _))).m ?_;rintro e w' ⟨h1,h3⟩;exact⟨h1,A.t (h3.m A.s)⟩
 have M:Hid (∀O W1,cW (w.alloc O).heap.size (w.alloc O) W1->aE W1 (Ad C 2)=aX vb/\cW w.heap.size w W1):=λO W1 z=>by have E:cW w.heap.size w (w.alloc O):=(bB _ w).l zl _;have A:=E.t (z.m (by simp));exact⟨(A.cell (p:=⟨C,2,aY⟩) aj).t c2,A⟩
 rw[ao] at c2 hI M;have HI:=aA hI;have ca:=aA λW=>uY t W;have hu:Hid (so r t=(t.c.toList.isEmpty && !wm r t.c t.d)):=rfl;clear hI G hv ao;generalize so r t=ub at *;generalize wm r t.c t.d=bh at *;generalize t.d=tn at *;generalize htv:t.c.toList.isEmpty=tv at *;clear htv;generalize t.c=tx at *;cases tv with
 |false=>go_enter Tryz.func165,Tryz.ntmps165;go_wp2_with (go_at_call 139;refine (ca.o _).m ?_;rintro e W1 ⟨rfl,z⟩);go_ret;exact⟨kU (by rw[hu.o];rfl),(M.o _ _ z).2⟩
 |true=>go_enter Tryz.func165,Tryz.ntmps165;go_wp2_with (first|(go_at_call 139;refine (ca.o _).m ?_;rintro e W1 ⟨rfl,z⟩;have kc:=(M.o _ _ z).1)|(go_at_call 166;refine (HI.o W1 z).m ?_;rintro e w2 ⟨rfl,A⟩));go_ret;exact⟨kU (by rw[hu.o];rfl),A⟩
theorem Nf(r:Rl)(v0 vb:Vq)(ag ac A:Nat)(w:Wq)(O:kF r)(G:mF w ag ac r v0 vb)(bk:w.heap[A]?=cC #[aK r.d.j,v0,vb] 136):Cs 192 #[v0,.func (.func 165) #[] #[.pointer (aX ⟨A,0,aY⟩)]] w λe w'=>∃i:Int,e=aQ (aO aR i)/\decide (0<=i)=pU r/\cW w.heap.size w w':=by
 obtain⟨a,c,ao⟩:=G.1.c;have hl:aD r.d.d<=1000:=by have:=O.d.d;omega
 have Qi:∀k(hk:k<aD r.d.d),∃g,a=aX ⟨g,0,aY⟩/\aE w (Ad g (k*2))=aX (aK (r.d.d[k]).c)/\aE w (Ad g (k*2+1))=aX (aO aR (r.d.d[k]).d)/\g<w.heap.size:=by intro k hk;obtain⟨g,c',E,h2,h3,h4⟩:=uJ G.1 hk;rw[ao] at E;cases E;exact⟨g,rfl,h2,h3,h4⟩
 have fe:∀wr,cW w.heap.size w wr->∀t,Cs 165 #[aL #[aK t.c,aO aR t.d],.pointer (aX ⟨A,0,aY⟩)] wr λe w'=>e=aQ (aM (so r t))/\cW wr.heap.size wr w':=λwr z t=>Lg r v0 vb ag ac A t wr O (G.a (qf.d z)) ((z.b A (zg bk).1).t bk);subst ao;have HC:Hid _:=Qi;have HF:Hid _:=fe;have HU:Hid (pU r=r.d.d.any (so r)):=rfl;clear Qi fe G bk O;generalize r.d.d=l at *;generalize pU r=us at *;go_enter Tryz.func192,Tryz.ntmps192;go_wp2;go_loopw [8] (λi wr=>∃k:Nat,k<=aD l/\i=aO aR k/\Hid (∀j,(C:j<aD l)->j<k->so r l[j]=false)/\cW w.heap.size w wr) (λi _=>aD l-(intOf i).toNat)
 case atStart=>exact⟨0,zz,rfl,λj _ C=>by omega,zr⟩
 obtain⟨k,hk,rfl,ay,z⟩:=hrel;by_cases aj:k<aD l
 .obtain⟨g,rfl,q0,q1,hg⟩:=HC.o k aj;have b7:=(z.cell (p:=⟨g,k*2,aY⟩) hg).t q0;have be:=(z.cell (p:=⟨g,k*2+1,aY⟩) hg).t q1;have aw:=HF.o wr z l[k];have i1:(k:Int)<(aD l:Int):=by{omega};generalize a8:so r l[k]=bb at *;have bd:=aA a8;clear a8 q0 q1;generalize (l[k]).c=tx at *;generalize (l[k]).d=tv at *;cases bb with
  |true=>go_wp2_with fail;refine aw.m ?_;rintro e w1 ⟨rfl,M⟩;go_wp2;go_ret;refine⟨k,rfl,?_,z.t (M.m z.s)⟩;have E:l.any (so r)=true:=by{rw[bX];exact⟨l[k],bZ aj,bd.o⟩};rw[HU.o,E];simp
  |false=>
   go_wp2_with fail;refine aw.m ?_;rintro e w1 ⟨rfl,M⟩;go_wp2;go_roundw
   case rel=>refine⟨k+1,by omega,by go_num,?_,z.t (M.m z.s)⟩;intro j C df;by_cases e:j=k;{subst e;exact bd.o};exact ay.o j C (by omega)
   simp[intOf];omega
 go_wp2;go_ret;refine⟨-1,rfl,?_,z⟩;rw[HU.o,vQ _ _ (λj C=>ay.o j C (by omega))];rfl
def J7(r:Rl)(v0 vb:Vq)(ag ac z:Nat)(w:Wq)(O:kF r)(A:mF w ag ac r v0 vb)(C:w.heap[z]?=cC #[aK r.d.j,v0,vb] 136):Cs 142 #[v0,.func (.func 165) #[] #[Pt z]] w λe w'=>e=aQ (aM (pU r))/\cW w.heap.size w w':=by have hI:=Nf r v0 vb ag ac z w O A C;obtain⟨a,c,rfl⟩:=A.1.c;have G:=aA hI;clear hI A C;go_enter Tryz.func142,Tryz.ntmps142;go_wp2_with fail;refine bH G.o ?_;rintro e w1 ⟨i,rfl,E,hb⟩;have M:=aA E;clear E;go_wp2;go_ret;exact⟨kU (by rw[<-M.o]),hb⟩
def LM(r:Rl)(v0 vb:Vq)(ag ac:Nat)(w:Wq)(E:kF r)(A:mF w ag ac r v0 vb):Cs 102 #[aL #[aK r.d.j,v0,vb]] w λe w'=>e=aQ (aM (pU r))/\cW w.heap.size w w':=by
 have hI:Cs 142 #[v0,.func (.func 165) #[] #[Pt w.heap.size]] (w.alloc (aP #[aK r.d.j,v0,vb] 136)) λe w'=>e=aQ (aM (pU r))/\cW w.heap.size w w':=by have z:cW w.heap.size w (w.alloc (aP #[aK r.d.j,v0,vb] 136)):=(bB _ w).l zl _;refine (J7 r v0 vb ag ac w.heap.size _ E (A.a (qf.d z)) (zn w _)).m ?_;rintro e w' ⟨G,M⟩;exact⟨G,z.t (M.m (by simp))⟩
 have⟨a,c,hf⟩:=A.1.c;have⟨a',c',ez⟩:=A.2.c;rw[hf,ez] at hI ⊢;have C:=aA hI;clear hI A hf ez;go_enter Tryz.func102,Tryz.ntmps102;go_wp2_with fail;refine bH C.o ?_;rintro e w1 ⟨rfl,z⟩;go_wp2;go_ret;exact⟨rfl,z⟩
theorem AU(p:Rl->Bool):∀(rs:List Rl) (i k:Nat),k<=aD rs->(∀j,(z:j<aD rs)->j<k->p rs[j]=false)->sM p i rs=sM p (i+k) (rs.drop k)
 |rs,i,0,_,_=>by simp
 |[],i,k+1,h,_=>by simp at h
 |r::rs,i,k+1,h,hn=>by
  have h0:=hn 0 (by simp) (by lia);simp only[List.getElem_cons_zero] at h0
  rw[sM,if_neg (by simp[h0]),List.drop_succ_cons,AU p rs (i+1) k (by simpa using h) (λj z A=>by
   have:=hn (j+1) (by simp;lia) (by lia)
   simpa using this)]
  congr 1;lia
def Kh(p:Rl->Bool)(rs:List Rl)(k:Nat)(z:k<aD rs)(A:∀j,(C:j<aD rs)->j<k->p rs[j]=false)(h:p rs[k]=true):sM p 0 rs=k:=by rw[AU p rs 0 k (by lia) A,bJ z,sM,if_pos h];simp
def JN(p:Rl->Bool)(rs:List Rl)(A:∀j,(z:j<aD rs)->p rs[j]=false):sM p 0 rs=-1:=by rw[AU p rs 0 (aD rs) (by lia) (λj z _=>A j z),List.drop_length];rfl
def IK(v:Vq)(rs:List Rl)(af ag ac:Nat)(w:Wq)(hR:Qq w af ag ac v rs)(Qv:∀g,aI v=aX g->g<w.heap.size)(h8:aD rs<=8)(ak:∀r∈rs,kF r):Cs 101 #[v,.func (.func 102) #[] #[]] w λe w'=>e=aQ (aO aR (sW rs))/\cW w.heap.size w w':=by
 have⟨a,c,ao⟩:=hR.c;have Qi:∀k(hk:k<aD rs),∃g v0 vb,a=aX ⟨g,0,aY⟩/\aE w (Ad g (k*3))=aX (aK (rs[k]).d.j)/\aE w (Ad g (k*3+1))=aX v0/\aE w (Ad g (k*3+2))=aX vb/\mF w ag ac rs[k] v0 vb/\g<w.heap.size:=by intro k hk;have⟨g,c',v0,vb,h1,h2,h3,h4,h5⟩:=sY hR hk;have A:=Qv g (by rw[h1];rfl);rw[ao] at h1;cases h1;exact⟨g,v0,vb,rfl,h2,h3,h4,h5,A⟩
 subst ao;have HC:=aA Qi;have c3:=aA ak;clear Qi hR ak Qv;go_enter Tryz.func101,Tryz.ntmps101;go_wp2;go_loopw [8] (λi wr=>∃k:Nat,k<=aD rs/\i=aO aR k/\Hid (∀j,(C:j<aD rs)->j<k->pU rs[j]=false)/\cW w.heap.size w wr) (λi _=>aD rs-(intOf i).toNat)
 case atStart=>exact⟨0,zz,rfl,λj _ C=>by omega,zr⟩
 obtain⟨k,hk,rfl,ay,z⟩:=hrel;by_cases O:k<aD rs
 .obtain⟨g,v0,vb,rfl,q0,q1,q2,G,A⟩:=HC.o k O;have b7:=(z.cell (p:=⟨g,k*3,aY⟩) A).t q0;have be:=(z.cell (p:=⟨g,k*3+1,aY⟩) A).t q1;have dy:=(z.cell (p:=⟨g,k*3+2,aY⟩) A).t q2;have E:=LM rs[k] v0 vb ag ac wr (c3.o _ (zm O)) (G.a (qf.d z));have⟨sa,sc,b3⟩:=G.1.c;have⟨ta,tc,cj⟩:=G.2.c;rw[b3] at E be;rw[cj] at E dy;have i1:(k:Int)<(aD rs:Int):=by{omega};generalize a8:pU rs[k]=bb at *;have bd:=aA a8;clear a8 q0 q1 q2 G b3 cj;generalize (rs[k]).d.j=rel at *;generalize (aD (rs[k]).d.d)=m1 at *;generalize (aD (rs[k]).n)=m2 at *;cases bb with
  |true=>go_wp2_with fail;refine E.m ?_;rintro e w1 ⟨rfl,M⟩;go_wp2;go_ret;exact⟨sR (Kh pU rs k O ay.o bd.o).s,z.t (M.m z.s)⟩
  |false=>
   go_wp2_with fail;refine E.m ?_;rintro e w1 ⟨rfl,M⟩;go_wp2;go_roundw
   case rel=>refine⟨k+1,by omega,by go_num,?_,z.t (M.m z.s)⟩;intro j C df;by_cases e:j=k;{subst e;exact bd.o};{exact ay.o j C (by omega)}
   simp[intOf];omega
 go_wp2;go_ret;exact⟨sR (JN pU rs (λj C=>ay.o j C (by omega))).s,z⟩
def rp(t:Tm):Bool:=t.c.toList.isEmpty
def Ok(l:List Tm)(v0:Vq)(b:Nat)(w:Wq)(hv:Qg w b v0 l)(hl:aD l<=1000):Cs 192 #[v0,.func (.func 139) #[] #[]] w λe w'=>∃i:Int,e=aQ (aO aR i)/\decide (0<=i)=l.any rp/\cW w.heap.size w w':=by
 have⟨a,c,ao⟩:=hv.c;have E:∀k (hk:k<aD l),∃g,a=aX ⟨g,0,aY⟩/\aE w (Ad g (k*2))=aX (aK (l[k]).c)/\aE w (Ad g (k*2+1))=aX (aO aR (l[k]).d)/\g<w.heap.size:=by grind [uJ]
 subst ao;have HC:=aA E;have HF:Hid (∀wr,∀t:Tm,Cs 139 #[aL #[aK t.c,aO aR t.d]] wr λe w'=>e=aQ (aM (rp t))/\cW wr.heap.size wr w'):=λwr t=>uY t wr;clear E hv;go_enter Tryz.func192,Tryz.ntmps192;go_wp2;go_loopw [8] (λi wr=>∃k:Nat,k<=aD l/\i=aO aR k/\Hid (∀j,(A:j<aD l)->j<k->rp l[j]=false)/\cW w.heap.size w wr) (λi _=>aD l-(intOf i).toNat)
 case atStart=>exact⟨0,zz,rfl,λj _ A=>by omega,zr⟩
 obtain⟨k,hk,rfl,ay,z⟩:=hrel;by_cases G:k<aD l
 .obtain⟨g,rfl,q0,q1,hg⟩:=HC.o k G;have b7:=(z.cell (p:=⟨g,k*2,aY⟩) hg).t q0;have be:=(z.cell (p:=⟨g,k*2+1,aY⟩) hg).t q1;have M:=HF.o wr l[k];have i1:(k:Int)<(aD l:Int):=by{omega};generalize a8:rp l[k]=bb at *;have O:=aA a8;clear a8 q0 q1;generalize (l[k]).c=tx at *;generalize (l[k]).d=tv at *;cases bb with
  |true=>go_wp2_with fail;refine M.m ?_;rintro e w1 ⟨rfl,C⟩;go_wp2;go_ret;refine⟨k,rfl,?_,z.t (C.m z.s)⟩;have h1:l.any rp=true:=by{rw[bX];exact⟨l[k],bZ G,O.o⟩};rw[h1];simp
  |false=>
   go_wp2_with fail;refine M.m ?_;rintro e w1 ⟨rfl,C⟩;go_wp2;go_roundw
   case rel=>refine⟨k+1,by omega,by go_num,?_,z.t (C.m z.s)⟩;intro j A df;by_cases e:j=k;{subst e;exact O.o};{exact ay.o j A (by omega)}
   simp[intOf];omega
 go_wp2;go_ret;refine⟨-1,rfl,?_,z⟩;rw[vQ _ _ (λj A=>ay.o j A (by omega))];rfl
def kB(a:Am):Bool:=!a.d.any rp
def MB(a:Am)(v0:Vq)(b:Nat)(w:Wq)(z:Qg w b v0 a.d)(hl:aD a.d<=1000):Cs 78 #[aL #[aK a.j,v0]] w λe w'=>e=aQ (aM (kB a))/\cW w.heap.size w w':=by
 have hI:=aA λW C=>Ok a.d v0 b W (z.a (qf.d C)) hl;obtain⟨xa,xc,rfl⟩:=z.c;have O:Hid (∀W,cW w.heap.size w W->Cs 142 #[aJ xa (aD a.d) xc,.func (.func 139) #[] #[]] W λe w'=>e=aQ (aM (a.d.any rp))/\cW W.heap.size W w'):=by intro W C;have E:=hI.o W C;have M:=aA E;clear E hI z;go_enter Tryz.func142,Tryz.ntmps142;go_wp2_with fail;refine bH M.o ?_;rintro e w1 ⟨i,rfl,G,A⟩;have HR:=aA G;clear G;go_wp2;go_ret;exact⟨kU (by rw[<-HR.o]),A⟩
 have eo:Hid (kB a=!a.d.any rp):=rfl;clear hI z;generalize kB a=gb at *;generalize a.d.any rp=ab at *;go_enter Tryz.func78,Tryz.ntmps78;go_wp2_with (go_at_call 142;refine (O.o _ ((bB _ w).l zl _)).m ?_;rintro e w1 ⟨rfl,A⟩);go_ret;exact⟨kU (by rw[eo.o]),((bB _ w).l zl _).t (A.m (by simp))⟩
def wM(s:ByteArray)(w:Wq)(e:Ending)(w':Wq):Prop:=
 cW w.heap.size w w'/\match jN s with
  |none=>e=aQ (aN #[aL #[aK ⟨#[]⟩,aJ aY 0 0],aM false])
  |some a=>∃va,e=aQ (aN #[aL #[aK a.j,va],aM (kB a)])/\lO a/\Qg w' w'.heap.size va a.d
theorem FC(s:ByteArray)(w:Wq)(hs:s.size<=4611686018427387904)(hT:Lib.Utf8Tabs 0 1 w):Cs 40 #[aK s] w (wM s w):=by
 obtain⟨N,hN⟩:=aC w.heap.size;have hr:=aA λW z=>DP s W hs (Utf8Tabs_below hT z);obtain⟨G,ee⟩:=aC (w.alloc (aP #[aK ⟨#[]⟩,aJ aY 0 0] 92));have d6:G.heap.size=N+1:=by rw[<-ee,<-hN];simp
 have dn:cW N w G:=ee▸(bB _ w).alloc (by omega) _
 have M:=hr.o G (hN▸dn);have Qy:Hid (∀W1,cW (N+1) G W1->W1.heap[N]?=cC #[aK ⟨#[]⟩,aJ aY 0 0] 92):=λW1 z=>AH hN (by rw[ee];exact z);have Qd:Hid (∀W1 x v,cW (N+1) G W1->cW w.heap.size w (pP W1 N x v)):=λW1 x v z=>by rw[hN];exact xg (dn.t (z.m (by omega))) _ _
 unfold uQ at M;rw[d6] at M;have HG:Hid (∀P,wM s w P=wM s w P):=λ_=>rfl;clear hr hT dn HG;have HS:=aA d6;clear d6;cases ha:jN s with
 |none=>
  rw[ha] at M;have HA:=aA ha;have HR:=aA M;clear ha M;go_enter Tryz.func40,Tryz.ntmps40;go_wp2_with fail;refine bH HR.o ?_;rintro e W1 ⟨ad,rfl⟩;have A:=Qy.o W1 ad;have q0:aE W1 (Ad N 0)=aX (aK ⟨#[]⟩):=(by simp[aE,A]);have q1:aE W1 (Ad N 1)=aX (aJ aY 0 0):=(by simp[aE,A]);have b7:∀O,aE (W1.alloc O) (Ad N 0)=aX (aK ⟨#[]⟩):=λO=>(cU ((bB _ W1).l zl O) (p:=⟨N,0,aY⟩) (zg A).1).t q0;have be:∀O,aE (W1.alloc O) (Ad N 1)=aX (aJ aY 0 0):=λO=>(cU ((bB _ W1).l zl O) (p:=⟨N,1,aY⟩) (zg A).1).t q1;have d9:∀O,(W1.alloc O).heap[N]?=_:=λO=>(bD W1 O N (zg A).1).t A;have i7:∀O,aF (W1.alloc O) (Ad N 0)=false:=λO=>by{simp[aF,d9 O]};have jg:∀O,aF (W1.alloc O) (Ad N 1)=false:=λO=>by{simp[aF,d9 O]};have gj:=aA λO=>ad.t ((((bB _ W1).l zl O).drew).m (by have:=ad.s;rw[HS.o] at this;exact this));clear A d9;go_wp2;go_region;all_goals go_wp2
  all_goals refine dP (v:=aN #[aL #[aK ⟨#[]⟩,aJ aY 0 0],aM false]) (by simp[results,Tryz.results40,go_sem,b7,be]) rfl ?_
  all_goals exact⟨Qd.o _ _ _ (gj.o _),by rw[HA.o]⟩
 |some a=>
  rw[ha] at M;have HA:=aA ha;have HR:=aA M;clear ha M;go_enter Tryz.func40,Tryz.ntmps40;go_wp2_with fail;refine bH HR.o ?_;rintro e W1 ⟨ad,va,rfl,ak,di⟩;obtain⟨C,E,rfl⟩:=di.c;have A:=Qy.o W1 ad;have dx:=aA λW z=>MB a _ W1.heap.size W (di.a z) (by have:=ak.d;omega);have ci:Hid (∀O,qf W1 (W1.alloc O).drew):=λO k c t _ hc=>(bD W1 O k (zg hc).1).t hc;have g7:Hid (∀O W2,cW (W1.alloc O).drew.heap.size (W1.alloc O).drew W2->cW W1.heap.size W1 W2):=λO W2 z=>(((bB _ W1).l zl O).drew).t (z.m (by show _<=(W1.alloc O).heap.size;simp));have ep:Hid (∀W,cW W1.heap.size W1 W->W.heap[N]?=cC #[aK ⟨#[]⟩,aJ aY 0 0] 92/\cW (N+1) G W):=λW z=>by{have hx:=ad.t (z.m (HS.o▸ad.size));exact⟨Qy.o W hx,hx⟩};have ic:Hid (∀W,cW W1.heap.size W1 W->Qg (pP W N a.j (aJ C (aD a.d) E)) (pP W N a.j (aJ C (aD a.d) E)).heap.size (aJ C (aD a.d) E) a.d):=λW z=>by{show Qg _ _ _ _;rw[Bu];refine (di.mono z.s).o (λk c _ hc=>(BJ _ _ _ _ (λe=>?_)).t ((z.b k (zg hc).1).t hc));have:=(ep.o W z).1;rw[e] at hc;rw[z.b N (zg hc).1,hc] at this;cases this};have b9:Hid (∀W2,cW (W1.alloc (aP #[aK a.j,aJ C (aD a.d) E] 92)).drew.heap.size (W1.alloc (aP #[aK a.j,aJ C (aD a.d) E] 92)).drew W2->W2.heap[W1.heap.size]?=cC #[aK a.j,aJ C (aD a.d) E] 92):=λW2 z=>(z.b _ (by show _<(W1.alloc _).heap.size;simp)).t (zn W1 _);have c3:=aA ak;clear di ak A;go_wp2;refine wp_mono (Q:=λe a' w'=>match e with|Exit.normal=>∃W2,cW W1.heap.size W1 W2/\w'=pP W2 N a.j (aJ C (aD a.d) E)/\a'={tmps:=#[aK s,aZ,Pt N,aM (kB a),Pt W1.heap.size,aM true,aN #[aL #[aK a.j,aJ C (aD a.d) E],aM true],aK s,aN #[aL #[aK a.j,aJ C (aD a.d) E],aM true],aL #[aK a.j,aJ C (aD a.d) E],aM true,aL #[aK a.j,aJ C (aD a.d) E],aM true,aM true,aL #[aK a.j,aJ C (aD a.d) E],aM (kB a),aM (kB a)],defers:=[]}|_=>False) ?reg ?rest
  case reg=>(first|(go_region_with (go_at_call 78;refine (dx.o _ (ci.o _)).m ?_;rintro e W2 ⟨rfl,dj⟩;have cy:=g7.o _ _ dj;have p2:=b9.o W2 dj;have u0:=cZz p2;clear p2;have⟨A,dl⟩:=ep.o W2 cy;have r0:aE W2 (Ad N 0)=aX (aK ⟨#[]⟩):=(by simp[aE,A]);have z0:=fZz A;have r1:aE W2 (Ad N 1)=aX (aJ aY 0 0):=(by simp[aE,A]);clear A))|fail);all_goals exact⟨W2,cy,rfl,rfl⟩
  rintro (_|_|_|_|_|_) a' w' hq;all_goals first|exact hq.elim|skip
  obtain⟨W2,cy,rfl,rfl⟩:=hq;have⟨A,dl⟩:=ep.o W2 cy;have r0:aE W2 (Ad N 0)=aX (aK ⟨#[]⟩):=(by simp[aE,A]);have r1:aE W2 (Ad N 1)=aX (aJ aY 0 0):=(by simp[aE,A]);unfold pP;go_wp2;refine dP (v:=aN #[aL #[aK a.j,aJ C (aD a.d) E],aM (kB a)]) (by simp[results,Tryz.results40,go_sem,r0,r1]) rfl ?_;exact⟨Qd.o _ _ _ dl,HA.o▸⟨_,rfl,c3.o,ic.o W2 cy⟩⟩
def yT{w wr:Wq}(h:Qb N w wr)(A:N<=w.heap.size):cW N w wr:=⟨h.os,h.tape,h.output,h.size,λk z=>h.h k (by lia) (aS z)⟩
def La(v:Vq)(rs:List Rl)(af ag ac:Nat)(w:Wq)(hR:Qq w af ag ac v rs)(Qv:∀g,aI v=aX g->g<w.heap.size)(h8:aD rs<=8)(ak:∀r∈rs,kF r):Cs 103 #[v] w λe w'=>e=aQ (aO aR (mS [] 0 rs))/\cW w.heap.size w w':=by
 have⟨a,c,ao⟩:=hR.c;obtain⟨N,hN⟩:=aC w.heap.size;have Qi:∀k(hk:k<aD rs),∃g v0 vb,a=aX ⟨g,0,aY⟩/\aE w (Ad g (k*3))=aX (aK (rs[k]).d.j)/\aE w (Ad g (k*3+1))=aX v0/\aE w (Ad g (k*3+2))=aX vb/\mF w ag ac rs[k] v0 vb/\g<w.heap.size:=by intro k hk;have⟨g,c',v0,vb,h1,h2,h3,h4,h5⟩:=sY hR hk;have O:=Qv g (by rw[h1];rfl);rw[ao] at h1;cases h1;exact⟨g,v0,vb,rfl,h2,h3,h4,h5,O⟩
 subst ao
 have fm:∀k(hk:k<aD rs)(v0 vb:Vq)(wr:Wq)(us:List ByteArray)(vn:Vq),mF w ag ac rs[k] v0 vb->Qb N w wr->aH wr N 9 1 vn (aD us) (us.map aK)->aD us<=8->
   ∀z fn A C M E,v0=aJ z fn A->vb=aJ C M E->
   Cs 76 #[vn,.func (.func 141) #[] #[Pt (wr.heap.size+1)]] ((wr.alloc (aP #[aK (rs[k]).d.j,aJ z fn A,aJ C M E] 136)).alloc (aP #[aK (rs[k]).d.j,aJ z fn A,aJ C M E] 136)) λe w'=>∃v',e=aQ v'/\aH w' N 9 1 v' (aD (fF us (Q8 rs[k]))) ((fF us (Q8 rs[k])).map aK)/\Qb N w w':=by
  intro k hk v0 vb wr us vn hv G gl f4 z fn A C M E hf O;subst hf O;have d1:=G.size;have am:cW wr.heap.size wr ((wr.alloc (aP #[aK (rs[k]).d.j,aJ z fn A,aJ C M E] 136)).alloc (aP #[aK (rs[k]).d.j,aJ z fn A,aJ C M E] 136)):=((bB _ wr).l zl _).l (by simp) _;have ci:qf w wr:=λj cc t ht hc=>(G.h j (zg hc).1 (aU (λc' fz e=>by rw[hc] at e;rcases ht with rfl|rfl|rfl<;>cases e))).t hc;refine (FZ rs[k] _ _ vn us N ag ac (wr.heap.size+1) _ (ak _ (zm hk)) ((hv.a ci).a (qf.d am)) ?_ (qh gl am) (by simp;omega) (by omega)).m ?_;{have:=zn (wr.alloc (aP #[aK (rs[k]).d.j,aJ z fn A,aJ C M E] 136)) (aP #[aK (rs[k]).d.j,aJ z fn A,aJ C M E] 136);rwa[bE] at this};{rintro e w' ⟨v',h1,h2,h3⟩;exact⟨v',h1,h2,(G.trans (Qb.d am)).trans h3⟩}
 have HC:=aA Qi;have HR:=aA fm;clear Qi fm hR ak Qv;go_enter Tryz.func103,Tryz.ntmps103;go_wp2
 go_loopw [3,8] (λvn i wr=>∃(k:Nat)(us:List ByteArray),k<=aD rs/\i=aO aR k/\aD us<=8/\aH wr N 9 1 vn (aD us) (us.map aK)/\Hid (mS us k (rs.drop k)=mS [] 0 rs)/\Qb N w wr) (λ_ i _=>aD rs-(intOf i).toNat)
 case atStart=>exact⟨0,[],zz,rfl,by simp,zo,rfl,Qb.j _ _⟩
 case round=>
  obtain⟨k,us,hk,rfl,f4,Qv,ce,G⟩:=hrel;by_cases aj:k<aD rs
  .obtain⟨g,v0,vb,rfl,q0,q1,q2,hv,O⟩:=HC.o k aj;have dm:=yT G (by omega);have b7:=(dm.cell (p:=⟨g,k*3,aY⟩) (hN▸O)).t q0;have be:=(dm.cell (p:=⟨g,k*3+1,aY⟩) (hN▸O)).t q1;have dy:=(dm.cell (p:=⟨g,k*3+2,aY⟩) (hN▸O)).t q2;have⟨z,A,b3⟩:=hv.1.c;have⟨C,E,cj⟩:=hv.2.c;have aw:=HR.o k aj v0 vb wr us _ hv G Qv f4 _ _ _ _ _ _ b3 cj;rw[b3] at be;rw[cj] at dy;have co:Hid (mS us k (rs.drop k)=if 8<aD (fF us (Q8 rs[k])) then (k:Int) else mS (fF us (Q8 rs[k])) (k+1) (rs.drop (k+1))):=by{show _=_;rw[bJ aj,KY];rfl};have f9:=aA aw;have i1:(k:Int)<(aD rs:Int):=by{omega};obtain⟨na,nc,rfl⟩:=qq Qv;have HN:=aA hN;clear aw q0 q1 q2 hv b3 cj Qv dm G hN;generalize (rs[k]).d.j=rel at *;generalize (aD (rs[k]).d.d)=m1 at *;generalize (aD (rs[k]).n)=m2 at *;generalize fF us (Q8 rs[k])=us' at *;by_cases c7:8<aD us'
   .have hd:(8:Int)<(aD us':Int):=by{omega};have bn:Hid (mS [] 0 rs=k):=by show _=_;rw[<-ce.o,co.o,if_pos c7]
    go_wp2_with (first|(go_at_call 77;refine (AE _ _ _ _ rfl _).m ?_;rintro e w' ⟨rfl,rfl⟩)|(go_at_call 76;refine bH f9.o ?_;rintro e w1 ⟨v1,rfl,a7,cb⟩;obtain⟨g5,gu,rfl⟩:=qq a7))
    go_ret;exact⟨sR bn.o.s,HN.o▸yT cb (cT HN.o.symm)⟩
   .have hd:¬(8:Int)<(aD us':Int):=by{omega};have bn:Hid (mS us' (k+1) (rs.drop (k+1))=mS [] 0 rs):=by show _=_;rw[<-ce.o,co.o,if_neg c7]
    go_wp2_with (first|(go_at_call 77;refine (AE _ _ _ _ rfl _).m ?_;rintro e w' ⟨rfl,rfl⟩)|(go_at_call 76;refine bH f9.o ?_;rintro e w1 ⟨v1,rfl,a7,cb⟩;obtain⟨g5,gu,rfl⟩:=qq a7))
    refine⟨⟨k+1,us',by omega,by go_num,by omega,a7,bn.o,cb⟩,by simp[intOf];omega⟩
  .have bn:Hid (mS [] 0 rs=-1):=by{show _=_;rw[<-ce.o,cL (by omega)];rfl};go_wp2;go_ret;exact⟨sR bn.o.s,hN▸yT G (by omega)⟩
attribute [local go_sem] dL
theorem Ou(l m:List Am):∀(aa s:List Am),lK aa l=aX s->lK aa (l++m)=lK s m:=by
 induction l with
 |nil=>intro aa s h;simp[lK] at h;rw[h];rfl
 |cons a l ih=>grind [lK]
theorem NL(l m:List Am):∀(aa:List Am),lK aa l=aY->lK aa (l++m)=none:=by
 induction l with
 |nil=>intro aa h;simp[lK] at h
 |cons a l ih=>grind [lK]
structure tK(D:DataW Unit)(aa:List Am):Prop where
 a:Maps.IsMap D
 d:∀l,Maps.has D (.string l)=(gV aa l).isSome
 c:∀l n,gV aa l=aX n->∀z,D.atKey (.string l) z=.lit (.int aR n)
def tK.b:tK (.map []) []:=⟨Maps.isMap_empty,λ_=>rfl,λl n h=>by simp[gV] at h⟩
def GI(aa:List Am)(a:Am)(l:List UInt8):gV (aa++[a]) l=(gV aa l).or (if a.j.data.toList == l then aX (aD a.d) else aY):=by grind [gV]
def tK.H(h:tK D aa)(a:Am)(E:rE aa a=true):tK (D.put (.string a.j.data.toList) (.lit (.int aR (aD a.d)))) (aa++[a]):=by
 have C:WideAt.IsKeyLit (.string a.j.data.toList):=trivial;refine⟨h.a.put _ _,λl=>?_,λl n A z=>?_⟩
 .rw[GI];by_cases e:l=a.j.data.toList;{subst e;rw[Maps.has_put_same h.a C];cases gV aa a.j.data.toList<;>simp};rw[Maps.has_put_other (by grind),h.d];have:(a.j.data.toList == l)=false:=by{grind};rw[this];simp
 rw[GI] at A;by_cases e:l=a.j.data.toList
 .subst e;rw[Maps.atKey_put_same h.a C];unfold rE at E;cases hc:gV aa a.j.data.toList with
  |some m=>grind
  |none=>grind
 rw[Maps.atKey_put_other (by grind)];have:(a.j.data.toList == l)=false:=by{grind};rw[this] at A;simp at A;exact h.c l n A z
theorem DU(n:Nat)(h:n<=2):(Lit.int aR (n:Int)).wf=true:=by
 match n,h with
 |0,_=>rfl
 |1,_=>rfl
 |2,_=>rfl
structure td(w:Wq)(N m:Nat)(ds:List Nat)(aa:List Am)(D:DataW Unit)(W:Wq):Prop where
 map:W.ownsMap cX 9 (plainElem cX 3) (N+1) m D
 u:tK D aa
 h:dO W N 3 (.int aR 0)
 A:dO W (N+2) 285 (.map (aX (N+1)))
 s:ds.Nodup
 c:∀d∈ds,W.heap[d]?=aX (.deferred (aX []))
 i:∀d∈ds,N+2<d
 a:qf w W
 f:cW N w W
def td.o{w:Wq}{row:Option Nat}(h:td w N m ds aa D W)(G:w.heap.size=N)(z:W.grownBy W' row)(A:∀r,row=aX r->N+2<r/\r∉ds/\∃o:Obj,W.heap[r]?=aX o/\o.isCells=false):td w N m ds aa D W':=by have C:=qn z (λr e=>(A r e).2.2);refine⟨h.map.kept z (λe=>by have:=(A (N+1) e.s).1;lia),h.u,C _ _ _ _ h.h,C _ _ _ _ h.A,h.s,λd hd=>?_,h.i,h.a.trans (λk c t _ M=>C k c t _ M),h.f.grown z (Q1 h.f G) (λk e=>by have:=(A k e).1;lia)⟩;have E:=h.c d hd;exact (z.b d (zg E).1 (λe=>(A d e.s).2.1 hd)).t E
def td.lt{w:Wq}(h:td w N m ds aa D W):∀d∈ds,d<W.heap.size:=λd hd=>(zg (h.c d hd)).1
def Jy(v:Vq)(rs:List Rl)(af ag ac:Nat)(w:Wq)(hR:Qq w af ag ac v rs)(Qv:∀g,aI v=aX g->g<w.heap.size)(h8:aD rs<=8)(ak:∀r∈rs,kF r):Cs 100 #[v] w λe w'=>e=aQ (.int aR (mO [] 0 rs))/\cW w.heap.size w w':=by
 have⟨a,c,ao⟩:=hR.c;have Qi:∀k(hk:k<aD rs),∃g v0 vb,a=aX ⟨g,0,aY⟩/\aE w (Ad g (k*3))=aX (.string (rs[k]).d.j)/\aE w (Ad g (k*3+1))=aX v0/\aE w (Ad g (k*3+2))=aX vb/\mF w ag ac rs[k] v0 vb/\g<w.heap.size:=by intro k hk;have⟨g,c',v0,vb,z,E,h3,h4,h5⟩:=sY hR hk;have hg:=Qv g (by rw[z];rfl);rw[ao] at z;cases z;exact⟨g,v0,vb,rfl,E,h3,h4,h5,hg⟩
 subst ao;have HC:=aA Qi;have c3:=aA ak;clear Qi hR ak Qv;have ed:=@run_makeMap cX;obtain⟨N,hN⟩:=aC w.heap.size;refine (dD (n:=9)).1 ?_;refine dM Tryz.func100 rfl trivial ?_ rfl;simp only[Tryz.ntmps100,bL,bQ,cA,cG,cH,bF,bG,bO,bI,cD,bT]
 gi_wp2
 have dk:td w N 0 [] [] (.map []) (((w.alloc (aP #[.int aR 0] 3)).alloc (.map #[] 0)).alloc (aP #[.map (aX (N+1))] 285)):=by have hb:cW w.heap.size w (((w.alloc (aP #[.int aR 0] 3)).alloc (.map #[] 0)).alloc (aP #[.map (aX (N+1))] 285)):=(((bB _ w).l zl _).l (by simp) _).l (by simp;omega) _;have hm:=World.ownsMap_made (w.alloc (aP #[.int aR 0] 3)) cX 9 (plainElem (H:=Unit) cX 3);have au:=((Boxed.new w 3 (.int aR 0)).alloc (.map #[] 0)).alloc (aP #[.map (aX (N+1))] 285);rw[bE] at hm;rw[hN] at hm hb au;refine⟨hm.kept (World.grownBy_alloc _ _ aY) (by simp),tK.b,au,?_,List.nodup_nil,by simp,by simp,qf.d (hN▸hb),hb⟩;have:=Boxed.new ((w.alloc (aP #[.int aR 0] 3)).alloc (.map #[] 0)) 285 (.map (aX (N+1)));rwa[bE,bE,hN] at this
 refine wpIn_loop (λA W=>∃(k:Nat)(ds:List Nat)(aa:List Am)(D:DataW Unit)(u4 u5 fl fy fo e6 ft e7 d5:Vq),A={tmps:=#[aJ a (aD rs) c,aZ,Pt N,Pt (N+1+1),u4,u5,aZ,aZ,aZ,.map (aX (N+1)),aJ a (aD rs) c,.int aR (aD rs),.int aR k,fl,fy,fo,e6,ft,e7,aZ,aZ,aZ,aZ,aZ,aZ,aZ,aZ,aZ,aZ,aZ,aZ,aZ,aZ,aZ,aZ,aZ,aZ,aZ,aZ,aZ,aZ,aZ,d5],defers:=nL ds}/\k<=aD rs/\td w N (k*4) ds aa D W/\Hid (mO aa k (rs.drop k)=mO [] 0 rs)) (λA _=>aD rs-(intOf (A.tmps.getD 12 aZ)).toNat) ⟨0,[],[],.map [],_,_,_,_,_,_,_,_,_,rfl,zz,dk,rfl⟩ ?_;rintro A W ⟨k,ds,aa,D,u4,u5,fl,fy,fo,e6,ft,e7,d5,rfl,hk,hI,ce⟩;clear dk ed;by_cases aj:k<aD rs
 .obtain⟨g,v0,vb,rfl,q0,q1,q2,hv,hg⟩:=HC.o k aj;have bf:g<N:=by{omega};have b7:=(hI.f.cell (p:=⟨g,k*3,aY⟩) bf).t q0;have be:=(hI.f.cell (p:=⟨g,k*3+1,aY⟩) bf).t q1;have dy:=(hI.f.cell (p:=⟨g,k*3+2,aY⟩) bf).t q2;have fj:=hv.a hI.a;have Qai:=c3.o _ (zm aj);have co:Hid (mO aa k (rs.drop k)=match lK aa ((rs[k]).d::(rs[k]).n) with|none=>(k:Int)|some s=>mO s (k+1) (rs.drop (k+1))):=by{show _=_;rw[bJ aj];rfl};obtain⟨C,L,la,G,bq,hL,rfl,gk,ev⟩:=Af fj Qai;have fv:(rs[k]).d::(rs[k]).n=(C::L).map (·.1.1):=by{rw[cS,hL,bq]};have c4:(rs[k]).d.j=C.1.1.j:=by{rw[bq]};have c5:v0=C.1.2:=by{rw[bq]};have⟨fa,fc,hf⟩:=C.2.1.c;rw[c4] at b7;rw[c5,hf] at be;rw[fv] at co;clear fv c4 c5 bq hL fj Qai hv q0 q1 q2;have i1:(k:Int)<(aD rs:Int):=by omega
  gi_wp2_with (refine⟨trivial,?_⟩;gi_at_call 98;refine (dD.2 (BI _ _ _ _ rfl rfl rfl rfl _)).mono ?_;rintro e w' ⟨rfl,rfl⟩)
  obtain⟨M,hM⟩:=aC W.heap.size;obtain⟨W0,ap⟩:=aC (((W.alloc (aP #[.int aR k] 3)).alloc (aP #[.string C.1.1.j,aJ fa (aD C.1.1.d) fc,aJ la (aD L) G] 136)).alloc (aP #[.string C.1.1.j,aJ fa (aD C.1.1.d) fc,aJ la (aD L) G] 136));have au:cW W.heap.size W W0:=ap▸(((bB _ W).alloc zl _).alloc (by simp) _).alloc (by simp;omega) _;have dh:W0.heap.size=M+3:=by{rw[<-ap,<-hM];simp};have bK:dO W0 M 3 (.int aR k):=by{rw[<-ap,<-hM];exact ((Boxed.new W _ _).alloc _).alloc _};have bR:W0.heap[M+1+1]?=cC #[.string C.1.1.j,C.1.2,aJ la (aD L) G] 136:=by{rw[<-ap,hf];have:=zn ((W.alloc (aP #[.int aR k] 3)).alloc (aP #[.string C.1.1.j,aJ fa (aD C.1.1.d) fc,aJ la (aD L) G] 136)) (aP #[.string C.1.1.j,aJ fa (aD C.1.1.d) fc,aJ la (aD L) G] 136);rwa[bE,bE,hM] at this};have cw:L≠[]->∃(g ae:Nat)(ai:Array Vq),la=aX ⟨g,ae,aY⟩/\W0.heap[g]?=cC ai 92/\(ai.toList.drop ae).take (aD L*2)=L.flatMap λx=>[.string x.1.1.j,x.1.2]:=λbc=>by{have⟨g,ae,ai,z,E,h3⟩:=ev bc;exact⟨g,ae,ai,z,qf.d au _ _ _ (aU (aS rfl)) E,h3⟩};have dk:=hI.o hN (qi au) (λr e=>by cases e);have dr:=hI.lt;have jd:N+2<M:=by{have:=hI.A.lt;omega};simp only[hM];rw[ap];clear ap ev
  refine x8 (n:=9) (gf:=163) (lb:=#[Pt (M+1+1)]) rfl (enters_of dU (by kernel_rfl) rfl)
   (tf.a (zZ 8 (by decide) (M+1+1) W ac C L (by omega) la G W0 bR cw)) qf.trans (λV o o' ho O=>qf.H V _ o o' ho O) (λ_=>rfl)
   (λpre V=>∃s D',lK aa (pre.map (·.1.1))=aX s/\td w N (k*4+aD pre) ds s D' V/\dO V M 3 (.int aR k))
   (λc pre V=>c=.ret/\lK aa (pre.map (·.1.1))=aY/\dO V N 3 (.int aR k)/\(∀d∈ds,V.heap[d]?=aX (.deferred (aX [])))/\cW N w V)
   ?hI ?hIx ⟨aa,D,rfl,dk,bK⟩
   (λx a' V=>∃Bx,V.heap[Bx]?=cC #[.string x.1.1.j,x.1.2] 92/\a'={tmps:=#[Sc g (aD rs) c,aZ,Pt N,Pt (N+1+1),Pt M,Pt (M+1),Pt Bx,aZ,aZ,.map (aX (N+1)),Sc g (aD rs) c,.int aR (aD rs),.int aR k,aM true,.int aR k,.pointer (aX ⟨g,k*3,aY⟩),aL #[.string C.1.1.j,aJ fa (aD C.1.1.d) fc,aJ la (aD L) G],aL #[.string C.1.1.j,aJ fa (aD C.1.1.d) fc,aJ la (aD L) G],.func (.func 163) #[] #[Pt (M+1+1)],aL #[.string x.1.1.j,x.1.2],aZ,aZ,aZ,aZ,aZ,aZ,aZ,aZ,aZ,aZ,aZ,aZ,aZ,aZ,aZ,aZ,aZ,aZ,aZ,aZ,aZ,aZ,d5],defers:=[]})
   ?hAx ?assign ?body ?done ?stop
  case hI=>rintro pre V V' row ⟨s,D',h0,z,E⟩ hg hr;refine⟨s,D',h0,z.o hN hg (λr e=>⟨by have:=(hr r e).1;omega,λhd=>?_,(hr r e).2⟩),qn hg (λr e=>(hr r e).2) _ _ _ _ E⟩;have:=dr r hd;have:=(hr r e).1;omega
  case hIx=>rintro c pre V V' row ⟨rfl,h0,z,E,h3⟩ hg hr;refine⟨rfl,h0,qn hg (λr e=>(hr r e).2) _ _ _ _ z,λd hd=>?_,h3.grown hg (Q1 h3 hN) (λk e=>by have:=(hr k e).1;omega)⟩;have b5:=E d hd;exact (hg.b d (zg b5).1 (λe=>by have:=dr d hd;have:=(hr d e.s).1;omega)).t b5
  case hAx=>rintro x a' _ V V' row ⟨Bx,E,h3⟩ hg hr;exact⟨Bx,qn hg (λr e=>(hr r e).2) _ _ _ _ E,h3⟩
  case assign=>
   rintro l' pre x V K hl e9 ⟨s,D',h0,z,E⟩ hK;have HK:=aA hK;clear hK;have⟨ga,gc,a6⟩:=x.2.1.c;simp only[a6]
   gi_wp2
   have am:cW V.heap.size V (V.alloc (aP #[.string x.1.1.j,aJ ga (aD x.1.1.d) gc] 92)):=(bB _ V).l zl _;exact HK.o _ _ (KeepsFrom.d am) (qf.d am) ⟨s,D',h0,z.o hN (qi am) (λr e=>by cases e),E.alloc _⟩ ⟨V.heap.size,a6▸zn V _,by rw[a6]⟩
  case body=>
   rintro l' pre x a' V f6 ⟨r,hr⟩ ⟨s,D',bu,z,E⟩ ⟨Bx,bi,rfl⟩ eh;have⟨ga,gc,a6⟩:=x.2.1.c;have et:=x.2.2.d;have c0:aE V (Ad Bx 0)=aX (.string x.1.1.j):=zc bi;have c1:aE V (Ad Bx 1)=aX (aJ ga (aD x.1.1.d) gc):=by{simp[aE,bi,a6]};have cV:=z.A.cell;have cK:=E.cell;have cN:=z.h.cell;have fN:=z.h.frozen;have da:=WideMaps.keyOf_string_mk (P:=cX) dC (s:=x.1.1.j) (by have:=x.2.2.j;unfold maxLen;omega);have ge:k*4+aD pre<maxLen:=by{unfold maxLen;simp at eh;omega};have e5:=z.u.d x.1.1.j.data.toList;have Qhb:=z.u.c x.1.1.j.data.toList;have Qf8:Hid (∀b,rE s x.1.1=b->lK aa ((pre++[x]).map (·.1.1))=if b=true then aX (s++[x.1.1]) else aY):=by{intro b hb;rw[cR,Ou _ _ _ _ bu];simp only[cS,List.map_nil,lK,hb]};have g2:=aA λhf=>z.u.H x.1.1 hf;have ct:Hid (rE s x.1.1=match gV s x.1.1.j.data.toList with|some n=>n == aD x.1.1.d|none=>true):=rfl;have je:=aA bu;clear bu a6
   have fr:∀w1,rE s x.1.1=true->w1.ownsMap cX 9 (plainElem cX 3) (N+1) (k*4+aD pre+1) (D'.put (.string x.1.1.j.data.toList) (.lit (.int aR (aD x.1.1.d))))->V.grownBy w1 (aX (N+1))->
     dA W0.heap.size V w1/\qf V w1/\∃s2 D2,lK aa ((pre++[x]).map (·.1.1))=aX s2/\td w N (k*4+aD (pre++[x])) ds s2 D2 w1/\dO w1 M 3 (.int aR k):=by
    intro w1 hf al ah;have⟨es,clock,ik,_⟩:=z.map;have cv:=qn ah (λr e=>by cases e;exact⟨_,ik,rfl⟩);refine⟨KeepsFrom.of_grownBy ah (λj e=>by cases e;omega),λk c t _ O=>cv k c t _ O,s++[x.1.1],_,by rw[Qf8.o _ hf];rfl,⟨by simpa [cM] using al,g2.o hf,cv _ _ _ _ z.h,cv _ _ _ _ z.A,z.s,λd hd=>?_,z.i,z.a.trans (λk c t _ O=>cv k c t _ O),z.f.grown ah (Q1 z.f hN) (λj e=>by cases e;omega)⟩,cv _ _ _ _ E⟩;have b5:=z.c d hd;exact (ah.b d (zg b5).1 (by have:=z.i d hd;simp;omega)).t b5
   have ey:=aA fr;clear fr
   cases har:gV s x.1.1.j.data.toList with
   |none=>
    rw[har] at e5 ct;clear Qhb har
    gi_wp2_with (first|(gi_at_lookup;refine dI _ rfl _ _ 285 rfl 9 3 aR (dH dC) dG dF (dR _) (N+1) (k*4+aD pre) _ rfl z.map _ _ rfl da ?_;intro c b9 dp)|(gi_at_mapUpdate;refine dS _ rfl _ _ _ 285 rfl 9 3 (dH dC) dG _ (N+1) (k*4+aD pre) _ rfl z.map ge _ _ _ rfl rfl da (.lit (.int aR (aD x.1.1.d))) [] (plainElem_int dF (DU _ et)) ?_;intro w1 al ah))
    have⟨k1,k2,s2,D2,e1,e2,e3⟩:=ey.o w1 ct.o al ah;exact⟨dh▸k1,k2,s2,e1,⟨D2,e2⟩,e3⟩
   |some m=>
    have fx:Hid (∀c:Int,D'.atKey (.string x.1.1.j.data.toList) (.lit (.int aR 0))=.lit (.int aR c)->c=m):=by{intro c O;rw[Qhb m har] at O;simp at O;exact O.s};rw[har] at e5 ct;clear Qhb har;by_cases cx:m=aD x.1.1.d
    .have ed:((m:Int) != (aD x.1.1.d:Int))=false:=by{simp[cx]};have db:rE s x.1.1=true:=by{rw[ct.o];simp[cx]};have en:=aA db;clear db cx
     gi_wp2_with (first|(gi_at_lookup;refine dI _ rfl _ _ 285 rfl 9 3 aR (dH dC) dG dF (dR _) (N+1) (k*4+aD pre) _ rfl z.map _ _ rfl da ?_;intro c b9 dp;have gh:=fx.o c b9;clear b9 dp)|(gi_at_mapUpdate;refine dS _ rfl _ _ _ 285 rfl 9 3 (dH dC) dG _ (N+1) (k*4+aD pre) _ rfl z.map ge _ _ _ rfl rfl da (.lit (.int aR (aD x.1.1.d))) [] (plainElem_int dF (DU _ et)) ?_;intro w1 al ah))
     have⟨k1,k2,s2,D2,e1,e2,e3⟩:=ey.o w1 en.o al ah;exact⟨dh▸k1,k2,s2,e1,⟨D2,e2⟩,e3⟩
    .have ed:((m:Int) != (aD x.1.1.d:Int))=true:=by{simp;omega};have db:rE s x.1.1=false:=by{rw[ct.o];simp[cx]};have en:=aA db;clear db cx
     gi_wp2_with (gi_at_lookup;refine dI _ rfl _ _ 285 rfl 9 3 aR (dH dC) dG dF (dR _) (N+1) (k*4+aD pre) _ rfl z.map _ _ rfl da ?_;intro c b9 dp;have gh:=fx.o c b9;clear b9 dp)
     exact⟨(KeepsOthers.setCell _ _ _).from _,rfl,by rw[Qf8.o _ en.o];rfl,qQ z.h _,λd hd=>(cO _ _ _ d (by have:=z.i d hd;simp;omega)).t (z.c d hd),z.f.c (p:=⟨N,0,aY⟩) zl _⟩
  case done=>
   rintro D0 xs V hD rfl ⟨s,D',bu,z,E⟩ hK;have cr:D0∉ds:=λhd=>by{have:=dr D0 hd;omega};have d7:=cE.2 ⟨cr,z.s⟩
   have c9:∀d∈D0::ds,V.heap[d]?=aX (.deferred (aX [])):=λd hd=>by
    obtain rfl|hd:=cI.1 hd
    .exact hK
    .exact z.c d hd
   have dq:∀d∈D0::ds,N+2<d:=λd hd=>by
    obtain rfl|hd:=cI.1 hd
    .omega
    .exact z.i d hd
   have ix:Hid (mO s (k+1) (rs.drop (k+1))=mO [] 0 rs):=by{show _=_;rw[<-ce.o,co.o,bu]};clear bu
   gi_wp2
   refine⟨⟨k+1,D0::ds,s,D',_,_,_,_,_,_,_,_,_,rfl,by omega,?_,ix⟩,?_⟩;{exact {z with map:=z.map.mono (by simp;omega),s:=d7,c:=c9,i:=dq}};{simp[intOf];omega}
  case stop=>
   rintro D0 c' pre V hD hp ⟨rfl,bu,E,h3,h4⟩ hK;have cr:D0∉ds:=λhd=>by{have:=dr D0 hd;omega};have d7:=cE.2 ⟨cr,hI.s⟩
   have c9:∀d∈D0::ds,V.heap[d]?=aX (.deferred (aX [])):=λd hd=>by
    obtain rfl|hd:=cI.1 hd
    .exact hK
    .exact h3 d hd
   have dq:∀d∈D0::ds,N+2<d:=λd hd=>by
    obtain rfl|hd:=cI.1 hd
    .omega
    .exact hI.i d hd
   have bn:Hid (mO [] 0 rs=(k:Int)):=by{show _=_;have⟨tl,ef⟩:=hp;rw[<-ce.o,co.o,<-ef,cR,NL _ _ _ bu]};clear bu
   gi_wp2
   show dT dB 9 cX _ _ _ (nL (D0::ds)) .returning V;refine vO (D0::ds) V d7 c9 (λW' O hs=>?_);have dN:aE W' (Ad N 0)=aX (.int aR k):=Boxed.cell (t:=3) ((O.h N E.lt (λhd=>by have:=dq N hd;omega)).t E);refine⟨.int aR k,by simp[results,dV,go_sem,dN],by rw[bn.o],?_⟩;rw[hN];exact h4.t (O.f (Q1 h4 hN) (λd hd=>by have:=dq d hd;omega))
 .have cN:=hI.h.cell;have fN:=hI.h.frozen
  gi_wp2
  show dT dB 9 cX _ _ _ (nL ds) .returning (W.setCell (Ad N 0) (.int aR (-1)));have c9:∀d∈ds,(W.setCell (Ad N 0) (.int aR (-1))).heap[d]?=aX (.deferred (aX [])):=λd hd=>(cO _ _ _ d (by have:=hI.i d hd;simp;omega)).t (hI.c d hd);refine vO ds _ hI.s c9 (λW' O hs=>?_);have bi:=qQ hI.h (.int aR (-1));have dN:aE W' (Ad N 0)=aX (.int aR (-1)):=Boxed.cell (t:=3) ((O.h N bi.lt (λhd=>by have:=hI.i N hd;omega)).t bi);have bn:mO [] 0 rs=-1:=by{rw[<-ce.o,cL (by omega)];rfl};have am:=hI.f.c (p:=⟨N,0,aY⟩) zl (.int aR (-1));refine⟨.int aR (-1),by simp[results,dV,go_sem,dN],by rw[bn],?_⟩;rw[hN];exact am.t (O.f (Q1 am hN) (λd hd=>by have:=hI.i d hd;omega))
