/- A part -/
import Derived.Test.YtjajnhemgphefaaGreatDoorQArity
import Derived.Test.YtjajnhemgphefaaGreatDoorMore
import Derived.Shelf.SlSortCmp.NoneTotal
import Derived.Maps.OwnSet
import Derived.Maps.RangeWalk
import Derived.DeepKeys4
import Derived.Maps.OwnIn
import Derived.Sort.MapsRangeIn
set_option linter.all false
set_option maxRecDepth 100000
set_option maxHeartbeats 16000000
open List renaming length->aD,length_cons->bF,nil_append->bG,cons_append->bH,append_toArray->bL,size_toArray->bO,push_toArray->bQ,length_nil->bU,getElem?_take->bX,getElem?_eq_some_iff->cF,getElem?_eq_getElem->cG,getElem?_eq_none->cI,flatMap_cons->cM,ext_getElem?->cO,take_length->cP,range_succ->cQ,of_mem_zip->cR,nodup_nil->cS
open Go.World renaming cell?->aE,frozen?->aF,ownsRow->aH,size_alloc->bD,putObj_heap_same->cH,ownsMap->cT
open Go.Value renaming ownBlock->aI,slice->aJ,string->aK,agg->aL,bool->aM,tuple->aN,int->aO,formed->cU,cells->cX
open Go.Obj renaming cells->aP,map->bT
open Go.Ending renaming returned->aQ
open Go.IntKind renaming i64->aR
open Or renaming inl->aS,inr->aU
open Option renaming some->aX,none->aY
open Go renaming undef->aZ,maxLen->dA,OwnFrom->dC,plainElem->dE,KeepsFrom->dF,grownBy_putObj'->dH,bodyPost_ret->dO,DataW->dP,callsIn_wide->dV,cell_later->dW,wpList_mapUpdate_own->dX,TypeId->dZ,run_endLoop->eE,Code->eF,callsIn_of_wp_marks->eJ,Loop->eK,results_none->eT,plainElem_int_inv->eX
open Go.RowKit.Below renaming refl->bB,heap_alloc->bC,heap_setCell->bE
open Array renaming replicate_succ->bI,replicate_zero->bJ,extract_eq_self_of_le->bZ,getElem?_append_left->cE,getElem?_modify->cJ
open Nat renaming reduceAdd->cA,reduceSub->cD,mul_le_mul_right->cL,le_refl->cW
open Go.Proofs.Tryz renaming prog->cZ,underlying174->dD,underlying109->dG,underlying3->dK,underlying9->dS,results157->dT,zeroValue3->dU,underlying98->eW
open Go.RowKit renaming Below->dB
open Go.Maps renaming has->dI,atKey_of_not_has->dJ,atKey_put_same->dY,atKey_put_other->eH,has_put_other->eO,has_put_same->eU
open Go.Instr renaming lookup->dL
open Go.Sort renaming grow->dM,putCells->dR,putRow->eD,ahead->eI,alloc_eq_grow->eQ
open Go.Fence renaming wide->dQ
open Go.Oper renaming semAt_some->eA
open Go.Program renaming keyLits->eC
namespace Go.Proofs.YtjajnhemgphefaaGreatDoor
open Go renaming World->Wq,Value->Vq
open Go.RowKit Go.Shelf
structure fD where
 g:ByteArray
 h:ByteArray
 i:ByteArray
 j:ByteArray
 o:ByteArray
 q:ByteArray
def fD.f(n:fD):Nat->ByteArray
 |0=>n.g
 |1=>n.h
 |2=>n.i
 |3=>n.j
 |4=>n.o
 |5=>n.q
 |_=>⟨#[]⟩
def fD.c(n:fD):Array Vq:=#[aK n.g,aK n.h,aK n.i,aK n.j,aK n.o,aK n.q]
def fD.v(n:fD):Vq:=aL n.c
def fH(n:fD)(t:Tm):ByteArray:=if t.c.toList.isEmpty=true then n.f t.d else t.c
def fD.d(n:fD)(k:Nat)(h:k<6):n.c[k]?=aX (aK (n.f k)):=by
 have z:k=0\/k=1\/k=2\/k=3\/k=4\/k=5:=by lia
 obtain rfl|rfl|rfl|rfl|rfl|rfl:=z<;>rfl
theorem EY(n:fD)(t:Tm)(M:t.d<6)(w:Wq):Cs 151 #[n.v,aL #[aK t.c,aO aR t.d]] w λe w'=>e=aQ (aK (fH n t))/\dB w.heap.size w w':=by
 have E:=aA λW=>uY t W;have A:Hid (∀W1,dB ((w.alloc (aP n.c 176)).alloc (aP #[aK t.c,aO aR t.d] 166)).heap.size ((w.alloc (aP n.c 176)).alloc (aP #[aK t.c,aO aR t.d] 166)) W1->
   aE W1 (Ad w.heap.size t.d)=aX (aK (n.f t.d))/\aE W1 (Ad (w.heap.size+1) 0)=aX (aK t.c)/\aE W1 (Ad (w.heap.size+1) 1)=aX (aO aR t.d)/\dB w.heap.size w W1):=by
  intro W1 z;refine⟨?_,?_,?_,(((bB _ w).l zl _).l (by simp) _).t (z.m (by simp;omega))⟩;{rw[z.cell (p:=⟨w.heap.size,t.d,aY⟩) (by simp;omega)];have G:((w.alloc (aP n.c 176)).alloc (aP #[aK t.c,aO aR t.d] 166)).heap[w.heap.size]?=aX (aP n.c 176):=(bC _ _ _ (by simp)).t (zn w _);simp only[aE,G];simpa using n.d _ M};{rw[z.cell (p:=⟨w.heap.size+1,0,aY⟩) (by simp)];simp};{rw[z.cell (p:=⟨w.heap.size+1,1,aY⟩) (by simp)];simp}
 have C:Hid (fH n t=if t.c.toList.isEmpty=true then n.f t.d else t.c):=rfl;unfold fD.c at A;unfold fD.v fD.c;have O:(t.d:Int)<6:=by omega
 generalize fH n t=res at *;generalize n.f t.d=gt at *;generalize t.d=tn at *;generalize htv:t.c.toList.isEmpty=tv at *;clear htv;generalize t.c=tx at *;cases tv with
 |false=>go_enter Tryz.func151,Tryz.ntmps151;go_wp2_with (go_at_call 139;refine (E.o _).m ?_;rintro e W1 ⟨rfl,ab⟩;have⟨k1,k2,k3,k4⟩:=A.o _ ab);go_ret;exact⟨by rw[C.o];rfl,k4⟩
 |true=>go_enter Tryz.func151,Tryz.ntmps151;go_wp2_with (go_at_call 139;refine (E.o _).m ?_;rintro e W1 ⟨rfl,ab⟩;have⟨k1,k2,k3,k4⟩:=A.o _ ab);go_ret;exact⟨by rw[C.o];rfl,k4⟩
structure Gd where
 j:ByteArray
 x:ByteArray
 y:ByteArray
def Gd.c(g:Gd):Array Vq:=#[aK g.j,aK g.x,aK g.y]
def Gd.v(g:Gd):Vq:=aL g.c
def iM(n:fD)(l:List Tm):ByteArray:=match l with| []=>⟨#[]⟩|t::_=>fH n t
def iJ(n:fD)(l:List Tm):ByteArray:=match l with|_::t::_=>fH n t|_=>⟨#[]⟩
def qb(n:fD)(a:Am):Gd:=⟨a.j,iM n a.d,iJ n a.d⟩
theorem JC(n:fD)(l:List Tm)(h:0<aD l):iM n (l.take (0+1))=fH n l[0]/\iJ n (l.take (0+1))=⟨#[]⟩/\iM n (l.take 0)=⟨#[]⟩/\iJ n (l.take 0)=⟨#[]⟩:=by
 cases l with
 |nil=>simp at h
 |cons t l=>simp[iM,iJ]
theorem N5(n:fD)(l:List Tm)(h:1<aD l):iM n (l.take (1+1))=iM n (l.take 1)/\iJ n (l.take (1+1))=fH n l[1]/\iJ n (l.take 1)=⟨#[]⟩:=by
 match l,h with
 |t::u::l,h=>simp[iM,iJ]
def A3(n:fD)(a:Am)(va:Vq)(b:Nat)(w:Wq)(hS:Qg w b va a.d)(hl:aD a.d<=2)(hn:∀t∈a.d,t.d<6):Cs 89 #[n.v,aL #[aK a.j,va]] w λe w'=>e=aQ (qb n a).v/\dB w.heap.size w w':=by
 have⟨ta,tc,dm⟩:=hS.c;have Qi:∀k(hk:k<aD a.d),∃g,ta=aX ⟨g,0,aY⟩/\aE w (Ad g (k*2))=aX (aK (a.d[k]).c)/\aE w (Ad g (k*2+1))=aX (aO aR (a.d[k]).d)/\g<w.heap.size:=by grind [uJ]
 subst dm;have bj:=aA λk hk W=>EY n a.d[k] (hn _ (zm hk)) W;have HC:=aA Qi;clear Qi hS hn;unfold fD.v fD.c at bj ⊢;unfold Gd.v Gd.c;go_enter Tryz.func89,Tryz.ntmps89;go_wp2;obtain⟨N,z⟩:=aC w.heap.size;simp only[z];obtain⟨W0,A⟩:=aC (((((w.alloc (aP n.c 176)).alloc (aP #[aK a.j,aJ ta (aD a.d) tc] 92)).alloc (aP #[aK ⟨#[]⟩,aK ⟨#[]⟩,aK ⟨#[]⟩] 111)).alloc (aP #[aK a.j,aK ⟨#[]⟩,aK ⟨#[]⟩] 111)));have c6:W0.heap.size=N+4:=by rw[<-A,<-z];simp
 have g8:dB N w W0:=by rw[<-A,<-z];exact ((((bB _ w).l zl _).l (by simp) _).l (by simp;omega) _).l (by simp;omega) _
 have b0:W0.heap[N]?=aX (aP n.c 176):=by rw[<-A,<-z];exact (bC _ _ _ (by simp;omega)).t ((bC _ _ _ (by simp;omega)).t ((bC _ _ _ (by simp)).t (zn w _)))
 have b2:W0.heap[N+1+1]?=cC #[aK ⟨#[]⟩,aK ⟨#[]⟩,aK ⟨#[]⟩] 111:=by rw[<-A,<-z];refine (bC _ _ _ (by simp)).t ?_;have:=zn ((w.alloc (aP n.c 176)).alloc (aP #[aK a.j,aJ ta (aD a.d) tc] 92)) (aP #[aK ⟨#[]⟩,aK ⟨#[]⟩,aK ⟨#[]⟩] 111);simpa using this
 have b3:W0.heap[N+1+1+1]?=cC #[aK a.j,aK ⟨#[]⟩,aK ⟨#[]⟩] 111:=by rw[<-A,<-z];have:=zn (((w.alloc (aP n.c 176)).alloc (aP #[aK a.j,aJ ta (aD a.d) tc] 92)).alloc (aP #[aK ⟨#[]⟩,aK ⟨#[]⟩,aK ⟨#[]⟩] 111)) (aP #[aK a.j,aK ⟨#[]⟩,aK ⟨#[]⟩] 111);simpa using this
 unfold fD.c at A b0;rw[A];clear A;go_loopw [14] (λi wr=>∃k:Nat,k<=aD a.d/\i=aO aR k/\N+4<=wr.heap.size/\wr.heap[N]?=aX (aP #[aK n.g,aK n.h,aK n.i,aK n.j,aK n.o,aK n.q] 176)/\wr.heap[N+1+1]?=aX (aP #[aK ⟨#[]⟩,aK ⟨#[]⟩,aK ⟨#[]⟩] 111)/\wr.heap[N+1+1+1]?=aX (aP #[aK a.j,aK (iM n (a.d.take k)),aK (iJ n (a.d.take k))] 111)/\dB N w wr) (λi _=>aD a.d-(intOf i).toNat)
 case atStart=>exact⟨0,zz,rfl,by omega,b0,b2,b3,g8⟩
 obtain⟨k,hk,rfl,iz,h0,C,G,hB⟩:=hrel;by_cases ae:k<aD a.d
 .obtain⟨g,rfl,q0,q1,hg⟩:=HC.o k ae;have g2:=(hB.cell (p:=⟨g,k*2,aY⟩) (z▸hg)).t q0;have gh:=(hB.cell (p:=⟨g,k*2+1,aY⟩) (z▸hg)).t q1;have fp:=bj.o k ae;have i1:(k:Int)<(aD a.d:Int):=by{omega};have f8:k=0\/k=1:=by{omega};have n0:∀O,aE (wr.alloc O) (Ad N 0)=aX (aK n.g):=λO=>dW ((bB wr.heap.size wr).l zl O) (by simp[aE,h0]);have n1:∀O,aE (wr.alloc O) (Ad N 1)=aX (aK n.h):=λO=>dW ((bB wr.heap.size wr).l zl O) (by simp[aE,h0]);have n2:∀O,aE (wr.alloc O) (Ad N 2)=aX (aK n.i):=λO=>dW ((bB wr.heap.size wr).l zl O) (by simp[aE,h0]);have n3:∀O,aE (wr.alloc O) (Ad N 3)=aX (aK n.j):=λO=>dW ((bB wr.heap.size wr).l zl O) (by simp[aE,h0]);have n4:∀O,aE (wr.alloc O) (Ad N 4)=aX (aK n.o):=λO=>dW ((bB wr.heap.size wr).l zl O) (by simp[aE,h0]);have n5:∀O,aE (wr.alloc O) (Ad N 5)=aX (aK n.q):=λO=>dW ((bB wr.heap.size wr).l zl O) (by simp[aE,h0]);have be:Hid (∀O W1,dB (wr.alloc O).heap.size (wr.alloc O) W1->N+4<=W1.heap.size/\W1.heap[N]?=cC #[aK n.g,aK n.h,aK n.i,aK n.j,aK n.o,aK n.q] 176/\W1.heap[N+1+1]?=cC #[aK ⟨#[]⟩,aK ⟨#[]⟩,aK ⟨#[]⟩] 111/\W1.heap[N+1+1+1]?=cC #[aK a.j,aK (iM n (a.d.take k)),aK (iJ n (a.d.take k))] 111/\dB N w W1):=by{intro O W1 hb;have M:=((bB _ wr).l zl O).t (hb.m (by simp));have hz:=M.s;exact⟨by omega,(M.b _ (by omega)).t h0,(M.b _ (by omega)).t C,(M.b _ (by omega)).t G,hB.t (M.m (by omega))⟩};clear q0 q1 h0 C G hB;obtain rfl|rfl:=f8
  .have E:Hid _:=JC n a.d ae;generalize a.d[0]=tk at *;go_wp2_with (go_at_call 151;refine (fp _).m ?_;rintro e W1 ⟨rfl,ab⟩;have⟨r1,r2,r3,r4,r5⟩:=be.o _ _ ab;have f1:aF W1 (Ad (N+1+1+1) 1)=false:=(by simp[aF,r4]);have d1:aE W1 (Ad (N+1+1+1) 1)=aX (aK (iM n (a.d.take 0))):=(by simp[aE,r4]));go_roundw
   case rel=>refine⟨0+1,by omega,by go_num,?_,?_,?_,?_,?_⟩;{simpa using r1};{exact (bE _ _ _ _ (by show N≠N+1+1+1;omega)).t r2};{exact (bE _ _ _ _ (by show N+1+1≠N+1+1+1;omega)).t r3};{have:=qw r4 1 (aK (fH n tk));rw[E.o.1,E.o.2.1];rwa[E.o.2.2.1,E.o.2.2.2] at this};{exact r5.c (p:=⟨N+1+1+1,1,aY⟩) (by simp;omega) _}
   simp[intOf];omega
  have E:Hid _:=N5 n a.d ae;generalize a.d[1]=tk at *;go_wp2_with (go_at_call 151;refine (fp _).m ?_;rintro e W1 ⟨rfl,ab⟩;have⟨r1,r2,r3,r4,r5⟩:=be.o _ _ ab;have f1:aF W1 (Ad (N+1+1+1) 2)=false:=(by simp[aF,r4]);have d1:aE W1 (Ad (N+1+1+1) 2)=aX (aK (iJ n (a.d.take 1))):=(by simp[aE,r4]));go_roundw
  case rel=>refine⟨1+1,by omega,by go_num,?_,?_,?_,?_,?_⟩;{simpa using r1};{exact (bE _ _ _ _ (by show N≠N+1+1+1;omega)).t r2};{exact (bE _ _ _ _ (by show N+1+1≠N+1+1+1;omega)).t r3};{have:=qw r4 2 (aK (fH n tk));rwa[E.o.1,E.o.2.1]};{exact r5.c (p:=⟨N+1+1+1,2,aY⟩) (by simp;omega) _}
  simp[intOf];omega
 have fb:k=aD a.d:=by{omega};have d0:aE wr (Ad (N+1+1+1) 0)=aX (aK a.j):=zc G;have d1:aE wr (Ad (N+1+1+1) 1)=aX (aK (iM n (a.d.take k))):=zc G;have d2:aE wr (Ad (N+1+1+1) 2)=aX (aK (iJ n (a.d.take k))):=zc G;have e0:aE wr (Ad (N+1+1) 0)=aX (aK ⟨#[]⟩):=zc C;have e1:aE wr (Ad (N+1+1) 1)=aX (aK ⟨#[]⟩):=zc C;have e2:aE wr (Ad (N+1+1) 2)=aX (aK ⟨#[]⟩):=zc C;have g0:∀j,aF wr (Ad (N+1+1) j)=false:=λj=>by{simp[aF,C]};have gb:Hid (qb n a=⟨a.j,iM n (a.d.take k),iJ n (a.d.take k)⟩):=by{show _=_;rw[fb,cP];rfl};generalize iM n (a.d.take k)=gx at *;generalize iJ n (a.d.take k)=gy at *;clear h0 C G;go_wp2;refine dO (v:=aL #[aK a.j,aK gx,aK gy]) (by simp[results,Tryz.results89,go_sem,e0,e1,e2]) rfl ?_;rw[gb.o,z];exact⟨rfl,((hB.c (p:=⟨N+1+1,0,aY⟩) (by simp;omega) _).c (p:=⟨N+1+1,1,aY⟩) (by simp;omega) _).c (p:=⟨N+1+1,2,aY⟩) (by simp;omega) _⟩
def iW{α:Type}(m n gf:Nat)(lb:Array Vq)(ac:α->Array Vq)(Kp:Wq->Wq->Prop)(S Sp:List α->Prop)(N:Nat)(w:Wq):Prop:=
 ∀(l:Nat) (J Jx:List α->Wq->Prop) (W:Wq),dB w.heap.size w W->m<=W.heap.size->dC W.heap.size J->dC W.heap.size Jx->
  (∀pre x W1,J pre W1->aD pre<N->YieldAt dQ (n-1) cZ l (ac x) W1 λe W'=>(e=aQ (aM true)/\J (pre++[x]) W'/\Kp W1 W')\/(e=aQ (aM false)/\Jx (pre++[x]) W'/\dF m W1 W'))->
  J [] W->CallsIn dQ n cZ gf (#[.func (.yield l) #[] #[]]++lb) W λe W'=>(∃v,e=aQ v)/\((∃xs,S xs/\J xs W')\/(∃pre,Sp pre/\Jx pre W'))
def JH{n n' l:Nat}{args:Array Vq}{w:Wq}{R:Ending->Wq->Prop}(h:YieldAt dQ n cZ l args w R):YieldAt dQ n' cZ l args w R:=by have⟨fn,tmps,assign,body,hy,hR⟩:=h;exact⟨fn,tmps,assign,body,hy,⟨hR.1,λc cs _=>hR.2 c cs (room_wide _)⟩⟩
def iW.c{α:Type}{m n gf:Nat}{lb:Array Vq}{ac:α->Array Vq}{Kp:Wq->Wq->Prop}{S Sp:List α->Prop}{N:Nat}{w:Wq}(h:iW m n gf lb ac Kp S Sp N w)(n':Nat):iW m n' gf lb ac Kp S Sp N w:=
 λl J z W O A M C hY h0=>dV.2 (dV.1 (h l J z W O A M C (λpre x W1 E G=>JH (hY pre x W1 E G)) h0))
structure pQ(I:Wq->Prop)(D:Nat)(rec:eK)(W:Wq):Prop where
 d:I W
 c:W.heap[D]?=aX (.loop rec)
def pQ.z{β:Type}{I:β->Wq->Prop}{B D:Nat}{rec:β->eK}(hI:dC B I)(G:D+1<=B):dC B (λs=>pQ (I s) D (rec s)):=by rintro s W W' row ⟨E,z⟩ A C;exact⟨hI s W W' row E A C,(A.b D (zg z).1 (λe=>by have:=(C D e.s).1;lia)).t z⟩
section
variable {α:Type} {n gf:Nat} {lb:Array Vq} {ac:α->Array Vq} {Kp:Wq->Wq->Prop} {S Sp:List α->Prop} {N:Nat}
def ui{g:Operand}{ps:Array Tmp}{assign body:eF}{Q:Exit->Act->Wq->Prop}{a:Act}{w:Wq}(hg:a.eval g=.func (.func gf) #[] lb)(eg:∀args w,(callFunc gf args).run cZ w=.ok (.enter gf args) w)(bk:iW (w.heap.size+2) (n-1) gf lb ac Kp S Sp N w)(co:∀{A B C:Wq},Kp A B->Kp B C->Kp A C)(c8:∀(W:Wq) (z:eK) (o':Obj),W.heap[w.heap.size+1]?=aX (.loop z)->Kp W (W.putObj (w.heap.size+1) o'))(ee:∀x,(ac x).size=ps.size)(I:List α->Wq->Prop)(Ix:eF->List α->Wq->Prop)(hI:dC w.heap.size I)(hIx:∀c,dC w.heap.size (Ix c))(h0:I [] w)(Ax:α->Act->Wq->Prop)(hAx:∀x a',dC w.heap.size (λ(_:Unit) W=>Ax x a' W))(aj:∀(l:Nat) (pre:List α) (x:α) (W:Wq) (K:Act->Wq->Prop),w.heap.size<=l->(∃r,W.heap[l]?=aX (.loop r))->I pre W->(∀a' W',dF w.heap.size W W'->Kp W W'->I pre W'->Ax x a' W'->K a' W')->
   assign.wpIn (Fence.wide.inRound l) (n-1-1) cZ (Exit.then K (λ_ _ _=>False)) {tmps:=(ps.zip (ac x)).foldl (λt (p,v)=>t.setIfInBounds p v) a.tmps,defers:=[]} W)(ev:∀(l:Nat) (pre:List α) (x:α) (a':Act) (W:Wq),w.heap.size<=l->(∃r,W.heap[l]?=aX (.loop r))->I pre W->Ax x a' W->aD pre<N->body.wpIn (Fence.wide.inRound l) (n-1-1) cZ (ownPostG w.heap.size Kp I Ix (pre++[x]) W) a' W)(ei:∀(D:Nat) (xs:List α) (W:Wq),w.heap.size<=D->S xs->I xs W->W.heap[D]?=aX (.deferred (aX []))->Q .normal {a with defers:={target:=.collected D,args:=#[]}::a.defers} W)(eb:∀(D:Nat) (c:eF) (pre:List α) (W:Wq),w.heap.size<=D->Sp pre->Ix c pre W->W.heap[D]?=aX (.deferred (aX []))->c.wpIn dQ n cZ Q {a with defers:={target:=.collected D,args:=#[]}::a.defers} W):(Code.rangeFunc g ps assign body).wpIn dQ n cZ Q a w:=by
 refine wpIn_rangeFunc (λfn h8=>?_)
 let z:LoopState->Option eF->Loop:=λst pe=>{state:=st,pending:=pe,fn:=fn,tmps:=a.tmps,params:=ps,assign:=assign,body:=body,defers:=w.heap.size}
 let wA:=w.alloc (.deferred (aX []))
 let O:=wA.alloc (.loop (z .ready aY))
 have sA:wA.heap.size=w.heap.size+1:=by simp[wA]
 have sB:O.heap.size=w.heap.size+2:=by simp[O,wA]
 have gB:dB w.heap.size w O:=((bB _ w).l zl _).l (by simp) _
 have d6:jU (I []) w.heap.size (z .ready aY) O:=by
  refine⟨hI _ _ _ aY h0 (qi gB) (λr e=>by cases e),?_,?_⟩;{have:=zn wA (.loop (z .ready aY));rwa[sA] at this};{exact (bC wA _ _ (by omega)).t (zn w _)}
 have al:∀{I':Wq->Prop}{r:eK}(r':eK){W:Wq},dC w.heap.size (λ(_:Unit)=>I')->jU I' w.heap.size r W->jU I' w.heap.size r' (W.putObj (w.heap.size+1) (.loop r')):=by intro I' r r' W ho E;exact⟨ho.putObj (s:=()) _ E.d (by omega) E.c rfl,cH (zg E.c).1,(World.putObj_heap_other (by omega)).t E.h⟩
 have oI:∀pre,dC w.heap.size (λ(_:Unit)=>I pre):=λpre _ A B row hs aq G=>hI pre A B row hs aq G;have oX:∀c pre,dC w.heap.size (λ(_:Unit)=>Ix c pre):=λc pre _ A B row hs aq G=>hIx c pre A B row hs aq G;have up:∀{β:Type} {X:β->Wq->Prop},dC w.heap.size X->dC O.heap.size X:=λh s A B row hs aq G=>h s A B row hs aq (λr e=>⟨by have:=(G r e).1;omega,(G r e).2⟩);have oJ:dC O.heap.size (λpre=>jU (I pre) w.heap.size (z .ready aY)):=jU.z (up hI) (by omega);have d5:dC O.heap.size (λpre W=>∃c,jU (Ix c pre) w.heap.size (z .done (aX c)) W):=by rintro pre A B row ⟨c,hc⟩ aq G;exact⟨c,jU.z (I:=λ_:Unit=>Ix c pre) (rec:=λ_=>z .done (aX c)) (up (oX c pre)) (by omega) () A B row hc aq G⟩
 refine⟨w.heap.size+1,[{target:=.collected w.heap.size,args:=#[]}],O,{target:=.fn (.func gf) lb,args:=#[.func (.yield (w.heap.size+1)) #[] #[]]},O,gf,#[.func (.yield (w.heap.size+1)) #[] #[]]++lb,O,run_enterLoop_outer _ _ _ _ _,?_,λ_ _=>trivial,?_,(λh=>(by cases h)),?_⟩
 .simp only[resolve,hg];simp[go_sem]
 .simp[invoke,go_sem,eg]
 refine (bk (w.heap.size+1) (λpre=>jU (I pre) w.heap.size (z .ready aY)) (λpre W=>∃c,jU (Ix c pre) w.heap.size (z .done (aX c)) W) O gB (by omega) oJ d5 ?_ d6).mono ?_
 .intro pre x W E bv;have hy:=run_yield (P:=cZ) (args:=ac x) E.c (ee x);refine⟨fn,_,assign,body,hy,roundIn_of_wpIn trivial (aj _ pre x W _ (by omega) ⟨_,E.c⟩ E.d ?_)⟩;intro a' Wa kA d7 iA el;have b9:jU (I pre) w.heap.size (z .ready aY) Wa:=⟨iA,kA.same _ _ (by omega) E.c rfl,kA.same _ _ zl E.h rfl⟩;refine⟨_,run_beginRound b9.c rfl,?_⟩;have ca:=al {z .ready aY with state:=.busy} (oI pre) b9;have ed:=c8 Wa _ (.loop {z .ready aY with state:=.busy}) b9.c;refine wpIn_mono (ev _ pre x a' _ (by omega) ⟨_,ca.c⟩ ca.d ((hAx x a').putObj (s:=()) _ el (by omega) b9.c rfl) bv) ?_;intro e a3 W3 hp
  have done:∀(ad:Option eF){I':Wq->Prop},dC w.heap.size (λ(_:Unit)=>I')->dF w.heap.size (Wa.putObj (w.heap.size+1) (.loop {z .ready aY with state:=.busy})) W3->I' W3->
    ∃W4,(Instr.endRound (w.heap.size+1) ad).run cZ W3=.ok (aM ad.isNone) W4/\jU I' w.heap.size (z (if ad.isNone then .ready else .done) ad) W4/\Kp W3 W4/\dF (w.heap.size+2) W W4:=by
   intro ad I' ho M i3;have h3:jU I' w.heap.size {z .ready aY with state:=.busy} W3:=⟨i3,M.same _ _ (by omega) ca.c rfl,M.same _ _ zl ca.h rfl⟩;exact⟨_,run_endRound ad h3.c,al _ ho h3,c8 _ _ _ h3.c,KeepsFrom.g (KeepsFrom.g (KeepsFrom.g (KeepsFrom.h kA (by omega)) (KeepsFrom.H _ _ _ (by omega))) (KeepsFrom.h M (by omega))) (KeepsFrom.H _ _ _ (by omega))⟩
  cases e with
  |normal=>have⟨M,kp,i3⟩:=hp;have⟨W4,G,h4,k4,_⟩:=done aY (oI _) M i3;exact⟨_,_,G,aS ⟨rfl,h4,co d7 (co ed (co kp k4))⟩⟩
  |ret=>have⟨M,i3⟩:=hp;have⟨W4,G,h4,_,k4⟩:=done (aX .ret) (oX _ _) M i3;exact⟨_,_,G,aU ⟨rfl,⟨_,h4⟩,k4⟩⟩
  |exit id=>have⟨M,i3⟩:=hp;have⟨W4,G,h4,_,k4⟩:=done (aX (.exit id)) (oX _ _) M i3;exact⟨_,_,G,aU ⟨rfl,⟨_,h4⟩,k4⟩⟩
  |goto t=>have⟨M,i3⟩:=hp;have⟨W4,G,h4,_,k4⟩:=done (aX (.goto t)) (oX _ _) M i3;exact⟨_,_,G,aU ⟨rfl,⟨_,h4⟩,k4⟩⟩
  |panic ch=>exact hp.elim
  |outgrown=>exact hp.elim
 .rintro e W2 ⟨⟨v,rfl⟩,(⟨xs,hS,E⟩|⟨pre,ep,c,E⟩)⟩;{have h2:=al {z .ready aY with state:=.exhausted} (oI xs) E;exact⟨aY,_,eE E.c (by intro h;cases h),ei _ xs _ zl hS h2.d h2.h⟩};{have h2:=al {z .done (aX c) with state:=.exhausted} (oX c pre) E;exact⟨aX c,_,eE E.c (by intro h;cases h),eb _ c pre _ zl ep h2.d h2.h⟩}
def Jf{g:Operand}{ps:Array Tmp}{assign body:eF}{Q:Exit->Act->Wq->Prop}{a:Act}{w:Wq}{l₀:Nat}{r₀:eK}(hl₀:w.heap[l₀]?=aX (.loop r₀))(hg:a.eval g=.func (.func gf) #[] lb)(eg:∀args w,(callFunc gf args).run cZ w=.ok (.enter gf args) w)(bk:iW (w.heap.size+1) (n-1) gf lb ac Kp S Sp N w)(co:∀{A B C:Wq},Kp A B->Kp B C->Kp A C)(c8:∀(W:Wq) (z:eK) (o':Obj),W.heap[w.heap.size]?=aX (.loop z)->Kp W (W.putObj w.heap.size o'))(ee:∀x,(ac x).size=ps.size)(I:List α->Wq->Prop)(Ix:eF->List α->Wq->Prop)(hI:dC w.heap.size I)(hIx:∀c,dC w.heap.size (Ix c))(h0:I [] w)(Ax:α->Act->Wq->Prop)(hAx:∀x O,dC w.heap.size (λ(_:Unit) W=>Ax x O W))(aj:∀(l:Nat) (pre:List α) (x:α) (W:Wq) (K:Act->Wq->Prop),w.heap.size<=l->(∃r,W.heap[l]?=aX (.loop r))->I pre W->(∀O W',dF w.heap.size W W'->Kp W W'->I pre W'->Ax x O W'->K O W')->
   assign.wpIn (Fence.wide.inRound l) (n-1-1) cZ (Exit.then K (λ_ _ _=>False)) {tmps:=(ps.zip (ac x)).foldl (λt (p,v)=>t.setIfInBounds p v) a.tmps,defers:=[]} W)(ev:∀(l:Nat) (pre:List α) (x:α) (O:Act) (W:Wq),w.heap.size<=l->(∃r,W.heap[l]?=aX (.loop r))->I pre W->Ax x O W->aD pre<N->body.wpIn (Fence.wide.inRound l) (n-1-1) cZ (ownPostG w.heap.size Kp I Ix (pre++[x]) W) O W)(ei:∀(xs:List α) (W:Wq),S xs->I xs W->Q .normal a W)(eb:∀(c:eF) (pre:List α) (W:Wq),Sp pre->Ix c pre W->c.wpIn (Fence.wide.inRound l₀) n cZ Q a W):(Code.rangeFunc g ps assign body).wpIn (Fence.wide.inRound l₀) n cZ Q a w:=by
 refine wpIn_rangeFunc (λfn h8=>?_)
 let z:LoopState->Option eF->Loop:=λst pe=>{state:=st,pending:=pe,fn:=fn,tmps:=a.tmps,params:=ps,assign:=assign,body:=body,defers:=r₀.defers}
 let M:=w.alloc (.loop (z .ready aY))
 have sB:M.heap.size=w.heap.size+1:=by simp[M]
 have gB:dB w.heap.size w M:=(bB _ w).l zl _;have d6:pQ (I []) w.heap.size (z .ready aY) M:=⟨hI _ _ _ aY h0 (qi gB) (λr e=>by cases e),zn w _⟩;have al:∀{I':Wq->Prop}{r:eK}(r':eK){W:Wq},dC w.heap.size (λ(_:Unit)=>I')->pQ I' w.heap.size r W->pQ I' w.heap.size r' (W.putObj w.heap.size (.loop r')):=by intro I' r r' W ho G;exact⟨ho.putObj (s:=()) _ G.d zl G.c rfl,cH (zg G.c).1⟩
 have oI:∀pre,dC w.heap.size (λ(_:Unit)=>I pre):=λpre _ A B row hs aq E=>hI pre A B row hs aq E;have oX:∀c pre,dC w.heap.size (λ(_:Unit)=>Ix c pre):=λc pre _ A B row hs aq E=>hIx c pre A B row hs aq E;have up:∀{β:Type} {X:β->Wq->Prop},dC w.heap.size X->dC M.heap.size X:=λh s A B row hs aq E=>h s A B row hs aq (λr e=>⟨by have:=(E r e).1;omega,(E r e).2⟩);have oJ:dC M.heap.size (λpre=>pQ (I pre) w.heap.size (z .ready aY)):=pQ.z (up hI) (by omega);have d5:dC M.heap.size (λpre W=>∃c,pQ (Ix c pre) w.heap.size (z .done (aX c)) W):=by rintro pre A B row ⟨c,hc⟩ aq E;exact⟨c,pQ.z (I:=λ_:Unit=>Ix c pre) (rec:=λ_=>z .done (aX c)) (up (oX c pre)) (by omega) () A B row hc aq E⟩
 refine⟨w.heap.size,[],M,{target:=.fn (.func gf) lb,args:=#[.func (.yield w.heap.size) #[] #[]]},M,gf,#[.func (.yield w.heap.size) #[] #[]]++lb,M,run_enterLoop_inner hl₀ _ _ _ _ _,?_,λ_ _=>trivial,?_,(λh=>(by cases h)),?_⟩
 .simp only[resolve,hg];simp[go_sem]
 .simp[invoke,go_sem,eg]
 refine (CallsIn.inRound l₀ (bk w.heap.size (λpre=>pQ (I pre) w.heap.size (z .ready aY)) (λpre W=>∃c,pQ (Ix c pre) w.heap.size (z .done (aX c)) W) M gB (by omega) oJ d5 ?_ d6)).mono ?_
 .intro pre x W G bv;have hy:=run_yield (P:=cZ) (args:=ac x) G.c (ee x);refine⟨fn,_,assign,body,hy,roundIn_of_wpIn trivial (aj _ pre x W _ zl ⟨_,G.c⟩ G.d ?_)⟩;intro O Wa kA d7 iA el;have b9:pQ (I pre) w.heap.size (z .ready aY) Wa:=⟨iA,kA.same _ _ zl G.c rfl⟩;refine⟨_,run_beginRound b9.c rfl,?_⟩;have ca:=al {z .ready aY with state:=.busy} (oI pre) b9;have ed:=c8 Wa _ (.loop {z .ready aY with state:=.busy}) b9.c;refine wpIn_mono (ev _ pre x O _ zl ⟨_,ca.c⟩ ca.d ((hAx x O).putObj (s:=()) _ el zl b9.c rfl) bv) ?_;intro e a3 W3 hp
  have done:∀(ad:Option eF){I':Wq->Prop},dC w.heap.size (λ(_:Unit)=>I')->dF w.heap.size (Wa.putObj w.heap.size (.loop {z .ready aY with state:=.busy})) W3->I' W3->
    ∃W4,(Instr.endRound w.heap.size ad).run cZ W3=.ok (aM ad.isNone) W4/\pQ I' w.heap.size (z (if ad.isNone then .ready else .done) ad) W4/\Kp W3 W4/\dF (w.heap.size+1) W W4:=by
   intro ad I' ho kf i3;have h3:pQ I' w.heap.size {z .ready aY with state:=.busy} W3:=⟨i3,kf.same _ _ zl ca.c rfl⟩;exact⟨_,run_endRound ad h3.c,al _ ho h3,c8 _ _ _ h3.c,KeepsFrom.g (KeepsFrom.g (KeepsFrom.g (KeepsFrom.h kA (by omega)) (KeepsFrom.H _ _ _ (by omega))) (KeepsFrom.h kf (by omega))) (KeepsFrom.H _ _ _ (by omega))⟩
  cases e with
  |normal=>have⟨kf,kp,i3⟩:=hp;have⟨W4,E,h4,k4,_⟩:=done aY (oI _) kf i3;exact⟨_,_,E,aS ⟨rfl,h4,co d7 (co ed (co kp k4))⟩⟩
  |ret=>have⟨kf,i3⟩:=hp;have⟨W4,E,h4,_,k4⟩:=done (aX .ret) (oX _ _) kf i3;exact⟨_,_,E,aU ⟨rfl,⟨_,h4⟩,k4⟩⟩
  |exit id=>have⟨kf,i3⟩:=hp;have⟨W4,E,h4,_,k4⟩:=done (aX (.exit id)) (oX _ _) kf i3;exact⟨_,_,E,aU ⟨rfl,⟨_,h4⟩,k4⟩⟩
  |goto t=>have⟨kf,i3⟩:=hp;have⟨W4,E,h4,_,k4⟩:=done (aX (.goto t)) (oX _ _) kf i3;exact⟨_,_,E,aU ⟨rfl,⟨_,h4⟩,k4⟩⟩
  |panic ch=>exact hp.elim
  |outgrown=>exact hp.elim
 .rintro e W2 ⟨⟨v,rfl⟩,(⟨xs,hS,G⟩|⟨pre,ep,c,G⟩)⟩;{have h2:=al {z .ready aY with state:=.exhausted} (oI xs) G;exact⟨aY,_,eE G.c (by intro h;cases h),ei xs _ hS h2.d⟩};{have h2:=al {z .done (aX c) with state:=.exhausted} (oX c pre) G;exact⟨aX c,_,eE G.c (by intro h;cases h),eb c pre _ ep h2.d⟩}
end
end Go.Proofs.YtjajnhemgphefaaGreatDoor
namespace Go.Proofs.YtjajnhemgphefaaGreatDoor
open Go renaming World->Wq,Value->Vq
open Go.RowKit Go.Shelf Go.Maps
attribute [local go_sem] eA
variable {B aa m gf N:Nat} {X Y Z W W':Wq} {lb:Array Vq}
def qy(x:Gd×Int):List Vq:=[aK x.1.j,aK x.1.x,aK x.1.y,aO aR x.2]
theorem rP(x:Gd×Int):aD (qy x)=4:=rfl
def Tryz.f:(Tryz.prog.info? 172).map (λi=>(i.zero,i.size,i.bytes))=aX (aX (aL #[aK ⟨#[]⟩,aK ⟨#[]⟩,aK ⟨#[]⟩,aO aR 0]),4,56):=by kernel_rfl
def Mo(v:Vq)(w:Wq)(A:Option Addr)(E C:Nat)(z:v=aJ A E C):Cs 131 #[v] w λe w'=>e=aQ (.func (.func 186) #[] #[Pt w.heap.size])/\w'=w.alloc (aP #[v] 169):=by subst z;go_enter Tryz.func131,Tryz.ntmps131;go_wp2;go_ret;exact⟨rfl,rfl⟩
structure kL(B aa m:Nat)(W W':Wq):Prop where
 h:∀(k:Nat) (o:Obj),k<B->W.heap[k]?=aX o->(k<aa\/∀c fz,o≠aP c 172 fz)->W'.heap[k]?=aX o
 f:dF m W W'
def kL.g(h:kL B aa m X Y)(k:kL B aa m Y Z):kL B aa m X Z:=⟨λi o z C A=>k.h i o z (h.h i o z C A) A,KeepsFrom.g h.f k.f⟩
def kL.d(h:dB W.heap.size W W'):kL B aa m W W':=⟨λk o _ z _=>(h.b k (zg z).1).t z,KeepsFrom.d h⟩
def kL.H(W:Wq)(l:Nat)(z:Obj)(C:l<m)(E:B<=l):kL B aa m W (W.putObj l z):=
 ⟨λk o G A _=>((dH W l z).b k (zg A).1 (by simp;lia)).t A,KeepsFrom.H W l z C⟩
def BT{V:Wq}{ex:Nat->Prop}(h:fC V W' ex)(C:∀k,k<V.heap.size->ex k->∃(c:Array Vq) (t:dZ),V.heap[k]?=cC c t):dF m V W':=
 ⟨h.size,λk o _ z A=>by
  have ae:=(zg z).1;refine (h.h k ae (λe=>?_)).t z;have⟨c,t,h1⟩:=C k ae e
  rw[h1] at z;cases z;cases A⟩
def iW.d{α:Type}{n:Nat}{ac:α->Array Vq}{Kp:Wq->Wq->Prop}{S Sp:List α->Prop}{w w1:Wq}(h:iW m n gf lb ac Kp S Sp N w)(z:dB w.heap.size w w1):iW m n gf lb ac Kp S Sp N w1:=
 λl J A W C=>h l J A W (z.t (C.m z.s))
def oP(B aa:Nat)(W W':Wq):Prop:=∀(k:Nat) (o:Obj),k<B->W.heap[k]?=aX o->(k<aa\/∀c fz,o≠aP c 172 fz)->W'.heap[k]?=aX o
def oP.g(h:oP B aa X Y)(k:oP B aa Y Z):oP B aa X Z:=λi o z C A=>k i o z (h i o z C A) A
def oP.o{row:Option Nat}(h:oP B aa X Y)(A:Y.grownBy Z row)(G:∀r,row=aX r->B<=r):oP B aa X Z:=λi o C E M=>by have z:=h i o C E M;exact (A.b i (zg z).1 (λe=>by have:=G i e.s;lia)).t z
def oP.d(h:dB W.heap.size W W'):oP B aa W W':=λk o _ z _=>(h.b k (zg z).1).t z
theorem sL(w:Wq)(x y z u:Vq)(t:dZ):∀j q,[x,y,z,u][j]?=aX q->aE (w.alloc (aP #[x,y,z,u] t)) ((⟨w.heap.size,0,aY⟩:Addr).add j)=aX q:=by
 intro j q A;match j,A with
 |0,A=>simp at A;subst A;simp[Addr.add]
 |1,A=>simp at A;subst A;simp[Addr.add]
 |2,A=>simp at A;subst A;simp[Addr.add]
 |3,A=>simp at A;subst A;simp[Addr.add]
 |j+4,A=>simp at A
theorem Ey{S Sp:List (Gd×Int)->Prop}(v:Vq)(xs:List (Gd×Int))(aa:Nat)(w:Wq)(qt:w.ownsRow aa 172 4 v xs.length (xs.flatMap qy))(fs:aa<=w.heap.size)(hl:xs.length+N<=2000000000000)(eg:∀args w,(callFunc gf args).run Tryz.prog w=.ok (.enter gf args) w)(bk:∀m n,iW m n gf lb (λx:Gd×Int=>#[.agg (qy x).toArray]) (kL w.heap.size aa m) S Sp N w):Cs 134 #[v,.func (.func gf) #[] lb] w λe w'=>∃v' ys,e=.returned v'/\S ys/\w'.ownsRow aa 172 4 v' (xs++ys).length ((xs++ys).flatMap qy)/\Below aa w w'/\oP w.heap.size aa w w':=by
 obtain⟨dn,dq,f9⟩:=qq qt;obtain⟨NB,hN⟩:∃N,w.heap.size=N:=⟨_,rfl⟩;obtain⟨i0,hi,gj,ii,g6⟩:=info_parts Tryz.f;rw[f9] at qt ⊢;refine (callsIn_wide (n:=8)).1 ?_;refine callsIn_of_wp_marks Tryz.func134 rfl trivial ?_ rfl;simp only[Tryz.ntmps134,bO,bF,bU,cA,cD,bI,bJ,bQ,bL,bG,bH];gi_wp2;obtain⟨W0,an⟩:=aC (w.alloc (.cells #[.slice dn xs.length dq] 169));have a7:Below w.heap.size w W0:=an▸(bB _ w).l zl _
 have iw:W0.heap.size=NB+1:=by rw[<-an,<-hN];simp
 have bV:Boxed W0 NB 169 (.slice dn xs.length dq):=by have:=Boxed.new w 169 (.slice dn xs.length dq);rwa[hN,an] at this
 have g7:=qh qt a7;(try simp only[hN]);rw[an];refine ui (n:=8) (gf:=gf) (lb:=lb) rfl eg ((bk _ _).d a7) kL.g (λV rc o' ho=>kL.H V _ o' (by lia) (by lia)) (λ_=>rfl)
  (λpre V=>∃v,Boxed V NB 169 v/\V.ownsRow aa 172 4 v (xs++pre).length ((xs++pre).flatMap qy)/\Below aa w V/\NB<V.heap.size/\oP w.heap.size aa w V)
  (λ_ _ _=>False)
  ?hI (λ_ _ _ _ _ h _ _=>h) ⟨_,bV,by rw[List.append_nil];exact g7,(a7.m fs),by lia,oP.d a7⟩
  (λx a' V=>∃Bx,V.heap[Bx]?=some (Obj.cells #[.string x.1.j,.string x.1.x,.string x.1.y,.int .i64 x.2] 172)/\a'={tmps:=#[.slice dn xs.length dq,.func (.func gf) #[] lb,.pointer (some ⟨NB,0,none⟩),undef,.slice none 0 0,.pointer (some ⟨Bx,0,none⟩),.func (.func gf) #[] lb,.agg #[.string x.1.j,.string x.1.x,.string x.1.y,.int .i64 x.2],undef,undef,undef,undef,undef],defers:=[]})
  ?hAx ?assign ?body ?done (λ_ _ _ _ _ _ h _=>h.elim)
 case hI=>rintro pre V V' row ⟨v,h1,h2,h3,h4,h5⟩ hg hr;have hk:=qn hg (λr e=>(hr r e).2);exact⟨v,hk _ _ _ _ h1,Qe h2 (λg c _ hc=>hk g c _ _ hc),h3.grown hg (by lia) (λk e=>by have:=(hr k e).1;lia),by have:=hg.size;lia,h5.o hg (λr e=>by have:=(hr r e).1;lia)⟩
 case hAx=>rintro x a' _ V V' row ⟨Bx,h2,h5⟩ hg hr;exact⟨Bx,qn hg (λr e=>(hr r e).2) _ _ _ _ h2,h5⟩
 case assign=>rintro l' pre t V K hl iu ⟨v,h1,h2,h3,h4,h5⟩ hK;have HK:Hid _:=hK;clear hK;unfold qy;gi_wp2;have dv:Below V.heap.size V (V.alloc (.cells #[.string t.1.j,.string t.1.x,.string t.1.y,.int .i64 t.2] 172)):=(bB _ V).l zl _;exact HK.o _ _ (KeepsFrom.d dv) (kL.d dv) ⟨v,h1.alloc _,h2.l _,h3.t (dv.m (by lia)),by simp;lia,h5.g (oP.d dv)⟩ ⟨V.heap.size,zn V _,rfl⟩
 case body=>
  rintro l' pre t a' V i9 ⟨r,hr⟩ ⟨v,h1,h2,h3,h4,h5⟩ ⟨Bx,dt,rfl⟩ ae;have H5:Hid _:=h5;clear h5;have c0:V.cell? ⟨Bx,0,none⟩=some (.string t.1.j):=zc dt;have c1:V.cell? ⟨Bx,1,none⟩=some (.string t.1.x):=zc dt;have c2:V.cell? ⟨Bx,2,none⟩=some (.string t.1.y):=zc dt;have c3:V.cell? ⟨Bx,3,none⟩=some (.int .i64 t.2):=zc dt;have cb:=h1.cell;obtain⟨va,vc,rfl⟩:=qq h2;have ge:(xs++pre).length=xs.length+pre.length:=by{simp};have gg:(xs++pre).length+1<=maxLen:=by{unfold maxLen;lia};have gm:((xs++pre).length+1)*56<=140737488355328:=by{lia};have da:Hid ((xs++(pre++[t])).flatMap qy=(xs++pre).flatMap qy++[.string t.1.j,.string t.1.x,.string t.1.y,.int .i64 t.2]):=by{show _=_;rw[<-List.append_assoc,List.flatMap_append];rfl};have Qpa:Hid ((xs++(pre++[t])).length=(xs++pre).length+1):=by{show _=_;simp;lia};generalize hus:(xs++pre).length=un at *;generalize hub:(xs++pre).flatMap qy=uc at *;clear hus hub ge;have g1:Hid (∀w1,(V.alloc (.cells #[.string t.1.j,.string t.1.x,.string t.1.y,.int .i64 t.2] 172)).grownBy w1 (Value.slice va un vc).ownBlock->Boxed w1 NB 169 (.slice va un vc)/\fC V w1 (λj=>some j=(Value.slice va un vc).ownBlock)):=by{intro w1 hg;have hc:=((fC.j V _).alloc _).o hg (λk e _=>e.s);exact⟨(hc.h _ h1.lt (λe=>Qh h2 h1 (by lia) _ e.s rfl)).t h1,hc⟩};gi_wp2_with (gi_at_builtin;refine wpListIn_append_own _ rfl _ _ 169 rfl aa 172 i0 (.agg #[.string ⟨#[]⟩,.string ⟨#[]⟩,.string ⟨#[]⟩,.int .i64 0]) 4 56 Tryz.underlying169 hi gj ii g6 rfl (by lia) _ _ _ rfl (World.ownsRow.l h2 _) ⟨V.heap.size,0,none⟩ 1 1 [.string t.1.j,.string t.1.x,.string t.1.y,.int .i64 t.2] rfl rfl (sL _ _ _ _ _ _) (by simp[Value.oneCell']) gg gm (by simp;lia) ?_;intro v' w1 ag ai _;obtain⟨g',b6,ic⟩:=ownsRow_succ ag;subst ic;obtain⟨d4,gq⟩:=g1.o w1 ai;have cc:=d4.cell;have ff:=d4.frozen);have cj:fC V (w1.setCell ⟨NB,0,none⟩ (.slice (some ⟨g',0,none⟩) (un+1) b6)) (λj=>j=NB\/some j=(Value.slice va un vc).ownBlock):=(gq.mono (λ_ _ e=>.inr e)).i ⟨NB,0,none⟩ _ (λ_=>.inl rfl);have bc:∀m',KeepsFrom m' V (w1.setCell ⟨NB,0,none⟩ (.slice (some ⟨g',0,none⟩) (un+1) b6)):=λm'=>BT cj (λj hj hx=>by
   obtain rfl|hx:=hx
   .exact⟨_,_,h1⟩
   .obtain⟨_,c,hc⟩:=qe h2 hx.s;exact⟨c,_,hc⟩)
  have e8:oP w.heap.size aa V (w1.setCell ⟨NB,0,none⟩ (.slice (some ⟨g',0,none⟩) (un+1) b6)):=λk o hk ho hx=>by{refine (cj.h k (zg ho).1 (λe=>?_)).t ho;obtain rfl|e:=e;{lia};obtain⟨ao,c,hc⟩:=qe h2 e.s;obtain hx|hx:=hx;{lia};rw[hc] at ho;cases ho;exact hx _ _ rfl};refine⟨bc _,⟨e8,bc _⟩,_,qQ d4 _,?_,?_,?_,oP.g H5.o e8⟩;{rw[da.o,Qpa.o];have:=Qj ag ⟨NB,0,none⟩ (.slice (some ⟨g',0,none⟩) (un+1) b6) (Qh ag d4 (by lia));simpa using this};{refine h3.t ⟨cj.os,cj.tape,cj.output,cj.size,λk hk=>?_⟩;refine cj.h k (by lia) (λe=>?_);obtain rfl|e:=e;{lia};have:=(qe h2 e.s).1;lia};have:=cj.size;lia
 rintro D ys V hD hS ⟨v,h1,h2,h3,h4,h5⟩ hK;have c1:=h1.cell;gi_wp2;refine⟨by simp,.inl ⟨_,_,rfl,run_takeDeferred hK,?_⟩⟩;have hk:=qn (grownBy_putObj' V D (.deferred none)) (λr e=>by cases e;exact⟨_,hK,rfl⟩);refine⟨_,results_tmp rfl _ _ _,v,ys,rfl,hS,Qe h2 (λg c _ hc=>hk g c _ _ hc),?_⟩;exact⟨v8 h3 (by lia) (by lia),h5.o (grownBy_putObj' V D (.deferred none)) (λr e=>by cases e;lia)⟩
def DO{b:Nat}{v:Vq}{xs:List (Gd×Int)}(h:aH W b 172 4 v (aD xs) (xs.flatMap qy)){k:Nat}(C:k<aD xs):∃(g c:Nat),v=Sc g (aD xs) c/\aE W (Ad g (k*4))=aX (aK (xs[k]).1.j)/\aE W (Ad g (k*4+1))=aX (aK (xs[k]).1.x)/\aE W (Ad g (k*4+2))=aX (aK (xs[k]).1.y)/\aE W (Ad g (k*4+3))=aX (aO aR (xs[k]).2):=by
 obtain⟨_,⟨_,hz⟩|⟨g,c,O,E,_,z,_,_,_,G⟩⟩:=h
 .omega
 have M:∀(l:List (Gd×Int))(i:Nat)(A:i<aD l),(l.flatMap qy)[i*4]?=aX (aK (l[i]).1.j)/\(l.flatMap qy)[i*4+1]?=aX (aK (l[i]).1.x)/\(l.flatMap qy)[i*4+2]?=aX (aK (l[i]).1.y)/\(l.flatMap qy)[i*4+3]?=aX (aO aR (l[i]).2):=by
  intro l;induction l with
  |nil=>intro i A;simp at A
  |cons x l ih=>
   intro i A;cases i with
   |zero=>simp[qy]
   |succ i=>grind [qy]
 have⟨p0,p1,p2,p3⟩:=M xs k C;rw[<-G,bX,if_pos (by lia)] at p0 p1 p2 p3;refine⟨g,c,E,?_,?_,?_,?_⟩
 .simp only[aE,z];simpa using p0
 .simp only[aE,z];simpa using p1
 .simp only[aE,z];simpa using p2
 simp only[aE,z];simpa using p3
def LI(B aa z b:Nat)(v:Vq)(xs:List (Gd×Int))(w:Wq)(C:w.heap[z]?=cC #[v] 169)(ix:z<B)(qt:aH w b 172 4 v (aD xs) (xs.flatMap qy))(Qv:∀g,aI v=aX g->g<aa/\g<B)(hl:aD xs<=1000000)(m n0:Nat):iW m n0 186 #[Pt z] (λx:Gd×Int=>#[aL (qy x).toArray]) (kL B aa m) (λys=>ys=xs) (λ_=>True) (aD xs) w:=by
 obtain⟨n,hn⟩:∃n,12<=n:=⟨12,cW _⟩;refine iW.c (n:=n) ?_ n0;have n1:1<=n:=by lia
 intro l J Jx W hW c6 hJ cv hY h0;have ij:=(hW.b z (zg C).1).t C;have en:=qh qt hW;clear C qt hW;obtain⟨va,vc,rfl⟩:=qq en;have c0:aE W (Ad z 0)=aX (aJ va (aD xs) vc):=zc ij;have HY:=aA hY;have HJ:=aA hJ;clear hY hJ cv;refine eJ Tryz.func186 rfl trivial ?_ rfl;simp only[Tryz.ntmps186,bO,bF,bU,cA,cD,bI,bJ,bQ,bL,bG,bH];gi_wp2;refine wpIn_loop (λA V=>∃(k:Nat)(u4 u8 u9 fi fy fe fo fw fq:Vq),A={tmps:=#[.func (.yield l) #[] #[],Pt z,aZ,aZ,u4,aJ va (aD xs) vc,aO aR (aD xs),aO aR k,u8,u9,fi,fy,fe,fo,fw,fq],defers:=[]}/\k<=aD xs/\J (xs.take k) V/\kL B aa m W V) (λA _=>aD xs-(intOf (A.tmps.getD 7 aZ)).toNat) ⟨0,_,_,_,_,_,_,_,_,_,rfl,zz,h0,kL.d zr⟩ ?_;rintro A V ⟨k,u4,u8,u9,fi,fy,fe,fo,fw,fq,rfl,hk,G,M⟩;by_cases ae:k<aD xs
 .have fj:=Qe en (λg c hg hc=>M.h g _ (Qv g hg).2 hc (aS (Qv g hg).1));have⟨g,c,e0,x0,x1,x2,x3⟩:=DO fj ae;cases e0;have E:=λO=>(bB _ V).l zl O;have da:Hid (xs.take (k+1)=xs.take k++[xs[k]]):=by{show _=_;rw[List.take_succ_eq_append_getElem ae]};have⟨fn,tmps,assign,body,hy,hR⟩:=HY.o (xs.take k) xs[k] (V.alloc (aP #[aK (xs[k]).1.j,aK (xs[k]).1.x,aK (xs[k]).1.y,aO aR (xs[k]).2] 172)) (HJ.o _ _ _ aY G (qi (E _)) (λr e=>by cases e)) (by simp;lia);unfold qy at hy;generalize hxk:xs[k]=xk at *;have g4:=aA M;have HB:=aA E;clear fj en E M hxk;gi_wp2;refine hR.mono ?_;rintro e W1 (⟨rfl,dg,h9⟩|⟨rfl,eo,_⟩);{clear hy hR;gi_wp2;refine⟨⟨k+1,_,_,_,_,_,_,_,_,_,rfl,by lia,da.o▸dg,(kL.g g4.o (kL.d (HB.o _))).g h9⟩,?_⟩;simp[intOf];lia};clear hy hR;gi_wp2;exact⟨_,eT rfl _ _ _,⟨_,rfl⟩,aU ⟨_,trivial,eo⟩⟩
 have dh:k=aD xs:=by{lia};subst dh;rw[cP] at G;gi_wp2;exact⟨_,eT rfl _ _ _,⟨_,rfl⟩,aS ⟨xs,rfl,G⟩⟩
def xV(x y:Gd×Int):Int:=Lib.compareInt x.2 y.2
def Lz(x y:Gd×Int)(w:Wq):Cs 132 #[aL (qy x).toArray,aL (qy y).toArray] w λe w'=>e=aQ (aO aR (xV x y))/\∃q A,w'=dM (w.drewN q) A:=by unfold qy xV;have z:=λW=>Tryz.cmp_Compare_int x.2 y.2 W;go_enter Tryz.func132,Tryz.ntmps132;go_wp2_with (go_at_call 133;refine (z _).m ?_;rintro e W1 ⟨rfl,rfl⟩);go_ret;refine⟨rfl,0,#[aP #[aK x.1.j,aK x.1.x,aK x.1.y,aO aR x.2] 172] ++ #[aP #[aK y.1.j,aK y.1.x,aK y.1.y,aO aR y.2] 172],?_⟩;rw[eQ,eQ];show dM (dM w _) _=dM w _;rw[Sort.grow_grow]
theorem Eo(z:Gd×Int):∀(xs:List (Gd×Int)) (t:Nat),t<aD xs*4->(xs.flatMap qy)[t]?=(qy (xs[t / 4]?.getD z))[t % 4]?
 |[],t,h=>by simp at h
 |x::xs,t,h=>by
  by_cases G:t<4;{grind [qy]}
  .obtain⟨s,rfl⟩:∃s,t=s+4:=⟨t-4,by lia⟩;simp only[bF] at h;have E:=Eo z xs s (by lia);have A:(s+4) / 4=s / 4+1:=by{lia};have C:(s+4) % 4=s % 4:=by{lia};rw[cM,List.getElem?_append_right (by simp[qy]),A,C];simp only[rP,Nat.add_sub_cancel,List.getElem?_cons_succ];exact E
abbrev w8:Inhabited (Gd×Int):=⟨(⟨⟨#[]⟩,⟨#[]⟩,⟨#[]⟩⟩,0)⟩
def F1(xs:List (Gd×Int)):(@Sort.flatK _ w8 qy 4 xs.toArray).toList=xs.flatMap qy:=by
 letI:=w8
 refine cO (λt=>?_);by_cases h:t<aD xs*4
 .rw[Eo w8.default xs t h];have A:t / 4<aD xs:=by{omega};simp only[Sort.flatK,Array.toList_map,List.getElem?_map,Array.getElem?_toList];rw[Array.getElem?_range,if_pos (by simpa using h)];have C:t % 4<4:=by{omega};have E:xs[t / 4]?.getD w8.default=xs[t / 4]:=by{grind};have G:xs.toArray[t / 4]! = xs[t / 4]:=by{simp[A]};rw[E];simp only[Option.map_some,G];have z:t % 4<aD (qy xs[t / 4]):=by{rw[rP];exact C};rw[cG z];simp[z]
 .have M:aD (xs.flatMap qy)=aD xs*4:=by
   induction xs with
   |nil=>rfl
   |cons x xs ih=>simp only[bF] at h;rw[cM,List.length_append,ih (by omega),rP,bF];omega
  rw[cI (by simp;omega),cI (by omega)]
def B9{w:Wq}{blk n:Nat}{z:Array Vq}{T:dZ}(F:Array Vq)(C:Array Obj)(A:w.heap[blk]?=cC z T)(O:F.size<=z.size):(dM (eD id (eI w n) blk 0 F) C).heap[blk]?=cC (dR id 0 F z) T/\(∀k,k<w.heap.size->k≠blk->(dM (eD id (eI w n) blk 0 F) C).heap[k]?=w.heap[k]?)/\(dR id 0 F z).size=z.size/\(dR id 0 F z).toList.take F.size=F.toList:=by
 have ae:=(zg A).1;refine⟨?_,λk M E=>?_,by simp[dR],?_⟩
 .simp only[dM,eD,Sort.mapBlock,eI];rw[cE (by simpa using ae),cJ,if_pos rfl,A];rfl
 .simp only[dM,eD,Sort.mapBlock,eI];rw[cE (by simpa using M),cJ,if_neg (λe=>E e.s)]
 refine cO (λt=>?_);by_cases h:t<F.size
 .rw[bX,if_pos h];have G:t<z.size:=by{lia};simp[dR,h,G]
 grind
def ue(x y:Gd×Int):@Go.Proofs.ltOf (Gd×Int) xV x y=decide (x.2<y.2):=by
 unfold Go.Proofs.ltOf xV Lib.compareInt;by_cases h:x.2<y.2
 .simp[h]
 grind
def Is(v:Vq)(xs:List (Gd×Int))(b:Nat)(w:Wq)(qt:aH w b 172 4 v (aD xs) (xs.flatMap qy))(hl:aD xs<=1000000):Cs 185 #[v,.func (.func 132) #[] #[]] w λe w'=>e=aQ (aN #[])/\∃O:List (Gd×Int),O.Perm xs/\O.Pairwise (λa b=>a.2<=b.2)/\aH w' b 172 4 v (aD O) (O.flatMap qy)/\fC w w' (λk=>aX k=aI v):=by
 letI:=w8;have gs:=qt;obtain⟨bv,⟨hv,hn⟩|⟨g,E,M,hv,hb,G,h1,h2,h3,h4⟩⟩:=qt
 .subst hv;have:xs=[]:=List.eq_nil_of_length_eq_zero hn;subst this;refine (AnyF.slices_SortFunc_none Tryz.sortLasting aY 0 _ w).m ?_;rintro e w' ⟨rfl,rfl⟩;exact⟨rfl,[],.refl _,.nil,gs,fC.j _ _⟩
 subst hv;have ae:=(zg G).1;have gv:(Sort.flatK qy 4 xs.toArray).toList=xs.flatMap qy:=F1 xs;have hH:Sort.HoldsK qy 4 w g 0 xs.toArray:=by intro j C;have im:j<aD xs*4:=by{simpa using C};refine⟨?_,by simp[aF,G]⟩;have e1:(Sort.flatK qy 4 xs.toArray).toList[j]?=M.toList[j]?:=by{rw[gv,<-h4,bX,if_pos im]};have e2:(Sort.flatK qy 4 xs.toArray)[j]?=M[j]?:=by{simpa using e1};have e3:(Sort.flatK qy 4 xs.toArray)[j]?=aX (Sort.flatK qy 4 xs.toArray)[j]!:=by{rw[Array.getElem?_eq_getElem C];exact congrArg aX (getElem!_pos (Sort.flatK qy 4 xs.toArray) j C).s};simp only[aE,G];rw[e3] at e2;simpa using e2.s
 refine (AnyQ.slices_SortFunc Tryz.sortLasting 4 (λW=>Tryz.isAgg172 W) (λW=>Tryz.sizeOf172 W) qy rP (λx u hu=>by
   simp only[qy,List.mem_cons,List.not_mem_nil,or_false] at hu
   obtain rfl|rfl|rfl|rfl:=hu<;>rfl) xV ⟨λx=>?_,λx y z=>?_,λx y z=>?_⟩ 132 #[] g 0 E xs.toArray w (enters_of Tryz.func132 (by kernel_rfl) rfl) (λm os dk hs x y=>?_) hH ae (by simp;lia)).m ?_
 .rw[ue];simp
 .rw[ue,ue,ue];simp;lia
 .rw[ue,ue,ue];simp;lia
 .exact (Lz x y _)
 rintro e w' ⟨rfl,A,n,os,hp,hs,rfl⟩;have⟨p1,p2,p3⟩:=hp;have hd:A.size=aD xs:=p1
 have Qlv:A.toList.Perm xs:=by have q1:A.extract 0 xs.toArray.size=A:=by{rw[bZ (by simp[hd])]};have q2:xs.toArray.extract 0 xs.toArray.size=xs.toArray:=by{rw[bZ zl]};rw[q1,q2] at p3;simpa using p3
 refine⟨rfl,A.toList,Qlv,?_,?_,?_⟩;{rw[List.pairwise_iff_getElem];intro i j hi C gk;have:=hs i j zz gk (by simp at C ⊢;lia);rw[ue] at this;simp at hi C;simp[hi,C] at this;simpa using this}
 .have hF:(Sort.flatK qy 4 A).size<=M.size:=by{simp[hd,h3];exact cL _ h1};have⟨s1,s2,s3,s4⟩:=B9 (n:=n) (Sort.flatK qy 4 A) os G hF;have fg:(Sort.flatK qy 4 A).toList=A.toList.flatMap qy:=by{have:=F1 A.toList;simpa using this};refine⟨?_,aU ⟨g,E,_,by simp[hd],hb,s1,by simp[hd];exact h1,h2,s3.t h3,?_⟩⟩;{rw[<-fg];simp};have:aD A.toList*4=(Sort.flatK qy 4 A).size:=by{simp};rw[this,s4,fg]
 have hF:(Sort.flatK qy 4 A).size<=M.size:=by{simp[hd,h3];exact cL _ h1};have⟨s1,s2,s3,s4⟩:=B9 (n:=n) (Sort.flatK qy 4 A) os G hF;exact⟨rfl,rfl,rfl,size_sortWorldK_c _ _ _ _ _ _ _ _,λk hk hx=>s2 k hk (λe=>hx (by rw[e];rfl))⟩
def OV(v:Vq)(xs:List (Gd×Int))(b E:Nat)(w:Wq)(M:w.heap[E]?=cC #[v] 169)(qt:aH w b 172 4 v (aD xs) (xs.flatMap qy))(hl:aD xs<=1000000):Cs 184 #[.func (.func 186) #[] #[Pt E]] w λe w'=>∃v',e=aQ v'/\aH w' w.heap.size 172 4 v' (aD xs) (xs.flatMap qy)/\dB w.heap.size w w':=by
 have ft:=Ey (aJ aY 0 0) [] w.heap.size w ⟨rfl,aS ⟨rfl,rfl⟩⟩ zl (by simp;omega) (enters_of Tryz.func186 (by kernel_rfl) rfl)
  (λm n=>LI w.heap.size w.heap.size E b v xs w M (zg M).1 qt (λg hg=>by
   have⟨_,c,hc⟩:=qe qt hg;have:=(zg hc).1
   exact⟨this,this⟩) hl m n)
 have ib:Hid (Cs 134 #[aJ aY 0 0,.func (.func 186) #[] #[Pt E]] w λe w'=>∃A C,e=aQ (aJ A (aD xs) C)/\aH w' w.heap.size 172 4 (aJ A (aD xs) C) (aD xs) (xs.flatMap qy)/\dB w.heap.size w w'):=by refine ft.m ?_;rintro e W1 ⟨v',ys,rfl,g5,z,O,_⟩;have G:=g5;rw[G,bG] at z;have⟨A,C,bj⟩:=qq z;subst bj;exact⟨A,C,rfl,z,O⟩
 clear ft qt M;go_enter Tryz.func184,Tryz.ntmps184;go_wp2_with (go_at_call 134;refine (ib.o).m ?_;rintro e W1 ⟨A,C,rfl,z,O⟩);go_ret;exact⟨_,rfl,z,O⟩
def Mr(v:Vq)(xs:List (Gd×Int))(b M:Nat)(w:Wq)(Qy:w.heap[M]?=cC #[v] 169)(qt:aH w b 172 4 v (aD xs) (xs.flatMap qy))(hl:aD xs<=1000000):Cs 130 #[.func (.func 186) #[] #[Pt M],.func (.func 132) #[] #[]] w λe w'=>∃(v':Vq) (C:List (Gd×Int)),e=aQ v'/\C.Perm xs/\C.Pairwise (λa b=>a.2<=b.2)/\aH w' w.heap.size 172 4 v' (aD C) (C.flatMap qy)/\dB w.heap.size w w':=by
 have HC:Hid (Cs 184 #[.func (.func 186) #[] #[Pt M]] w λe w'=>∃z A,e=aQ (aJ z (aD xs) A)/\aH w' w.heap.size 172 4 (aJ z (aD xs) A) (aD xs) (xs.flatMap qy)/\dB w.heap.size w w'):=by refine (OV v xs b M w Qy qt hl).m ?_;rintro e W1 ⟨v',rfl,E,O⟩;have⟨z,A,bj⟩:=qq E;subst bj;exact⟨z,A,rfl,E,O⟩
 have f6:Hid (∀z A W,aH W w.heap.size 172 4 (aJ z (aD xs) A) (aD xs) (xs.flatMap qy)->Cs 185 #[aJ z (aD xs) A,.func (.func 132) #[] #[]] W λe w'=>e=aQ (aN #[])/\∃C:List (Gd×Int),C.Perm xs/\C.Pairwise (λa b=>a.2<=b.2)/\aH w' w.heap.size 172 4 (aJ z (aD xs) A) (aD C) (C.flatMap qy)/\fC W w' (λk=>aX k=aI (aJ z (aD xs) A))):=λz A W E=>Is _ xs _ W E hl;clear qt Qy;go_enter Tryz.func130,Tryz.ntmps130
 go_wp2_with (first|(go_at_call 184;refine (HC.o).m ?_;rintro e W1 ⟨z,A,rfl,E,O⟩)|(go_at_call 185;refine (f6.o z A W1 E).m ?_;rintro e W2 ⟨rfl,C,hp,hs,gz,G⟩))
 go_ret;refine⟨_,C,rfl,hp,hs,gz,O.t ⟨G.os,G.tape,G.output,G.size,λk hk=>G.h k (by have:=O.s;omega) (λe=>?_)⟩⟩;have:=(qe E e.s).1;omega
attribute [local go_sem] eA
def rz(g:Gd):List ByteArray:=if g.y.toList.isEmpty=true then [g.x] else [g.x,g.y]
def sZ(g:Gd):ByteArray:=⟨(Lib.join ((rz g).map (·.data.toList)) (⟨#[44]⟩:ByteArray).data.toList).toArray⟩
def fU(g:Gd):ByteArray:=g.j ++ ⟨#[40]⟩++sZ g ++ ⟨#[41]⟩
def K5(g:Gd)(C:g.x.size<=2000)(E:g.y.size<=2000):aD (Lib.join ((rz g).map (·.data.toList)) (⟨#[44]⟩:ByteArray).data.toList)<=4001:=by
 have z:aD g.x.data.toList=g.x.size:=by simp
 have A:aD g.y.data.toList=g.y.size:=by simp
 unfold rz;split
 .simp[Lib.join];lia
 simp[Lib.join];lia
theorem JI(g:Gd)(w:Wq)(h1:g.j.size<=2000)(h2:g.x.size<=2000)(h3:g.y.size<=2000):Cs 91 #[g.v] w λe w'=>e=aQ (aK (fU g))/\dB w.heap.size w w':=by
 have e6:=K5 g h2 h3;have i7:(sZ g).size<=4001:=by show (sZ g).data.size<=_;unfold sZ;simpa using e6
 obtain⟨N,G⟩:=aC w.heap.size;have M:∀W1,dB (N+1) (w.alloc (aP #[aK g.j,aK g.x,aK g.y] 111)) W1->W1.heap[N]?=cC #[aK g.j,aK g.x,aK g.y] 111:=by intro W1 A;have:=zn w (aP #[aK g.j,aK g.x,aK g.y] 111);rw[G] at this;exact (A.b N (by omega)).t this
 have E:Hid (∀W1,dB (N+1) (w.alloc (aP #[aK g.j,aK g.x,aK g.y] 111)) W1->∀ln,aD (rz g)=ln->Cs 153 #[aJ (aX ⟨N,1,aY⟩) ln 2,aK ⟨#[44]⟩] W1 λe w'=>e=aQ (aK (sZ g))/\dB W1.heap.size W1 w'/\aE w' (Ad N 0)=aX (aK g.j)/\dB (N+1) (w.alloc (aP #[aK g.j,aK g.x,aK g.y] 111)) w'):=by
  rintro W1 A ln rfl;have hh:=M W1 A;have hs:=A.s;rw[bD,G] at hs;have bd:aD (rz g)<=2:=by{unfold rz;split<;>simp};refine (Tryz.strings_Join N 1 2 (rz g) ⟨#[44]⟩ W1 ?_ (by omega) (by omega) bd (by omega)).m ?_
  .intro j x z;simp only[aE,hh];unfold rz at z;split at z
   .match j,z with
    |0,z=>simp at z;subst z;simp
   match j,z with
   |0,z=>simp at z;subst z;simp
   |1,z=>simp at z;subst z;simp
  rintro e w' ⟨rfl,af⟩;refine⟨rfl,af,?_,A.t (af.m (by omega))⟩;have:=M w' (A.t (af.m (by omega)));simp[aE,this]
 have ey:Hid (fU g=g.j ++ ⟨#[40]⟩++sZ g ++ ⟨#[41]⟩):=rfl;have a7:Hid (dB (N+1) (w.alloc (aP #[aK g.j,aK g.x,aK g.y] 111)) (w.alloc (aP #[aK g.j,aK g.x,aK g.y] 111)).drew):=zr.drew;have HW:Hid (∀W1,dB (N+1) (w.alloc (aP #[aK g.j,aK g.x,aK g.y] 111)) W1->dB w.heap.size w W1):=λW1 A=>((bB _ w).l zl _).t (A.m (by omega));unfold Gd.v Gd.c;generalize fU g=tx at *;generalize sZ g=jg at *;clear M e6;cases hy:g.y.toList.isEmpty with
 |true=>
  have C:=aA λW1 A=>E.o W1 A 1 (by unfold rz;rw[if_pos hy];rfl);clear E;go_enter Tryz.func91,Tryz.ntmps91;go_wp2;(try simp only[G]);go_region_with (go_at_call 153;refine (C.o _ a7.o).m ?_;rintro e W1 ⟨rfl,ab,ip,O⟩);all_goals go_wp2
  all_goals go_ret
  all_goals rw[ey.o]
  all_goals exact⟨rfl,HW.o W1 O⟩
 |false=>
  have C:=aA λW1 A=>E.o W1 A 2 (by unfold rz;rw[if_neg (by rw[hy];simp)];rfl);clear E;go_enter Tryz.func91,Tryz.ntmps91;go_wp2;(try simp only[G]);go_region_with (go_at_call 153;refine (C.o _ a7.o).m ?_;rintro e W1 ⟨rfl,ab,ip,O⟩);all_goals go_wp2
  all_goals go_ret
  all_goals rw[ey.o]
  all_goals exact⟨rfl,HW.o W1 O⟩
end Go.Proofs.YtjajnhemgphefaaGreatDoor
namespace Go.Proofs.YtjajnhemgphefaaGreatDoor
open Go renaming World->Wq,Value->Vq
open Go.RowKit Go.Shelf
variable {N k:Nat} {W:Wq} {x y:ByteArray} {l:List (Tm×ByteArray)} {p:Tm×ByteArray}
def fD.u(n:fD)(k:Nat)(x:ByteArray):fD:=
 match k with
 |0=>{n with g:=x}
 |1=>{n with h:=x}
 |2=>{n with i:=x}
 |3=>{n with j:=x}
 |4=>{n with o:=x}
 |5=>{n with q:=x}
 |_=>n
def fD.t(n:fD)(k:Nat)(x:ByteArray)(h:k<6):n.c.setIfInBounds k (aK x)=(n.u k x).c:=by
 have z:k=0\/k=1\/k=2\/k=3\/k=4\/k=5:=by lia
 obtain rfl|rfl|rfl|rfl|rfl|rfl:=z<;>rfl
theorem fD.s(n:fD)(k j:Nat)(x:ByteArray)(h:k<6):(n.u k x).f j=if j=k then x else n.f j:=by
 have A:k=0\/k=1\/k=2\/k=3\/k=4\/k=5:=by lia
 have z:j=0\/j=1\/j=2\/j=3\/j=4\/j=5\/6<=j:=by lia
 obtain rfl|rfl|rfl|rfl|rfl|rfl:=A<;>obtain rfl|rfl|rfl|rfl|rfl|rfl|z:=z;all_goals first
  |rfl
  |(rw[if_neg (by lia)];match j,z with|j+6,_=>rfl)
def oN(n:fD)(t:Tm)(x:ByteArray):fD:=if t.c.toList.isEmpty=true/\(n.f t.d).toList.isEmpty=true then n.u t.d x else n
def kZ(n:fD)(t:Tm)(x:ByteArray):Option fD:=if (fH (oN n t x) t).toList=x.toList then aX (oN n t x) else aY
def jC:fD->List (Tm×ByteArray)->Option fD
 |n,[]=>aX n
 |n,p::l=>match kZ n p.1 p.2 with|some m=>jC m l|none=>aY
def gK(n:fD)(a:Am)(x y:ByteArray):Option fD:=jC n (a.d.zip [x,y])
theorem Fa(p:Tm×ByteArray):∀(l:List (Tm×ByteArray)) (n:fD),jC n (l++[p])=match jC n l with|some m=>kZ m p.1 p.2|none=>aY
 |[],n=>by
  simp only[bG,jC]
  cases kZ n p.1 p.2<;>rfl
 |q::l,n=>by
  simp only[bH,jC]
  cases kZ n q.1 q.2 with
  |none=>rfl
  |some m=>exact Fa p l m
theorem E7(p:Tm×ByteArray):∀(l r:List (Tm×ByteArray)) (n m:fD),jC n l=aX m->kZ m p.1 p.2=aY->jC n (l++p::r)=aY
 |[],r,n,m,h,h2=>by simp only[jC,Option.some.injEq] at h;subst h;simp only[bG,jC,h2]
 |q::l,r,n,m,h,h2=>by
  simp only[bH,jC] at h ⊢
  cases hq:kZ n q.1 q.2 with
  |none=>rfl
  |some m'=>rw[hq] at h;exact E7 p l r m' m h h2
def Ql:fD:=⟨⟨#[]⟩,⟨#[]⟩,⟨#[]⟩,⟨#[]⟩,⟨#[]⟩,⟨#[]⟩⟩
def uV:Option fD->Vq
 |some m=>aN #[m.v,aM true]
 |none=>aN #[Ql.v,aM false]
structure iC(N:Nat)(w W:Wq)(m:fD)(x y:ByteArray):Prop where
 size:N+4<=W.heap.size
 o:W.heap[N]?=aX (aP m.c 176)
 t:W.heap[N+1+1]?=cC #[aK x,aK y] 109
 h:W.heap[N+1+1+1]?=aX (aP Ql.c 176)
 v:dB N w W
def iC.f{w W':Wq}{m:fD}(h:iC N w W m x y)(z:dB W.heap.size W W'):iC N w W' m x y:=by have C:=z.s;have A:=h.size;exact⟨by lia,(z.b _ (by lia)).t h.o,(z.b _ (by lia)).t h.t,(z.b _ (by lia)).t h.h,h.v.t (z.m (by lia))⟩
def iC.drew{w:Wq}{m:fD}(h:iC N w W m x y):iC N w W.drew m x y:=⟨h.size,h.o,h.t,h.h,h.v.drew⟩
def iC.H{w:Wq}{m:fD}(h:iC N w W m x y)(k:Nat)(A:k<6)(z:ByteArray):iC N w (W.setCell (Ad N k) (aK z)) (m.u k z) x y:=by refine⟨by have:=h.size;simpa using this,?_,(bE _ _ _ _ (by show N+1+1≠N;lia)).t h.t,(bE _ _ _ _ (by show N+1+1+1≠N;lia)).t h.h,h.v.c (p:=⟨N,k,aY⟩) (by simp) _⟩;rw[<-m.t k z A];exact qw h.o k _
def Qw(W:Wq)(N k:Nat)(v:Vq)(b j:Nat)(h:b≠N):aE (W.setCell (Ad N k) v) (Ad b j)=aE W (Ad b j):=
 World.cell?_of_block (w:=W) (bE _ _ _ _ h)
def iC.i{w:Wq}{m:fD}(h:iC N w W m x y):aE W (Ad N 0)=aX (aK m.g)/\aE W (Ad N 1)=aX (aK m.h)/\aE W (Ad N 2)=aX (aK m.i)/\aE W (Ad N 3)=aX (aK m.j)/\aE W (Ad N 4)=aX (aK m.o)/\aE W (Ad N 5)=aX (aK m.q):=by have:=h.o;unfold fD.c at this;simp[aE,this]
def iC.j{w:Wq}{m:fD}(h:iC N w W m x y):aE W (Ad (N+1+1+1) 0)=aX (aK ⟨#[]⟩)/\aE W (Ad (N+1+1+1) 1)=aX (aK ⟨#[]⟩)/\aE W (Ad (N+1+1+1) 2)=aX (aK ⟨#[]⟩)/\aE W (Ad (N+1+1+1) 3)=aX (aK ⟨#[]⟩)/\aE W (Ad (N+1+1+1) 4)=aX (aK ⟨#[]⟩)/\aE W (Ad (N+1+1+1) 5)=aX (aK ⟨#[]⟩)/\∀k,aF W (Ad (N+1+1+1) k)=false:=by have:=h.h;unfold fD.c Ql at this;simp[aE,aF,this]
def iC.d{w:Wq}{m:fD}(h:iC N w W m x y){z A C E G M:Vq}:dB N w ((((((W.setCell (Ad (N+1+1+1) 0) z).setCell (Ad (N+1+1+1) 1) A).setCell (Ad (N+1+1+1) 2) C).setCell (Ad (N+1+1+1) 3) E).setCell (Ad (N+1+1+1) 4) G).setCell (Ad (N+1+1+1) 5) M):=
 (((((h.v.c (p:=⟨N+1+1+1,0,aY⟩) (by simp;lia) _).c (p:=⟨N+1+1+1,1,aY⟩) (by simp;lia) _).c (p:=⟨N+1+1+1,2,aY⟩) (by simp;lia) _).c (p:=⟨N+1+1+1,3,aY⟩) (by simp;lia) _).c (p:=⟨N+1+1+1,4,aY⟩) (by simp;lia) _).c (p:=⟨N+1+1+1,5,aY⟩) (by simp;lia) _
def iC.s{w:Wq}{m:fD}(h:iC N w W m x y)(k:Nat)(z:k<6):aE W (Ad N k)=aX (aK (m.f k))/\aF W (Ad N k)=false:=by refine⟨?_,by simp[aF,h.o]⟩;simp only[aE,h.o];simpa using m.d k z
def iC.g{w:Wq}{m:fD}(h:iC N w W m x y)(k:Nat)(A:k<2):aE W (Ad (N+1+1) k)=aX (aK (if k=0 then x else y)):=by
 have z:k=0\/k=1:=by lia
 obtain rfl|rfl:=z<;>simp[aE,h.t]
def Ap{n m z:fD}(C:l[k]?=aX p)(A:jC n (l.take k)=aX m)(hs:kZ m p.1 p.2=aX z):jC n (l.take (k+1))=aX z:=by rw[List.take_add_one,C];simp only[Option.toList];rwa[Fa,A]
def zS{n m:fD}(A:l[k]?=aX p)(G:jC n (l.take k)=aX m)(hs:kZ m p.1 p.2=aY):jC n l=none:=by
 have E:=(cF.1 A).1;have e:l=l.take k++p::l.drop (k+1):=by have z:=List.take_append_drop k l;rw[List.drop_eq_getElem_cons E] at z;have C:l[k]=p:=(cF.1 A).2;rw[C] at z;exact z.s
 rw[e];exact E7 p _ _ n m G hs
def DV(n:fD)(a:Am)(va:Vq)(b:Nat)(x y:ByteArray)(w:Wq)(hS:Qg w b va a.d)(hl:aD a.d<=2)(hn:∀t∈a.d,t.d<6):Cs 157 #[n.v,aL #[.string a.j,va],aL #[.string x,.string y]] w λe w'=>e=aQ (uV (gK n a x y))/\dB w.heap.size w w':=by
 have⟨ta,tc,dm⟩:=hS.c;have Qi:∀k(hk:k<aD a.d),∃g,ta=aX ⟨g,0,aY⟩/\aE w (Ad g (k*2))=aX (.string (a.d[k]).c)/\aE w (Ad g (k*2+1))=aX (.int aR (a.d[k]).d)/\g<w.heap.size:=by intro k hk;have⟨g,c',h1,h2,h3,h4⟩:=uJ hS hk;rw[dm] at h1;cases h1;exact⟨g,rfl,h2,h3,h4⟩
 subst dm;have bj:=aA λm t ht W=>EY m t ht W;have HC:=aA Qi;have HNm:=aA hn;clear Qi hS hn;have HM:Hid (gK n a x y=jC n (a.d.zip [x,y])):=rfl;generalize gK n a x y=MA at *;unfold fD.v;unfold fD.c;go_enter Tryz.func157,Tryz.ntmps157;go_wp2;obtain⟨N,hN⟩:=aC w.heap.size;simp only[hN];obtain⟨W0,an⟩:=aC (((((w.alloc (aP #[.string n.g,.string n.h,.string n.i,.string n.j,.string n.o,.string n.q] 176)).alloc (aP #[.string a.j,aJ ta (aD a.d) tc] 92)).alloc (aP #[.string x,.string y] 109)).alloc (aP #[.string ⟨#[]⟩,.string ⟨#[]⟩,.string ⟨#[]⟩,.string ⟨#[]⟩,.string ⟨#[]⟩,.string ⟨#[]⟩] 176)));have gw:iC N w W0 n x y:=by rw[<-an,<-hN];refine⟨by simp,?_,?_,?_,((((bB _ w).l zl _).l (by simp) _).l (by simp;omega) _).l (by simp;omega) _⟩;{exact (bC _ _ _ (by simp;omega)).t ((bC _ _ _ (by simp;omega)).t ((bC _ _ _ (by simp)).t (zn w _)))};{refine (bC _ _ _ (by simp)).t ?_;have:=zn ((w.alloc (aP #[.string n.g,.string n.h,.string n.i,.string n.j,.string n.o,.string n.q] 176)).alloc (aP #[.string a.j,aJ ta (aD a.d) tc] 92)) (aP #[.string x,.string y] 109);rwa[bD,bD] at this};{have:=zn (((w.alloc (aP #[.string n.g,.string n.h,.string n.i,.string n.j,.string n.o,.string n.q] 176)).alloc (aP #[.string a.j,aJ ta (aD a.d) tc] 92)).alloc (aP #[.string x,.string y] 109)) (aP #[.string ⟨#[]⟩,.string ⟨#[]⟩,.string ⟨#[]⟩,.string ⟨#[]⟩,.string ⟨#[]⟩,.string ⟨#[]⟩] 176);rwa[bD,bD,bD] at this}
 rw[an];clear an;go_loopw [13] (λi wr=>∃(k:Nat)(m:fD),k<=aD a.d/\i=.int aR k/\Hid (jC n ((a.d.zip [x,y]).take k)=aX m)/\iC N w wr m x y) (λi _=>aD a.d-(intOf i).toNat)
 case atStart=>exact⟨0,n,zz,rfl,by show _=_;simp[jC],gw⟩
 obtain⟨k,m,hk,rfl,hm,be⟩:=hrel;by_cases ae:k<aD a.d
 .obtain⟨g,rfl,q0,q1,hg⟩:=HC.o k ae;have g2:=(be.v.cell (p:=⟨g,k*2,aY⟩) (hN▸hg)).t q0;have gh:=(be.v.cell (p:=⟨g,k*2+1,aY⟩) (hN▸hg)).t q1;have am:=HNm.o _ (zm ae);have i1:(k:Int)<(aD a.d:Int):=by{omega};have i2:(k:Int)<2:=by{omega};have gi:k<2:=by{omega};have hp:Hid ((a.d.zip [x,y])[k]?=aX (a.d[k],if k=0 then x else y)):=by{show _=_;rw[List.getElem?_zip_eq_some];refine⟨cG ae,?_⟩;have hc:k=0\/k=1:=by{omega};obtain rfl|rfl:=hc<;>rfl};have bq:Hid (∀W,Cs 139 #[aL #[.string (a.d[k]).c,.int aR (a.d[k]).d]] W λe w'=>e=aQ (aM (a.d[k]).c.toList.isEmpty)/\dB W.heap.size W w'):=λW=>uY _ W;have Qh1:=aA λm W=>bj.o m _ am W;have bf:Hid (kZ m a.d[k] (if k=0 then x else y)=if (fH (oN m a.d[k] (if k=0 then x else y)) a.d[k]).toList=(if k=0 then x else y).toList then aX (oN m a.d[k] (if k=0 then x else y)) else aY):=rfl;have bh:Hid (oN m a.d[k] (if k=0 then x else y)=if (a.d[k]).c.toList.isEmpty=true/\(m.f (a.d[k]).d).toList.isEmpty=true then m.u (a.d[k]).d (if k=0 then x else y) else m):=rfl;have cr:Hid (∀O W1,dB (wr.alloc O).heap.size (wr.alloc O) W1->iC N w W1 m x y/\(∀j,aE W1 (Ad wr.heap.size j)=aE (wr.alloc O) (Ad wr.heap.size j))/\wr.heap.size<W1.heap.size):=λO W1 hb=>⟨be.f (((bB _ wr).l zl O).t (hb.m (by simp))),λj=>hb.cell (p:=⟨wr.heap.size,j,aY⟩) (by simp),by have:=hb.s;simp at this;omega⟩;have iv:=be.size;have G:Hid (∀W m,iC N w W m x y->aE W (Ad (N+1+1) k)=aX (.string (if k=0 then x else y))):=λW m h=>h.g k gi;clear q0 q1 be;generalize (if k=0 then x else y)=z at *;generalize a.d[k]=t at *;cases htv:t.c.toList.isEmpty with
  |false=>
   rw[htv] at bq;have cd:Hid (oN m t z=m):=by{show _=_;rw[bh.o,htv];simp};have ce:=Qh1.o (m);by_cases bi:(fH (m) t).toList=z.toList
   .have bn:Hid (kZ m t z=aX (m)):=by{show _=_;rw[bf.o,cd.o,if_pos bi]};have M:=aA (Ap hp.o hm.o bn.o);generalize fH (m) t=ot at *;clear htv;go_wp2_with (go_at_call 139;refine (bq.o _).m ?_;rintro e W1 ⟨rfl,ab⟩;have⟨r1,r2,r3⟩:=cr.o _ _ ab;have⟨c0,c1,c2,c3,c4,c5⟩:=r1.i;have C:=r2 0;have E:=r2 1;have tk:=G.o W1 m r1;have⟨nk,nf⟩:=r1.s _ am;simp at C E);go_region_with (go_at_call 151;refine (ce _).m ?_;rintro e W2 ⟨rfl,au⟩;have A:=r1.drew.f au;have di:=G.o W2 _ A);all_goals
     go_wp2;exact⟨⟨k+1,_,by omega,by go_num,M,A⟩,by simp[intOf];omega⟩
   have bn:Hid (kZ m t z=aY):=by{show _=_;rw[bf.o,cd.o,if_neg bi]};have M:Hid (MA=aY):=by{show _=_;rw[HM.o];exact zS hp.o hm.o bn.o};generalize fH (m) t=ot at *;have a8:(ot.toList == z.toList)=false:=by{simp[bi]};clear htv;go_wp2_with (go_at_call 139;refine (bq.o _).m ?_;rintro e W1 ⟨rfl,ab⟩;have⟨r1,r2,r3⟩:=cr.o _ _ ab;have⟨c0,c1,c2,c3,c4,c5⟩:=r1.i;have C:=r2 0;have E:=r2 1;have tk:=G.o W1 m r1;have⟨nk,nf⟩:=r1.s _ am;simp at C E);go_region_with (go_at_call 151;refine (ce _).m ?_;rintro e W2 ⟨rfl,au⟩;have A:=r1.drew.f au;have di:=G.o W2 _ A;have⟨e0,e1,e2,e3,e4,e5,ef⟩:=A.j);all_goals
    go_wp2;refine dO (v:=aN #[Ql.v,aM false]) (by simp[results,dT,go_sem,e0,e1,e2,e3,e4,e5,Ql,fD.v,fD.c]) rfl ?_;rw[M.o,hN];exact⟨rfl,A.d⟩
  |true=>
   rw[htv] at bq;cases hge:(m.f t.d).toList.isEmpty with
   |false=>
    have cd:Hid (oN m t z=m):=by{show _=_;rw[bh.o,hge];simp};have ce:=Qh1.o (m);by_cases bi:(fH (m) t).toList=z.toList
    .have bn:Hid (kZ m t z=aX (m)):=by{show _=_;rw[bf.o,cd.o,if_pos bi]};have M:=aA (Ap hp.o hm.o bn.o);generalize fH (m) t=ot at *;clear htv;go_wp2_with (go_at_call 139;refine (bq.o _).m ?_;rintro e W1 ⟨rfl,ab⟩;have⟨r1,r2,r3⟩:=cr.o _ _ ab;have⟨c0,c1,c2,c3,c4,c5⟩:=r1.i;have C:=r2 0;have E:=r2 1;have tk:=G.o W1 m r1;have⟨nk,nf⟩:=r1.s _ am;simp at C E);go_region_with (go_at_call 151;refine (ce _).m ?_;rintro e W2 ⟨rfl,au⟩;have A:=r1.drew.f au;have di:=G.o W2 _ A);all_goals
      go_wp2;exact⟨⟨k+1,_,by omega,by go_num,M,A⟩,by simp[intOf];omega⟩
    have bn:Hid (kZ m t z=aY):=by{show _=_;rw[bf.o,cd.o,if_neg bi]};have M:Hid (MA=aY):=by{show _=_;rw[HM.o];exact zS hp.o hm.o bn.o};generalize fH (m) t=ot at *;have a8:(ot.toList == z.toList)=false:=by{simp[bi]};clear htv;go_wp2_with (go_at_call 139;refine (bq.o _).m ?_;rintro e W1 ⟨rfl,ab⟩;have⟨r1,r2,r3⟩:=cr.o _ _ ab;have⟨c0,c1,c2,c3,c4,c5⟩:=r1.i;have C:=r2 0;have E:=r2 1;have tk:=G.o W1 m r1;have⟨nk,nf⟩:=r1.s _ am;simp at C E);go_region_with (go_at_call 151;refine (ce _).m ?_;rintro e W2 ⟨rfl,au⟩;have A:=r1.drew.f au;have di:=G.o W2 _ A;have⟨e0,e1,e2,e3,e4,e5,ef⟩:=A.j);all_goals
     go_wp2;refine dO (v:=aN #[Ql.v,aM false]) (by simp[results,dT,go_sem,e0,e1,e2,e3,e4,e5,Ql,fD.v,fD.c]) rfl ?_;rw[M.o,hN];exact⟨rfl,A.d⟩
   |true=>
    have cd:Hid (oN m t z=m.u t.d z):=by{show _=_;rw[bh.o,htv,hge];simp};have ce:=Qh1.o (m.u t.d z);by_cases bi:(fH (m.u t.d z) t).toList=z.toList
    .have bn:Hid (kZ m t z=aX (m.u t.d z)):=by{show _=_;rw[bf.o,cd.o,if_pos bi]};have M:=aA (Ap hp.o hm.o bn.o);generalize fH (m.u t.d z) t=ot at *;clear htv;go_wp2_with (go_at_call 139;refine (bq.o _).m ?_;rintro e W1 ⟨rfl,ab⟩;have⟨r0,r2,r3⟩:=cr.o _ _ ab;have⟨c0,c1,c2,c3,c4,c5⟩:=r0.i;have C:=r2 0;have E:=r2 1;have tk:=G.o W1 m r0;have⟨nk,nf⟩:=r0.s _ am;simp at C E);have r1:=(r0.H _ am z).drew;have ej:aE (W1.setCell (Ad N t.d) (.string z)).drew (Ad wr.heap.size 0)=aX (.string t.c):=(Qw W1 N t.d (.string z) wr.heap.size 0 (by omega)).t C;have d8:aE (W1.setCell (Ad N t.d) (.string z)).drew (Ad wr.heap.size 1)=aX (.int aR t.d):=(Qw W1 N t.d (.string z) wr.heap.size 1 (by omega)).t E;go_region;all_goals
      obtain⟨W3,cn⟩:=aC ((W1.setCell (Ad N t.d) (.string z)).drew);rw[cn] at r1 ej d8
      (try simp only[cn])
      have⟨b0,b1,b2,b3,b4,b5⟩:=r1.i;have h7:=G.o W3 _ r1;clear c0 c1 c2 c3 c4 c5 C E tk nk nf cn
      (try go_wp2)
      go_region_with (go_at_call 151;refine (ce _).m ?_;rintro e W2 ⟨rfl,au⟩;have A:=r1.drew.f au;have di:=G.o W2 _ A)
      all_goals
       go_wp2;exact⟨⟨k+1,_,by omega,by go_num,M,A⟩,by simp[intOf];omega⟩
    have bn:Hid (kZ m t z=aY):=by{show _=_;rw[bf.o,cd.o,if_neg bi]};have M:Hid (MA=aY):=by{show _=_;rw[HM.o];exact zS hp.o hm.o bn.o};generalize fH (m.u t.d z) t=ot at *;have a8:(ot.toList == z.toList)=false:=by{simp[bi]};clear htv;go_wp2_with (go_at_call 139;refine (bq.o _).m ?_;rintro e W1 ⟨rfl,ab⟩;have⟨r0,r2,r3⟩:=cr.o _ _ ab;have⟨c0,c1,c2,c3,c4,c5⟩:=r0.i;have C:=r2 0;have E:=r2 1;have tk:=G.o W1 m r0;have⟨nk,nf⟩:=r0.s _ am;simp at C E);have r1:=(r0.H _ am z).drew;have ej:aE (W1.setCell (Ad N t.d) (.string z)).drew (Ad wr.heap.size 0)=aX (.string t.c):=(Qw W1 N t.d (.string z) wr.heap.size 0 (by omega)).t C;have d8:aE (W1.setCell (Ad N t.d) (.string z)).drew (Ad wr.heap.size 1)=aX (.int aR t.d):=(Qw W1 N t.d (.string z) wr.heap.size 1 (by omega)).t E;go_region;all_goals
     obtain⟨W3,cn⟩:=aC ((W1.setCell (Ad N t.d) (.string z)).drew);rw[cn] at r1 ej d8
     (try simp only[cn])
     have⟨b0,b1,b2,b3,b4,b5⟩:=r1.i;have h7:=G.o W3 _ r1;clear c0 c1 c2 c3 c4 c5 C E tk nk nf cn
     (try go_wp2)
     go_region_with (go_at_call 151;refine (ce _).m ?_;rintro e W2 ⟨rfl,au⟩;have A:=r1.drew.f au;have di:=G.o W2 _ A;have⟨e0,e1,e2,e3,e4,e5,ef⟩:=A.j)
     all_goals
      go_wp2;refine dO (v:=aN #[Ql.v,aM false]) (by simp[results,dT,go_sem,e0,e1,e2,e3,e4,e5,Ql,fD.v,fD.c]) rfl ?_;rw[M.o,hN];exact⟨rfl,A.d⟩
 have fb:k=aD a.d:=by{omega};have gp:Hid (MA=aX m):=by{show _=_;rw[HM.o,<-hm.o,List.take_of_length_le (by simp;omega)]};have⟨c0,c1,c2,c3,c4,c5⟩:=be.i;have⟨e0,e1,e2,e3,e4,e5,ef⟩:=be.j;go_wp2;refine dO (v:=aN #[m.v,aM true]) (by simp[results,dT,go_sem,e0,e1,e2,e3,e4,e5,fD.v,fD.c]) rfl ?_;rw[gp.o,hN];exact⟨rfl,be.d⟩
end Go.Proofs.YtjajnhemgphefaaGreatDoor
namespace Go.Proofs.YtjajnhemgphefaaGreatDoor
open Go renaming World->Wq,Value->Vq
open Go.RowKit Go.Shelf Go.Maps
variable {W W' A:Wq} {B b n' m bb Bm Ba Bp ah:Nat} {D:dP Vq} {x y r x' y':ByteArray} {e:Int} {left:Lit->Bool} {a:Am} {va:Vq} {ks:List (ByteArray×ByteArray)}
def xM:Keyed cZ 9:=string_keyed dS
def Mf:laidOutB cZ=true:=by kernel_rfl
def ri:Keyed cZ 109:=Keyed.of_law (deep_law_laid Mf (m:=5) (by lia) (of_decide_eq_true (by kernel_rfl)) (by kernel_rfl) (by kernel_rfl))
def kS(s:ByteArray):Lit:=.string s.data.toList
def kT(x y:ByteArray):Lit:=.string (keyBytes [.string x.data.toList,.string y.data.toList])
def qB(x y:ByteArray):Vq:=aL #[aK x,aK y]
def xI(s:ByteArray)(h:s.size<=dA):keyOf cZ 9 (aK s)=aX (kS s):=WideMaps.keyOf_string_mk dS h
def C6:Tryz.prog.keyType 109=true:=by kernel_rfl
def CQ:∃d,Tryz.prog.types.size=d+1:=by simp_all
def yk:Tryz.prog.cellsOf 109=2:=by kernel_rfl
def CU:Tryz.prog.cellsOf 9=1:=by kernel_rfl
def tN(x y:ByteArray)(A:x.size<=dA)(C:y.size<=dA):keyOf cZ 109 (qB x y)=aX (kT x y):=by
 have⟨d,hd⟩:=CQ;have z:(qB x y).formed cZ 109=true:=by simp[qB,cU,dG,yk]
 unfold keyOf;rw[dG];simp only[C6,z,Bool.and_self,if_true,hd];simp[eC,dG,dS,yk,CU,qB,cX,A,C,kT,cQ]
def RV(v:Vq):Option (dP Vq×List MemPlace):=aX (.held v,[])
def vJ(W:Wq)(b n:Nat)(rel:ByteArray)(M:Gd->Option Int):Prop:=
 ∃Di:dP Vq,W.ownsMap cZ 109 (dE cZ 3) b n Di/\
  ∀x y:ByteArray,x.size<=dA->y.size<=dA->dI Di (kT x y)=(M ⟨rel,x,y⟩).isSome/\Di.atKey (kT x y) (.lit (.int aR 0))=.lit (.int aR ((M ⟨rel,x,y⟩).getD 0))
def gH(W:Wq)(B n:Nat)(M:Gd->Option Int):Prop:=
 ∃(D:dP Vq) (blk:ByteArray->Option Nat),W.ownsMap cZ 9 RV B n D/\
  (∀rel:ByteArray,rel.size<=dA->
   (blk rel=aY->dI D (kS rel)=false/\∀x y,M ⟨rel,x,y⟩=aY)/\
   (∀b,blk rel=aX b->dI D (kS rel)=true/\D.atKey (kS rel) (.held (.map aY))=.held (.map (aX b))/\b≠B/\vJ W b n rel M))/\
  (∀r1 r2 b,blk r1=aX b->blk r2=aX b->r1=r2)/\(∀r b,blk r=aX b->r.size<=dA)
def gH.o{n:Nat}{M:Gd->Option Int}(h:gH W B n M)(hk:∀(k:Nat) (z:Array MapEntry) (c:Nat),W.heap[k]?=aX (bT z c)->W'.heap[k]?=aX (bT z c)):gH W' B n M:=by
 have G:∀{k:dZ}{R:Vq->Option (dP Vq×List MemPlace)}{b n:Nat}{D:dP Vq},W.ownsMap cZ k R b n D->W'.ownsMap cZ k R b n D:=by rintro k R b n D ⟨z,c,C,A,E,h4⟩;exact⟨z,c,hk _ _ _ C,A,E,h4⟩
 have⟨D,blk,C,A,E⟩:=h;refine⟨D,blk,G C,λrel O=>⟨(A rel O).1,λb hb=>?_⟩,E⟩;have⟨a1,a2,a3,Di,a4,a5⟩:=(A rel O).2 b hb;exact⟨a1,a2,a3,Di,G a4,a5⟩
def gH.f{n:Nat}{M:Gd->Option Int}(h:gH W B n M)(A:dB W.heap.size W W'):gH W' B n M:=
 h.o (λk C c z=>(A.b k (zg z).1).t z)
def yr{n:Nat}(h:W.ownsMap cZ 9 RV B n D)(rel:ByteArray)(E:rel.size<=dA):∃z,(dL 98 (.map (aX B)) (.string rel) false).run cZ W=.ok z W/\D.atKey (kS rel) (.held (.map aY))=.held z:=by
 obtain⟨O,clock,C,F,_,rfl⟩:=h;obtain⟨G,_,A⟩|⟨M,y,_,_,G,i6,A,_⟩:=Maps.fit_look false xM eW (Tryz.zeroValue174 W) C F (xI rel E)
 .grind
 grind [RV]
theorem gH.c{n:Nat}{M:Gd->Option Int}(h:gH W B n M)(g:Gd)(A:g.j.size<=dA)(G:g.x.size<=dA)(O:g.y.size<=dA):∃C,(dL 98 (.map (aX B)) (.string g.j) false).run cZ W=.ok (.map C) W/\
   (dL 174 (.map C) (qB g.x g.y) true).run cZ W=.ok (aN #[.int aR ((M g).getD 0),aM (M g).isSome]) W/\
   (dL 174 (.map C) (qB g.x g.y) false).run cZ W=.ok (.int aR ((M g).getD 0)) W:=by
 have⟨D,blk,h1,h2,h3⟩:=h;have⟨mv,e1,e2⟩:=yr h1 g.j A;have z:=tN g.x g.y G O;cases ao:blk g.j with
 |none=>have⟨a1,a2⟩:=(h2 g.j A).1 ao;have hz:D.atKey (kS g.j) (.held (.map aY))=.held (.map aY):=dJ a1 _;rw[hz] at e2;cases e2;have E:M g=none:=a2 g.x g.y;refine⟨aY,e1,?_,?_⟩;{have:=Maps.look_nil (w:=W) true ri dD (dU W) z;rwa[E]};{have:=Maps.look_nil (w:=W) false ri dD (dU W) z;rwa[E]}
 |some b=>have⟨a1,a2,a3,Di,a4,a5⟩:=(h2 g.j A).2 b ao;rw[a2] at e2;cases e2;have⟨k1,k2⟩:=a5 g.x g.y G O;refine⟨aX b,e1,?_,?_⟩;{have⟨v,ps,q1,q2⟩:=a4.look_ok ri dD (dU W) (zd:=.lit (.int aR 0)) (zp:=[]) (plainElem_int dK (by decide)) z;rw[k2] at q2;obtain⟨c,rfl,hc,_⟩:=eX dK q2;cases hc;rwa[k1] at q1};{have⟨c,q1,q2,q3⟩:=a4.lookup_int ri dD dK (dU W) z;rw[k2] at q2;cases q2;exact q1}
structure lZ(g:Gd):Prop where
 j:g.j.size<=dA
 x:g.x.size<=dA
 y:g.y.size<=dA
def BX(B n:Nat)(M:Gd->Option Int)(g:Gd)(z:lZ g)(w:Wq)(C:gH w B n M):Cs 136 #[.map (aX B),g.v] w λe w'=>e=aQ (aM (M g).isSome)/\dB w.heap.size w w':=by have A:∀O,∃E,_:=λO=>(C.f ((bB _ w).l zl O)).c g z.j z.x z.y;unfold Gd.v Gd.c;unfold qB at A;have⟨E,l1,l2,l3⟩:=A (aP #[aK g.j,aK g.x,aK g.y] 111);clear A C;go_enter Tryz.func136,Tryz.ntmps136;go_wp2;go_ret;exact⟨rfl,(bB _ w).l zl _⟩
def Kk(B n:Nat)(M:Gd->Option Int)(g:Gd)(z:lZ g)(w:Wq)(C:gH w B n M):Cs 47 #[.map (aX B),g.v] w λe w'=>e=aQ (aO aR ((M g).getD 0))/\dB w.heap.size w w':=by have A:∀O,∃E,_:=λO=>(C.f ((bB _ w).l zl O)).c g z.j z.x z.y;unfold Gd.v Gd.c;unfold qB at A;have⟨E,l1,l2,l3⟩:=A (aP #[aK g.j,aK g.x,aK g.y] 111);clear A C;go_enter Tryz.func47,Tryz.ntmps47;go_wp2;go_ret;exact⟨rfl,(bB _ w).l zl _⟩
structure zD(w w':Wq):Prop where
 os:w'.os=w.os
 tape:w'.tape=w.tape
 output:w'.output=w.output
 size:w.heap.size<=w'.heap.size
 h:∀(k:Nat) (o:Obj),w.heap[k]?=aX o->(∀es c,o≠bT es c)->w'.heap[k]?=aX o
def KS(w:Wq):(binOp .eql 174 (.map aY) (.map aY)).run cZ w=.ok (aM true) w:=by kernel_rfl
def MZ(b:Nat)(w:Wq):(binOp .eql 174 (.map (aX b)) (.map aY)).run cZ w=.ok (aM false) w:=by kernel_rfl
def iK(M:Gd->Option Int)(g:Gd)(e:Int):Gd->Option Int:=λh=>if h.j=g.j/\h.x=g.x/\h.y=g.y then aX e else M h
theorem ud(h:x.data.toList=y.data.toList):x=y:=by cases x;cases y;simp only[ByteArray.mk.injEq];exact Array.toList_inj.1 h
def Ow{s:ByteArray}(h:kS r=kS s):r=s:=by grind [kS,ud]
def C7(M:x.size<=dA)(O:y.size<=dA)(C:x'.size<=dA)(E:y'.size<=dA)(h:kT x y=kT x' y'):x=x'/\y=y':=by have z:=tN x y M O;have G:=tN x' y' C E;rw[h] at z;have A:=ri.inj z G;simp[qB] at A;exact A
def Dm{M:Gd->Option Int}{g:Gd}(z:lZ g){A:dP Vq}(O:IsMap A)(da:∀x y:ByteArray,x.size<=dA->y.size<=dA->dI A (kT x y)=(M ⟨g.j,x,y⟩).isSome/\A.atKey (kT x y) (.lit (.int aR 0))=.lit (.int aR ((M ⟨g.j,x,y⟩).getD 0))):∀x y:ByteArray,x.size<=dA->y.size<=dA->dI (A.put (kT g.x g.y) (.lit (.int aR e))) (kT x y)=(iK M g e ⟨g.j,x,y⟩).isSome/\(A.put (kT g.x g.y) (.lit (.int aR e))).atKey (kT x y) (.lit (.int aR 0))=.lit (.int aR ((iK M g e ⟨g.j,x,y⟩).getD 0)):=by
 intro x y hx hy;by_cases h:x=g.x/\y=g.y
 .obtain⟨rfl,rfl⟩:=h;have E:iK M g e ⟨g.j,g.x,g.y⟩=aX e:=by{unfold iK;simp};rw[E];exact⟨eU O (ri.key (tN _ _ z.x z.y)) _,dY O (ri.key (tN _ _ z.x z.y)) _ _⟩
 have E:iK M g e ⟨g.j,x,y⟩=M ⟨g.j,x,y⟩:=by{unfold iK;rw[if_neg (λC=>h C.2)]};have G:kT x y≠kT g.x g.y:=λC=>h (C7 hx hy z.x z.y C);rw[E,eO G,eH G];exact da x y hx hy
def A1{M:Gd->Option Int}{g:Gd}(h:r≠g.j)(x y:ByteArray):iK M g e ⟨r,x,y⟩=M ⟨r,x,y⟩:=by grind [iK]
def CV{n:Nat}{M:Gd->Option Int}{g:Gd}(h:vJ W b n r M)(A:r≠g.j)(z:W'.heap[b]?=W.heap[b]?)(G:n<=n'):vJ W' b n' r (iK M g e):=by have⟨Di,⟨es,c,h1,h2,h3,h4⟩,h5⟩:=h;refine⟨Di,⟨es,c,z.t h1,h2,by lia,h4⟩,λx y C E=>?_⟩;rw[A1 A];exact h5 x y C E
def vJ.lt{n:Nat}{M:Gd->Option Int}(h:vJ W b n r M):b<W.heap.size:=by have⟨Di,h1,_⟩:=h;exact h1.lt
def kN(lo:Nat)(W:Wq)(B n:Nat)(M:Gd->Option Int):Prop:=
 ∃(D:dP Vq) (blk:ByteArray->Option Nat),W.ownsMap cZ 9 RV B n D/\
  (∀rel:ByteArray,rel.size<=dA->
   (blk rel=aY->dI D (kS rel)=false/\∀x y,M ⟨rel,x,y⟩=aY)/\
   (∀b,blk rel=aX b->dI D (kS rel)=true/\D.atKey (kS rel) (.held (.map aY))=.held (.map (aX b))/\b≠B/\vJ W b n rel M))/\
  (∀r1 r2 b,blk r1=aX b->blk r2=aX b->r1=r2)/\(∀r b,blk r=aX b->r.size<=dA)/\lo<=B/\∀r b,blk r=aX b->lo<=b
def kN.c{lo:Nat}{n:Nat}{M:Gd->Option Int}(h:kN lo W B n M):gH W B n M:=by have⟨D,blk,h1,h2,h3,h4,_⟩:=h;exact⟨D,blk,h1,h2,h3,h4⟩
def kN.o{lo:Nat}{n:Nat}{M:Gd->Option Int}(h:kN lo W B n M)(hk:∀(k:Nat) (z:Array MapEntry) (c:Nat),W.heap[k]?=aX (bT z c)->W'.heap[k]?=aX (bT z c)):kN lo W' B n M:=by
 have G:∀{k:dZ}{R:Vq->Option (dP Vq×List MemPlace)}{b n:Nat}{D:dP Vq},W.ownsMap cZ k R b n D->W'.ownsMap cZ k R b n D:=by rintro k R b n D ⟨z,c,C,A,E,h4⟩;exact⟨z,c,hk _ _ _ C,A,E,h4⟩
 have⟨D,blk,C,A,E⟩:=h;refine⟨D,blk,G C,λrel O=>⟨(A rel O).1,λb hb=>?_⟩,E⟩;have⟨a1,a2,a3,Di,a4,a5⟩:=(A rel O).2 b hb;exact⟨a1,a2,a3,Di,G a4,a5⟩
def kN.mono{lo n:Nat}{M:Gd->Option Int}(h:kN lo W B n M)(z:n<=n'):kN lo W B n' M:=by have⟨D,blk,h1,h2,h3⟩:=h;refine⟨D,blk,h1.mono z,λrel A=>⟨(h2 rel A).1,λb C=>?_⟩,h3⟩;have⟨a1,a2,a3,Di,a4,a5⟩:=(h2 rel A).2 b C;exact⟨a1,a2,a3,Di,a4.mono z,a5⟩
theorem KG(lo B n:Nat)(M:Gd->Option Int)(g:Gd)(e:Int)(E:lZ g)(w:Wq)(hM:kN lo w B n M)(hn:n+5<dA)(he:(Lit.int aR e).wf=true):Cs 137 #[.map (aX B),aL #[.string g.j,.string g.x,.string g.y,.int aR e]] w λe' w'=>e'=aQ (aN #[])/\kN lo w' B (n+2) (iK M g e)/\zD w w'/\dB lo w w':=by
 have hm:=@run_makeMap cZ;have i5:=KS;have iy:=MZ;have cp:=tN g.x g.y E.x E.y;unfold qB at cp;have Qjk:=aA cp;have⟨D,blk,h1,h2,h3,h4,h5,h6⟩:=hM;have gu:=h1.lt;have em:=h1.isMap;have ea:∃G c,w.heap[B]?=aX (bT G c):=by have⟨G,c,h,_⟩:=h1;exact⟨G,c,h⟩
 have bu:=λO=>yr (h1.alloc O) g.j E.j;have fx:Hid (dE (H:=Vq) cZ 3 (.int aR e)=aX (.lit (.int aR e),[])):=plainElem_int dK he
 cases ao:blk g.j with
 |none=>
  have⟨a1,a2⟩:=(h2 g.j E.j).1 ao;have hz:D.atKey (kS g.j) (.held (.map aY))=.held (.map aY):=dJ a1 _;have⟨mv,e1,e2⟩:=bu (aP #[.string g.j,.string g.x,.string g.y,.int aR e] 172);rw[hz] at e2;cases e2;obtain⟨W1,dc⟩:=aC ((w.alloc (aP #[.string g.j,.string g.x,.string g.y,.int aR e] 172)).alloc (.map #[] 0));have ab:dB w.heap.size w W1:=dc▸((bB _ w).l zl _).l (by simp) _;have hO:W1.ownsMap cZ 9 RV B n D:=dc▸(h1.alloc _).alloc _;have hI:W1.ownsMap cZ 109 (dE (H:=Vq) cZ 3) (w.heap.size+1) 0 (.map []):=by{rw[<-dc];have:=World.ownsMap_made (H:=Vq) (w.alloc (aP #[.string g.j,.string g.x,.string g.y,.int aR e] 172)) cZ 109 (dE cZ 3);rwa[bD] at this};have hL:W1.heap[w.heap.size]?=cC #[.string g.j,.string g.x,.string g.y,.int aR e] 172:=dc▸(bC _ _ _ (by simp)).t (zn w _);have i4:W1.heap.size=w.heap.size+2:=by rw[<-dc];simp
  have ik:Hid (∀w1,w1.ownsMap cZ 9 RV B (n+1) (D.put (kS g.j) (.held (.map (aX (w.heap.size+1)))))->W1.grownBy w1 (aX B)->
    (dL 98 (.map (aX B)) (.string g.j) false).run cZ w1=.ok (.map (aX (w.heap.size+1))) w1/\w1.heap[w.heap.size]?=cC #[.string g.j,.string g.x,.string g.y,.int aR e] 172/\w1.ownsMap cZ 109 (dE (H:=Vq) cZ 3) (w.heap.size+1) 0 (.map [])):=by
   intro w1 ho cw;have⟨mv,q1,q2⟩:=yr ho g.j E.j;rw[dY em (xM.key (xI _ E.j))] at q2;cases q2;exact⟨q1,(cw.b _ (by omega) (by simp;omega)).t hL,hI.kept cw (by simp;omega)⟩
  have Qd:Hid (∀w1 w2,w1.ownsMap cZ 9 RV B (n+1) (D.put (kS g.j) (.held (.map (aX (w.heap.size+1)))))->W1.grownBy w1 (aX B)->w2.ownsMap cZ 109 (dE (H:=Vq) cZ 3) (w.heap.size+1) (0+1) ((DataW.map []).put (kT g.x g.y) (.lit (.int aR e)))->w1.grownBy w2 (aX (w.heap.size+1))->kN lo w2 B (n+2) (iK M g e)/\zD w w2/\dB lo w w2):=by
   intro w1 w2 ho cf hi z;have e9:=cf.size;have cg:∀k:Nat,k<w.heap.size->k≠B->w2.heap[k]?=w.heap[k]?:=λk C a8=>((z.b k (by omega) (by simp;omega)).t (cf.b k (by omega) (by simp;omega))).t (ab.b k C);refine⟨⟨D.put (kS g.j) (.held (.map (aX (w.heap.size+1)))),λr=>if r=g.j then aX (w.heap.size+1) else blk r,(ho.kept z (by simp;omega)).mono (by omega),λr hr=>?_,?_,?_,h5,?_⟩,⟨?_,?_,?_,?_,?_⟩,⟨z.os.t (cf.os.t ab.os),z.tape.t (cf.tape.t ab.tape),z.output.t (cf.output.t ab.output),by have:=z.size;omega,λk C=>cg k (by omega) (by omega)⟩⟩
   .by_cases A:r=g.j;{subst A;simp only[if_true];refine⟨λh=>(by cases h),λb' af=>?_⟩;cases af;refine⟨eU em (xM.key (xI _ E.j)) _,dY em (xM.key (xI _ E.j)) _ _,by omega,_,hi.mono (by omega),Dm E ⟨[],rfl⟩ (λx y hx hy=>?_)⟩;rw[a2 x y];exact⟨rfl,rfl⟩}
    .have a8:kS r≠kS g.j:=λh=>A (Ow h);simp only[if_neg A];rw[eO a8,eH a8];refine⟨λh=>?_,λb' af=>?_⟩;{have⟨q1,q2⟩:=(h2 r hr).1 h;exact⟨q1,λx y=>by rw[A1 A];exact q2 x y⟩};{have⟨q1,q2,q3,q4⟩:=(h2 r hr).2 b' af;exact⟨q1,q2,q3,CV q4 A (cg b' q4.lt q3) (by omega)⟩}
   .intro r1 r2 b' k1 k2;simp only at k1 k2;have Qfr:∀r,blk r≠aX (w.heap.size+1):=λr h=>by{have:=((h2 r (h4 r _ h)).2 _ h).2.2.2.lt;omega};by_cases dp:r1=g.j
    .by_cases cy:r2=g.j;{rw[dp,cy]};{rw[if_pos dp] at k1;rw[if_neg cy] at k2;cases k1;exact absurd k2 (Qfr r2)}
    .by_cases cy:r2=g.j;{rw[if_neg dp] at k1;rw[if_pos cy] at k2;cases k2;exact absurd k1 (Qfr r1)};{rw[if_neg dp] at k1;rw[if_neg cy] at k2;exact h3 r1 r2 b' k1 k2}
   .intro r b' af;by_cases A:r=g.j;{rw[A];exact E.j};{simp only[if_neg A] at af;exact h4 r b' af}
   .intro r b' af;by_cases A:r=g.j;{simp only[if_pos A] at af;cases af;omega};{simp only[if_neg A] at af;exact h6 r b' af}
   .exact z.os.t (cf.os.t ab.os)
   .exact z.tape.t (cf.tape.t ab.tape)
   .exact z.output.t (cf.output.t ab.output)
   .have:=z.size;omega
   .intro k o C ec;have dh:=(zg C).1;rw[cg k dh (λe'=>?_)];{exact C};{subst e';have⟨G,c,hB⟩:=ea;rw[hB] at C;cases C;exact ec G c rfl}
  have HO:=aA hO;clear bu h1 h2 h3 h6 hz a1 a2 he ao hO hI hL ab ea;go_enter Tryz.func137,Tryz.ntmps137
  go_wp2_with (first|(at_mapUpdate;refine dX _ rfl _ _ _ 98 rfl 9 174 xM eW RV B n D rfl HO.o (by omega) _ _ (kS g.j) rfl rfl (xI _ E.j) (.held (.map (aX (w.heap.size+1)))) [] rfl ?_;intro w1 ag ai;have⟨s1,s2,s3⟩:=ik.o w1 ag ai;have d0:=cZz s2;have d3:aE w1 (Ad w.heap.size 3)=aX (.int aR e):=(by simp[aE,s2]))|(at_mapUpdate;refine dX _ rfl _ _ _ 174 rfl 109 3 ri dD (dE cZ 3) (w.heap.size+1) 0 (.map []) rfl s3 (by omega) _ _ (kT g.x g.y) rfl rfl Qjk.o (.lit (.int aR e)) [] fx.o ?_;intro w2 eu aw)|go_in)
  go_end0
  exact⟨rfl,Qd.o w1 w2 ag ai eu aw⟩
 |some b=>
  have⟨a1,a2,a3,Di,a4,a5⟩:=(h2 g.j E.j).2 b ao;have⟨mv,e1,e2⟩:=bu (aP #[.string g.j,.string g.x,.string g.y,.int aR e] 172);rw[a2] at e2;cases e2;have fs:=a4.lt;have hI:(w.alloc (aP #[.string g.j,.string g.x,.string g.y,.int aR e] 172)).ownsMap cZ 109 (dE (H:=Vq) cZ 3) b n Di:=a4.alloc _
  have Qd:Hid (∀w2,w2.ownsMap cZ 109 (dE (H:=Vq) cZ 3) b (n+1) (Di.put (kT g.x g.y) (.lit (.int aR e)))->(w.alloc (aP #[.string g.j,.string g.x,.string g.y,.int aR e] 172)).grownBy w2 (aX b)->kN lo w2 B (n+2) (iK M g e)/\zD w w2/\dB lo w w2):=by
   intro w2 hi z;have e9:=z.size;rw[bD] at e9;have cg:∀k:Nat,k<w.heap.size->k≠b->w2.heap[k]?=w.heap[k]?:=λk C a8=>(z.b k (by simp;omega) (by simp;omega)).t (bC _ _ _ C);have ja:=h6 _ _ ao;refine⟨⟨D,blk,?_,λr hr=>?_,h3,h4,h5,h6⟩,⟨z.os,z.tape,z.output,by omega,?_⟩,⟨z.os,z.tape,z.output,by omega,λk C=>cg k (by omega) (by omega)⟩⟩;{have⟨G,c,q1,q2,q3,q4⟩:=h1;exact⟨G,c,(cg B gu (λe'=>a3 e'.s)).t q1,q2,by omega,q4⟩}
   .by_cases A:r=g.j;{subst A;refine⟨λh=>(by rw[ao] at h;cases h),λb' af=>?_⟩;rw[ao] at af;cases af;exact⟨a1,a2,a3,_,hi.mono (by omega),Dm E a4.isMap a5⟩}
    .refine⟨λh=>?_,λb' af=>?_⟩;{have⟨q1,q2⟩:=(h2 r hr).1 h;exact⟨q1,λx y=>by rw[A1 A];exact q2 x y⟩};{have⟨q1,q2,q3,q4⟩:=(h2 r hr).2 b' af;exact⟨q1,q2,q3,CV q4 A (cg b' q4.lt (λe'=>A (h3 r g.j b (e' ▸ af) ao))) (by omega)⟩}
   .intro k o C ec;have dh:=(zg C).1;rw[cg k dh (λe'=>?_)];{exact C};{subst e';have⟨G,c,hB,_⟩:=a4;rw[hB] at C;cases C;exact ec G c rfl}
  have HI:=aA hI;clear bu h1 h2 h3 h6 a1 a2 a5 a4 he ao hI ea;go_enter Tryz.func137,Tryz.ntmps137
  go_wp2_with (first|(at_mapUpdate;refine dX _ rfl _ _ _ 174 rfl 109 3 ri dD (dE cZ 3) b n Di rfl HI.o (by omega) _ _ (kT g.x g.y) rfl rfl Qjk.o (.lit (.int aR e)) [] fx.o ?_;intro w2 eu aw)|go_in)
  go_end0
  exact⟨rfl,Qd.o w2 eu aw⟩
attribute [local go_sem] eA
def Gp(B:Nat)(a:Am)(va:Vq)(put:fD)(w:Wq)(A:Option Addr)(E C:Nat)(z:va=aJ A E C):Cs 94 #[.map (aX B),aL #[aK a.j,va],put.v] w λe w'=>e=aQ (.func (.func 156) #[] #[Pt w.heap.size,Pt (w.heap.size+1),Pt (w.heap.size+2)])/\
   w'=((w.alloc (aP #[.map (aX B)] 98)).alloc (aP #[aK a.j,va] 92)).alloc (aP put.c 176):=by subst z;unfold fD.v fD.c;go_enter Tryz.func94,Tryz.ntmps94;go_wp2;go_ret;exact⟨rfl,rfl⟩
def gI(t:dZ):Prop:=t≠9/\t≠22/\t≠172/\t≠169
structure qr(m:Nat)(W W':Wq):Prop where
 i:∀(k:Nat) (c:Array Vq) (t:dZ),gI t->W.heap[k]?=cC c t->W'.heap[k]?=cC c t
 j:∀(k:Nat) (es:Array MapEntry) (c:Nat),W.heap[k]?=aX (bT es c)->W'.heap[k]?=aX (bT es c)
 f:dF m W W'
def qr.g{B C:Wq}(h:qr m A B)(k:qr m B C):qr m A C:=⟨λi c t G z=>k.i i c t G (h.i i c t G z),λi E c z=>k.j i E c (h.j i E c z),KeepsFrom.g h.f k.f⟩
def qr.d(h:dB W.heap.size W W'):qr m W W':=⟨λk c t _ z=>(h.b k (zg z).1).t z,λk A c z=>(h.b k (zg z).1).t z,KeepsFrom.d h⟩
def qr.H(W:Wq)(l:Nat)(o A:Obj)(O:l<m)(h:W.heap[l]?=aX o)(M:o.isCells=false)(G:∀C c,o≠bT C c):qr m W (W.putObj l A):=
 ⟨λk c t _ z=>qn (dH W l A) (λr e=>by cases e;exact⟨_,h,M⟩) k c _ _ z,
  λk C c z=>((dH W l A).b k (zg z).1 (λe=>by cases e;rw[h] at z;cases z;exact G _ _ rfl)).t z,
  (dH W l A).size,λk x z E _=>((dH W l A).b k (zg E).1 (by simp;lia)).t E⟩
def qr.h{z:Nat}{B:Wq}(h:qr m A B)(C:m<=z):qr z A B:=⟨h.i,h.j,KeepsFrom.h h.f C⟩
def Qg.mk{v:Vq}{l:List Tm}(h:Qg W b v l)(A:qr m W W'):Qg W' b v l:=by refine h.o (λk c _ z=>A.i k c _ (by unfold gI;decide) z)
def gH.mk{n:Nat}{M:Gd->Option Int}(h:gH W B n M)(z:qr m W W'):gH W' B n M:=h.o z.j
def EM{k:dZ}{R:Vq->Option (dP Vq×List MemPlace)}{r n:Nat}(h:W.ranges cZ k R b r n D left bb)(z:W'.heap[b]?=W.heap[b]?)(A:W'.heap[r]?=W.heap[r]?):W'.ranges cZ k R b r n D left bb:=by have⟨es,clock,ay,b8,c0,h1,h2,h3,h4,h5,h6⟩:=h;exact⟨es,clock,ay,b8,c0,z.t h1,h2,h3,h4,A.t h5,h6⟩
theorem Oh{v:Vq}(h:v.formed cZ 109=true):∃a b,v=aL #[a,b]:=by
 unfold cU at h;rewrite [dG] at h;cases v<;>simp at h;rename_i xs;rewrite [yk] at h;have⟨l⟩:=xs;match l,h with
 |[a,b],_=>exact⟨a,b,rfl⟩
 |[],h=>simp at h
 |[a],h=>simp at h
 |a::b::c::l,h=>simp at h
def EC{d:Nat}{v:Vq}{r:List Lit}(h:Tryz.prog.keyLits (d+1) 9 [v]=aX r):∃s:ByteArray,v=.string s/\r=[.string s.data.toList]/\s.size<=maxLen:=by unfold eC at h;rewrite [dS] at h;cases v<;>simp at h;have⟨h1,h2⟩:=h;exact⟨_,rfl,h2.s,h1⟩
def Dg{v:Vq}{l:Lit}(h:keyOf cZ 109 v=aX l):∃x y,v=qB x y/\l=kT x y/\x.size<=dA/\y.size<=maxLen:=by
 have⟨d,hd⟩:=CQ;have C:=h;unfold keyOf at h;rewrite [dG] at h;simp only[C6,Bool.true_and,hd] at h;split at h
 .rename_i E;obtain⟨a,b,rfl⟩:=Oh E;have G:∃x y:ByteArray,a=.string x/\b=.string y/\x.size<=dA/\y.size<=maxLen:=by
   unfold eC at h;rewrite [dG] at h;simp only[yk,CU,cX] at h;simp[cQ] at h;cases ha:Tryz.prog.keyLits (d+1) 9 [a] with
   |none=>rw[ha] at h;simp at h
   |some ra=>
    rw[ha] at h;cases hb:Tryz.prog.keyLits (d+1) 9 [b] with
    |none=>rw[hb] at h;simp at h
    |some rb=>obtain⟨x,rfl,_,z⟩:=EC ha;obtain⟨y,rfl,_,A⟩:=EC hb;exact⟨x,y,rfl,rfl,z,A⟩
  obtain⟨x,y,rfl,rfl,z,A⟩:=G;have:=tN x y z A;unfold qB at this;rewrite [this] at C;cases C;exact⟨x,y,rfl,rfl,z,A⟩
 cases h
structure rF(Bm Ba Bp B ah:Nat)(a:Am)(va:Vq)(put:fD)(W:Wq):Prop where
 j:W.heap[Bm]?=cC #[.map (aX B)] 98
 g:W.heap[Ba]?=cC #[aK a.j,va] 92
 d:W.heap[Bp]?=aX (aP put.c 176)
 h:Qg W ah va a.d
def rF.o{put:fD}(h:rF Bm Ba Bp B ah a va put W)(z:∀(k:Nat) (c:Array Vq) (t:dZ),gI t->W.heap[k]?=cC c t->W'.heap[k]?=cC c t):rF Bm Ba Bp B ah a va put W':=
 ⟨z _ _ _ (by unfold gI;decide) h.j,z _ _ _ (by unfold gI;decide) h.g,z _ _ _ (by unfold gI;decide) h.d,h.h.o (λk c _ A=>z k c _ (by unfold gI;decide) A)⟩
def rF.f{put:fD}(h:rF Bm Ba Bp B ah a va put W)(A:dB W.heap.size W W'):rF Bm Ba Bp B ah a va put W':=
 h.o (λk c t _ z=>(A.b k (zg z).1).t z)
def rF.i{put:fD}(h:rF Bm Ba Bp B ah a va put W):aE W (Ad Ba 0)=aX (aK a.j)/\aE W (Ad Ba 1)=aX va/\aE W (Ad Bp 0)=aX (aK put.g)/\aE W (Ad Bp 1)=aX (aK put.h)/\aE W (Ad Bp 2)=aX (aK put.i)/\aE W (Ad Bp 3)=aX (aK put.j)/\aE W (Ad Bp 4)=aX (aK put.o)/\aE W (Ad Bp 5)=aX (aK put.q):=by have A:=h.g;have z:=h.d;unfold fD.c at z;simp[aE,A,z]
structure wj(b r nn:Nat)(Di:dP Vq)(put:fD)(a:Am)(W:Wq)(ks:List (ByteArray×ByteArray))(ys:List fD)(bb:Nat):Prop where
 f:∃left,W.ranges cZ 109 (dE cZ 3) b r nn Di left bb/\∀x y:ByteArray,x.size<=dA->y.size<=dA->((x,y)∈ks↔dI Di (kT x y)=true/\left (kT x y)=false)
 s:ks.Nodup
 c:∀k∈ks,k.1.size<=dA/\k.2.size<=dA
 I:aD ks+bb<=nn
 g:ys=ks.filterMap (λk=>gK put a k.1 k.2)
def EK{put:fD}:aD (ks.filterMap (λk=>gK put a k.1 k.2))<=aD ks:=List.length_filterMap_le _ _
theorem Cu{c:Nat}:∀(l:List (Tm×ByteArray)) (n m:fD),(∀k,(n.f k).size<=c)->(∀p∈l,p.1.d<6/\p.2.size<=c)->jC n l=aX m->∀k,(m.f k).size<=c
 |[],n,m,hn,_,h=>by grind [jC]
 |p::l,n,m,hn,hl,h=>by
  simp only[jC] at h
  cases hs:kZ n p.1 p.2 with
  |none=>rw[hs] at h;cases h
  |some n'=>
   rw[hs] at h;refine Cu l n' m ?_ (λq z=>hl q (zt z)) h;have⟨h6,hz⟩:=hl p zs;unfold kZ at hs;split at hs;{grind [oN,fD.s]};{cases hs}
def Kl(z:x.size<=dA)(A:y.size<=dA)(C:x'.size<=dA)(E:y'.size<=dA):(kT x' y').sameKey (kT x y)=decide (x'=x/\y'=y):=by rw[Bool.eq_iff_iff,WideAt.sameKey_iff (ri.key (tN x y z A)),decide_eq_true_iff];exact⟨λh=>C7 C E z A h,by rintro⟨rfl,rfl⟩;rfl⟩
def wj.d{r E:Nat}{A:dP Vq}{put:fD}{G:List fD}{C:Nat}{d:dP Vq}(cz:∀x y:ByteArray,x.size<=dA->y.size<=dA->((x,y)∈ks↔dI A (kT x y)=true/\left (kT x y)=false))(dz:ks.Nodup)(dx:∀k∈ks,k.1.size<=dA/\k.2.size<=dA)(fv:aD ks+bb<=E)(bu:G=ks.filterMap (λk=>gK put a k.1 k.2))(hx:x.size<=dA)(hy:y.size<=dA)(fa:left (kT x y)=true)(M:∀zd,A.atKey (kT x y) zd=d)(O:W.ranges cZ 109 (dE cZ 3) b r E A (λz=>left z && !z.sameKey (kT x y)) C)(ae:C<bb)(hb:W'.heap[b]?=W.heap[b]?)(hr:W'.heap[r]?=W.heap[r]?):wj b r E A put a W' (ks++[(x,y)]) (G++(gK put a x y).toList) C:=by
 refine⟨⟨_,EM O hb hr,λx' y' db dj=>?_⟩,?_,?_,by simp;lia,?_⟩
 .rw[Kl hx hy db dj];by_cases h:x'=x/\y'=y;{obtain⟨rfl,rfl⟩:=h;simp[Maps.has_true_of_atKey M]};{grind}
 .grind
 .grind
 grind
def yb(c:Nat):={p:fD // ∀k,(p.f k).size<=c}
abbrev wz:=yb dA
theorem IB(sz:Nat)(n:Nat)(hn:4<=n)(Bm Ba Bp B A ah:Nat)(M:Gd->Option Int)(a:Am)(va:Vq)(put:fD)(w:Wq)(hm:w.heap[Bm]?=cC #[.map (aX B)] 98)(ha:w.heap[Ba]?=cC #[.string a.j,va] 92)(hp:w.heap[Bp]?=aX (aP put.c 176))(hM:gH w B A M)(hS:Qg w ah va a.d)(bd:aD a.d<=2)(am:∀t∈a.d,t.d<6)(hrel:a.j.size<=dA)(bh:∀k,(put.f k).size<=sz)(dl:∀x y,x.size<=dA->y.size<=dA->(M ⟨a.j,x,y⟩).isSome=true->x.size<=sz/\y.size<=sz)(m:Nat):iW m n 156 #[.pointer (aX ⟨Bm,0,aY⟩),.pointer (aX ⟨Ba,0,aY⟩),.pointer (aX ⟨Bp,0,aY⟩)] (λp:yb sz=>#[p.1.v]) (qr m)
   (λys=>∃ks:List (ByteArray×ByteArray),ks.Nodup/\(∀x y,(x,y)∈ks↔(x.size<=dA/\y.size<=dA/\(M ⟨a.j,x,y⟩).isSome=true))/\aD ks<=A/\ys.map (·.1)=ks.filterMap (λk=>gK put a k.1 k.2)) (λ_=>True) A w:=by
 intro l J Jx W hW c6 hJ cv hY h0;have cx:qr m w W:=qr.d hW;have d9:=cx.i _ _ _ (by unfold gI;decide) hm;have ew:=cx.i _ _ _ (by unfold gI;decide) ha;have ez:=cx.i _ _ _ (by unfold gI;decide) hp;have gc:=hM.mk cx;have dy:=hS.mk cx;clear hm ha hp hM hS cx hW;obtain⟨ta,tc,de⟩:=dy.c;subst de;have c0:aE W (Ad Bm 0)=aX (.map (aX B)):=zc d9;have c1:aE W (Ad Ba 0)=aX (.string a.j):=zc ew;obtain⟨D,blk,o1,o2,o3,o4⟩:=gc;obtain⟨mv,l1,l2⟩:=yr o1 a.j hrel;have n1:1<=n:=by omega
 have HY:Hid _:=hY;have HJ:Hid (dC W.heap.size J):=hJ;have HJx:Hid (dC W.heap.size Jx):=cv;clear hY hJ cv;cases ao:blk a.j with
 |none=>
  obtain⟨q1,q2⟩:=(o2 a.j hrel).1 ao;rw[dJ q1] at l2;cases l2;have Qlp:Hid (∃E:List (ByteArray×ByteArray),E.Nodup/\(∀x y,(x,y)∈E↔(x.size<=dA/\y.size<=dA/\(M ⟨a.j,x,y⟩).isSome=true))/\aD E<=A/\([]:List (yb sz)).map (·.1)=E.filterMap (λk=>gK put a k.1 k.2)):=
   ⟨[],cS,λx y=>by simp[q2 x y],by simp,rfl⟩
  have dg:Hid (J [] (W.alloc (.mapIter aY 0 #[] 0))):=HJ.o _ _ _ aY h0 (qi ((bB _ W).l zl _)) (λr e=>by cases e);have iq:=run_range_nilMap (P:=cZ) W 174 109 3 dD;have a9:=λty=>run_next_nilMap (P:=cZ) W ty 0 0 #[];clear o1 o2 o3 o4 h0 dy ao q1 q2 am bh dl;refine callsIn_of_wp Tryz.func156 rfl trivial ?_;simp only[Tryz.ntmps156,bO,bF,bU,cA,cD,bI,bJ,bQ,bL,bG,bH];gi_wp2;gi_loopw [5] (λ_ wr=>wr=W.alloc (.mapIter aY 0 #[] 0)) (λ_ _=>0)
  case atStart=>rfl
  subst hrel;gi_wp2;go_end0;exact⟨⟨_,rfl⟩,aS ⟨[],Qlp.o,dg.o⟩⟩
 |some b=>
  obtain⟨q1,q2,q3,C,q4,q5⟩:=(o2 a.j hrel).2 b ao;rw[q2] at l2;cases l2;have HO:Hid (W.ownsMap cZ 109 (dE cZ 3) b A C):=q4;have HQ:Hid _:=q5;have HH:Hid _:=h0;have HS:Hid _:=dy;have HNm:Hid _:=am;have Qm9:Hid _:=bh;have HMs:Hid _:=dl;clear o1 o2 o3 o4 q4 q5 h0 dy am bh ao q1 q2 dl;refine callsIn_of_wp Tryz.func156 rfl trivial ?_;simp only[Tryz.ntmps156,bO,bF,bU,cA,cD,bI,bJ,bQ,bL,bG,bH];gi_wp2_with (gi_at_range;refine wpListIn_range_own _ rfl _ 174 rfl 109 3 ri dD (dE cZ 3) b A C rfl HO.o ?_;intro w1 dd av ir);have hE:rF Bm Ba Bp B ah a (aJ ta (aD a.d) tc) put W:=⟨d9,ew,ez,HS.o⟩;have ab:dB W.heap.size W w1:=⟨av.os,av.tape,av.output,av.size,λk hk=>av.b k hk (by simp)⟩;have gl:=hE.f ab;have dg:J [] w1:=HJ.o _ _ _ aY HH.o av (λr e=>by cases e);have f4:wj b W.heap.size A C put a w1 [] [] (Maps.size C):=⟨⟨_,dd,λx y _ _=>by simp⟩,cS,by simp,by simpa using cT.size_le HO.o,rfl⟩;obtain⟨r,hr⟩:=aC W.heap.size;rw[hr] at HJ HJx c6 f4;simp only[hr];clear d9 ew ez hE c0 c1 l1 dd av ab;gi_loopw [5] (λ_ wr=>∃(ks:List (ByteArray×ByteArray)) (pre:List (yb sz)) (bb:Nat),J pre wr/\wj b r A C put a wr ks (pre.map (·.1)) bb/\rF Bm Ba Bp B ah a (aJ ta (aD a.d) tc) put wr/\r+1<=wr.heap.size/\b<r) (λ_ wr=>wr.rangeLeft b r)
  case atStart=>exact⟨[],[],_,dg,f4,gl,by omega,by have:=cT.lt HO.o;omega⟩
  obtain⟨ks,pre,bb,ck,⟨⟨left,cu,cz⟩,dz,dx,fv,bu⟩,fc,ie,fl⟩:=hrel;gi_wp2_with (gi_at_next;refine wpListIn_next_ranges _ rfl _ rfl 109 ri (dE cZ 3) (λp:ByteArray×ByteArray=>aL #[.string p.1,.string p.2]) (λc:Int=>Value.int aR c) (λkey kl cp=>by obtain⟨x,y,rfl,_⟩:=Dg cp;exact⟨(x,y),rfl⟩) (λv y hv=>by obtain⟨c,rfl,_⟩:=eX dK hv;exact⟨c,rfl⟩) b r A C left bb rfl cu ?_ ?_);{intro _ f5;have Qd:Hid (∃E:List (ByteArray×ByteArray),E.Nodup/\(∀x y,(x,y)∈E↔(x.size<=dA/\y.size<=dA/\(M ⟨a.j,x,y⟩).isSome=true))/\aD E<=A/\pre.map (·.1)=E.filterMap (λk=>gK put a k.1 k.2)):=by{refine⟨ks,dz,λx y=>⟨λh=>?_,λh=>?_⟩,by omega,bu⟩;{obtain⟨k1,k2⟩:=dx _ h;refine⟨k1,k2,?_⟩;rw[<-(HQ.o x y k1 k2).1];exact ((cz x y k1 k2).1 h).1};obtain⟨k1,k2,k3⟩:=h;exact (cz x y k1 k2).2 ⟨by rw[(HQ.o x y k1 k2).1];exact k3,f5 _⟩};gi_wp2;go_end0;exact⟨⟨_,rfl⟩,aS ⟨pre,Qd.o,ck⟩⟩};intro x y c kl d ps w' ax cp fa hv ci c7 ae cw Qma i8;obtain⟨x',y',fm,rfl,hx,hy⟩:=Dg cp;obtain⟨rfl,rfl⟩:x=x'/\y=y':=by{simpa [qB] using fm};have Qh6:∃o:Obj,wr.heap[r]?=aX o/\o.isCells=false:=by{obtain⟨es,clock,ay,b8,c0,_,_,_,_,h5,_⟩:=cu;exact⟨_,h5,rfl⟩};have fr:J pre w':=HJ.o _ _ _ (aX r) ck cw (λr' e=>by cases e;exact⟨cW _,Qh6⟩);have dw:rF Bm Ba Bp B ah a (aJ ta (aD a.d) tc) put w':=fc.o (λk c t _ hk=>qn cw (λr' e=>by cases e;exact Qh6) k c t _ hk);have ct:Hid (∀O,Cs 157 #[aL #[.string put.g,.string put.h,.string put.i,.string put.j,.string put.o,.string put.q],aL #[.string a.j,aJ ta (aD a.d) tc],aL #[.string x,.string y]] (w'.alloc O) λe W1=>e=aQ (uV (gK put a x y))/\dB (w'.alloc O).heap.size (w'.alloc O) W1):=λO=>DV put a _ ah x y _ (dw.f ((bB _ w').l zl O)).h bd HNm.o;have G:∀O,_:=λO=>(dw.f ((bB _ w').l zl O)).i;have k1:=λO=>(G O).1;have k2:=λO=>(G O).2.1;have k3:=λO=>(G O).2.2.1;have k4:=λO=>(G O).2.2.2.1;have k5:=λO=>(G O).2.2.2.2.1;have k6:=λO=>(G O).2.2.2.2.2.1;have k7:=λO=>(G O).2.2.2.2.2.2.1;have k8:=λO=>(G O).2.2.2.2.2.2.2;have bf:Hid (∀O W1 z,dB (w'.alloc O).heap.size (w'.alloc O) W1->∀W2,qr m (W1.alloc z) W2->wj b r A C put a W2 (ks++[(x,y)]) (pre.map (·.1)++(gK put a x y).toList) ax/\rF Bm Ba Bp B ah a (aJ ta (aD a.d) tc) put W2/\r+1<=W2.heap.size):=by{intro O W1 z hb W2 hk;have cq:dB w'.heap.size w' (W1.alloc z):=(((bB _ w').l zl O).t (hb.m (by simp))).l (by have:=hb.s;simp at this;omega) _;have cl:=EM c7 (cq.b b (by omega)) (cq.b r (by omega));refine⟨wj.d cz dz dx fv bu hx hy fa ci cl ae ?_ ?_,(dw.f cq).o hk.i,by have:=cq.s;have:=hk.f.size;omega⟩;{obtain⟨es,clock,ay,b8,c0,h1,_⟩:=cl;rw[h1];exact hk.j _ _ _ h1};obtain⟨es,clock,ay,b8,c0,_,_,_,_,h5,_⟩:=cl;rw[h5];exact hk.f.same _ _ (by omega) h5 rfl};have g3:aD pre<A:=by{have h1:=EK (put:=put) (a:=a) (ks:=ks);have h2:aD pre=aD (ks.filterMap (λk=>gK put a k.1 k.2)):=by{rw[<-bu];simp};omega};have f0:Hid (∀O W1 z,dB (w'.alloc O).heap.size (w'.alloc O) W1->J pre (W1.alloc z)):=by{intro O W1 z hb;have cq:dB w'.heap.size w' (W1.alloc z):=(((bB _ w').l zl O).t (hb.m (by simp))).l (by have:=hb.s;simp at this;omega) _;exact HJ.o _ _ _ aY fr (qi cq) (λr' e=>by cases e)};have e7:dI C (kT x y)=true:=by
   cases hh:dI C (kT x y) with
   |true=>rfl
   |false=>have e1:=ci (.lit (.int aR 0));have e2:=ci (.lit (.int aR 1));rw[dJ hh] at e1 e2;rw[<-e2] at e1;cases e1
  have Qip:=HMs.o x y hx hy (by rw[<-(HQ.o x y hx hy).1];exact e7);have Qos:Hid (∀p,gK put a x y=aX p->∀k,(p.f k).size<=sz):=λp hp=>
   Cu _ _ _ Qm9.o (λq hq=>⟨HNm.o _ (cR hq).1,by
    have:=(cR hq).2;simp at this;rcases this with h|h<;>rw[h]
    .exact Qip.1
    .exact Qip.2⟩) hp
  clear e7 Qip;have Qf1:Hid (wr.rangeLeft b r=bb):=cu.left_eq;clear G ck cu fc dw fr c7 cz dz dx bu Qh6 cp hv ci fm cw ie;cases hm1:gK put a x y with
  |none=>rw[hm1] at ct bf;unfold uV fD.v Ql fD.c at ct;gi_wp2_with (refine⟨trivial,?_⟩;gi_at_call 157;refine (dV.2 (ct.o _)).mono ?_;rintro e W1 ⟨rfl,ab⟩);refine⟨λf h=>(by cases h),?_⟩;gi_wp2;obtain⟨s1,s2,s3⟩:=bf.o _ W1 _ ab _ (qr.d zr);refine⟨⟨_,pre,ax,f0.o _ W1 _ ab,by simpa using s1,s2,s3,fl⟩,?_⟩;obtain⟨c9,cl,_⟩:=s1.f;rw[cl.left_eq,Qf1.o];exact ae
  |some p=>rw[hm1] at ct bf;have dr:=Qos.o p hm1;have Qaq:Hid (∀O W1 z,dB (w'.alloc O).heap.size (w'.alloc O) W1->YieldAt dQ (n-1) cZ l #[p.v] (W1.alloc z) λe W'=>(e=aQ (aM true)/\J (pre++[⟨p,dr⟩]) W'/\qr m (W1.alloc z) W')\/(e=aQ (aM false)/\Jx (pre++[⟨p,dr⟩]) W'/\dF m (W1.alloc z) W')):=λO W1 z hb=>HY.o pre ⟨p,dr⟩ _ (f0.o O W1 z hb) g3;unfold uV fD.v fD.c at ct;unfold fD.v fD.c at Qaq;gi_wp2_with (first|(refine⟨trivial,?_⟩;gi_at_call 157;refine (dV.2 (ct.o _)).mono ?_;rintro e W1 ⟨rfl,ab⟩;obtain⟨it,f2,assign2,body2,fk,eh⟩:=Qaq.o _ W1 (aP #[.string p.g,.string p.h,.string p.i,.string p.j,.string p.o,.string p.q] 176) ab));refine eh.mono ?_;rintro e W3 (⟨rfl,il,g9⟩|⟨rfl,ek,_⟩);{clear fk eh;gi_wp2;obtain⟨s1,s2,s3⟩:=bf.o _ W1 _ ab W3 g9;refine⟨⟨_,pre++[⟨p,dr⟩],ax,il,by rw[List.map_append];exact s1,s2,s3,fl⟩,?_⟩;obtain⟨c9,cl,_⟩:=s1.f;rw[cl.left_eq,Qf1.o];exact ae};clear fk eh;gi_wp2;refine dO (eT rfl _ _ _) rfl ?_;exact⟨⟨_,rfl⟩,aU ⟨_,trivial,ek⟩⟩
def Gz(sz:Nat)(n:Nat)(Bm Ba Bp B z ah:Nat)(M:Gd->Option Int)(a:Am)(va:Vq)(put:fD)(w:Wq)(hm:w.heap[Bm]?=cC #[.map (aX B)] 98)(ha:w.heap[Ba]?=cC #[aK a.j,va] 92)(hp:w.heap[Bp]?=aX (aP put.c 176))(O:gH w B z M)(hS:Qg w ah va a.d)(C:aD a.d<=2)(A:∀t∈a.d,t.d<6)(hrel:a.j.size<=dA)(E:∀k,(put.f k).size<=sz)(G:∀x y,x.size<=dA->y.size<=dA->(M ⟨a.j,x,y⟩).isSome=true->x.size<=sz/\y.size<=sz)(m:Nat):iW m n 156 #[Pt Bm,Pt Ba,Pt Bp] (λp:yb sz=>#[p.1.v]) (qr m)
   (λys=>∃ks:List (ByteArray×ByteArray),ks.Nodup/\(∀x y,(x,y)∈ks↔(x.size<=dA/\y.size<=dA/\(M ⟨a.j,x,y⟩).isSome=true))/\aD ks<=z/\ys.map (·.1)=ks.filterMap (λk=>gK put a k.1 k.2)) (λ_=>True) z w:=
 iW.c (IB sz 4 zl Bm Ba Bp B z ah M a va put w hm ha hp O hS C A hrel E G m) n
def OX(n:Nat)(Bm Ba Bp B z ah:Nat)(M:Gd->Option Int)(a:Am)(va:Vq)(put:fD)(w:Wq)(hm:w.heap[Bm]?=cC #[.map (aX B)] 98)(ha:w.heap[Ba]?=cC #[aK a.j,va] 92)(hp:w.heap[Bp]?=aX (aP put.c 176))(G:gH w B z M)(O:Qg w ah va a.d)(C:aD a.d<=2)(A:∀t∈a.d,t.d<6)(hrel:a.j.size<=dA)(E:∀k,(put.f k).size<=dA)(m:Nat):iW m n 156 #[Pt Bm,Pt Ba,Pt Bp] (λp:wz=>#[p.1.v]) (qr m)
   (λys=>∃ks:List (ByteArray×ByteArray),ks.Nodup/\(∀x y,(x,y)∈ks↔(x.size<=dA/\y.size<=dA/\(M ⟨a.j,x,y⟩).isSome=true))/\aD ks<=z/\ys.map (·.1)=ks.filterMap (λk=>gK put a k.1 k.2)) (λ_=>True) z w:=
 Gz dA n Bm Ba Bp B z ah M a va put w hm ha hp G O C A hrel E (λx y hx hy _=>⟨hx,hy⟩) m
