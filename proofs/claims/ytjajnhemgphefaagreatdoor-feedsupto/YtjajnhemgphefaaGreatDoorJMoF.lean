/- A part -/
import Derived.Maps.OwnSet
import Derived.Maps.RangeWalk
import Derived.DeepKeys4
import Derived.Test.YtjajnhemgphefaaGreatDoorJMoC
import Derived.Test.YtjajnhemgphefaaGreatDoorJTxt
import Derived.Maps.OwnIn
import Derived.Sort.MapsRangeIn
set_option linter.all false
set_option maxRecDepth 100000
set_option maxHeartbeats 4000000
open List renaming length->aB,append_toArray->bC,size_toArray->bD,push_toArray->bE,length_cons->bH,cons_append->bI,range_succ->bJ,length_nil->bL,nil_append->bO,of_mem_zip->bQ,nodup_nil->bT
open Go.World renaming cell?->aC,size_alloc->bF,ownsMap->bZ
open Go.Value renaming slice->aH,string->aI,agg->aJ,bool->aK,tuple->aL,formed->cA,cells->cD
open Go.Obj renaming cells->aN,map->aY
open Go.Ending renaming returned->aO
open Go.IntKind renaming i64->aP
open Or renaming inl->aQ,inr->aR
open Option renaming some->aV,none->aW
open Go.RowKit.Below renaming refl->aX,heap_alloc->bG
open Array renaming replicate_succ->aZ,replicate_zero->bB
open Nat renaming reduceAdd->bU,reduceSub->bX
open Go.Proofs.Tryz renaming prog->cE,underlying174->cF,underlying109->cG,underlying3->cJ,underlying9->cP,zeroValue3->cQ
open Go.Maps renaming has->cH,atKey_of_not_has->cI,atKey_put_same->cT,atKey_put_other->cW,has_put_other->cX
open Go.RowKit renaming Below->cL
open Go.Instr renaming lookup->cM
open Go renaming DataW->cO,grownBy_putObj'->cR,wpList_mapUpdate_own->cS,TypeId->cZ
open Go.Program renaming keyLits->cU
namespace Go.Proofs.YtjajnhemgphefaaGreatDoor
open Go renaming World->Wq,Value->Vq
open Go.RowKit Go.Shelf Go.Maps
variable {W W' A:Wq} {B b n' m aj Bm Ba Bp aa:Nat} {M:Gd->Option Int} {D:cO Vq} {x y r x' y':ByteArray} {g:Gd} {e:Int} {left:Lit->Bool} {a:Am} {va:Vq} {ks:List (ByteArray×ByteArray)}
theorem sq:Keyed cE 9:=string_keyed cP
theorem Jk:laidOutB cE=true:=by kernel_rfl
theorem lH:Keyed cE 109:=Keyed.of_law (deep_law_laid Jk (m:=5) (by decide) (of_decide_eq_true (by kernel_rfl)) (by kernel_rfl) (by kernel_rfl))
def kS(s:ByteArray):Lit:=.string s.data.toList
def kT(x y:ByteArray):Lit:=.string (keyBytes [.string x.data.toList,.string y.data.toList])
def lC(x y:ByteArray):Vq:=aJ #[aI x,aI y]
theorem rR(s:ByteArray)(h:s.size<=maxLen):keyOf cE 9 (aI s)=aV (kS s):=WideMaps.keyOf_string_mk cP h
theorem BE:Tryz.prog.keyType 109=true:=by kernel_rfl
theorem yO:∃d,Tryz.prog.types.size=d+1:=by simp_all
theorem td:Tryz.prog.cellsOf 109=2:=by kernel_rfl
theorem xz:Tryz.prog.cellsOf 9=1:=by kernel_rfl
theorem nQ(x y:ByteArray)(A:x.size<=maxLen)(C:y.size<=maxLen):keyOf cE 109 (lC x y)=aV (kT x y):=by
 have⟨d,hd⟩:=yO;have z:(lC x y).formed cE 109=true:=by simp[lC,cA,cG,td]
 unfold keyOf;rw[cG];simp only[BE,z,Bool.and_self,if_true,hd];simp[cU,cG,cP,td,xz,lC,cD,A,C,kT,bJ]
def RV(v:Vq):Option (cO Vq×List MemPlace):=aV (.held v,[])
def qL(W:Wq)(b n:Nat)(rel:ByteArray)(M:Gd->Option Int):Prop:=
 ∃Di:cO Vq,W.ownsMap cE 109 (plainElem cE 3) b n Di/\
  ∀x y:ByteArray,x.size<=maxLen->y.size<=maxLen->cH Di (kT x y)=(M ⟨rel,x,y⟩).isSome/\Di.atKey (kT x y) (.lit (.int aP 0))=.lit (.int aP ((M ⟨rel,x,y⟩).getD 0))
def eT(W:Wq)(B n:Nat)(M:Gd->Option Int):Prop:=
 ∃(D:cO Vq) (blk:ByteArray->Option Nat),W.ownsMap cE 9 RV B n D/\
  (∀rel:ByteArray,rel.size<=maxLen->
   (blk rel=aW->cH D (kS rel)=false/\∀x y,M ⟨rel,x,y⟩=aW)/\
   (∀b,blk rel=aV b->cH D (kS rel)=true/\D.atKey (kS rel) (.held (.map aW))=.held (.map (aV b))/\b≠B/\qL W b n rel M))/\
  (∀r1 r2 b,blk r1=aV b->blk r2=aV b->r1=r2)/\(∀r b,blk r=aV b->r.size<=maxLen)
theorem eT.kept{n:Nat}(h:eT W B n M)(hk:∀(k:Nat) (d:Array MapEntry) (c:Nat),W.heap[k]?=aV (aY d c)->W'.heap[k]?=aV (aY d c)):eT W' B n M:=by
 have E:∀{k:cZ} {R:Vq->Option (cO Vq×List MemPlace)} {b n:Nat} {D:cO Vq},W.ownsMap cE k R b n D->W'.ownsMap cE k R b n D:=by rintro k R b n D ⟨d,c,A,z,C,O⟩;exact⟨d,c,hk _ _ _ A,z,C,O⟩
 have⟨D,blk,A,z,C⟩:=h;refine⟨D,blk,E A,λrel G=>⟨(z rel G).1,λb Z=>?_⟩,C⟩;have⟨a1,a2,a3,Di,a4,a5⟩:=(z rel G).2 b Z;exact⟨a1,a2,a3,Di,E a4,a5⟩
theorem eT.below{n:Nat}(h:eT W B n M)(z:cL W.heap.size W W'):eT W' B n M:=
 h.kept (λk A c d=>(z.block k (zg d).1).trans d)
theorem tS{n:Nat}(h:W.ownsMap cE 9 RV B n D)(rel:ByteArray)(E:rel.size<=maxLen):∃d,(cM 98 (.map (aV B)) (.string rel) false).run cE W=.ok d W/\D.atKey (kS rel) (.held (.map aW))=.held d:=by
 obtain⟨O,clock,C,F,_,rfl⟩:=h;rcases Maps.fit_look false sq Tryz.underlying98 (Tryz.zeroValue174 W) C F (rR rel E) with⟨A,_,z⟩|⟨M,y,_,_,A,G,z,_⟩
 .grind
 .grind [RV]
theorem eT.look{n:Nat}(h:eT W B n M)(g:Gd)(z:g.rel.size<=maxLen)(E:g.x.size<=maxLen)(G:g.y.size<=maxLen):∃A,(cM 98 (.map (aV B)) (.string g.rel) false).run cE W=.ok (.map A) W/\
   (cM 174 (.map A) (lC g.x g.y) true).run cE W=.ok (aL #[.int aP ((M g).getD 0),aK (M g).isSome]) W/\
   (cM 174 (.map A) (lC g.x g.y) false).run cE W=.ok (.int aP ((M g).getD 0)) W:=by
 have⟨D,blk,h1,h2,h3⟩:=h;have⟨mv,e1,e2⟩:=tS h1 g.rel z;have d:=nQ g.x g.y E G
 cases hbk:blk g.rel with
 |none=>
  have⟨a1,a2⟩:=(h2 g.rel z).1 hbk;have Z:D.atKey (kS g.rel) (.held (.map aW))=.held (.map aW):=cI a1 _;rw[Z] at e2;cases e2;have C:M g=none:=a2 g.x g.y;refine⟨aW,e1,?_,?_⟩;{have:=Maps.look_nil (w:=W) true lH cF (cQ W) d;rw[C];exact this};{have:=Maps.look_nil (w:=W) false lH cF (cQ W) d;rw[C];exact this}
 |some b=>
  have⟨a1,a2,a3,Di,a4,a5⟩:=(h2 g.rel z).2 b hbk;rw[a2] at e2;cases e2;have⟨k1,k2⟩:=a5 g.x g.y E G;refine⟨aV b,e1,?_,?_⟩;{have⟨v,ps,q1,q2⟩:=a4.look_ok lH cF (cQ W) (zd:=.lit (.int aP 0)) (zp:=[]) (plainElem_int cJ (by decide)) d;rw[k2] at q2;obtain⟨c,rfl,O,_⟩:=plainElem_int_inv cJ q2;cases O;rw[k1] at q1;exact q1};{have⟨c,q1,q2,q3⟩:=a4.lookup_int lH cF cJ (cQ W) d;rw[k2] at q2;cases q2;exact q1}
structure jl(g:Gd):Prop where
 rel:g.rel.size<=maxLen
 x:g.x.size<=maxLen
 y:g.y.size<=maxLen
theorem wt(B n:Nat)(M:Gd->Option Int)(g:Gd)(d:jl g)(w:Wq)(A:eT w B n M):Cs 136 #[.map (aV B),g.v] w λe w'=>e=aO (aK (M g).isSome)/\cL w.heap.size w w':=by have z:∀O,∃C,_:=λO=>(A.below ((aX _ w).alloc zl O)).look g d.rel d.x d.y;unfold Gd.v Gd.c;unfold lC at z;have⟨C,l1,l2,l3⟩:=z (aN #[aI g.rel,aI g.x,aI g.y] 111);clear z A;go_enter Tryz.func136,Tryz.ntmps136;go_wp2;go_ret;exact⟨rfl,(aX _ w).alloc zl _⟩
structure ue(w w':Wq):Prop where
 os:w'.os=w.os
 tape:w'.tape=w.tape
 output:w'.output=w.output
 size:w.heap.size<=w'.heap.size
 block:∀(k:Nat) (o:Obj),w.heap[k]?=aV o->(∀es c,o≠aY es c)->w'.heap[k]?=aV o
theorem CT(w:Wq):(binOp .eql 174 (.map aW) (.map aW)).run cE w=.ok (aK true) w:=by kernel_rfl
theorem EB(b:Nat)(w:Wq):(binOp .eql 174 (.map (aV b)) (.map aW)).run cE w=.ok (aK false) w:=by kernel_rfl
def fJ(M:Gd->Option Int)(g:Gd)(e:Int):Gd->Option Int:=λh=>if h.rel=g.rel/\h.x=g.x/\h.y=g.y then aV e else M h
theorem nJ(h:x.data.toList=y.data.toList):x=y:=by
 cases x;cases y
 simp only[ByteArray.mk.injEq];exact Array.toList_inj.1 h
theorem E6{s:ByteArray}(h:kS r=kS s):r=s:=by grind [kS,nJ]
theorem B4(G:x.size<=maxLen)(M:y.size<=maxLen)(A:x'.size<=maxLen)(C:y'.size<=maxLen)(h:kT x y=kT x' y'):x=x'/\y=y':=by have d:=nQ x y G M;have E:=nQ x' y' A C;rw[h] at d;have z:=lH.inj d E;simp[lC] at z;exact z
theorem AJ(d:jl g){z:cO Vq}(G:IsMap z)(Q9:∀x y:ByteArray,x.size<=maxLen->y.size<=maxLen->cH z (kT x y)=(M ⟨g.rel,x,y⟩).isSome/\z.atKey (kT x y) (.lit (.int aP 0))=.lit (.int aP ((M ⟨g.rel,x,y⟩).getD 0))):∀x y:ByteArray,x.size<=maxLen->y.size<=maxLen->cH (z.put (kT g.x g.y) (.lit (.int aP e))) (kT x y)=(fJ M g e ⟨g.rel,x,y⟩).isSome/\(z.put (kT g.x g.y) (.lit (.int aP e))).atKey (kT x y) (.lit (.int aP 0))=.lit (.int aP ((fJ M g e ⟨g.rel,x,y⟩).getD 0)):=by
 intro x y O Z;by_cases h:x=g.x/\y=g.y
 .obtain⟨rfl,rfl⟩:=h;have C:fJ M g e ⟨g.rel,g.x,g.y⟩=aV e:=by{unfold fJ;simp};rw[C];exact⟨Maps.has_put_same G (lH.key (nQ _ _ d.x d.y)) _,cT G (lH.key (nQ _ _ d.x d.y)) _ _⟩
 .have C:fJ M g e ⟨g.rel,x,y⟩=M ⟨g.rel,x,y⟩:=by{unfold fJ;rw[if_neg (λA=>h A.2)]};have E:kT x y≠kT g.x g.y:=λA=>h (B4 O Z d.x d.y A);rw[C,cX E,cW E];exact Q9 x y O Z
theorem ut(h:r≠g.rel)(x y:ByteArray):fJ M g e ⟨r,x,y⟩=M ⟨r,x,y⟩:=by grind [fJ]
theorem yM{n:Nat}(h:qL W b n r M)(z:r≠g.rel)(d:W'.heap[b]?=W.heap[b]?)(E:n<=n'):qL W' b n' r (fJ M g e):=by have⟨Di,⟨es,c,h1,h2,h3,h4⟩,h5⟩:=h;refine⟨Di,⟨es,c,d.trans h1,h2,by omega,h4⟩,λx y A C=>?_⟩;rw[ut z];exact h5 x y A C
theorem qL.lt{n:Nat}(h:qL W b n r M):b<W.heap.size:=by have⟨Di,h1,_⟩:=h;exact h1.lt
def g9(lo:Nat)(W:Wq)(B n:Nat)(M:Gd->Option Int):Prop:=
 ∃(D:cO Vq) (blk:ByteArray->Option Nat),W.ownsMap cE 9 RV B n D/\
  (∀rel:ByteArray,rel.size<=maxLen->
   (blk rel=aW->cH D (kS rel)=false/\∀x y,M ⟨rel,x,y⟩=aW)/\
   (∀b,blk rel=aV b->cH D (kS rel)=true/\D.atKey (kS rel) (.held (.map aW))=.held (.map (aV b))/\b≠B/\qL W b n rel M))/\
  (∀r1 r2 b,blk r1=aV b->blk r2=aV b->r1=r2)/\(∀r b,blk r=aV b->r.size<=maxLen)/\lo<=B/\∀r b,blk r=aV b->lo<=b
theorem g9.at'{lo:Nat}{n:Nat}(h:g9 lo W B n M):eT W B n M:=by have⟨D,blk,h1,h2,h3,h4,_⟩:=h;exact⟨D,blk,h1,h2,h3,h4⟩
theorem g9.kept{lo:Nat}{n:Nat}(h:g9 lo W B n M)(hk:∀(k:Nat) (d:Array MapEntry) (c:Nat),W.heap[k]?=aV (aY d c)->W'.heap[k]?=aV (aY d c)):g9 lo W' B n M:=by
 have E:∀{k:cZ} {R:Vq->Option (cO Vq×List MemPlace)} {b n:Nat} {D:cO Vq},W.ownsMap cE k R b n D->W'.ownsMap cE k R b n D:=by rintro k R b n D ⟨d,c,A,z,C,O⟩;exact⟨d,c,hk _ _ _ A,z,C,O⟩
 have⟨D,blk,A,z,C⟩:=h;refine⟨D,blk,E A,λrel G=>⟨(z rel G).1,λb Z=>?_⟩,C⟩;have⟨a1,a2,a3,Di,a4,a5⟩:=(z rel G).2 b Z;exact⟨a1,a2,a3,Di,E a4,a5⟩
theorem eT.lo{n:Nat}(h:eT W B n M):g9 0 W B n M:=by have⟨D,blk,h1,h2,h3,h4⟩:=h;exact⟨D,blk,h1,h2,h3,h4,zz,λ_ _ _=>zz⟩
theorem g9.mono{lo n:Nat}(h:g9 lo W B n M)(d:n<=n'):g9 lo W B n' M:=by have⟨D,blk,h1,h2,h3⟩:=h;refine⟨D,blk,h1.mono d,λrel z=>⟨(h2 rel z).1,λb A=>?_⟩,h3⟩;have⟨a1,a2,a3,Di,a4,a5⟩:=(h2 rel z).2 b A;exact⟨a1,a2,a3,Di,a4.mono d,a5⟩
theorem Hr(lo B n:Nat)(M:Gd->Option Int)(g:Gd)(e:Int)(A:jl g)(w:Wq)(hM:g9 lo w B n M)(hn:n+5<maxLen)(he:(Lit.int aP e).wf=true):Cs 137 #[.map (aV B),aJ #[.string g.rel,.string g.x,.string g.y,.int aP e]] w λe' w'=>e'=aO (aL #[])/\g9 lo w' B (n+2) (fJ M g e)/\ue w w'/\cL lo w w':=by
 have hm:=@run_makeMap cE;have dp:=CT;have dl:=EB;have a6:=nQ g.x g.y A.x A.y;unfold lC at a6;have Qfz:=aA a6;have⟨D,blk,h1,h2,h3,h4,h5,h6⟩:=hM;have dc:B<w.heap.size:=h1.lt;have cg:IsMap D:=h1.isMap;have ch:∃C c,w.heap[B]?=aV (aY C c):=by have⟨C,c,h,_⟩:=h1;exact⟨C,c,h⟩
 have al:∀O,∃mv,(cM 98 (.map (aV B)) (.string g.rel) false).run cE (w.alloc O)=.ok mv (w.alloc O)/\D.atKey (kS g.rel) (.held (.map aW))=.held mv:=λO=>tS (h1.alloc O) g.rel A.rel;have cy:Hid (plainElem (H:=Vq) cE 3 (.int aP e)=aV (.lit (.int aP e),[])):=plainElem_int cJ he
 cases hbk:blk g.rel with
 |none=>
  have⟨a1,a2⟩:=(h2 g.rel A.rel).1 hbk;have hz:D.atKey (kS g.rel) (.held (.map aW))=.held (.map aW):=cI a1 _;have⟨mv,e1,e2⟩:=al (aN #[.string g.rel,.string g.x,.string g.y,.int aP e] 172);rw[hz] at e2;cases e2;obtain⟨W1,bk⟩:∃W1,(w.alloc (aN #[.string g.rel,.string g.x,.string g.y,.int aP e] 172)).alloc (.map #[] 0)=W1:=⟨_,rfl⟩;have ad:cL w.heap.size w W1:=by{rw[<-bk];exact ((aX _ w).alloc zl _).alloc (by simp) _};have hO:W1.ownsMap cE 9 RV B n D:=by{rw[<-bk];exact (h1.alloc _).alloc _};have hI:W1.ownsMap cE 109 (plainElem (H:=Vq) cE 3) (w.heap.size+1) 0 (.map []):=by{rw[<-bk];have:=World.ownsMap_made (H:=Vq) (w.alloc (aN #[.string g.rel,.string g.x,.string g.y,.int aP e] 172)) cE 109 (plainElem cE 3);rw[bF] at this;exact this};have hL:W1.heap[w.heap.size]?=cC #[.string g.rel,.string g.x,.string g.y,.int aP e] 172:=by{rw[<-bk];exact (bG _ _ _ (by simp)).trans (zn w _)};have dn:W1.heap.size=w.heap.size+2:=by rw[<-bk];simp
  have dg:Hid (∀w1,w1.ownsMap cE 9 RV B (n+1) (D.put (kS g.rel) (.held (.map (aV (w.heap.size+1)))))->W1.grownBy w1 (aV B)->
    (cM 98 (.map (aV B)) (.string g.rel) false).run cE w1=.ok (.map (aV (w.heap.size+1))) w1/\w1.heap[w.heap.size]?=cC #[.string g.rel,.string g.x,.string g.y,.int aP e] 172/\w1.ownsMap cE 109 (plainElem (H:=Vq) cE 3) (w.heap.size+1) 0 (.map [])):=by
   intro w1 ho bb;have⟨mv,q1,q2⟩:=tS ho g.rel A.rel;rw[cT cg (sq.key (rR _ A.rel))] at q2;cases q2;exact⟨q1,(bb.block _ (by omega) (by simp;omega)).trans hL,hI.kept bb (by simp;omega)⟩
  have Qf:Hid (∀w1 w2,w1.ownsMap cE 9 RV B (n+1) (D.put (kS g.rel) (.held (.map (aV (w.heap.size+1)))))->W1.grownBy w1 (aV B)->w2.ownsMap cE 109 (plainElem (H:=Vq) cE 3) (w.heap.size+1) (0+1) ((DataW.map []).put (kT g.x g.y) (.lit (.int aP e)))->w1.grownBy w2 (aV (w.heap.size+1))->g9 lo w2 B (n+2) (fJ M g e)/\ue w w2/\cL lo w w2):=by
   intro w1 w2 ho aq hi ab;have cn:=aq.size;have E:∀k:Nat,k<w.heap.size->k≠B->w2.heap[k]?=w.heap[k]?:=λk z aw=>((ab.block k (by omega) (by simp;omega)).trans (aq.block k (by omega) (by simp;omega))).trans (ad.block k z);refine⟨⟨D.put (kS g.rel) (.held (.map (aV (w.heap.size+1)))),λr=>if r=g.rel then aV (w.heap.size+1) else blk r,(ho.kept ab (by simp;omega)).mono (by omega),λr hr=>?_,?_,?_,h5,?_⟩,⟨?_,?_,?_,?_,?_⟩,⟨ab.os.trans (aq.os.trans ad.os),ab.tape.trans (aq.tape.trans ad.tape),ab.output.trans (aq.output.trans ad.output),by have:=ab.size;omega,λk z=>E k (by omega) (by omega)⟩⟩
   .by_cases ae:r=g.rel;{subst ae;simp only[if_true];refine⟨λh=>(by cases h),λb' d=>?_⟩;cases d;refine⟨Maps.has_put_same cg (sq.key (rR _ A.rel)) _,cT cg (sq.key (rR _ A.rel)) _ _,by omega,_,hi.mono (by omega),AJ A ⟨[],rfl⟩ (λx y hx hy=>?_)⟩;rw[a2 x y];exact⟨rfl,rfl⟩}
    .have aw:kS r≠kS g.rel:=λh=>ae (E6 h);simp only[if_neg ae];rw[cX aw,cW aw];refine⟨λh=>?_,λb' d=>?_⟩;{have⟨q1,q2⟩:=(h2 r hr).1 h;exact⟨q1,λx y=>by rw[ut ae];exact q2 x y⟩};{have⟨q1,q2,q3,q4⟩:=(h2 r hr).2 b' d;exact⟨q1,q2,q3,yM q4 ae (E b' q4.lt q3) (by omega)⟩}
   .intro r1 r2 b' G Z;simp only at G Z;have Qca:∀r,blk r≠aV (w.heap.size+1):=λr h=>by{have:=((h2 r (h4 r _ h)).2 _ h).2.2.2.lt;omega};by_cases bv:r1=g.rel
    .by_cases bd:r2=g.rel;{rw[bv,bd]};{rw[if_pos bv] at G;rw[if_neg bd] at Z;cases G;exact absurd Z (Qca r2)}
    .by_cases bd:r2=g.rel;{rw[if_neg bv] at G;rw[if_pos bd] at Z;cases Z;exact absurd G (Qca r1)};{rw[if_neg bv] at G;rw[if_neg bd] at Z;exact h3 r1 r2 b' G Z}
   .intro r b' d;by_cases ae:r=g.rel;{rw[ae];exact A.rel};{simp only[if_neg ae] at d;exact h4 r b' d}
   .intro r b' d;by_cases ae:r=g.rel;{simp only[if_pos ae] at d;cases d;omega};{simp only[if_neg ae] at d;exact h6 r b' d}
   .exact ab.os.trans (aq.os.trans ad.os)
   .exact ab.tape.trans (aq.tape.trans ad.tape)
   .exact ab.output.trans (aq.output.trans ad.output)
   .have:=ab.size;omega
   .intro k o z cc;have cj:=(zg z).1;rw[E k cj (λe'=>?_)];{exact z};{subst e';have⟨C,c,hB⟩:=ch;rw[hB] at z;cases z;exact cc C c rfl}
  have HO:=aA hO;clear al h1 h2 h3 h6 hz a1 a2 he hbk hO hI hL ad ch;go_enter Tryz.func137,Tryz.ntmps137
  go_wp2_with (first|(at_mapUpdate;refine cS _ rfl _ _ _ 98 rfl 9 174 sq Tryz.underlying98 RV B n D rfl HO.o (by omega) _ _ (kS g.rel) rfl rfl (rR _ A.rel) (.held (.map (aV (w.heap.size+1)))) [] rfl ?_;intro w1 au ak;have⟨s1,s2,s3⟩:=dg.o w1 au ak;have d0:aC w1 (Ad w.heap.size 0)=aV (.string g.rel):=(by simp[aC,s2]);have d1:aC w1 (Ad w.heap.size 1)=aV (.string g.x):=(by simp[aC,s2]);have d2:aC w1 (Ad w.heap.size 2)=aV (.string g.y):=(by simp[aC,s2]);have d3:aC w1 (Ad w.heap.size 3)=aV (.int aP e):=(by simp[aC,s2]))|(at_mapUpdate;refine cS _ rfl _ _ _ 174 rfl 109 3 lH cF (plainElem cE 3) (w.heap.size+1) 0 (.map []) rfl s3 (by omega) _ _ (kT g.x g.y) rfl rfl Qfz.o (.lit (.int aP e)) [] cy.o ?_;intro w2 ca ag)|go_in)
  go_end0
  exact⟨rfl,Qf.o w1 w2 au ak ca ag⟩
 |some b=>
  have⟨a1,a2,a3,Di,a4,a5⟩:=(h2 g.rel A.rel).2 b hbk;have⟨mv,e1,e2⟩:=al (aN #[.string g.rel,.string g.x,.string g.y,.int aP e] 172);rw[a2] at e2;cases e2;have dm:=a4.lt;have hI:(w.alloc (aN #[.string g.rel,.string g.x,.string g.y,.int aP e] 172)).ownsMap cE 109 (plainElem (H:=Vq) cE 3) b n Di:=a4.alloc _
  have Qf:Hid (∀w2,w2.ownsMap cE 109 (plainElem (H:=Vq) cE 3) b (n+1) (Di.put (kT g.x g.y) (.lit (.int aP e)))->(w.alloc (aN #[.string g.rel,.string g.x,.string g.y,.int aP e] 172)).grownBy w2 (aV b)->g9 lo w2 B (n+2) (fJ M g e)/\ue w w2/\cL lo w w2):=by
   intro w2 hi ab;have cn:=ab.size;rw[bF] at cn;have E:∀k:Nat,k<w.heap.size->k≠b->w2.heap[k]?=w.heap[k]?:=λk z aw=>(ab.block k (by simp;omega) (by simp;omega)).trans (bG _ _ _ z);have du:=h6 _ _ hbk;refine⟨⟨D,blk,?_,λr hr=>?_,h3,h4,h5,h6⟩,⟨ab.os,ab.tape,ab.output,by omega,?_⟩,⟨ab.os,ab.tape,ab.output,by omega,λk z=>E k (by omega) (by omega)⟩⟩;{have⟨C,c,q1,q2,q3,q4⟩:=h1;exact⟨C,c,(E B dc (λe'=>a3 e'.symm)).trans q1,q2,by omega,q4⟩}
   .by_cases ae:r=g.rel;{subst ae;refine⟨λh=>(by rw[hbk] at h;cases h),λb' d=>?_⟩;rw[hbk] at d;cases d;exact⟨a1,a2,a3,_,hi.mono (by omega),AJ A a4.isMap a5⟩}
    .refine⟨λh=>?_,λb' d=>?_⟩;{have⟨q1,q2⟩:=(h2 r hr).1 h;exact⟨q1,λx y=>by rw[ut ae];exact q2 x y⟩};{have⟨q1,q2,q3,q4⟩:=(h2 r hr).2 b' d;exact⟨q1,q2,q3,yM q4 ae (E b' q4.lt (λe'=>ae (h3 r g.rel b (e' ▸ d) hbk))) (by omega)⟩}
   .intro k o z cc;have cj:=(zg z).1;rw[E k cj (λe'=>?_)];{exact z};{subst e';have⟨C,c,hB,_⟩:=a4;rw[hB] at z;cases z;exact cc C c rfl}
  have HI:=aA hI;clear al h1 h2 h3 h6 a1 a2 a5 a4 he hbk hI ch;go_enter Tryz.func137,Tryz.ntmps137
  go_wp2_with (first|(at_mapUpdate;refine cS _ rfl _ _ _ 174 rfl 109 3 lH cF (plainElem cE 3) b n Di rfl HI.o (by omega) _ _ (kT g.x g.y) rfl rfl Qfz.o (.lit (.int aP e)) [] cy.o ?_;intro w2 ca ag)|go_in)
  go_end0
  exact⟨rfl,Qf.o w2 ca ag⟩
attribute [local go_sem] Oper.semAt_some
theorem xw(B:Nat)(a:Am)(va:Vq)(put:dF)(w:Wq)(z:Option Addr)(C A:Nat)(d:va=aH z C A):Cs 94 #[.map (aV B),aJ #[aI a.rel,va],put.v] w λe w'=>e=aO (.func (.func 156) #[] #[Pt w.heap.size,Pt (w.heap.size+1),Pt (w.heap.size+2)])/\
   w'=((w.alloc (aN #[.map (aV B)] 98)).alloc (aN #[aI a.rel,va] 92)).alloc (aN put.c 176):=by
 subst d;unfold dF.v dF.c;go_enter Tryz.func94,Tryz.ntmps94;go_wp2;go_ret;exact⟨rfl,rfl⟩
def eF(t:cZ):Prop:=t≠9/\t≠22/\t≠172/\t≠169
structure qr(m:Nat)(W W':Wq):Prop where
 cells:∀(k:Nat) (c:Array Vq) (t:cZ),eF t->W.heap[k]?=cC c t->W'.heap[k]?=cC c t
 maps:∀(k:Nat) (es:Array MapEntry) (c:Nat),W.heap[k]?=aV (aY es c)->W'.heap[k]?=aV (aY es c)
 from':KeepsFrom m W W'
theorem qr.tr{B C:Wq}(h:qr m A B)(k:qr m B C):qr m A C:=⟨λi c t E d=>k.cells i c t E (h.cells i c t E d),λi z c d=>k.maps i z c (h.maps i z c d),KeepsFrom.tr h.from' k.from'⟩
theorem qr.ofBelow(h:cL W.heap.size W W'):qr m W W':=⟨λk c t _ d=>(h.block k (zg d).1).trans d,λk z c d=>(h.block k (zg d).1).trans d,KeepsFrom.ofBelow h⟩
theorem qr.put(W:Wq)(l:Nat)(o z:Obj)(M:l<m)(h:W.heap[l]?=aV o)(G:o.isCells=false)(E:∀A c,o≠aY A c):qr m W (W.putObj l z):=
 ⟨λk c t _ d=>qm (cR W l z) (λr e=>by cases e;exact⟨_,h,G⟩) k c _ _ d,
  λk A c d=>((cR W l z).block k (zg d).1 (λe=>by cases e;rw[h] at d;cases d;exact E _ _ rfl)).trans d,
  (cR W l z).size,λk x d C _=>((cR W l z).block k (zg C).1 (by simp;omega)).trans C⟩
theorem qr.up{d:Nat}{B:Wq}(h:qr m A B)(z:m<=d):qr d A B:=⟨h.cells,h.maps,KeepsFrom.up h.from' z⟩
theorem Qh.mk{v:Vq}{l:List Tm}(h:Qh W b v l)(z:qr m W W'):Qh W' b v l:=by refine h.kept (λk c _ d=>z.cells k c _ (by unfold eF;decide) d)
theorem eT.mk{n:Nat}(h:eT W B n M)(d:qr m W W'):eT W' B n M:=h.kept d.maps
theorem zL{k:cZ}{R:Vq->Option (cO Vq×List MemPlace)}{r n:Nat}(h:W.ranges cE k R b r n D left aj)(d:W'.heap[b]?=W.heap[b]?)(z:W'.heap[r]?=W.heap[r]?):W'.ranges cE k R b r n D left aj:=by have⟨es,clock,ai,an,c0,h1,h2,h3,h4,h5,h6⟩:=h;exact⟨es,clock,ai,an,c0,d.trans h1,h2,h3,h4,z.trans h5,h6⟩
theorem Cy{v:Vq}(h:v.formed cE 109=true):∃a b,v=aJ #[a,b]:=by
 unfold cA at h
 rewrite [cG] at h
 cases v<;>simp at h
 rename_i xs
 rewrite [td] at h
 have⟨l⟩:=xs
 match l,h with
 |[a,b],_=>exact⟨a,b,rfl⟩
 |[],h=>simp at h
 |[a],h=>simp at h
 |a::b::c::l,h=>simp at h
theorem yd{d:Nat}{v:Vq}{r:List Lit}(h:Tryz.prog.keyLits (d+1) 9 [v]=aV r):∃s:ByteArray,v=.string s/\r=[.string s.data.toList]/\s.size<=maxLen:=by
 unfold cU at h
 rewrite [cP] at h
 cases v<;>simp at h
 have⟨h1,h2⟩:=h;exact⟨_,rfl,h2.symm,h1⟩
theorem yu{v:Vq}{l:Lit}(h:keyOf cE 109 v=aV l):∃x y,v=lC x y/\l=kT x y/\x.size<=maxLen/\y.size<=maxLen:=by
 have⟨d,hd⟩:=yO;have C:=h;unfold keyOf at h
 rewrite [cG] at h
 simp only[BE,Bool.true_and,hd] at h;split at h
 .rename_i E;obtain⟨a,b,rfl⟩:=Cy E
  have G:∃x y:ByteArray,a=.string x/\b=.string y/\x.size<=maxLen/\y.size<=maxLen:=by
   unfold cU at h
   rewrite [cG] at h
   simp only[td,xz,cD] at h;simp[bJ] at h
   cases ha:Tryz.prog.keyLits (d+1) 9 [a] with
   |none=>rw[ha] at h;simp at h
   |some ra=>
    rw[ha] at h
    cases hb:Tryz.prog.keyLits (d+1) 9 [b] with
    |none=>rw[hb] at h;simp at h
    |some rb=>obtain⟨x,rfl,_,z⟩:=yd ha;obtain⟨y,rfl,_,A⟩:=yd hb;exact⟨x,y,rfl,rfl,z,A⟩
  obtain⟨x,y,rfl,rfl,z,A⟩:=G;have:=nQ x y z A;unfold lC at this
  rewrite [this] at C
  cases C;exact⟨x,y,rfl,rfl,z,A⟩
 .cases h
structure lx(Bm Ba Bp B aa:Nat)(a:Am)(va:Vq)(put:dF)(W:Wq):Prop where
 bm:W.heap[Bm]?=cC #[.map (aV B)] 98
 ba:W.heap[Ba]?=cC #[aI a.rel,va] 92
 bp:W.heap[Bp]?=aV (aN put.c 176)
 sl:Qh W aa va a.args
theorem lx.kept{put:dF}(h:lx Bm Ba Bp B aa a va put W)(d:∀(k:Nat) (c:Array Vq) (t:cZ),eF t->W.heap[k]?=cC c t->W'.heap[k]?=cC c t):lx Bm Ba Bp B aa a va put W':=
 ⟨d _ _ _ (by unfold eF;decide) h.bm,d _ _ _ (by unfold eF;decide) h.ba,d _ _ _ (by unfold eF;decide) h.bp,h.sl.kept (λk c _ z=>d k c _ (by unfold eF;decide) z)⟩
theorem lx.below{put:dF}(h:lx Bm Ba Bp B aa a va put W)(z:cL W.heap.size W W'):lx Bm Ba Bp B aa a va put W':=
 h.kept (λk c t _ d=>(z.block k (zg d).1).trans d)
theorem lx.cells{put:dF}(h:lx Bm Ba Bp B aa a va put W):aC W (Ad Ba 0)=aV (aI a.rel)/\aC W (Ad Ba 1)=aV va/\aC W (Ad Bp 0)=aV (aI put.a0)/\aC W (Ad Bp 1)=aV (aI put.a1)/\aC W (Ad Bp 2)=aV (aI put.a2)/\aC W (Ad Bp 3)=aV (aI put.a3)/\aC W (Ad Bp 4)=aV (aI put.a4)/\aC W (Ad Bp 5)=aV (aI put.a5):=by have z:=h.ba;have d:=h.bp;unfold dF.c at d;simp[aC,z,d]
structure qU(b r nn:Nat)(Di:cO Vq)(put:dF)(a:Am)(W:Wq)(ks:List (ByteArray×ByteArray))(ys:List dF)(aj:Nat):Prop where
 rg:∃left,W.ranges cE 109 (plainElem cE 3) b r nn Di left aj/\∀x y:ByteArray,x.size<=maxLen->y.size<=maxLen->((x,y)∈ks↔cH Di (kT x y)=true/\left (kT x y)=false)
 nodup:ks.Nodup
 sizes:∀k∈ks,k.1.size<=maxLen/\k.2.size<=maxLen
 few:aB ks+aj<=nn
 out:ys=ks.filterMap (λk=>Q6 put a k.1 k.2)
theorem yV{put:dF}:aB (ks.filterMap (λk=>Q6 put a k.1 k.2))<=aB ks:=List.length_filterMap_le _ _
theorem vz{c:Nat}:∀(l:List (Tm×ByteArray)) (n m:dF),(∀k,(n.get k).size<=c)->(∀p∈l,p.1.num<6/\p.2.size<=c)->fX n l=aV m->∀k,(m.get k).size<=c
 |[],n,m,hn,_,h=>by grind [fX]
 |p::l,n,m,hn,hl,h=>by
  simp only[fX] at h
  cases hs:il n p.1 p.2 with
  |none=>rw[hs] at h;cases h
  |some n'=>
   rw[hs] at h;refine vz l n' m ?_ (λq d=>hl q (zt d)) h;have⟨h6,hz⟩:=hl p zs;unfold il at hs;split at hs;{grind [jL,dF.get_set]};{cases hs}
theorem Fu(d:x.size<=maxLen)(z:y.size<=maxLen)(A:x'.size<=maxLen)(C:y'.size<=maxLen):(kT x' y').sameKey (kT x y)=decide (x'=x/\y'=y):=by rw[Bool.eq_iff_iff,WideAt.sameKey_iff (lH.key (nQ x y d z)),decide_eq_true_iff];exact⟨λh=>B4 A C d z h,by rintro⟨rfl,rfl⟩;rfl⟩
theorem qU.step{r E:Nat}{A:cO Vq}{put:dF}{G:List dF}{C:Nat}{d:cO Vq}(bi:∀x y:ByteArray,x.size<=maxLen->y.size<=maxLen->((x,y)∈ks↔cH A (kT x y)=true/\left (kT x y)=false))(b7:ks.Nodup)(b5:∀k∈ks,k.1.size<=maxLen/\k.2.size<=maxLen)(cp:aB ks+aj<=E)(al:G=ks.filterMap (λk=>Q6 put a k.1 k.2))(hx:x.size<=maxLen)(hy:y.size<=maxLen)(co:left (kT x y)=true)(O:∀zd,A.atKey (kT x y) zd=d)(M:W.ranges cE 109 (plainElem cE 3) b r E A (λz=>left z && !z.sameKey (kT x y)) C)(b0:C<aj)(hb:W'.heap[b]?=W.heap[b]?)(hr:W'.heap[r]?=W.heap[r]?):qU b r E A put a W' (ks++[(x,y)]) (G++(Q6 put a x y).toList) C:=by
 refine⟨⟨_,zL M hb hr,λx' y' Z bq=>?_⟩,?_,?_,by simp;omega,?_⟩
 .rw[Fu hx hy Z bq];by_cases h:x'=x/\y'=y;{obtain⟨rfl,rfl⟩:=h;simp[Maps.has_true_of_atKey O]};{grind}
 .grind
 .grind
 .grind
def sr(c:Nat):={p:dF // ∀k,(p.get k).size<=c}
abbrev qO:=sr maxLen
theorem IZ(sz:Nat)(n:Nat)(hn:4<=n)(Bm Ba Bp B A aa:Nat)(M:Gd->Option Int)(a:Am)(va:Vq)(put:dF)(w:Wq)(hm:w.heap[Bm]?=cC #[.map (aV B)] 98)(ha:w.heap[Ba]?=cC #[.string a.rel,va] 92)(hp:w.heap[Bp]?=aV (aN put.c 176))(hM:eT w B A M)(hS:Qh w aa va a.args)(bh:aB a.args<=2)(az:∀t∈a.args,t.num<6)(hrel:a.rel.size<=maxLen)(ax:∀k,(put.get k).size<=sz)(bu:∀x y,x.size<=maxLen->y.size<=maxLen->(M ⟨a.rel,x,y⟩).isSome=true->x.size<=sz/\y.size<=sz)(m:Nat):fW m n 156 #[.pointer (aV ⟨Bm,0,aW⟩),.pointer (aV ⟨Ba,0,aW⟩),.pointer (aV ⟨Bp,0,aW⟩)] (λp:sr sz=>#[p.1.v]) (qr m)
   (λys=>∃ks:List (ByteArray×ByteArray),ks.Nodup/\(∀x y,(x,y)∈ks↔(x.size<=maxLen/\y.size<=maxLen/\(M ⟨a.rel,x,y⟩).isSome=true))/\aB ks<=A/\ys.map (·.1)=ks.filterMap (λk=>Q6 put a k.1 k.2)) (λ_=>True) A w:=by
 intro l J Jx W hW c8 hJ c3 hY h0;have bc:qr m w W:=qr.ofBelow hW;have cb:=bc.cells _ _ _ (by unfold eF;decide) hm;have ck:=bc.cells _ _ _ (by unfold eF;decide) ha;have cl:=bc.cells _ _ _ (by unfold eF;decide) hp;have c9:=hM.mk bc;have b6:=hS.mk bc;clear hm ha hp hM hS bc hW;obtain⟨ta,tc,ce⟩:=b6.form;subst ce;have c0:aC W (Ad Bm 0)=aV (.map (aV B)):=zc cb;have c1:aC W (Ad Ba 0)=aV (.string a.rel):=zc ck;obtain⟨D,blk,o1,o2,o3,o4⟩:=c9;obtain⟨mv,l1,l2⟩:=tS o1 a.rel hrel;have n1:1<=n:=by omega
 have HY:Hid _:=hY;have HJ:Hid (OwnFrom W.heap.size J):=hJ;have HJx:Hid (OwnFrom W.heap.size Jx):=c3;clear hY hJ c3
 cases hbk:blk a.rel with
 |none=>
  obtain⟨q1,q2⟩:=(o2 a.rel hrel).1 hbk;rw[cI q1] at l2;cases l2
  have Qhy:Hid (∃E:List (ByteArray×ByteArray),E.Nodup/\(∀x y,(x,y)∈E↔(x.size<=maxLen/\y.size<=maxLen/\(M ⟨a.rel,x,y⟩).isSome=true))/\aB E<=A/\([]:List (sr sz)).map (·.1)=E.filterMap (λk=>Q6 put a k.1 k.2)):=
   ⟨[],bT,λx y=>by simp[q2 x y],by simp,rfl⟩
  have ci:Hid (J [] (W.alloc (.mapIter aW 0 #[] 0))):=HJ.o _ _ _ aW h0 (qg ((aX _ W).alloc zl _)) (λr e=>by cases e);have di:=run_range_nilMap (P:=cE) W 174 109 3 cF;have dk:=λty=>run_next_nilMap (P:=cE) W ty 0 0 #[];clear o1 o2 o3 o4 h0 b6 hbk q1 q2 az ax bu;refine callsIn_of_wp Tryz.func156 rfl trivial ?_;simp only[Tryz.ntmps156,bD,bH,bL,bU,bX,aZ,bB,bE,bC,bO,bI]
  gi_wp2
  gi_loopw [5] (λ_ wr=>wr=W.alloc (.mapIter aW 0 #[] 0)) (λ_ _=>0)
  case atStart=>rfl
  case round=>
   subst hrel
   gi_wp2
   go_end0
   exact⟨⟨_,rfl⟩,aQ ⟨[],Qhy.o,ci.o⟩⟩
 |some b=>
  obtain⟨q1,q2,q3,C,q4,q5⟩:=(o2 a.rel hrel).2 b hbk;rw[q2] at l2;cases l2;have HO:Hid (W.ownsMap cE 109 (plainElem cE 3) b A C):=q4;have HQ:Hid _:=q5;have HH:Hid _:=h0;have HS:Hid _:=b6;have HNm:Hid _:=az;have Qjj:Hid _:=ax;have HMs:Hid _:=bu;clear o1 o2 o3 o4 q4 q5 h0 b6 az ax hbk q1 q2 bu;refine callsIn_of_wp Tryz.func156 rfl trivial ?_;simp only[Tryz.ntmps156,bD,bH,bL,bU,bX,aZ,bB,bE,bC,bO,bI]
  gi_wp2_with (gi_at_range;refine wpListIn_range_own _ rfl _ 174 rfl 109 3 lH cF (plainElem cE 3) b A C rfl HO.o ?_;intro w1 bn af dt)
  have hE:lx Bm Ba Bp B aa a (aH ta (aB a.args) tc) put W:=⟨cb,ck,cl,HS.o⟩;have ad:cL W.heap.size W w1:=⟨af.os,af.tape,af.output,af.size,λk Z=>af.block k Z (by simp)⟩;have db:=hE.below ad;have ci:J [] w1:=HJ.o _ _ _ aW HH.o af (λr e=>by cases e);have c5:qU b W.heap.size A C put a w1 [] [] (Maps.size C):=⟨⟨_,bn,λx y _ _=>by simp⟩,bT,by simp,by simpa using bZ.size_le HO.o,rfl⟩;obtain⟨r,hr⟩:∃r,W.heap.size=r:=⟨_,rfl⟩;rw[hr] at HJ HJx c8 c5;simp only[hr];clear cb ck cl hE c0 c1 l1 bn af ad
  gi_loopw [5] (λ_ wr=>∃(ks:List (ByteArray×ByteArray)) (pre:List (sr sz)) (aj:Nat),J pre wr/\qU b r A C put a wr ks (pre.map (·.1)) aj/\lx Bm Ba Bp B aa a (aH ta (aB a.args) tc) put wr/\r+1<=wr.heap.size/\b<r) (λ_ wr=>wr.rangeLeft b r)
  case atStart=>exact⟨[],[],_,ci,c5,db,by omega,by have:=bZ.lt HO.o;omega⟩
  case round=>
   obtain⟨ks,pre,aj,b9,⟨⟨left,a9,bi⟩,b7,b5,cp,al⟩,cq,df,cu⟩:=hrel
   gi_wp2_with (gi_at_next;refine wpListIn_next_ranges _ rfl _ rfl 109 lH (plainElem cE 3) (λp:ByteArray×ByteArray=>aJ #[.string p.1,.string p.2]) (λc:Int=>Value.int aP c) (λkey kl a6=>by obtain⟨x,y,rfl,_⟩:=yu a6;exact⟨(x,y),rfl⟩) (λv y hv=>by obtain⟨c,rfl,_⟩:=plainElem_int_inv cJ hv;exact⟨c,rfl⟩) b r A C left aj rfl a9 ?_ ?_)
   .intro _ c6
    have Qf:Hid (∃E:List (ByteArray×ByteArray),E.Nodup/\(∀x y,(x,y)∈E↔(x.size<=maxLen/\y.size<=maxLen/\(M ⟨a.rel,x,y⟩).isSome=true))/\aB E<=A/\pre.map (·.1)=E.filterMap (λk=>Q6 put a k.1 k.2)):=by
     refine⟨ks,b7,λx y=>⟨λh=>?_,λh=>?_⟩,by omega,al⟩
     .obtain⟨k1,k2⟩:=b5 _ h;refine⟨k1,k2,?_⟩;rw[<-(HQ.o x y k1 k2).1];exact ((bi x y k1 k2).1 h).1
     .obtain⟨k1,k2,k3⟩:=h;exact (bi x y k1 k2).2 ⟨by rw[(HQ.o x y k1 k2).1];exact k3,c6 _⟩
    gi_wp2
    go_end0
    exact⟨⟨_,rfl⟩,aQ ⟨pre,Qf.o,b9⟩⟩
   .intro x y c kl d ps w' ah a6 co hv av be b0 bb Qii dr;obtain⟨x',y',cv,rfl,hx,hy⟩:=yu a6;obtain⟨rfl,rfl⟩:x=x'/\y=y':=by simpa [lC] using cv
    have Qel:∃o:Obj,wr.heap[r]?=aV o/\o.isCells=false:=by obtain⟨es,clock,ai,an,c0,_,_,_,_,h5,_⟩:=a9;exact⟨_,h5,rfl⟩
    have cw:J pre w':=HJ.o _ _ _ (aV r) b9 bb (λr' e=>by cases e;exact⟨Nat.le_refl _,Qel⟩);have b4:lx Bm Ba Bp B aa a (aH ta (aB a.args) tc) put w':=cq.kept (λk c t _ Z=>qm bb (λr' e=>by cases e;exact Qel) k c t _ Z);have a8:Hid (∀O,Cs 157 #[aJ #[.string put.a0,.string put.a1,.string put.a2,.string put.a3,.string put.a4,.string put.a5],aJ #[.string a.rel,aH ta (aB a.args) tc],aJ #[.string x,.string y]] (w'.alloc O) λe W1=>e=aO (oz (Q6 put a x y))/\cL (w'.alloc O).heap.size (w'.alloc O) W1):=λO=>BA put a _ aa x y _ (b4.below ((aX _ w').alloc zl O)).sl bh HNm.o;have G:∀O,_:=λO=>(b4.below ((aX _ w').alloc zl O)).cells;have k1:=λO=>(G O).1;have k2:=λO=>(G O).2.1;have k3:=λO=>(G O).2.2.1;have k4:=λO=>(G O).2.2.2.1;have k5:=λO=>(G O).2.2.2.2.1;have k6:=λO=>(G O).2.2.2.2.2.1;have k7:=λO=>(G O).2.2.2.2.2.2.1;have k8:=λO=>(G O).2.2.2.2.2.2.2
    have b8:Hid (∀O W1 z,cL (w'.alloc O).heap.size (w'.alloc O) W1->∀W2,qr m (W1.alloc z) W2->qU b r A C put a W2 (ks++[(x,y)]) (pre.map (·.1)++(Q6 put a x y).toList) ah/\lx Bm Ba Bp B aa a (aH ta (aB a.args) tc) put W2/\r+1<=W2.heap.size):=by
     intro O W1 z hb W2 Z;have a7:cL w'.heap.size w' (W1.alloc z):=(((aX _ w').alloc zl O).trans (hb.mono (by simp))).alloc (by have:=hb.size;simp at this;omega) _;have ay:=zL be (a7.block b (by omega)) (a7.block r (by omega));refine⟨qU.step bi b7 b5 cp al hx hy co av ay b0 ?_ ?_,(b4.below a7).kept Z.cells,by have:=a7.size;have:=Z.from'.size;omega⟩
     .obtain⟨es,clock,ai,an,c0,h1,_⟩:=ay;rw[h1];exact Z.maps _ _ _ h1
     .obtain⟨es,clock,ai,an,c0,_,_,_,_,h5,_⟩:=ay;rw[h5];exact Z.from'.same _ _ (by omega) h5 rfl
    have dd:aB pre<A:=by
     have h1:=yV (put:=put) (a:=a) (ks:=ks);have h2:aB pre=aB (ks.filterMap (λk=>Q6 put a k.1 k.2)):=by rw[<-al];simp
     omega
    have cz:Hid (∀O W1 z,cL (w'.alloc O).heap.size (w'.alloc O) W1->J pre (W1.alloc z)):=by intro O W1 z hb;have a7:cL w'.heap.size w' (W1.alloc z):=(((aX _ w').alloc zl O).trans (hb.mono (by simp))).alloc (by have:=hb.size;simp at this;omega) _;exact HJ.o _ _ _ aW cw (qg a7) (λr' e=>by cases e)
    have c2:cH C (kT x y)=true:=by
     cases hh:cH C (kT x y) with
     |true=>rfl
     |false=>have e1:=av (.lit (.int aP 0));have e2:=av (.lit (.int aP 1));rw[cI hh] at e1 e2;rw[<-e2] at e1;cases e1
    have Qe1:=HMs.o x y hx hy (by rw[<-(HQ.o x y hx hy).1];exact c2)
    have Qkz:Hid (∀p,Q6 put a x y=aV p->∀k,(p.get k).size<=sz):=λp hp=>
     vz _ _ _ Qjj.o (λq hq=>⟨HNm.o _ (bQ hq).1,by
      have:=(bQ hq).2;simp at this;rcases this with h|h<;>rw[h]
      .exact Qe1.1
      .exact Qe1.2⟩) hp
    clear c2 Qe1;have Qcl:Hid (wr.rangeLeft b r=aj):=a9.left_eq;clear G b9 a9 cq b4 cw be bi b7 b5 al Qel a6 hv av cv bb df
    cases hm1:Q6 put a x y with
    |none=>
     rw[hm1] at a8 b8;unfold oz dF.v Qs dF.c at a8
     gi_wp2_with (refine⟨trivial,?_⟩;gi_at_call 157;refine (callsIn_wide.2 (a8.o _)).mono ?_;rintro e W1 ⟨rfl,ad⟩)
     refine⟨λf h=>(by cases h),?_⟩
     gi_wp2
     obtain⟨s1,s2,s3⟩:=b8.o _ W1 _ ad _ (qr.ofBelow zr);refine⟨⟨_,pre,ah,cz.o _ W1 _ ad,by simpa using s1,s2,s3,cu⟩,?_⟩;obtain⟨bf,ay,_⟩:=s1.rg;rw[ay.left_eq,Qcl.o];exact b0
    |some p=>
     rw[hm1] at a8 b8;have b3:=Qkz.o p hm1;have cx:Hid (∀O W1 z,cL (w'.alloc O).heap.size (w'.alloc O) W1->YieldAt Fence.wide (n-1) cE l #[p.v] (W1.alloc z) λe W'=>(e=aO (aK true)/\J (pre++[⟨p,b3⟩]) W'/\qr m (W1.alloc z) W')\/(e=aO (aK false)/\Jx (pre++[⟨p,b3⟩]) W'/\KeepsFrom m (W1.alloc z) W')):=λO W1 z hb=>HY.o pre ⟨p,b3⟩ _ (cz.o O W1 z hb) dd;unfold oz dF.v dF.c at a8;unfold dF.v dF.c at cx
     gi_wp2_with (first|(refine⟨trivial,?_⟩;gi_at_call 157;refine (callsIn_wide.2 (a8.o _)).mono ?_;rintro e W1 ⟨rfl,ad⟩;obtain⟨dj,c4,assign2,body2,ct,cd⟩:=cx.o _ W1 (aN #[.string p.a0,.string p.a1,.string p.a2,.string p.a3,.string p.a4,.string p.a5] 176) ad))
     refine cd.mono ?_;rintro e W3 (⟨rfl,dh,de⟩|⟨rfl,cf,_⟩)
     .clear ct cd
      gi_wp2
      obtain⟨s1,s2,s3⟩:=b8.o _ W1 _ ad W3 de;refine⟨⟨_,pre++[⟨p,b3⟩],ah,dh,by rw[List.map_append];exact s1,s2,s3,cu⟩,?_⟩;obtain⟨bf,ay,_⟩:=s1.rg;rw[ay.left_eq,Qcl.o];exact b0
     .clear ct cd
      gi_wp2
      refine bodyPost_ret (results_none rfl _ _ _) rfl ?_;exact⟨⟨_,rfl⟩,aR ⟨_,trivial,cf⟩⟩
theorem yA(sz:Nat)(n:Nat)(Bm Ba Bp B d aa:Nat)(M:Gd->Option Int)(a:Am)(va:Vq)(put:dF)(w:Wq)(Z:w.heap[Bm]?=cC #[.map (aV B)] 98)(O:w.heap[Ba]?=cC #[aI a.rel,va] 92)(hp:w.heap[Bp]?=aV (aN put.c 176))(E:eT w B d M)(G:Qh w aa va a.args)(A:aB a.args<=2)(z:∀t∈a.args,t.num<6)(hrel:a.rel.size<=maxLen)(ax:∀k,(put.get k).size<=sz)(C:∀x y,x.size<=maxLen->y.size<=maxLen->(M ⟨a.rel,x,y⟩).isSome=true->x.size<=sz/\y.size<=sz)(m:Nat):fW m n 156 #[Pt Bm,Pt Ba,Pt Bp] (λp:sr sz=>#[p.1.v]) (qr m)
   (λys=>∃ks:List (ByteArray×ByteArray),ks.Nodup/\(∀x y,(x,y)∈ks↔(x.size<=maxLen/\y.size<=maxLen/\(M ⟨a.rel,x,y⟩).isSome=true))/\aB ks<=d/\ys.map (·.1)=ks.filterMap (λk=>Q6 put a k.1 k.2)) (λ_=>True) d w:=
 fW.any (IZ sz 4 zl Bm Ba Bp B d aa M a va put w Z O hp E G A z hrel ax C m) n
theorem DF(n:Nat)(Bm Ba Bp B d aa:Nat)(M:Gd->Option Int)(a:Am)(va:Vq)(put:dF)(w:Wq)(O:w.heap[Bm]?=cC #[.map (aV B)] 98)(G:w.heap[Ba]?=cC #[aI a.rel,va] 92)(Z:w.heap[Bp]?=aV (aN put.c 176))(C:eT w B d M)(E:Qh w aa va a.args)(A:aB a.args<=2)(z:∀t∈a.args,t.num<6)(hrel:a.rel.size<=maxLen)(ax:∀k,(put.get k).size<=maxLen)(m:Nat):fW m n 156 #[Pt Bm,Pt Ba,Pt Bp] (λp:qO=>#[p.1.v]) (qr m)
   (λys=>∃ks:List (ByteArray×ByteArray),ks.Nodup/\(∀x y,(x,y)∈ks↔(x.size<=maxLen/\y.size<=maxLen/\(M ⟨a.rel,x,y⟩).isSome=true))/\aB ks<=d/\ys.map (·.1)=ks.filterMap (λk=>Q6 put a k.1 k.2)) (λ_=>True) d w:=
 yA maxLen n Bm Ba Bp B d aa M a va put w O G Z C E A z hrel ax (λx y hx hy _=>⟨hx,hy⟩) m
