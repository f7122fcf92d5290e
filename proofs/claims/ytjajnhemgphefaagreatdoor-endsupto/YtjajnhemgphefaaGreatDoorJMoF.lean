/- Package model: the iterator over the names with which a -/
import Derived.Maps.OwnSet
import Derived.Maps.RangeWalk
import Derived.DeepKeys4
import Derived.Test.YtjajnhemgphefaaGreatDoorJMoC
import Derived.Test.YtjajnhemgphefaaGreatDoorJTxt
import Derived.Maps.OwnIn
import Derived.Sort.MapsRangeIn
set_option linter.unusedVariables false
set_option linter.unusedSimpArgs false
set_option maxRecDepth 100000
set_option maxHeartbeats 4000000
namespace Go.Proofs.YtjajnhemgphefaaGreatDoor
open Go renaming World->Wq,Value->Vq
open Go.RowKit Go.Shelf Go.Maps
variable {W W' A:Wq} {B b n' m cnt Bm Ba Bp b87:Nat} {M:Gd->Option Int} {D:DataW Vq} {x y r x' y':ByteArray} {g:Gd} {e:Int} {left:Lit->Bool} {a:Am} {va:Vq} {ks:List (ByteArray×ByteArray)}
theorem qqa:Keyed Tryz.prog 9:=string_keyed Tryz.underlying9
theorem q4a:laidOutB Tryz.prog=true:=by kernel_rfl
theorem qco:Keyed Tryz.prog 109:=Keyed.of_law (deep_law_laid q4a (m:=5) (by decide) (of_decide_eq_true (by kernel_rfl)) (by kernel_rfl) (by kernel_rfl))
def kS(s:ByteArray):Lit:=.string s.data.toList
def kT(x y:ByteArray):Lit:=.string (keyBytes [.string x.data.toList,.string y.data.toList])
def qem(x y:ByteArray):Vq:=.agg #[.string x,.string y]
theorem qhb(s:ByteArray)(h:s.size<=maxLen):keyOf Tryz.prog 9 (.string s)=some (kS s):=WideMaps.keyOf_string_mk Tryz.underlying9 h
theorem qkb:Tryz.prog.keyType 109=true:=by kernel_rfl
theorem q1o:decide (0 < Tryz.prog.types.size)=true:=by kernel_rfl
theorem qqf:∃d,Tryz.prog.types.size=d+1:=by
 have h:=of_decide_eq_true q1o;exact⟨Tryz.prog.types.size - 1,by omega⟩
theorem qgg:Tryz.prog.cellsOf 109=2:=by kernel_rfl
theorem qr8:Tryz.prog.cellsOf 9=1:=by kernel_rfl
theorem qcb(x y:ByteArray)(hx:x.size<=maxLen)(hy:y.size<=maxLen):keyOf Tryz.prog 109 (qem x y)=some (kT x y):=by
 obtain⟨d,hd⟩:=qqf
 have hf:(qem x y).formed Tryz.prog 109=true:=by
  simp[qem,Value.formed,Tryz.underlying109,qgg]
 unfold keyOf;rw[Tryz.underlying109];simp only[qkb,hf,Bool.and_self,if_true,hd];simp[Program.keyLits,Tryz.underlying109,Tryz.underlying9,qgg,qr8,qem,Value.cells,hx,hy,kT,List.range_succ]
def RV(v:Vq):Option (DataW Vq×List MemPlace):=some (.held v,[])
def qi9(W:Wq)(b n:Nat)(rel:ByteArray)(M:Gd->Option Int):Prop:=
 ∃Di:DataW Vq,W.ownsMap Tryz.prog 109 (plainElem Tryz.prog 3) b n Di/\
  ∀x y:ByteArray,x.size<=maxLen->y.size<=maxLen->Maps.has Di (kT x y)=(M ⟨rel,x,y⟩).isSome/\Di.atKey (kT x y) (.lit (.int .i64 0))=.lit (.int .i64 ((M ⟨rel,x,y⟩).getD 0))
def qda(W:Wq)(B n:Nat)(M:Gd->Option Int):Prop:=
 ∃(D:DataW Vq) (blk:ByteArray->Option Nat),W.ownsMap Tryz.prog 9 RV B n D/\
  (∀rel:ByteArray,rel.size<=maxLen->
   (blk rel=none->Maps.has D (kS rel)=false/\∀x y,M ⟨rel,x,y⟩=none)/\
   (∀b,blk rel=some b->Maps.has D (kS rel)=true/\D.atKey (kS rel) (.held (.map none))=.held (.map (some b))/\b≠B/\qi9 W b n rel M))/\
  (∀r1 r2 b,blk r1=some b->blk r2=some b->r1=r2)/\(∀r b,blk r=some b->r.size<=maxLen)
theorem qda.kept{n:Nat}(h:qda W B n M)(hk:∀(k:Nat) (es:Array MapEntry) (c:Nat),W.heap[k]?=some (Obj.map es c)->W'.heap[k]?=some (Obj.map es c)):qda W' B n M:=by
 have ho:∀{k:TypeId} {R:Vq->Option (DataW Vq×List MemPlace)} {b n:Nat} {D:DataW Vq},W.ownsMap Tryz.prog k R b n D->W'.ownsMap Tryz.prog k R b n D:=by
  rintro k R b n D ⟨es,c,h1,h2,h3,h4⟩;exact⟨es,c,hk _ _ _ h1,h2,h3,h4⟩
 obtain⟨D,blk,h1,h2,h3⟩:=h;refine⟨D,blk,ho h1,λrel hr=>⟨(h2 rel hr).1,λb hb=>?_⟩,h3⟩;obtain⟨a1,a2,a3,Di,a4,a5⟩:=(h2 rel hr).2 b hb;exact⟨a1,a2,a3,Di,ho a4,a5⟩
theorem qda.below{n:Nat}(h:qda W B n M)(hb:Below W.heap.size W W'):qda W' B n M:=
 h.kept (λk es c hk=>(hb.block k (zg hk).1).trans hk)
theorem qjj{n:Nat}(h:W.ownsMap Tryz.prog 9 RV B n D)(rel:ByteArray)(hr:rel.size<=maxLen) :
  ∃mv,(Instr.lookup 98 (.map (some B)) (.string rel) false).run Tryz.prog W=.ok mv W/\D.atKey (kS rel) (.held (.map none))=.held mv:=by
 obtain⟨es,clock,hb,F,_,rfl⟩:=h;rcases Maps.fit_look false qqa Tryz.underlying98 (Tryz.zeroValue174 W) hb F (qhb rel hr) with⟨qiv,_,hat⟩ | ⟨e0,y,_,_,qiv,hRv,hat,_⟩
 ·exact⟨.map none,qiv,hat _⟩
 ·refine⟨e0.val,qiv,?_⟩;rw[hat];unfold RV at hRv;cases hRv;rfl
theorem qda.look{n:Nat}(h:qda W B n M)(g:Gd)(hr:g.rel.size<=maxLen)(hx:g.x.size<=maxLen)(hy:g.y.size<=maxLen) :
  ∃mb,(Instr.lookup 98 (.map (some B)) (.string g.rel) false).run Tryz.prog W=.ok (.map mb) W/\
   (Instr.lookup 174 (.map mb) (qem g.x g.y) true).run Tryz.prog W=.ok (.tuple #[.int .i64 ((M g).getD 0),.bool (M g).isSome]) W/\
   (Instr.lookup 174 (.map mb) (qem g.x g.y) false).run Tryz.prog W=.ok (.int .i64 ((M g).getD 0)) W:=by
 obtain⟨D,blk,h1,h2,h3⟩:=h;obtain⟨mv,e1,e2⟩:=qjj h1 g.rel hr;have hk:=qcb g.x g.y hx hy
 cases hbk:blk g.rel with
 | none=>
  obtain⟨a1,a2⟩:=(h2 g.rel hr).1 hbk;have hz:D.atKey (kS g.rel) (.held (.map none))=.held (.map none):=Maps.atKey_of_not_has a1 _;rw[hz] at e2;cases e2;have hM:M g=none:=a2 g.x g.y;refine⟨none,e1,?_,?_⟩
  ·have:=Maps.look_nil (w:=W) true qco Tryz.underlying174 (Tryz.zeroValue3 W) hk;rw[hM];exact this
  ·have:=Maps.look_nil (w:=W) false qco Tryz.underlying174 (Tryz.zeroValue3 W) hk;rw[hM];exact this
 | some b=>
  obtain⟨a1,a2,a3,Di,a4,a5⟩:=(h2 g.rel hr).2 b hbk;rw[a2] at e2;cases e2;obtain⟨k1,k2⟩:=a5 g.x g.y hx hy;refine⟨some b,e1,?_,?_⟩
  ·obtain⟨v,ps,q1,q2⟩:=a4.look_ok qco Tryz.underlying174 (Tryz.zeroValue3 W) (zd:=.lit (.int .i64 0)) (zp:=[]) (plainElem_int Tryz.underlying3 (by decide)) hk;rw[k2] at q2;obtain⟨c,rfl,hc,_⟩:=plainElem_int_inv Tryz.underlying3 q2;cases hc;rw[k1] at q1;exact q1
  ·obtain⟨c,q1,q2,q3⟩:=a4.lookup_int qco Tryz.underlying174 Tryz.underlying3 (Tryz.zeroValue3 W) hk;rw[k2] at q2;cases q2;exact q1
structure qgw(g:Gd):Prop where
 rel:g.rel.size<=maxLen
 x:g.x.size<=maxLen
 y:g.y.size<=maxLen
theorem qyv(B n:Nat)(M:Gd->Option Int)(g:Gd)(hg:qgw g)(w:Wq)(hM:qda w B n M) :
  Calls Tryz.prog 136 #[.map (some B),g.v] w λe w'=>e=.returned (.bool (M g).isSome)/\Below w.heap.size w w':=by
 have hl:∀O,∃mb,_:=λO=>(hM.below ((Below.refl _ w).alloc zl O)).look g hg.rel hg.x hg.y;unfold Gd.v Gd.c;unfold qem at hl;obtain⟨mb,l1,l2,l3⟩:=hl (.cells #[.string g.rel,.string g.x,.string g.y] 111);clear hl hM;go_enter Tryz.func136,Tryz.ntmps136;go_wp2;go_ret;exact⟨rfl,(Below.refl _ w).alloc zl _⟩
theorem q54(B n:Nat)(M:Gd->Option Int)(g:Gd)(hg:qgw g)(w:Wq)(hM:qda w B n M) :
  Calls Tryz.prog 47 #[.map (some B),g.v] w λe w'=>e=.returned (.int .i64 ((M g).getD 0))/\Below w.heap.size w w':=by
 have hl:∀O,∃mb,_:=λO=>(hM.below ((Below.refl _ w).alloc zl O)).look g hg.rel hg.x hg.y;unfold Gd.v Gd.c;unfold qem at hl;obtain⟨mb,l1,l2,l3⟩:=hl (.cells #[.string g.rel,.string g.x,.string g.y] 111);clear hl hM;go_enter Tryz.func47,Tryz.ntmps47;go_wp2;go_ret;exact⟨rfl,(Below.refl _ w).alloc zl _⟩
structure qn4(w w':Wq):Prop where
 os:w'.os=w.os
 tape:w'.tape=w.tape
 output:w'.output=w.output
 size:w.heap.size<=w'.heap.size
 block:∀(k:Nat) (o:Obj),w.heap[k]?=some o->(∀es c,o≠Obj.map es c)->w'.heap[k]?=some o
theorem Qbd(w:Wq):(binOp .eql 174 (.map none) (.map none)).run Tryz.prog w=.ok (.bool true) w:=by kernel_rfl
theorem q84(b:Nat)(w:Wq):(binOp .eql 174 (.map (some b)) (.map none)).run Tryz.prog w=.ok (.bool false) w:=by kernel_rfl
def qdi(M:Gd->Option Int)(g:Gd)(e:Int):Gd->Option Int:=λh=>if h.rel=g.rel/\h.x=g.x/\h.y=g.y then some e else M h
theorem qik(h:x.data.toList=y.data.toList):x=y:=by
 cases x;cases y
 simp only[ByteArray.mk.injEq];exact Array.toList_inj.1 h
theorem Qac{s:ByteArray}(h:kS r=kS s):r=s:=by
 unfold kS at h;injection h with h;exact qik h
theorem q35(hx:x.size<=maxLen)(hy:y.size<=maxLen)(hx':x'.size<=maxLen)(hy':y'.size<=maxLen)(h:kT x y=kT x' y'):x=x'/\y=y':=by
 have h1:=qcb x y hx hy;have h2:=qcb x' y' hx' hy';rw[h] at h1;have h3:=qco.inj h1 h2;simp[qem] at h3;exact h3
theorem qrr(hg:qgw g){Di:DataW Vq}(qqu:IsMap Di)(Q5:∀x y:ByteArray,x.size<=maxLen->y.size<=maxLen->Maps.has Di (kT x y)=(M ⟨g.rel,x,y⟩).isSome/\Di.atKey (kT x y) (.lit (.int .i64 0))=.lit (.int .i64 ((M ⟨g.rel,x,y⟩).getD 0))) :
  ∀x y:ByteArray,x.size<=maxLen->y.size<=maxLen->Maps.has (Di.put (kT g.x g.y) (.lit (.int .i64 e))) (kT x y)=(qdi M g e ⟨g.rel,x,y⟩).isSome/\(Di.put (kT g.x g.y) (.lit (.int .i64 e))).atKey (kT x y) (.lit (.int .i64 0))=.lit (.int .i64 ((qdi M g e ⟨g.rel,x,y⟩).getD 0)):=by
 intro x y hx hy;by_cases h:x=g.x/\y=g.y
 ·obtain⟨rfl,rfl⟩:=h;have hu:qdi M g e ⟨g.rel,g.x,g.y⟩=some e:=by unfold qdi;simp
  rw[hu];exact⟨Maps.has_put_same qqu (qco.key (qcb _ _ hg.x hg.y)) _,Maps.atKey_put_same qqu (qco.key (qcb _ _ hg.x hg.y)) _ _⟩
 ·have hu:qdi M g e ⟨g.rel,x,y⟩=M ⟨g.rel,x,y⟩:=by unfold qdi;rw[if_neg (λh'=>h h'.2)]
  have hne:kT x y≠kT g.x g.y:=λh'=>h (q35 hx hy hg.x hg.y h');rw[hu,Maps.has_put_other hne,Maps.atKey_put_other hne];exact Q5 x y hx hy
theorem qm4(h:r≠g.rel)(x y:ByteArray):qdi M g e ⟨r,x,y⟩=M ⟨r,x,y⟩:=by
 unfold qdi;rw[if_neg (λh'=>h h'.1)]
theorem qnf{n:Nat}(h:qi9 W b n r M)(hr:r≠g.rel)(hk:W'.heap[b]?=W.heap[b]?)(hn:n<=n'):qi9 W' b n' r (qdi M g e):=by
 obtain⟨Di,⟨es,c,h1,h2,h3,h4⟩,h5⟩:=h;refine⟨Di,⟨es,c,hk.trans h1,h2,by omega,h4⟩,λx y hx hy=>?_⟩;rw[qm4 hr];exact h5 x y hx hy
theorem qi9.lt{n:Nat}(h:qi9 W b n r M):b < W.heap.size:=by
 obtain⟨Di,h1,_⟩:=h;exact h1.lt
def MdL(lo:Nat)(W:Wq)(B n:Nat)(M:Gd->Option Int):Prop:=
 ∃(D:DataW Vq) (blk:ByteArray->Option Nat),W.ownsMap Tryz.prog 9 RV B n D/\
  (∀rel:ByteArray,rel.size<=maxLen->
   (blk rel=none->Maps.has D (kS rel)=false/\∀x y,M ⟨rel,x,y⟩=none)/\
   (∀b,blk rel=some b->Maps.has D (kS rel)=true/\D.atKey (kS rel) (.held (.map none))=.held (.map (some b))/\b≠B/\qi9 W b n rel M))/\
  (∀r1 r2 b,blk r1=some b->blk r2=some b->r1=r2)/\(∀r b,blk r=some b->r.size<=maxLen)/\lo<=B/\∀r b,blk r=some b->lo<=b
theorem MdL.at'{lo:Nat}{n:Nat}(h:MdL lo W B n M):qda W B n M:=by
 obtain⟨D,blk,h1,h2,h3,h4,_⟩:=h;exact⟨D,blk,h1,h2,h3,h4⟩
theorem MdL.kept{lo:Nat}{n:Nat}(h:MdL lo W B n M)(hk:∀(k:Nat) (es:Array MapEntry) (c:Nat),W.heap[k]?=some (Obj.map es c)->W'.heap[k]?=some (Obj.map es c)):MdL lo W' B n M:=by
 have ho:∀{k:TypeId} {R:Vq->Option (DataW Vq×List MemPlace)} {b n:Nat} {D:DataW Vq},W.ownsMap Tryz.prog k R b n D->W'.ownsMap Tryz.prog k R b n D:=by
  rintro k R b n D ⟨es,c,h1,h2,h3,h4⟩;exact⟨es,c,hk _ _ _ h1,h2,h3,h4⟩
 obtain⟨D,blk,h1,h2,h3⟩:=h;refine⟨D,blk,ho h1,λrel hr=>⟨(h2 rel hr).1,λb hb=>?_⟩,h3⟩;obtain⟨a1,a2,a3,Di,a4,a5⟩:=(h2 rel hr).2 b hb;exact⟨a1,a2,a3,Di,ho a4,a5⟩
theorem qda.lo{n:Nat}(h:qda W B n M):MdL 0 W B n M:=by
 obtain⟨D,blk,h1,h2,h3,h4⟩:=h;exact⟨D,blk,h1,h2,h3,h4,Nat.zero_le _,λ_ _ _=>Nat.zero_le _⟩
theorem MdL.mono{lo n:Nat}(h:MdL lo W B n M)(hn:n<=n'):MdL lo W B n' M:=by
 obtain⟨D,blk,h1,h2,h3⟩:=h;refine⟨D,blk,h1.mono hn,λrel hr=>⟨(h2 rel hr).1,λb hb=>?_⟩,h3⟩;obtain⟨a1,a2,a3,Di,a4,a5⟩:=(h2 rel hr).2 b hb;exact⟨a1,a2,a3,Di,a4.mono hn,a5⟩
theorem q8z(lo B n:Nat)(M:Gd->Option Int)(g:Gd)(e:Int)(hg:qgw g)(w:Wq)(hM:MdL lo w B n M)(hn:n+5 < maxLen)(he:(Lit.int .i64 e).wf=true) :
  Calls Tryz.prog 137 #[.map (some B),.agg #[.string g.rel,.string g.x,.string g.y,.int .i64 e]] w λe' w'=>e'=.returned (.tuple #[])/\MdL lo w' B (n+2) (qdi M g e)/\qn4 w w'/\Below lo w w':=by
 have hm:=@run_makeMap Tryz.prog;have hq1:=Qbd;have hq2:=q84;have qlm:=qcb g.x g.y hg.x hg.y;unfold qem at qlm;have Qa0:Hid _:=qlm;obtain⟨D,blk,h1,h2,h3,h4,h5,h6⟩:=hM;have hBw:B < w.heap.size:=h1.lt;have hDm:IsMap D:=h1.isMap;have q2z:∃es c,w.heap[B]?=some (Obj.map es c):=by obtain⟨es,c,h,_⟩:=h1;exact⟨es,c,h⟩
 have qo8:∀O,∃mv,(Instr.lookup 98 (.map (some B)) (.string g.rel) false).run Tryz.prog (w.alloc O)=.ok mv (w.alloc O)/\D.atKey (kS g.rel) (.held (.map none))=.held mv:=λO=>qjj (h1.alloc O) g.rel hg.rel;have HPE:Hid (plainElem (H:=Vq) Tryz.prog 3 (.int .i64 e)=some (.lit (.int .i64 e),[])):=plainElem_int Tryz.underlying3 he
 cases hbk:blk g.rel with
 | none=>
  obtain⟨a1,a2⟩:=(h2 g.rel hg.rel).1 hbk;have hz:D.atKey (kS g.rel) (.held (.map none))=.held (.map none):=Maps.atKey_of_not_has a1 _;obtain⟨mv,e1,e2⟩:=qo8 (.cells #[.string g.rel,.string g.x,.string g.y,.int .i64 e] 172);rw[hz] at e2;cases e2;obtain⟨W1,hW1⟩:∃W1,(w.alloc (.cells #[.string g.rel,.string g.x,.string g.y,.int .i64 e] 172)).alloc (.map #[] 0)=W1:=⟨_,rfl⟩;have hb1:Below w.heap.size w W1:=by rw[<- hW1];exact ((Below.refl _ w).alloc zl _).alloc (by simp) _
  have hO:W1.ownsMap Tryz.prog 9 RV B n D:=by rw[<- hW1];exact (h1.alloc _).alloc _
  have hI:W1.ownsMap Tryz.prog 109 (plainElem (H:=Vq) Tryz.prog 3) (w.heap.size+1) 0 (.map []):=by
   rw[<- hW1];have:=World.ownsMap_made (H:=Vq) (w.alloc (.cells #[.string g.rel,.string g.x,.string g.y,.int .i64 e] 172)) Tryz.prog 109 (plainElem Tryz.prog 3);rw[World.size_alloc] at this;exact this
  have hL:W1.heap[w.heap.size]?=some (Obj.cells #[.string g.rel,.string g.x,.string g.y,.int .i64 e] 172):=by
   rw[<- hW1];exact (Below.heap_alloc _ _ _ (by simp)).trans (World.alloc_heap_new w _)
  have hs1:W1.heap.size=w.heap.size+2:=by rw[<- hW1];simp
  have hS1:Hid (∀w1,w1.ownsMap Tryz.prog 9 RV B (n+1) (D.put (kS g.rel) (.held (.map (some (w.heap.size+1)))))->W1.grownBy w1 (some B)->
    (Instr.lookup 98 (.map (some B)) (.string g.rel) false).run Tryz.prog w1=.ok (.map (some (w.heap.size+1))) w1/\w1.heap[w.heap.size]?=some (Obj.cells #[.string g.rel,.string g.x,.string g.y,.int .i64 e] 172)/\w1.ownsMap Tryz.prog 109 (plainElem (H:=Vq) Tryz.prog 3) (w.heap.size+1) 0 (.map [])):=by
   intro w1 ho hgr;obtain⟨mv,q1,q2⟩:=qjj ho g.rel hg.rel;rw[Maps.atKey_put_same hDm (qqa.key (qhb _ hg.rel))] at q2;cases q2;exact⟨q1,(hgr.block _ (by omega) (by simp;omega)).trans hL,hI.kept hgr (by simp;omega)⟩
  have q9:Hid (∀w1 w2,w1.ownsMap Tryz.prog 9 RV B (n+1) (D.put (kS g.rel) (.held (.map (some (w.heap.size+1)))))->W1.grownBy w1 (some B)->w2.ownsMap Tryz.prog 109 (plainElem (H:=Vq) Tryz.prog 3) (w.heap.size+1) (0+1) ((DataW.map []).put (kT g.x g.y) (.lit (.int .i64 e)))->w1.grownBy w2 (some (w.heap.size+1))->MdL lo w2 B (n+2) (qdi M g e)/\qn4 w w2/\Below lo w w2):=by
   intro w1 w2 ho hg1 hi hg2;have hs2:=hg1.size
   have qc8:∀k:Nat,k < w.heap.size->k≠B->w2.heap[k]?=w.heap[k]?:=λk hk hne=>
    ((hg2.block k (by omega) (by simp;omega)).trans (hg1.block k (by omega) (by simp;omega))).trans (hb1.block k hk)
   refine⟨⟨D.put (kS g.rel) (.held (.map (some (w.heap.size+1)))),λr=>if r=g.rel then some (w.heap.size+1) else blk r,(ho.kept hg2 (by simp;omega)).mono (by omega),λr hr=>?_,?_,?_,h5,?_⟩,⟨?_,?_,?_,?_,?_⟩,⟨hg2.os.trans (hg1.os.trans hb1.os),hg2.tape.trans (hg1.tape.trans hb1.tape),hg2.output.trans (hg1.output.trans hb1.output),by have:=hg2.size;omega,λk hk=>qc8 k (by omega) (by omega)⟩⟩
   ·by_cases hrr:r=g.rel
    ·subst hrr;simp only[if_true];refine⟨λh=>(by cases h),λb' hb'=>?_⟩
     cases hb'
     refine⟨Maps.has_put_same hDm (qqa.key (qhb _ hg.rel)) _,Maps.atKey_put_same hDm (qqa.key (qhb _ hg.rel)) _ _,by omega,_,hi.mono (by omega),qrr hg ⟨[],rfl⟩ (λx y hx hy=>?_)⟩;rw[a2 x y];exact⟨rfl,rfl⟩
    ·have hne:kS r≠kS g.rel:=λh=>hrr (Qac h);simp only[if_neg hrr];rw[Maps.has_put_other hne,Maps.atKey_put_other hne];refine⟨λh=>?_,λb' hb'=>?_⟩
     ·obtain⟨q1,q2⟩:=(h2 r hr).1 h;exact⟨q1,λx y=>by rw[qm4 hrr];exact q2 x y⟩
     ·obtain⟨q1,q2,q3,q4⟩:=(h2 r hr).2 b' hb';exact⟨q1,q2,q3,qnf q4 hrr (qc8 b' q4.lt q3) (by omega)⟩
   ·intro r1 r2 b' k1 k2;simp only at k1 k2;have q7u:∀r,blk r≠some (w.heap.size+1):=λr h=>by have:=((h2 r (h4 r _ h)).2 _ h).2.2.2.lt;omega
    by_cases hr1:r1=g.rel
    ·by_cases hr2:r2=g.rel
     ·rw[hr1,hr2]
     ·rw[if_pos hr1] at k1;rw[if_neg hr2] at k2;cases k1;exact absurd k2 (q7u r2)
    ·by_cases hr2:r2=g.rel
     ·rw[if_neg hr1] at k1;rw[if_pos hr2] at k2;cases k2;exact absurd k1 (q7u r1)
     ·rw[if_neg hr1] at k1;rw[if_neg hr2] at k2;exact h3 r1 r2 b' k1 k2
   ·intro r b' hb';by_cases hrr:r=g.rel
    ·rw[hrr];exact hg.rel
    ·simp only[if_neg hrr] at hb';exact h4 r b' hb'
   ·intro r b' hb';by_cases hrr:r=g.rel
    ·simp only[if_pos hrr] at hb';cases hb';omega
    ·simp only[if_neg hrr] at hb';exact h6 r b' hb'
   ·exact hg2.os.trans (hg1.os.trans hb1.os)
   ·exact hg2.tape.trans (hg1.tape.trans hb1.tape)
   ·exact hg2.output.trans (hg1.output.trans hb1.output)
   ·have:=hg2.size;omega
   ·intro k o hk ho';have hkl:=(zg hk).1;rw[qc8 k hkl (λe'=>?_)]
    ·exact hk
    ·subst e';obtain⟨es,c,hB⟩:=q2z;rw[hB] at hk;cases hk;exact ho' es c rfl
  have HO:Hid _:=hO;clear qo8 h1 h2 h3 h6 hz a1 a2 he hbk hO hI hL hb1 q2z;go_enter Tryz.func137,Tryz.ntmps137
  go_wp2_with (first | (at_mapUpdate;refine wpList_mapUpdate_own _ rfl _ _ _ 98 rfl 9 174 qqa Tryz.underlying98 RV B n D rfl HO.out (by omega) _ _ (kS g.rel) rfl rfl (qhb _ hg.rel) (.held (.map (some (w.heap.size+1)))) [] rfl ?_;intro w1 hown1 hgrow1;obtain⟨s1,s2,s3⟩:=hS1.out w1 hown1 hgrow1;have d0:w1.cell? ⟨w.heap.size,0,none⟩=some (.string g.rel):=(by simp[World.cell?,s2]);have d1:w1.cell? ⟨w.heap.size,1,none⟩=some (.string g.x):=(by simp[World.cell?,s2]);have d2:w1.cell? ⟨w.heap.size,2,none⟩=some (.string g.y):=(by simp[World.cell?,s2]);have d3:w1.cell? ⟨w.heap.size,3,none⟩=some (.int .i64 e):=(by simp[World.cell?,s2])) | (at_mapUpdate;refine wpList_mapUpdate_own _ rfl _ _ _ 174 rfl 109 3 qco Tryz.underlying174 (plainElem Tryz.prog 3) (w.heap.size+1) 0 (.map []) rfl s3 (by omega) _ _ (kT g.x g.y) rfl rfl Qa0.out (.lit (.int .i64 e)) [] HPE.out ?_;intro w2 qu0 hgrow2) | go_in)
  go_end0
  exact⟨rfl,q9.out w1 w2 hown1 hgrow1 qu0 hgrow2⟩
 | some b=>
  obtain⟨a1,a2,a3,Di,a4,a5⟩:=(h2 g.rel hg.rel).2 b hbk;obtain⟨mv,e1,e2⟩:=qo8 (.cells #[.string g.rel,.string g.x,.string g.y,.int .i64 e] 172);rw[a2] at e2;cases e2;have hbw:=a4.lt;have hI:(w.alloc (.cells #[.string g.rel,.string g.x,.string g.y,.int .i64 e] 172)).ownsMap Tryz.prog 109 (plainElem (H:=Vq) Tryz.prog 3) b n Di:=a4.alloc _
  have q9:Hid (∀w2,w2.ownsMap Tryz.prog 109 (plainElem (H:=Vq) Tryz.prog 3) b (n+1) (Di.put (kT g.x g.y) (.lit (.int .i64 e)))->(w.alloc (.cells #[.string g.rel,.string g.x,.string g.y,.int .i64 e] 172)).grownBy w2 (some b)->MdL lo w2 B (n+2) (qdi M g e)/\qn4 w w2/\Below lo w w2):=by
   intro w2 hi hg2;have hs2:=hg2.size;rw[World.size_alloc] at hs2
   have qc8:∀k:Nat,k < w.heap.size->k≠b->w2.heap[k]?=w.heap[k]?:=λk hk hne=>
    (hg2.block k (by simp;omega) (by simp;omega)).trans (Below.heap_alloc _ _ _ hk)
   have hlb:=h6 _ _ hbk;refine⟨⟨D,blk,?_,λr hr=>?_,h3,h4,h5,h6⟩,⟨hg2.os,hg2.tape,hg2.output,by omega,?_⟩,⟨hg2.os,hg2.tape,hg2.output,by omega,λk hk=>qc8 k (by omega) (by omega)⟩⟩
   ·obtain⟨es,c,q1,q2,q3,q4⟩:=h1;exact⟨es,c,(qc8 B hBw (λe'=>a3 e'.symm)).trans q1,q2,by omega,q4⟩
   ·by_cases hrr:r=g.rel
    ·subst hrr;refine⟨λh=>(by rw[hbk] at h;cases h),λb' hb'=>?_⟩;rw[hbk] at hb'
     cases hb'
     exact⟨a1,a2,a3,_,hi.mono (by omega),qrr hg a4.isMap a5⟩
    ·refine⟨λh=>?_,λb' hb'=>?_⟩
     ·obtain⟨q1,q2⟩:=(h2 r hr).1 h;exact⟨q1,λx y=>by rw[qm4 hrr];exact q2 x y⟩
     ·obtain⟨q1,q2,q3,q4⟩:=(h2 r hr).2 b' hb';exact⟨q1,q2,q3,qnf q4 hrr (qc8 b' q4.lt (λe'=>hrr (h3 r g.rel b (e' ▸ hb') hbk))) (by omega)⟩
   ·intro k o hk ho';have hkl:=(zg hk).1;rw[qc8 k hkl (λe'=>?_)]
    ·exact hk
    ·subst e';obtain⟨es,c,hB,_⟩:=a4;rw[hB] at hk;cases hk;exact ho' es c rfl
  have HI:Hid _:=hI;clear qo8 h1 h2 h3 h6 a1 a2 a5 a4 he hbk hI q2z;go_enter Tryz.func137,Tryz.ntmps137
  go_wp2_with (first | (at_mapUpdate;refine wpList_mapUpdate_own _ rfl _ _ _ 174 rfl 109 3 qco Tryz.underlying174 (plainElem Tryz.prog 3) b n Di rfl HI.out (by omega) _ _ (kT g.x g.y) rfl rfl Qa0.out (.lit (.int .i64 e)) [] HPE.out ?_;intro w2 qu0 hgrow2) | go_in)
  go_end0
  exact⟨rfl,q9.out w2 qu0 hgrow2⟩
attribute [local go_sem] Oper.semAt_some
theorem qww(B:Nat)(a:Am)(va:Vq)(put:Nms)(w:Wq)(ta:Option Addr)(tn tc:Nat)(hva:va=.slice ta tn tc) :
  Calls Tryz.prog 94 #[.map (some B),.agg #[.string a.rel,va],put.v] w λe w'=>e=.returned (.func (.func 156) #[] #[.pointer (some ⟨w.heap.size,0,none⟩),.pointer (some ⟨w.heap.size+1,0,none⟩),.pointer (some ⟨w.heap.size+2,0,none⟩)])/\
   w'=((w.alloc (.cells #[.map (some B)] 98)).alloc (.cells #[.string a.rel,va] 92)).alloc (.cells put.c 176):=by
 subst hva;unfold Nms.v Nms.c;go_enter Tryz.func94,Tryz.ntmps94;go_wp2;go_ret;exact⟨rfl,rfl⟩
def qcj(t:TypeId):Prop:=t≠9/\t≠22/\t≠172/\t≠169
structure qt(m:Nat)(W W':Wq):Prop where
 cells:∀(k:Nat) (c:Array Vq) (t:TypeId),qcj t->W.heap[k]?=some (Obj.cells c t (0,0))->W'.heap[k]?=some (Obj.cells c t (0,0))
 maps:∀(k:Nat) (es:Array MapEntry) (c:Nat),W.heap[k]?=some (Obj.map es c)->W'.heap[k]?=some (Obj.map es c)
 from':KeepsFrom m W W'
theorem qt.tr{B C:Wq}(h:qt m A B)(k:qt m B C):qt m A C:=⟨λi c t ht hi=>k.cells i c t ht (h.cells i c t ht hi),λi es c hi=>k.maps i es c (h.maps i es c hi),KeepsFrom.tr h.from' k.from'⟩
theorem qt.ofBelow(h:Below W.heap.size W W'):qt m W W':=⟨λk c t _ hk=>(h.block k (zg hk).1).trans hk,λk es c hk=>(h.block k (zg hk).1).trans hk,KeepsFrom.ofBelow h⟩
theorem qt.put(W:Wq)(l:Nat)(o o':Obj)(hl:l < m)(h:W.heap[l]?=some o)(ho:o.isCells=false)(hom:∀es c,o≠Obj.map es c):qt m W (W.putObj l o'):=
 ⟨λk c t _ hk=>qj (grownBy_putObj' W l o') (λr e=>by cases e;exact⟨_,h,ho⟩) k c _ _ hk,
  λk es c hk=>((grownBy_putObj' W l o').block k (zg hk).1 (λe=>by cases e;rw[h] at hk;cases hk;exact hom _ _ rfl)).trans hk,
  (grownBy_putObj' W l o').size,λk x hk hx _=>((grownBy_putObj' W l o').block k (zg hx).1 (by simp;omega)).trans hx⟩
theorem qt.up{m':Nat}{B:Wq}(h:qt m A B)(hm:m<=m'):qt m' A B:=⟨h.cells,h.maps,KeepsFrom.up h.from' hm⟩
theorem Qd.mk{v:Vq}{l:List Tm}(h:Qd W b v l)(hk:qt m W W'):Qd W' b v l:=by
 refine h.kept (λk c _ hc=>hk.cells k c _ (by unfold qcj;decide) hc)
theorem qda.mk{n:Nat}(h:qda W B n M)(hk:qt m W W'):qda W' B n M:=h.kept hk.maps
theorem qnn{k:TypeId}{R:Vq->Option (DataW Vq×List MemPlace)}{r n:Nat}(h:W.ranges Tryz.prog k R b r n D left cnt)(hb:W'.heap[b]?=W.heap[b]?)(hr:W'.heap[r]?=W.heap[r]?):W'.ranges Tryz.prog k R b r n D left cnt:=by
 obtain⟨es,clock,since,seen,c0,h1,h2,h3,h4,h5,h6⟩:=h;exact⟨es,clock,since,seen,c0,hb.trans h1,h2,h3,h4,hr.trans h5,h6⟩
theorem qsu{v:Vq}(h:v.formed Tryz.prog 109=true):∃a b,v=.agg #[a,b]:=by
 unfold Value.formed at h
 rewrite [Tryz.underlying109] at h
 cases v <;> simp at h
 rename_i xs
 rewrite [qgg] at h
 obtain⟨l⟩:=xs
 match l,h with
 | [a,b],_=>exact⟨a,b,rfl⟩
 | [],h=>simp at h
 | [a],h=>simp at h
 | a::b::c::l,h=>simp at h
theorem qvb{d:Nat}{v:Vq}{r:List Lit}(h:Tryz.prog.keyLits (d+1) 9 [v]=some r):∃s:ByteArray,v=.string s/\r=[.string s.data.toList]/\s.size<=maxLen:=by
 unfold Program.keyLits at h
 rewrite [Tryz.underlying9] at h
 cases v <;> simp at h
 obtain⟨h1,h2⟩:=h;exact⟨_,rfl,h2.symm,h1⟩
theorem qh4{v:Vq}{l:Lit}(h:keyOf Tryz.prog 109 v=some l):∃x y,v=qem x y/\l=kT x y/\x.size<=maxLen/\y.size<=maxLen:=by
 obtain⟨d,hd⟩:=qqf;have h':=h;unfold keyOf at h
 rewrite [Tryz.underlying109] at h
 simp only[qkb,Bool.true_and,hd] at h;split at h
 ·rename_i hf;obtain⟨a,b,rfl⟩:=qsu hf
  have hk:∃x y:ByteArray,a=.string x/\b=.string y/\x.size<=maxLen/\y.size<=maxLen:=by
   unfold Program.keyLits at h
   rewrite [Tryz.underlying109] at h
   simp only[qgg,qr8,Value.cells] at h;simp[List.range_succ] at h
   cases ha:Tryz.prog.keyLits (d+1) 9 [a] with
   | none=>rw[ha] at h;simp at h
   | some ra=>
    rw[ha] at h
    cases hb:Tryz.prog.keyLits (d+1) 9 [b] with
    | none=>rw[hb] at h;simp at h
    | some rb=>
     obtain⟨x,rfl,_,hx⟩:=qvb ha;obtain⟨y,rfl,_,hy⟩:=qvb hb;exact⟨x,y,rfl,rfl,hx,hy⟩
  obtain⟨x,y,rfl,rfl,hx,hy⟩:=hk;have:=qcb x y hx hy;unfold qem at this
  rewrite [this] at h'
  cases h'
  exact⟨x,y,rfl,rfl,hx,hy⟩
 ·cases h
structure qnv(Bm Ba Bp B b87:Nat)(a:Am)(va:Vq)(put:Nms)(W:Wq):Prop where
 bm:W.heap[Bm]?=some (Obj.cells #[.map (some B)] 98)
 ba:W.heap[Ba]?=some (Obj.cells #[.string a.rel,va] 92)
 bp:W.heap[Bp]?=some (Obj.cells put.c 176)
 sl:Qd W b87 va a.args
theorem qnv.kept{put:Nms}(h:qnv Bm Ba Bp B b87 a va put W)(hk:∀(k:Nat) (c:Array Vq) (t:TypeId),qcj t->W.heap[k]?=some (Obj.cells c t (0,0))->W'.heap[k]?=some (Obj.cells c t (0,0))):qnv Bm Ba Bp B b87 a va put W':=
 ⟨hk _ _ _ (by unfold qcj;decide) h.bm,hk _ _ _ (by unfold qcj;decide) h.ba,hk _ _ _ (by unfold qcj;decide) h.bp,h.sl.kept (λk c _ hc=>hk k c _ (by unfold qcj;decide) hc)⟩
theorem qnv.below{put:Nms}(h:qnv Bm Ba Bp B b87 a va put W)(hb:Below W.heap.size W W'):qnv Bm Ba Bp B b87 a va put W':=
 h.kept (λk c t _ hk=>(hb.block k (zg hk).1).trans hk)
theorem qnv.cells{put:Nms}(h:qnv Bm Ba Bp B b87 a va put W) :
  W.cell? ⟨Ba,0,none⟩=some (.string a.rel)/\W.cell? ⟨Ba,1,none⟩=some va/\W.cell? ⟨Bp,0,none⟩=some (.string put.a0)/\W.cell? ⟨Bp,1,none⟩=some (.string put.a1)/\W.cell? ⟨Bp,2,none⟩=some (.string put.a2)/\W.cell? ⟨Bp,3,none⟩=some (.string put.a3)/\W.cell? ⟨Bp,4,none⟩=some (.string put.a4)/\W.cell? ⟨Bp,5,none⟩=some (.string put.a5):=by
 have h1:=h.ba;have h2:=h.bp;unfold Nms.c at h2;simp[World.cell?,h1,h2]
structure qzh(b r nn:Nat)(Di:DataW Vq)(put:Nms)(a:Am)(W:Wq)(ks:List (ByteArray×ByteArray))(ys:List Nms)(cnt:Nat):Prop where
 rg:∃left,W.ranges Tryz.prog 109 (plainElem Tryz.prog 3) b r nn Di left cnt/\∀x y:ByteArray,x.size<=maxLen->y.size<=maxLen->((x,y)∈ks↔Maps.has Di (kT x y)=true/\left (kT x y)=false)
 nodup:ks.Nodup
 sizes:∀k∈ks,k.1.size<=maxLen/\k.2.size<=maxLen
 few:ks.length+cnt<=nn
 out:ys=ks.filterMap (λk=>qaj put a k.1 k.2)
theorem q5p{put:Nms}:(ks.filterMap (λk=>qaj put a k.1 k.2)).length<=ks.length:=List.length_filterMap_le _ _
theorem qht{c:Nat}:∀(l:List (Tm×ByteArray)) (n m:Nms),(∀k,(n.get k).size<=c)->(∀p∈l,p.1.num < 6/\p.2.size<=c)->qaw n l=some m->∀k,(m.get k).size<=c
 | [],n,m,hn,_,h=>by simp only[qaw,Option.some.injEq] at h;subst h;exact hn
 | p::l,n,m,hn,hl,h=>by
  simp only[qaw] at h
  cases hs:Qx n p.1 p.2 with
  | none=>rw[hs] at h;cases h
  | some n'=>
   rw[hs] at h;refine qht l n' m ?_ (λq hq=>hl q (List.mem_cons_of_mem _ hq)) h;obtain⟨h6,hz⟩:=hl p List.mem_cons_self;unfold Qx at hs;split at hs
   ·cases hs;unfold qks;split
    ·intro k;rw[Nms.get_set _ _ _ _ h6];split
     ·exact hz
     ·exact hn k
    ·exact hn
   ·cases hs
theorem q6t(hx:x.size<=maxLen)(hy:y.size<=maxLen)(hx':x'.size<=maxLen)(hy':y'.size<=maxLen):(kT x' y').sameKey (kT x y)=decide (x'=x/\y'=y):=by
 rw[Bool.eq_iff_iff,WideAt.sameKey_iff (qco.key (qcb x y hx hy)),decide_eq_true_iff];exact⟨λh=>q35 hx' hy' hx hy h,by rintro⟨rfl,rfl⟩;rfl⟩
theorem qzh.step{r nn:Nat}{Di:DataW Vq}{put:Nms}{ys:List Nms}{cnt':Nat}{d:DataW Vq}(qo6:∀x y:ByteArray,x.size<=maxLen->y.size<=maxLen->((x,y)∈ks↔Maps.has Di (kT x y)=true/\left (kT x y)=false))(hnd:ks.Nodup)(hks:∀k∈ks,k.1.size<=maxLen/\k.2.size<=maxLen)(qmq:ks.length+cnt<=nn)(qo8:ys=ks.filterMap (λk=>qaj put a k.1 k.2))(hx:x.size<=maxLen)(hy:y.size<=maxLen)(hlk:left (kT x y)=true)(hat:∀zd,Di.atKey (kT x y) zd=d)(hrg:W.ranges Tryz.prog 109 (plainElem Tryz.prog 3) b r nn Di (λz=>left z && !z.sameKey (kT x y)) cnt')(hlt:cnt' < cnt)(hb:W'.heap[b]?=W.heap[b]?)(hr:W'.heap[r]?=W.heap[r]?):qzh b r nn Di put a W' (ks++[(x,y)]) (ys++(qaj put a x y).toList) cnt':=by
 refine⟨⟨_,qnn hrg hb hr,λx' y' hx' hy'=>?_⟩,?_,?_,by simp;omega,?_⟩
 ·rw[q6t hx hy hx' hy'];by_cases h:x'=x/\y'=y
  ·obtain⟨rfl,rfl⟩:=h;simp[Maps.has_true_of_atKey hat]
  ·rw[decide_eq_false h];simp only[List.mem_append,List.mem_singleton,Prod.mk.injEq,h,or_false,Bool.not_false,Bool.and_true];exact qo6 x' y' hx' hy'
 ·rw[List.nodup_append];refine⟨hnd,by simp,?_⟩;rintro k hk k' hk' rfl;simp only[List.mem_singleton] at hk';subst hk';have:=((qo6 x y hx hy).1 hk).2;rw[hlk] at this;cases this
 ·intro k hk;rcases List.mem_append.1 hk with h | h
  ·exact hks k h
  ·simp only[List.mem_singleton] at h;subst h;exact⟨hx,hy⟩
 ·rw[List.filterMap_append,qo8]
  cases h:qaj put a x y <;> simp[h]
def NmB(c:Nat):={p:Nms // ∀k,(p.get k).size<=c}
abbrev NmX:=NmB maxLen
theorem qui(sz:Nat)(n:Nat)(hn:4<=n)(Bm Ba Bp B nn b87:Nat)(M:Gd->Option Int)(a:Am)(va:Vq)(put:Nms)(w:Wq)(hm:w.heap[Bm]?=some (Obj.cells #[.map (some B)] 98))(ha:w.heap[Ba]?=some (Obj.cells #[.string a.rel,va] 92))(hp:w.heap[Bp]?=some (Obj.cells put.c 176))(hM:qda w B nn M)(hS:Qd w b87 va a.args)(hal:a.args.length<=2)(qd0:∀t∈a.args,t.num < 6)(hrel:a.rel.size<=maxLen)(qd1:∀k,(put.get k).size<=sz)(hMs:∀x y,x.size<=maxLen->y.size<=maxLen->(M ⟨a.rel,x,y⟩).isSome=true->x.size<=sz/\y.size<=sz)(m:Nat) :
  qfg m n 156 #[.pointer (some ⟨Bm,0,none⟩),.pointer (some ⟨Ba,0,none⟩),.pointer (some ⟨Bp,0,none⟩)] (λp:NmB sz=>#[p.1.v]) (qt m)
   (λys=>∃ks:List (ByteArray×ByteArray),ks.Nodup/\(∀x y,(x,y)∈ks↔(x.size<=maxLen/\y.size<=maxLen/\(M ⟨a.rel,x,y⟩).isSome=true))/\ks.length<=nn/\ys.map (·.1)=ks.filterMap (λk=>qaj put a k.1 k.2)) (λ_=>True) nn w:=by
 intro l J Jx W hW hsz hJ hJx hY h0;have hkW:qt m w W:=qt.ofBelow hW;have hm':=hkW.cells _ _ _ (by unfold qcj;decide) hm;have ha':=hkW.cells _ _ _ (by unfold qcj;decide) ha;have hp':=hkW.cells _ _ _ (by unfold qcj;decide) hp;have hM':=hM.mk hkW;have hS':=hS.mk hkW;clear hm ha hp hM hS hkW hW;obtain⟨ta,tc,hva⟩:=hS'.form;subst hva;have c0:W.cell? ⟨Bm,0,none⟩=some (.map (some B)):=by simp[World.cell?,hm']
 have c1:W.cell? ⟨Ba,0,none⟩=some (.string a.rel):=by simp[World.cell?,ha']
 obtain⟨D,blk,o1,o2,o3,o4⟩:=hM';obtain⟨mv,l1,l2⟩:=qjj o1 a.rel hrel;have n1:1<=n:=by omega
 have HY:Hid _:=hY;have HJ:Hid (OwnFrom W.heap.size J):=hJ;have HJx:Hid (OwnFrom W.heap.size Jx):=hJx;clear hY hJ hJx
 cases hbk:blk a.rel with
 | none=>
  obtain⟨q1,q2⟩:=(o2 a.rel hrel).1 hbk;rw[Maps.atKey_of_not_has q1] at l2;cases l2
  have Qct:Hid (∃ks':List (ByteArray×ByteArray),ks'.Nodup/\(∀x y,(x,y)∈ks'↔(x.size<=maxLen/\y.size<=maxLen/\(M ⟨a.rel,x,y⟩).isSome=true))/\ks'.length<=nn/\([]:List (NmB sz)).map (·.1)=ks'.filterMap (λk=>qaj put a k.1 k.2)):=
   ⟨[],List.nodup_nil,λx y=>by simp[q2 x y],by simp,rfl⟩
  have hJ1:Hid (J [] (W.alloc (.mapIter none 0 #[] 0))):=HJ.out _ _ _ none h0 (qh ((Below.refl _ W).alloc zl _)) (λr e=>by cases e);have hrn:=run_range_nilMap (P:=Tryz.prog) W 174 109 3 Tryz.underlying174;have hnx:=λty=>run_next_nilMap (P:=Tryz.prog) W ty 0 0 #[];clear o1 o2 o3 o4 h0 hS' hbk q1 q2 qd0 qd1 hMs;refine callsIn_of_wp Tryz.func156 rfl trivial ?_;simp only[Tryz.ntmps156,List.size_toArray,List.length_cons,List.length_nil,Nat.reduceAdd,Nat.reduceSub,Array.replicate_succ,Array.replicate_zero,List.push_toArray,List.append_toArray,List.nil_append,List.cons_append]
  gi_wp2
  gi_loopw [5] (λ_ wr=>wr=W.alloc (.mapIter none 0 #[] 0)) (λ_ _=>0)
  case atStart=>rfl
  case round=>
   subst hrel
   gi_wp2
   go_end0
   exact⟨⟨_,rfl⟩,.inl ⟨[],Qct.out,hJ1.out⟩⟩
 | some b=>
  obtain⟨q1,q2,q3,Di,q4,q5⟩:=(o2 a.rel hrel).2 b hbk;rw[q2] at l2;cases l2;have HO:Hid (W.ownsMap Tryz.prog 109 (plainElem Tryz.prog 3) b nn Di):=q4;have HQ:Hid _:=q5;have HH:Hid _:=h0;have HS:Hid _:=hS';have HNm:Hid _:=qd0;have Qec:Hid _:=qd1;have HMs:Hid _:=hMs;clear o1 o2 o3 o4 q4 q5 h0 hS' qd0 qd1 hbk q1 q2 hMs;refine callsIn_of_wp Tryz.func156 rfl trivial ?_;simp only[Tryz.ntmps156,List.size_toArray,List.length_cons,List.length_nil,Nat.reduceAdd,Nat.reduceSub,Array.replicate_succ,Array.replicate_zero,List.push_toArray,List.append_toArray,List.nil_append,List.cons_append]
  gi_wp2_with (gi_at_range;refine wpListIn_range_own _ rfl _ 174 rfl 109 3 qco Tryz.underlying174 (plainElem Tryz.prog 3) b nn Di rfl HO.out ?_;intro w1 hrg1 hgr1 Qc6)
  have hE:qnv Bm Ba Bp B b87 a (.slice ta a.args.length tc) put W:=⟨hm',ha',hp',HS.out⟩;have hb1:Below W.heap.size W w1:=⟨hgr1.os,hgr1.tape,hgr1.output,hgr1.size,λk hk=>hgr1.block k hk (by simp)⟩;have hE1:=hE.below hb1;have hJ1:J [] w1:=HJ.out _ _ _ none HH.out hgr1 (λr e=>by cases e);have hR1:qzh b W.heap.size nn Di put a w1 [] [] (Maps.size Di):=⟨⟨_,hrg1,λx y _ _=>by simp⟩,List.nodup_nil,by simp,by simpa using World.ownsMap.size_le HO.out,rfl⟩;obtain⟨r,hr⟩:∃r,W.heap.size=r:=⟨_,rfl⟩;rw[hr] at HJ HJx hsz hR1;simp only[hr];clear hm' ha' hp' hE c0 c1 l1 hrg1 hgr1 hb1
  gi_loopw [5] (λ_ wr=>∃(ks:List (ByteArray×ByteArray)) (pre:List (NmB sz)) (cnt:Nat),J pre wr/\qzh b r nn Di put a wr ks (pre.map (·.1)) cnt/\qnv Bm Ba Bp B b87 a (.slice ta a.args.length tc) put wr/\r+1<=wr.heap.size/\b < r) (λ_ wr=>wr.rangeLeft b r)
  case atStart=>exact⟨[],[],_,hJ1,hR1,hE1,by omega,by have:=World.ownsMap.lt HO.out;omega⟩
  case round=>
   obtain⟨ks,pre,cnt,hJk,⟨⟨left,hrg,qo6⟩,hnd,hks,qmq,qo8⟩,hEk,hrs,hbr⟩:=hrel
   gi_wp2_with (gi_at_next;refine wpListIn_next_ranges _ rfl _ rfl 109 qco (plainElem Tryz.prog 3) (λp:ByteArray×ByteArray=>.agg #[.string p.1,.string p.2]) (λc:Int=>Value.int .i64 c) (λkey kl qlm=>by obtain⟨x,y,rfl,_⟩:=qh4 qlm;exact⟨(x,y),rfl⟩) (λv y hv=>by obtain⟨c,rfl,_⟩:=plainElem_int_inv Tryz.underlying3 hv;exact⟨c,rfl⟩) b r nn Di left cnt rfl hrg ?_ ?_)
   ·intro _ hl0
    have q9:Hid (∃ks':List (ByteArray×ByteArray),ks'.Nodup/\(∀x y,(x,y)∈ks'↔(x.size<=maxLen/\y.size<=maxLen/\(M ⟨a.rel,x,y⟩).isSome=true))/\ks'.length<=nn/\pre.map (·.1)=ks'.filterMap (λk=>qaj put a k.1 k.2)):=by
     refine⟨ks,hnd,λx y=>⟨λh=>?_,λh=>?_⟩,by omega,qo8⟩
     ·obtain⟨k1,k2⟩:=hks _ h;refine⟨k1,k2,?_⟩;rw[<- (HQ.out x y k1 k2).1];exact ((qo6 x y k1 k2).1 h).1
     ·obtain⟨k1,k2,k3⟩:=h;exact (qo6 x y k1 k2).2 ⟨by rw[(HQ.out x y k1 k2).1];exact k3,hl0 _⟩
    gi_wp2
    go_end0
    exact⟨⟨_,rfl⟩,.inl ⟨pre,q9.out,hJk⟩⟩
   ·intro x y c kl d ps w' cnt' qlm hlk hv hat hrg' hlt hgr Qc7 hen;obtain⟨x',y',hxy,rfl,hx,hy⟩:=qh4 qlm;obtain⟨rfl,rfl⟩:x=x'/\y=y':=by simpa [qem] using hxy
    have q9v:∃o:Obj,wr.heap[r]?=some o/\o.isCells=false:=by
     obtain⟨es,clock,since,seen,c0,_,_,_,_,h5,_⟩:=hrg;exact⟨_,h5,rfl⟩
    have hJ':J pre w':=HJ.out _ _ _ (some r) hJk hgr (λr' e=>by cases e;exact⟨Nat.le_refl _,q9v⟩);have hE':qnv Bm Ba Bp B b87 a (.slice ta a.args.length tc) put w':=hEk.kept (λk c t _ hk=>qj hgr (λr' e=>by cases e;exact q9v) k c t _ hk)
    have hma:Hid (∀O,Calls Tryz.prog 157 #[.agg #[.string put.a0,.string put.a1,.string put.a2,.string put.a3,.string put.a4,.string put.a5],.agg #[.string a.rel,.slice ta a.args.length tc],.agg #[.string x,.string y]] (w'.alloc O) λe W1=>e=.returned (qkq (qaj put a x y))/\Below (w'.alloc O).heap.size (w'.alloc O) W1):=λO=>
     qrz put a _ b87 x y _ (hE'.below ((Below.refl _ w').alloc zl O)).sl hal HNm.out
    have hcl:∀O,_:=λO=>(hE'.below ((Below.refl _ w').alloc zl O)).cells;have k1:=λO=>(hcl O).1;have k2:=λO=>(hcl O).2.1;have k3:=λO=>(hcl O).2.2.1;have k4:=λO=>(hcl O).2.2.2.1;have k5:=λO=>(hcl O).2.2.2.2.1;have k6:=λO=>(hcl O).2.2.2.2.2.1;have k7:=λO=>(hcl O).2.2.2.2.2.2.1;have k8:=λO=>(hcl O).2.2.2.2.2.2.2
    have qa1:Hid (∀O W1 O',Below (w'.alloc O).heap.size (w'.alloc O) W1->∀W2,qt m (W1.alloc O') W2->qzh b r nn Di put a W2 (ks++[(x,y)]) (pre.map (·.1)++(qaj put a x y).toList) cnt'/\qnv Bm Ba Bp B b87 a (.slice ta a.args.length tc) put W2/\r+1<=W2.heap.size):=by
     intro O W1 O' hb W2 hk;have hbb:Below w'.heap.size w' (W1.alloc O'):=(((Below.refl _ w').alloc zl O).trans (hb.mono (by simp))).alloc (by have:=hb.size;simp at this;omega) _;have qxh:=qnn hrg' (hbb.block b (by omega)) (hbb.block r (by omega));refine⟨qzh.step qo6 hnd hks qmq qo8 hx hy hlk hat qxh hlt ?_ ?_,(hE'.below hbb).kept hk.cells,by have:=hbb.size;have:=hk.from'.size;omega⟩
     ·obtain⟨es,clock,since,seen,c0,h1,_⟩:=qxh;rw[h1];exact hk.maps _ _ _ h1
     ·obtain⟨es,clock,since,seen,c0,_,_,_,_,h5,_⟩:=qxh;rw[h5];exact hk.from'.same _ _ (by omega) h5 rfl
    have hpl:pre.length < nn:=by
     have h1:=q5p (put:=put) (a:=a) (ks:=ks);have h2:pre.length=(ks.filterMap (λk=>qaj put a k.1 k.2)).length:=by rw[<- qo8];simp
     omega
    have HJ1:Hid (∀O W1 O',Below (w'.alloc O).heap.size (w'.alloc O) W1->J pre (W1.alloc O')):=by
     intro O W1 O' hb;have hbb:Below w'.heap.size w' (W1.alloc O'):=(((Below.refl _ w').alloc zl O).trans (hb.mono (by simp))).alloc (by have:=hb.size;simp at this;omega) _;exact HJ.out _ _ _ none hJ' (qh hbb) (λr' e=>by cases e)
    have qll:Maps.has Di (kT x y)=true:=by
     cases hh:Maps.has Di (kT x y) with
     | true=>rfl
     | false=>
      have e1:=hat (.lit (.int .i64 0));have e2:=hat (.lit (.int .i64 1));rw[Maps.atKey_of_not_has hh] at e1 e2;rw[<- e2] at e1;cases e1
    have q98:=HMs.out x y hx hy (by rw[<- (HQ.out x y hx hy).1];exact qll)
    have Qfo:Hid (∀p,qaj put a x y=some p->∀k,(p.get k).size<=sz):=λp hp=>
     qht _ _ _ Qec.out (λq hq=>⟨HNm.out _ (List.of_mem_zip hq).1,by
      have:=(List.of_mem_zip hq).2;simp at this;rcases this with h | h <;> rw[h]
      ·exact q98.1
      ·exact q98.2⟩) hp
    clear qll q98;have q74:Hid (wr.rangeLeft b r=cnt):=hrg.left_eq;clear hcl hJk hrg hEk hE' hJ' hrg' qo6 hnd hks qo8 q9v qlm hv hat hxy hgr hrs
    cases hm1:qaj put a x y with
    | none=>
     rw[hm1] at hma qa1;unfold qkq Nms.v Qg Nms.c at hma
     gi_wp2_with (refine⟨trivial,?_⟩;gi_at_call 157;refine (callsIn_wide.2 (hma.out _)).mono ?_;rintro e W1 ⟨rfl,hb1⟩)
     refine⟨λf h=>(by cases h),?_⟩
     gi_wp2
     obtain⟨s1,s2,s3⟩:=qa1.out _ W1 _ hb1 _ (qt.ofBelow (Below.refl _ _));refine⟨⟨_,pre,cnt',HJ1.out _ W1 _ hb1,by simpa using s1,s2,s3,hbr⟩,?_⟩;obtain⟨left',qxh,_⟩:=s1.rg;rw[qxh.left_eq,q74.out];exact hlt
    | some p=>
     rw[hm1] at hma qa1;have qxg:=Qfo.out p hm1
     have q3t:Hid (∀O W1 O',Below (w'.alloc O).heap.size (w'.alloc O) W1->YieldAt Fence.wide (n - 1) Tryz.prog l #[p.v] (W1.alloc O') λe W'=>(e=.returned (.bool true)/\J (pre++[⟨p,qxg⟩]) W'/\qt m (W1.alloc O') W')\/(e=.returned (.bool false)/\Jx (pre++[⟨p,qxg⟩]) W'/\KeepsFrom m (W1.alloc O') W')):=λO W1 O' hb=>
      HY.out pre ⟨p,qxg⟩ _ (HJ1.out O W1 O' hb) hpl
     unfold qkq Nms.v Nms.c at hma;unfold Nms.v Nms.c at q3t
     gi_wp2_with (first | (refine⟨trivial,?_⟩;gi_at_call 157;refine (callsIn_wide.2 (hma.out _)).mono ?_;rintro e W1 ⟨rfl,hb1⟩;obtain⟨fn2,tmps2,assign2,body2,hy2,hR2⟩:=q3t.out _ W1 (.cells #[.string p.a0,.string p.a1,.string p.a2,.string p.a3,.string p.a4,.string p.a5] 176) hb1))
     refine hR2.mono ?_;rintro e W3 (⟨rfl,hJ3,hk3⟩ | ⟨rfl,hJx3,_⟩)
     ·clear hy2 hR2
      gi_wp2
      obtain⟨s1,s2,s3⟩:=qa1.out _ W1 _ hb1 W3 hk3;refine⟨⟨_,pre++[⟨p,qxg⟩],cnt',hJ3,by rw[List.map_append];exact s1,s2,s3,hbr⟩,?_⟩;obtain⟨left',qxh,_⟩:=s1.rg;rw[qxh.left_eq,q74.out];exact hlt
     ·clear hy2 hR2
      gi_wp2
      refine bodyPost_ret (results_none rfl _ _ _) rfl ?_;exact⟨⟨_,rfl⟩,.inr ⟨_,trivial,hJx3⟩⟩
theorem quj(sz:Nat)(n:Nat)(Bm Ba Bp B nn b87:Nat)(M:Gd->Option Int)(a:Am)(va:Vq)(put:Nms)(w:Wq)(hm:w.heap[Bm]?=some (Obj.cells #[.map (some B)] 98))(ha:w.heap[Ba]?=some (Obj.cells #[.string a.rel,va] 92))(hp:w.heap[Bp]?=some (Obj.cells put.c 176))(hM:qda w B nn M)(hS:Qd w b87 va a.args)(hal:a.args.length<=2)(qd0:∀t∈a.args,t.num < 6)(hrel:a.rel.size<=maxLen)(qd1:∀k,(put.get k).size<=sz)(hMs:∀x y,x.size<=maxLen->y.size<=maxLen->(M ⟨a.rel,x,y⟩).isSome=true->x.size<=sz/\y.size<=sz)(m:Nat) :
  qfg m n 156 #[.pointer (some ⟨Bm,0,none⟩),.pointer (some ⟨Ba,0,none⟩),.pointer (some ⟨Bp,0,none⟩)] (λp:NmB sz=>#[p.1.v]) (qt m)
   (λys=>∃ks:List (ByteArray×ByteArray),ks.Nodup/\(∀x y,(x,y)∈ks↔(x.size<=maxLen/\y.size<=maxLen/\(M ⟨a.rel,x,y⟩).isSome=true))/\ks.length<=nn/\ys.map (·.1)=ks.filterMap (λk=>qaj put a k.1 k.2)) (λ_=>True) nn w:=
 qfg.any (qui sz 4 zl Bm Ba Bp B nn b87 M a va put w hm ha hp hM hS hal qd0 hrel qd1 hMs m) n
theorem qwx(n:Nat)(Bm Ba Bp B nn b87:Nat)(M:Gd->Option Int)(a:Am)(va:Vq)(put:Nms)(w:Wq)(hm:w.heap[Bm]?=some (Obj.cells #[.map (some B)] 98))(ha:w.heap[Ba]?=some (Obj.cells #[.string a.rel,va] 92))(hp:w.heap[Bp]?=some (Obj.cells put.c 176))(hM:qda w B nn M)(hS:Qd w b87 va a.args)(hal:a.args.length<=2)(qd0:∀t∈a.args,t.num < 6)(hrel:a.rel.size<=maxLen)(qd1:∀k,(put.get k).size<=maxLen)(m:Nat) :
  qfg m n 156 #[.pointer (some ⟨Bm,0,none⟩),.pointer (some ⟨Ba,0,none⟩),.pointer (some ⟨Bp,0,none⟩)] (λp:NmX=>#[p.1.v]) (qt m)
   (λys=>∃ks:List (ByteArray×ByteArray),ks.Nodup/\(∀x y,(x,y)∈ks↔(x.size<=maxLen/\y.size<=maxLen/\(M ⟨a.rel,x,y⟩).isSome=true))/\ks.length<=nn/\ys.map (·.1)=ks.filterMap (λk=>qaj put a k.1 k.2)) (λ_=>True) nn w:=
 quj maxLen n Bm Ba Bp B nn b87 M a va put w hm ha hp hM hS hal qd0 hrel qd1 (λx y hx hy _=>⟨hx,hy⟩) m
