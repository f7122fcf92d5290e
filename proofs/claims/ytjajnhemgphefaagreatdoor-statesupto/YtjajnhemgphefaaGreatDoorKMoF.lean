/- A part -/
import Derived.Maps.OwnSet
import Derived.Maps.RangeWalk
import Derived.DeepKeys4
import Derived.Test.YtjajnhemgphefaaGreatDoorKMoC
import Derived.Test.YtjajnhemgphefaaGreatDoorKTxt
import Derived.Maps.OwnIn
import Derived.Sort.MapsRangeIn
set_option linter.all false
set_option maxRecDepth 100000
set_option maxHeartbeats 4000000
namespace Go.Proofs.YtjajnhemgphefaaGreatDoor
open Go renaming World->Wq,Value->Vq
open Go.RowKit Go.Shelf Go.Maps
variable {W W' A:Wq} {B b n' lo m aj Bm Ba Bp aa:Nat} {M:Gd->Option Int} {D:DataW Vq} {x y r x' y':ByteArray} {g:Gd} {e:Int} {left:Lit->Bool} {a:Am} {va:Vq} {ks:List (ByteArray×ByteArray)}
theorem qqx:Keyed Tryz.prog 9:=string_keyed Tryz.underlying9
theorem q5c:laidOutB Tryz.prog=true:=by kernel_rfl
theorem qcq:Keyed Tryz.prog 109:=Keyed.of_law (deep_law_laid q5c (m:=5) (by decide) (of_decide_eq_true (by kernel_rfl)) (by kernel_rfl) (by kernel_rfl))
def kS(s:ByteArray):Lit:=.string s.data.toList
def kT(x y:ByteArray):Lit:=.string (keyBytes [.string x.data.toList,.string y.data.toList])
def qfa(x y:ByteArray):Vq:=.agg #[.string x,.string y]
theorem qhh(s:ByteArray)(h:s.size<=maxLen):keyOf Tryz.prog 9 (.string s)=some (kS s):=WideMaps.keyOf_string_mk Tryz.underlying9 h
theorem qkp:Tryz.prog.keyType 109=true:=by kernel_rfl
theorem q2l:decide (0 < Tryz.prog.types.size)=true:=by kernel_rfl
theorem qq1:∃d,Tryz.prog.types.size=d+1:=by
 have h:=of_decide_eq_true q2l;exact⟨Tryz.prog.types.size - 1,by omega⟩
theorem qgq:Tryz.prog.cellsOf 109=2:=by kernel_rfl
theorem qsx:Tryz.prog.cellsOf 9=1:=by kernel_rfl
theorem qce(x y:ByteArray)(hx:x.size<=maxLen)(hy:y.size<=maxLen):keyOf Tryz.prog 109 (qfa x y)=some (kT x y):=by
 obtain⟨d,hd⟩:=qq1
 have hf:(qfa x y).formed Tryz.prog 109=true:=by
  simp[qfa,Value.formed,Tryz.underlying109,qgq]
 unfold keyOf;rw[Tryz.underlying109];simp only[qkp,hf,Bool.and_self,if_true,hd];simp[Program.keyLits,Tryz.underlying109,Tryz.underlying9,qgq,qsx,qfa,Value.cells,hx,hy,kT,List.range_succ]
def RV(v:Vq):Option (DataW Vq×List MemPlace):=some (.held v,[])
def qjn(W:Wq)(b n:Nat)(rel:ByteArray)(M:Gd->Option Int):Prop:=
 ∃Di:DataW Vq,W.ownsMap Tryz.prog 109 (plainElem Tryz.prog 3) b n Di/\
  ∀x y:ByteArray,x.size<=maxLen->y.size<=maxLen->Maps.has Di (kT x y)=(M ⟨rel,x,y⟩).isSome/\Di.atKey (kT x y) (.lit (.int .i64 0))=.lit (.int .i64 ((M ⟨rel,x,y⟩).getD 0))
def qd4(W:Wq)(B n:Nat)(M:Gd->Option Int):Prop:=
 ∃(D:DataW Vq) (blk:ByteArray->Option Nat),W.ownsMap Tryz.prog 9 RV B n D/\
  (∀rel:ByteArray,rel.size<=maxLen->
   (blk rel=none->Maps.has D (kS rel)=false/\∀x y,M ⟨rel,x,y⟩=none)/\
   (∀b,blk rel=some b->Maps.has D (kS rel)=true/\D.atKey (kS rel) (.held (.map none))=.held (.map (some b))/\b≠B/\qjn W b n rel M))/\
  (∀r1 r2 b,blk r1=some b->blk r2=some b->r1=r2)/\(∀r b,blk r=some b->r.size<=maxLen)
theorem qd4.kept{n:Nat}(h:qd4 W B n M)(hk:∀(k:Nat) (es:Array MapEntry) (c:Nat),W.heap[k]?=some (Obj.map es c)->W'.heap[k]?=some (Obj.map es c)):qd4 W' B n M:=by
 have ho:∀{k:TypeId} {R:Vq->Option (DataW Vq×List MemPlace)} {b n:Nat} {D:DataW Vq},W.ownsMap Tryz.prog k R b n D->W'.ownsMap Tryz.prog k R b n D:=by
  rintro k R b n D ⟨es,c,h1,h2,h3,h4⟩;exact⟨es,c,hk _ _ _ h1,h2,h3,h4⟩
 obtain⟨D,blk,h1,h2,h3⟩:=h;refine⟨D,blk,ho h1,λrel hr=>⟨(h2 rel hr).1,λb hb=>?_⟩,h3⟩;obtain⟨a1,a2,a3,Di,a4,a5⟩:=(h2 rel hr).2 b hb;exact⟨a1,a2,a3,Di,ho a4,a5⟩
theorem qd4.below{n:Nat}(h:qd4 W B n M)(hb:Below W.heap.size W W'):qd4 W' B n M:=
 h.kept (λk es c hk=>(hb.block k (zg hk).1).trans hk)
theorem qjy{n:Nat}(h:W.ownsMap Tryz.prog 9 RV B n D)(rel:ByteArray)(hr:rel.size<=maxLen) :
  ∃mv,(Instr.lookup 98 (.map (some B)) (.string rel) false).run Tryz.prog W=.ok mv W/\D.atKey (kS rel) (.held (.map none))=.held mv:=by
 obtain⟨es,clock,hb,F,_,rfl⟩:=h;rcases Maps.fit_look false qqx Tryz.underlying98 (Tryz.zeroValue174 W) hb F (qhh rel hr) with⟨b9,_,am⟩ | ⟨e0,y,_,_,b9,c6,am,_⟩
 .exact⟨.map none,b9,am _⟩
 .refine⟨e0.val,b9,?_⟩;rw[am];unfold RV at c6;cases c6;rfl
theorem qd4.look{n:Nat}(h:qd4 W B n M)(g:Gd)(hr:g.rel.size<=maxLen)(hx:g.x.size<=maxLen)(hy:g.y.size<=maxLen) :
  ∃mb,(Instr.lookup 98 (.map (some B)) (.string g.rel) false).run Tryz.prog W=.ok (.map mb) W/\
   (Instr.lookup 174 (.map mb) (qfa g.x g.y) true).run Tryz.prog W=.ok (.tuple #[.int .i64 ((M g).getD 0),.bool (M g).isSome]) W/\
   (Instr.lookup 174 (.map mb) (qfa g.x g.y) false).run Tryz.prog W=.ok (.int .i64 ((M g).getD 0)) W:=by
 obtain⟨D,blk,h1,h2,h3⟩:=h;obtain⟨mv,e1,e2⟩:=qjy h1 g.rel hr;have hk:=qce g.x g.y hx hy
 cases hbk:blk g.rel with
 | none=>
  obtain⟨a1,a2⟩:=(h2 g.rel hr).1 hbk;have hz:D.atKey (kS g.rel) (.held (.map none))=.held (.map none):=Maps.atKey_of_not_has a1 _;rw[hz] at e2;cases e2;have hM:M g=none:=a2 g.x g.y;refine⟨none,e1,?_,?_⟩
  .have:=Maps.look_nil (w:=W) true qcq Tryz.underlying174 (Tryz.zeroValue3 W) hk;rw[hM];exact this
  .have:=Maps.look_nil (w:=W) false qcq Tryz.underlying174 (Tryz.zeroValue3 W) hk;rw[hM];exact this
 | some b=>
  obtain⟨a1,a2,a3,Di,a4,a5⟩:=(h2 g.rel hr).2 b hbk;rw[a2] at e2;cases e2;obtain⟨k1,k2⟩:=a5 g.x g.y hx hy;refine⟨some b,e1,?_,?_⟩
  .obtain⟨v,ps,q1,q2⟩:=a4.look_ok qcq Tryz.underlying174 (Tryz.zeroValue3 W) (zd:=.lit (.int .i64 0)) (zp:=[]) (plainElem_int Tryz.underlying3 (by decide)) hk;rw[k2] at q2;obtain⟨c,rfl,hc,_⟩:=plainElem_int_inv Tryz.underlying3 q2;cases hc;rw[k1] at q1;exact q1
  .obtain⟨c,q1,q2,q3⟩:=a4.lookup_int qcq Tryz.underlying174 Tryz.underlying3 (Tryz.zeroValue3 W) hk;rw[k2] at q2;cases q2;exact q1
structure qik(g:Gd):Prop where
 rel:g.rel.size<=maxLen
 x:g.x.size<=maxLen
 y:g.y.size<=maxLen
theorem qzj(B n:Nat)(M:Gd->Option Int)(g:Gd)(hg:qik g)(w:Wq)(hM:qd4 w B n M) :
  Calls Tryz.prog 136 #[.map (some B),g.v] w λe w'=>e=.returned (.bool (M g).isSome)/\Below w.heap.size w w':=by
 have hl:∀O,∃mb,_:=λO=>(hM.below ((Below.refl _ w).alloc zl O)).look g hg.rel hg.x hg.y;unfold Gd.v Gd.c;unfold qfa at hl;obtain⟨mb,l1,l2,l3⟩:=hl (.cells #[.string g.rel,.string g.x,.string g.y] 111);clear hl hM;go_enter Tryz.func136,Tryz.ntmps136;go_wp2;go_ret;exact⟨rfl,(Below.refl _ w).alloc zl _⟩
structure qou(w w':Wq):Prop where
 os:w'.os=w.os
 tape:w'.tape=w.tape
 output:w'.output=w.output
 size:w.heap.size<=w'.heap.size
 block:∀(k:Nat) (o:Obj),w.heap[k]?=some o->(∀es c,o≠Obj.map es c)->w'.heap[k]?=some o
theorem Qcx(w:Wq):(binOp .eql 174 (.map none) (.map none)).run Tryz.prog w=.ok (.bool true) w:=by kernel_rfl
theorem Qak(b:Nat)(w:Wq):(binOp .eql 174 (.map (some b)) (.map none)).run Tryz.prog w=.ok (.bool false) w:=by kernel_rfl
def qdn(M:Gd->Option Int)(g:Gd)(e:Int):Gd->Option Int:=λh=>if h.rel=g.rel/\h.x=g.x/\h.y=g.y then some e else M h
theorem qiw(h:x.data.toList=y.data.toList):x=y:=by
 cases x;cases y
 simp only[ByteArray.mk.injEq];exact Array.toList_inj.1 h
theorem Qbz{s:ByteArray}(h:kS r=kS s):r=s:=by
 unfold kS at h;injection h with h;exact qiw h
theorem q47(hx:x.size<=maxLen)(hy:y.size<=maxLen)(a8:x'.size<=maxLen)(bd:y'.size<=maxLen)(h:kT x y=kT x' y'):x=x'/\y=y':=by
 have h1:=qce x y hx hy;have h2:=qce x' y' a8 bd;rw[h] at h1;have h3:=qcq.inj h1 h2;simp[qfa] at h3;exact h3
theorem qsd(hg:qik g){Di:DataW Vq}(c4:IsMap Di)(Q7:∀x y:ByteArray,x.size<=maxLen->y.size<=maxLen->Maps.has Di (kT x y)=(M ⟨g.rel,x,y⟩).isSome/\Di.atKey (kT x y) (.lit (.int .i64 0))=.lit (.int .i64 ((M ⟨g.rel,x,y⟩).getD 0))) :
  ∀x y:ByteArray,x.size<=maxLen->y.size<=maxLen->Maps.has (Di.put (kT g.x g.y) (.lit (.int .i64 e))) (kT x y)=(qdn M g e ⟨g.rel,x,y⟩).isSome/\(Di.put (kT g.x g.y) (.lit (.int .i64 e))).atKey (kT x y) (.lit (.int .i64 0))=.lit (.int .i64 ((qdn M g e ⟨g.rel,x,y⟩).getD 0)):=by
 intro x y hx hy;by_cases h:x=g.x/\y=g.y
 .obtain⟨rfl,rfl⟩:=h;have hu:qdn M g e ⟨g.rel,g.x,g.y⟩=some e:=by unfold qdn;simp
  rw[hu];exact⟨Maps.has_put_same c4 (qcq.key (qce _ _ hg.x hg.y)) _,Maps.atKey_put_same c4 (qcq.key (qce _ _ hg.x hg.y)) _ _⟩
 .have hu:qdn M g e ⟨g.rel,x,y⟩=M ⟨g.rel,x,y⟩:=by unfold qdn;rw[if_neg (λh'=>h h'.2)]
  have ay:kT x y≠kT g.x g.y:=λh'=>h (q47 hx hy hg.x hg.y h');rw[hu,Maps.has_put_other ay,Maps.atKey_put_other ay];exact Q7 x y hx hy
theorem qnp(h:r≠g.rel)(x y:ByteArray):qdn M g e ⟨r,x,y⟩=M ⟨r,x,y⟩:=by
 unfold qdn;rw[if_neg (λh'=>h h'.1)]
theorem qn1{n:Nat}(h:qjn W b n r M)(hr:r≠g.rel)(hk:W'.heap[b]?=W.heap[b]?)(hn:n<=n'):qjn W' b n' r (qdn M g e):=by
 obtain⟨Di,⟨es,c,h1,h2,h3,h4⟩,h5⟩:=h;refine⟨Di,⟨es,c,hk.trans h1,h2,by omega,h4⟩,λx y hx hy=>?_⟩;rw[qnp hr];exact h5 x y hx hy
theorem qjn.lt{n:Nat}(h:qjn W b n r M):b < W.heap.size:=by
 obtain⟨Di,h1,_⟩:=h;exact h1.lt
def MdL(lo:Nat)(W:Wq)(B n:Nat)(M:Gd->Option Int):Prop:=
 ∃(D:DataW Vq) (blk:ByteArray->Option Nat),W.ownsMap Tryz.prog 9 RV B n D/\
  (∀rel:ByteArray,rel.size<=maxLen->
   (blk rel=none->Maps.has D (kS rel)=false/\∀x y,M ⟨rel,x,y⟩=none)/\
   (∀b,blk rel=some b->Maps.has D (kS rel)=true/\D.atKey (kS rel) (.held (.map none))=.held (.map (some b))/\b≠B/\qjn W b n rel M))/\
  (∀r1 r2 b,blk r1=some b->blk r2=some b->r1=r2)/\(∀r b,blk r=some b->r.size<=maxLen)/\lo<=B/\∀r b,blk r=some b->lo<=b
theorem MdL.at'{n:Nat}(h:MdL lo W B n M):qd4 W B n M:=by
 obtain⟨D,blk,h1,h2,h3,h4,_⟩:=h;exact⟨D,blk,h1,h2,h3,h4⟩
theorem MdL.kept{n:Nat}(h:MdL lo W B n M)(hk:∀(k:Nat) (es:Array MapEntry) (c:Nat),W.heap[k]?=some (Obj.map es c)->W'.heap[k]?=some (Obj.map es c)):MdL lo W' B n M:=by
 have ho:∀{k:TypeId} {R:Vq->Option (DataW Vq×List MemPlace)} {b n:Nat} {D:DataW Vq},W.ownsMap Tryz.prog k R b n D->W'.ownsMap Tryz.prog k R b n D:=by
  rintro k R b n D ⟨es,c,h1,h2,h3,h4⟩;exact⟨es,c,hk _ _ _ h1,h2,h3,h4⟩
 obtain⟨D,blk,h1,h2,h3⟩:=h;refine⟨D,blk,ho h1,λrel hr=>⟨(h2 rel hr).1,λb hb=>?_⟩,h3⟩;obtain⟨a1,a2,a3,Di,a4,a5⟩:=(h2 rel hr).2 b hb;exact⟨a1,a2,a3,Di,ho a4,a5⟩
theorem MdL.mono{n:Nat}(h:MdL lo W B n M)(hn:n<=n'):MdL lo W B n' M:=by
 obtain⟨D,blk,h1,h2,h3⟩:=h;refine⟨D,blk,h1.mono hn,λrel hr=>⟨(h2 rel hr).1,λb hb=>?_⟩,h3⟩;obtain⟨a1,a2,a3,Di,a4,a5⟩:=(h2 rel hr).2 b hb;exact⟨a1,a2,a3,Di,a4.mono hn,a5⟩
theorem Qac(lo B n:Nat)(M:Gd->Option Int)(g:Gd)(e:Int)(hg:qik g)(w:Wq)(hM:MdL lo w B n M)(hn:n+5 < maxLen)(he:(Lit.int .i64 e).wf=true) :
  Calls Tryz.prog 137 #[.map (some B),.agg #[.string g.rel,.string g.x,.string g.y,.int .i64 e]] w λe' w'=>e'=.returned (.tuple #[])/\MdL lo w' B (n+2) (qdn M g e)/\qou w w'/\Below lo w w':=by
 have hm:=@run_makeMap Tryz.prog;have dt:=Qcx;have dm:=Qak;have az:=qce g.x g.y hg.x hg.y;unfold qfa at az;have Qcl:Hid _:=az;obtain⟨D,blk,h1,h2,h3,h4,h5,h6⟩:=hM;have dc:B < w.heap.size:=h1.lt;have ci:IsMap D:=h1.isMap;have ch:∃es c,w.heap[B]?=some (Obj.map es c):=by obtain⟨es,c,h,_⟩:=h1;exact⟨es,c,h⟩
 have ak:∀O,∃mv,(Instr.lookup 98 (.map (some B)) (.string g.rel) false).run Tryz.prog (w.alloc O)=.ok mv (w.alloc O)/\D.atKey (kS g.rel) (.held (.map none))=.held mv:=λO=>qjy (h1.alloc O) g.rel hg.rel;have cu:Hid (plainElem (H:=Vq) Tryz.prog 3 (.int .i64 e)=some (.lit (.int .i64 e),[])):=plainElem_int Tryz.underlying3 he
 cases hbk:blk g.rel with
 | none=>
  obtain⟨a1,a2⟩:=(h2 g.rel hg.rel).1 hbk;have hz:D.atKey (kS g.rel) (.held (.map none))=.held (.map none):=Maps.atKey_of_not_has a1 _;obtain⟨mv,e1,e2⟩:=ak (.cells #[.string g.rel,.string g.x,.string g.y,.int .i64 e] 172);rw[hz] at e2;cases e2;obtain⟨W1,bn⟩:∃W1,(w.alloc (.cells #[.string g.rel,.string g.x,.string g.y,.int .i64 e] 172)).alloc (.map #[] 0)=W1:=⟨_,rfl⟩;have ac:Below w.heap.size w W1:=by rw[<- bn];exact ((Below.refl _ w).alloc zl _).alloc (by simp) _
  have hO:W1.ownsMap Tryz.prog 9 RV B n D:=by rw[<- bn];exact (h1.alloc _).alloc _
  have hI:W1.ownsMap Tryz.prog 109 (plainElem (H:=Vq) Tryz.prog 3) (w.heap.size+1) 0 (.map []):=by
   rw[<- bn];have:=World.ownsMap_made (H:=Vq) (w.alloc (.cells #[.string g.rel,.string g.x,.string g.y,.int .i64 e] 172)) Tryz.prog 109 (plainElem Tryz.prog 3);rw[World.size_alloc] at this;exact this
  have hL:W1.heap[w.heap.size]?=some (Obj.cells #[.string g.rel,.string g.x,.string g.y,.int .i64 e] 172):=by
   rw[<- bn];exact (Below.heap_alloc _ _ _ (by simp)).trans (zn w _)
  have dk:W1.heap.size=w.heap.size+2:=by rw[<- bn];simp
  have dg:Hid (∀w1,w1.ownsMap Tryz.prog 9 RV B (n+1) (D.put (kS g.rel) (.held (.map (some (w.heap.size+1)))))->W1.grownBy w1 (some B)->
    (Instr.lookup 98 (.map (some B)) (.string g.rel) false).run Tryz.prog w1=.ok (.map (some (w.heap.size+1))) w1/\w1.heap[w.heap.size]?=some (Obj.cells #[.string g.rel,.string g.x,.string g.y,.int .i64 e] 172)/\w1.ownsMap Tryz.prog 109 (plainElem (H:=Vq) Tryz.prog 3) (w.heap.size+1) 0 (.map [])):=by
   intro w1 ho a9;obtain⟨mv,q1,q2⟩:=qjy ho g.rel hg.rel;rw[Maps.atKey_put_same ci (qqx.key (qhh _ hg.rel))] at q2;cases q2;exact⟨q1,(a9.block _ (by omega) (by simp;omega)).trans hL,hI.kept a9 (by simp;omega)⟩
  have q7:Hid (∀w1 w2,w1.ownsMap Tryz.prog 9 RV B (n+1) (D.put (kS g.rel) (.held (.map (some (w.heap.size+1)))))->W1.grownBy w1 (some B)->w2.ownsMap Tryz.prog 109 (plainElem (H:=Vq) Tryz.prog 3) (w.heap.size+1) (0+1) ((DataW.map []).put (kT g.x g.y) (.lit (.int .i64 e)))->w1.grownBy w2 (some (w.heap.size+1))->MdL lo w2 B (n+2) (qdn M g e)/\qou w w2/\Below lo w w2):=by
   intro w1 w2 ho au hi ab;have co:=au.size
   have av:∀k:Nat,k < w.heap.size->k≠B->w2.heap[k]?=w.heap[k]?:=λk hk ay=>
    ((ab.block k (by omega) (by simp;omega)).trans (au.block k (by omega) (by simp;omega))).trans (ac.block k hk)
   refine⟨⟨D.put (kS g.rel) (.held (.map (some (w.heap.size+1)))),λr=>if r=g.rel then some (w.heap.size+1) else blk r,(ho.kept ab (by simp;omega)).mono (by omega),λr hr=>?_,?_,?_,h5,?_⟩,⟨?_,?_,?_,?_,?_⟩,⟨ab.os.trans (au.os.trans ac.os),ab.tape.trans (au.tape.trans ac.tape),ab.output.trans (au.output.trans ac.output),by have:=ab.size;omega,λk hk=>av k (by omega) (by omega)⟩⟩
   .by_cases ae:r=g.rel
    .subst ae;simp only[if_true];refine⟨λh=>(by cases h),λb' ad=>?_⟩
     cases ad
     refine⟨Maps.has_put_same ci (qqx.key (qhh _ hg.rel)) _,Maps.atKey_put_same ci (qqx.key (qhh _ hg.rel)) _ _,by omega,_,hi.mono (by omega),qsd hg ⟨[],rfl⟩ (λx y hx hy=>?_)⟩;rw[a2 x y];exact⟨rfl,rfl⟩
    .have ay:kS r≠kS g.rel:=λh=>ae (Qbz h);simp only[if_neg ae];rw[Maps.has_put_other ay,Maps.atKey_put_other ay];refine⟨λh=>?_,λb' ad=>?_⟩
     .obtain⟨q1,q2⟩:=(h2 r hr).1 h;exact⟨q1,λx y=>by rw[qnp ae];exact q2 x y⟩
     .obtain⟨q1,q2,q3,q4⟩:=(h2 r hr).2 b' ad;exact⟨q1,q2,q3,qn1 q4 ae (av b' q4.lt q3) (by omega)⟩
   .intro r1 r2 b' k1 k2;simp only at k1 k2;have c5:∀r,blk r≠some (w.heap.size+1):=λr h=>by have:=((h2 r (h4 r _ h)).2 _ h).2.2.2.lt;omega
    by_cases b6:r1=g.rel
    .by_cases bu:r2=g.rel
     .rw[b6,bu]
     .rw[if_pos b6] at k1;rw[if_neg bu] at k2;cases k1;exact absurd k2 (c5 r2)
    .by_cases bu:r2=g.rel
     .rw[if_neg b6] at k1;rw[if_pos bu] at k2;cases k2;exact absurd k1 (c5 r1)
     .rw[if_neg b6] at k1;rw[if_neg bu] at k2;exact h3 r1 r2 b' k1 k2
   .intro r b' ad;by_cases ae:r=g.rel
    .rw[ae];exact hg.rel
    .simp only[if_neg ae] at ad;exact h4 r b' ad
   .intro r b' ad;by_cases ae:r=g.rel
    .simp only[if_pos ae] at ad;cases ad;omega
    .simp only[if_neg ae] at ad;exact h6 r b' ad
   .exact ab.os.trans (au.os.trans ac.os)
   .exact ab.tape.trans (au.tape.trans ac.tape)
   .exact ab.output.trans (au.output.trans ac.output)
   .have:=ab.size;omega
   .intro k o hk cj;have cc:=(zg hk).1;rw[av k cc (λe'=>?_)]
    .exact hk
    .subst e';obtain⟨es,c,hB⟩:=ch;rw[hB] at hk;cases hk;exact cj es c rfl
  have HO:Hid _:=hO;clear ak h1 h2 h3 h6 hz a1 a2 he hbk hO hI hL ac ch;go_enter Tryz.func137,Tryz.ntmps137
  go_wp2_with (first | (at_mapUpdate;refine wpList_mapUpdate_own _ rfl _ _ _ 98 rfl 9 174 qqx Tryz.underlying98 RV B n D rfl HO.out (by omega) _ _ (kS g.rel) rfl rfl (qhh _ hg.rel) (.held (.map (some (w.heap.size+1)))) [] rfl ?_;intro w1 aq al;obtain⟨s1,s2,s3⟩:=dg.out w1 aq al;have d0:w1.cell? ⟨w.heap.size,0,none⟩=some (.string g.rel):=(by simp[World.cell?,s2]);have d1:w1.cell? ⟨w.heap.size,1,none⟩=some (.string g.x):=(by simp[World.cell?,s2]);have d2:w1.cell? ⟨w.heap.size,2,none⟩=some (.string g.y):=(by simp[World.cell?,s2]);have d3:w1.cell? ⟨w.heap.size,3,none⟩=some (.int .i64 e):=(by simp[World.cell?,s2])) | (at_mapUpdate;refine wpList_mapUpdate_own _ rfl _ _ _ 174 rfl 109 3 qcq Tryz.underlying174 (plainElem Tryz.prog 3) (w.heap.size+1) 0 (.map []) rfl s3 (by omega) _ _ (kT g.x g.y) rfl rfl Qcl.out (.lit (.int .i64 e)) [] cu.out ?_;intro w2 cd ag) | go_in)
  go_end0
  exact⟨rfl,q7.out w1 w2 aq al cd ag⟩
 | some b=>
  obtain⟨a1,a2,a3,Di,a4,a5⟩:=(h2 g.rel hg.rel).2 b hbk;obtain⟨mv,e1,e2⟩:=ak (.cells #[.string g.rel,.string g.x,.string g.y,.int .i64 e] 172);rw[a2] at e2;cases e2;have dr:=a4.lt;have hI:(w.alloc (.cells #[.string g.rel,.string g.x,.string g.y,.int .i64 e] 172)).ownsMap Tryz.prog 109 (plainElem (H:=Vq) Tryz.prog 3) b n Di:=a4.alloc _
  have q7:Hid (∀w2,w2.ownsMap Tryz.prog 109 (plainElem (H:=Vq) Tryz.prog 3) b (n+1) (Di.put (kT g.x g.y) (.lit (.int .i64 e)))->(w.alloc (.cells #[.string g.rel,.string g.x,.string g.y,.int .i64 e] 172)).grownBy w2 (some b)->MdL lo w2 B (n+2) (qdn M g e)/\qou w w2/\Below lo w w2):=by
   intro w2 hi ab;have co:=ab.size;rw[World.size_alloc] at co
   have av:∀k:Nat,k < w.heap.size->k≠b->w2.heap[k]?=w.heap[k]?:=λk hk ay=>
    (ab.block k (by simp;omega) (by simp;omega)).trans (Below.heap_alloc _ _ _ hk)
   have dq:=h6 _ _ hbk;refine⟨⟨D,blk,?_,λr hr=>?_,h3,h4,h5,h6⟩,⟨ab.os,ab.tape,ab.output,by omega,?_⟩,⟨ab.os,ab.tape,ab.output,by omega,λk hk=>av k (by omega) (by omega)⟩⟩
   .obtain⟨es,c,q1,q2,q3,q4⟩:=h1;exact⟨es,c,(av B dc (λe'=>a3 e'.symm)).trans q1,q2,by omega,q4⟩
   .by_cases ae:r=g.rel
    .subst ae;refine⟨λh=>(by rw[hbk] at h;cases h),λb' ad=>?_⟩;rw[hbk] at ad
     cases ad
     exact⟨a1,a2,a3,_,hi.mono (by omega),qsd hg a4.isMap a5⟩
    .refine⟨λh=>?_,λb' ad=>?_⟩
     .obtain⟨q1,q2⟩:=(h2 r hr).1 h;exact⟨q1,λx y=>by rw[qnp ae];exact q2 x y⟩
     .obtain⟨q1,q2,q3,q4⟩:=(h2 r hr).2 b' ad;exact⟨q1,q2,q3,qn1 q4 ae (av b' q4.lt (λe'=>ae (h3 r g.rel b (e' ▸ ad) hbk))) (by omega)⟩
   .intro k o hk cj;have cc:=(zg hk).1;rw[av k cc (λe'=>?_)]
    .exact hk
    .subst e';obtain⟨es,c,hB,_⟩:=a4;rw[hB] at hk;cases hk;exact cj es c rfl
  have HI:Hid _:=hI;clear ak h1 h2 h3 h6 a1 a2 a5 a4 he hbk hI ch;go_enter Tryz.func137,Tryz.ntmps137
  go_wp2_with (first | (at_mapUpdate;refine wpList_mapUpdate_own _ rfl _ _ _ 174 rfl 109 3 qcq Tryz.underlying174 (plainElem Tryz.prog 3) b n Di rfl HI.out (by omega) _ _ (kT g.x g.y) rfl rfl Qcl.out (.lit (.int .i64 e)) [] cu.out ?_;intro w2 cd ag) | go_in)
  go_end0
  exact⟨rfl,q7.out w2 cd ag⟩
attribute [local go_sem] Oper.semAt_some
theorem qpc(B:Nat)(a:Am)(va:Vq)(put:Nms)(w:Wq)(ta:Option Addr)(tn tc:Nat)(cg:va=.slice ta tn tc) :
  Calls Tryz.prog 94 #[.map (some B),.agg #[.string a.rel,va],put.v] w λe w'=>e=.returned (.func (.func 156) #[] #[.pointer (some ⟨w.heap.size,0,none⟩),.pointer (some ⟨w.heap.size+1,0,none⟩),.pointer (some ⟨w.heap.size+2,0,none⟩)])/\
   w'=((w.alloc (.cells #[.map (some B)] 98)).alloc (.cells #[.string a.rel,va] 92)).alloc (.cells put.c 176):=by
 subst cg;unfold Nms.v Nms.c;go_enter Tryz.func94,Tryz.ntmps94;go_wp2;go_ret;exact⟨rfl,rfl⟩
def qcc(t:TypeId):Prop:=t≠9/\t≠22/\t≠172/\t≠169
structure qn(m:Nat)(W W':Wq):Prop where
 cells:∀(k:Nat) (c:Array Vq) (t:TypeId),qcc t->W.heap[k]?=some (Obj.cells c t (0,0))->W'.heap[k]?=some (Obj.cells c t (0,0))
 maps:∀(k:Nat) (es:Array MapEntry) (c:Nat),W.heap[k]?=some (Obj.map es c)->W'.heap[k]?=some (Obj.map es c)
 from':KeepsFrom m W W'
theorem qn.tr{B C:Wq}(h:qn m A B)(k:qn m B C):qn m A C:=⟨λi c t ht hi=>k.cells i c t ht (h.cells i c t ht hi),λi es c hi=>k.maps i es c (h.maps i es c hi),KeepsFrom.tr h.from' k.from'⟩
theorem qn.ofBelow(h:Below W.heap.size W W'):qn m W W':=⟨λk c t _ hk=>(h.block k (zg hk).1).trans hk,λk es c hk=>(h.block k (zg hk).1).trans hk,KeepsFrom.ofBelow h⟩
theorem qn.put(W:Wq)(l:Nat)(o o':Obj)(hl:l < m)(h:W.heap[l]?=some o)(ho:o.isCells=false)(c8:∀es c,o≠Obj.map es c):qn m W (W.putObj l o'):=
 ⟨λk c t _ hk=>qj (grownBy_putObj' W l o') (λr e=>by cases e;exact⟨_,h,ho⟩) k c _ _ hk,
  λk es c hk=>((grownBy_putObj' W l o').block k (zg hk).1 (λe=>by cases e;rw[h] at hk;cases hk;exact c8 _ _ rfl)).trans hk,
  (grownBy_putObj' W l o').size,λk x hk hx _=>((grownBy_putObj' W l o').block k (zg hx).1 (by simp;omega)).trans hx⟩
theorem qn.up{m':Nat}{B:Wq}(h:qn m A B)(hm:m<=m'):qn m' A B:=⟨h.cells,h.maps,KeepsFrom.up h.from' hm⟩
theorem Qi.mk{v:Vq}{l:List Tm}(h:Qi W b v l)(hk:qn m W W'):Qi W' b v l:=by
 refine h.kept (λk c _ hc=>hk.cells k c _ (by unfold qcc;decide) hc)
theorem qd4.mk{n:Nat}(h:qd4 W B n M)(hk:qn m W W'):qd4 W' B n M:=h.kept hk.maps
theorem qob{k:TypeId}{R:Vq->Option (DataW Vq×List MemPlace)}{r n:Nat}(h:W.ranges Tryz.prog k R b r n D left aj)(hb:W'.heap[b]?=W.heap[b]?)(hr:W'.heap[r]?=W.heap[r]?):W'.ranges Tryz.prog k R b r n D left aj:=by
 obtain⟨es,clock,ai,an,c0,h1,h2,h3,h4,h5,h6⟩:=h;exact⟨es,clock,ai,an,c0,hb.trans h1,h2,h3,h4,hr.trans h5,h6⟩
theorem qtm{v:Vq}(h:v.formed Tryz.prog 109=true):∃a b,v=.agg #[a,b]:=by
 unfold Value.formed at h
 rewrite [Tryz.underlying109] at h
 cases v <;> simp at h
 rename_i xs
 rewrite [qgq] at h
 obtain⟨l⟩:=xs
 match l,h with
 | [a,b],_=>exact⟨a,b,rfl⟩
 | [],h=>simp at h
 | [a],h=>simp at h
 | a::b::c::l,h=>simp at h
theorem qvw{d:Nat}{v:Vq}{r:List Lit}(h:Tryz.prog.keyLits (d+1) 9 [v]=some r):∃s:ByteArray,v=.string s/\r=[.string s.data.toList]/\s.size<=maxLen:=by
 unfold Program.keyLits at h
 rewrite [Tryz.underlying9] at h
 cases v <;> simp at h
 obtain⟨h1,h2⟩:=h;exact⟨_,rfl,h2.symm,h1⟩
theorem qie{v:Vq}{l:Lit}(h:keyOf Tryz.prog 109 v=some l):∃x y,v=qfa x y/\l=kT x y/\x.size<=maxLen/\y.size<=maxLen:=by
 obtain⟨d,hd⟩:=qq1;have h':=h;unfold keyOf at h
 rewrite [Tryz.underlying109] at h
 simp only[qkp,Bool.true_and,hd] at h;split at h
 .rename_i hf;obtain⟨a,b,rfl⟩:=qtm hf
  have hk:∃x y:ByteArray,a=.string x/\b=.string y/\x.size<=maxLen/\y.size<=maxLen:=by
   unfold Program.keyLits at h
   rewrite [Tryz.underlying109] at h
   simp only[qgq,qsx,Value.cells] at h;simp[List.range_succ] at h
   cases ha:Tryz.prog.keyLits (d+1) 9 [a] with
   | none=>rw[ha] at h;simp at h
   | some ra=>
    rw[ha] at h
    cases hb:Tryz.prog.keyLits (d+1) 9 [b] with
    | none=>rw[hb] at h;simp at h
    | some rb=>
     obtain⟨x,rfl,_,hx⟩:=qvw ha;obtain⟨y,rfl,_,hy⟩:=qvw hb;exact⟨x,y,rfl,rfl,hx,hy⟩
  obtain⟨x,y,rfl,rfl,hx,hy⟩:=hk;have:=qce x y hx hy;unfold qfa at this
  rewrite [this] at h'
  cases h'
  exact⟨x,y,rfl,rfl,hx,hy⟩
 .cases h
structure qok(Bm Ba Bp B aa:Nat)(a:Am)(va:Vq)(put:Nms)(W:Wq):Prop where
 bm:W.heap[Bm]?=some (Obj.cells #[.map (some B)] 98)
 ba:W.heap[Ba]?=some (Obj.cells #[.string a.rel,va] 92)
 bp:W.heap[Bp]?=some (Obj.cells put.c 176)
 sl:Qi W aa va a.args
theorem qok.kept{put:Nms}(h:qok Bm Ba Bp B aa a va put W)(hk:∀(k:Nat) (c:Array Vq) (t:TypeId),qcc t->W.heap[k]?=some (Obj.cells c t (0,0))->W'.heap[k]?=some (Obj.cells c t (0,0))):qok Bm Ba Bp B aa a va put W':=
 ⟨hk _ _ _ (by unfold qcc;decide) h.bm,hk _ _ _ (by unfold qcc;decide) h.ba,hk _ _ _ (by unfold qcc;decide) h.bp,h.sl.kept (λk c _ hc=>hk k c _ (by unfold qcc;decide) hc)⟩
theorem qok.below{put:Nms}(h:qok Bm Ba Bp B aa a va put W)(hb:Below W.heap.size W W'):qok Bm Ba Bp B aa a va put W':=
 h.kept (λk c t _ hk=>(hb.block k (zg hk).1).trans hk)
theorem qok.cells{put:Nms}(h:qok Bm Ba Bp B aa a va put W) :
  W.cell? ⟨Ba,0,none⟩=some (.string a.rel)/\W.cell? ⟨Ba,1,none⟩=some va/\W.cell? ⟨Bp,0,none⟩=some (.string put.a0)/\W.cell? ⟨Bp,1,none⟩=some (.string put.a1)/\W.cell? ⟨Bp,2,none⟩=some (.string put.a2)/\W.cell? ⟨Bp,3,none⟩=some (.string put.a3)/\W.cell? ⟨Bp,4,none⟩=some (.string put.a4)/\W.cell? ⟨Bp,5,none⟩=some (.string put.a5):=by
 have h1:=h.ba;have h2:=h.bp;unfold Nms.c at h2;simp[World.cell?,h1,h2]
structure qz5(b r nn:Nat)(Di:DataW Vq)(put:Nms)(a:Am)(W:Wq)(ks:List (ByteArray×ByteArray))(ys:List Nms)(aj:Nat):Prop where
 rg:∃left,W.ranges Tryz.prog 109 (plainElem Tryz.prog 3) b r nn Di left aj/\∀x y:ByteArray,x.size<=maxLen->y.size<=maxLen->((x,y)∈ks↔Maps.has Di (kT x y)=true/\left (kT x y)=false)
 nodup:ks.Nodup
 sizes:∀k∈ks,k.1.size<=maxLen/\k.2.size<=maxLen
 few:ks.length+aj<=nn
 out:ys=ks.filterMap (λk=>Q3 put a k.1 k.2)
theorem q6u{put:Nms}:(ks.filterMap (λk=>Q3 put a k.1 k.2)).length<=ks.length:=List.length_filterMap_le _ _
theorem qh1{c:Nat}:∀(l:List (Tm×ByteArray)) (n m:Nms),(∀k,(n.get k).size<=c)->(∀p∈l,p.1.num < 6/\p.2.size<=c)->qav n l=some m->∀k,(m.get k).size<=c
 | [],n,m,hn,_,h=>by simp only[qav,Option.some.injEq] at h;subst h;exact hn
 | p::l,n,m,hn,hl,h=>by
  simp only[qav] at h
  cases hs:Qy n p.1 p.2 with
  | none=>rw[hs] at h;cases h
  | some n'=>
   rw[hs] at h;refine qh1 l n' m ?_ (λq hq=>hl q (zt hq)) h;obtain⟨h6,hz⟩:=hl p zs;unfold Qy at hs;split at hs
   .cases hs;unfold qk7;split
    .intro k;rw[Nms.get_set _ _ _ _ h6];split
     .exact hz
     .exact hn k
    .exact hn
   .cases hs
theorem q72(hx:x.size<=maxLen)(hy:y.size<=maxLen)(a8:x'.size<=maxLen)(bd:y'.size<=maxLen):(kT x' y').sameKey (kT x y)=decide (x'=x/\y'=y):=by
 rw[Bool.eq_iff_iff,WideAt.sameKey_iff (qcq.key (qce x y hx hy)),decide_eq_true_iff];exact⟨λh=>q47 a8 bd hx hy h,by rintro⟨rfl,rfl⟩;rfl⟩
theorem qz5.step{r nn:Nat}{Di:DataW Vq}{put:Nms}{ys:List Nms}{af:Nat}{d:DataW Vq}(ax:∀x y:ByteArray,x.size<=maxLen->y.size<=maxLen->((x,y)∈ks↔Maps.has Di (kT x y)=true/\left (kT x y)=false))(bh:ks.Nodup)(bq:∀k∈ks,k.1.size<=maxLen/\k.2.size<=maxLen)(cm:ks.length+aj<=nn)(ak:ys=ks.filterMap (λk=>Q3 put a k.1 k.2))(hx:x.size<=maxLen)(hy:y.size<=maxLen)(cb:left (kT x y)=true)(am:∀zd,Di.atKey (kT x y) zd=d)(bc:W.ranges Tryz.prog 109 (plainElem Tryz.prog 3) b r nn Di (λz=>left z && !z.sameKey (kT x y)) af)(b5:af < aj)(hb:W'.heap[b]?=W.heap[b]?)(hr:W'.heap[r]?=W.heap[r]?):qz5 b r nn Di put a W' (ks++[(x,y)]) (ys++(Q3 put a x y).toList) af:=by
 refine⟨⟨_,qob bc hb hr,λx' y' a8 bd=>?_⟩,?_,?_,by simp;omega,?_⟩
 .rw[q72 hx hy a8 bd];by_cases h:x'=x/\y'=y
  .obtain⟨rfl,rfl⟩:=h;simp[Maps.has_true_of_atKey am]
  .rw[decide_eq_false h];simp only[List.mem_append,List.mem_singleton,Prod.mk.injEq,h,or_false,Bool.not_false,Bool.and_true];exact ax x' y' a8 bd
 .rw[List.nodup_append];refine⟨bh,by simp,?_⟩;rintro k hk k' cp rfl;simp only[List.mem_singleton] at cp;subst cp;have:=((ax x y hx hy).1 hk).2;rw[cb] at this;cases this
 .intro k hk;rcases List.mem_append.1 hk with h | h
  .exact bq k h
  .simp only[List.mem_singleton] at h;subst h;exact⟨hx,hy⟩
 .rw[List.filterMap_append,ak]
  cases h:Q3 put a x y <;> simp[h]
def NmB(c:Nat):={p:Nms // ∀k,(p.get k).size<=c}
abbrev NmX:=NmB maxLen
theorem qu4(sz:Nat)(n:Nat)(hn:4<=n)(Bm Ba Bp B nn aa:Nat)(M:Gd->Option Int)(a:Am)(va:Vq)(put:Nms)(w:Wq)(hm:w.heap[Bm]?=some (Obj.cells #[.map (some B)] 98))(ha:w.heap[Ba]?=some (Obj.cells #[.string a.rel,va] 92))(hp:w.heap[Bp]?=some (Obj.cells put.c 176))(hM:qd4 w B nn M)(hS:Qi w aa va a.args)(bk:a.args.length<=2)(a6:∀t∈a.args,t.num < 6)(hrel:a.rel.size<=maxLen)(a7:∀k,(put.get k).size<=sz)(bo:∀x y,x.size<=maxLen->y.size<=maxLen->(M ⟨a.rel,x,y⟩).isSome=true->x.size<=sz/\y.size<=sz)(m:Nat) :
  qey m n 156 #[.pointer (some ⟨Bm,0,none⟩),.pointer (some ⟨Ba,0,none⟩),.pointer (some ⟨Bp,0,none⟩)] (λp:NmB sz=>#[p.1.v]) (qn m)
   (λys=>∃ks:List (ByteArray×ByteArray),ks.Nodup/\(∀x y,(x,y)∈ks↔(x.size<=maxLen/\y.size<=maxLen/\(M ⟨a.rel,x,y⟩).isSome=true))/\ks.length<=nn/\ys.map (·.1)=ks.filterMap (λk=>Q3 put a k.1 k.2)) (λ_=>True) nn w:=by
 intro l J Jx W hW di hJ cx hY h0;have bb:qn m w W:=qn.ofBelow hW;have b7:=bb.cells _ _ _ (by unfold qcc;decide) hm;have ck:=bb.cells _ _ _ (by unfold qcc;decide) ha;have cq:=bb.cells _ _ _ (by unfold qcc;decide) hp;have db:=hM.mk bb;have b4:=hS.mk bb;clear hm ha hp hM hS bb hW;obtain⟨ta,tc,cg⟩:=b4.form;subst cg;have c0:W.cell? ⟨Bm,0,none⟩=some (.map (some B)):=by simp[World.cell?,b7]
 have c1:W.cell? ⟨Ba,0,none⟩=some (.string a.rel):=by simp[World.cell?,ck]
 obtain⟨D,blk,o1,o2,o3,o4⟩:=db;obtain⟨mv,l1,l2⟩:=qjy o1 a.rel hrel;have n1:1<=n:=by omega
 have HY:Hid _:=hY;have HJ:Hid (OwnFrom W.heap.size J):=hJ;have HJx:Hid (OwnFrom W.heap.size Jx):=cx;clear hY hJ cx
 cases hbk:blk a.rel with
 | none=>
  obtain⟨q1,q2⟩:=(o2 a.rel hrel).1 hbk;rw[Maps.atKey_of_not_has q1] at l2;cases l2
  have Qd9:Hid (∃ao:List (ByteArray×ByteArray),ao.Nodup/\(∀x y,(x,y)∈ao↔(x.size<=maxLen/\y.size<=maxLen/\(M ⟨a.rel,x,y⟩).isSome=true))/\ao.length<=nn/\([]:List (NmB sz)).map (·.1)=ao.filterMap (λk=>Q3 put a k.1 k.2)):=
   ⟨[],List.nodup_nil,λx y=>by simp[q2 x y],by simp,rfl⟩
  have ca:Hid (J [] (W.alloc (.mapIter none 0 #[] 0))):=HJ.out _ _ _ none h0 (qi ((Below.refl _ W).alloc zl _)) (λr e=>by cases e);have dj:=run_range_nilMap (P:=Tryz.prog) W 174 109 3 Tryz.underlying174;have dn:=λty=>run_next_nilMap (P:=Tryz.prog) W ty 0 0 #[];clear o1 o2 o3 o4 h0 b4 hbk q1 q2 a6 a7 bo;refine callsIn_of_wp Tryz.func156 rfl trivial ?_;simp only[Tryz.ntmps156,List.size_toArray,List.length_cons,List.length_nil,Nat.reduceAdd,Nat.reduceSub,Array.replicate_succ,Array.replicate_zero,List.push_toArray,List.append_toArray,List.nil_append,List.cons_append]
  gi_wp2
  gi_loopw [5] (λ_ wr=>wr=W.alloc (.mapIter none 0 #[] 0)) (λ_ _=>0)
  case atStart=>rfl
  case round=>
   subst hrel
   gi_wp2
   go_end0
   exact⟨⟨_,rfl⟩,.inl ⟨[],Qd9.out,ca.out⟩⟩
 | some b=>
  obtain⟨q1,q2,q3,Di,q4,q5⟩:=(o2 a.rel hrel).2 b hbk;rw[q2] at l2;cases l2;have HO:Hid (W.ownsMap Tryz.prog 109 (plainElem Tryz.prog 3) b nn Di):=q4;have HQ:Hid _:=q5;have HH:Hid _:=h0;have HS:Hid _:=b4;have HNm:Hid _:=a6;have Qfj:Hid _:=a7;have HMs:Hid _:=bo;clear o1 o2 o3 o4 q4 q5 h0 b4 a6 a7 hbk q1 q2 bo;refine callsIn_of_wp Tryz.func156 rfl trivial ?_;simp only[Tryz.ntmps156,List.size_toArray,List.length_cons,List.length_nil,Nat.reduceAdd,Nat.reduceSub,Array.replicate_succ,Array.replicate_zero,List.push_toArray,List.append_toArray,List.nil_append,List.cons_append]
  gi_wp2_with (gi_at_range;refine wpListIn_range_own _ rfl _ 174 rfl 109 3 qcq Tryz.underlying174 (plainElem Tryz.prog 3) b nn Di rfl HO.out ?_;intro w1 bj ah Qek)
  have hE:qok Bm Ba Bp B aa a (.slice ta a.args.length tc) put W:=⟨b7,ck,cq,HS.out⟩;have ac:Below W.heap.size W w1:=⟨ah.os,ah.tape,ah.output,ah.size,λk hk=>ah.block k hk (by simp)⟩;have de:=hE.below ac;have ca:J [] w1:=HJ.out _ _ _ none HH.out ah (λr e=>by cases e);have cw:qz5 b W.heap.size nn Di put a w1 [] [] (Maps.size Di):=⟨⟨_,bj,λx y _ _=>by simp⟩,List.nodup_nil,by simp,by simpa using World.ownsMap.size_le HO.out,rfl⟩;obtain⟨r,hr⟩:∃r,W.heap.size=r:=⟨_,rfl⟩;rw[hr] at HJ HJx di cw;simp only[hr];clear b7 ck cq hE c0 c1 l1 bj ah ac
  gi_loopw [5] (λ_ wr=>∃(ks:List (ByteArray×ByteArray)) (pre:List (NmB sz)) (aj:Nat),J pre wr/\qz5 b r nn Di put a wr ks (pre.map (·.1)) aj/\qok Bm Ba Bp B aa a (.slice ta a.args.length tc) put wr/\r+1<=wr.heap.size/\b < r) (λ_ wr=>wr.rangeLeft b r)
  case atStart=>exact⟨[],[],_,ca,cw,de,by omega,by have:=World.ownsMap.lt HO.out;omega⟩
  case round=>
   obtain⟨ks,pre,aj,cf,⟨⟨left,bc,ax⟩,bh,bq,cm,ak⟩,cv,dh,c7⟩:=hrel
   gi_wp2_with (gi_at_next;refine wpListIn_next_ranges _ rfl _ rfl 109 qcq (plainElem Tryz.prog 3) (λp:ByteArray×ByteArray=>.agg #[.string p.1,.string p.2]) (λc:Int=>Value.int .i64 c) (λkey kl az=>by obtain⟨x,y,rfl,_⟩:=qie az;exact⟨(x,y),rfl⟩) (λv y hv=>by obtain⟨c,rfl,_⟩:=plainElem_int_inv Tryz.underlying3 hv;exact⟨c,rfl⟩) b r nn Di left aj rfl bc ?_ ?_)
   .intro _ c9
    have q7:Hid (∃ao:List (ByteArray×ByteArray),ao.Nodup/\(∀x y,(x,y)∈ao↔(x.size<=maxLen/\y.size<=maxLen/\(M ⟨a.rel,x,y⟩).isSome=true))/\ao.length<=nn/\pre.map (·.1)=ao.filterMap (λk=>Q3 put a k.1 k.2)):=by
     refine⟨ks,bh,λx y=>⟨λh=>?_,λh=>?_⟩,by omega,ak⟩
     .obtain⟨k1,k2⟩:=bq _ h;refine⟨k1,k2,?_⟩;rw[<- (HQ.out x y k1 k2).1];exact ((ax x y k1 k2).1 h).1
     .obtain⟨k1,k2,k3⟩:=h;exact (ax x y k1 k2).2 ⟨by rw[(HQ.out x y k1 k2).1];exact k3,c9 _⟩
    gi_wp2
    go_end0
    exact⟨⟨_,rfl⟩,.inl ⟨pre,q7.out,cf⟩⟩
   .intro x y c kl d ps w' af az cb hv am bi b5 a9 Qel dl;obtain⟨x',y',cy,rfl,hx,hy⟩:=qie az;obtain⟨rfl,rfl⟩:x=x'/\y=y':=by simpa [qfa] using cy
    have Qbe:∃o:Obj,wr.heap[r]?=some o/\o.isCells=false:=by
     obtain⟨es,clock,ai,an,c0,_,_,_,_,h5,_⟩:=bc;exact⟨_,h5,rfl⟩
    have ct:J pre w':=HJ.out _ _ _ (some r) cf a9 (λr' e=>by cases e;exact⟨Nat.le_refl _,Qbe⟩);have bv:qok Bm Ba Bp B aa a (.slice ta a.args.length tc) put w':=cv.kept (λk c t _ hk=>qj a9 (λr' e=>by cases e;exact Qbe) k c t _ hk)
    have be:Hid (∀O,Calls Tryz.prog 157 #[.agg #[.string put.a0,.string put.a1,.string put.a2,.string put.a3,.string put.a4,.string put.a5],.agg #[.string a.rel,.slice ta a.args.length tc],.agg #[.string x,.string y]] (w'.alloc O) λe W1=>e=.returned (qk4 (Q3 put a x y))/\Below (w'.alloc O).heap.size (w'.alloc O) W1):=λO=>
     qsn put a _ aa x y _ (bv.below ((Below.refl _ w').alloc zl O)).sl bk HNm.out
    have ap:∀O,_:=λO=>(bv.below ((Below.refl _ w').alloc zl O)).cells;have k1:=λO=>(ap O).1;have k2:=λO=>(ap O).2.1;have k3:=λO=>(ap O).2.2.1;have k4:=λO=>(ap O).2.2.2.1;have k5:=λO=>(ap O).2.2.2.2.1;have k6:=λO=>(ap O).2.2.2.2.2.1;have k7:=λO=>(ap O).2.2.2.2.2.2.1;have k8:=λO=>(ap O).2.2.2.2.2.2.2
    have b0:Hid (∀O W1 O',Below (w'.alloc O).heap.size (w'.alloc O) W1->∀W2,qn m (W1.alloc O') W2->qz5 b r nn Di put a W2 (ks++[(x,y)]) (pre.map (·.1)++(Q3 put a x y).toList) af/\qok Bm Ba Bp B aa a (.slice ta a.args.length tc) put W2/\r+1<=W2.heap.size):=by
     intro O W1 O' hb W2 hk;have bf:Below w'.heap.size w' (W1.alloc O'):=(((Below.refl _ w').alloc zl O).trans (hb.mono (by simp))).alloc (by have:=hb.size;simp at this;omega) _;have aw:=qob bi (bf.block b (by omega)) (bf.block r (by omega));refine⟨qz5.step ax bh bq cm ak hx hy cb am aw b5 ?_ ?_,(bv.below bf).kept hk.cells,by have:=bf.size;have:=hk.from'.size;omega⟩
     .obtain⟨es,clock,ai,an,c0,h1,_⟩:=aw;rw[h1];exact hk.maps _ _ _ h1
     .obtain⟨es,clock,ai,an,c0,_,_,_,_,h5,_⟩:=aw;rw[h5];exact hk.from'.same _ _ (by omega) h5 rfl
    have da:pre.length < nn:=by
     have h1:=q6u (put:=put) (a:=a) (ks:=ks);have h2:pre.length=(ks.filterMap (λk=>Q3 put a k.1 k.2)).length:=by rw[<- ak];simp
     omega
    have cn:Hid (∀O W1 O',Below (w'.alloc O).heap.size (w'.alloc O) W1->J pre (W1.alloc O')):=by
     intro O W1 O' hb;have bf:Below w'.heap.size w' (W1.alloc O'):=(((Below.refl _ w').alloc zl O).trans (hb.mono (by simp))).alloc (by have:=hb.size;simp at this;omega) _;exact HJ.out _ _ _ none ct (qi bf) (λr' e=>by cases e)
    have c2:Maps.has Di (kT x y)=true:=by
     cases hh:Maps.has Di (kT x y) with
     | true=>rfl
     | false=>
      have e1:=am (.lit (.int .i64 0));have e2:=am (.lit (.int .i64 1));rw[Maps.atKey_of_not_has hh] at e1 e2;rw[<- e2] at e1;cases e1
    have Qbv:=HMs.out x y hx hy (by rw[<- (HQ.out x y hx hy).1];exact c2)
    have Qgv:Hid (∀p,Q3 put a x y=some p->∀k,(p.get k).size<=sz):=λp hp=>
     qh1 _ _ _ Qfj.out (λq hq=>⟨HNm.out _ (List.of_mem_zip hq).1,by
      have:=(List.of_mem_zip hq).2;simp at this;rcases this with h | h <;> rw[h]
      .exact Qbv.1
      .exact Qbv.2⟩) hp
    clear c2 Qbv;have cr:Hid (wr.rangeLeft b r=aj):=bc.left_eq;clear ap cf bc cv bv ct bi ax bh bq ak Qbe az hv am cy a9 dh
    cases hm1:Q3 put a x y with
    | none=>
     rw[hm1] at be b0;unfold qk4 Nms.v Qm Nms.c at be
     gi_wp2_with (refine⟨trivial,?_⟩;gi_at_call 157;refine (callsIn_wide.2 (be.out _)).mono ?_;rintro e W1 ⟨rfl,ac⟩)
     refine⟨λf h=>(by cases h),?_⟩
     gi_wp2
     obtain⟨s1,s2,s3⟩:=b0.out _ W1 _ ac _ (qn.ofBelow zr);refine⟨⟨_,pre,af,cn.out _ W1 _ ac,by simpa using s1,s2,s3,c7⟩,?_⟩;obtain⟨bt,aw,_⟩:=s1.rg;rw[aw.left_eq,cr.out];exact b5
    | some p=>
     rw[hm1] at be b0;have b3:=Qgv.out p hm1
     have c3:Hid (∀O W1 O',Below (w'.alloc O).heap.size (w'.alloc O) W1->YieldAt Fence.wide (n - 1) Tryz.prog l #[p.v] (W1.alloc O') λe W'=>(e=.returned (.bool true)/\J (pre++[⟨p,b3⟩]) W'/\qn m (W1.alloc O') W')\/(e=.returned (.bool false)/\Jx (pre++[⟨p,b3⟩]) W'/\KeepsFrom m (W1.alloc O') W')):=λO W1 O' hb=>
      HY.out pre ⟨p,b3⟩ _ (cn.out O W1 O' hb) da
     unfold qk4 Nms.v Nms.c at be;unfold Nms.v Nms.c at c3
     gi_wp2_with (first | (refine⟨trivial,?_⟩;gi_at_call 157;refine (callsIn_wide.2 (be.out _)).mono ?_;rintro e W1 ⟨rfl,ac⟩;obtain⟨dp,cl,assign2,body2,cz,b8⟩:=c3.out _ W1 (.cells #[.string p.a0,.string p.a1,.string p.a2,.string p.a3,.string p.a4,.string p.a5] 176) ac))
     refine b8.mono ?_;rintro e W3 (⟨rfl,dd,df⟩ | ⟨rfl,ce,_⟩)
     .clear cz b8
      gi_wp2
      obtain⟨s1,s2,s3⟩:=b0.out _ W1 _ ac W3 df;refine⟨⟨_,pre++[⟨p,b3⟩],af,dd,by rw[List.map_append];exact s1,s2,s3,c7⟩,?_⟩;obtain⟨bt,aw,_⟩:=s1.rg;rw[aw.left_eq,cr.out];exact b5
     .clear cz b8
      gi_wp2
      refine bodyPost_ret (results_none rfl _ _ _) rfl ?_;exact⟨⟨_,rfl⟩,.inr ⟨_,trivial,ce⟩⟩
theorem qny(sz:Nat)(n:Nat)(Bm Ba Bp B nn aa:Nat)(M:Gd->Option Int)(a:Am)(va:Vq)(put:Nms)(w:Wq)(hm:w.heap[Bm]?=some (Obj.cells #[.map (some B)] 98))(ha:w.heap[Ba]?=some (Obj.cells #[.string a.rel,va] 92))(hp:w.heap[Bp]?=some (Obj.cells put.c 176))(hM:qd4 w B nn M)(hS:Qi w aa va a.args)(bk:a.args.length<=2)(a6:∀t∈a.args,t.num < 6)(hrel:a.rel.size<=maxLen)(a7:∀k,(put.get k).size<=sz)(bo:∀x y,x.size<=maxLen->y.size<=maxLen->(M ⟨a.rel,x,y⟩).isSome=true->x.size<=sz/\y.size<=sz)(m:Nat) :
  qey m n 156 #[.pointer (some ⟨Bm,0,none⟩),.pointer (some ⟨Ba,0,none⟩),.pointer (some ⟨Bp,0,none⟩)] (λp:NmB sz=>#[p.1.v]) (qn m)
   (λys=>∃ks:List (ByteArray×ByteArray),ks.Nodup/\(∀x y,(x,y)∈ks↔(x.size<=maxLen/\y.size<=maxLen/\(M ⟨a.rel,x,y⟩).isSome=true))/\ks.length<=nn/\ys.map (·.1)=ks.filterMap (λk=>Q3 put a k.1 k.2)) (λ_=>True) nn w:=
 qey.any (qu4 sz 4 zl Bm Ba Bp B nn aa M a va put w hm ha hp hM hS bk a6 hrel a7 bo m) n
theorem qxi(n:Nat)(Bm Ba Bp B nn aa:Nat)(M:Gd->Option Int)(a:Am)(va:Vq)(put:Nms)(w:Wq)(hm:w.heap[Bm]?=some (Obj.cells #[.map (some B)] 98))(ha:w.heap[Ba]?=some (Obj.cells #[.string a.rel,va] 92))(hp:w.heap[Bp]?=some (Obj.cells put.c 176))(hM:qd4 w B nn M)(hS:Qi w aa va a.args)(bk:a.args.length<=2)(a6:∀t∈a.args,t.num < 6)(hrel:a.rel.size<=maxLen)(a7:∀k,(put.get k).size<=maxLen)(m:Nat) :
  qey m n 156 #[.pointer (some ⟨Bm,0,none⟩),.pointer (some ⟨Ba,0,none⟩),.pointer (some ⟨Bp,0,none⟩)] (λp:NmX=>#[p.1.v]) (qn m)
   (λys=>∃ks:List (ByteArray×ByteArray),ks.Nodup/\(∀x y,(x,y)∈ks↔(x.size<=maxLen/\y.size<=maxLen/\(M ⟨a.rel,x,y⟩).isSome=true))/\ks.length<=nn/\ys.map (·.1)=ks.filterMap (λk=>Q3 put a k.1 k.2)) (λ_=>True) nn w:=
 qny maxLen n Bm Ba Bp B nn aa M a va put w hm ha hp hM hS bk a6 hrel a7 (λx y hx hy _=>⟨hx,hy⟩) m
