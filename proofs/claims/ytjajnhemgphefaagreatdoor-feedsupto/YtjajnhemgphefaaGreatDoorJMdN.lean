/- A part -/
import Derived.Test.YtjajnhemgphefaaGreatDoorJMdH
import Derived.Laws.CopyOwn
set_option linter.all false
set_option maxRecDepth 100000
set_option maxHeartbeats 16000000
open List renaming length->aB,drop_eq_getElem_cons->aX,drop_eq_nil_of_le->aY,getElem?_eq_getElem->bB,replicate->bC,range->bE,take_of_length_le->bG,mem_of_mem_take->bH,map_cons->bI,foldl_cons->bQ,length_set->bT,map->cA
open Go.World renaming cell?->aC,frozen?->aD,ownsRow->aE
open Go.Value renaming ownBlock->aF,slice->aH,string->aI,agg->aJ,bool->aK,tuple->aL,int->aM,oneCell'->bU
open Go.Obj renaming cells->aN
open Go.Ending renaming returned->aO
open Go.IntKind renaming i64->aP
open Or renaming inr->aR
open Option renaming some->aV,none->aW
open Go.RowKit.Below renaming heap_alloc->aZ,cell->bD,heap_setCell->bJ,refl->bZ
open Nat renaming le_trans->bF,le_refl->bL,mul_one->bX
open Array renaming toList_inj->bO
open Bool renaming false_eq_true->cD,false_or->cH,and_false->cI,false_and->cJ,not_true->cL
open Go.Proofs.Tryz renaming underlying22->cE,ntmps123->cM,func123->cO
open Go.RowKit renaming Below->cF
open Go renaming wpList_append_own->cG
namespace Go.Proofs.YtjajnhemgphefaaGreatDoor
open Go renaming World->Wq,Value->Vq
open Go.RowKit Go.Shelf
variable {N S:Nat} {X Y W:Wq} {vo vm v1 v2:Vq} {out m:List ByteArray} {r1 r2:ByteArray} {ps:List (Am×Vq)} {a:Option Addr}
def pD(x y:ByteArray):Bool:=Op.bytesLess x.toList y.toList
def iT(x:ByteArray):List ByteArray->List ByteArray
 |[]=>[x]
 |y::l=>if pD x y=true then x::y::l else y::iT x l
def jy(out l:List ByteArray):List ByteArray:=l.foldl (λo x=>iT x o) out
theorem yW(x:ByteArray)(l:List ByteArray):aB (iT x l)=aB l+1:=by
 induction l with
 |nil=>rfl
 |cons y l ih=>unfold iT;split<;>simp[ih]
structure ji(N S:Nat)(w X:Wq)(vo:Vq)(out:List ByteArray)(vm:Vq)(m:List ByteArray):Prop where
 ns:N<=S
 size:S<=X.heap.size
 below:cF N w X
 oown:aE X N 9 1 vo (aB out) (out.map aI)
 oS:∀g,aF vo=aV g->g<S
 mown:aE X S 9 1 vm (aB m) (m.map aI)
theorem ji.app{w:Wq}{A:Vq}{x:ByteArray}{o:Obj}(h:ji N S w X vo out vm m)(d:(X.alloc o).grownBy Y (aF vm))(G:aE Y S 9 1 A (aB m+1) (m.map aI++[St x])):ji N S w Y vo out A (m++[x]):=by have M:=h.ns;have O:=h.size;have C:=d.size;simp at C;have z:∀k,aF vm=aV k->S<=k:=λk e=>(Qp h.mown k e).1;refine⟨h.ns,by omega,(h.below.alloc (by omega) o).grown d (by simp;omega) (λk e=>by have:=z k e;omega),?_,h.oS,by simpa using G⟩;refine qn h.oown (λg E ab=>?_);exact (d.block g (by simp;omega) (λe=>by have:=z g e.symm;have:=h.oS g E;omega)).trans (aZ _ _ _ ab)
theorem ji.drewN{w:Wq}(h:ji N S w X vo out vm m)(q:Nat):ji N S w (X.drewN q) vo out vm m:=⟨h.ns,h.size,qy h.below,h.oown,h.oS,h.mown⟩
theorem ji.room{w:Wq}(h:ji N S w X vo out vm m):∀O,S<=(X.alloc O).heap.size:=λO=>by have:=h.size;simp;omega
theorem FR(v:Vq)(l:List ByteArray)(w:Wq)(hA:qv w v l)(hl:aB l<=100000):Cs 126 #[v] w λe w'=>∃v',e=aO v'/\aE w' w.heap.size 9 1 v' (aB (jy [] l)) ((jy [] l).map aI)/\cF w.heap.size w w':=by
 have⟨i0,hi,ax,aq,ay⟩:=info_parts Tryz.infoStr;obtain⟨a1,a2,rfl⟩:=qe hA;obtain⟨N,hN⟩:∃N,N=w.heap.size:=⟨_,rfl⟩;have am:=hN.symm
 have HC:Hid (∀(X:Wq),cF N w X->∀(j:Nat) (hj:j<aB l),∃g,a1=aV ⟨g,0,aW⟩/\g<N/\aC X (Ad g j)=aV (St l[j])):=by
  intro X hX j hj;have⟨g,cap,e1,z,c0⟩:=hA.cell j hj;cases e1;have av:g<N:=by{rw[hN];exact z};exact⟨g,rfl,av,(bD hX av).trans c0⟩
 have bk:∀(x:ByteArray),∀u∈[aI x],u.oneCell'=true:=λx=>by simp[bU]
 rw[<-hN];clear hA hN;generalize hTT:jy [] l=T at *;go_enter Tryz.func126,Tryz.ntmps126;go_wp2
 go_loopw [3,4] (λo p wr=>∃(i:Nat) (vo:Vq) (out:List ByteArray),vo=o/\p=aM aP i/\i<=aB l/\N<=wr.heap.size/\cF N w wr/\aE wr N 9 1 vo (aB out) (out.map aI)/\aB out<=i/\Hid (jy out (l.drop i)=T)) (λ_ p _=>aB l-(intOf p).toNat)
 case atStart=>exact⟨0,_,[],rfl,rfl,zz,by omega,zr,zo,bL _,hTT⟩
 case round=>
  obtain⟨i,vo,out,rfl,rfl,cd,az,a6,qt,fk,aa⟩:=hrel;by_cases ab:i<aB l
  .obtain⟨gl,rfl,Qmb,_⟩:=HC.o wr a6 i ab
   have d8:Hid (∀X,cF N w X->aC X (Ad gl i)=aV (St l[i])):=by
    intro X hX;have⟨g',e',_,c⟩:=HC.o X hX i ab
    cases e';exact c
   rw[aX ab] at aa;simp only[jy,bQ] at aa;generalize l[i]=x at *;have b7:=aA aa;obtain⟨S,E⟩:∃S,S=wr.heap.size:=⟨_,rfl⟩;have df:ji N S w wr vo out (aH aW 0 0) []:=⟨by omega,by omega,a6,qt,λg z=>by have:=(Qp qt g z).2.1;omega,zo⟩;have d5:=aA df;have⟨oa,oc,ez⟩:=qe qt;subst ez;clear aa df qt a6 az E;go_wp2
   go_loopw [5,6,7] (λo q p wr=>∃(k:Nat) (vm:Vq) (m:List ByteArray) (b:Bool),vm=o/\q=aK b/\p=aM aP k/\k<=aB out/\ji N S w wr (aH oa (aB out) oc) out vm m/\aB m<=k+(if b=true then 1 else 0)/\Hid (m++(if b=true then out.drop k else iT x (out.drop k))=iT x out)) (λ_ _ p _=>aB out-(intOf p).toNat)
   case atStart=>exact⟨0,_,[],false,rfl,rfl,rfl,zz,d5.o,by simp,rfl⟩
   case round=>
    clear d5;obtain⟨k,vm,m,b,rfl,rfl,rfl,fl,E,b5,ae⟩:=hrel;have cx:=d8.o wr E.below;have Qmm:aB m<=k+1:=by{split at b5<;>omega};have A:=aA E;have b6:aB m+1<=maxLen:=by{unfold maxLen;omega};have b4:(aB m+1)*16<=140737488355328:=by{omega};have bc:=aA E.room;by_cases dv:k<aB out
    .have⟨go,fm,e1,fc,cy⟩:=qv.cell (Qj E.oown zz) k dv;cases e1;rw[aX dv] at ae;have Qmc:go<S:=E.oS go rfl;have b0:Hid (∀(O:Obj) (w1:Wq),(wr.alloc O).grownBy w1 (aF vm)->aC w1 (Ad go k)=aV (St out[k])):=by{intro O w1 z;have h1:w1.heap[go]?=wr.heap[go]?:=(z.block go (by simp;omega) (λe=>by have:=(Qp A.o.mown _ e.symm).1;omega)).trans (aZ _ _ _ fc);exact (World.cell?_of_block (w:=wr) h1).trans cy};generalize out[k]=y at *;have⟨ma,mc,ca⟩:=qe E.mown;subst ca;have fr:aB m+2<=200000:=by{omega};clear E
     cases b with
     |true=>
      simp only[if_true] at ae b5;have cf:Hid ((m++[y])++(if true=true then out.drop (k+1) else iT x (out.drop (k+1)))=iT x out):=by{show _=_;rw[<-ae.o];simp};go_wp2;go_quiet (fail);have d:Hid (ji N S w (wr.drewN nq) (Sc go (aB out) oc) out (aH ma (aB m) mc) m):=A.o.drewN nq;have Z:Hid (∀(O:Obj) (w1:Wq),((wr.drewN nq).alloc O).grownBy w1 (aF (aH ma (aB m) mc))->aC w1 (Ad go k)=aV (St y)):=λO w1 z=>b0.o O w1 ⟨z.os,z.tape,z.output,z.size,z.block⟩;have ch:=aA d.o.room;have c5:aC (wr.drewN nq) (Ad gl i)=aV (St x):=cx;have du:aC (wr.drewN nq) (Ad go k)=aV (St y):=cy;generalize wr.drewN nq=wd at *;clear A b0 cx cy bc
      go_wp2_with (at_builtin;refine cG _ rfl (.tmp 40) (.tmp 45) 22 rfl S 9 i0 (St ⟨#[]⟩) 1 16 cE hi ax aq ay rfl (by decide) _ _ _ rfl (d.o.mown.alloc _) ⟨wd.heap.size,0,aW⟩ 1 1 [St y] rfl rfl (ku _ _ _) (bk y) b6 b4 (ch.o _) ?_;intro G w1 M ak _;have C:Hid (ji N S w w1 (Sc go (aB out) oc) out G (m++[y])):=d.o.app ak M)
      go_roundw
      case rel=>exact⟨k+1,G,m++[y],true,rfl,rfl,by go_num,by omega,C.o,by simp;omega,cf⟩
      case measure=>simp[intOf];omega
     |false=>
      simp only[cD,if_false,iT] at ae b5
      cases hxy:pD x y with
      |true=>
       rw[hxy] at ae;simp only[if_true] at ae;unfold pD at hxy;have Qj9:aB (m++[x])+1<=maxLen:=by{unfold maxLen;simp;omega};have Qka:(aB (m++[x])+1)*16<=140737488355328:=by{simp;omega};have cf:Hid ((m++[x]++[y])++(if true=true then out.drop (k+1) else iT x (out.drop (k+1)))=iT x out):=by{show _=_;rw[<-ae.o];simp};go_wp2;go_quiet (fail);have d:Hid (ji N S w (wr.drewN nq) (Sc go (aB out) oc) out (aH ma (aB m) mc) m):=A.o.drewN nq;have Z:Hid (∀(O:Obj) (w1:Wq),((wr.drewN nq).alloc O).grownBy w1 (aF (aH ma (aB m) mc))->aC w1 (Ad go k)=aV (St y)):=λO w1 z=>b0.o O w1 ⟨z.os,z.tape,z.output,z.size,z.block⟩;have ch:=aA d.o.room;have c5:aC (wr.drewN nq) (Ad gl i)=aV (St x):=cx;have du:aC (wr.drewN nq) (Ad go k)=aV (St y):=cy;generalize wr.drewN nq=wd at *;clear A b0 cx cy bc
       go_wp2_with (first|(at_builtin;refine cG _ rfl (.tmp 33) (.tmp 38) 22 rfl S 9 i0 (St ⟨#[]⟩) 1 16 cE hi ax aq ay rfl (by decide) _ _ _ rfl (d.o.mown.alloc _) ⟨wd.heap.size,0,aW⟩ 1 1 [St x] rfl rfl (ku _ _ _) (bk x) b6 b4 (ch.o _) ?_;intro G w1 M ak _;have C:Hid (ji N S w w1 (Sc go (aB out) oc) out G (m++[x])):=d.o.app ak M;have fj:aC w1 (Ad go k)=aV (St y):=Z.o _ w1 ak;have Qkb:=aA C.o.room;have⟨gm,cm,ca⟩:=ownsRow_succ M;subst ca)|(at_builtin;refine cG _ rfl (.tmp 40) (.tmp 45) 22 rfl S 9 i0 (St ⟨#[]⟩) 1 16 cE hi ax aq ay rfl (by decide) _ _ _ rfl (C.o.mown.alloc _) ⟨w1.heap.size,0,aW⟩ 1 1 [St y] rfl rfl (ku _ _ _) (bk y) Qj9 Qka (Qkb.o _) ?_;intro dm w2 aj e9 _;have em:Hid (ji N S w w2 (Sc go (aB out) oc) out dm (m++[x]++[y])):=C.o.app e9 aj))
       go_roundw
       case rel=>exact⟨k+1,dm,m++[x]++[y],true,rfl,rfl,by go_num,by omega,em.o,by simp;omega,cf⟩
       case measure=>simp[intOf];omega
      |false=>
       rw[hxy] at ae;simp only[cD,if_false] at ae;unfold pD at hxy;have cf:Hid ((m++[y])++(if false=true then out.drop (k+1) else iT x (out.drop (k+1)))=iT x out):=by{show _=_;rw[<-ae.o];simp};go_wp2;go_quiet (fail);have d:Hid (ji N S w (wr.drewN nq) (Sc go (aB out) oc) out (aH ma (aB m) mc) m):=A.o.drewN nq;have Z:Hid (∀(O:Obj) (w1:Wq),((wr.drewN nq).alloc O).grownBy w1 (aF (aH ma (aB m) mc))->aC w1 (Ad go k)=aV (St y)):=λO w1 z=>b0.o O w1 ⟨z.os,z.tape,z.output,z.size,z.block⟩;have ch:=aA d.o.room;have c5:aC (wr.drewN nq) (Ad gl i)=aV (St x):=cx;have du:aC (wr.drewN nq) (Ad go k)=aV (St y):=cy;generalize wr.drewN nq=wd at *;clear A b0 cx cy bc
       go_wp2_with (at_builtin;refine cG _ rfl (.tmp 40) (.tmp 45) 22 rfl S 9 i0 (St ⟨#[]⟩) 1 16 cE hi ax aq ay rfl (by decide) _ _ _ rfl (d.o.mown.alloc _) ⟨wd.heap.size,0,aW⟩ 1 1 [St y] rfl rfl (ku _ _ _) (bk y) b6 b4 (ch.o _) ?_;intro G w1 M ak _;have C:Hid (ji N S w w1 (Sc go (aB out) oc) out G (m++[y])):=d.o.app ak M)
       go_roundw
       case rel=>exact⟨k+1,G,m++[y],false,rfl,rfl,by go_num,by omega,C.o,by simp;omega,cf⟩
       case measure=>simp[intOf];omega
    .rw[aY (by omega)] at ae;have⟨ma,mc,ca⟩:=qe E.mown;subst ca;clear E
     cases b with
     |true=>
      simp only[if_true,List.append_nil] at ae;have dg:=aA ae;go_wp2
      go_roundw
      case rel=>refine⟨i+1,_,m,rfl,by go_num,by omega,bF A.o.ns A.o.size,A.o.below,Qj A.o.mown A.o.ns,?_,by rw[dg.o];exact b7⟩;rw[dg.o,yW];omega
      case measure=>simp[intOf];omega
     |false=>
      simp only[cD,if_false,iT] at ae
      go_wp2_with (at_builtin;refine cG _ rfl (.tmp 49) (.tmp 54) 22 rfl S 9 i0 (St ⟨#[]⟩) 1 16 cE hi ax aq ay rfl (by decide) _ _ _ rfl (A.o.mown.alloc _) ⟨wr.heap.size,0,aW⟩ 1 1 [St x] rfl rfl (ku _ _ _) (bk x) b6 b4 (bc.o _) ?_;intro G w1 M ak _;have C:Hid (ji N S w w1 (aH oa (aB out) oc) out G (m++[x])):=A.o.app ak M)
      go_roundw
      case rel=>refine⟨i+1,G,m++[x],rfl,by go_num,by omega,bF C.o.ns C.o.size,C.o.below,Qj C.o.mown C.o.ns,?_,by rw[ae.o];exact b7⟩;rw[ae.o,yW];omega
      case measure=>simp[intOf];omega
  .rw[aY (by omega)] at aa;have eo:out=T:=aa.o;subst eo;go_wp2;go_ret;exact⟨vo,rfl,qt,a6⟩
def lJ(rel:ByteArray)(g:Gr):Bool:=g.rel.toList == rel.toList
def lQ(gs:List Gr)(rel:ByteArray):List ByteArray:=(gs.filter (lJ rel)).map j8
def BN(g:Gr):Prop:=g.rel.size<=2000/\aB g.args<=1000/\∀t∈g.args,t.size<=2000
theorem wb(v:Vq)(ps:List (Gr×Vq))(rel:ByteArray)(w:Wq)(hp:gM w v ps)(hl:aB ps<=100000)(hf:∀p∈ps,BN p.1):Cs 127 #[v,aI rel] w λe w'=>∃v',e=aO v'/\aE w' w.heap.size 9 1 v' (aB (jy [] (lQ (ps.map (·.1)) rel))) ((jy [] (lQ (ps.map (·.1)) rel)).map aI)/\cF w.heap.size w w':=by
 obtain⟨i0,hi,ax,aq,ay⟩:=info_parts Tryz.infoStr;obtain⟨pa,pc,rfl⟩:=qe hp.row;obtain⟨N,hN⟩:∃N,N=w.heap.size:=⟨_,rfl⟩;have am:=hN.symm;have HP:Hid (gM w (aH pa (aB ps) pc) ps):=hp;have bk:∀(x:ByteArray),∀u∈[aI x],u.oneCell'=true:=λx=>by simp[bU]
 rw[<-hN];clear hp hN;generalize hTT:lQ (ps.map (·.1)) rel=T at *;go_enter Tryz.func127,Tryz.ntmps127;go_wp2
 go_loopw [5,6] (λo p wr=>∃(i:Nat) (vo:Vq) (d:List ByteArray),vo=o/\p=aM aP i/\i<=aB ps/\kE N w wr vo d/\aB d<=i/\Hid (d++lQ ((ps.drop i).map (·.1)) rel=T)) (λ_ p _=>aB ps-(intOf p).toNat)
 case atStart=>exact⟨0,_,[],rfl,rfl,zz,⟨zr,by omega,zo⟩,bL _,hTT⟩
 case round=>
  obtain⟨i,vo,d,rfl,rfl,cd,z,eg,aa⟩:=hrel;by_cases ab:i<aB ps
  .obtain⟨g,cap,e1,hg,d0,d1,⟨x1,x2,hx⟩,hS⟩:=(HP.o.below (by rw[am];exact z.below)).cell i ab;cases e1;have cn:=hf ps[i] (zm ab);have M:=FW ps[i] wr hS cn.1 cn.2.1 cn.2.2;unfold lM at M;rw[aX ab,bI] at aa;unfold lQ at aa;rw[List.filter_cons] at aa;have dj:lJ rel ps[i].1=(ps[i].1.rel.toList == rel.toList):=rfl;rw[dj] at aa;rw[hx] at d1 M;have E:Hid (kE N w wr vo d):=z;have G:=z.size;clear dj hS hx z cn;obtain⟨A,cq⟩:∃A,j8 ps[i].1=A:=⟨_,rfl⟩;rw[cq] at M;have dc:Hid (j8 ps[i].1=A):=cq;clear cq;generalize (aB ps[i].1.args)=al at *
   cases hr:(ps[i].1.rel.toList == rel.toList) with
   |false=>
    rw[hr] at aa;simp only[cD,if_false] at aa;generalize ps[i].1.rel=pr at *;go_wp2
    go_roundw
    case rel=>exact⟨i+1,vo,d,rfl,by go_num,by omega,E.o,by omega,aa⟩
    case measure=>simp[intOf];omega
   |true=>
    rw[hr] at aa;simp only[if_true,bI] at aa;have d7:Hid ((d++[A])++lQ ((ps.drop (i+1)).map (·.1)) rel=T):=by show _=_;rw[<-aa.o,dc.o];unfold lQ;simp
    have b6:aB d+1<=maxLen:=by unfold maxLen;omega
    have b4:(aB d+1)*16<=140737488355328:=by omega
    clear aa dc;generalize ps[i].1.rel=pr at *;go_wp2_with fail;refine M.mono ?_;rintro e W2 ⟨rfl,C⟩;have be:kE N w W2 vo d:=⟨E.o.below.trans (C.mono G),bF G C.size,qj E.o.own C⟩;have Z:Hid (kE N w W2 vo d):=be;have bc:Hid (∀O,N<=(W2.alloc O).heap.size):=λO=>by have:=be.size;simp;omega
    clear M C be E
    go_wp2_with (at_builtin;refine cG _ rfl (.tmp 26) (.tmp 28) 22 rfl N 9 i0 (aI ⟨#[]⟩) 1 16 cE hi ax aq ay rfl (by decide) _ _ _ rfl (Z.o.own.alloc _) ⟨W2.heap.size,0,aW⟩ 1 1 [aI A] rfl rfl (ku _ _ _) (bk A) b6 b4 (bc.o _) ?_;intro dh w1 ao ak _)
    have c8:kE N w w1 dh (d++[A]):=⟨(Z.o.below.alloc Z.o.size _).grown ak (bc.o _) (λk e=>(Qp Z.o.own k e).1),by have:=ak.size;have:=bc.o (aN #[aI A] 9);omega,by simpa using ao⟩;clear ao ak
    go_roundw
    case rel=>exact⟨i+1,dh,d++[A],rfl,by go_num,by omega,c8,by simp;omega,d7⟩
    case measure=>simp[intOf];omega
  .rw[aY (by omega)] at aa;have e6:d=T:=by have:=aa.o;simpa [lQ] using this
   subst e6;have dr:=FR vo d wr (Qj z.own zz) (by omega);have E:Hid (kE N w wr vo d):=z;have G:=z.size;obtain⟨oa,oc,rfl⟩:=qe z.own;clear z;go_wp2_with fail;refine dr.mono ?_;rintro e W2 ⟨v2,rfl,aj,C⟩;have eu:cF N w W2:=E.o.below.trans (C.mono G);have e7:=Qj aj G;clear dr C aj;go_wp2;go_ret;exact⟨v2,rfl,e7,eu⟩
def qi(x:ByteArray):Bool:=x.toList.isEmpty
def lI(x y:ByteArray):Bool:=x.toList == y.toList
def gH:List Tm->List ByteArray->List ByteArray->Option (List ByteArray)
 |[],_,b=>aV b
 |t::ts,[],b=>aW
 |t::ts,x::xs,b=>
  if qi t.name=false then (if lI t.name x=true then gH ts xs b else aW)
  else if qi (b.getD t.num ⟨#[]⟩)=true then gH ts xs (b.set t.num x)
  else if lI (b.getD t.num ⟨#[]⟩) x=true then gH ts xs b else aW
def fE(a:Am)(g:Gr)(b:List ByteArray):Option (List ByteArray):=if lI a.rel g.rel=true/\aB a.args=aB g.args then gH a.args g.args b else aW
def sL(b o:List ByteArray):Prop:=aB o=aB b/\∀n,qi (b.getD n ⟨#[]⟩)=false->o.getD n ⟨#[]⟩=b.getD n ⟨#[]⟩
theorem sL.set{b o:List ByteArray}(h:sL b o)(n:Nat)(x:ByteArray)(A:qi (o.getD n ⟨#[]⟩)=true):sL b (o.set n x):=by
 refine⟨by rw[bT];exact h.1,λm d=>?_⟩;have z:=h.2 m d;by_cases e:m=n
 .grind
 .grind
theorem Au(b:List ByteArray):∀(ts:List Tm) (xs o:List ByteArray) (i:Nat) (d:i<aB ts) (z:i<aB xs),sL b o->qi (je b ts[i])=false->lI (je b ts[i]) xs[i]=false->gH ts xs o=aW
 |t::ts,x::xs,o,0,d,z,hE,he,hq=>by
  simp only[List.getElem_cons_zero] at he hq;unfold gH;unfold je at he hq;by_cases A:t.name.toList.isEmpty=true;{rw[if_pos A] at he hq;have E:qi t.name=true:=A;rw[if_neg (by rw[E];simp),hE.2 _ he,if_neg (by rw[he];simp),if_neg (by rw[hq];simp)]};{grind}
 |t::ts,x::xs,o,i+1,d,z,hE,he,hq=>by
  simp only[List.getElem_cons_succ] at he hq;have M:=λO G=>Au b ts xs O i (by simpa using d) (by simpa using z) G he hq;unfold gH;split;{grind}
  .split;{rename_i C;exact M _ (hE.set _ _ C)};{grind}
structure gC(N:Nat)(w X:Wq)(r1:ByteArray)(v1:Vq)(r2:ByteArray)(v2:Vq)(out:List ByteArray):Prop where
 below:cF N w X
 b1:X.heap[N]?=cC #[St r1,v1] 145
 b2:X.heap[N+1]?=cC #[St r2,v2] 226
 row:X.heap[N+2]?=aV (aN (out.map aI).toArray 9)
theorem gC.alloc{w:Wq}(h:gC N w X r1 v1 r2 v2 out)(o:Obj):gC N w (X.alloc o) r1 v1 r2 v2 out:=by have hs:N+3<=X.heap.size:=(zg h.row).1;exact⟨h.below.alloc (by omega) o,(aZ _ _ _ (by omega)).trans h.b1,(aZ _ _ _ (by omega)).trans h.b2,(aZ _ _ _ (by omega)).trans h.row⟩
theorem gC.drew{w:Wq}(h:gC N w X r1 v1 r2 v2 out):gC N w X.drew r1 v1 r2 v2 out:=⟨h.below.drew,h.b1,h.b2,h.row⟩
theorem gC.drewN{w:Wq}(h:gC N w X r1 v1 r2 v2 out)(q:Nat):gC N w (X.drewN q) r1 v1 r2 v2 out:=⟨qy h.below,h.b1,h.b2,h.row⟩
theorem gC.like{w:Wq}(h:gC N w X r1 v1 r2 v2 out)(d:Y.heap=X.heap)(z:Y.os=X.os)(A:Y.tape=X.tape)(C:Y.output=X.output):gC N w Y r1 v1 r2 v2 out:=
 ⟨⟨z.trans h.below.os,A.trans h.below.tape,C.trans h.below.output,by rw[d];exact h.below.size,λk E=>by rw[d];exact h.below.block k E⟩,by rw[d];exact h.b1,by rw[d];exact h.b2,by rw[d];exact h.row⟩
theorem gC.set{w:Wq}(h:gC N w X r1 v1 r2 v2 out)(k:Nat)(x:ByteArray):gC N w (X.setCell (Ad (N+2) k) (St x)) r1 v1 r2 v2 (out.set k x):=by refine⟨h.below.setCell (by simp) _,(bJ _ _ _ _ (by simp)).trans h.b1,(bJ _ _ _ _ (by simp)).trans h.b2,?_⟩;rw[Qo h.row k (St x)];congr 2;rw[<-bO];simp[List.map_set]
theorem gC.cell{w:Wq}(h:gC N w X r1 v1 r2 v2 out)(k:Nat)(d:k<aB out):aC X (Ad (N+2) k)=aV (St (out.getD k ⟨#[]⟩)):=by simp[aC,h.row,bB d]
theorem gC.own{w:Wq}(h:gC N w X r1 v1 r2 v2 out)(d:aB out<=1000):aE X N 9 1 (Sc (N+2) (aB out) (aB out)) (aB out) (out.map aI):=
 ⟨by simp,aR ⟨N+2,aB out,(out.map aI).toArray,rfl,by omega,h.row,bL _,by unfold maxLen;omega,by simp,by rw[bX];exact bG (by simp)⟩⟩
def pp(a:Am)(g:Gr)(b:List ByteArray)(vb:Vq)(N:Nat)(e:Ending)(w':Wq):Prop:=
 match fE a g b with
 |none=>e=aO (aL #[vb,aK false])
 |some b'=>∃v',e=aO (aL #[v',aK true])/\aE w' N 9 1 v' (aB b') (b'.map aI)
theorem I9(p:Am×Vq)(q:Gr×Vq)(vb:Vq)(b:List ByteArray)(w:Wq)(M:fI w p)(hG:qv w q.2 q.1.args)(hB:qv w vb b)(hl:aB p.1.args<=1000)(cc:0<aB b)(ev:aB b<=1000)(hn:∀t∈p.1.args,t.num<aB b):Cs 123 #[aJ #[St p.1.rel,p.2],lM q,vb] w λe w'=>pp p.1 q.1 b vb w.heap.size e w'/\cF w.heap.size w w':=by
 have⟨i0,hi,ax,aq,ay⟩:=info_parts Tryz.infoStr;have⟨⟨r1,l1⟩,v1⟩:=p;have⟨⟨r2,l2⟩,v2⟩:=q;unfold lM;simp only at hl hn hG ⊢;have⟨a1,c1,hq⟩:=qe M;simp only at hq;subst hq;obtain⟨a2,z,rfl⟩:=qe hG;have⟨gb,cb,e1,fe,_⟩:=hB.cell 0 cc;subst e1;obtain⟨N,hN⟩:∃N,N=w.heap.size:=⟨_,rfl⟩;have am:=hN.symm;have Qd6:gb<N:=by rw[hN];exact fe
 have de:Hid (∀(X:Wq),cF N w X->∀(j:Nat) (C:j<aB l1),∃g,a1=aV ⟨g,0,aW⟩/\g<N/\aC X (Ad g (j*2))=aV (St l1[j].name)/\aC X (Ad g (j*2+1))=aV (Ii l1[j].num)):=by
  intro X hX j C;have⟨g,cap,e1,hg,c0,c1⟩:=M.cell j C;cases e1;have av:g<N:=by{rw[hN];exact hg};exact⟨g,rfl,av,(bD hX av).trans c0,(bD hX av).trans c1⟩
 have di:Hid (∀(X:Wq),cF N w X->∀(j:Nat) (C:j<aB l2),∃g,a2=aV ⟨g,0,aW⟩/\g<N/\aC X (Ad g j)=aV (St l2[j])):=by
  intro X hX j C;have⟨g,cap,e1,hg,c0⟩:=hG.cell j C;cases e1;have av:g<N:=by{rw[hN];exact hg};exact⟨g,rfl,av,(bD hX av).trans c0⟩
 have dd:Hid (∀(X:Wq),cF N w X->∀(j:Nat) (C:j<aB b),aC X (Ad gb j)=aV (St (b.getD j ⟨#[]⟩))):=by intro X hX j C;have⟨g,cap,e1,hg,c0⟩:=hB.cell j C;cases e1;rw[(bD hX Qd6),c0];simp[bB C]
 have A:Hid (fE ⟨r1,l1⟩ ⟨r2,l2⟩ b=aW->∀(e:Ending) (w':Wq),e=aO (aL #[Sc gb (aB b) cb,aK false])->pp ⟨r1,l1⟩ ⟨r2,l2⟩ b (Sc gb (aB b) cb) N e w'):=by intro h e w' he;unfold pp;rw[h];exact he
 have Qf3:Hid (∀b',fE ⟨r1,l1⟩ ⟨r2,l2⟩ b=aV b'->∀(e:Ending) (w':Wq),(∃v',e=aO (aL #[v',aK true])/\aE w' N 9 1 v' (aB b') (b'.map aI))->pp ⟨r1,l1⟩ ⟨r2,l2⟩ b (Sc gb (aB b) cb) N e w'):=by intro b' h e w' he;unfold pp;rw[h];exact he
 have bb:Hid (∀O O',cF N w ((w.alloc O).alloc O')):=λO O'=>((bZ _ w).alloc (by omega) O).alloc (by simp;omega) O';rw[<-hN];clear M hG hB hN
 cases hr:(r1.toList == r2.toList) with
 |false=>
  have aw:Hid (fE ⟨r1,l1⟩ ⟨r2,l2⟩ b=aW):=by{show _=_;unfold fE lI;rw[if_neg (by simp[hr])]};go_enter cO,cM;go_wp2;go_ret2;exact⟨A.o aw.o _ _ rfl,bb.o _ _⟩
 |true=>
  by_cases ad:aB l1=aB l2
  .have d:fE ⟨r1,l1⟩ ⟨r2,l2⟩ b=gH l1 l2 b:=by{unfold fE lI;rw[if_pos ⟨hr,ad⟩]};rw[d] at A Qf3;obtain⟨n,ci⟩:∃n,aB l2=n:=⟨_,rfl⟩;have bf:=aA ci;have ct:Hid (aB l1=n):=ad.trans ci;have e1:aB l1=n:=ad.trans ci;rw[e1] at hl ⊢;rw[ci];clear ad ci e1 d;go_enter cO,cM;go_wp2
   go_loopw [8] (λx wr=>∃k:Nat,x=aM aP k/\k<=n/\wr=(w.alloc (aN #[aI r1,aH a1 n c1] 145)).alloc (aN #[aI r2,aH a2 n z] 226)) (λx _=>n-(intOf x).toNat)
   case atStart=>exact⟨0,rfl,zz,rfl⟩
   case round=>
    obtain⟨k,rfl,cd,rfl⟩:=hrel;by_cases ab:k<n
    .have bu:k<aB l1:=by{rw[ct.o];exact ab};have b9:k<aB l2:=by{rw[bf.o];exact ab};obtain⟨g1,rfl,Qkl,d0,d1⟩:=de.o _ (bb.o (aN #[St r1,aH a1 n c1] 145) (aN #[St r2,aH a2 n z] 226)) k bu;obtain⟨g2,rfl,Qhd,d2⟩:=di.o _ (bb.o (aN #[St r1,Sc g1 n c1] 145) (aN #[St r2,aH a2 n z] 226)) k b9;have b8:=hn l1[k] (zm bu);have d3:=dd.o _ (bb.o (aN #[St r1,Sc g1 n c1] 145) (aN #[St r2,Sc g2 n z] 226)) l1[k].num b8;have d4:=λE h2=>Au b l1 l2 b k bu b9 ⟨rfl,λ_ _=>rfl⟩ E h2;have Z:=aA d4;clear d4;generalize l1[k]=tm at *;generalize l2[k]=y at *;have⟨nm,nu⟩:=tm;simp only at d0 d1 d3 b8;have da:je b ⟨nm,nu⟩=if nm.toList.isEmpty=true then b.getD nu ⟨#[]⟩ else nm:=rfl;rw[da] at Z;clear da;generalize b.getD nu ⟨#[]⟩=bn at *;unfold qi lI at Z
     cases E:nm.toList.isEmpty with
     |true=>
      rw[E] at Z;simp only[if_true] at Z
      cases h2:bn.toList.isEmpty with
      |true=>
       go_wp2
       go_roundw
       case rel=>exact⟨k+1,by go_num,by omega,by trivial⟩
       case measure=>simp[intOf];omega
      |false=>
       cases G:(bn.toList == y.toList) with
       |true=>
        go_wp2
        go_roundw
        case rel=>exact⟨k+1,by go_num,by omega,by trivial⟩
        case measure=>simp[intOf];omega
       |false=>have aw:=Z.o h2 G;have bq:Hid _:=A.o aw;clear aw Z;go_wp2;go_ret2;exact⟨bq.o _ _ rfl,bb.o _ _⟩
     |false=>
      rw[E] at Z;simp only[cD,if_false] at Z
      cases G:(nm.toList == y.toList) with
      |true=>
       go_wp2
       go_roundw
       case rel=>exact⟨k+1,by go_num,by omega,by trivial⟩
       case measure=>simp[intOf];omega
      |false=>have aw:=Z.o E G;have bq:Hid _:=A.o aw;clear aw Z;go_wp2;go_ret2;exact⟨bq.o _ _ rfl,bb.o _ _⟩
    .have Qdz:i0.bytes*aB b<=281474976710656:=by{rw[ay];omega};have ey:aB b<=maxLen:=by{unfold maxLen;omega};obtain⟨W2,ce⟩:∃W2,(w.alloc (aN #[St r1,aH a1 n c1] 145)).alloc (aN #[St r2,aH a2 n z] 226)=W2:=⟨_,rfl⟩;have ef:W2.heap.size=N+2:=by{rw[<-ce];simp[am]};have ag:cF N w W2:=by{rw[<-ce];exact bb.o _ _};have x1:W2.heap[N]?=cC #[St r1,aH a1 n c1] 145:=by{rw[<-ce,aZ _ _ _ (by simp;omega),<-am];exact zn w _};have x2:W2.heap[N+1]?=cC #[St r2,aH a2 n z] 226:=by{rw[<-ce];have:=zn (w.alloc (aN #[St r1,aH a1 n c1] 145)) (aN #[St r2,aH a2 n z] 226);rw[World.size_alloc,am] at this;exact this};have y1:aC W2 (Ad N 1)=aV (aH a1 n c1):=zc x1
     have HMk:Hid (∀w1,aE w1 N 9 1 (Sc (N+2) (aB b) (aB b)) (aB b) (madeCells (aI ⟨#[]⟩).cells (aB b*1)).toList->W2.grownBy w1 aW->gC N w w1 r1 (aH a1 n c1) r2 (aH a2 n z) (bC (aB b) ⟨#[]⟩)):=by
      intro w1 ho hg;rw[wI] at ho;refine⟨ag.grown hg (by omega) (λk e=>by cases e),(hg.block N (by omega) (by simp)).trans x1,(hg.block (N+1) (by omega) (by simp)).trans x2,?_⟩;obtain⟨_,⟨hv,_⟩|⟨g',ej,fg,hv,_,hh,E,h2,G,h4⟩⟩:=ho;{cases hv}
      .cases hv;rw[hh];congr 2;rw[<-bO];simp only[bX] at G h4;rw[<-h4,bG (by simp[G])]
     have HCp:Hid (∀w1,gC N w w1 r1 (aH a1 n c1) r2 (aH a2 n z) (bC (aB b) ⟨#[]⟩)->(∀j v,(b.map aI)[j]?=aV v->aC w1 ((⟨gb,0,aW⟩:Addr).add j)=aV v)/\gC N w (w1.setRow (N+2) ((((bC (aB b) (⟨#[]⟩:ByteArray)).map aI).toArray.toList.take 0++(b.map aI++((bC (aB b) (⟨#[]⟩:ByteArray)).map aI).toArray.toList.drop (0+aB (b.map aI)))).toArray)) r1 (aH a1 n c1) r2 (aH a2 n z) b):=by
      intro w1 d;refine⟨λj v C=>?_,?_⟩
      .have cu:j<aB b:=by{apply Classical.byContradiction;intro h;rw[List.getElem?_eq_none (by simp;omega)] at C;cases C};have E:=dd.o w1 d.below j cu;rw[List.getElem?_map,bB cu] at C;simp only[Option.map_some,Option.some.injEq] at C;subst C;have e:(⟨gb,0,aW⟩:Addr).add j=⟨gb,j,aW⟩:=by{simp[Addr.add];intro h;exact h.symm};rw[e,E];simp[bB cu]
      .have Q2:=setRow_heap w1 (N+2) _ ((((bC (aB b) (⟨#[]⟩:ByteArray)).map aI).toArray.toList.take 0++(b.map aI++((bC (aB b) (⟨#[]⟩:ByteArray)).map aI).toArray.toList.drop (0+aB (b.map aI)))).toArray) _ _ d.row;refine⟨below_setRow d.below (by omega) _,(setRow_other w1 _ _ _ (by omega)).trans d.b1,(setRow_other w1 _ _ _ (by omega)).trans d.b2,?_⟩;rw[Q2];congr 2;simp
     have Qjq:∀v∈b.map aI,v.oneCell'=true:=by{intro v hv;obtain⟨x,_,rfl⟩:=List.mem_map.1 hv;rfl};have fa:(Tryz.prog.info? 9).map (·.size)=aV 1:=by{rw[hi];simp[aq]};rw[ce];clear x1 x2 ag
     go_wp2_with (first|(at_make;refine wpList_make_full _ rfl (.tmp 65) (.tmp 65) 22 rfl N 9 i0 (St ⟨#[]⟩) 1 cE hi ax aq aP aP _ _ (aB b) rfl rfl rfl rfl Qdz ey (by omega) ?_;rw[ef];intro w1 a9 an;have cp:Hid _:=HMk.o w1 a9 an;clear a9 an)|(refine wpList_copy_own rfl (.tmp 67) (.tmp 68) 22 239 rfl 9 cE fa (N+2) 0 (aB b) (aB b) ⟨gb,0,aW⟩ (aB b) cb rfl rfl _ _ cp.o.row (b.map aI) (by simp) (HCp.o w1 cp.o).1 (by simp) Qjq ?_;have dp:Hid _:=(HCp.o w1 cp.o).2))
     have db:Hid (gC N w (w1.setRow (N+2) (cA aI b).toArray) r1 (aH a1 n c1) r2 (aH a2 n z) b):=by
      have h:gC N w (w1.setRow (N+2) (cA aI b).toArray) r1 (aH a1 n c1) r2 (aH a2 n z) b:=by{simpa using dp.o};exact h
     clear cp HMk HCp dp
     go_loopw [11] (λx wr=>∃(k:Nat) (out:List ByteArray),x=aM aP k/\k<=n/\gC N w wr r1 (aH a1 n c1) r2 (aH a2 n z) out/\Hid (aB out=aB b)/\Hid (gH (l1.drop k) (l2.drop k) out=gH l1 l2 b)) (λx _=>n-(intOf x).toNat)
     case atStart=>exact⟨0,b,rfl,zz,db.o,rfl,rfl⟩
     case round=>
      clear db;obtain⟨k,out,rfl,cd,d,bh,aa⟩:=hrel;have y1:aC wr (Ad N 1)=aV (aH a1 n c1):=by{simp[aC,d.b1]};by_cases ab:k<n
      .have bu:k<aB l1:=by{rw[ct.o];exact ab};have b9:k<aB l2:=by{rw[bf.o];exact ab};obtain⟨g1,rfl,Qkl,d0,d1⟩:=de.o wr d.below k bu;have b8:=hn l1[k] (zm bu);rw[aX bu,aX b9] at aa;have M:=d.alloc (aN #[St l1[k].name,Ii l1[k].num] 215);obtain⟨g2,rfl,Qhd,d2⟩:=di.o _ M.below k b9;have d3:=M.cell l1[k].num (by rw[bh.o];exact b8);have fi:N+3<=wr.heap.size:=(zg d.row).1;have cr:=λx=>M.set l1[k].num x;generalize l1[k]=tm at *;generalize l2[k]=y at *;have⟨nm,nu⟩:=tm;simp only at d0 d1 d3 b8 M cr d2;have z1:aC (wr.alloc (aN #[St nm,Ii nu] 215)) (Ad (N+1) 1)=aV (Sc g2 n z):=by{simp[aC,M.b2]};have z2:aD (wr.alloc (aN #[St nm,Ii nu] 215)) (Ad (N+2) nu)=false:=by{simp[aD,M.row]};simp only[gH] at aa;unfold qi lI at aa;have HA:=aA M;have cj:=aA cr;have b3:aB out=aB b:=bh.o;obtain⟨on,c6⟩:∃on,out.getD nu ⟨#[]⟩=on:=⟨_,rfl⟩;rw[c6] at d3 aa;clear M cr d c6
       cases E:nm.toList.isEmpty with
       |false=>
        rw[E] at aa;simp only[if_true] at aa
        cases G:(nm.toList == y.toList) with
        |true=>
         rw[G] at aa;simp only[if_true] at aa;clear b3;go_wp2;go_quiet (fail);go_wp2;go_quiet (fail);go_wp2
         go_roundw
         case rel=>exact⟨k+1,out,by go_num,by omega,HA.o.drewN _,bh,aa⟩
         case measure=>simp[intOf];omega
        |false=>rw[G] at aa;simp only[cD,if_false] at aa;have bq:Hid _:=A.o aa.o.symm;clear b3 aa;go_wp2;go_quiet (fail);go_wp2;go_ret2;exact⟨bq.o _ _ rfl,qy HA.o.below⟩
       |true=>
        rw[E] at aa;simp only[Bool.true_eq_false,if_false] at aa
        cases h2:on.toList.isEmpty with
        |true=>
         rw[h2] at aa;simp only[if_true] at aa;have Qk6:Hid (aB (out.set nu y)=aB b):=by{show _=_;rw[bT];exact b3};have e2:Hid (gC N w ((wr.alloc (aN #[St nm,Ii nu] 215)).setCell (Ad (N+2) nu) (St y)) r1 (Sc g1 n c1) r2 (Sc g2 n z) (out.set nu y)):=cj.o y;clear b3 cj;go_wp2;go_quiet (fail);go_wp2
         go_region
         all_goals
          go_wp2
          go_roundw
          case rel=>exact⟨k+1,out.set nu y,by go_num,by omega,gC.like e2.o rfl rfl rfl rfl,Qk6,aa⟩
          case measure=>simp[intOf];omega
        |false=>
         rw[h2] at aa;simp only[cD,if_false] at aa
         cases G:(on.toList == y.toList) with
         |true=>
          rw[G] at aa;simp only[if_true] at aa;clear b3 cj;go_wp2;go_quiet (fail);go_wp2;go_quiet (fail);go_wp2
          go_roundw
          case rel=>exact⟨k+1,out,by go_num,by omega,gC.like HA.o rfl rfl rfl rfl,bh,aa⟩
          case measure=>simp[intOf];omega
         |false=>rw[G] at aa;simp only[cD,if_false] at aa;have bq:Hid _:=A.o aa.o.symm;clear b3 cj aa;go_wp2;go_quiet (fail);go_wp2;go_quiet (fail);go_wp2;go_ret2;exact⟨bq.o _ _ rfl,qy (qy HA.o.below)⟩
      .have E:l1.drop k=[]:=aY (by rw[ct.o];omega);rw[E] at aa;simp only[gH] at aa;have ep:Hid _:=Qf3.o out aa.o.symm;have c3:=d.own (by rw[bh.o];exact ev);rw[bh.o] at c3;have e4:=aA c3;have d6:=aA bh;have HB:=aA d.below;clear d c3 aa;go_wp2;go_ret2;refine⟨ep.o _ _ ⟨_,rfl,?_⟩,HB.o⟩;rw[d6.o];exact e4.o
  .have aw:Hid (fE ⟨r1,l1⟩ ⟨r2,l2⟩ b=aW):=by{show _=_;unfold fE;rw[if_neg (by simp[ad])]};have E:((aB l1:Int) == (aB l2:Int))=false:=by{simp;omega};have h2:((aB l1:Int) != (aB l2:Int))=true:=by{simp;omega};go_enter cO,cM;go_wp2;go_ret2;exact⟨A.o aw.o _ _ rfl,bb.o _ _⟩
def dP(vs l:List ByteArray):List ByteArray:=l.foldl Qq vs
def gS(gs:List Gr):List ByteArray:=gs.flatMap (·.args)
theorem Ao(d:List ByteArray)(x:ByteArray):aB d<=aB (Qq d x)/\aB (Qq d x)<=aB d+1:=by grind [Qq]
theorem yE(l:List ByteArray):∀d,aB d<=aB (dP d l)/\aB (dP d l)<=aB d+aB l:=by
 induction l with
 |nil=>intro d;simp[dP]
 |cons t l ih=>grind [Ao,Qq,dP]
theorem Ib(v:Vq)(ps:List (Gr×Vq))(w:Wq)(Z:gM w v ps)(hl:aB ps<=100000)(ha:∀p∈ps,aB p.1.args<=1000)(ht:aB (dP [] (gS (ps.map (·.1))))<=100000):Cs 222 #[v] w λe w'=>∃v',e=aO v'/\kE w.heap.size w w' v' (dP [] (gS (ps.map (·.1)))):=by
 obtain⟨N,M⟩:∃N,N=w.heap.size:=⟨_,rfl⟩;have am:=M.symm;obtain⟨va,vc,hv⟩:=qe Z.row;rw[<-M];have HP:Hid (gM w v ps):=Z;subst hv;clear Z M;generalize hTT:dP [] (gS (ps.map (·.1)))=T at *;go_enter Tryz.func222,Tryz.ntmps222;go_wp2
 go_loopw [3,4] (λo p wr=>∃(i:Nat) (vo:Vq) (d:List ByteArray),vo=o/\p=aM aP i/\i<=aB ps/\kE N w wr vo d/\Hid (dP d (gS ((ps.drop i).map (·.1)))=T)) (λ_ p _=>aB ps-(intOf p).toNat)
 case atStart=>exact⟨0,_,[],rfl,rfl,zz,⟨zr,by omega,zo⟩,hTT⟩
 case round=>
  obtain⟨i,vo,d,rfl,rfl,cd,z,aa⟩:=hrel;by_cases ab:i<aB ps
  .have b7:Hid (dP d (ps[i].1.args++gS ((ps.drop (i+1)).map (·.1)))=T):=by have:=aa.o;rw[aX ab,bI] at this;unfold gS at this ⊢;rw[List.flatMap_cons] at this;exact this
   have eg:=ha ps[i] (zm ab);have A:Hid (kE N w wr vo d):=z;clear aa z;go_wp2
   go_loopw [3,5] (λo p wr=>∃(m:Nat) (vo:Vq) (d:List ByteArray),vo=o/\p=aM aP m/\m<=aB ps[i].1.args/\kE N w wr vo d/\Hid (dP d (ps[i].1.args.drop m++gS ((ps.drop (i+1)).map (·.1)))=T)) (λ_ p _=>aB ps[i].1.args-(intOf p).toNat)
   case atStart=>exact⟨0,_,d,rfl,rfl,zz,A.o,b7⟩
   case round=>
    clear A b7;obtain⟨m,vo,d,rfl,rfl,Qky,z,C⟩:=hrel;obtain⟨g,cap,e1,hg,d0,d1,⟨x1,x2,E⟩,O⟩:=(HP.o.below (by rw[am];exact z.below)).cell i ab;cases e1;rw[E] at d1;by_cases b5:m<aB ps[i].1.args
    .obtain⟨g3,ee,e3,_,f0⟩:=O.cell m b5;rw[E] at e3;cases e3;rw[aX b5] at C;generalize ps[i].1.args[m]=nm at *;simp only[List.cons_append,dP,bQ] at C;have c4:Hid (dP (Qq d nm) (ps[i].1.args.drop (m+1)++gS ((ps.drop (i+1)).map (·.1)))=T):=C;have dx:=(yE (ps[i].1.args.drop (m+1)++gS ((ps.drop (i+1)).map (·.1))) (Qq d nm)).1;rw[c4.o] at dx;have ff:=(Ao d nm).1;have fh:aB d<=100000:=by omega
     have eh:=xQ N vo d nm wr z.size (by omega) z.own;have A:Hid (kE N w wr vo d):=z;clear C dx ff E O d0 z
     go_wp2_with (go_at_call 119;refine eh.mono ?_;rintro e w2 ⟨v2,rfl,aj,G⟩)
     have be:kE N w w2 v2 (Qq d nm):=⟨A.o.below.grown G A.o.size (λk e=>(Qp A.o.own k e).1),bF A.o.size G.size,aj⟩;clear aj G
     go_roundw
     case rel=>exact⟨m+1,v2,_,rfl,by go_num,by omega,be,c4⟩
     case measure=>simp[intOf];omega
    .rw[aY (by omega)] at C;simp only[List.nil_append] at C;have A:Hid (kE N w wr vo d):=z;clear z O E;go_wp2
     go_roundw
     case rel=>exact⟨i+1,vo,d,rfl,by go_num,by omega,A.o,C⟩
     case measure=>simp[intOf];omega
  .rw[aY (by omega)] at aa;have eb:d=T:=by have:=aa.o;simpa [dP,gS] using this
   subst eb;go_wp2;go_ret;exact⟨vo,rfl,z⟩
def wQ(r:Rl)(at' v:Nat):Bool:=Qd (r.body.take (at'+1)) v && !Qd [r.head] v && !Qd (r.body.drop (at'+1)) v
def iD(r:Rl)(at':Nat):Bool:=(bE 8).any (wQ r at')
structure qE(W:Wq)(q:Rl×Vq×Vq)(g c:Nat)(ps:List (Am×Vq)):Prop where
 head:fI W (q.1.head,q.2.1)
 body:gW W (aV ⟨g,0,aW⟩) ps
 eq:ps.map (·.1)=q.1.body
 val:q.2.2=Sc g (aB ps) c
 cap:aB ps<=c
theorem qE.below{W':Wq}{q:Rl×Vq×Vq}{g c:Nat}(h:qE W q g c ps)(d:cF W.heap.size W W'):qE W' q g c ps:=⟨h.head.kept (Kp.ofBelow (S:=0) d),h.body.below d,h.eq,h.val,h.cap⟩
theorem gW.take(h:gW W a ps)(i:Nat):gW W a (ps.take i):=
 ⟨λk A=>by
  have d:k<aB ps:=by{grind};have e:(ps.take i)[k]=ps[k]:=by grind
  rw[e];exact h.cells k d,λp z=>h.each p (bH z)⟩
theorem gW.nil:gW W a []:=⟨λk d=>by simp at d,λp z=>by cases z⟩
theorem gW.single(X:Wq)(hd:Am)(d:Vq)(h:fI X (hd,d)):gW (X.alloc (aN #[St hd.rel,d] 145)) (aV ⟨X.heap.size,0,aW⟩) [(hd,d)]:=
 ⟨λk A=>by
  have en:k=0:=by{grind};subst en
  exact⟨X.heap.size,0,rfl,by simp,by simp,by simp⟩,λp z=>by
  simp at z;subst z
  exact h.kept (Kp.alloc (S:=0) _ _)⟩
theorem CY(q:Rl×Vq×Vq)(g c:Nat)(ps:List (Am×Vq))(at':Nat)(w:Wq)(O:qE w q g c ps)(fp:at'<aB ps)(hl:aB ps<=900)(hm:∀p∈(q.1.head,q.2.1)::ps,aB p.1.args<=1000000/\∀t∈p.1.args,t.num<=1000000):Cs 223 #[kI q,Ii at'] w λe w'=>e=aO (aK (iD q.1 at'))/\cF w.heap.size w w':=by
 unfold kI;have⟨a1,a2,co⟩:=qe O.head;simp only at co;have dt:=O.val;have ec:=O.cap;rw[co,dt];obtain⟨N,hN⟩:∃N,N=w.heap.size:=⟨_,rfl⟩;have am:=hN.symm;have dn:q.1.body=ps.map (·.1):=O.eq.symm;have Qch:∀v,wQ q.1 at' v=(Qd ((ps.take (at'+1)).map (·.1)) v && !Qd [q.1.head] v && !Qd ((ps.drop (at'+1)).map (·.1)) v):=by intro v;unfold wQ;rw[dn,List.map_take,List.map_drop]
 obtain⟨W0,cl⟩:∃W0,W0=w.alloc (aN #[St q.1.head.rel,aH a1 (aB q.1.head.args) a2,Sc g (aB ps) c] 148):=⟨_,rfl⟩;have el:W0.heap.size=N+1:=by rw[cl];simp[am]
 have cc:cF N w W0:=by rw[cl];exact (bZ _ w).alloc (by omega) _
 have dk:W0.heap[N]?=cC #[St q.1.head.rel,aH a1 (aB q.1.head.args) a2,Sc g (aB ps) c] 148:=by rw[cl,<-am];exact zn w _
 have dy:=O.below (by rw[am];exact cc)
 have z:Hid (∀X,cF (N+1) W0 X->gW X (aV ⟨g,0,aW⟩) ps/\fI X (q.1.head,aH a1 (aB q.1.head.args) a2)/\aC X (Ad N 0)=aV (St q.1.head.rel)/\aC X (Ad N 1)=aV (aH a1 (aB q.1.head.args) a2)/\aC X (Ad N 2)=aV (Sc g (aB ps) c)/\cF N w X/\N+1<=X.heap.size):=by
  intro X d;have e8:cF W0.heap.size W0 X:=by{rw[el];exact d};have h1:X.heap[N]?=_:=(d.block N (by omega)).trans dk;have dw:=dy.below e8;refine⟨dw.body,by have:=dw.head;rw[co] at this;exact this,zc h1,zc h1,zc h1,cc.trans (d.mono (by omega)),by have:=d.size;omega⟩
 have Qfy:Hid (∀(X:Wq) (v:Nat),cF (N+1) W0 X->v<=8->Cs 246 #[Sc g (at'+1) c,Ii v] X λe w'=>e=aO (aK (Qd ((ps.take (at'+1)).map (·.1)) v))/\w'=X):=by
  intro X v d hv;have ad:aB (ps.take (at'+1))=at'+1:=by{rw[List.length_take];omega};have h:=rA (aV ⟨g,0,aW⟩) c (ps.take (at'+1)) v X ((z.o X d).1.take _) (by omega) (by omega) (λp Z=>hm p (zt (bH Z)));rw[ad] at h;exact h
 have et:Hid (∀(X:Wq) (v:Nat),cF (N+1) W0 X->v<=8->Cs 246 #[Sc X.heap.size 1 1,Ii v] (X.alloc (aN #[St q.1.head.rel,aH a1 (aB q.1.head.args) a2] 145)) λe w'=>e=aO (aK (Qd [q.1.head] v))/\w'=X.alloc (aN #[St q.1.head.rel,aH a1 (aB q.1.head.args) a2] 145)):=by
  intro X v d hv
  have h:=rA (aV ⟨X.heap.size,0,aW⟩) 1 [(q.1.head,aH a1 (aB q.1.head.args) a2)] v _ (gW.single X q.1.head _ (z.o X d).2.1) (by simp) (by omega) (λp Z=>by
   simp at Z;subst Z
   exact hm (q.1.head,q.2.1) zs)
  exact h
 have e5:Hid (∀(X:Wq) (v:Nat),cF (N+1) W0 X->v<=8->Cs 246 #[aH (if c=at'+1 then aV ⟨g,0,aW⟩ else aV ⟨g,(at'+1)*2,aW⟩) (aB ps-(at'+1)) (c-(at'+1)),Ii v] X λe w'=>e=aO (aK (Qd ((ps.drop (at'+1)).map (·.1)) v))/\w'=X):=by
  intro X v d hv;have ad:aB (ps.drop (at'+1))=aB ps-(at'+1):=List.length_drop
  have hA:gW X (if c=at'+1 then aV ⟨g,0,aW⟩ else aV ⟨g,(at'+1)*2,aW⟩) (ps.drop (at'+1)):=by
   split;{rw[aY (by omega)];exact gW.nil};{have:=(z.o X d).1.drop (at'+1);rw[Nat.zero_add] at this;exact this}
  have h:=rA _ (c-(at'+1)) (ps.drop (at'+1)) v X hA (by omega) (by omega) (λp Z=>hm p (zt (List.mem_of_mem_drop Z)));rw[ad] at h;exact h
 have hL:Hid (iD q.1 at'=(bE 8).any (λv=>Qd ((ps.take (at'+1)).map (·.1)) v && !Qd [q.1.head] v && !Qd ((ps.drop (at'+1)).map (·.1)) v)):=by show _=_;unfold iD;congr 1;funext v;exact Qch v
 generalize iD q.1 at'=T at *;rw[<-hN];clear O dy cc dk Qch dn hm hN co dt;generalize q.1.head.rel=hrl at *;generalize (aB q.1.head.args)=hal at *;have h8:aB gP=8:=rfl;go_enter Tryz.func223,Tryz.ntmps223;go_wp2
 go_loopw [5] (λx wr=>∃k:Nat,x=aM aP k/\k<=8/\cF (N+1) W0 wr/\Hid (T=((bE 8).drop k).any (λv=>Qd ((ps.take (at'+1)).map (·.1)) v && !Qd [q.1.head] v && !Qd ((ps.drop (at'+1)).map (·.1)) v))) (λx _=>8-(intOf x).toNat)
 case atStart=>exact⟨0,rfl,zz,by rw[cl];exact zr,hL⟩
 case round=>
  obtain⟨k,rfl,cd,a6,aa⟩:=hrel;have ck:=zB wr;have az:=(z.o wr a6).2.2.2.2.2.2;by_cases ab:k<8
  .have dz:(bE 8).drop k=k::(bE 8).drop (k+1):=by{rw[aX (by simpa using ab)];simp};rw[dz] at aa;simp only[List.any_cons] at aa;have e0:=aA a6;clear a6 dz;go_wp2_with fail;refine ck.mono ?_;rintro e W2 ⟨v2,rfl,aj,ag⟩;obtain⟨p1,p2,rfl⟩:=qe aj;have G:cF (N+1) W0 W2:=e0.o.trans (ag.mono az);have⟨_,_,k0,k1,k2,_,be⟩:=z.o W2 G;have c7:=Qfy.o W2 k G (by omega);have dq:=et.o W2 k G (by omega);have Qfu:=aA G;clear ck aj ag G;have i1:at'+1<=c:=by{omega};have i2:(at':Int)+1<=(c:Int):=by{omega};generalize Qd ((ps.take (at'+1)).map (·.1)) k=B1 at *;generalize Qd [q.1.head] k=B2 at *;go_wp2_with fail;refine c7.mono ?_;rintro e w' ⟨rfl,C⟩;obtain rfl:W2=w':=C.symm;go_wp2_with fail;refine dq.mono ?_;rintro e w' ⟨rfl,C⟩;obtain⟨W3,cw⟩:∃W3,W2.alloc (aN #[St hrl,aH a1 hal a2] 145)=W3:=⟨_,rfl⟩;rw[cw] at C;obtain rfl:W3=w':=C.symm;have A:cF (N+1) W0 W3:=by{rw[<-cw];exact Qfu.o.alloc be _};have⟨_,_,fs,fq,fo,_,c8⟩:=z.o W3 A;have M:=e5.o W3 k A (by omega);have E:=aA A;generalize Qd ((ps.drop (at'+1)).map (·.1)) k=B3 at *;clear c7 dq A cw Qfu;have i3:at'+1<=aB ps:=by{omega};have i4:(at':Int)+1<=(aB ps:Int):=by{omega};have i5:(aB ps:Int)<=(c:Int):=by{omega};by_cases cz:c=at'+1
   .rw[if_pos cz] at M;have Qd0:c-(at'+1)=0:=by{omega};rw[Qd0] at M;clear cz;go_wp2_with fail;refine M.mono ?_;rintro e w' ⟨rfl,C⟩;obtain rfl:W3=w':=C.symm;clear M
    cases B1 with
    |false=>
     simp only[cJ,cH] at aa;go_wp2
     go_roundw
     case rel=>exact⟨k+1,by go_num,by omega,E.o,aa⟩
     case measure=>simp[intOf];omega
    |true=>
     cases B2 with
     |true=>
      simp only[cL,cI,cJ,cH] at aa;go_wp2
      go_roundw
      case rel=>exact⟨k+1,by go_num,by omega,E.o,aa⟩
      case measure=>simp[intOf];omega
     |false=>
      cases B3 with
      |true=>
       simp only[cL,cI,cH] at aa;go_wp2
       go_roundw
       case rel=>exact⟨k+1,by go_num,by omega,E.o,aa⟩
       case measure=>simp[intOf];omega
      |false=>
       have hT:Hid (T=true):=by{show _=_;rw[aa.o];simp};clear aa;have cv:=(z.o W3 E.o).2.2.2.2.2.1;go_wp2;go_ret;rw[hT.o];exact⟨rfl,cv⟩
   .rw[if_neg cz] at M;go_wp2_with fail;refine M.mono ?_;rintro e w' ⟨rfl,C⟩;obtain rfl:W3=w':=C.symm;clear M
    cases B1 with
    |false=>
     simp only[cJ,cH] at aa;go_wp2
     go_roundw
     case rel=>exact⟨k+1,by go_num,by omega,E.o,aa⟩
     case measure=>simp[intOf];omega
    |true=>
     cases B2 with
     |true=>
      simp only[cL,cI,cJ,cH] at aa;go_wp2
      go_roundw
      case rel=>exact⟨k+1,by go_num,by omega,E.o,aa⟩
      case measure=>simp[intOf];omega
     |false=>
      cases B3 with
      |true=>
       simp only[cL,cI,cH] at aa;go_wp2
       go_roundw
       case rel=>exact⟨k+1,by go_num,by omega,E.o,aa⟩
       case measure=>simp[intOf];omega
      |false=>
       have hT:Hid (T=true):=by{show _=_;rw[aa.o];simp};clear aa;have cv:=(z.o W3 E.o).2.2.2.2.2.1;go_wp2;go_ret;rw[hT.o];exact⟨rfl,cv⟩
  .rw[aY (by simp;omega)] at aa;simp only[List.any_nil] at aa;have ei:=(z.o wr a6).2.2.2.2.2.1;have fb:N<=wr.heap.size:=by{omega};go_wp2_with fail;refine ck.mono ?_;rintro e W2 ⟨v2,rfl,aj,ag⟩;obtain⟨p1,p2,rfl⟩:=qe aj;have G:cF N w W2:=ei.trans (ag.mono fb);clear ck aj ag;go_wp2;go_ret;rw[aa.o];exact⟨rfl,G⟩
