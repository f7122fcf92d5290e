/- A part -/
import Derived.Test.YtjajnhemgphefaaGreatDoorJRefD
import Derived.Lib.ItoaNum
set_option linter.all false
set_option maxRecDepth 100000
set_option maxHeartbeats 8000000
open List renaming length->aB,drop_eq_getElem_cons->bE
open Go.World renaming cell?->aC,frozen?->aD,ownsRow->aE,setCell->aU,alloc_heap_new->bG,cell?_of_block->bH,grownBy->bJ,size_alloc->bL
open Go.Value renaming ownBlock->aF,slice->aH,string->aI,agg->aJ,bool->aK,tuple->aL,int->aM,oneCell'->bF
open Go.Obj renaming cells->aN
open Go.Ending renaming returned->aO
open Go.IntKind renaming i64->aP
open Or renaming inl->aQ,inr->aR
open Option renaming some->aV,none->aW
open Go.RowKit.Below renaming heap_setCell->aX,heap_alloc->aY,cell->bB,refl->bI
open Nat renaming lt_of_lt_of_le->aZ,le_refl->bC,le_trans->bO
open Array renaming getElem?_modify->bD
open Go renaming wpList_append_own->bQ,ownsRow_succ->bU,bodyPost_ret->bX,TypeId->bZ
open Go.Proofs.Tryz renaming underlying143->bT
namespace Go.Proofs.YtjajnhemgphefaaGreatDoor
open Go renaming World->Wq,Value->Vq
open Go.RowKit Go.Shelf
structure Lk where
 want:Int
 body:Bool
 alone:Bool
 rules:Nat
 atoms:Nat
 args:Nat
 e:Int
def kL(l:Lk):Array Vq:=#[aM aP l.want,aK l.body,aK l.alone,aM aP l.rules,aM aP l.atoms,aM aP l.args,aM aP l.e]
def oH(t:RT):Vq:=aJ #[aM aP t.kind,aI t.text,aM aP t.place,aM aP t.runes]
def fY(l:Lk):Lk:=
 if l.want=0 then {l with rules:=l.rules+1,body:=false} else if l.want=1 then {l with atoms:=l.atoms+1} else {l with args:=l.args+1}
def ig(l:Lk):Bool:=if l.want=0 then decide (8<l.rules+1) else if l.want=1 then decide (3<l.atoms+1) else decide (2<l.args+1)
def fS(l:Lk)(t:RT):Lk:=
 if t.kind≠1/\(t.kind≠2\/l.want≠3) then {fY l with e:=2}
 else if ig l=true\/8<t.runes then {fY l with e:=3}
 else if l.want=3 then {fY l with want:=4} else {fY l with want:=2}
def eJ(l:Lk)(t:RT):Lk:=
 if l.want=2/\t.kind=40 then {l with args:=0,want:=3}
 else if l.want=4/\t.kind=44 then {l with want:=3}
 else if l.want=4/\t.kind=41 then {l with want:=if l.alone=true then 6 else 5}
 else if l.want=5/\t.kind=46 then {l with want:=0}
 else if l.want=5/\t.kind=44/\l.body=true then {l with want:=1}
 else if l.want=5/\t.kind=3/\l.body=false then {l with body:=true,atoms:=0,want:=1}
 else {l with e:=2}
theorem yP{a b:Wq}{k:Nat}(h:a.grownBy b (aV k))(o:Obj):a.grownBy (b.alloc o) (aV k):=
 ⟨h.os,h.tape,h.output,by have:=h.size;simp;omega,λi d z=>(aY b o i (aZ d h.size)).trans (h.block i d z)⟩
theorem Cp{a b:Wq}{k:Nat}(h:a.grownBy b (aV k))(o:Nat)(v:Vq):a.grownBy (b.setCell (Ad k o) v) (aV k):=
 ⟨h.os,h.tape,h.output,by have:=h.size;simpa using this,λi z d=>(aX b _ v i (λe=>d (by simp at e;rw[e]))).trans (h.block i z d)⟩
theorem Qo{w:Wq}{b:Nat}{c:Array Vq}{t:bZ}(h:w.heap[b]?=cC c t)(o:Nat)(v:Vq):(w.setCell (Ad b o) v).heap[b]?=cC (c.setIfInBounds o v) t:=by simp[aU,bD,h]
theorem CL(d:Nat)(l:Lk)(t:RT)(w:Wq)(A:l.want=0\/l.want=1\/l.want=3)(C:l.rules<=1000000)(E:l.atoms<=1000000)(G:l.args<=1000000)(z:w.heap[d]?=cC (kL l) 298):Cs 175 #[Pt d,oH t] w λe w'=>e=aO (aL #[])/\w'.heap[d]?=cC (kL (fS l t)) 298/\w.grownBy w' (aV d):=by
 have cl:d<w.heap.size:=(zg z).1;have M:d≠w.heap.size:=by omega
 have⟨want,body,alone,rules,atoms,args,e⟩:=l;have⟨kind,text,place,runes⟩:=t;unfold kL at z;unfold oH;simp only at A C E G z ⊢;have O:aC w (Ad d 0)=aV (Ii want):=zc z;have Z:aC w (Ad d 1)=aV (aK body):=zc z;have c3:aC w (Ad d 3)=aV (Ii rules):=zc z;have c4:aC w (Ad d 4)=aV (Ii atoms):=zc z;have c5:aC w (Ad d 5)=aV (Ii args):=zc z;have c6:aC w (Ad d 6)=aV (Ii e):=zc z;have f0:∀o,aD w (Ad d o)=false:=λo=>by simp[aD,z]
 rcases A with rfl|rfl|rfl
 all_goals
  go_enter Tryz.func175,Tryz.ntmps175;go_wp2
  all_goals
   first|go_end0|refine bX (results_none rfl _ _ _) rfl ?_
   refine⟨rfl,?_,by repeat (first|exact bJ.refl _ _|apply yP|apply Cp)⟩;rw[aY _ _ _ (by simpa using cl)];generalize hS:fS _ _=S;unfold fS fY ig at hS;simp at hS
   (repeat' split at hS)<;>first|(exfalso;omega)|(exfalso;simp_all;done)|(subst hS;simp[aU,bD,z,kL];done)|(exfalso;simp_all;omega)
theorem Ge(d:Nat)(l:Lk)(t:RT)(w:Wq)(A:l.want=2\/l.want=4\/l.want=5\/l.want=6)(z:w.heap[d]?=cC (kL l) 298):Cs 176 #[Pt d,oH t] w λe w'=>e=aO (aL #[])/\w'.heap[d]?=cC (kL (eJ l t)) 298/\w.grownBy w' (aV d):=by
 have cl:d<w.heap.size:=(zg z).1;have C:d≠w.heap.size:=by omega
 have⟨want,body,alone,rules,atoms,args,e⟩:=l;have⟨kind,text,place,runes⟩:=t;unfold kL at z;unfold oH;simp only at A z ⊢;have E:aC w (Ad d 0)=aV (Ii want):=zc z;have G:aC w (Ad d 1)=aV (aK body):=zc z;have M:aC w (Ad d 2)=aV (aK alone):=zc z;have O:aC w (Ad d 4)=aV (Ii atoms):=zc z;have Z:aC w (Ad d 5)=aV (Ii args):=zc z;have c6:aC w (Ad d 6)=aV (Ii e):=zc z;have f0:∀o,aD w (Ad d o)=false:=λo=>by simp[aD,z]
 rcases A with rfl|rfl|rfl|rfl
 all_goals
  cases body<;>cases alone
  all_goals
   go_enter Tryz.func176,Tryz.ntmps176;go_wp2
   all_goals
    first|go_end0|refine bX (results_none rfl _ _ _) rfl ?_
    refine⟨rfl,?_,by repeat (first|exact bJ.refl _ _|apply yP|apply Cp)⟩;rw[aY _ _ _ (by simpa using cl)];generalize hS:eJ _ _=S;unfold eJ at hS;simp at hS
    (repeat' split at hS)<;>first|(exfalso;omega)|(exfalso;simp_all;done)|(subst hS;simp[aU,bD,z,kL];done)
def iQ(l:Lk)(t:RT):Bool:=decide (t.kind=4/\(l.want=6\/(l.want=0/\l.alone=false)))
def Qg(l:Lk)(t:RT):Lk:=if l.want=0\/l.want=1\/l.want=3 then fS l t else eJ l t
def dW:Lk->List RT->Int×Nat
 |_,[]=>(0,0)
 |l,t::ts=>if iQ l t=true then (0,0) else if (Qg l t).e≠0 then ((Qg l t).e,t.place) else dW (Qg l t) ts
structure wC(l:Lk)(i:Nat):Prop where
 lo:0<=l.want
 hi:l.want<=6
 r:l.rules<=i
 a:l.atoms<=i
 g:l.args<=i
theorem Jj{l:Lk}{i:Nat}(h:wC l i)(t:RT):wC (Qg l t) (i+1)/\(Qg l t).alone=l.alone:=by
 have⟨h1,h2,h3,h4,h5⟩:=h;unfold Qg fS eJ fY
 repeat' split
 all_goals
  refine⟨⟨?_,?_,?_,?_,?_⟩,?_⟩<;>simp only<;>first|rfl|omega|(split<;>omega)
def mX(W:Wq)(g:Nat)(ts:List RT):Prop:=g<W.heap.size/\∀(j:Nat) (hj:j<aB ts),
 aC W ⟨g,j*4,aW⟩=aV (aM aP ts[j].kind)/\aC W ⟨g,j*4+1,aW⟩=aV (aI ts[j].text)/\aC W ⟨g,j*4+2,aW⟩=aV (aM aP ts[j].place)/\aC W ⟨g,j*4+3,aW⟩=aV (aM aP ts[j].runes)
theorem mX.below{W W':Wq}{g B:Nat}{ts:List RT}(h:mX W g ts)(z:Below B W W')(A:g<B):mX W' g ts:=
 ⟨aZ h.1 z.size,λj C=>by
  have⟨a,b,c,d⟩:=h.2 j C
  exact⟨(bB z A).trans a,(bB z A).trans b,(bB z A).trans c,(bB z A).trans d⟩⟩
theorem Ch{w wr w':Wq}{N T:Nat}{a b c d:Vq}(z:(wr.alloc (aN #[a,b,c,d] T)).grownBy w' (aV N))(G:N<wr.heap.size)(C:Below N w wr):aC w' (Ad wr.heap.size 2)=aV c/\Below N w w':=by
 refine⟨?_,(C.alloc (by omega) _).grown z (by simp;omega) (λk E=>by cases E;exact bC _)⟩;have A:w'.heap[wr.heap.size]?=cC #[a,b,c,d] T:=by rw[z.block wr.heap.size (by simp) (λe=>by cases e;omega),bG]
 simp[aC,A]
theorem zQ(g cap:Nat)(ts:List RT)(alone:Bool)(w:Wq)(a6:mX w g ts)(hl:ts.length<=1000):Cs 108 #[.slice (some ⟨g,0,none⟩) ts.length cap,.bool alone] w λe w'=>e=.returned (.tuple #[.int .i64 (dW ⟨0,false,alone,0,0,0,0⟩ ts).1,.int .i64 (dW ⟨0,false,alone,0,0,0,0⟩ ts).2])/\Below w.heap.size w w':=by
 obtain⟨N,hN⟩:∃N,N=w.heap.size:=⟨_,rfl⟩;have ao:=hN.symm;have cr:g<N:=by rw[hN];exact a6.1
 rw[<-hN];clear hN;have b7:Hid (mX w g ts):=a6;clear a6;go_enter Tryz.func108,Tryz.ntmps108;go_wp2
 go_loopw [7] (λa wr=>∃(i:Nat) (l:Lk),a=.int .i64 i/\i<=ts.length/\l.e=0/\l.alone=alone/\wC l i/\Hid (dW l (ts.drop i)=dW ⟨0,false,alone,0,0,0,0⟩ ts)/\wr.heap[N]?=some (Obj.cells (kL l) 298)/\Below N w wr) (λa _=>ts.length-(intOf a).toNat)
 case atStart=>refine⟨0,⟨0,false,alone,0,0,0,0⟩,rfl,zz,rfl,rfl,⟨by simp,by simp,bC _,bC _,bC _⟩,rfl,?_,zr.alloc (by omega) _⟩;rw[<-ao];exact zn w _
 case round=>
  obtain⟨i,l,rfl,dh,he,dg,ay,am,hh,bd⟩:=hrel;by_cases az:i<ts.length
  .obtain⟨t0,t1,t2,t3⟩:=(b7.o.below bd cr).2 i az;have bn:=bE az;rw[bn] at am;generalize ts[i]=t at *;have cn:=Jj ay t;have cc:N<wr.heap.size:=(zg hh).1;have dw:N≠wr.heap.size:=by omega
   have bv:l.want=0\/l.want=1\/l.want=3->Cs 175 #[.pointer (some ⟨N,0,none⟩),oH t] (wr.alloc (.cells #[.int .i64 t.kind,.string t.text,.int .i64 t.place,.int .i64 t.runes] 244)) λe w'=>e=.returned (.tuple #[])/\w'.heap[N]?=some (Obj.cells (kL (Qg l t)) 298)/\w'.cell? ⟨wr.heap.size,2,none⟩=some (.int .i64 t.place)/\Below N w w':=by
    intro hw;refine (CL N l t _ hw (by have:=ay.r;omega) (by have:=ay.a;omega) (by have:=ay.g;omega) ((aY _ _ _ cc).trans hh)).mono ?_;rintro e w' ⟨rfl,h1,h2⟩;have hs:Qg l t=fS l t:=by unfold Qg;rw[if_pos hw]
    rw[hs];exact⟨rfl,h1,Ch h2 cc bd⟩
   have cj:¬(l.want=0\/l.want=1\/l.want=3)->Cs 176 #[.pointer (some ⟨N,0,none⟩),oH t] (wr.alloc (.cells #[.int .i64 t.kind,.string t.text,.int .i64 t.place,.int .i64 t.runes] 244)) λe w'=>e=.returned (.tuple #[])/\w'.heap[N]?=some (Obj.cells (kL (Qg l t)) 298)/\w'.cell? ⟨wr.heap.size,2,none⟩=some (.int .i64 t.place)/\Below N w w':=by
    intro hw;have h6:=ay.hi;have h7:=ay.lo;refine (Ge N l t _ (by omega) ((aY _ _ _ cc).trans hh)).mono ?_;rintro e w' ⟨rfl,h1,h2⟩;have hs:Qg l t=eJ l t:=by unfold Qg;rw[if_neg hw]
    rw[hs];exact⟨rfl,h1,Ch h2 cc bd⟩
   have c0:wr.cell? ⟨N,0,none⟩=some (.int .i64 l.want):=by simp[World.cell?,hh,kL]
   have di:Hid (Below N w wr):=bd;have bq:Hid (dW l (t::ts.drop (i+1))=dW ⟨0,false,alone,0,0,0,0⟩ ts):=am;have be:Hid (wC (Qg l t) (i+1)/\(Qg l t).alone=l.alone):=cn;have d4:=ay.lo;have dl:=ay.hi;obtain⟨kind,text,place,runes⟩:=t;obtain⟨want,body,ac,rules,atoms,args,e⟩:=l;simp only at *;subst dg he;by_cases ah:iQ ⟨want,body,ac,rules,atoms,args,0⟩ ⟨kind,text,place,runes⟩=true
   .have Qj4:Hid (dW ⟨0,false,ac,0,0,0,0⟩ ts=(0,0)):=by show _=_;rw[<-bq.o];unfold dW;rw[if_pos ah]
    unfold iQ at ah;simp only[decide_eq_true_eq] at ah;clear bv cj be bq am cn ay bn hh bd;obtain⟨rfl,rfl|⟨rfl,rfl⟩⟩:=ah
    all_goals
     go_wp2;go_ret2;rw[Qj4.o];exact⟨rfl,di.o.alloc (by omega) _⟩
   .have a7:Hid (dW ⟨0,false,ac,0,0,0,0⟩ ts=if (Qg ⟨want,body,ac,rules,atoms,args,0⟩ ⟨kind,text,place,runes⟩).e≠0 then ((Qg ⟨want,body,ac,rules,atoms,args,0⟩ ⟨kind,text,place,runes⟩).e,place) else dW (Qg ⟨want,body,ac,rules,atoms,args,0⟩ ⟨kind,text,place,runes⟩) (ts.drop (i+1))):=by
     show _=_;rw[<-bq.o];conv=>lhs;unfold dW
     rw[if_neg ah]
    unfold iQ at ah;simp only[decide_eq_true_eq] at ah;generalize Qg ⟨want,body,ac,rules,atoms,args,0⟩ ⟨kind,text,place,runes⟩=l' at *;have al:Hid (∀w':Wq,w'.heap[N]?=some (Obj.cells (kL l') 298)->w'.cell? ⟨N,6,none⟩=some (.int .i64 l'.e)):=by intro w' h;simp[World.cell?,h,kL]
    have aq:Hid _:=bv;have bf:Hid _:=cj;clear bv cj bq am cn ay bn hh bd;unfold oH at aq bf;have cd:want=0\/want=1\/want=2\/want=3\/want=4\/want=5\/want=6:=by omega
    by_cases hz:l'.e=0
    .have bj:Hid (dW l' (ts.drop (i+1))=dW ⟨0,false,ac,0,0,0,0⟩ ts):=by show _=_;rw[a7.o,if_neg (by simp[hz])]
     rw[hz] at al;have cp:Hid (l'.e=0):=hz;clear hz a7;by_cases k4:kind=4
     .subst k4;rcases cd with rfl|rfl|rfl|rfl|rfl|rfl|rfl
      .cases ac
       .simp at ah
       .clear ah
        go_wp2_with (first|(go_at_call 175;refine (aq.o (by simp)).mono ?_;rintro e w' ⟨rfl,ae,av,aj⟩;have c6:=al.o w' ae)|(go_at_call 176;refine (bf.o (by simp)).mono ?_;rintro e w' ⟨rfl,ae,av,aj⟩;have c6:=al.o w' ae))
        go_roundw
        case rel=>exact⟨i+1,l',by go_num,by omega,cp.o,be.o.2,be.o.1,bj,ae,aj⟩
        case measure=>simp[intOf];omega
      all_goals first|(exfalso;simp at ah;done)|skip
      all_goals
       clear ah
       go_wp2_with (first|(go_at_call 175;refine (aq.o (by simp)).mono ?_;rintro e w' ⟨rfl,ae,av,aj⟩;have c6:=al.o w' ae)|(go_at_call 176;refine (bf.o (by simp)).mono ?_;rintro e w' ⟨rfl,ae,av,aj⟩;have c6:=al.o w' ae))
       go_roundw
       case rel=>exact⟨i+1,l',by go_num,by omega,cp.o,be.o.2,be.o.1,bj,ae,aj⟩
       case measure=>simp[intOf];omega
     .have m4:(kind == 4)=false:=by simpa using k4
      clear ah k4;rcases cd with rfl|rfl|rfl|rfl|rfl|rfl|rfl
      all_goals
       go_wp2_with (first|(go_at_call 175;refine (aq.o (by simp)).mono ?_;rintro e w' ⟨rfl,ae,av,aj⟩;have c6:=al.o w' ae)|(go_at_call 176;refine (bf.o (by simp)).mono ?_;rintro e w' ⟨rfl,ae,av,aj⟩;have c6:=al.o w' ae))
       go_roundw
       case rel=>exact⟨i+1,l',by go_num,by omega,cp.o,be.o.2,be.o.1,bj,ae,aj⟩
       case measure=>simp[intOf];omega
    .have bj:Hid (dW ⟨0,false,ac,0,0,0,0⟩ ts=(l'.e,place)):=by show _=_;rw[a7.o,if_pos hz]
     generalize l'.e=le at *;have mz:(le == 0)=false:=by simpa using hz
     have dm:(le != 0)=true:=by simpa using hz
     clear a7;by_cases k4:kind=4
     .subst k4;rcases cd with rfl|rfl|rfl|rfl|rfl|rfl|rfl
      .cases ac
       .simp at ah
       .clear ah
        go_wp2_with (first|(go_at_call 175;refine (aq.o (by simp)).mono ?_;rintro e w' ⟨rfl,ae,av,aj⟩;have c6:=al.o w' ae)|(go_at_call 176;refine (bf.o (by simp)).mono ?_;rintro e w' ⟨rfl,ae,av,aj⟩;have c6:=al.o w' ae))
        go_quiet (fail);go_wp2;go_ret2;rw[bj.o];exact⟨rfl,qy aj⟩
      all_goals first|(exfalso;simp at ah;done)|skip
      all_goals
       clear ah
       go_wp2_with (first|(go_at_call 175;refine (aq.o (by simp)).mono ?_;rintro e w' ⟨rfl,ae,av,aj⟩;have c6:=al.o w' ae)|(go_at_call 176;refine (bf.o (by simp)).mono ?_;rintro e w' ⟨rfl,ae,av,aj⟩;have c6:=al.o w' ae))
       go_quiet (fail);go_wp2;go_ret2;rw[bj.o];exact⟨rfl,qy aj⟩
     .have m4:(kind == 4)=false:=by simpa using k4
      clear ah k4;rcases cd with rfl|rfl|rfl|rfl|rfl|rfl|rfl
      all_goals
       go_wp2_with (first|(go_at_call 175;refine (aq.o (by simp)).mono ?_;rintro e w' ⟨rfl,ae,av,aj⟩;have c6:=al.o w' ae)|(go_at_call 176;refine (bf.o (by simp)).mono ?_;rintro e w' ⟨rfl,ae,av,aj⟩;have c6:=al.o w' ae))
       go_quiet (fail);go_wp2;go_ret2;rw[bj.o];exact⟨rfl,qy aj⟩
  .rw[List.drop_eq_nil_of_le (by omega)] at am;go_wp2;go_ret2;rw[<-am.o];exact⟨rfl,bd⟩
def dO(x y:ByteArray):Bool:=y.toList == x.toList
def dS(vs:List ByteArray)(x:ByteArray):Nat:=vs.findIdx (dO x)
def Qq(vs:List ByteArray)(x:ByteArray):List ByteArray:=if dS vs x<aB vs then vs else vs++[x]
structure Tm where
 name:ByteArray
 num:Nat
structure Am where
 rel:ByteArray
 args:List Tm
structure Rl where
 head:Am
 body:List Am
def iV(t:Tm):List Vq:=[aI t.name,aM aP t.num]
theorem DW(t:Tm):aB (iV t)=2:=rfl
def qz(r:Rl):List Am:=r.head::r.body
def gI(vs:List ByteArray)(t:Tm):List ByteArray:=if t.name.toList.isEmpty=true then vs else Qq vs t.name
def dG(vs:List ByteArray)(l:List Tm):List ByteArray:=l.foldl gI vs
def Q0(l:List Am):List Tm:=l.flatMap (·.args)
structure Qa(B:Nat)(w w':Wq):Prop where
 os:w'.os=w.os
 tape:w'.tape=w.tape
 output:w'.output=w.output
 size:w.heap.size<=w'.heap.size
 block:∀k,k<w.heap.size->(k<B\/∀c fz,w.heap[k]?≠aV (aN c 9 fz))->w'.heap[k]?=w.heap[k]?
theorem Qa.refl(B:Nat)(w:Wq):Qa B w w:=⟨rfl,rfl,rfl,bC _,λ_ _ _=>rfl⟩
theorem Qa.trans{B:Nat}{a b c:Wq}(h:Qa B a b)(k:Qa B b c):Qa B a c:=
 ⟨k.os.trans h.os,k.tape.trans h.tape,k.output.trans h.output,bO h.size k.size,λi z A=>by
  have d:=h.block i z A
  rw[k.block i (aZ z h.size) (by rw[d];exact A),d]⟩
theorem Qa.alloc{B:Nat}{a b:Wq}(h:Qa B a b)(o:Obj):Qa B a (b.alloc o):=
 ⟨h.os,h.tape,h.output,by have:=h.size;simp;omega,λi d z=>(aY b o i (aZ d h.size)).trans (h.block i d z)⟩
theorem Qa.setCell{B:Nat}{a b:Wq}(h:Qa B a b){p:Addr}(A:a.heap.size<=p.block)(v:Vq):Qa B a (b.setCell p v):=
 ⟨h.os,h.tape,h.output,by have:=h.size;simpa using this,λi d z=>(aX b p v i (by omega)).trans (h.block i d z)⟩
theorem Qa.drew{B:Nat}{a b:Wq}(h:Qa B a b):Qa B a b.drew:=⟨h.os,h.tape,h.output,h.size,h.block⟩
theorem Qa.grown{B:Nat}{a b c:Wq}{row:Option Nat}(h:Qa B a b)(z:b.grownBy c row)(Z:∀k,row=aV k->a.heap.size<=k\/(B<=k/\∃d C,b.heap[k]?=aV (aN d 9 C))):Qa B a c:=
 ⟨z.os.trans h.os,z.tape.trans h.tape,z.output.trans h.output,bO h.size z.size,λi M A=>by
  have E:=h.block i M A;rw[z.block i (aZ M h.size) (λe=>?_),E];rcases Z i e.symm with O|⟨O,d,C,G⟩
  .omega
  .rcases A with A|A
   .omega
   .rw[E] at G;exact A d C G⟩
theorem Qp{W:Wq}{B k n:Nat}{T:bZ}{v:Vq}{xs:List Vq}(h:aE W B T k v n xs):∀g,aF v=aV g->B<=g/\g<W.heap.size/\∃d M,W.heap[g]?=aV (aN d T M):=by
 intro g z;obtain⟨_,⟨A,hn⟩|⟨g',E,G,A,O,C,Z,h2,h3,h4⟩⟩:=h
 .rw[A] at z;cases z
 .rw[A] at z;cases z;exact⟨O,(zg C).1,G,_,C⟩
theorem Qa.own{B B' k n:Nat}{T:bZ}{a b:Wq}{v:Vq}{xs:List Vq}(h:Qa B a b)(C:T≠9)(z:aE a B' T k v n xs):aE b B' T k v n xs:=by refine qn z (λg E A=>h.block g A (aR λc G e=>?_));have⟨_,_,d,cu,h3⟩:=Qp z g E;rw[e] at h3;cases h3;exact C rfl
def GK(n:Nat):ByteArray:=⟨(Lib.decDigits n).toArray⟩
theorem tA(vs:List ByteArray)(x:ByteArray)(i:Nat)(d:i<aB vs)(h:dO x vs[i]=true)(A:∀(j:Nat) (z:j<aB vs),j<i->dO x vs[j]=false):dS vs x=i:=by grind [dS]
theorem uR(vs:List ByteArray)(x:ByteArray)(z:∀(j:Nat) (d:j<aB vs),dO x vs[j]=false):dS vs x=aB vs:=by grind [dS]
theorem tu(x:ByteArray):aB [aI x]=1:=rfl
theorem sW(vs:List ByteArray):vs.map aI=vs.flatMap (λx=>[aI x]):=by
 induction vs with
 |nil=>rfl
 |cons x l ih=>simp[ih]
theorem Tryz.infoStr:(Tryz.prog.info? 9).map (λi=>(i.zero,i.size,i.bytes))=aV (aV (St ⟨#[]⟩),1,16):=by kernel_rfl
theorem ku(w:Wq)(x:Vq)(t:bZ):∀j u,[x][j]?=aV u->aC (w.alloc (aN #[x] t)) ((⟨w.heap.size,0,aW⟩:Addr).add j)=aV u:=by
 intro j u d
 match j,d with
 |0,d=>simp at d;subst d;simp[Addr.add]
 |j+1,d=>simp at d
theorem Hm(B:Nat)(v:Vq)(vs:List ByteArray)(x:ByteArray)(w:Wq)(hB:B<=w.heap.size)(hl:aB vs<=1000)(Z:aE w B 9 1 v (aB vs) (vs.map aI)):Cs 221 #[v,St x] w λe w'=>∃v',e=aO (aL #[v',Ii (dS vs x)])/\aE w' B 9 1 v' (aB (Qq vs x)) ((Qq vs x).map aI)/\w.grownBy w' (aF v):=by
 have⟨i0,hi,bu,b8,b6⟩:=info_parts Tryz.infoStr;have⟨a,c,hv⟩:=qe Z;have au:∀(j:Nat) (d:j<aB vs),∃g,a=aV ⟨g,0,aW⟩/\aC w (Ad g j)=aV (St vs[j]):=by grind [sW,iI,tu]
 subst hv;have HO:=aA Z;have HC:=aA au;clear Z au;go_enter Tryz.func221,Tryz.ntmps221;go_wp2
 go_loopw [6] (λp wr=>∃i:Nat,p=aM aP i/\i<=aB vs/\wr=w/\Hid (∀(j:Nat) (d:j<aB vs),j<i->dO x vs[j]=false)) (λp _=>aB vs-(intOf p).toNat)
 case atStart=>exact⟨0,rfl,zz,rfl,λj d h=>by omega⟩
 case round=>
  obtain⟨i,rfl,dh,rfl,G⟩:=hrel;by_cases E:i<aB vs
  .obtain⟨g,rfl,Ql⟩:=HC.o i E;obtain⟨y,M⟩:∃y,vs[i]=y:=⟨_,rfl⟩;rw[M] at Ql;have HY:=aA M;clear M;by_cases hs:dO x y=true
   .have z:=tA vs x i E (by rw[HY.o];exact hs) G.o;have A:=aA z;clear z;unfold dO at hs;go_wp2;go_ret2;have C:Qq vs x=vs:=by{unfold Qq;rw[if_pos (by rw[A.o];exact E)]};rw[C,A.o];exact⟨_,rfl,HO.o,bJ.refl _ _⟩
   .have cx:dO x y=false:=by simpa using hs
    have de:Hid (∀(j:Nat) (d:j<aB vs),j<i+1->dO x vs[j]=false):=by
     intro j d d3;by_cases e:j=i;{subst e;rw[HY.o];exact cx};{exact G.o j d (by omega)}
    unfold dO at cx;clear hs;go_wp2
    go_roundw
    case rel=>exact⟨i+1,by go_num,by omega,by trivial,de⟩
    case measure=>simp[intOf];omega
  .have z:=uR vs x (λj d=>G.o j d (by omega));have C:Qq vs x=vs++[x]:=by{unfold Qq;rw[if_neg (by omega)]};have HL:=aA C;have A:=aA z;have b5:aB vs+1<=maxLen:=by{unfold maxLen;omega};have b4:(aB vs+1)*16<=140737488355328:=by{omega};have ce:Hid (∀O,B<=(wr.alloc O).heap.size):=λO=>by{simp;omega};have bi:∀u∈[aI x],u.oneCell'=true:=by{simp[bF]};clear z C
   go_wp2_with (at_builtin;refine bQ _ rfl (.tmp 21) (.tmp 23) 22 rfl B 9 i0 (St ⟨#[]⟩) 1 16 Tryz.underlying22 hi bu b8 b6 rfl (by decide) _ _ _ rfl (HO.o.alloc _) ⟨wr.heap.size,0,aW⟩ 1 1 [St x] rfl rfl (ku _ _ _) bi b5 b4 (ce.o _) ?_;intro v' w1 ad aa _;have⟨g',c',dj⟩:=bU ad;subst dj)
   go_ret2;rw[HL.o,A.o];refine⟨_,rfl,?_,?_⟩;{simpa using ad};{exact⟨aa.os,aa.tape,aa.output,by have:=aa.size;simp at this;omega,λk hk hn=>(aa.block k (by simp;omega) hn).trans (aY _ _ _ hk)⟩}
def ij(vs:List ByteArray)(t:RT):Tm:=if t.kind=2 then ⟨⟨#[]⟩,dS vs t.text⟩ else ⟨t.text,0⟩
def iL(vs:List ByteArray)(t:RT):List ByteArray:=if t.kind=2 then Qq vs t.text else vs
def eH:List ByteArray->List RT->Option (List Tm×List ByteArray×Nat)
 |vs,a::b::us=>
  if b.kind=41 then aV ([ij vs a],iL vs a,2)
  else match eH (iL vs a) us with
   |some (l,v',n)=>aV (ij vs a::l,v',n+2)
   |none=>aW
 |_,_=>aW
def me(W:Wq)(g:Nat)(ts:List RT):Prop:=mX W g ts/\∃c,W.heap[g]?=aV (aN c 244)
theorem me.kept{B:Nat}{a b:Wq}{g:Nat}{ts:List RT}(h:me a g ts)(hs:Qa B a b):me b g ts:=by have⟨⟨h1,h2⟩,c,h3⟩:=h;have z:b.heap[g]?=a.heap[g]?:=hs.block g h1 (aR λc' C e=>by rw[h3] at e;cases e);have d:∀o,aC b (Ad g o)=aC a (Ad g o):=λo=>bH (w:=a) z;refine⟨⟨aZ h1 hs.size,λj A=>?_⟩,c,z.trans h3⟩;rw[d,d,d,d];exact h2 j A
theorem Tryz.infoArg:(Tryz.prog.info? 215).map (λi=>(i.zero,i.size,i.bytes))=aV (aV (aJ #[St ⟨#[]⟩,Ii 0]),2,24):=by kernel_rfl
theorem D7{vs:List ByteArray}{us:List RT}{r:List Tm×List ByteArray×Nat}(h:eH vs us=aV r):∃a b d,us=a::b::d:=by
 match us,h with
 |[],h=>simp[eH] at h
 |[a],h=>simp[eH] at h
 |a::b::d,_=>exact⟨a,b,d,rfl⟩
structure Ci(B N:Nat)(w wr:Wq)(ts:List RT)(at':Nat)(rel:ByteArray)(k:Nat)(vs:List ByteArray)(v va:Vq)(ab:List Tm)(L:List Tm)(ax:List ByteArray)(M:Nat):Prop where
 str:Qa B w wr
 res:wr.heap[N]?=cC #[St ⟨#[]⟩,aH aW 0 0] 145
 atm:wr.heap[N+1]?=cC #[St rel,va] 145
 own:aE wr (N+2) 215 2 va (aB ab) (ab.flatMap iV)
 vars:aE wr B 9 1 v (aB vs) (vs.map aI)
 spec:∃l n,eH vs (ts.drop (at'+2+k))=aV (l,ax,n)/\ab++l=L/\k+n=M
 few:aB ab<=k/\aB vs<=500+k
structure iE(B N:Nat)(w X:Wq)(rel:ByteArray)(vs:List ByteArray)(v va:Vq)(ab:List Tm):Prop where
 str:Qa B w X
 res:X.heap[N]?=cC #[St ⟨#[]⟩,aH aW 0 0] 145
 atm:X.heap[N+1]?=cC #[St rel,va] 145
 own:aE X (N+2) 215 2 va (aB ab) (ab.flatMap iV)
 vars:aE X B 9 1 v (aB vs) (vs.map aI)
variable {B N:Nat} {w X Y:Wq} {rel:ByteArray} {vs cg:List ByteArray} {v v' va ai:Vq} {ab:List Tm}
theorem iE.alloc(h:iE B N w X rel vs v va ab)(o:Obj):iE B N w (X.alloc o) rel vs v va ab:=
 ⟨h.str.alloc o,(aY _ _ _ (zg h.res).1).trans h.res,(aY _ _ _ (zg h.atm).1).trans h.atm,h.own.alloc o,h.vars.alloc o⟩
theorem iE.grow(h:iE B N w X rel vs v va ab)(z:X.grownBy Y (aF v))(M:aE Y B 9 1 v' (aB cg) (cg.map aI)):iE B N w Y rel cg v' va ab:=by
 have C:∀(k:Nat) (c:Array Vq) (T:bZ),T≠9->X.heap[k]?=cC c T->Y.heap[k]?=X.heap[k]?:=by intro k c T G A;refine z.block k (zg A).1 (λe=>?_);have⟨_,_,d,fz,h3⟩:=Qp h.vars k e.symm;rw[A] at h3;cases h3;exact G rfl
 refine⟨h.str.grown z (λk e=>aR ?_),(C _ _ _ (by decide) h.res).trans h.res,(C _ _ _ (by decide) h.atm).trans h.atm,?_,M⟩
 .have⟨h1,_,d,fz,h3⟩:=Qp h.vars k e;exact⟨h1,d,fz,h3⟩
 .refine qn h.own (λg E _=>?_);have⟨_,_,d,fz,h3⟩:=Qp h.own g E;refine z.block g (zg h3).1 (λe=>?_);have⟨_,_,d',cu,h4⟩:=Qp h.vars g e.symm;rw[h3] at h4;cases h4
theorem iE.setP(h:iE B N w X rel vs v va ab){P:Nat}{c:Array Vq}(E:w.heap.size=N)(G:N+2<=P)(C:X.heap[P]?=cC c 215)(A:aF va≠aV P)(o:Nat)(u:Vq):iE B N w (X.setCell (Ad P o) u) rel vs v va ab:=by
 refine⟨h.str.setCell (by simp;omega) u,(aX _ _ _ _ (by simp;omega)).trans h.res,(aX _ _ _ _ (by simp;omega)).trans h.atm,?_,?_⟩
 .exact qn h.own (λg z _=>aX _ _ _ _ (λe=>A (by simp at e;rw[<-e];exact z)))
 .refine qn h.vars (λg z _=>aX _ _ _ _ (λe=>?_));simp at e;subst e;have⟨_,_,d,fz,h3⟩:=Qp h.vars g z;rw[C] at h3;cases h3
theorem iE.app(h:iE B N w X rel vs v va ab)(hN:w.heap.size=N)(C:X.grownBy Y (aF va))(t:Tm)(M:aE Y (N+2) 215 2 ai (aB ab+1) (ab.flatMap iV++iV t)):iE B N w (Y.setCell (Ad (N+1) 1) ai) rel vs v ai (ab++[t]):=by
 have E:∀k,aF va=aV k->N+2<=k:=λk e=>(Qp h.own k e).1;have Z:Y.heap[N]?=X.heap[N]?:=C.block N (zg h.res).1 (λe=>by have:=E N e.symm;omega);have G:Y.heap[N+1]?=X.heap[N+1]?:=C.block (N+1) (zg h.atm).1 (λe=>by have:=E (N+1) e.symm;omega);have z:aE Y B 9 1 v (aB vs) (vs.map aI):=by refine qn h.vars (λg A O=>C.block g O (λe=>?_));have⟨_,_,d,fz,h3⟩:=Qp h.vars g A;have⟨_,_,d',cu,h4⟩:=Qp h.own g e.symm;rw[h3] at h4;cases h4
 refine⟨(h.str.grown C (λk e=>aQ (by have:=E k e;omega))).setCell (by simp;omega) _,?_,?_,?_,?_⟩
 .exact (aX _ _ _ _ (by simp)).trans (Z.trans h.res)
 .exact Qo (G.trans h.atm) 1 ai
 .have h2:aE Y (N+2) 215 2 ai (aB (ab++[t])) ((ab++[t]).flatMap iV):=by{simpa using M};exact qn h2 (λg A _=>aX _ _ _ _ (λe=>by have:=(Qp M g A).1;simp at e;omega))
 .refine qn z (λg A _=>aX _ _ _ _ (λe=>?_));simp at e;subst e;have⟨_,_,d,fz,h3⟩:=Qp z _ A;rw[G.trans h.atm] at h3;cases h3
theorem iE.fin(h:iE B N w X rel vs v va ab)(C:w.heap.size=N)(a b:Vq):aE ((X.setCell (Ad N 0) a).setCell (Ad N 1) b) N 215 2 va (aB ab) (ab.flatMap iV)/\
  aE ((X.setCell (Ad N 0) a).setCell (Ad N 1) b) B 9 1 v (aB vs) (vs.map aI)/\Qa B w ((X.setCell (Ad N 0) a).setCell (Ad N 1) b):=by
 have A:∀g,g≠N->((X.setCell (Ad N 0) a).setCell (Ad N 1) b).heap[g]?=X.heap[g]?:=λg z=>(aX _ _ _ _ z).trans (aX _ _ _ _ z);refine⟨Qj (qn h.own (λg z _=>A g (by have:=(Qp h.own g z).1;omega))) (by omega),qn h.vars (λg z _=>A g (λe=>?_)),(h.str.setCell (by simp;omega) _).setCell (by simp;omega) _⟩;subst e;have⟨_,_,d,fz,h3⟩:=Qp h.vars _ z;rw[h.res] at h3;cases h3
theorem IU{α:Type}{ts:List α}{j:Nat}{a b:α}{us:List α}(h:ts.drop j=a::b::us):∃d:j+1<aB ts,ts[j]=a/\ts[j+1]=b/\ts.drop (j+2)=us:=by grind [aB,List.length_drop,List.length_cons,bE]
theorem sO(vs:List ByteArray)(t:RT):aB (iL vs t)<=aB vs+1:=by grind [iL,Qq]
theorem Ci.step{vs:List ByteArray}{a b:RT}{us:List RT}{ab L:List Tm}{ax:List ByteArray}{k M:Nat}(hs:∃l n,eH vs (a::b::us)=aV (l,ax,n)/\ab++l=L/\k+n=M):(b.kind=41->ab++[ij vs a]=L/\iL vs a=ax/\k+2=M)/\(b.kind≠41->∃l n,eH (iL vs a) us=aV (l,ax,n)/\(ab++[ij vs a])++l=L/\(k+2)+n=M):=by
 have⟨l,n,h1,h2,h3⟩:=hs;unfold eH at h1;refine⟨λd=>?_,λd=>?_⟩
 .grind
 .grind
theorem wV(g cap:Nat)(ts:List RT)(at':Nat)(B:Nat)(v:Vq)(vs:List ByteArray)(L:List Tm)(ax:List ByteArray)(M:Nat)(w:Wq)(a6:me w g ts)(hl:ts.length<=400)(aw:at'<ts.length)(hB:B<=w.heap.size)(d5:vs.length<=400)(hv:w.ownsRow B 9 1 v vs.length (vs.map Value.string))(am:eH vs (ts.drop (at'+2))=some (L,ax,M)):Cs 177 #[.slice (some ⟨g,0,none⟩) ts.length cap,.int .i64 at',v] w λe w'=>∃va v',e=.returned (.tuple #[.agg #[.string ts[at'].text,va],.int .i64 (at'+2+M:Nat),v'])/\
   w'.ownsRow w.heap.size 215 2 va L.length (L.flatMap iV)/\w'.ownsRow B 9 1 v' ax.length (ax.map Value.string)/\Qa B w w':=by
 obtain⟨i0,hi,bu,b8,b6⟩:=info_parts Tryz.infoArg;obtain⟨N,hN⟩:∃N,N=w.heap.size:=⟨_,rfl⟩;have ao:=hN.symm;have cr:g<N:=by rw[hN];exact a6.1.1
 obtain⟨t0,t1,t2,t3⟩:=a6.1.2 at' aw;have dr:∀O,(w.alloc O).cell? ⟨g,at'*4+1,none⟩=some (.string ts[at'].text):=λO=>(bB ((bI w.heap.size w).alloc zl O) a6.1.1).trans t1;rw[<-hN] at hB ⊢;clear hN t0 t2 t3;have b7:Hid (me w g ts):=a6;have HV:Hid (w.ownsRow B 9 1 v vs.length (vs.map Value.string)):=hv;have bq:Hid _:=am;clear a6 hv am;generalize ts[at'].text=rel at *;go_enter Tryz.func177,Tryz.ntmps177;go_wp2
 go_loopw [1,2] (λp q wr=>∃(j k:Nat) (vk va:Vq) (af:List ByteArray) (ab:List Tm),vk=q/\p=.int .i64 j/\Hid (j=at'+2+k)/\iE B N w wr rel af vk va ab/\Hid (∃l n,eH af (ts.drop j)=some (l,ax,n)/\ab++l=L/\k+n=M)/\ab.length<=k/\af.length<=400+k) (λp _ _=>ts.length-(intOf p).toNat)
 case atStart=>
  refine⟨at'+2,0,v,_,vs,[],rfl,by go_num,rfl,⟨((Qa.refl B w).alloc _).alloc _,?_,?_,zo,(HV.o.alloc _).alloc _⟩,⟨L,M,bq.o,rfl,by omega⟩,bC _,by omega⟩
  .rw[aY _ _ _ (by simp;omega),<-ao];exact zn w _
  .have:=zn (w.alloc (.cells #[.string ⟨#[]⟩,.slice none 0 0] 145)) (.cells #[.string rel,.slice none 0 0] 145);rw[bL,ao] at this;exact this
 case round=>
  obtain⟨j,k,vk,va,af,ab,rfl,rfl,bb,hW,am,dq,d0⟩:=hrel;obtain⟨l',n',cq,_⟩:=am.o;obtain⟨a,b,us,bn⟩:=D7 cq;obtain⟨ci,ha,hb,c9⟩:=IU bn;obtain⟨a0,a1,a2,a3⟩:=(b7.o.kept hW.str).1.2 j (by omega);obtain⟨b0,b1,b2,b3⟩:=(b7.o.kept hW.str).1.2 (j+1) ci;rw[bn] at am;have bv:=Ci.step am.o;rw[ha] at a0 a1;rw[hb] at b0;have aq:Hid _:=bv;have c7:Hid (ts.drop (j+2)=us):=c9;have Qhl:j<ts.length:=by omega
  have b5:ab.length+1<=maxLen:=by have:=bb.o;unfold maxLen;omega
  have b4:(ab.length+1)*24<=140737488355328:=by have:=bb.o;omega
  have d6:=sO af a;clear bv am cq bn ha hb c9 a2 a3 b1 b2 b3;obtain⟨ak,ag,ap,ar⟩:=a;obtain⟨bk,d2,bp,br⟩:=b;simp only at a0 a1 b0;have Qhg:g≠N+1:=by omega
  have Qlw:g≠N:=by omega
  have HF:Hid (∀(X w1:Wq) (vq:Vq) (cw:List ByteArray),iE B N w X rel cw vq va ab->X.grownBy w1 va.ownBlock->w1.cell? ⟨N+1,0,none⟩=some (.string rel)/\w1.cell? ⟨N+1,1,none⟩=some va/\(∀o,w1.frozen? ⟨N+1,o,none⟩=false)/\w1.cell? ⟨g,(j+1)*4,none⟩=some (.int .i64 bk)/\(∀o,w1.frozen? ⟨N,o,none⟩=false)/\w1.cell? ⟨N,0,none⟩=some (.string ⟨#[]⟩)/\w1.cell? ⟨N,1,none⟩=some (.slice none 0 0)):=by intro X w1 vq cw hX hg;have a9:∀k,va.ownBlock=some k->N+2<=k:=λk e=>(Qp hX.own k e).1;have h1:w1.heap[N+1]?=some (Obj.cells #[.string rel,va] 145):=(hg.block (N+1) (zg hX.atm).1 (λe=>by have:=a9 _ e.symm;omega)).trans hX.atm;have h0:w1.heap[N]?=some (Obj.cells #[.string ⟨#[]⟩,.slice none 0 0] 145):=(hg.block N (zg hX.res).1 (λe=>by have:=a9 _ e.symm;omega)).trans hX.res;have ht:=b7.o.kept hX.str;have h2:w1.heap[g]?=X.heap[g]?:=hg.block g ht.1.1 (λe=>by have:=a9 _ e.symm;omega);have h3:w1.cell? ⟨g,(j+1)*4,none⟩=X.cell? ⟨g,(j+1)*4,none⟩:=bH (w:=X) h2;have h4:=(ht.1.2 (j+1) ci).1;have h5:=((b7.o.kept hW.str).1.2 (j+1) ci).1;rw[b0] at h5;rw[<-h5] at h4;exact⟨zc h1,zc h1,λo=>by simp[World.frozen?,h1],h3.trans h4,λo=>by simp[World.frozen?,h0],zc h0,zc h0⟩
  have ct:N+2<=wr.heap.size:=(zg hW.atm).1;have HW:Hid (iE B N w wr rel af vk va ab):=hW;have ce:Hid (∀O O',N+2<=((wr.alloc O).alloc O').heap.size):=λO O'=>by simp;omega
  have d1:wr.cell? ⟨N+1,1,none⟩=some va:=by simp[World.cell?,hW.atm]
  have db:Hid (∀(O:Obj) (x y:Vq) (t:TypeId) (i:Nat) (q:Vq),[x,y][i]?=some q->((wr.alloc O).alloc (.cells #[x,y] t)).cell? ((⟨wr.heap.size+1,0,none⟩:Addr).add i)=some q):=by intro O x y t i q hq;have:=mo (wr.alloc O) x y t i q hq;rw[bL] at this;exact this
  have da:g<wr.heap.size:=by omega
  have dn:∀O,(wr.alloc O).cell? ⟨N+1,1,none⟩=some va:=λO=>(bB ((bI wr.heap.size wr).alloc zl O) (by simp;omega)).trans d1;have dt:∀O,(wr.alloc O).cell? ⟨g,j*4,none⟩=some (.int .i64 ak):=λO=>(bB ((bI wr.heap.size wr).alloc zl O) da).trans a0;have dp:∀O,(wr.alloc O).cell? ⟨g,j*4+1,none⟩=some (.string ag):=λO=>(bB ((bI wr.heap.size wr).alloc zl O) da).trans a1;clear hW;by_cases k2:ak=2
  .subst k2;have aw:Hid (ij af ⟨2,ag,ap,ar⟩=⟨⟨#[]⟩,dS af ag⟩/\iL af ⟨2,ag,ap,ar⟩=Qq af ag):=by show _/\_;unfold ij iL;simp
   have dv:(Qq af ag).length<=af.length+1:=by unfold Qq;split<;>simp
   have du:dS af ag<=af.length:=List.findIdx_le_length;have c8:=λO=>Hm B vk af ag (wr.alloc O) (by simp;omega) (by have:=bb.o;omega) (HW.o.vars.alloc O);generalize dS af ag=sn at *;generalize Qq af ag=svs at *;have bi:∀u∈[Value.string ⟨#[]⟩,.int .i64 sn],u.oneCell'=true:=by simp[bF]
   go_wp2_with fail;refine (c8 _).mono ?_;rintro e w2 ⟨v2,rfl,cz,a8⟩;have cb:=(HW.o.alloc _).grow a8 cz;have b9:w2.heap[wr.heap.size]?=some (Obj.cells #[.string ag,.int .i64 0] 215):=by rw[a8.block wr.heap.size (by simp) (λe=>?_),bG];have:=(Qp HW.o.vars _ e.symm).2.1;omega
   have Qcv:va.ownBlock≠some wr.heap.size:=λe=>by have:=(Qp HW.o.own _ e).2.1;omega
   have cy:=Qo b9 0 (.string ⟨#[]⟩);have hZ:=(cb.setP ao ct b9 Qcv 0 (.string ⟨#[]⟩)).setP ao ct cy Qcv 1 (.int .i64 sn);have HZ:Hid _:=hZ;have p0:w2.cell? ⟨wr.heap.size,0,none⟩=some (.string ag):=zc b9;have p1:w2.cell? ⟨wr.heap.size,1,none⟩=some (.int .i64 0):=zc b9;have pf:∀o,w2.frozen? ⟨wr.heap.size,o,none⟩=false:=λo=>by simp[World.frozen?,b9]
   have dz:w2.cell? ⟨N+1,1,none⟩=some va:=by simp[World.cell?,cb.atm]
   have dx:wr.heap.size≠N+1:=by omega
   have dy:N+2<=w2.heap.size:=(zg cb.atm).1;have al:Hid (∀O,N+2<=(((w2.setCell ⟨wr.heap.size,0,none⟩ (.string ⟨#[]⟩)).setCell ⟨wr.heap.size,1,none⟩ (.int .i64 sn)).alloc O).heap.size):=λO=>by simp;omega
   have cv:Hid (∀(x y:Vq) (t:TypeId) (i:Nat) (q:Vq),[x,y][i]?=some q->(((w2.setCell ⟨wr.heap.size,0,none⟩ (.string ⟨#[]⟩)).setCell ⟨wr.heap.size,1,none⟩ (.int .i64 sn)).alloc (.cells #[x,y] t)).cell? ((⟨w2.heap.size,0,none⟩:Addr).add i)=some q):=by intro x y t i q hq;have:=mo ((w2.setCell ⟨wr.heap.size,0,none⟩ (.string ⟨#[]⟩)).setCell ⟨wr.heap.size,1,none⟩ (.int .i64 sn)) x y t i q hq;simpa using this
   clear cb b9 cy hZ a8 cz c8;by_cases kb:bk=41
   .subst kb
    go_wp2_with (at_builtin;refine wpList_append_own _ rfl (.tmp 49) (.tmp 51) 143 rfl (N+2) 215 i0 (.agg #[.string ⟨#[]⟩,.int .i64 0]) 2 24 Tryz.underlying143 hi bu b8 b6 rfl (by decide) _ _ _ rfl (HZ.o.own.alloc _) ⟨w2.heap.size,0,none⟩ 1 1 [.string ⟨#[]⟩,.int .i64 sn] rfl rfl (cv.o _ _ _) bi b5 b4 (al.o _) ?_;intro ai w1 ad aa _;obtain⟨g1,g2,g3,g4,g5,g6,g7⟩:=HF.o _ w1 _ _ (HZ.o.alloc _) aa;have HA:Hid (iE B N w (w1.setCell ⟨N+1,1,none⟩ ai) rel svs v2 ai (ab++[⟨⟨#[]⟩,sn⟩])):=(HZ.o.alloc _).app ao aa ⟨⟨#[]⟩,sn⟩ ad;obtain⟨ga,ca,bh⟩:=ownsRow_succ ad;subst bh)
    obtain⟨e1,e2,e3⟩:=aq.o.1 (by trivial);have ck:((w1.setCell ⟨N+1,1,none⟩ (.slice (some ⟨ga,0,none⟩) (ab.length+1) ca)).setCell ⟨N,0,none⟩ (.string rel)).cell? ⟨N,0,none⟩=some (.string rel):=by simp[World.cell?,Qo HA.o.res 0 (.string rel)]
    have co:(((w1.setCell ⟨N+1,1,none⟩ (.slice (some ⟨ga,0,none⟩) (ab.length+1) ca)).setCell ⟨N,0,none⟩ (.string rel)).setCell ⟨N,1,none⟩ (.slice (some ⟨ga,0,none⟩) (ab.length+1) ca)).cell? ⟨N,1,none⟩=some (.slice (some ⟨ga,0,none⟩) (ab.length+1) ca):=by simp[World.cell?,Qo (Qo HA.o.res 0 (.string rel)) 1 (.slice (some ⟨ga,0,none⟩) (ab.length+1) ca)]
    have hf:=HA.o.fin ao (.string rel) (.slice (some ⟨ga,0,none⟩) (ab.length+1) ca);refine bodyPost_ret (v:=.tuple #[.agg #[.string rel,.slice (some ⟨ga,0,none⟩) (ab.length+1) ca],.int .i64 ((j:Int)+2),v2]) (by simp[results,Tryz.results177,go_sem,ck,co]) rfl ?_;have ej:(j:Int)+2=((at'+2+M:Nat):Int):=by have:=bb.o;omega
    rw[aw.o.1] at e1;rw[aw.o.2] at e2;rw[ej,<-e1,<-e2];exact⟨_,_,rfl,hf⟩
   .have mb:(bk == 41)=false:=by simpa using kb
    go_wp2_with (at_builtin;refine wpList_append_own _ rfl (.tmp 49) (.tmp 51) 143 rfl (N+2) 215 i0 (.agg #[.string ⟨#[]⟩,.int .i64 0]) 2 24 Tryz.underlying143 hi bu b8 b6 rfl (by decide) _ _ _ rfl (HZ.o.own.alloc _) ⟨w2.heap.size,0,none⟩ 1 1 [.string ⟨#[]⟩,.int .i64 sn] rfl rfl (cv.o _ _ _) bi b5 b4 (al.o _) ?_;intro ai w1 ad aa _;obtain⟨g1,g2,g3,g4,g5,g6,g7⟩:=HF.o _ w1 _ _ (HZ.o.alloc _) aa;have HA:Hid (iE B N w (w1.setCell ⟨N+1,1,none⟩ ai) rel svs v2 ai (ab++[⟨⟨#[]⟩,sn⟩])):=(HZ.o.alloc _).app ao aa ⟨⟨#[]⟩,sn⟩ ad;obtain⟨ga,ca,bh⟩:=ownsRow_succ ad;subst bh)
    go_roundw
    case rel=>obtain⟨l2,n2,q1,q2,q3⟩:=aq.o.2 kb;rw[aw.o.1] at q2;rw[aw.o.2] at q1;refine⟨j+2,k+2,v2,_,svs,_,rfl,by go_num,by show _=_;have:=bb.o;omega,HA.o,⟨l2,n2,?_,q2,q3⟩,by simp;omega,by omega⟩;rw[c7.o];exact q1
    case measure=>simp[intOf];omega
  .have m2:(ak == 2)=false:=by simpa using k2
   have aw:Hid (ij af ⟨ak,ag,ap,ar⟩=⟨ag,0⟩/\iL af ⟨ak,ag,ap,ar⟩=af):=by show _/\_;unfold ij iL;simp[k2]
   have bi:∀u∈[Value.string ag,.int .i64 0],u.oneCell'=true:=by simp[bF]
   by_cases kb:bk=41
   .subst kb
    go_wp2_with (at_builtin;refine wpList_append_own _ rfl (.tmp 49) (.tmp 51) 143 rfl (N+2) 215 i0 (.agg #[.string ⟨#[]⟩,.int .i64 0]) 2 24 Tryz.underlying143 hi bu b8 b6 rfl (by decide) _ _ _ rfl ((HW.o.own.alloc _).alloc _) ⟨wr.heap.size+1,0,none⟩ 1 1 [.string ag,.int .i64 0] rfl rfl (db.o _ _ _ _) bi b5 b4 (ce.o _ _) ?_;intro ai w1 ad aa _;obtain⟨g1,g2,g3,g4,g5,g6,g7⟩:=HF.o _ w1 _ _ ((HW.o.alloc _).alloc _) aa;have HA:Hid (iE B N w (w1.setCell ⟨N+1,1,none⟩ ai) rel af vk ai (ab++[⟨ag,0⟩])):=((HW.o.alloc _).alloc _).app ao aa ⟨ag,0⟩ ad;obtain⟨ga,ca,bh⟩:=ownsRow_succ ad;subst bh)
    obtain⟨e1,e2,e3⟩:=aq.o.1 (by trivial);have ck:((w1.setCell ⟨N+1,1,none⟩ (.slice (some ⟨ga,0,none⟩) (ab.length+1) ca)).setCell ⟨N,0,none⟩ (.string rel)).cell? ⟨N,0,none⟩=some (.string rel):=by simp[World.cell?,Qo HA.o.res 0 (.string rel)]
    have co:(((w1.setCell ⟨N+1,1,none⟩ (.slice (some ⟨ga,0,none⟩) (ab.length+1) ca)).setCell ⟨N,0,none⟩ (.string rel)).setCell ⟨N,1,none⟩ (.slice (some ⟨ga,0,none⟩) (ab.length+1) ca)).cell? ⟨N,1,none⟩=some (.slice (some ⟨ga,0,none⟩) (ab.length+1) ca):=by simp[World.cell?,Qo (Qo HA.o.res 0 (.string rel)) 1 (.slice (some ⟨ga,0,none⟩) (ab.length+1) ca)]
    have hf:=HA.o.fin ao (.string rel) (.slice (some ⟨ga,0,none⟩) (ab.length+1) ca);refine bodyPost_ret (v:=.tuple #[.agg #[.string rel,.slice (some ⟨ga,0,none⟩) (ab.length+1) ca],.int .i64 ((j:Int)+2),vk]) (by simp[results,Tryz.results177,go_sem,ck,co]) rfl ?_;have ej:(j:Int)+2=((at'+2+M:Nat):Int):=by have:=bb.o;omega
    rw[aw.o.1] at e1;rw[aw.o.2] at e2;rw[ej,<-e1,<-e2];exact⟨_,_,rfl,hf⟩
   .have mb:(bk == 41)=false:=by simpa using kb
    go_wp2_with (at_builtin;refine wpList_append_own _ rfl (.tmp 49) (.tmp 51) 143 rfl (N+2) 215 i0 (.agg #[.string ⟨#[]⟩,.int .i64 0]) 2 24 Tryz.underlying143 hi bu b8 b6 rfl (by decide) _ _ _ rfl ((HW.o.own.alloc _).alloc _) ⟨wr.heap.size+1,0,none⟩ 1 1 [.string ag,.int .i64 0] rfl rfl (db.o _ _ _ _) bi b5 b4 (ce.o _ _) ?_;intro ai w1 ad aa _;obtain⟨g1,g2,g3,g4,g5,g6,g7⟩:=HF.o _ w1 _ _ ((HW.o.alloc _).alloc _) aa;have HA:Hid (iE B N w (w1.setCell ⟨N+1,1,none⟩ ai) rel af vk ai (ab++[⟨ag,0⟩])):=((HW.o.alloc _).alloc _).app ao aa ⟨ag,0⟩ ad;obtain⟨ga,ca,bh⟩:=ownsRow_succ ad;subst bh)
    go_roundw
    case rel=>obtain⟨l2,n2,q1,q2,q3⟩:=aq.o.2 kb;rw[aw.o.1] at q2;rw[aw.o.2] at q1;refine⟨j+2,k+2,vk,_,af,_,rfl,by go_num,by show _=_;have:=bb.o;omega,HA.o,⟨l2,n2,?_,q2,q3⟩,by simp;omega,by omega⟩;rw[c7.o];exact q1
    case measure=>simp[intOf];omega
