/- A part -/
import Derived.Test.YtjajnhemgphefaaGreatDoorQRefD
import Derived.Lib.ItoaNum
set_option linter.all false
set_option maxRecDepth 100000
set_option maxHeartbeats 8000000
open List renaming length->aD,drop_eq_getElem_cons->bD,drop_eq_nil_of_le->bE,length_drop->bJ,drop_drop->bU,length_cons->cA,mem_append->cD,mem_cons->cE,map_cons->cF,any_cons->cG
open Go.World renaming cell?->aE,frozen?->aF,ownsRow->aH,setCell->aW,size_alloc->bO,grownBy->bT,alloc_heap_new->bX,cell?_of_block->bZ
open Go.Value renaming ownBlock->aI,slice->aJ,string->aK,agg->aL,bool->aM,tuple->aN,int->aO,oneCell'->bI
open Go.Obj renaming cells->aP
open Go.Ending renaming returned->aQ
open Go.IntKind renaming i64->aR
open Or renaming inl->aS,inr->aU
open Option renaming some->aX,none->aY
open Go.RowKit.Below renaming heap_setCell->bB,heap_alloc->bC,cell->bG,refl->bL
open Nat renaming lt_of_lt_of_le->bF,le_refl->bH,le_trans->cH
open Array renaming getElem?_modify->bQ
open Go renaming wpList_append_own->cI,ownsRow_succ->cM,info_parts->cO,TypeId->cP,bodyPost_ret->cQ,maxLen->cR,Addr->cS
open Go.RowKit renaming Below->cJ
open Go.Proofs.Tryz renaming underlying143->cL,underlying146->cT
namespace Go.Proofs.YtjajnhemgphefaaGreatDoor
open Go renaming World->Wq,Value->Vq
open Go.RowKit Go.Shelf
structure Lk where
 a:Int
 n:Bool
 c:Bool
 u:Nat
 f:Nat
 d:Nat
 e:Int
def pX(l:Lk):Array Vq:=#[aO aR l.a,aM l.n,aM l.c,aO aR l.u,aO aR l.f,aO aR l.d,aO aR l.e]
def uK(t:RT):Vq:=aL #[aO aR t.d,aK t.f,aO aR t.b,aO aR t.a]
def iY(l:Lk):Lk:=
 if l.a=0 then {l with u:=l.u+1,n:=false} else if l.a=1 then {l with f:=l.f+1} else {l with d:=l.d+1}
def kP(l:Lk):Bool:=if l.a=0 then decide (8<l.u+1) else if l.a=1 then decide (3<l.f+1) else decide (2<l.d+1)
def iU(l:Lk)(t:RT):Lk:=
 if t.d≠1/\(t.d≠2\/l.a≠3) then {iY l with e:=2}
 else if kP l=true\/8<t.a then {iY l with e:=3}
 else if l.a=3 then {iY l with a:=4} else {iY l with a:=2}
def gJ(l:Lk)(t:RT):Lk:=
 if l.a=2/\t.d=40 then {l with d:=0,a:=3}
 else if l.a=4/\t.d=44 then {l with a:=3}
 else if l.a=4/\t.d=41 then {l with a:=if l.c=true then 6 else 5}
 else if l.a=5/\t.d=46 then {l with a:=0}
 else if l.a=5/\t.d=44/\l.n=true then {l with a:=1}
 else if l.a=5/\t.d=3/\l.n=false then {l with n:=true,f:=0,a:=1}
 else {l with e:=2}
def GX{a b:Wq}{k:Nat}(h:a.grownBy b (aX k))(o:Obj):a.grownBy (b.alloc o) (aX k):=
 ⟨h.os,h.tape,h.output,by have:=h.size;simp;lia,λi z A=>(bC b o i (bF z h.size)).t (h.b i z A)⟩
def Es{a b:Wq}{k:Nat}(h:a.grownBy b (aX k))(o:Nat)(v:Vq):a.grownBy (b.setCell (Ad k o) v) (aX k):=
 ⟨h.os,h.tape,h.output,by have:=h.size;simpa using this,λi A z=>(bB b _ v i (λe=>z (by simp at e;rw[e]))).t (h.b i A z)⟩
def Qo{w:Wq}{b:Nat}{c:Array Vq}{t:cP}(h:w.heap[b]?=cC c t)(o:Nat)(v:Vq):(w.setCell (Ad b o) v).heap[b]?=cC (c.setIfInBounds o v) t:=by simp[aW,bQ,h]
def Me(z:Nat)(l:Lk)(t:RT)(w:Wq)(C:l.a=0\/l.a=1\/l.a=3)(G:l.u<=1000000)(M:l.f<=1000000)(O:l.d<=1000000)(A:w.heap[z]?=cC (pX l) 298):Cs 175 #[Pt z,uK t] w λe w'=>e=aQ (aN #[])/\w'.heap[z]?=cC (pX (iU l t)) 298/\w.grownBy w' (aX z):=by
 have E:=(zg A).1;have ce:z≠w.heap.size:=by omega
 have⟨want,body,alone,rules,atoms,args,e⟩:=l;have⟨kind,text,place,runes⟩:=t;unfold pX at A;unfold uK;simp only at C G M O A ⊢;have c0:=cZz A;have f0:∀o,aF w (Ad z o)=false:=λo=>by simp[aF,A]
 obtain rfl|rfl|rfl:=C;all_goals
  go_enter Tryz.func175,Tryz.ntmps175;go_wp2
  all_goals
   first|go_end0|refine cQ (results_none rfl _ _ _) rfl ?_
   refine⟨rfl,?_,by repeat (first|exact bT.refl _ _|apply GX|apply Es)⟩;rw[bC _ _ _ (by simpa using E)];generalize hS:iU _ _=S;unfold iU iY kP at hS;simp at hS
   (repeat' split at hS)<;>first|(exfalso;omega)|(exfalso;simp_all;done)|(subst hS;simp[aW,bQ,A,pX];done)|(exfalso;simp_all;omega)
def Hq(z:Nat)(l:Lk)(t:RT)(w:Wq)(C:l.a=2\/l.a=4\/l.a=5\/l.a=6)(A:w.heap[z]?=cC (pX l) 298):Cs 176 #[Pt z,uK t] w λe w'=>e=aQ (aN #[])/\w'.heap[z]?=cC (pX (gJ l t)) 298/\w.grownBy w' (aX z):=by
 have E:=(zg A).1;have ce:z≠w.heap.size:=by omega
 have⟨want,body,alone,rules,atoms,args,e⟩:=l;have⟨kind,text,place,runes⟩:=t;unfold pX at A;unfold uK;simp only at C A ⊢;have G:=cZz A;have f0:∀o,aF w (Ad z o)=false:=λo=>by simp[aF,A]
 obtain rfl|rfl|rfl|rfl:=C;all_goals
  cases body<;>cases alone
  all_goals
   go_enter Tryz.func176,Tryz.ntmps176;go_wp2
   all_goals
    first|go_end0|refine cQ (results_none rfl _ _ _) rfl ?_
    refine⟨rfl,?_,by repeat (first|exact bT.refl _ _|apply GX|apply Es)⟩;rw[bC _ _ _ (by simpa using E)];generalize hS:gJ _ _=S;unfold gJ at hS;simp at hS
    (repeat' split at hS)<;>first|(exfalso;omega)|(exfalso;simp_all;done)|(subst hS;simp[aW,bQ,A,pX];done)
def mN(l:Lk)(t:RT):Bool:=decide (t.d=4/\(l.a=6\/(l.a=0/\l.c=false)))
def Qk(l:Lk)(t:RT):Lk:=if l.a=0\/l.a=1\/l.a=3 then iU l t else gJ l t
def fZ:Lk->List RT->Int×Nat
 |_,[]=>(0,0)
 |l,t::ts=>if mN l t=true then (0,0) else if (Qk l t).e≠0 then ((Qk l t).e,t.b) else fZ (Qk l t) ts
structure BG(l:Lk)(i:Nat):Prop where
 h:0<=l.a
 j:l.a<=6
 r:l.u<=i
 a:l.f<=i
 g:l.d<=i
def Id{l:Lk}{i:Nat}(h:BG l i)(t:RT):BG (Qk l t) (i+1)/\(Qk l t).c=l.c:=by
 have⟨h1,h2,h3,h4,h5⟩:=h;unfold Qk iU gJ iY
 repeat' split
 all_goals
  refine⟨⟨?_,?_,?_,?_,?_⟩,?_⟩<;>simp only<;>first|rfl|lia|(split<;>lia)
def tt(W:Wq)(g:Nat)(ts:List RT):Prop:=g<W.heap.size/\∀(j:Nat) (hj:j<aD ts),
 aE W ⟨g,j*4,aY⟩=aX (aO aR ts[j].d)/\aE W ⟨g,j*4+1,aY⟩=aX (aK ts[j].f)/\aE W ⟨g,j*4+2,aY⟩=aX (aO aR ts[j].b)/\aE W ⟨g,j*4+3,aY⟩=aX (aO aR ts[j].a)
def tt.f{W W':Wq}{g B:Nat}{ts:List RT}(h:tt W g ts)(z:cJ B W W')(A:g<B):tt W' g ts:=
 ⟨bF h.1 z.s,λj C=>by
  have⟨a,b,c,d⟩:=h.2 j C
  exact⟨(bG z A).t a,(bG z A).t b,(bG z A).t c,(bG z A).t d⟩⟩
def ER{w wr w':Wq}{N T:Nat}{a b c d:Vq}(z:(wr.alloc (aP #[a,b,c,d] T)).grownBy w' (aX N))(G:N<wr.heap.size)(C:cJ N w wr):aE w' (Ad wr.heap.size 2)=aX c/\cJ N w w':=by
 refine⟨?_,(C.l (by lia) _).grown z (by simp;lia) (λk E=>by cases E;exact bH _)⟩;have A:w'.heap[wr.heap.size]?=cC #[a,b,c,d] T:=by rw[z.b wr.heap.size (by simp) (λe=>by cases e;lia),bX]
 simp[aE,A]
theorem CY(g cap:Nat)(ts:List RT)(alone:Bool)(w:Wq)(be:tt w g ts)(hl:ts.length<=1000):Cs 108 #[.slice (some ⟨g,0,none⟩) ts.length cap,.bool alone] w λe w'=>e=.returned (.tuple #[.int .i64 (fZ ⟨0,false,alone,0,0,0,0⟩ ts).1,.int .i64 (fZ ⟨0,false,alone,0,0,0,0⟩ ts).2])/\Below w.heap.size w w':=by
 obtain⟨N,hN⟩:=aB w.heap.size;have a7:=hN.s;have c7:g<N:=hN▸be.1
 rw[<-hN];clear hN;have cc:=aA be;clear be;go_enter Tryz.func108,Tryz.ntmps108;go_wp2
 go_loopw [7] (λa wr=>∃(i:Nat)(l:Lk),a=.int .i64 i/\i<=ts.length/\l.e=0/\l.c=alone/\BG l i/\Hid (fZ l (ts.drop i)=fZ ⟨0,false,alone,0,0,0,0⟩ ts)/\wr.heap[N]?=some (Obj.cells (pX l) 298)/\Below N w wr) (λa _=>ts.length-(intOf a).toNat)
 case atStart=>refine⟨0,⟨0,false,alone,0,0,0,0⟩,rfl,zz,rfl,rfl,⟨by simp,by simp,bH _,bH _,bH _⟩,rfl,?_,zr.l (by omega) _⟩;rw[<-a7];exact zn w _
 case round=>
  obtain⟨i,l,rfl,dq,he,b8,b7,ag,hh,cq⟩:=hrel;by_cases ai:i<ts.length
  .obtain⟨t0,t1,t2,t3⟩:=(cc.o.f cq c7).2 i ai;have bv:=bD ai;rw[bv] at ag;generalize ts[i]=t at *;have ed:=Id b7 t;have dm:=(zg hh).1
   have cv:l.a=0\/l.a=1\/l.a=3->Cs 175 #[.pointer (some ⟨N,0,none⟩),uK t] (wr.alloc (.cells #[.int .i64 t.d,.string t.f,.int .i64 t.b,.int .i64 t.a] 244)) λe w'=>e=.returned (.tuple #[])/\w'.heap[N]?=some (Obj.cells (pX (Qk l t)) 298)/\w'.cell? ⟨wr.heap.size,2,none⟩=some (.int .i64 t.b)/\Below N w w':=by
    intro hw;refine (Me N l t _ hw (by have:=b7.r;omega) (by have:=b7.a;omega) (by have:=b7.g;omega) ((bC _ _ _ dm).t hh)).m ?_;rintro e w' ⟨rfl,h1,h2⟩;have hs:Qk l t=iU l t:=by unfold Qk;rw[if_pos hw]
    rw[hs];exact⟨rfl,h1,ER h2 dm cq⟩
   have d3:¬(l.a=0\/l.a=1\/l.a=3)->Cs 176 #[.pointer (some ⟨N,0,none⟩),uK t] (wr.alloc (.cells #[.int .i64 t.d,.string t.f,.int .i64 t.b,.int .i64 t.a] 244)) λe w'=>e=.returned (.tuple #[])/\w'.heap[N]?=some (Obj.cells (pX (Qk l t)) 298)/\w'.cell? ⟨wr.heap.size,2,none⟩=some (.int .i64 t.b)/\Below N w w':=by
    intro hw;have h6:=b7.j;have h7:=b7.h;refine (Hq N l t _ (by omega) ((bC _ _ _ dm).t hh)).m ?_;rintro e w' ⟨rfl,h1,h2⟩;have hs:Qk l t=gJ l t:=by unfold Qk;rw[if_neg hw]
    rw[hs];exact⟨rfl,h1,ER h2 dm cq⟩
   have c0:wr.cell? ⟨N,0,none⟩=some (.int .i64 l.a):=by simp[World.cell?,hh,pX]
   have ea:=aA cq;have cf:=aA ag;have co:=aA ed;have ii:=b7.h;have gp:=b7.j;obtain⟨kind,text,place,runes⟩:=t;obtain⟨want,body,af,rules,atoms,args,e⟩:=l;simp only at *;subst b8 he;by_cases ax:mN ⟨want,body,af,rules,atoms,args,0⟩ ⟨kind,text,place,runes⟩=true
   .have f6:Hid (fZ ⟨0,false,af,0,0,0,0⟩ ts=(0,0)):=by show _=_;rw[<-cf.o];unfold fZ;rw[if_pos ax]
    unfold mN at ax;simp only[decide_eq_true_eq] at ax;clear cv d3 co cf ag ed b7 bv hh cq;obtain⟨rfl,rfl|⟨rfl,rfl⟩⟩:=ax
    all_goals
     go_wp2;go_ret2;rw[f6.o];exact⟨rfl,ea.o.l (by omega) _⟩
   .have ce:Hid (fZ ⟨0,false,af,0,0,0,0⟩ ts=if (Qk ⟨want,body,af,rules,atoms,args,0⟩ ⟨kind,text,place,runes⟩).e≠0 then ((Qk ⟨want,body,af,rules,atoms,args,0⟩ ⟨kind,text,place,runes⟩).e,place) else fZ (Qk ⟨want,body,af,rules,atoms,args,0⟩ ⟨kind,text,place,runes⟩) (ts.drop (i+1))):=by
     show _=_;rw[<-cf.o];conv=>lhs;unfold fZ
     rw[if_neg ax]
    unfold mN at ax;simp only[decide_eq_true_eq] at ax;generalize Qk ⟨want,body,af,rules,atoms,args,0⟩ ⟨kind,text,place,runes⟩=l' at *;have az:Hid (∀w':Wq,w'.heap[N]?=some (Obj.cells (pX l') 298)->w'.cell? ⟨N,6,none⟩=some (.int .i64 l'.e)):=by intro w' h;simp[World.cell?,h,pX]
    have b4:Hid _:=cv;have cp:Hid _:=d3;clear cv d3 cf ag ed b7 bv hh cq;unfold uK at b4 cp;have dr:want=0\/want=1\/want=2\/want=3\/want=4\/want=5\/want=6:=by omega
    by_cases hz:l'.e=0
    .have cu:Hid (fZ l' (ts.drop (i+1))=fZ ⟨0,false,af,0,0,0,0⟩ ts):=by show _=_;rw[ce.o,if_neg (by simp[hz])]
     rw[hz] at az;have eg:=aA hz;clear hz ce;by_cases k4:kind=4
     .subst k4;obtain rfl|rfl|rfl|rfl|rfl|rfl|rfl:=dr
      .cases af
       .simp at ax
       .clear ax
        go_wp2_with (first|(go_at_call 175;refine (b4.o (by simp)).m ?_;rintro e w' ⟨rfl,aj,bj,aw⟩;have c6:=az.o w' aj)|(go_at_call 176;refine (cp.o (by simp)).mono ?_;rintro e w' ⟨rfl,aj,bj,aw⟩;have c6:=az.o w' aj))
        go_roundw
        case rel=>exact⟨i+1,l',by go_num,by omega,eg.o,co.o.2,co.o.1,cu,aj,aw⟩
        case measure=>simp[intOf];omega
      all_goals first|(exfalso;simp at ax;done)|skip
      all_goals
       clear ax
       go_wp2_with (first|(go_at_call 175;refine (b4.o (by simp)).m ?_;rintro e w' ⟨rfl,aj,bj,aw⟩;have c6:=az.o w' aj)|(go_at_call 176;refine (cp.o (by simp)).m ?_;rintro e w' ⟨rfl,aj,bj,aw⟩;have c6:=az.o w' aj))
       go_roundw
       case rel=>exact⟨i+1,l',by go_num,by omega,eg.o,co.o.2,co.o.1,cu,aj,aw⟩
       case measure=>simp[intOf];omega
     .have m4:(kind == 4)=false:=by simpa using k4
      clear ax k4;obtain rfl|rfl|rfl|rfl|rfl|rfl|rfl:=dr
      all_goals
       go_wp2_with (first|(go_at_call 175;refine (b4.o (by simp)).m ?_;rintro e w' ⟨rfl,aj,bj,aw⟩;have c6:=az.o w' aj)|(go_at_call 176;refine (cp.o (by simp)).m ?_;rintro e w' ⟨rfl,aj,bj,aw⟩;have c6:=az.o w' aj))
       go_roundw
       case rel=>exact⟨i+1,l',by go_num,by omega,eg.o,co.o.2,co.o.1,cu,aj,aw⟩
       case measure=>simp[intOf];omega
    .have cu:Hid (fZ ⟨0,false,af,0,0,0,0⟩ ts=(l'.e,place)):=by show _=_;rw[ce.o,if_pos hz]
     generalize l'.e=le at *;have gq:(le != 0)=true:=by simpa using hz
     clear ce;by_cases k4:kind=4
     .subst k4;obtain rfl|rfl|rfl|rfl|rfl|rfl|rfl:=dr
      .cases af
       .simp at ax
       .clear ax
        go_wp2_with (first|(go_at_call 175;refine (b4.o (by simp)).m ?_;rintro e w' ⟨rfl,aj,bj,aw⟩;have c6:=az.o w' aj)|(go_at_call 176;refine (cp.o (by simp)).mono ?_;rintro e w' ⟨rfl,aj,bj,aw⟩;have c6:=az.o w' aj))
        go_quiet (fail);go_wp2;go_ret2;rw[cu.o];exact⟨rfl,qx aw⟩
      all_goals first|(exfalso;simp at ax;done)|skip
      all_goals
       clear ax
       go_wp2_with (first|(go_at_call 175;refine (b4.o (by simp)).m ?_;rintro e w' ⟨rfl,aj,bj,aw⟩;have c6:=az.o w' aj)|(go_at_call 176;refine (cp.o (by simp)).m ?_;rintro e w' ⟨rfl,aj,bj,aw⟩;have c6:=az.o w' aj))
       go_quiet (fail);go_wp2;go_ret2;rw[cu.o];exact⟨rfl,qx aw⟩
     .have m4:(kind == 4)=false:=by simpa using k4
      clear ax k4;obtain rfl|rfl|rfl|rfl|rfl|rfl|rfl:=dr
      all_goals
       go_wp2_with (first|(go_at_call 175;refine (b4.o (by simp)).m ?_;rintro e w' ⟨rfl,aj,bj,aw⟩;have c6:=az.o w' aj)|(go_at_call 176;refine (cp.o (by simp)).m ?_;rintro e w' ⟨rfl,aj,bj,aw⟩;have c6:=az.o w' aj))
       go_quiet (fail);go_wp2;go_ret2;rw[cu.o];exact⟨rfl,qx aw⟩
  .rw[bE (by omega)] at ag;go_wp2;go_ret2;rw[<-ag.o];exact⟨rfl,cq⟩
def fQ(x y:ByteArray):Bool:=y.toList == x.toList
def fW(vs:List ByteArray)(x:ByteArray):Nat:=vs.findIdx (fQ x)
def Qs(vs:List ByteArray)(x:ByteArray):List ByteArray:=if fW vs x<aD vs then vs else vs++[x]
structure Tm where
 c:ByteArray
 d:Nat
structure Am where
 j:ByteArray
 d:List Tm
structure Rl where
 d:Am
 n:List Am
def jL(t:Tm):List Vq:=[aK t.c,aO aR t.d]
def II(t:Tm):aD (jL t)=2:=rfl
def Qa(r:Rl):List Am:=r.d::r.n
def jO(vs:List ByteArray)(t:Tm):List ByteArray:=if t.c.toList.isEmpty=true then vs else Qs vs t.c
def fF(vs:List ByteArray)(l:List Tm):List ByteArray:=l.foldl jO vs
def Q3(l:List Am):List Tm:=l.flatMap (·.d)
structure Qb(B:Nat)(w w':Wq):Prop where
 os:w'.os=w.os
 tape:w'.tape=w.tape
 output:w'.output=w.output
 size:w.heap.size<=w'.heap.size
 h:∀k,k<w.heap.size->(k<B\/∀c fz,w.heap[k]?≠aX (aP c 9 fz))->w'.heap[k]?=w.heap[k]?
def Qb.j(B:Nat)(w:Wq):Qb B w w:=⟨rfl,rfl,rfl,bH _,λ_ _ _=>rfl⟩
def Qb.trans{B:Nat}{a b c:Wq}(h:Qb B a b)(k:Qb B b c):Qb B a c:=
 ⟨k.os.t h.os,k.tape.t h.tape,k.output.t h.output,cH h.size k.size,λi A C=>by
  have z:=h.h i A C
  rw[k.h i (bF A h.size) (z▸C),z]⟩
def Qb.alloc{B:Nat}{a b:Wq}(h:Qb B a b)(o:Obj):Qb B a (b.alloc o):=
 ⟨h.os,h.tape,h.output,by have:=h.size;simp;lia,λi z A=>(bC b o i (bF z h.size)).t (h.h i z A)⟩
def Qb.i{B:Nat}{a b:Wq}(h:Qb B a b){p:cS}(C:a.heap.size<=p.block)(v:Vq):Qb B a (b.setCell p v):=
 ⟨h.os,h.tape,h.output,by have:=h.size;simpa using this,λi z A=>(bB b p v i (by lia)).t (h.h i z A)⟩
def Qb.o{B:Nat}{a b c:Wq}{row:Option Nat}(h:Qb B a b)(z:b.grownBy c row)(hr:∀k,row=aX k->a.heap.size<=k\/(B<=k/\∃d C,b.heap[k]?=aX (aP d 9 C))):Qb B a c:=
 ⟨z.os.t h.os,z.tape.t h.tape,z.output.t h.output,cH h.size z.size,λi M A=>by
  have E:=h.h i M A;rw[z.b i (bF M h.size) (λe=>?_),E];obtain O|⟨O,d,C,G⟩:=hr i e.symm
  .omega
  .obtain A|A:=A
   .omega
   .rw[E] at G;exact A d C G⟩
def Qr{W:Wq}{B k n:Nat}{T:cP}{v:Vq}{xs:List Vq}(h:aH W B T k v n xs):∀g,aI v=aX g->B<=g/\g<W.heap.size/\∃d M,W.heap[g]?=aX (aP d T M):=by
 intro g z;obtain⟨_,⟨A,hn⟩|⟨g',E,G,A,O,C,h1,h2,h3,h4⟩⟩:=h
 .rw[A] at z;cases z
 rw[A] at z;cases z;exact⟨O,(zg C).1,G,_,C⟩
def Qb.z{B B' k n:Nat}{T:cP}{a b:Wq}{v:Vq}{xs:List Vq}(h:Qb B a b)(A:T≠9)(z:aH a B' T k v n xs):aH b B' T k v n xs:=by refine qm z (λg C ai=>h.h g ai (aU λc E e=>?_));have⟨_,_,d,ev,h3⟩:=Qr z g C;rw[e] at h3;cases h3;exact A rfl
def qL(n:Nat):ByteArray:=⟨(Lib.decDigits n).toArray⟩
def zq(d:Nat)(h:d<10):(⟨#[48,49,50,51,52,53,54,55,56,57]⟩:ByteArray).extract d (d+1)=⟨#[UInt8.ofNat (48+d)]⟩:=by
 have z:d=0\/d=1\/d=2\/d=3\/d=4\/d=5\/d=6\/d=7\/d=8\/d=9:=by lia
 obtain rfl|rfl|rfl|rfl|rfl|rfl|rfl|rfl|rfl|rfl:=z<;>rfl
def KN(n:Nat)(h:n<10):qL n=(⟨#[48,49,50,51,52,53,54,55,56,57]⟩:ByteArray).extract (n % 10) (n % 10+1):=by rw[zq _ (by lia)];unfold qL;rw[Lib.decDigits_one h,Nat.mod_eq_of_lt h]
def GW(n:Nat)(h:¬n<10):qL n=qL (n / 10)++(⟨#[48,49,50,51,52,53,54,55,56,57]⟩:ByteArray).extract (n % 10) (n % 10+1):=by
 rw[zq _ (by lia)];unfold qL;conv=>lhs;rw[Lib.decDigits,dif_neg h]
 apply ByteArray.ext;rw[ByteArray.data_append];simp
theorem yL:∀(n:Nat),(qL n).size<=n+1:=by
 intro n;induction n using Nat.strongRecOn with
 |ind n ih=>by_cases h:n<10;{unfold qL;rw[Lib.decDigits_one h];show 1<=n+1;lia};{rw[GW n h,zq _ (by lia),ByteArray.size_append];have z:=ih (n / 10) (by lia);have A:(⟨#[UInt8.ofNat (48+n % 10)]⟩:ByteArray).size=1:=rfl;lia}
def zi(vs:List ByteArray)(x:ByteArray)(i:Nat)(z:i<aD vs)(h:fQ x vs[i]=true)(C:∀(j:Nat) (A:j<aD vs),j<i->fQ x vs[j]=false):fW vs x=i:=by grind [fW]
def A5(vs:List ByteArray)(x:ByteArray)(A:∀(j:Nat) (z:j<aD vs),fQ x vs[j]=false):fW vs x=aD vs:=by grind [fW]
theorem yX(x:ByteArray):aD [aK x]=1:=rfl
theorem zv(vs:List ByteArray):vs.map aK=vs.flatMap (λx=>[aK x]):=by
 induction vs with
 |nil=>rfl
 |cons x l ih=>simp[ih]
def Tryz.a:(Tryz.prog.info? 9).map (λi=>(i.zero,i.size,i.bytes))=aX (aX (St ⟨#[]⟩),1,16):=by kernel_rfl
theorem nV(w:Wq)(x:Vq)(t:cP):∀j u,[x][j]?=aX u->aE (w.alloc (aP #[x] t)) ((⟨w.heap.size,0,aY⟩:cS).add j)=aX u:=by
 intro j u z;match j,z with
 |0,z=>simp at z;subst z;simp[Addr.add]
 |j+1,z=>simp at z
def Mc(B:Nat)(v:Vq)(vs:List ByteArray)(x:ByteArray)(w:Wq)(hB:B<=w.heap.size)(hl:aD vs<=1000)(qt:aH w B 9 1 v (aD vs) (vs.map aK)):Cs 221 #[v,St x] w λe w'=>∃v',e=aQ (aN #[v',Ii (fW vs x)])/\aH w' B 9 1 v' (aD (Qs vs x)) ((Qs vs x).map aK)/\w.grownBy w' (aI v):=by
 have⟨i0,hi,bi,bu,bn⟩:=cO Tryz.a;have⟨a,c,hv⟩:=qd qt;have al:∀(j:Nat)(z:j<aD vs),∃g,a=aX ⟨g,0,aY⟩/\aE w (Ad g j)=aX (St vs[j]):=by grind [zv,lH,yX]
 subst hv;have HO:=aA qt;have HC:=aA al;clear qt al;go_enter Tryz.func221,Tryz.ntmps221;go_wp2;go_loopw [6] (λp wr=>∃i:Nat,p=aO aR i/\i<=aD vs/\wr=w/\Hid (∀(j:Nat)(z:j<aD vs),j<i->fQ x vs[j]=false)) (λp _=>aD vs-(intOf p).toNat)
 case atStart=>exact⟨0,rfl,zz,rfl,λj z h=>by omega⟩
 obtain⟨i,rfl,dq,rfl,M⟩:=hrel;by_cases ai:i<aD vs
 .obtain⟨g,rfl,Qi⟩:=HC.o i ai;obtain⟨y,hy⟩:=aC (vs[i]);rw[hy] at Qi;have HY:=aA hy;clear hy;by_cases hs:fQ x y=true;{have A:=zi vs x i ai (HY.o▸hs) M.o;have C:=aA A;clear A;unfold fQ at hs;go_wp2;go_ret2;have E:Qs vs x=vs:=by{unfold Qs;rw[if_pos (C.o▸ai)]};rw[E,C.o];exact⟨_,rfl,HO.o,bT.refl _ _⟩};have cn:fQ x y=false:=by{simpa using hs};have G:Hid (∀(j:Nat)(z:j<aD vs),j<i+1->fQ x vs[j]=false):=by{intro j z fw;by_cases e:j=i;{subst e;rwa[HY.o]};{exact M.o j z (by omega)}};unfold fQ at cn;clear hs;go_wp2;go_roundw
  case rel=>exact⟨i+1,by go_num,by omega,by trivial,G⟩
  simp[intOf];omega
 have A:=A5 vs x (λj z=>M.o j z (by omega));have E:Qs vs x=vs++[x]:=by{unfold Qs;rw[if_neg (by omega)]};have HL:=aA E;have C:=aA A;have bb:aD vs+1<=maxLen:=by{unfold cR;omega};have a9:(aD vs+1)*16<=140737488355328:=by{omega};have bf:Hid (∀O,B<=(wr.alloc O).heap.size):=λO=>by{simp;omega};have a8:∀u∈[aK x],u.oneCell'=true:=by{simp[bI]};clear A E;go_wp2_with (at_builtin;refine cI _ rfl (.tmp 21) (.tmp 23) 22 rfl B 9 i0 (St ⟨#[]⟩) 1 16 Tryz.underlying22 hi bi bu bn rfl (by decide) _ _ _ rfl (HO.o.l _) ⟨wr.heap.size,0,aY⟩ 1 1 [St x] rfl rfl (nV _ _ _) a8 bb a9 (bf.o _) ?_;intro v' w1 ad ab _;have⟨g',c',gg⟩:=cM ad;subst gg);go_ret2;rw[HL.o,C.o];refine⟨_,rfl,?_,?_⟩;{simpa using ad};{exact⟨ab.os,ab.tape,ab.output,by have:=ab.size;simp at this;omega,λk hk hn=>(ab.b k (by simp;omega) hn).t (bC _ _ _ hk)⟩}
def lF(vs:List ByteArray)(t:RT):Tm:=if t.d=2 then ⟨⟨#[]⟩,fW vs t.f⟩ else ⟨t.f,0⟩
def mB(vs:List ByteArray)(t:RT):List ByteArray:=if t.d=2 then Qs vs t.f else vs
def gG:List ByteArray->List RT->Option (List Tm×List ByteArray×Nat)
 |vs,a::b::us=>
  if b.d=41 then aX ([lF vs a],mB vs a,2)
  else match gG (mB vs a) us with
   |some (l,v',n)=>aX (lF vs a::l,v',n+2)
   |none=>aY
 |_,_=>aY
def r9(W:Wq)(g:Nat)(ts:List RT):Prop:=tt W g ts/\∃c,W.heap[g]?=aX (aP c 244)
def r9.o{B:Nat}{a b:Wq}{g:Nat}{ts:List RT}(h:r9 a g ts)(hs:Qb B a b):r9 b g ts:=by have⟨⟨h1,h2⟩,c,h3⟩:=h;have A:=hs.h g h1 (aU λc' E e=>by rw[h3] at e;cases e);have z:∀o,aE b (Ad g o)=aE a (Ad g o):=λo=>bZ (w:=a) A;refine⟨⟨bF h1 hs.size,λj C=>?_⟩,c,A.t h3⟩;rw[z,z,z,z];exact h2 j C
def Tryz.p:(Tryz.prog.info? 215).map (λi=>(i.zero,i.size,i.bytes))=aX (aX (aL #[St ⟨#[]⟩,Ii 0]),2,24):=by kernel_rfl
theorem OT{vs:List ByteArray}{us:List RT}{r:List Tm×List ByteArray×Nat}(h:gG vs us=aX r):∃a b z,us=a::b::z:=by
 match us,h with
 |[],h=>simp[gG] at h
 |[a],h=>simp[gG] at h
 |a::b::z,_=>exact⟨a,b,z,rfl⟩
structure Ge(B N:Nat)(w wr:Wq)(ts:List RT)(at':Nat)(rel:ByteArray)(k:Nat)(vs:List ByteArray)(v va:Vq)(ae:List Tm)(L:List Tm)(ay:List ByteArray)(M:Nat):Prop where
 f:Qb B w wr
 h:wr.heap[N]?=cC #[St ⟨#[]⟩,aJ aY 0 0] 145
 a:wr.heap[N+1]?=cC #[St rel,va] 145
 z:aH wr (N+2) 215 2 va (aD ae) (ae.flatMap jL)
 c:aH wr B 9 1 v (aD vs) (vs.map aK)
 b:∃l n,gG vs (ts.drop (at'+2+k))=aX (l,ay,n)/\ae++l=L/\k+n=M
 I:aD ae<=k/\aD vs<=500+k
structure lU(B N:Nat)(w X:Wq)(rel:ByteArray)(vs:List ByteArray)(v va:Vq)(ae:List Tm):Prop where
 f:Qb B w X
 h:X.heap[N]?=cC #[St ⟨#[]⟩,aJ aY 0 0] 145
 a:X.heap[N+1]?=cC #[St rel,va] 145
 z:aH X (N+2) 215 2 va (aD ae) (ae.flatMap jL)
 c:aH X B 9 1 v (aD vs) (vs.map aK)
variable {B N:Nat} {w X Y:Wq} {rel:ByteArray} {vs bh:List ByteArray} {v v' va av:Vq} {ae:List Tm}
def lU.alloc(h:lU B N w X rel vs v va ae)(o:Obj):lU B N w (X.alloc o) rel vs v va ae:=
 ⟨h.f.alloc o,(bC _ _ _ (zg h.h).1).t h.h,(bC _ _ _ (zg h.a).1).t h.a,h.z.l o,h.c.l o⟩
def lU.e(h:lU B N w X rel vs v va ae)(z:X.grownBy Y (aI v))(M:aH Y B 9 1 v' (aD bh) (bh.map aK)):lU B N w Y rel bh v' va ae:=by
 have C:∀(k:Nat)(c:Array Vq)(T:cP),T≠9->X.heap[k]?=cC c T->Y.heap[k]?=X.heap[k]?:=by intro k c T G A;refine z.b k (zg A).1 (λe=>?_);have⟨_,_,d,fz,h3⟩:=Qr h.c k e.s;rw[A] at h3;cases h3;exact G rfl
 refine⟨h.f.o z (λk e=>aU ?_),(C _ _ _ (by lia) h.h).t h.h,(C _ _ _ (by lia) h.a).t h.a,?_,M⟩
 .have⟨h1,_,d,fz,h3⟩:=Qr h.c k e;exact⟨h1,d,fz,h3⟩
 refine qm h.z (λg E _=>?_);have⟨_,_,d,fz,h3⟩:=Qr h.z g E;refine z.b g (zg h3).1 (λe=>?_);have⟨_,_,d',ev,h4⟩:=Qr h.c g e.s;rw[h3] at h4;cases h4
def lU.b(h:lU B N w X rel vs v va ae){P:Nat}{c:Array Vq}(E:w.heap.size=N)(G:N+2<=P)(C:X.heap[P]?=cC c 215)(A:aI va≠aX P)(o:Nat)(u:Vq):lU B N w (X.setCell (Ad P o) u) rel vs v va ae:=by
 refine⟨h.f.i (by simp;lia) u,(bB _ _ _ _ (by simp;lia)).t h.h,(bB _ _ _ _ (by simp;lia)).t h.a,?_,?_⟩
 .exact qm h.z (λg z _=>bB _ _ _ _ (λe=>A (by simp at e;rwa[<-e])))
 refine qm h.c (λg z _=>bB _ _ _ _ (λe=>?_));simp at e;subst e;have⟨_,_,d,fz,h3⟩:=Qr h.c g z;rw[C] at h3;cases h3
def lU.j(h:lU B N w X rel vs v va ae)(hN:w.heap.size=N)(C:X.grownBy Y (aI va))(t:Tm)(M:aH Y (N+2) 215 2 av (aD ae+1) (ae.flatMap jL++jL t)):lU B N w (Y.setCell (Ad (N+1) 1) av) rel vs v av (ae++[t]):=by
 have E:=λk e=>(Qr h.z k e).1;have O:=C.b N (zg h.h).1 (λe=>by have:=E N e.s;lia);have G:=C.b (N+1) (zg h.a).1 (λe=>by have:=E (N+1) e.s;lia);have z:aH Y B 9 1 v (aD vs) (vs.map aK):=by refine qm h.c (λg A ai=>C.b g ai (λe=>?_));have⟨_,_,d,fz,h3⟩:=Qr h.c g A;have⟨_,_,d',ev,h4⟩:=Qr h.z g e.s;rw[h3] at h4;cases h4
 refine⟨(h.f.o C (λk e=>aS (by have:=E k e;lia))).i (by simp;lia) _,?_,?_,?_,?_⟩
 .exact (bB _ _ _ _ (by simp)).t (O.t h.h)
 .exact Qo (G.t h.a) 1 av
 .have h2:aH Y (N+2) 215 2 av (aD (ae++[t])) ((ae++[t]).flatMap jL):=by{simpa using M};exact qm h2 (λg A _=>bB _ _ _ _ (λe=>by have:=(Qr M g A).1;simp at e;lia))
 refine qm z (λg A _=>bB _ _ _ _ (λe=>?_));simp at e;subst e;have⟨_,_,d,fz,h3⟩:=Qr z _ A;rw[G.t h.a] at h3;cases h3
def lU.d(h:lU B N w X rel vs v va ae)(C:w.heap.size=N)(a b:Vq):aH ((X.setCell (Ad N 0) a).setCell (Ad N 1) b) N 215 2 va (aD ae) (ae.flatMap jL)/\
  aH ((X.setCell (Ad N 0) a).setCell (Ad N 1) b) B 9 1 v (aD vs) (vs.map aK)/\Qb B w ((X.setCell (Ad N 0) a).setCell (Ad N 1) b):=by have A:∀g,g≠N->((X.setCell (Ad N 0) a).setCell (Ad N 1) b).heap[g]?=X.heap[g]?:=λg z=>(bB _ _ _ _ z).t (bB _ _ _ _ z);refine⟨qz (qm h.z (λg z _=>A g (by have:=(Qr h.z g z).1;lia))) (by lia),qm h.c (λg z _=>A g (λe=>?_)),(h.f.i (by simp;lia) _).i (by simp;lia) _⟩;subst e;have⟨_,_,d,fz,h3⟩:=Qr h.c _ z;rw[h.h] at h3;cases h3
def NM{α:Type}{ts:List α}{j:Nat}{a b:α}{us:List α}(h:ts.drop j=a::b::us):∃z:j+1<aD ts,ts[j]=a/\ts[j+1]=b/\ts.drop (j+2)=us:=by grind [aD,bJ,cA,bD]
def yl(vs:List ByteArray)(t:RT):aD (mB vs t)<=aD vs+1:=by grind [mB,Qs]
def Ge.d{vs:List ByteArray}{a b:RT}{us:List RT}{ae L:List Tm}{ay:List ByteArray}{k M:Nat}(hs:∃l n,gG vs (a::b::us)=aX (l,ay,n)/\ae++l=L/\k+n=M):(b.d=41->ae++[lF vs a]=L/\mB vs a=ay/\k+2=M)/\(b.d≠41->∃l n,gG (mB vs a) us=aX (l,ay,n)/\(ae++[lF vs a])++l=L/\(k+2)+n=M):=by
 have⟨l,n,h1,h2,h3⟩:=hs;unfold gG at h1;refine⟨λz=>?_,λz=>?_⟩
 .grind
 grind
theorem AO(g cap:Nat)(ts:List RT)(at':Nat)(B:Nat)(v:Vq)(vs:List ByteArray)(L:List Tm)(ay:List ByteArray)(M:Nat)(w:Wq)(be:r9 w g ts)(hl:ts.length<=400)(aq:at'<ts.length)(hB:B<=w.heap.size)(ij:vs.length<=400)(hv:w.ownsRow B 9 1 v vs.length (vs.map Value.string))(ag:gG vs (ts.drop (at'+2))=some (L,ay,M)):Cs 177 #[.slice (some ⟨g,0,none⟩) ts.length cap,.int .i64 at',v] w λe w'=>∃va v',e=.returned (.tuple #[.agg #[.string ts[at'].f,va],.int .i64 (at'+2+M:Nat),v'])/\
   w'.ownsRow w.heap.size 215 2 va L.length (L.flatMap jL)/\w'.ownsRow B 9 1 v' ay.length (ay.map Value.string)/\Qb B w w':=by
 obtain⟨i0,hi,bi,bu,bn⟩:=info_parts Tryz.p;obtain⟨N,hN⟩:=aB w.heap.size;have a7:=hN.s;have c7:g<N:=hN▸be.1.1
 obtain⟨t0,t1,t2,t3⟩:=be.1.2 at' aq;have gu:=λO=>(bG ((bL w.heap.size w).l zl O) be.1.1).t t1;rw[<-hN] at hB ⊢;clear hN t0 t2 t3;have cc:=aA be;have HV:=aA hv;have cf:Hid _:=ag;clear be hv ag;generalize ts[at'].f=rel at *;go_enter Tryz.func177,Tryz.ntmps177;go_wp2;go_loopw [1,2] (λp q wr=>∃(j k:Nat)(vk va:Vq)(ah:List ByteArray)(ae:List Tm),vk=q/\p=.int .i64 j/\Hid (j=at'+2+k)/\lU B N w wr rel ah vk va ae/\Hid (∃l n,gG ah (ts.drop j)=some (l,ay,n)/\ae++l=L/\k+n=M)/\ae.length<=k/\ah.length<=400+k) (λp _ _=>ts.length-(intOf p).toNat)
 case atStart=>refine⟨at'+2,0,v,_,vs,[],rfl,by go_num,rfl,⟨((Qb.j B w).alloc _).alloc _,?_,?_,zo,(HV.o.l _).l _⟩,⟨L,M,cf.o,rfl,by omega⟩,bH _,by omega⟩;{rw[bC _ _ _ (by simp;omega),<-a7];exact zn w _};have:=zn (w.alloc (.cells #[.string ⟨#[]⟩,.slice none 0 0] 145)) (.cells #[.string rel,.slice none 0 0] 145);rwa[bO,a7] at this
 obtain⟨j,k,vk,va,ah,ae,rfl,rfl,cl,hW,ag,h9,g9⟩:=hrel;obtain⟨l',n',en,_⟩:=ag.o;obtain⟨a,b,us,bv⟩:=OT en;obtain⟨da,ha,hb,cd⟩:=NM bv;obtain⟨a0,a1,a2,a3⟩:=(cc.o.o hW.f).1.2 j (by omega);obtain⟨b0,b1,b2,b3⟩:=(cc.o.o hW.f).1.2 (j+1) da;rw[bv] at ag;have cv:=Ge.d ag.o;rw[ha] at a0 a1;rw[hb] at b0;have b4:Hid _:=cv;have fa:=aA cd;have Qlb:j<ts.length:=by omega
 have bb:ae.length+1<=maxLen:=by have:=cl.o;unfold maxLen;omega
 have a9:(ae.length+1)*24<=140737488355328:=by have:=cl.o;omega
 have id:=yl ah a;clear cv ag en bv ha hb cd a2 a3 b1 b2 b3;obtain⟨ak,am,ap,ar⟩:=a;obtain⟨bk,h8,bp,br⟩:=b;simp only at a0 a1 b0;have HF:Hid (∀(X w1:Wq)(vq:Vq)(e7:List ByteArray),lU B N w X rel e7 vq va ae->X.grownBy w1 va.ownBlock->w1.cell? ⟨N+1,0,none⟩=some (.string rel)/\w1.cell? ⟨N+1,1,none⟩=some va/\(∀o,w1.frozen? ⟨N+1,o,none⟩=false)/\w1.cell? ⟨g,(j+1)*4,none⟩=some (.int .i64 bk)/\(∀o,w1.frozen? ⟨N,o,none⟩=false)/\w1.cell? ⟨N,0,none⟩=some (.string ⟨#[]⟩)/\w1.cell? ⟨N,1,none⟩=some (.slice none 0 0)):=by intro X w1 vq e7 hX hg;have b5:=λk e=>(Qr hX.z k e).1;have h1:w1.heap[N+1]?=some (Obj.cells #[.string rel,va] 145):=(hg.b (N+1) (zg hX.a).1 (λe=>by have:=b5 _ e.s;omega)).t hX.a;have h0:w1.heap[N]?=some (Obj.cells #[.string ⟨#[]⟩,.slice none 0 0] 145):=(hg.b N (zg hX.h).1 (λe=>by have:=b5 _ e.s;omega)).t hX.h;have ht:=cc.o.o hX.f;have h2:=hg.b g ht.1.1 (λe=>by have:=b5 _ e.s;omega);have h3:w1.cell? ⟨g,(j+1)*4,none⟩=X.cell? ⟨g,(j+1)*4,none⟩:=bZ (w:=X) h2;have h4:=(ht.1.2 (j+1) da).1;have h5:=((cc.o.o hW.f).1.2 (j+1) da).1;rw[b0] at h5;rw[<-h5] at h4;exact⟨zc h1,zc h1,λo=>by simp[World.frozen?,h1],h3.t h4,λo=>by simp[World.frozen?,h0],zc h0,zc h0⟩
 have c8:N+2<=wr.heap.size:=(zg hW.a).1;have HW:=aA hW;have bf:Hid (∀O O',N+2<=((wr.alloc O).alloc O').heap.size):=λO O'=>by simp;omega
 have d1:wr.cell? ⟨N+1,1,none⟩=some va:=by simp[World.cell?,hW.a]
 have em:Hid (∀(O:Obj)(x y:Vq)(t:TypeId)(i:Nat)(q:Vq),[x,y][i]?=some q->((wr.alloc O).alloc (.cells #[x,y] t)).cell? ((⟨wr.heap.size+1,0,none⟩:Addr).add i)=some q):=by intro O x y t i q hq;have:=rx (wr.alloc O) x y t i q hq;rwa[bO] at this
 have ei:g<wr.heap.size:=by omega
 have gs:=λO=>(bG ((bL wr.heap.size wr).l zl O) (by simp;omega)).t d1;have gw:=λO=>(bG ((bL wr.heap.size wr).l zl O) ei).t a0;have gt:=λO=>(bG ((bL wr.heap.size wr).l zl O) ei).t a1;clear hW;by_cases k2:ak=2
 .subst k2;have aq:Hid (lF ah ⟨2,am,ap,ar⟩=⟨⟨#[]⟩,fW ah am⟩/\mB ah ⟨2,am,ap,ar⟩=Qs ah am):=by{show _/\_;unfold lF mB;simp};have gz:(Qs ah am).length<=ah.length+1:=by{unfold Qs;split<;>simp};have gx:fW ah am<=ah.length:=List.findIdx_le_length;have ff:=λO=>Mc B vk ah am (wr.alloc O) (by simp;omega) (by have:=cl.o;omega) (HW.o.c.l O);generalize fW ah am=sn at *;generalize Qs ah am=svs at *;have a8:∀u∈[Value.string ⟨#[]⟩,.int .i64 sn],u.oneCell'=true:=by{simp[bI]};go_wp2_with fail;refine (ff _).m ?_;rintro e w2 ⟨v2,rfl,de,cj⟩;have dl:=(HW.o.alloc _).e cj de;have cz:w2.heap[wr.heap.size]?=some (Obj.cells #[.string am,.int .i64 0] 215):=by{rw[cj.b wr.heap.size (by simp) (λe=>?_),bX];have:=(Qr HW.o.c _ e.s).2.1;omega};have Qgc:va.ownBlock≠some wr.heap.size:=λe=>by{have:=(Qr HW.o.z _ e).2.1;omega};have e8:=Qo cz 0 (.string ⟨#[]⟩);have hZ:=(dl.b a7 c8 cz Qgc 0 (.string ⟨#[]⟩)).b a7 c8 e8 Qgc 1 (.int .i64 sn);have HZ:Hid _:=hZ;have p0:w2.cell? ⟨wr.heap.size,0,none⟩=some (.string am):=zc cz;have p1:w2.cell? ⟨wr.heap.size,1,none⟩=some (.int .i64 0):=zc cz;have pf:∀o,w2.frozen? ⟨wr.heap.size,o,none⟩=false:=λo=>by{simp[World.frozen?,cz]};have dz:w2.cell? ⟨N+1,1,none⟩=some va:=by{simp[World.cell?,dl.a]};have g0:N+2<=w2.heap.size:=(zg dl.a).1;have az:Hid (∀O,N+2<=(((w2.setCell ⟨wr.heap.size,0,none⟩ (.string ⟨#[]⟩)).setCell ⟨wr.heap.size,1,none⟩ (.int .i64 sn)).alloc O).heap.size):=λO=>by{simp;omega};have ez:Hid (∀(x y:Vq)(t:TypeId)(i:Nat)(q:Vq),[x,y][i]?=some q->(((w2.setCell ⟨wr.heap.size,0,none⟩ (.string ⟨#[]⟩)).setCell ⟨wr.heap.size,1,none⟩ (.int .i64 sn)).alloc (.cells #[x,y] t)).cell? ((⟨w2.heap.size,0,none⟩:Addr).add i)=some q):=by{intro x y t i q hq;have:=rx ((w2.setCell ⟨wr.heap.size,0,none⟩ (.string ⟨#[]⟩)).setCell ⟨wr.heap.size,1,none⟩ (.int .i64 sn)) x y t i q hq;simpa using this};clear dl cz e8 hZ cj de ff;by_cases kb:bk=41;{subst kb;go_wp2_with (at_builtin;refine wpList_append_own _ rfl (.tmp 49) (.tmp 51) 143 rfl (N+2) 215 i0 (.agg #[.string ⟨#[]⟩,.int .i64 0]) 2 24 Tryz.underlying143 hi bi bu bn rfl (by decide) _ _ _ rfl (HZ.o.z.l _) ⟨w2.heap.size,0,none⟩ 1 1 [.string ⟨#[]⟩,.int .i64 sn] rfl rfl (ez.o _ _ _) a8 bb a9 (az.o _) ?_;intro av w1 ad ab _;obtain⟨g1,g2,g3,g4,g5,g6,g7⟩:=HF.o _ w1 _ _ (HZ.o.alloc _) ab;have HA:=aA ((HZ.o.alloc _).j a7 ab ⟨⟨#[]⟩,sn⟩ ad);obtain⟨ga,ca,a6⟩:=ownsRow_succ ad;subst a6);obtain⟨e1,e2,e3⟩:=b4.o.1 (by trivial);have d4:((w1.setCell ⟨N+1,1,none⟩ (.slice (some ⟨ga,0,none⟩) (ae.length+1) ca)).setCell ⟨N,0,none⟩ (.string rel)).cell? ⟨N,0,none⟩=some (.string rel):=by{simp[World.cell?,Qo HA.o.h 0 (.string rel)]};have ef:(((w1.setCell ⟨N+1,1,none⟩ (.slice (some ⟨ga,0,none⟩) (ae.length+1) ca)).setCell ⟨N,0,none⟩ (.string rel)).setCell ⟨N,1,none⟩ (.slice (some ⟨ga,0,none⟩) (ae.length+1) ca)).cell? ⟨N,1,none⟩=some (.slice (some ⟨ga,0,none⟩) (ae.length+1) ca):=by{simp[World.cell?,Qo (Qo HA.o.h 0 (.string rel)) 1 (.slice (some ⟨ga,0,none⟩) (ae.length+1) ca)]};have hf:=HA.o.d a7 (.string rel) (.slice (some ⟨ga,0,none⟩) (ae.length+1) ca);refine bodyPost_ret (v:=.tuple #[.agg #[.string rel,.slice (some ⟨ga,0,none⟩) (ae.length+1) ca],.int .i64 ((j:Int)+2),v2]) (by simp[results,Tryz.results177,go_sem,d4,ef]) rfl ?_;have ej:(j:Int)+2=((at'+2+M:Nat):Int):=by{have:=cl.o;omega};rw[aq.o.1] at e1;rw[aq.o.2] at e2;rw[ej,<-e1,<-e2];exact⟨_,_,rfl,hf⟩};have mb:(bk == 41)=false:=by{simpa using kb};go_wp2_with (at_builtin;refine wpList_append_own _ rfl (.tmp 49) (.tmp 51) 143 rfl (N+2) 215 i0 (.agg #[.string ⟨#[]⟩,.int .i64 0]) 2 24 Tryz.underlying143 hi bi bu bn rfl (by decide) _ _ _ rfl (HZ.o.z.l _) ⟨w2.heap.size,0,none⟩ 1 1 [.string ⟨#[]⟩,.int .i64 sn] rfl rfl (ez.o _ _ _) a8 bb a9 (az.o _) ?_;intro av w1 ad ab _;obtain⟨g1,g2,g3,g4,g5,g6,g7⟩:=HF.o _ w1 _ _ (HZ.o.alloc _) ab;have HA:=aA ((HZ.o.alloc _).j a7 ab ⟨⟨#[]⟩,sn⟩ ad);obtain⟨ga,ca,a6⟩:=ownsRow_succ ad;subst a6);go_roundw
  case rel=>obtain⟨l2,n2,q1,q2,q3⟩:=b4.o.2 kb;rw[aq.o.1] at q2;rw[aq.o.2] at q1;refine⟨j+2,k+2,v2,_,svs,_,rfl,by go_num,by show _=_;have:=cl.o;omega,HA.o,⟨l2,n2,?_,q2,q3⟩,by simp;omega,by omega⟩;rwa[fa.o]
  simp[intOf];omega
 have m2:(ak == 2)=false:=by simpa using k2
 have aq:Hid (lF ah ⟨ak,am,ap,ar⟩=⟨am,0⟩/\mB ah ⟨ak,am,ap,ar⟩=ah):=by show _/\_;unfold lF mB;simp[k2]
 have a8:∀u∈[Value.string am,.int .i64 0],u.oneCell'=true:=by simp[bI]
 by_cases kb:bk=41
 .subst kb;go_wp2_with (at_builtin;refine wpList_append_own _ rfl (.tmp 49) (.tmp 51) 143 rfl (N+2) 215 i0 (.agg #[.string ⟨#[]⟩,.int .i64 0]) 2 24 Tryz.underlying143 hi bi bu bn rfl (by decide) _ _ _ rfl ((HW.o.z.l _).l _) ⟨wr.heap.size+1,0,none⟩ 1 1 [.string am,.int .i64 0] rfl rfl (em.o _ _ _ _) a8 bb a9 (bf.o _ _) ?_;intro av w1 ad ab _;obtain⟨g1,g2,g3,g4,g5,g6,g7⟩:=HF.o _ w1 _ _ ((HW.o.alloc _).alloc _) ab;have HA:=aA (((HW.o.alloc _).alloc _).j a7 ab ⟨am,0⟩ ad);obtain⟨ga,ca,a6⟩:=ownsRow_succ ad;subst a6);obtain⟨e1,e2,e3⟩:=b4.o.1 (by trivial);have d4:((w1.setCell ⟨N+1,1,none⟩ (.slice (some ⟨ga,0,none⟩) (ae.length+1) ca)).setCell ⟨N,0,none⟩ (.string rel)).cell? ⟨N,0,none⟩=some (.string rel):=by{simp[World.cell?,Qo HA.o.h 0 (.string rel)]};have ef:(((w1.setCell ⟨N+1,1,none⟩ (.slice (some ⟨ga,0,none⟩) (ae.length+1) ca)).setCell ⟨N,0,none⟩ (.string rel)).setCell ⟨N,1,none⟩ (.slice (some ⟨ga,0,none⟩) (ae.length+1) ca)).cell? ⟨N,1,none⟩=some (.slice (some ⟨ga,0,none⟩) (ae.length+1) ca):=by{simp[World.cell?,Qo (Qo HA.o.h 0 (.string rel)) 1 (.slice (some ⟨ga,0,none⟩) (ae.length+1) ca)]};have hf:=HA.o.d a7 (.string rel) (.slice (some ⟨ga,0,none⟩) (ae.length+1) ca);refine bodyPost_ret (v:=.tuple #[.agg #[.string rel,.slice (some ⟨ga,0,none⟩) (ae.length+1) ca],.int .i64 ((j:Int)+2),vk]) (by simp[results,Tryz.results177,go_sem,d4,ef]) rfl ?_;have ej:(j:Int)+2=((at'+2+M:Nat):Int):=by{have:=cl.o;omega};rw[aq.o.1] at e1;rw[aq.o.2] at e2;rw[ej,<-e1,<-e2];exact⟨_,_,rfl,hf⟩
 have mb:(bk == 41)=false:=by simpa using kb
 go_wp2_with (at_builtin;refine wpList_append_own _ rfl (.tmp 49) (.tmp 51) 143 rfl (N+2) 215 i0 (.agg #[.string ⟨#[]⟩,.int .i64 0]) 2 24 Tryz.underlying143 hi bi bu bn rfl (by decide) _ _ _ rfl ((HW.o.z.l _).l _) ⟨wr.heap.size+1,0,none⟩ 1 1 [.string am,.int .i64 0] rfl rfl (em.o _ _ _ _) a8 bb a9 (bf.o _ _) ?_;intro av w1 ad ab _;obtain⟨g1,g2,g3,g4,g5,g6,g7⟩:=HF.o _ w1 _ _ ((HW.o.alloc _).alloc _) ab;have HA:=aA (((HW.o.alloc _).alloc _).j a7 ab ⟨am,0⟩ ad);obtain⟨ga,ca,a6⟩:=ownsRow_succ ad;subst a6);go_roundw
 case rel=>obtain⟨l2,n2,q1,q2,q3⟩:=b4.o.2 kb;rw[aq.o.1] at q2;rw[aq.o.2] at q1;refine⟨j+2,k+2,vk,_,ah,_,rfl,by go_num,by show _=_;have:=cl.o;omega,HA.o,⟨l2,n2,?_,q2,q3⟩,by simp;omega,by omega⟩;rwa[fa.o]
 simp[intOf];omega
def nK:Nat->List ByteArray->List RT->Option (List Am×Nat)
 |0,_,_=>aY
 |f+1,vs,us=>
  match us with
  |[]=>aY
  |t::bq=>
   if t.d=46 then aX ([],0) else
   match bq with
   |r::p::an=>
    match gG vs an with
    |some (l,bh,n)=>
     match nK f bh (an.drop n) with
     |some (bs,m)=>aX (⟨r.f,l⟩::bs,3+n+m)
     |none=>aY
    |none=>aY
   |_=>aY
def nG:Nat->List RT->Option (List Rl)
 |0,_=>aY
 |f+1,us=>
  match us with
  |[]=>aY
  |t::bq=>
   if t.d=4 then aX [] else
   match bq with
   |[]=>aY
   |p::an=>
    match gG [] an with
    |some (l,vs,n)=>
     match nK (aD an) vs (an.drop n) with
     |some (bs,m)=>
      match nG f ((an.drop n).drop (m+1)) with
      |some rs=>aX (⟨⟨t.f,l⟩,bs⟩::rs)
      |none=>aY
     |none=>aY
    |none=>aY
def oD(p:Am×Vq):List Vq:=[aK p.1.j,p.2]
def rR(q:Rl×Vq×Vq):List Vq:=[aK q.1.d.j,q.2.1,q.2.2]
def E6(p:Am×Vq):aD (oD p)=2:=rfl
def CI(q:Rl×Vq×Vq):aD (rR q)=3:=rfl
def gY(W:Wq)(p:Am×Vq):Prop:=aH W 0 215 2 p.2 (aD p.1.d) (p.1.d.flatMap jL)
def vD(W:Wq)(S:Nat)(v:Vq)(l:List Am):Prop:=
 ∃ps:List (Am×Vq),ps.map (·.1)=l/\aH W 0 145 2 v (aD ps) (ps.flatMap oD)/\(∀g,aI v=aX g->g<S)/\∀p∈ps,gY W p
def um(W:Wq)(S:Nat)(q:Rl×Vq×Vq):Prop:=gY W (q.1.d,q.2.1)/\vD W S q.2.2 q.1.n
structure Kp(S:Nat)(X Y:Wq):Prop where
 i:∀(k:Nat) (c:Array Vq),X.heap[k]?=cC c 215->Y.heap[k]?=X.heap[k]?
 e:∀(k:Nat) (c:Array Vq),k<S->X.heap[k]?=cC c 145->Y.heap[k]?=X.heap[k]?
theorem qg{W:Wq}{B T k n:Nat}{v:Vq}{xs:List Vq}(h:aH W B T k v n xs){g:Nat}(z:aI v=aX g):∃c,W.heap[g]?=cC c T:=by
 obtain⟨_,⟨A,O⟩|⟨g',C,E,A,M,G,_⟩⟩:=h
 .rw[A] at z;cases z
 rw[A] at z;cases z;exact⟨E,G⟩
def gY.o{S:Nat}{X Y:Wq}{p:Am×Vq}(h:gY X p)(A:Kp S X Y):gY Y p:=
 qm h (λg z _=>by have⟨c,hc⟩:=qg h z;exact A.i g c hc)
def vD.o{S:Nat}{X Y:Wq}{v:Vq}{l:List Am}(h:vD X S v l)(A:Kp S X Y):vD Y S v l:=by have⟨ps,h1,h2,h3,h4⟩:=h;exact⟨ps,h1,qm h2 (λg z _=>by have⟨c,hc⟩:=qg h2 z;exact A.e g c (h3 g z) hc),h3,λp C=>(h4 p C).o A⟩
def um.o{S:Nat}{X Y:Wq}{q:Rl×Vq×Vq}(h:um X S q)(z:Kp S X Y):um Y S q:=⟨h.1.o z,h.2.o z⟩
def vD.mono{S S':Nat}{X:Wq}{v:Vq}{l:List Am}(h:vD X S v l)(hs:S<=S'):vD X S' v l:=by have⟨ps,h1,h2,h3,h4⟩:=h;exact⟨ps,h1,h2,λg z=>by have:=h3 g z;lia,h4⟩
def um.mono{S S':Nat}{X:Wq}{q:Rl×Vq×Vq}(h:um X S q)(hs:S<=S'):um X S' q:=⟨h.1,h.2.mono hs⟩
def Kp.g{B S:Nat}{X Y:Wq}(h:Qb B X Y):Kp S X Y:=
 ⟨λk c z=>h.h k (zg z).1 (aU λc' A e=>by rw[z] at e;cases e),
  λk c _ z=>h.h k (zg z).1 (aU λc' A e=>by rw[z] at e;cases e)⟩
def Kp.alloc{S:Nat}(X:Wq)(o:Obj):Kp S X (X.alloc o):=
 ⟨λk c z=>bC _ _ _ (zg z).1,λk c _ z=>bC _ _ _ (zg z).1⟩
def Kp.trans{S:Nat}{X Y Z:Wq}(h:Kp S X Y)(k:Kp S Y Z):Kp S X Z:=
 ⟨λi c A=>by have z:=h.i i c A;rw[k.i i c (z.t A),z],λi c C A=>by have z:=h.e i c C A;rw[k.e i c C (z.t A),z]⟩
def Kp.a{S B n:Nat}{X Y:Wq}{v:Vq}{xs:List Vq}(C:aH X B 145 2 v n xs)(E:S<=B)(A:X.grownBy Y (aI v)):Kp S X Y:=by
 refine⟨λk c z=>A.b k (zg z).1 (λe=>?_),λk c G z=>A.b k (zg z).1 (λe=>?_)⟩
 .grind [qg]
 have:=(Qr C k e.s).1;lia
def Kp.f{S B n:Nat}{X Y:Wq}{v:Vq}{xs:List Vq}(E:aH X B 148 3 v n xs)(A:X.grownBy Y (aI v)):Kp S X Y:=by
 refine⟨λk c z=>A.b k (zg z).1 (λe=>?_),λk c C z=>A.b k (zg z).1 (λe=>?_)⟩
 .grind [qg]
 grind [qg]
def Kp.h{S:Nat}{X:Wq}{b:Nat}{c:Array Vq}(A:X.heap[b]?=cC c 148)(o:Nat)(u:Vq):Kp S X (X.setCell (Ad b o) u):=by
 refine⟨λk c' z=>bB _ _ _ _ (λe=>?_),λk c' _ z=>bB _ _ _ _ (λe=>?_)⟩
 .grind
 grind
structure oE(N S:Nat)(w X:Wq)(vl:Vq)(qs:List (Rl×Vq×Vq))(hd:Am)(va vb:Vq)(ps:List (Am×Vq))(v:Vq)(vs:List ByteArray):Prop where
 k:N<=S
 f:cJ N w X
 b:aH X N 148 3 vl (aD qs) (qs.flatMap rR)
 l:∀g,aI vl=aX g->g<S
 z:∀q∈qs,um X S q
 h:X.heap[S+1]?=cC #[St hd.j,va,vb] 148
 d:gY X (hd,va)
 a:aH X (S+2) 145 2 vb (aD ps) (ps.flatMap oD)
 i:∀p∈ps,gY X p
 c:aH X N 9 1 v (aD vs) (vs.map aK)
variable {N S:Nat} {w X Y:Wq} {vl:Vq} {qs:List (Rl×Vq×Vq)} {hd:Am} {va vb b6:Vq} {ps:List (Am×Vq)} {v v':Vq} {vs bh:List ByteArray}
def oE.alloc(h:oE N S w X vl qs hd va vb ps v vs)(o:Obj):oE N S w (X.alloc o) vl qs hd va vb ps v vs:=by
 have hs:N<=X.heap.size:=by have:=(zg h.h).1;have:=h.k;lia
 exact⟨h.k,h.f.l hs o,h.b.l o,h.l,λq A=>(h.z q A).o (Kp.alloc X o),(bC _ _ _ (zg h.h).1).t h.h,h.d.o (Kp.alloc (S:=S) X o),h.a.l o,λp z=>(h.i p z).o (Kp.alloc (S:=S) X o),h.c.l o⟩
def BH{B:Nat}{X Y:Wq}(h:Qb B X Y)(A:B<=X.heap.size):cJ B X Y:=⟨h.os,h.tape,h.output,h.size,λk z=>h.h k (by lia) (aS z)⟩
def oE.e(h:oE N S w X vl qs hd va vb ps v vs)(hs:Qb N X Y)(G:aH Y N 9 1 v' (aD bh) (bh.map aK)):oE N S w Y vl qs hd va vb ps v' bh:=by
 have z:Kp S X Y:=Kp.g hs;have A:N<=X.heap.size:=by have:=(zg h.h).1;have:=h.k;lia
 exact⟨h.k,h.f.t (BH hs A),hs.z (by lia) h.b,h.l,λq E=>(h.z q E).o z,(hs.h _ (zg h.h).1 (aU λc M e=>by rw[h.h] at e;cases e)).t h.h,h.d.o z,hs.z (by lia) h.a,λp C=>(h.i p C).o z,G⟩
def oE.j(h:oE N S w X vl qs hd va vb ps v vs)(hw:w.heap.size=N)(p:Am×Vq)(hp:gY X p)(C:X.grownBy Y (aI vb))(M:aH Y (S+2) 145 2 b6 (aD ps+1) (ps.flatMap oD++oD p)):oE N S w (Y.setCell (Ad (S+1) 2) b6) vl qs hd va b6 (ps++[p]) v vs:=by
 have hN:N<=X.heap.size:=by have:=(zg h.h).1;have:=h.k;lia
 have gi:=h.k;have G:=λk e=>(Qr h.a k e).1;have k1:Kp S X Y:=Kp.a h.a (by lia) C;have O:=(C.b _ (zg h.h).1 (λe=>by have:=G _ e.s;lia)).t h.h;have k2:Kp S Y (Y.setCell (Ad (S+1) 2) b6):=Kp.h O 2 b6;have E:=k1.trans k2;refine⟨h.k,(h.f.grown C hN (λk e=>by have:=G k e;lia)).c (by simp;lia) _,?_,h.l,λq z=>(h.z q z).o E,Qo O 2 b6,h.d.o E,?_,?_,?_⟩
 .refine qm h.b (λg A ai=>?_);have h1:=h.l g A;rw[bB _ _ _ _ (by simp;lia)];exact C.b g ai (λe=>by have:=G g e.s;lia)
 .have h2:aH Y (S+2) 145 2 b6 (aD (ps++[p])) ((ps++[p]).flatMap oD):=by{simpa using M};exact qm h2 (λg A _=>bB _ _ _ _ (λe=>by have:=(Qr M g A).1;simp at e;lia))
 .intro q z;obtain z|z:=cD.1 z;{exact (h.i q z).o E};simp at z;subst z;exact hp.o E
 refine qm h.c (λg A ai=>?_);rw[bB _ _ _ _ (λe=>?_)];{refine C.b g ai (λe=>?_);have⟨c,hc⟩:=qg h.c A;have⟨c',ey⟩:=qg h.a e.s;rw[hc] at ey;cases ey};{simp at e;subst e;have⟨c,hc⟩:=qg h.c A;rw[h.h] at hc;cases hc}
structure uW(N:Nat)(w X:Wq)(vl:Vq)(qs:List (Rl×Vq×Vq)):Prop where
 f:cJ N w X
 size:N<=X.heap.size
 b:aH X N 148 3 vl (aD qs) (qs.flatMap rR)
 z:∀q∈qs,um X X.heap.size q
def oE.n(h:oE N S w X vl qs hd va vb ps v vs){G:Vq}{o:Obj}(E:(X.alloc o).grownBy Y (aI vl))(ho:aH Y N 148 3 G (aD qs+1) (qs.flatMap rR++[St hd.j,va,vb])):uW N w Y G (qs++[(⟨hd,ps.map (·.1)⟩,va,vb)]):=by
 have hx:=(zg h.h).1;have gi:=h.k;have M:=h.alloc o;have O:=E.size;have k1:Kp X.heap.size X (X.alloc o):=Kp.alloc X o;have k2:Kp X.heap.size (X.alloc o) Y:=Kp.f M.b E;have A:=k1.trans k2;simp at O;refine⟨M.f.grown E (by simp;lia) (λk e=>(Qr h.b k e).1),by lia,by simpa [rR] using ho,λq z=>?_⟩;obtain z|z:=cD.1 z
 .exact (((h.z q z).mono (by lia:S<=X.heap.size)).o A).mono (by lia)
 simp at z;subst z;refine⟨h.d.o A,⟨ps,rfl,?_,?_,λp hp=>(h.i p hp).o A⟩⟩;{refine qm (qz h.a zz) (λg C _=>?_);have⟨c,hc⟩:=qg h.a C;exact A.e g c (zg hc).1 hc};{intro g C;have:=(Qr h.a g C).2.1;lia}
theorem wN:∀(us:List RT) (vs:List ByteArray) (l:List Tm) (ay:List ByteArray) (n:Nat),gG vs us=aX (l,ay,n)->aD ay<=aD vs+n/\n<=aD us/\2<=n/\aD l<=n
 |[],vs,l,ay,n,h=>by simp[gG] at h
 |[a],vs,l,ay,n,h=>by simp[gG] at h
 |a::b::us,vs,l,ay,n,h=>by
  have z:=yl vs a;unfold gG at h;split at h;{grind}
  .cases hr:gG (mB vs a) us with
   |none=>rw[hr] at h;simp at h
   |some r=>have⟨l',v',n'⟩:=r;rw[hr] at h;simp only[Option.some.injEq,Prod.mk.injEq] at h;obtain⟨rfl,rfl,rfl⟩:=h;have:=wN us _ _ _ _ hr;simp;lia
def r9.f{B:Nat}{a b:Wq}{g:Nat}{ts:List RT}(h:r9 a g ts)(z:cJ B a b)(A:g<B):r9 b g ts:=
 ⟨h.1.f z A,by have⟨c,hc⟩:=h.2;exact⟨c,(z.b g A).t hc⟩⟩
theorem Bf{f:Nat}{us:List RT}{rs:List Rl}(h:nG f us=aX rs):∃t A,us=t::A/\((t.d=4/\rs=[])\/(t.d≠4/\∃p z l vs n C m f' E,A=p::z/\gG [] z=aX (l,vs,n)/\nK (aD z) vs (z.drop n)=aX (C,m)/\nG f' ((z.drop n).drop (m+1))=aX E/\rs=⟨⟨t.f,l⟩,C⟩::E)):=by
 cases f with
 |zero=>simp[nG] at h
 |succ f=>
  unfold nG at h;match us,h with
  |[],h=>simp at h
  |t::A,h=>grind
theorem zQ{f:Nat}{vs:List ByteArray}{us:List RT}{C:List Am}{m:Nat}(h:nK f vs us=aX (C,m)):∃t A,us=t::A/\((t.d=46/\C=[]/\m=0)\/(t.d≠46/\∃r p z l bh n f' E G,A=r::p::z/\gG vs z=aX (l,bh,n)/\nK f' bh (z.drop n)=aX (E,G)/\C=⟨r.f,l⟩::E/\m=3+n+G)):=by
 cases f with
 |zero=>simp[nK] at h
 |succ f=>
  unfold nK at h;match us,h with
  |[],h=>simp at h
  |t::A,h=>grind
def wT{α:Type}{ts:List α}{j:Nat}{a:α}{us:List α}(h:ts.drop j=a::us):∃z:j<aD ts,ts[j]=a/\ts.drop (j+1)=us:=by grind [aD,bJ,cA,bD]
def Tryz.g:(Tryz.prog.info? 145).map (λi=>(i.zero,i.size,i.bytes))=aX (aX (aL #[St ⟨#[]⟩,aJ aY 0 0]),2,40):=by kernel_rfl
def Tryz.s:(Tryz.prog.info? 148).map (λi=>(i.zero,i.size,i.bytes))=aX (aX (aL #[St ⟨#[]⟩,aJ aY 0 0,aJ aY 0 0]),3,64):=by kernel_rfl
theorem Lt(w:Wq)(x y z:Vq)(t:cP):∀j u,[x,y,z][j]?=aX u->aE (w.alloc (aP #[x,y,z] t)) ((⟨w.heap.size,0,aY⟩:cS).add j)=aX u:=by
 intro j u A;match j,A with
 |0,A=>simp at A;subst A;simp[Addr.add]
 |1,A=>simp at A;subst A;simp[Addr.add]
 |2,A=>simp at A;subst A;simp[Addr.add]
 |j+3,A=>simp at A
def uW.e{N:Nat}{w X W1:Wq}{vl:Vq}{qs:List (Rl×Vq×Vq)}(h:uW N w X vl qs)(hs:Qb N X W1){hd:Am}{va C:Vq}{vs:List ByteArray}(E:aH W1 X.heap.size 215 2 va (aD hd.d) (hd.d.flatMap jL))(hv:aH W1 N 9 1 C (aD vs) (vs.map aK))(a:Array Vq):oE N W1.heap.size w ((W1.alloc (aP a 145)).alloc (aP #[St hd.j,va,aJ aY 0 0] 148)) vl qs hd va (aJ aY 0 0) [] C vs:=by
 have c8:=hs.size;have M:=h.size;have O:=h.f.t (BH hs M);have k1:Kp W1.heap.size X W1:=Kp.g hs;have A:Kp W1.heap.size W1 ((W1.alloc (aP a 145)).alloc (aP #[St hd.j,va,aJ aY 0 0] 148)):=(Kp.alloc _ _).trans (Kp.alloc _ _);have z:=hs.z (by lia) h.b;refine⟨by lia,(O.l (by lia) _).l (by simp;lia) _,(z.l _).l _,λg hg=>by have:=(Qr z g hg).2.1;lia,λq hq=>(((h.z q hq).mono (by lia)).o k1).o A,?_,?_,zo,(λp hp=>by cases hp),(hv.l _).l _⟩
 .have:=zn (W1.alloc (aP a 145)) (aP #[St hd.j,va,aJ aY 0 0] 148);rwa[bO] at this
 have G:gY W1 (hd,va):=qz E zz;exact G.o A
theorem JD(g A:Nat)(ts:List RT)(f:Nat)(rs:List Rl)(w:Wq)(be:r9 w g ts)(hl:aD ts<=400)(f5:nG f ts=aX rs):Cs 109 #[aJ (aX ⟨g,0,aY⟩) (aD ts) A] w λe w'=>∃v qs,e=aQ v/\uW w.heap.size w w' v qs/\qs.map (·.1)=rs:=by
 obtain⟨i0,hi,bi,bu,bn⟩:=cO Tryz.g;obtain⟨j0,hj,fs,gm,fl⟩:=cO Tryz.s;obtain⟨N,hN⟩:=aB w.heap.size;have a7:=hN.s;have c7:g<N:=hN▸be.1.1
 rw[<-hN];have cc:=aA be;clear hN be;go_enter Tryz.func109,Tryz.ntmps109;go_wp2;go_loopw [3,4] (λp q wr=>∃(i f':Nat)(vl:Vq)(qs:List (Rl×Vq×Vq))(rest:List Rl),vl=p/\q=aO aR i/\uW N w wr vl qs/\Hid (nG f' (ts.drop i)=aX rest/\qs.map (·.1)++rest=rs)/\aD qs<=i) (λ_ q _=>aD ts-(intOf q).toNat)
 case atStart=>exact⟨0,f,_,[],rs,rfl,rfl,⟨zr,by omega,zo,λq hq=>by cases hq⟩,⟨f5,rfl⟩,bH _⟩
 obtain⟨i,f',vl,qs,rest,rfl,rfl,hO,ag,ip⟩:=hrel;obtain⟨dw,dh⟩:=ag.o;obtain⟨t,bq,cd,hc⟩:=Bf dw;obtain⟨Qk6,fh,Qim⟩:=wT cd;have E:=cc.o.f hO.f c7;have k0:=(E.1.2 i Qk6).1;rw[fh] at k0;obtain⟨hk,rfl⟩|⟨hk,p,an,l,vs,n,bs,m,f2,dk,rfl,ha,dy,b9,rfl⟩:=hc
 .rw[hk] at k0;have HO:=aA hO;have HR:Hid _:=dh;clear dw dh hO ag Qim;go_wp2;go_ret;exact⟨vl,qs,rfl,HO.o,by have:=HR.o;simpa using this⟩
 have mk:(t.d == 4)=false:=by simpa using hk
 have mk':(t.d != 4)=true:=by simpa using hk
 obtain⟨gv,_,Qmc⟩:=wT Qim;have b8:=wN _ _ _ _ _ ha;have dc:ts.drop (i+2)=an:=Qmc;have dd:gG [] (ts.drop (i+2))=aX (l,vs,n):=dc▸ha
 have aq:=AO g A ts i N (aJ aY 0 0) [] l vs n wr E hl Qk6 hO.size (by simp) zo dd;rw[fh] at aq;have HO:=aA hO;have HR:Hid _:=dh;have ik:aD an<=400:=by rw[<-dc,bJ];omega
 have c9:an.drop n=ts.drop (i+2+n):=by rw[<-dc,bU]
 rw[c9] at dy b9;rw[bU] at b9;have fp:Hid _:=dy;have fq:Hid _:=b9;have em:i+2+n<=aD ts:=by have:=congrArg aD dc;rw[bJ] at this;omega
 clear dw dh hO ag Qim Qmc dy b9 ha dd dc c9 E cd;generalize t.d=tk at *;generalize t.f=tx at *;go_wp2_with fail;refine aq.m ?_;rintro e W1 ⟨va,v1,rfl,a6,ew,fe⟩;have ec:oE N W1.heap.size w ((W1.alloc (aP #[aK tx,va] 145)).alloc (aP #[aK tx,va,aJ aY 0 0] 148)) vl qs ⟨tx,l⟩ va (aJ aY 0 0) [] v1 vs:=HO.o.e (hd:=⟨tx,l⟩) fe a6 ew _;obtain⟨S,hS⟩:=aB W1.heap.size;have il:=hS.s;rw[<-hS] at ec;obtain⟨aa,ac,rfl⟩:=qd a6;have G:Hid _:=ec;clear ec hS aq a6 ew fe HO;go_wp2;go_loopw [6,7] (λp q wr=>∃(j fb m':Nat)(vk vb:Vq)(C:List ByteArray)(ps:List (Am×Vq))(rb:List Am),vk=q/\p=aO aR j/\oE N S w wr vl qs ⟨tx,l⟩ (aJ aa (aD l) ac) vb ps vk C/\Hid (nK fb C (ts.drop j)=aX (rb,m')/\ps.map (·.1)++rb=bs/\j+m'=i+2+n+m)/\aD ps<=j/\aD C<=j/\i+2<=j) (λp _ _=>aD ts-(intOf p).toNat)
 case atStart=>exact⟨i+2+n,aD an,m,v1,_,vs,[],bs,rfl,by go_num,G.o,⟨fp.o,rfl,rfl⟩,by simp,by have:=b8.1;simp at this;omega,by omega⟩
 obtain⟨j,fb,m',vk,vb,C,ps,rb,rfl,rfl,hI,ag,ib,ig,gy⟩:=hrel;obtain⟨b1,b2,b3⟩:=ag.o;obtain⟨t2,ie,cd,hc⟩:=zQ b1;obtain⟨Qlb,fy,M⟩:=wT cd;have E:=cc.o.f hI.f c7;have kj:=(E.1.2 j Qlb).1;rw[fy] at kj;obtain⟨dn,rfl,rfl⟩|⟨dn,r,p,d9,z,ct,n2,f1,fi,m2,rfl,el,cg,rfl,rfl⟩:=hc
 .rw[dn] at kj;have io:S+2<=wr.heap.size:=(zg hI.h).1;have x0:aE wr (Ad (S+1) 0)=aX (aK tx):=by{simp[aE,hI.h]};have x1:aE wr (Ad (S+1) 1)=aX (aJ aa (aD l) ac):=by{simp[aE,hI.h]};have x2:aE wr (Ad (S+1) 2)=aX vb:=by{simp[aE,hI.h]};obtain⟨ba,bc,rfl⟩:=qd hI.a;have HI:=aA hI;have bb:aD qs+1<=maxLen:=by{unfold cR;omega};have a9:(aD qs+1)*64<=140737488355328:=by{omega};have bf:Hid (∀O,N<=(wr.alloc O).heap.size):=λO=>by{have:=hI.k;simp;omega};have a8:∀u∈[aK tx,aJ aa (aD l) ac,aJ ba (aD ps) bc],u.oneCell'=true:=by{simp[bI]};have d5:Hid _:=b2;clear hI b1 b2 ag cd M E G;go_wp2_with (at_builtin;refine cI _ rfl (.tmp 50) (.tmp 52) 139 rfl N 148 j0 (aL #[aK ⟨#[]⟩,aJ aY 0 0,aJ aY 0 0]) 3 64 Tryz.underlying139 hj fs gm fl rfl (by decide) _ _ _ rfl (HI.o.b.l _) ⟨wr.heap.size,0,aY⟩ 1 1 [aK tx,aJ aa (aD l) ac,aJ ba (aD ps) bc] rfl rfl (Lt _ _ _ _ _) a8 bb a9 (bf.o _) ?_;intro dp w1 ad ab _);have hD:=HI.o.n ab ad;clear ad ab;go_roundw
  case rel=>refine⟨j+1,f2,dp,_,dk,rfl,by go_num,hD,⟨?_,?_⟩,by simp;omega⟩;{rw[<-fq.o];congr 2;omega};rw[<-HR.o,<-d5.o];simp
  simp[intOf];omega
 have ic:(t2.d == 46)=false:=by simpa using dn
 have fk:(t2.d != 46)=true:=by simpa using dn
 obtain⟨da,ge,Qmd⟩:=wT M;obtain⟨ir,_,Qme⟩:=wT Qmd;have Qnr:=wN _ _ _ _ _ el;have di:ts.drop (j+1+2)=d9:=Qme;have dd:gG C (ts.drop (j+1+2))=aX (z,ct,n2):=di▸el
 have eh:N<=wr.heap.size:=by have:=(zg hI.h).1;have:=hI.k;omega
 have d2:Cs 177 #[aJ (aX ⟨g,0,aY⟩) (aD ts) A,aO aR ((j:Int)+1),vk] wr λe w'=>∃va v',e=aQ (aN #[aL #[aK ts[j+1].f,va],aO aR (j+1+2+n2:Nat),v'])/\aH w' wr.heap.size 215 2 va (aD z) (z.flatMap jL)/\aH w' N 9 1 v' (aD ct) (ct.map aK)/\Qb N wr w':=AO g A ts (j+1) N vk C z ct n2 wr E hl da eh (by omega) hI.c dd;rw[ge] at d2;have iq:aD d9+(j+3)=aD ts:=by have:=congrArg aD di;rw[bJ] at this;omega
 have c9:d9.drop n2=ts.drop (j+1+2+n2):=by rw[<-di,bU]
 rw[c9] at cg;have f4:Hid _:=cg;have d5:Hid _:=b2;have HI:=aA hI;have bb:aD ps+1<=maxLen:=by unfold cR;omega
 have a9:(aD ps+1)*40<=140737488355328:=by omega
 clear hI b1 b2 ag cd M Qmd Qme E G dd di c9 el cg;generalize t2.d=tk2 at *;generalize r.f=tx2 at *;go_wp2_with fail;refine d2.m ?_;rintro e w2 ⟨fv,v2,rfl,ci,de,et⟩;have hJ:=HI.o.e et de;have df:gY w2 (⟨tx2,z⟩,fv):=qz ci zz;obtain⟨a2,c2,rfl⟩:=qd ci;have x2:aE w2 (Ad (S+1) 2)=aX vb:=by simp[aE,hJ.h]
 have ia:S+2<=w2.heap.size:=(zg hJ.h).1;have xq:=λO=>(bG ((bL w2.heap.size w2).l zl O) (by simp;omega)).t x2;have HJ:=aA hJ;have f8:=aA df;have bf:Hid (∀O O',S+2<=((w2.alloc O).alloc O').heap.size):=λO O'=>by simp;omega
 have a8:∀u∈[aK tx2,aJ a2 (aD z) c2],u.oneCell'=true:=by simp[bI]
 have Qot:Hid (∀(O:Obj)(x y:Vq)(t:cP)(i:Nat)(q:Vq),[x,y][i]?=aX q->aE ((w2.alloc O).alloc (aP #[x,y] t)) ((⟨w2.heap.size+1,0,aY⟩:cS).add i)=aX q):=by intro O x y t i q hq;have:=rx (w2.alloc O) x y t i q hq;rwa[bO] at this
 have f9:Hid (∀(O O':Obj)(w1:Wq),((w2.alloc O).alloc O').grownBy w1 (aI vb)->aE w1 (Ad (S+1) 2)=aX vb/\(∀o,aF w1 (Ad (S+1) o)=false)):=by intro O O' w1 hg;have h2:=(HJ.o.alloc O).alloc O';have h1:w1.heap[S+1]?=_:=(hg.b (S+1) (zg h2.h).1 (λe=>by have:=(Qr h2.a _ e.s).1;omega)).t h2.h;exact⟨zc h1,λo=>by simp[aF,h1]⟩
 clear hJ df ci de et d2;go_wp2_with (at_builtin;refine cI _ rfl (.tmp 43) (.tmp 45) 146 rfl (S+2) 145 i0 (aL #[aK ⟨#[]⟩,aJ aY 0 0]) 2 40 cT hi bi bu bn rfl (by decide) _ _ _ rfl ((HJ.o.a.l _).l _) ⟨w2.heap.size+1,0,aY⟩ 1 1 [aK tx2,aJ a2 (aD z) c2] rfl rfl (Qot.o _ _ _ _) a8 bb a9 (bf.o _ _) ?_;intro b6 w1 ad ab _;obtain⟨xc,xf⟩:=f9.o _ _ w1 ab;have HA:=aA (((HJ.o.alloc _).alloc _).j a7 _ (((f8.o.o (Kp.alloc (S:=S) _ _))).o (Kp.alloc (S:=S) _ _)) ab ad);obtain⟨gb,cb,ee⟩:=cM ad;subst ee);go_roundw
 case rel=>refine⟨j+1+2+n2,f1,m2,v2,_,ct,_,fi,rfl,by go_num,HA.o,⟨f4.o,?_,by omega⟩,by simp;omega,by have:=Qnr.1;omega,by omega⟩;rw[<-d5.o];simp
 simp[intOf];omega
def Kp.d{S:Nat}{X Y:Wq}(h:cJ X.heap.size X Y):Kp S X Y:=
 ⟨λk c z=>h.b k (zg z).1,λk c _ z=>h.b k (zg z).1⟩
structure kW(W:Wq)(v:Vq)(ps:List (Am×Vq)):Prop where
 h:aH W 0 145 2 v (aD ps) (ps.flatMap oD)
 z:∀p∈ps,gY W p
structure Q5(W:Wq)(v:Vq)(qs:List (Rl×Vq×Vq)):Prop where
 h:aH W 0 148 3 v (aD qs) (qs.flatMap rR)
 z:∀q∈qs,gY W (q.1.d,q.2.1)/\∃ps,ps.map (·.1)=q.1.n/\kW W q.2.2 ps
def kW.f{W W':Wq}{v:Vq}{ps:List (Am×Vq)}(h:kW W v ps)(z:cJ W.heap.size W W'):kW W' v ps:=
 ⟨qh h.h z,λp A=>(h.z p A).o (Kp.d (S:=0) z)⟩
def Q5.f{W W':Wq}{v:Vq}{qs:List (Rl×Vq×Vq)}(h:Q5 W v qs)(z:cJ W.heap.size W W'):Q5 W' v qs:=
 ⟨qh h.h z,λq A=>by
  have⟨h1,ps,h2,h3⟩:=h.z q A
  exact⟨h1.o (Kp.d (S:=0) z),ps,h2,h3.f z⟩⟩
def uW.u{N:Nat}{w X:Wq}{vl:Vq}{qs:List (Rl×Vq×Vq)}(h:uW N w X vl qs):Q5 X vl qs:=
 ⟨qz h.b zz,λq z=>by
  have⟨h1,ps,h2,h3,h4,h5⟩:=h.z q z
  exact⟨h1,ps,h2,h3,h5⟩⟩
def pT(q:Rl×Vq×Vq):Vq:=aL #[aK q.1.d.j,q.2.1,q.2.2]
def AC(q:Rl×Vq×Vq)(ps:List (Am×Vq))(w:Wq)(C:gY w (q.1.d,q.2.1))(z:kW w q.2.2 ps)(hl:aD ps<=1000):Cs 178 #[pT q] w λe w'=>∃v,e=aQ v/\kW w' v ((q.1.d,q.2.1)::ps)/\cJ w.heap.size w w':=by
 have⟨i0,hi,bi,bu,bn⟩:=cO Tryz.g;have⟨⟨hd,bd⟩,va,vb⟩:=q;have⟨rel,args⟩:=hd;simp only at C z;unfold pT;simp only;have⟨aa,ac,a6⟩:=qd C;simp only at a6;subst a6;have eb:Hid (aH ((w.alloc (aP #[St rel,aJ aa (aD args) ac,vb] 148)).alloc (aP #[St rel,aJ aa (aD args) ac] 145)) w.heap.size 145 2 (Sc (w.heap.size+1) 1 1) 1 [St rel,aJ aa (aD args) ac]):=by refine⟨rfl,aU ⟨w.heap.size+1,1,#[St rel,aJ aa (aD args) ac],rfl,by omega,?_,bH _,by unfold cR;decide,rfl,rfl⟩⟩;have:=zn (w.alloc (aP #[St rel,aJ aa (aD args) ac,vb] 148)) (aP #[St rel,aJ aa (aD args) ac] 145);rwa[bO] at this
 have A:Hid (cJ w.heap.size w ((w.alloc (aP #[St rel,aJ aa (aD args) ac,vb] 148)).alloc (aP #[St rel,aJ aa (aD args) ac] 145))):=((bL _ w).l zl _).l (by simp) _;have HH:=aA C;have HP:=aA z;have G:=z.h;clear C z;have es:=G
 have ee:vb=aJ aY 0 0/\ps=[]\/∃g c,vb=Sc g (aD ps) c/\g<w.heap.size/\∀j u,(ps.flatMap oD)[j]?=aX u->aE w ((⟨g,0,aY⟩:cS).add j)=aX u:=by
  obtain⟨h0,⟨E,hn⟩|⟨g,M,dj,E,hb,hw,h1,h2,h3,h4⟩⟩:=G;{exact aS ⟨E,List.eq_nil_of_length_eq_zero hn⟩};{refine aU ⟨g,M,E,(zg hw).1,?_⟩;have:=aH.cells es (g:=g) (by rw[E];rfl);exact this}
 obtain⟨rfl,rfl⟩|⟨g,c,rfl,hg,dt⟩:=ee
 .go_enter Tryz.func178,Tryz.ntmps178;go_wp2;go_ret;refine⟨_,rfl,⟨qz (by simpa [oD] using eb.o) zz,λp z=>?_⟩,A.o⟩;simp at z;subst z;exact HH.o.o (Kp.d (S:=0) A.o)
 .have gl:Hid (∀j u,(ps.flatMap oD)[j]?=aX u->aE ((w.alloc (aP #[St rel,aJ aa (aD args) ac,Sc g (aD ps) c] 148)).alloc (aP #[St rel,aJ aa (aD args) ac] 145)) ((⟨g,0,aY⟩:cS).add j)=aX u):=by
   intro j u hu;have d6:((⟨g,0,aY⟩:cS).add j).block=g:=by{simp[Addr.add];split<;>rfl};exact (bG A.o (by rw[d6];exact hg)).t (dt j u hu)
  have a8:∀u∈ps.flatMap oD,u.oneCell'=true:=by
   intro u hu;have⟨p,z,fg⟩:=List.mem_flatMap.1 hu;have⟨a',c',hf⟩:=qd (HP.o.z p z);simp only[oD,cE,List.not_mem_nil,or_false] at fg;obtain rfl|rfl:=fg
   .rfl
   .rw[hf];rfl
  have bb:1+aD ps<=maxLen:=by{unfold cR;omega};have a9:(1+aD ps)*40<=140737488355328:=by{omega};have bf:Hid (∀O O',w.heap.size<=((w.alloc O).alloc O').heap.size):=λO O'=>by{simp;omega};have dv:=CA oD 2 E6 ps;clear dt G es;go_enter Tryz.func178,Tryz.ntmps178
  go_wp2_with (at_builtin;refine cI _ rfl (.tmp 7) (.tmp 9) 146 rfl w.heap.size 145 i0 (aL #[St ⟨#[]⟩,aJ aY 0 0]) 2 40 cT hi bi bu bn rfl (by decide) _ _ _ rfl eb.o ⟨g,0,aY⟩ (aD ps) c (ps.flatMap oD) rfl dv gl.o a8 bb a9 (bf.o _ _) ?_;intro v' w1 ad ab _)
  have d7:=A.o.grown ab (bf.o _ _) (λk hk=>by have:=(Qr eb.o k hk).1;omega);go_ret;refine⟨_,rfl,⟨?_,λp z=>?_⟩,d7⟩
  .have e:aD ((⟨rel,args⟩,aJ aa (aD args) ac)::ps)=1+aD ps:=by{simp;omega};rw[e];refine qz (B:=w.heap.size) ?_ zz;simpa [oD] using ad
  .obtain rfl|z:=cE.1 z
   .exact HH.o.o (Kp.d (S:=0) d7)
   .exact (HP.o.z p z).o (Kp.d (S:=0) d7)
def kW.d{W:Wq}{v:Vq}{ps:List (Am×Vq)}(h:kW W v ps)(k:Nat)(A:k<aD ps):∃g z,v=Sc g (aD ps) z/\g<W.heap.size/\aE W (Ad g (k*2))=aX (St ps[k].1.j)/\aE W (Ad g (k*2+1))=aX ps[k].2/\(∃a c,ps[k].2=aJ a (aD ps[k].1.d) c)/\gY W ps[k]:=by have⟨g,z,e1,e2,e3,e4,e5⟩:=lH h.h E6 (by lia);have C:=h.z ps[k] (zm A);exact⟨g,z,e1,e3,e5 k 0 A _ (by lia) rfl,e5 k 1 A _ (by lia) rfl,qd C,C⟩
def Q5.d{W:Wq}{v:Vq}{qs:List (Rl×Vq×Vq)}(h:Q5 W v qs)(k:Nat)(A:k<aD qs):∃g z,v=Sc g (aD qs) z/\g<W.heap.size/\aE W (Ad g (k*3))=aX (St qs[k].1.d.j)/\aE W (Ad g (k*3+1))=aX qs[k].2.1/\aE W (Ad g (k*3+2))=aX qs[k].2.2/\
   gY W (qs[k].1.d,qs[k].2.1)/\∃ps,ps.map (·.1)=qs[k].1.n/\kW W qs[k].2.2 ps:=by have⟨g,z,e1,e2,e3,e4,e5⟩:=lH h.h CI (by lia);have C:=h.z qs[k] (zm A);exact⟨g,z,e1,e3,e5 k 0 A _ (by lia) rfl,e5 k 1 A _ (by lia) rfl,e5 k 2 A _ (by lia) rfl,C⟩
def gY.d{W:Wq}{p:Am×Vq}(h:gY W p)(j:Nat)(A:j<aD p.1.d):∃g z,p.2=Sc g (aD p.1.d) z/\g<W.heap.size/\aE W (Ad g (j*2))=aX (St p.1.d[j].c)/\aE W (Ad g (j*2+1))=aX (Ii p.1.d[j].d):=by have⟨g,z,e1,e2,e3,e4,e5⟩:=lH h II (by lia);exact⟨g,z,e1,e3,e5 j 0 A _ (by lia) rfl,e5 j 1 A _ (by lia) rfl⟩
def gX:List Am->ByteArray->Nat
 |[],_=>0
 |a::l,rel=>if fQ rel a.j=true then aD a.d else gX l rel
def Q9(qs:List (Rl×Vq×Vq)):List Am:=qs.flatMap (λq=>Qa q.1)
def xL(v:Vq)(qs:List (Rl×Vq×Vq))(rel:ByteArray)(w:Wq)(hR:Q5 w v qs)(hl:aD qs<=1000)(hb:∀q∈qs,aD q.1.n<=900):Cs 117 #[v,St rel] w λe w'=>e=aQ (Ii (gX (Q9 qs) rel))/\cJ w.heap.size w w':=by
 obtain⟨N,hN⟩:=aB w.heap.size;have a7:=hN.s;have⟨va,vc,hv⟩:=qd hR.h;rw[<-hN];have HR:=aA hR;subst hv;clear hR hN;go_enter Tryz.func117,Tryz.ntmps117;go_wp2;go_loopw [5] (λp wr=>∃i:Nat,p=aO aR i/\i<=aD qs/\cJ N w wr/\Hid (gX (Q9 (qs.drop i)) rel=gX (Q9 qs) rel)) (λp _=>aD qs-(intOf p).toNat)
 case atStart=>exact⟨0,rfl,zz,zr,rfl⟩
 obtain⟨i,rfl,dq,E,A⟩:=hrel;by_cases ai:i<aD qs
 .have e0:=HR.o.f (a7▸E);have⟨g,cap,e1,hg,c0,c1,c2,hA,ps,cw,d8⟩:=e0.d i ai;cases e1;have eh:N<=wr.heap.size:=by{have:=E.s;omega};have g8:=hb qs[i] (zm ai);have bj:aD ps<=900:=by{have:=congrArg aD cw;simp at this;omega};have C:=AC qs[i] ps wr hA d8 (by omega);have G:=bD ai;have ep:Q9 (qs.drop i)=(qs[i].1.d::ps.map (·.1))++Q9 (qs.drop (i+1)):=by{rw[G];unfold Q9 Qa;rw[List.flatMap_cons,cw]};rw[ep] at A;clear ep G cw e0;unfold pT at C;have⟨a1,a2,cr⟩:=qd hA;simp only at cr;have⟨b1,b2,db⟩:=qd d8.h;rw[cr] at c1 C;rw[db] at c2 C;generalize qs[i]=q at *;generalize q.1.d.j=hrl at *;generalize hq:((q.1.d,aJ a1 (aD q.1.d.d) a2)::ps)=qp at *;have M:Hid (gX (qp.map (·.1)++Q9 (qs.drop (i+1))) rel=gX (Q9 qs) rel):=hq▸A.o;have Ql1:aD qp<=901:=by{rw[<-hq];simp;omega};have ea:=aA E;clear E A hq hA d8 cr db;go_wp2_with fail;refine C.m ?_;rintro e W1 ⟨vp,rfl,O,cx⟩;have e6:=ea.o.t (cx.m eh);have⟨pa,pc,ft⟩:=qd O.h;subst ft;have gc:=aA O;have fc:=aA e6;clear O cx e6 C;go_wp2;go_loopw [7] (λp wr=>∃k:Nat,p=aO aR k/\k<=aD qp/\wr=W1/\Hid (gX ((qp.drop k).map (·.1)++Q9 (qs.drop (i+1))) rel=gX (Q9 qs) rel)) (λp _=>aD qp-(intOf p).toNat)
  case atStart=>exact⟨0,rfl,zz,rfl,M⟩
  obtain⟨k,rfl,fo,fj,z⟩:=hrel;obtain rfl:W1=wr:=fj.s;by_cases cy:k<aD qp
  .have⟨g2,ek,e2,ei,d0,d1,⟨x1,x2,hx⟩,_⟩:=gc.o.d k cy;cases e2;rw[hx] at d1;have G:=bD cy;rw[G] at z;generalize qp[k]=pk at *;simp only[cF,List.cons_append,gX] at z;by_cases hs:fQ rel pk.1.j=true;{rw[if_pos hs] at z;unfold fQ at hs;generalize pk.1.j=pr at *;go_wp2;go_ret;rw[<-z.o];exact⟨rfl,fc.o⟩};have cn:fQ rel pk.1.j=false:=by{simpa using hs};rw[if_neg hs] at z;unfold fQ at cn;generalize pk.1.j=pr at *;clear hs;go_wp2;go_roundw
   case rel=>exact⟨k+1,by go_num,by omega,by trivial,z⟩
   simp[intOf];omega
  rw[bE (by omega)] at z;simp only[List.map_nil,List.nil_append] at z;go_wp2;go_roundw
  case rel=>exact⟨i+1,by go_num,by omega,fc.o,z⟩
  simp[intOf];omega
 rw[bE (by omega)] at A;go_wp2;go_ret;rw[<-A.o];exact⟨rfl,E⟩
def Gq(B:Nat)(v:Vq)(vs:List ByteArray)(x:ByteArray)(w:Wq)(hB:B<=w.heap.size)(hl:aD vs<=1000000)(qt:aH w B 9 1 v (aD vs) (vs.map aK)):Cs 119 #[v,St x] w λe w'=>∃v',e=aQ v'/\aH w' B 9 1 v' (aD (Qs vs x)) ((Qs vs x).map aK)/\w.grownBy w' (aI v):=by
 have⟨i0,hi,bi,bu,bn⟩:=cO Tryz.a;have⟨a,c,hv⟩:=qd qt;have al:∀(j:Nat)(z:j<aD vs),∃g,a=aX ⟨g,0,aY⟩/\aE w (Ad g j)=aX (St vs[j]):=by grind [zv,lH,yX]
 subst hv;have HO:=aA qt;have HC:=aA al;clear qt al;go_enter Tryz.func119,Tryz.ntmps119;go_wp2;go_loopw [5] (λp wr=>∃i:Nat,p=aO aR i/\i<=aD vs/\wr=w/\Hid (∀(j:Nat)(z:j<aD vs),j<i->fQ x vs[j]=false)) (λp _=>aD vs-(intOf p).toNat)
 case atStart=>exact⟨0,rfl,zz,rfl,λj z h=>by omega⟩
 obtain⟨i,rfl,dq,rfl,G⟩:=hrel;by_cases ai:i<aD vs
 .obtain⟨g,rfl,Qi⟩:=HC.o i ai;obtain⟨y,M⟩:=aC (vs[i]);rw[M] at Qi;have HY:=aA M;clear M;by_cases hs:fQ x y=true;{have C:=zi vs x i ai (HY.o▸hs) G.o;have HN:=aA C;clear C;unfold fQ at hs;go_wp2;go_ret;have A:Qs vs x=vs:=by{unfold Qs;rw[if_pos (HN.o▸ai)]};rw[A];exact⟨_,rfl,HO.o,bT.refl _ _⟩};have cn:fQ x y=false:=by{simpa using hs};have E:Hid (∀(j:Nat)(z:j<aD vs),j<i+1->fQ x vs[j]=false):=by{intro j z fw;by_cases e:j=i;{subst e;rwa[HY.o]};{exact G.o j z (by omega)}};unfold fQ at cn;clear hs;go_wp2;go_roundw
  case rel=>exact⟨i+1,by go_num,by omega,by trivial,E⟩
  simp[intOf];omega
 have C:=A5 vs x (λj z=>G.o j z (by omega));have A:Qs vs x=vs++[x]:=by{unfold Qs;rw[if_neg (by omega)]};have HL:=aA A;have bb:aD vs+1<=maxLen:=by{unfold cR;omega};have a9:(aD vs+1)*16<=140737488355328:=by{omega};have bf:Hid (∀O,B<=(wr.alloc O).heap.size):=λO=>by{simp;omega};have a8:∀u∈[aK x],u.oneCell'=true:=by{simp[bI]};clear C A;go_wp2_with (at_builtin;refine cI _ rfl (.tmp 19) (.tmp 21) 22 rfl B 9 i0 (St ⟨#[]⟩) 1 16 Tryz.underlying22 hi bi bu bn rfl (by decide) _ _ _ rfl (HO.o.l _) ⟨wr.heap.size,0,aY⟩ 1 1 [St x] rfl rfl (nV _ _ _) a8 bb a9 (bf.o _) ?_;intro v' w1 ad ab _);go_ret;rw[HL.o];refine⟨_,rfl,?_,?_⟩;{simpa using ad};{exact⟨ab.os,ab.tape,ab.output,by have:=ab.size;simp at this;omega,λk hk hn=>(ab.b k (by simp;omega) hn).t (bC _ _ _ hk)⟩}
def mW(n:Nat)(t:Tm):Bool:=t.c.toList.isEmpty && decide (t.d=n)
def Qf(bd:List Am)(n:Nat):Bool:=bd.any (λa=>a.d.any (mW n))
def Nw(q:Rl×Vq×Vq)(ps:List (Am×Vq))(n:Nat)(w:Wq)(M:kW w q.2.2 ps)(hA:gY w (q.1.d,q.2.1))(cw:ps.map (·.1)=q.1.n)(hl:aD ps<=1000)(hn:n<=1000000)(hm:∀p∈ps,aD p.1.d<=1000000/\∀t∈p.1.d,t.d<=1000000):Cs 179 #[pT q,Ii n] w λe w'=>e=aQ (aM (Qf q.1.n n))/\cJ w.heap.size w w':=by
 rw[<-cw];unfold pT;have⟨a1,a2,cr⟩:=qd hA;simp only at cr;have⟨b1,b2,db⟩:=qd M.h;rw[cr];rw[db] at M ⊢;clear cw cr db;generalize q.1.d.j=hrl at *;generalize (aD q.1.d.d)=b8 at *;have HP:=aA λO=>M.f ((bL _ w).l zl O);have e9:=aA λO=>(bL _ w).l zl O;clear M hA;go_enter Tryz.func179,Tryz.ntmps179;go_wp2;go_loopw [5] (λp wr=>∃i:Nat,p=aO aR i/\i<=aD ps/\wr=w.alloc (aP #[aK hrl,aJ a1 b8 a2,aJ b1 (aD ps) b2] 148)/\Hid (Qf ((ps.drop i).map (·.1)) n=Qf (ps.map (·.1)) n)) (λp _=>aD ps-(intOf p).toNat)
 case atStart=>exact⟨0,rfl,zz,rfl,rfl⟩
 obtain⟨i,rfl,dq,rfl,A⟩:=hrel;by_cases ai:i<aD ps
 .have⟨g,cap,e1,hg,c0,c1,⟨x1,x2,hx⟩,df⟩:=(HP.o (aP #[St hrl,aJ a1 b8 a2,aJ b1 (aD ps) b2] 148)).d i ai;cases e1;rw[bD ai] at A;have fx:=hm ps[i] (zm ai);rw[hx] at c1;generalize ps[i]=p at *;simp only[cF,Qf,cG] at A;have dt:Hid (∀(j:Nat)(hj:j<aD p.1.d),∃C,x1=aX ⟨C,0,aY⟩/\aE (w.alloc (aP #[St hrl,aJ a1 b8 a2,Sc g (aD ps) b2] 148)) (Ad C (j*2))=aX (St p.1.d[j].c)/\aE (w.alloc (aP #[St hrl,aJ a1 b8 a2,Sc g (aD ps) b2] 148)) (Ad C (j*2+1))=aX (Ii p.1.d[j].d)):=by{intro j hj;have⟨C,ek,e2,_,d0,d1⟩:=df.d j hj;rw[hx] at e2;cases e2;exact⟨C,rfl,d0,d1⟩};have cf:=aA A;have⟨im,fr⟩:=fx;clear A df hx c0;generalize p.1.d=args at *;go_wp2;go_loopw [6] (λp wr=>∃k:Nat,p=aO aR k/\k<=aD args/\wr=w.alloc (aP #[aK hrl,aJ a1 b8 a2,aJ (aX ⟨g,0,aY⟩) (aD ps) b2] 148)/\Hid (((args.drop k).any (mW n) || Qf ((ps.drop (i+1)).map (·.1)) n)=Qf (ps.map (·.1)) n)) (λp _=>aD args-(intOf p).toNat)
  case atStart=>exact⟨0,rfl,zz,rfl,cf⟩
  obtain⟨k,rfl,fo,rfl,z⟩:=hrel;by_cases cy:k<aD args
  .obtain⟨C,rfl,d0,d1⟩:=dt.o k cy;have gh:=fr args[k] (zm cy);rw[bD cy] at z;generalize args[k]=tm at *;have⟨nm,E⟩:=tm;simp only[cG] at z d0 d1 gh;by_cases h1:nm.toList.isEmpty=true
   .by_cases h2:E=n;{subst h2;have G:mW E ⟨nm,E⟩=true:=by{unfold mW;simp[h1]};rw[G] at z;go_wp2;go_ret;rw[<-z.o];exact⟨by simp,e9.o _⟩};have G:mW n ⟨nm,E⟩=false:=by{unfold mW;simp[h2]};rw[G] at z;have m2:((E:Int) == (n:Int))=false:=by{simp;omega};go_wp2;go_roundw
    case rel=>exact⟨k+1,by go_num,by omega,by trivial,z⟩
    simp[intOf];omega
   have gk:nm.toList.isEmpty=false:=by{simpa using h1};have G:mW n ⟨nm,E⟩=false:=by{unfold mW;simp[gk]};rw[G] at z;clear h1;go_wp2;go_roundw
   case rel=>exact⟨k+1,by go_num,by omega,by trivial,z⟩
   simp[intOf];omega
  rw[bE (by omega)] at z;simp only[List.any_nil,Bool.false_or] at z;go_wp2;go_roundw
  case rel=>exact⟨i+1,by go_num,by omega,by trivial,z⟩
  simp[intOf];omega
 rw[bE (by omega)] at A;go_wp2;go_ret;rw[<-A.o];exact⟨rfl,e9.o _⟩
