/- A part -/
import Derived.Test.YtjajnhemgphefaaGreatDoorKRefD
import Derived.Lib.ItoaNum
set_option linter.all false
set_option maxRecDepth 100000
set_option maxHeartbeats 8000000
namespace Go.Proofs.YtjajnhemgphefaaGreatDoor
open Go renaming World->Wq,Value->Vq
open Go.RowKit Go.Shelf
structure Lk where
 want:Int
 body:Bool
 alone:Bool
 rules:Nat
 atoms:Nat
 args:Nat
 e:Int
def lkC(l:Lk):Array Vq:=#[Ii l.want,.bool l.body,.bool l.alone,Ii l.rules,Ii l.atoms,Ii l.args,Ii l.e]
def rtV(t:RT):Vq:=.agg #[Ii t.kind,St t.text,Ii t.place,Ii t.runes]
def Q1(l:Lk):Lk:=
 if l.want=0 then {l with rules:=l.rules+1,body:=false} else if l.want=1 then {l with atoms:=l.atoms+1} else {l with args:=l.args+1}
def Q4(l:Lk):Bool:=if l.want=0 then decide (8 < l.rules+1) else if l.want=1 then decide (3 < l.atoms+1) else decide (2 < l.args+1)
def Qq(l:Lk)(t:RT):Lk:=
 if t.kind≠1/\(t.kind≠2\/l.want≠3) then {Q1 l with e:=2}
 else if Q4 l=true\/8 < t.runes then {Q1 l with e:=3}
 else if l.want=3 then {Q1 l with want:=4} else {Q1 l with want:=2}
def qaa(l:Lk)(t:RT):Lk:=
 if l.want=2/\t.kind=40 then {l with args:=0,want:=3}
 else if l.want=4/\t.kind=44 then {l with want:=3}
 else if l.want=4/\t.kind=41 then {l with want:=if l.alone=true then 6 else 5}
 else if l.want=5/\t.kind=46 then {l with want:=0}
 else if l.want=5/\t.kind=44/\l.body=true then {l with want:=1}
 else if l.want=5/\t.kind=3/\l.body=false then {l with body:=true,atoms:=0,want:=1}
 else {l with e:=2}
theorem qqe{a b:Wq}{k:Nat}(h:a.grownBy b (some k))(o:Obj):a.grownBy (b.alloc o) (some k):=
 ⟨h.os,h.tape,h.output,by have:=h.size;simp;omega,λi hi hn=>(Below.heap_alloc b o i (Nat.lt_of_lt_of_le hi h.size)).trans (h.block i hi hn)⟩
theorem qv8{a b:Wq}{k:Nat}(h:a.grownBy b (some k))(o:Nat)(v:Vq):a.grownBy (b.setCell (Ad k o) v) (some k):=
 ⟨h.os,h.tape,h.output,by have:=h.size;simpa using this,λi hi hn=>(Below.heap_setCell b _ v i (λe=>hn (by simp at e;rw[e]))).trans (h.block i hi hn)⟩
theorem Qc{w:Wq}{b:Nat}{c:Array Vq}{t:TypeId}(h:w.heap[b]?=cC c t)(o:Nat)(v:Vq):(w.setCell (Ad b o) v).heap[b]?=cC (c.setIfInBounds o v) t:=by
 simp[World.setCell,Array.getElem?_modify,h]
theorem qyw(bp:Nat)(l:Lk)(t:RT)(w:Wq)(hw:l.want=0\/l.want=1\/l.want=3)(h1:l.rules<=1000000)(h2:l.atoms<=1000000)(h3:l.args<=1000000)(hh:w.heap[bp]?=cC (lkC l) 298) :
  Cs 175 #[.pointer (some ⟨bp,0,none⟩),rtV t] w λe w'=>e=.returned (.tuple #[])/\w'.heap[bp]?=cC (lkC (Qq l t)) 298/\w.grownBy w' (some bp):=by
 have bb:bp < w.heap.size:=(zg hh).1;have al:bp≠w.heap.size:=by omega
 obtain⟨want,body,alone,rules,atoms,args,e⟩:=l;obtain⟨kind,text,place,runes⟩:=t;unfold lkC at hh;unfold rtV;simp only at hw h1 h2 h3 hh ⊢;have c0:w.cell? (Ad bp 0)=some (Ii want):=zc hh
 have c1:w.cell? (Ad bp 1)=some (.bool body):=zc hh
 have c3:w.cell? (Ad bp 3)=some (Ii rules):=zc hh
 have c4:w.cell? (Ad bp 4)=some (Ii atoms):=zc hh
 have c5:w.cell? (Ad bp 5)=some (Ii args):=zc hh
 have c6:w.cell? (Ad bp 6)=some (Ii e):=zc hh
 have f0:∀o,w.frozen? (Ad bp o)=false:=λo=>by simp[World.frozen?,hh]
 rcases hw with rfl | rfl | rfl
 all_goals
  go_enter Tryz.func175,Tryz.ntmps175;go_wp2
  all_goals
   first | go_end0 | refine bodyPost_ret (results_none rfl _ _ _) rfl ?_
   refine⟨rfl,?_,by repeat (first | exact World.grownBy.refl _ _ | apply qqe | apply qv8)⟩;rw[Below.heap_alloc _ _ _ (by simpa using bb)];generalize hS:Qq _ _=S;unfold Qq Q1 Q4 at hS;simp at hS
   (repeat' split at hS) <;> first | (exfalso;omega) | (exfalso;simp_all;done) | (subst hS;simp[World.setCell,Array.getElem?_modify,hh,lkC];done) | (exfalso;simp_all;omega)
theorem q1q(bp:Nat)(l:Lk)(t:RT)(w:Wq)(hw:l.want=2\/l.want=4\/l.want=5\/l.want=6)(hh:w.heap[bp]?=cC (lkC l) 298) :
  Cs 176 #[.pointer (some ⟨bp,0,none⟩),rtV t] w λe w'=>e=.returned (.tuple #[])/\w'.heap[bp]?=cC (lkC (qaa l t)) 298/\w.grownBy w' (some bp):=by
 have bb:bp < w.heap.size:=(zg hh).1;have al:bp≠w.heap.size:=by omega
 obtain⟨want,body,alone,rules,atoms,args,e⟩:=l;obtain⟨kind,text,place,runes⟩:=t;unfold lkC at hh;unfold rtV;simp only at hw hh ⊢;have c0:w.cell? (Ad bp 0)=some (Ii want):=zc hh
 have c1:w.cell? (Ad bp 1)=some (.bool body):=zc hh
 have c2:w.cell? (Ad bp 2)=some (.bool alone):=zc hh
 have c4:w.cell? (Ad bp 4)=some (Ii atoms):=zc hh
 have c5:w.cell? (Ad bp 5)=some (Ii args):=zc hh
 have c6:w.cell? (Ad bp 6)=some (Ii e):=zc hh
 have f0:∀o,w.frozen? (Ad bp o)=false:=λo=>by simp[World.frozen?,hh]
 rcases hw with rfl | rfl | rfl | rfl
 all_goals
  cases body <;> cases alone
  all_goals
   go_enter Tryz.func176,Tryz.ntmps176;go_wp2
   all_goals
    first | go_end0 | refine bodyPost_ret (results_none rfl _ _ _) rfl ?_
    refine⟨rfl,?_,by repeat (first | exact World.grownBy.refl _ _ | apply qqe | apply qv8)⟩;rw[Below.heap_alloc _ _ _ (by simpa using bb)];generalize hS:qaa _ _=S;unfold qaa at hS;simp at hS
    (repeat' split at hS) <;> first | (exfalso;omega) | (exfalso;simp_all;done) | (subst hS;simp[World.setCell,Array.getElem?_modify,hh,lkC];done)
def qas(l:Lk)(t:RT):Bool:=decide (t.kind=4/\(l.want=6\/(l.want=0/\l.alone=false)))
def qw(l:Lk)(t:RT):Lk:=if l.want=0\/l.want=1\/l.want=3 then Qq l t else qaa l t
def Qw:Lk->List RT->Int×Nat
 | _,[]=>(0,0)
 | l,t::ts=>if qas l t=true then (0,0) else if (qw l t).e≠0 then ((qw l t).e,t.place) else Qw (qw l t) ts
structure q62(l:Lk)(i:Nat):Prop where
 lo:0<=l.want
 hi:l.want<=6
 r:l.rules<=i
 a:l.atoms<=i
 g:l.args<=i
theorem q6b{l:Lk}{i:Nat}(h:q62 l i)(t:RT):q62 (qw l t) (i+1)/\(qw l t).alone=l.alone:=by
 obtain⟨h1,h2,h3,h4,h5⟩:=h;unfold qw Qq qaa Q1
 repeat' split
 all_goals
  refine⟨⟨?_,?_,?_,?_,?_⟩,?_⟩ <;> simp only <;> first | rfl | omega | (split <;> omega)
def qe7(W:Wq)(g:Nat)(ts:List RT):Prop:=g < W.heap.size/\∀(j:Nat) (hj:j < ts.length),
 W.cell? (Ad g (j*4))=some (Ii ts[j].kind)/\W.cell? (Ad g (j*4+1))=some (St ts[j].text)/\W.cell? (Ad g (j*4+2))=some (Ii ts[j].place)/\W.cell? (Ad g (j*4+3))=some (Ii ts[j].runes)
theorem qe7.below{W W':Wq}{g B:Nat}{ts:List RT}(h:qe7 W g ts)(hb:Below B W W')(hg:g < B):qe7 W' g ts:=
 ⟨Nat.lt_of_lt_of_le h.1 hb.size,λj hj=>by
  obtain⟨a,b,c,d⟩:=h.2 j hj
  exact⟨(Below.cell hb hg).trans a,(Below.cell hb hg).trans b,(Below.cell hb hg).trans c,(Below.cell hb hg).trans d⟩⟩
theorem qv9{w wr w':Wq}{N T:Nat}{a b c d:Vq}(hg:(wr.alloc (.cells #[a,b,c,d] T)).grownBy w' (some N))(hN:N < wr.heap.size)(hb:Below N w wr):w'.cell? (Ad wr.heap.size 2)=some c/\Below N w w':=by
 refine⟨?_,(hb.alloc (by omega) _).grown hg (by simp;omega) (λk hk=>by cases hk;exact Nat.le_refl _)⟩
 have h1:w'.heap[wr.heap.size]?=cC #[a,b,c,d] T:=by
  rw[hg.block wr.heap.size (by simp) (λe=>by cases e;omega),World.alloc_heap_new]
 simp[World.cell?,h1]
theorem qwa(g cap:Nat)(ts:List RT)(alone:Bool)(w:Wq)(a8:qe7 w g ts)(hl:ts.length<=1000) :
  Cs 108 #[.slice (some ⟨g,0,none⟩) ts.length cap,.bool alone] w λe w'=>e=.returned (.tuple #[Ii (Qw ⟨0,false,alone,0,0,0,0⟩ ts).1,Ii (Qw ⟨0,false,alone,0,0,0,0⟩ ts).2])/\Below w.heap.size w w':=by
 obtain⟨N,hN⟩:∃N,N=w.heap.size:=⟨_,rfl⟩;have cc:=hN.symm;have cb:g < N:=by rw[hN];exact a8.1
 rw[<- hN];clear hN;have b5:Hid (qe7 w g ts):=a8;clear a8;go_enter Tryz.func108,Tryz.ntmps108;go_wp2
 go_loopw [7] (λa wr=>∃(i:Nat) (l:Lk),a=.int .i64 i/\i<=ts.length/\l.e=0/\l.alone=alone/\q62 l i/\Hid (Qw l (ts.drop i)=Qw ⟨0,false,alone,0,0,0,0⟩ ts)/\wr.heap[N]?=some (Obj.cells (lkC l) 298)/\Below N w wr) (λa _=>ts.length - (intOf a).toNat)
 case atStart=>
  refine⟨0,⟨0,false,alone,0,0,0,0⟩,rfl,zz,rfl,rfl,⟨by simp,by simp,Nat.le_refl _,Nat.le_refl _,Nat.le_refl _⟩,rfl,?_,zr.alloc (by omega) _⟩;rw[<- cc];exact zn w _
 case round=>
  obtain⟨i,l,rfl,b3,he,cg,ak,ax,hh,av⟩:=hrel;by_cases aj:i < ts.length
  .obtain⟨t0,t1,t2,t3⟩:=(b5.out.below av cb).2 i aj;have bf:=List.drop_eq_getElem_cons aj;rw[bf] at ax;generalize ts[i]=t at *;have bj:=q6b ak t;have a7:N < wr.heap.size:=(zg hh).1;have cl:N≠wr.heap.size:=by omega
   have bi:l.want=0\/l.want=1\/l.want=3->Cs 175 #[.pointer (some ⟨N,0,none⟩),rtV t] (wr.alloc (.cells #[Ii t.kind,St t.text,Ii t.place,Ii t.runes] 244)) λe w'=>e=.returned (.tuple #[])/\w'.heap[N]?=cC (lkC (qw l t)) 298/\w'.cell? (Ad wr.heap.size 2)=some (Ii t.place)/\Below N w w':=by
    intro hw;refine (qyw N l t _ hw (by have:=ak.r;omega) (by have:=ak.a;omega) (by have:=ak.g;omega) ((Below.heap_alloc _ _ _ a7).trans hh)).mono ?_;rintro e w' ⟨rfl,h1,h2⟩;have hs:qw l t=Qq l t:=by unfold qw;rw[if_pos hw]
    rw[hs];exact⟨rfl,h1,qv9 h2 a7 av⟩
   have be:¬(l.want=0\/l.want=1\/l.want=3)->Cs 176 #[.pointer (some ⟨N,0,none⟩),rtV t] (wr.alloc (.cells #[Ii t.kind,St t.text,Ii t.place,Ii t.runes] 244)) λe w'=>e=.returned (.tuple #[])/\w'.heap[N]?=cC (lkC (qw l t)) 298/\w'.cell? (Ad wr.heap.size 2)=some (Ii t.place)/\Below N w w':=by
    intro hw;have h6:=ak.hi;have h7:=ak.lo;refine (q1q N l t _ (by omega) ((Below.heap_alloc _ _ _ a7).trans hh)).mono ?_;rintro e w' ⟨rfl,h1,h2⟩;have hs:qw l t=qaa l t:=by unfold qw;rw[if_neg hw]
    rw[hs];exact⟨rfl,h1,qv9 h2 a7 av⟩
   have c0:wr.cell? (Ad N 0)=some (Ii l.want):=by simp[World.cell?,hh,lkC]
   have ca:Hid (Below N w wr):=av;have az:Hid (Qw l (t::ts.drop (i+1))=Qw ⟨0,false,alone,0,0,0,0⟩ ts):=ax;have aw:Hid (q62 (qw l t) (i+1)/\(qw l t).alone=l.alone):=bj;have cm:=ak.lo;have ci:=ak.hi;obtain⟨kind,text,place,runes⟩:=t;obtain⟨want,body,aa,rules,atoms,args,e⟩:=l;simp only at *;subst cg he;by_cases af:qas ⟨want,body,aa,rules,atoms,args,0⟩ ⟨kind,text,place,runes⟩=true
   .have Qf2:Hid (Qw ⟨0,false,aa,0,0,0,0⟩ ts=(0,0)):=by
     show _=_;rw[<- az.out];unfold Qw;rw[if_pos af]
    unfold qas at af;simp only[decide_eq_true_eq] at af;clear bi be aw az ax bj ak bf hh av;obtain⟨rfl,rfl | ⟨rfl,rfl⟩⟩:=af
    all_goals
     go_wp2;go_ret2;rw[Qf2.out];exact⟨rfl,ca.out.alloc (by omega) _⟩
   .have al:Hid (Qw ⟨0,false,aa,0,0,0,0⟩ ts=if (qw ⟨want,body,aa,rules,atoms,args,0⟩ ⟨kind,text,place,runes⟩).e≠0 then ((qw ⟨want,body,aa,rules,atoms,args,0⟩ ⟨kind,text,place,runes⟩).e,place) else Qw (qw ⟨want,body,aa,rules,atoms,args,0⟩ ⟨kind,text,place,runes⟩) (ts.drop (i+1))):=by
     show _=_;rw[<- az.out];conv=>lhs;unfold Qw
     rw[if_neg af]
    unfold qas at af;simp only[decide_eq_true_eq] at af;generalize qw ⟨want,body,aa,rules,atoms,args,0⟩ ⟨kind,text,place,runes⟩=l' at *
    have ag:Hid (∀w':Wq,w'.heap[N]?=cC (lkC l') 298->w'.cell? (Ad N 6)=some (Ii l'.e)):=by
     intro w' h;simp[World.cell?,h,lkC]
    have au:Hid _:=bi;have ao:Hid _:=be;clear bi be az ax bj ak bf hh av;unfold rtV at au ao;have a6:want=0\/want=1\/want=2\/want=3\/want=4\/want=5\/want=6:=by omega
    by_cases hz:l'.e=0
    .have aq:Hid (Qw l' (ts.drop (i+1))=Qw ⟨0,false,aa,0,0,0,0⟩ ts):=by
      show _=_;rw[al.out,if_neg (by simp[hz])]
     rw[hz] at ag;have bk:Hid (l'.e=0):=hz;clear hz al;by_cases k4:kind=4
     .subst k4;rcases a6 with rfl | rfl | rfl | rfl | rfl | rfl | rfl
      .cases aa
       .simp at af
       .clear af
        go_wp2_with (first | (go_at_call 175;refine (au.out (by simp)).mono ?_;rintro e w' ⟨rfl,ab,ah,ae⟩;have c6:=ag.out w' ab) | (go_at_call 176;refine (ao.out (by simp)).mono ?_;rintro e w' ⟨rfl,ab,ah,ae⟩;have c6:=ag.out w' ab))
        go_roundw
        case rel=>exact⟨i+1,l',by go_num,by omega,bk.out,aw.out.2,aw.out.1,aq,ab,ae⟩
        case measure=>simp[intOf];omega
      all_goals first | (exfalso;simp at af;done) | skip
      all_goals
       clear af
       go_wp2_with (first | (go_at_call 175;refine (au.out (by simp)).mono ?_;rintro e w' ⟨rfl,ab,ah,ae⟩;have c6:=ag.out w' ab) | (go_at_call 176;refine (ao.out (by simp)).mono ?_;rintro e w' ⟨rfl,ab,ah,ae⟩;have c6:=ag.out w' ab))
       go_roundw
       case rel=>exact⟨i+1,l',by go_num,by omega,bk.out,aw.out.2,aw.out.1,aq,ab,ae⟩
       case measure=>simp[intOf];omega
     .have m4:(kind == 4)=false:=by simpa using k4
      clear af k4;rcases a6 with rfl | rfl | rfl | rfl | rfl | rfl | rfl
      all_goals
       go_wp2_with (first | (go_at_call 175;refine (au.out (by simp)).mono ?_;rintro e w' ⟨rfl,ab,ah,ae⟩;have c6:=ag.out w' ab) | (go_at_call 176;refine (ao.out (by simp)).mono ?_;rintro e w' ⟨rfl,ab,ah,ae⟩;have c6:=ag.out w' ab))
       go_roundw
       case rel=>exact⟨i+1,l',by go_num,by omega,bk.out,aw.out.2,aw.out.1,aq,ab,ae⟩
       case measure=>simp[intOf];omega
    .have aq:Hid (Qw ⟨0,false,aa,0,0,0,0⟩ ts=(l'.e,place)):=by
      show _=_;rw[al.out,if_pos hz]
     generalize l'.e=le at *;have mz:(le == 0)=false:=by simpa using hz
     have ck:(le != 0)=true:=by simpa using hz
     clear al;by_cases k4:kind=4
     .subst k4;rcases a6 with rfl | rfl | rfl | rfl | rfl | rfl | rfl
      .cases aa
       .simp at af
       .clear af
        go_wp2_with (first | (go_at_call 175;refine (au.out (by simp)).mono ?_;rintro e w' ⟨rfl,ab,ah,ae⟩;have c6:=ag.out w' ab) | (go_at_call 176;refine (ao.out (by simp)).mono ?_;rintro e w' ⟨rfl,ab,ah,ae⟩;have c6:=ag.out w' ab))
        go_quiet (fail);go_wp2;go_ret2;rw[aq.out];exact⟨rfl,qu ae⟩
      all_goals first | (exfalso;simp at af;done) | skip
      all_goals
       clear af
       go_wp2_with (first | (go_at_call 175;refine (au.out (by simp)).mono ?_;rintro e w' ⟨rfl,ab,ah,ae⟩;have c6:=ag.out w' ab) | (go_at_call 176;refine (ao.out (by simp)).mono ?_;rintro e w' ⟨rfl,ab,ah,ae⟩;have c6:=ag.out w' ab))
       go_quiet (fail);go_wp2;go_ret2;rw[aq.out];exact⟨rfl,qu ae⟩
     .have m4:(kind == 4)=false:=by simpa using k4
      clear af k4;rcases a6 with rfl | rfl | rfl | rfl | rfl | rfl | rfl
      all_goals
       go_wp2_with (first | (go_at_call 175;refine (au.out (by simp)).mono ?_;rintro e w' ⟨rfl,ab,ah,ae⟩;have c6:=ag.out w' ab) | (go_at_call 176;refine (ao.out (by simp)).mono ?_;rintro e w' ⟨rfl,ab,ah,ae⟩;have c6:=ag.out w' ab))
       go_quiet (fail);go_wp2;go_ret2;rw[aq.out];exact⟨rfl,qu ae⟩
  .rw[List.drop_eq_nil_of_le (by omega)] at ax;go_wp2;go_ret2;rw[<- ax.out];exact⟨rfl,av⟩
def Q5(x y:By):Bool:=y.toList == x.toList
def Qx(vs:List By)(x:By):Nat:=vs.findIdx (Q5 x)
def Qh(vs:List By)(x:By):List By:=if Qx vs x < vs.length then vs else vs++[x]
structure Tm where
 name:By
 num:Nat
structure Am where
 rel:By
 args:List Tm
structure Rl where
 head:Am
 body:List Am
def tmC(t:Tm):List Vq:=[St t.name,Ii t.num]
theorem q8t(t:Tm):(tmC t).length=2:=rfl
def qx(r:Rl):List Am:=r.head::r.body
def qaw(vs:List By)(t:Tm):List By:=if t.name.toList.isEmpty=true then vs else Qh vs t.name
def nmL(vs:List By)(l:List Tm):List By:=l.foldl qaw vs
def Qp(l:List Am):List Tm:=l.flatMap (·.args)
structure qz(B:Nat)(w w':Wq):Prop where
 os:w'.os=w.os
 tape:w'.tape=w.tape
 output:w'.output=w.output
 size:w.heap.size<=w'.heap.size
 block:∀k,k < w.heap.size->(k < B\/∀c fz,w.heap[k]?≠some (Obj.cells c 9 fz))->w'.heap[k]?=w.heap[k]?
theorem qz.refl(B:Nat)(w:Wq):qz B w w:=⟨rfl,rfl,rfl,Nat.le_refl _,λ_ _ _=>rfl⟩
theorem qz.trans{B:Nat}{a b c:Wq}(h:qz B a b)(k:qz B b c):qz B a c:=
 ⟨k.os.trans h.os,k.tape.trans h.tape,k.output.trans h.output,Nat.le_trans h.size k.size,λi hi hx=>by
  have h1:=h.block i hi hx
  rw[k.block i (Nat.lt_of_lt_of_le hi h.size) (by rw[h1];exact hx),h1]⟩
theorem qz.alloc{B:Nat}{a b:Wq}(h:qz B a b)(o:Obj):qz B a (b.alloc o):=
 ⟨h.os,h.tape,h.output,by have:=h.size;simp;omega,λi hi hx=>(Below.heap_alloc b o i (Nat.lt_of_lt_of_le hi h.size)).trans (h.block i hi hx)⟩
theorem qz.setCell{B:Nat}{a b:Wq}(h:qz B a b){p:Addr}(hp:a.heap.size<=p.block)(v:Vq):qz B a (b.setCell p v):=
 ⟨h.os,h.tape,h.output,by have:=h.size;simpa using this,λi hi hx=>(Below.heap_setCell b p v i (by omega)).trans (h.block i hi hx)⟩
theorem qz.grown{B:Nat}{a b c:Wq}{row:Option Nat}(h:qz B a b)(hg:b.grownBy c row)(hr:∀k,row=some k->a.heap.size<=k\/(B<=k/\∃d fz,b.heap[k]?=some (Obj.cells d 9 fz))):qz B a c:=
 ⟨hg.os.trans h.os,hg.tape.trans h.tape,hg.output.trans h.output,Nat.le_trans h.size hg.size,λi hi hx=>by
  have h1:=h.block i hi hx;rw[hg.block i (Nat.lt_of_lt_of_le hi h.size) (λe=>?_),h1];rcases hr i e.symm with h2 | ⟨h2,d,fz,h3⟩
  .omega
  .rcases hx with hx | hx
   .omega
   .rw[h1] at h3;exact hx d fz h3⟩
theorem Qe{W:Wq}{B k n:Nat}{T:TypeId}{v:Vq}{xs:List Vq}(h:W.ownsRow B T k v n xs):∀g,v.ownBlock=some g->B<=g/\g < W.heap.size/\∃d fz,W.heap[g]?=some (Obj.cells d T fz):=by
 intro g hg;obtain⟨_,⟨hv,hn⟩ | ⟨g',cap,b4,hv,hb,hh,h1,h2,h3,h4⟩⟩:=h
 .rw[hv] at hg;cases hg
 .rw[hv] at hg;cases hg;exact⟨hb,(zg hh).1,b4,_,hh⟩
theorem qz.own{B B' k n:Nat}{T:TypeId}{a b:Wq}{v:Vq}{xs:List Vq}(h:qz B a b)(hT:T≠9)(ho:a.ownsRow B' T k v n xs):b.ownsRow B' T k v n xs:=by
 refine qm ho (λg hg aj=>h.block g aj (.inr λc fz e=>?_));obtain⟨_,_,d,bo,h3⟩:=Qe ho g hg;rw[e] at h3;cases h3;exact hT rfl
def Qfq(n:Nat):By:=⟨(Lib.decDigits n).toArray⟩
theorem qj2(vs:List By)(x:By)(i:Nat)(hi:i < vs.length)(h:Q5 x vs[i]=true)(hn:∀(j:Nat) (hj:j < vs.length),j < i->Q5 x vs[j]=false):Qx vs x=i:=by
 unfold Qx;rw[List.findIdx_eq hi];exact⟨h,λj hj=>hn j (by omega) hj⟩
theorem qle(vs:List By)(x:By)(hn:∀(j:Nat) (hj:j < vs.length),Q5 x vs[j]=false):Qx vs x=vs.length:=by
 unfold Qx;rw[List.findIdx_eq_length];intro y hy;obtain⟨j,hj,rfl⟩:=List.getElem_of_mem hy;exact hn j hj
theorem qmk(x:By):[Value.string x].length=1:=rfl
theorem qj3(vs:List By):vs.map Value.string=vs.flatMap (λx=>[Value.string x]):=by
 induction vs with
 | nil=>rfl
 | cons x l ih=>simp[ih]
theorem Tryz.infoStr:(Tryz.prog.info? 9).map (λi=>(i.zero,i.size,i.bytes))=some (some (St ⟨#[]⟩),1,16):=by kernel_rfl
theorem qcl(w:Wq)(x:Vq)(t:TypeId):∀j u,[x][j]?=some u->(w.alloc (.cells #[x] t)).cell? ((⟨w.heap.size,0,none⟩:Addr).add j)=some u:=by
 intro j u hj
 match j,hj with
 | 0,hj=>simp at hj;subst hj;simp[Addr.add]
 | j+1,hj=>simp at hj
theorem q56(B:Nat)(v:Vq)(vs:List By)(x:By)(w:Wq)(hB:B<=w.heap.size)(hl:vs.length<=1000)(qq:w.ownsRow B 9 1 v vs.length (vs.map Value.string)) :
  Cs 221 #[v,St x] w λe w'=>∃v',e=.returned (.tuple #[v',Ii (Qx vs x)])/\w'.ownsRow B 9 1 v' (Qh vs x).length ((Qh vs x).map Value.string)/\w.grownBy w' v.ownBlock:=by
 obtain⟨i0,hi,cf,b9,bu⟩:=info_parts Tryz.infoStr;obtain⟨a,c,hv⟩:=qd qq
 have ai:∀(j:Nat) (hj:j < vs.length),∃g,a=some ⟨g,0,none⟩/\w.cell? (Ad g j)=some (St vs[j]):=by
  intro j hj;have h2:=qq;rw[qj3] at h2;obtain⟨g,cap,e1,e2,e3,e4,e5⟩:=qb0 h2 qmk (by omega);rw[hv] at e1;cases e1;have:=e5 j 0 hj (St vs[j]) (by decide) rfl;rw[Nat.mul_one,Nat.add_zero] at this;exact⟨g,rfl,this⟩
 subst hv;have HO:Hid (w.ownsRow B 9 1 (.slice a vs.length c) vs.length (vs.map Value.string)):=qq;have HC:Hid _:=ai;clear qq ai;go_enter Tryz.func221,Tryz.ntmps221;go_wp2
 go_loopw [6] (λp wr=>∃i:Nat,p=.int .i64 i/\i<=vs.length/\wr=w/\Hid (∀(j:Nat) (hj:j < vs.length),j < i->Q5 x vs[j]=false)) (λp _=>vs.length - (intOf p).toNat)
 case atStart=>exact⟨0,rfl,zz,rfl,λj hj h=>by omega⟩
 case round=>
  obtain⟨i,rfl,b3,rfl,bc⟩:=hrel;by_cases aj:i < vs.length
  .obtain⟨g,rfl,Qj⟩:=HC.out i aj;obtain⟨y,hy⟩:∃y,vs[i]=y:=⟨_,rfl⟩;rw[hy] at Qj;have HY:Hid (vs[i]=y):=hy;clear hy;by_cases hs:Q5 x y=true
   .have hN:=qj2 vs x i aj (by rw[HY.out];exact hs) bc.out;have HN:Hid _:=hN;clear hN;unfold Q5 at hs;go_wp2;go_ret2;have hL:Qh vs x=vs:=by unfold Qh;rw[if_pos (by rw[HN.out];exact aj)]
    rw[hL,HN.out];exact⟨_,rfl,HO.out,World.grownBy.refl _ _⟩
   .have bt:Q5 x y=false:=by simpa using hs
    have cd:Hid (∀(j:Nat) (hj:j < vs.length),j < i+1->Q5 x vs[j]=false):=by
     intro j hj cj;by_cases e:j=i
     .subst e;rw[HY.out];exact bt
     .exact bc.out j hj (by omega)
    unfold Q5 at bt;clear hs;go_wp2
    go_roundw
    case rel=>exact⟨i+1,by go_num,by omega,by trivial,cd⟩
    case measure=>simp[intOf];omega
  .have hN:=qle vs x (λj hj=>bc.out j hj (by omega));have hL:Qh vs x=vs++[x]:=by unfold Qh;rw[if_neg (by omega)]
   have HL:Hid (Qh vs x=vs++[x]):=hL;have HN:Hid (Qx vs x=vs.length):=hN;have ce:vs.length+1<=maxLen:=by unfold maxLen;omega
   have b6:(vs.length+1)*16<=140737488355328:=by omega
   have b7:Hid (∀O,B<=(wr.alloc O).heap.size):=λO=>by simp;omega
   have bv:∀u∈[Value.string x],u.oneCell'=true:=by simp[Value.oneCell']
   clear hN hL
   go_wp2_with (at_builtin;refine wpList_append_own _ rfl (.tmp 21) (.tmp 23) 22 rfl B 9 i0 (St ⟨#[]⟩) 1 16 Tryz.underlying22 hi cf b9 bu rfl (by decide) _ _ _ rfl (HO.out.alloc _) ⟨wr.heap.size,0,none⟩ 1 1 [St x] rfl rfl (qcl _ _ _) bv ce b6 (b7.out _) ?_;intro v' w1 am ac _;obtain⟨g',c',b0⟩:=ownsRow_succ am;subst b0)
   go_ret2;rw[HL.out,HN.out];refine⟨_,rfl,?_,?_⟩
   .simpa using am
   .exact⟨ac.os,ac.tape,ac.output,by have:=ac.size;simp at this;omega,λk hk hn=>(ac.block k (by simp;omega) hn).trans (Below.heap_alloc _ _ _ hk)⟩
def qge(vs:List By)(t:RT):Tm:=if t.kind=2 then ⟨⟨#[]⟩,Qx vs t.text⟩ else ⟨t.text,0⟩
def qdp(vs:List By)(t:RT):List By:=if t.kind=2 then Qh vs t.text else vs
def qaf:List By->List RT->Option (List Tm×List By×Nat)
 | vs,a::b::us=>
  if b.kind=41 then some ([qge vs a],qdp vs a,2)
  else match qaf (qdp vs a) us with
   | some (l,v',n)=>some (qge vs a::l,v',n+2)
   | none=>none
 | _,_=>none
def qg3(W:Wq)(g:Nat)(ts:List RT):Prop:=qe7 W g ts/\∃c,W.heap[g]?=cC c 244
theorem qg3.kept{B:Nat}{a b:Wq}{g:Nat}{ts:List RT}(h:qg3 a g ts)(hs:qz B a b):qg3 b g ts:=by
 obtain⟨⟨h1,h2⟩,c,h3⟩:=h;have hb:b.heap[g]?=a.heap[g]?:=hs.block g h1 (.inr λc' fz e=>by rw[h3] at e;cases e);have hc:∀o,b.cell? (Ad g o)=a.cell? (Ad g o):=λo=>World.cell?_of_block (w:=a) hb;refine⟨⟨Nat.lt_of_lt_of_le h1 hs.size,λj hj=>?_⟩,c,hb.trans h3⟩;rw[hc,hc,hc,hc];exact h2 j hj
theorem Tryz.infoArg:(Tryz.prog.info? 215).map (λi=>(i.zero,i.size,i.bytes))=some (some (.agg #[St ⟨#[]⟩,Ii 0]),2,24):=by kernel_rfl
theorem q0f{vs:List By}{us:List RT}{r:List Tm×List By×Nat}(h:qaf vs us=some r):∃a b bh,us=a::b::bh:=by
 match us,h with
 | [],h=>simp[qaf] at h
 | [a],h=>simp[qaf] at h
 | a::b::bh,_=>exact⟨a,b,bh,rfl⟩
structure ArW(B N:Nat)(w X:Wq)(rel:By)(vs:List By)(v va:Vq)(ad:List Tm):Prop where
 str:qz B w X
 res:X.heap[N]?=cC #[St ⟨#[]⟩,.slice none 0 0] 145
 atm:X.heap[N+1]?=cC #[St rel,va] 145
 own:X.ownsRow (N+2) 215 2 va ad.length (ad.flatMap tmC)
 vars:X.ownsRow B 9 1 v vs.length (vs.map Value.string)
variable {B N:Nat} {w X Y:Wq} {rel:By} {vs bd:List By} {v v' va ay:Vq} {ad:List Tm}
theorem ArW.alloc(h:ArW B N w X rel vs v va ad)(o:Obj):ArW B N w (X.alloc o) rel vs v va ad:=
 ⟨h.str.alloc o,(Below.heap_alloc _ _ _ (zg h.res).1).trans h.res,(Below.heap_alloc _ _ _ (zg h.atm).1).trans h.atm,h.own.alloc o,h.vars.alloc o⟩
theorem ArW.grow(h:ArW B N w X rel vs v va ad)(hg:X.grownBy Y v.ownBlock)(hv:Y.ownsRow B 9 1 v' bd.length (bd.map Value.string)):ArW B N w Y rel bd v' va ad:=by
 have hk:∀(k:Nat) (c:Array Vq) (T:TypeId),T≠9->X.heap[k]?=cC c T->Y.heap[k]?=X.heap[k]?:=by
  intro k c T hT hc;refine hg.block k (zg hc).1 (λe=>?_);obtain⟨_,_,d,fz,h3⟩:=Qe h.vars k e.symm;rw[hc] at h3;cases h3;exact hT rfl
 refine⟨h.str.grown hg (λk e=>.inr ?_),(hk _ _ _ (by decide) h.res).trans h.res,(hk _ _ _ (by decide) h.atm).trans h.atm,?_,hv⟩
 .obtain⟨h1,_,d,fz,h3⟩:=Qe h.vars k e;exact⟨h1,d,fz,h3⟩
 .refine qm h.own (λg ap _=>?_);obtain⟨_,_,d,fz,h3⟩:=Qe h.own g ap;refine hg.block g (zg h3).1 (λe=>?_);obtain⟨_,_,d',bo,h4⟩:=Qe h.vars g e.symm;rw[h3] at h4;cases h4
theorem ArW.setP(h:ArW B N w X rel vs v va ad){P:Nat}{c:Array Vq}(hN:w.heap.size=N)(hP:N+2<=P)(b8:X.heap[P]?=cC c 215)(al:va.ownBlock≠some P)(o:Nat)(u:Vq):ArW B N w (X.setCell (Ad P o) u) rel vs v va ad:=by
 refine⟨h.str.setCell (by simp;omega) u,(Below.heap_setCell _ _ _ _ (by simp;omega)).trans h.res,(Below.heap_setCell _ _ _ _ (by simp;omega)).trans h.atm,?_,?_⟩
 .exact qm h.own (λg hg _=>Below.heap_setCell _ _ _ _ (λe=>al (by simp at e;rw[<- e];exact hg)))
 .refine qm h.vars (λg hg _=>Below.heap_setCell _ _ _ _ (λe=>?_));simp at e;subst e;obtain⟨_,_,d,fz,h3⟩:=Qe h.vars g hg;rw[b8] at h3;cases h3
theorem ArW.app(h:ArW B N w X rel vs v va ad)(hN:w.heap.size=N)(hg:X.grownBy Y va.ownBlock)(t:Tm)(ho:Y.ownsRow (N+2) 215 2 ay (ad.length+1) (ad.flatMap tmC++tmC t)):ArW B N w (Y.setCell (Ad (N+1) 1) ay) rel vs v ay (ad++[t]):=by
 have a9:∀k,va.ownBlock=some k->N+2<=k:=λk e=>(Qe h.own k e).1;have ch:Y.heap[N]?=X.heap[N]?:=hg.block N (zg h.res).1 (λe=>by have:=a9 N e.symm;omega);have bq:Y.heap[N+1]?=X.heap[N+1]?:=hg.block (N+1) (zg h.atm).1 (λe=>by have:=a9 (N+1) e.symm;omega)
 have bn:Y.ownsRow B 9 1 v vs.length (vs.map Value.string):=by
  refine qm h.vars (λg ap aj=>hg.block g aj (λe=>?_));obtain⟨_,_,d,fz,h3⟩:=Qe h.vars g ap;obtain⟨_,_,d',bo,h4⟩:=Qe h.own g e.symm;rw[h3] at h4;cases h4
 refine⟨(h.str.grown hg (λk e=>.inl (by have:=a9 k e;omega))).setCell (by simp;omega) _,?_,?_,?_,?_⟩
 .exact (Below.heap_setCell _ _ _ _ (by simp)).trans (ch.trans h.res)
 .exact Qc (bq.trans h.atm) 1 ay
 .have h2:Y.ownsRow (N+2) 215 2 ay (ad++[t]).length ((ad++[t]).flatMap tmC):=by simpa using ho
  exact qm h2 (λg ap _=>Below.heap_setCell _ _ _ _ (λe=>by have:=(Qe ho g ap).1;simp at e;omega))
 .refine qm bn (λg ap _=>Below.heap_setCell _ _ _ _ (λe=>?_));simp at e;subst e;obtain⟨_,_,d,fz,h3⟩:=Qe bn _ ap;rw[bq.trans h.atm] at h3;cases h3
theorem ArW.fin(h:ArW B N w X rel vs v va ad)(hN:w.heap.size=N)(a b:Vq):((X.setCell (Ad N 0) a).setCell (Ad N 1) b).ownsRow N 215 2 va ad.length (ad.flatMap tmC)/\
  ((X.setCell (Ad N 0) a).setCell (Ad N 1) b).ownsRow B 9 1 v vs.length (vs.map Value.string)/\qz B w ((X.setCell (Ad N 0) a).setCell (Ad N 1) b):=by
 have hk:∀g,g≠N->((X.setCell (Ad N 0) a).setCell (Ad N 1) b).heap[g]?=X.heap[g]?:=λg hg=>(Below.heap_setCell _ _ _ _ hg).trans (Below.heap_setCell _ _ _ _ hg);refine⟨Qa (qm h.own (λg hg _=>hk g (by have:=(Qe h.own g hg).1;omega))) (by omega),qm h.vars (λg hg _=>hk g (λe=>?_)),(h.str.setCell (by simp;omega) _).setCell (by simp;omega) _⟩;subst e;obtain⟨_,_,d,fz,h3⟩:=Qe h.vars _ hg;rw[h.res] at h3;cases h3
