/- The document's own answer: an atom, read off tokens: the -/
import Derived.Test.YtjajnhemgphefaaGreatDoorJRefD
import Derived.Lib.ItoaNum
set_option linter.unusedVariables false
set_option linter.unusedSimpArgs false
set_option maxRecDepth 100000
set_option maxHeartbeats 8000000
namespace Go.Proofs.YtjajnhemgphefaaGreatDoor
open Go renaming World->Wq,Value->Vq
open Go.RowKit Go.Shelf
structure Lk where
 want:Int
 body:Bool
 alone:Bool
 rules:Nat
 atoms:Nat
 args:Nat
 e:Int
def lkC(l:Lk):Array Vq:=#[.int .i64 l.want,.bool l.body,.bool l.alone,.int .i64 l.rules,.int .i64 l.atoms,.int .i64 l.args,.int .i64 l.e]
def rtV(t:RT):Vq:=.agg #[.int .i64 t.kind,.string t.text,.int .i64 t.place,.int .i64 t.runes]
def Qz(l:Lk):Lk:=
 if l.want=0 then {l with rules:=l.rules+1,body:=false} else if l.want=1 then {l with atoms:=l.atoms+1} else {l with args:=l.args+1}
def Q1(l:Lk):Bool:=if l.want=0 then decide (8 < l.rules+1) else if l.want=1 then decide (3 < l.atoms+1) else decide (2 < l.args+1)
def Qq(l:Lk)(t:RT):Lk:=
 if t.kind≠1/\(t.kind≠2\/l.want≠3) then {Qz l with e:=2}
 else if Q1 l=true\/8 < t.runes then {Qz l with e:=3}
 else if l.want=3 then {Qz l with want:=4} else {Qz l with want:=2}
def Q9(l:Lk)(t:RT):Lk:=
 if l.want=2/\t.kind=40 then {l with args:=0,want:=3}
 else if l.want=4/\t.kind=44 then {l with want:=3}
 else if l.want=4/\t.kind=41 then {l with want:=if l.alone=true then 6 else 5}
 else if l.want=5/\t.kind=46 then {l with want:=0}
 else if l.want=5/\t.kind=44/\l.body=true then {l with want:=1}
 else if l.want=5/\t.kind=3/\l.body=false then {l with body:=true,atoms:=0,want:=1}
 else {l with e:=2}
theorem qpt{a b:Wq}{k:Nat}(h:a.grownBy b (some k))(o:Obj):a.grownBy (b.alloc o) (some k):=
 ⟨h.os,h.tape,h.output,by have:=h.size;simp;omega,λi hi hn=>(Below.heap_alloc b o i (Nat.lt_of_lt_of_le hi h.size)).trans (h.block i hi hn)⟩
theorem qvm{a b:Wq}{k:Nat}(h:a.grownBy b (some k))(o:Nat)(v:Vq):a.grownBy (b.setCell ⟨k,o,none⟩ v) (some k):=
 ⟨h.os,h.tape,h.output,by have:=h.size;simpa using this,λi hi hn=>(Below.heap_setCell b _ v i (λe=>hn (by simp at e;rw[e]))).trans (h.block i hi hn)⟩
theorem Qb{w:Wq}{b:Nat}{c:Array Vq}{t:TypeId}(h:w.heap[b]?=some (Obj.cells c t (0,0)))(o:Nat)(v:Vq):(w.setCell ⟨b,o,none⟩ v).heap[b]?=some (Obj.cells (c.setIfInBounds o v) t (0,0)):=by
 simp[World.setCell,Array.getElem?_modify,h]
theorem qx9(bp:Nat)(l:Lk)(t:RT)(w:Wq)(hw:l.want=0\/l.want=1\/l.want=3)(h1:l.rules<=1000000)(h2:l.atoms<=1000000)(h3:l.args<=1000000)(hh:w.heap[bp]?=some (Obj.cells (lkC l) 298)) :
  Calls Tryz.prog 175 #[.pointer (some ⟨bp,0,none⟩),rtV t] w λe w'=>e=.returned (.tuple #[])/\w'.heap[bp]?=some (Obj.cells (lkC (Qq l t)) 298)/\w.grownBy w' (some bp):=by
 have hbp:bp < w.heap.size:=(zg hh).1;have hne:bp≠w.heap.size:=by omega
 obtain⟨want,body,alone,rules,atoms,args,e⟩:=l;obtain⟨kind,text,place,runes⟩:=t;unfold lkC at hh;unfold rtV;simp only at hw h1 h2 h3 hh ⊢;have c0:w.cell? ⟨bp,0,none⟩=some (.int .i64 want):=by simp[World.cell?,hh]
 have c1:w.cell? ⟨bp,1,none⟩=some (.bool body):=by simp[World.cell?,hh]
 have c3:w.cell? ⟨bp,3,none⟩=some (.int .i64 rules):=by simp[World.cell?,hh]
 have c4:w.cell? ⟨bp,4,none⟩=some (.int .i64 atoms):=by simp[World.cell?,hh]
 have c5:w.cell? ⟨bp,5,none⟩=some (.int .i64 args):=by simp[World.cell?,hh]
 have c6:w.cell? ⟨bp,6,none⟩=some (.int .i64 e):=by simp[World.cell?,hh]
 have f0:∀o,w.frozen? ⟨bp,o,none⟩=false:=λo=>by simp[World.frozen?,hh]
 rcases hw with rfl | rfl | rfl
 all_goals
  go_enter Tryz.func175,Tryz.ntmps175;go_wp2
  all_goals
   first | go_end0 | refine bodyPost_ret (results_none rfl _ _ _) rfl ?_
   refine⟨rfl,?_,by repeat (first | exact World.grownBy.refl _ _ | apply qpt | apply qvm)⟩;rw[Below.heap_alloc _ _ _ (by simpa using hbp)];generalize hS:Qq _ _=S;unfold Qq Qz Q1 at hS;simp at hS
   (repeat' split at hS) <;> first | (exfalso;omega) | (exfalso;simp_all;done) | (subst hS;simp[World.setCell,Array.getElem?_modify,hh,lkC];done) | (exfalso;simp_all;omega)
theorem q0w(bp:Nat)(l:Lk)(t:RT)(w:Wq)(hw:l.want=2\/l.want=4\/l.want=5\/l.want=6)(hh:w.heap[bp]?=some (Obj.cells (lkC l) 298)) :
  Calls Tryz.prog 176 #[.pointer (some ⟨bp,0,none⟩),rtV t] w λe w'=>e=.returned (.tuple #[])/\w'.heap[bp]?=some (Obj.cells (lkC (Q9 l t)) 298)/\w.grownBy w' (some bp):=by
 have hbp:bp < w.heap.size:=(zg hh).1;have hne:bp≠w.heap.size:=by omega
 obtain⟨want,body,alone,rules,atoms,args,e⟩:=l;obtain⟨kind,text,place,runes⟩:=t;unfold lkC at hh;unfold rtV;simp only at hw hh ⊢;have c0:w.cell? ⟨bp,0,none⟩=some (.int .i64 want):=by simp[World.cell?,hh]
 have c1:w.cell? ⟨bp,1,none⟩=some (.bool body):=by simp[World.cell?,hh]
 have c2:w.cell? ⟨bp,2,none⟩=some (.bool alone):=by simp[World.cell?,hh]
 have c4:w.cell? ⟨bp,4,none⟩=some (.int .i64 atoms):=by simp[World.cell?,hh]
 have c5:w.cell? ⟨bp,5,none⟩=some (.int .i64 args):=by simp[World.cell?,hh]
 have c6:w.cell? ⟨bp,6,none⟩=some (.int .i64 e):=by simp[World.cell?,hh]
 have f0:∀o,w.frozen? ⟨bp,o,none⟩=false:=λo=>by simp[World.frozen?,hh]
 rcases hw with rfl | rfl | rfl | rfl
 all_goals
  cases body <;> cases alone
  all_goals
   go_enter Tryz.func176,Tryz.ntmps176;go_wp2
   all_goals
    first | go_end0 | refine bodyPost_ret (results_none rfl _ _ _) rfl ?_
    refine⟨rfl,?_,by repeat (first | exact World.grownBy.refl _ _ | apply qpt | apply qvm)⟩;rw[Below.heap_alloc _ _ _ (by simpa using hbp)];generalize hS:Q9 _ _=S;unfold Q9 at hS;simp at hS
    (repeat' split at hS) <;> first | (exfalso;omega) | (exfalso;simp_all;done) | (subst hS;simp[World.setCell,Array.getElem?_modify,hh,lkC];done)
def qat(l:Lk)(t:RT):Bool:=decide (t.kind=4/\(l.want=6\/(l.want=0/\l.alone=false)))
def qx(l:Lk)(t:RT):Lk:=if l.want=0\/l.want=1\/l.want=3 then Qq l t else Q9 l t
def Qv:Lk->List RT->Int×Nat
 | _,[]=>(0,0)
 | l,t::ts=>if qat l t=true then (0,0) else if (qx l t).e≠0 then ((qx l t).e,t.place) else Qv (qx l t) ts
structure q5w(l:Lk)(i:Nat):Prop where
 lo:0<=l.want
 hi:l.want<=6
 r:l.rules<=i
 a:l.atoms<=i
 g:l.args<=i
theorem q49{l:Lk}{i:Nat}(h:q5w l i)(t:RT):q5w (qx l t) (i+1)/\(qx l t).alone=l.alone:=by
 obtain⟨h1,h2,h3,h4,h5⟩:=h;unfold qx Qq Q9 Qz
 repeat' split
 all_goals
  refine⟨⟨?_,?_,?_,?_,?_⟩,?_⟩ <;> simp only <;> first | rfl | omega | (split <;> omega)
def qex(W:Wq)(g:Nat)(ts:List RT):Prop:=g < W.heap.size/\∀(j:Nat) (hj:j < ts.length),
 W.cell? ⟨g,j*4,none⟩=some (.int .i64 ts[j].kind)/\W.cell? ⟨g,j*4+1,none⟩=some (.string ts[j].text)/\W.cell? ⟨g,j*4+2,none⟩=some (.int .i64 ts[j].place)/\W.cell? ⟨g,j*4+3,none⟩=some (.int .i64 ts[j].runes)
theorem qex.below{W W':Wq}{g B:Nat}{ts:List RT}(h:qex W g ts)(hb:Below B W W')(hg:g < B):qex W' g ts:=
 ⟨Nat.lt_of_lt_of_le h.1 hb.size,λj hj=>by
  obtain⟨a,b,c,d⟩:=h.2 j hj
  exact⟨(Below.cell hb hg).trans a,(Below.cell hb hg).trans b,(Below.cell hb hg).trans c,(Below.cell hb hg).trans d⟩⟩
theorem qvn{w wr w':Wq}{N T:Nat}{a b c d:Vq}(hg:(wr.alloc (.cells #[a,b,c,d] T)).grownBy w' (some N))(hN:N < wr.heap.size)(hb:Below N w wr):w'.cell? ⟨wr.heap.size,2,none⟩=some c/\Below N w w':=by
 refine⟨?_,(hb.alloc (by omega) _).grown hg (by simp;omega) (λk hk=>by cases hk;exact Nat.le_refl _)⟩
 have h1:w'.heap[wr.heap.size]?=some (Obj.cells #[a,b,c,d] T (0,0)):=by
  rw[hg.block wr.heap.size (by simp) (λe=>by cases e;omega),World.alloc_heap_new]
 simp[World.cell?,h1]
theorem qvo(g cap:Nat)(ts:List RT)(alone:Bool)(w:Wq)(hts:qex w g ts)(hl:ts.length<=1000) :
  Calls Tryz.prog 108 #[.slice (some ⟨g,0,none⟩) ts.length cap,.bool alone] w λe w'=>e=.returned (.tuple #[.int .i64 (Qv ⟨0,false,alone,0,0,0,0⟩ ts).1,.int .i64 (Qv ⟨0,false,alone,0,0,0,0⟩ ts).2])/\Below w.heap.size w w':=by
 obtain⟨N,hN⟩:∃N,N=w.heap.size:=⟨_,rfl⟩;have hNr:=hN.symm;have hgN:g < N:=by rw[hN];exact hts.1
 rw[<- hN];clear hN;have HTS:Hid (qex w g ts):=hts;clear hts;go_enter Tryz.func108,Tryz.ntmps108;go_wp2
 go_loopw [7] (λa wr=>∃(i:Nat) (l:Lk),a=.int .i64 i/\i<=ts.length/\l.e=0/\l.alone=alone/\q5w l i/\Hid (Qv l (ts.drop i)=Qv ⟨0,false,alone,0,0,0,0⟩ ts)/\wr.heap[N]?=some (Obj.cells (lkC l) 298)/\Below N w wr) (λa _=>ts.length - (intOf a).toNat)
 case atStart=>
  refine⟨0,⟨0,false,alone,0,0,0,0⟩,rfl,Nat.zero_le _,rfl,rfl,⟨by simp,by simp,Nat.le_refl _,Nat.le_refl _,Nat.le_refl _⟩,rfl,?_,(Below.refl _ _).alloc (by omega) _⟩;rw[<- hNr];exact World.alloc_heap_new w _
 case round=>
  obtain⟨i,l,rfl,hle,he,hal,hok,hsp,hh,qiq⟩:=hrel;by_cases hlt:i < ts.length
  ·obtain⟨t0,t1,t2,t3⟩:=(HTS.out.below qiq hgN).2 i hlt;have hdr:=List.drop_eq_getElem_cons hlt;rw[hdr] at hsp;generalize ts[i]=t at *;have hso:=q49 hok t;have hNs:N < wr.heap.size:=(zg hh).1;have hNn:N≠wr.heap.size:=by omega
   have hst:l.want=0\/l.want=1\/l.want=3->Calls Tryz.prog 175 #[.pointer (some ⟨N,0,none⟩),rtV t] (wr.alloc (.cells #[.int .i64 t.kind,.string t.text,.int .i64 t.place,.int .i64 t.runes] 244)) λe w'=>e=.returned (.tuple #[])/\w'.heap[N]?=some (Obj.cells (lkC (qx l t)) 298)/\w'.cell? ⟨wr.heap.size,2,none⟩=some (.int .i64 t.place)/\Below N w w':=by
    intro hw;refine (qx9 N l t _ hw (by have:=hok.r;omega) (by have:=hok.a;omega) (by have:=hok.g;omega) ((Below.heap_alloc _ _ _ hNs).trans hh)).mono ?_;rintro e w' ⟨rfl,h1,h2⟩;have hs:qx l t=Qq l t:=by unfold qx;rw[if_pos hw]
    rw[hs];exact⟨rfl,h1,qvn h2 hNs qiq⟩
   have hnx:¬(l.want=0\/l.want=1\/l.want=3)->Calls Tryz.prog 176 #[.pointer (some ⟨N,0,none⟩),rtV t] (wr.alloc (.cells #[.int .i64 t.kind,.string t.text,.int .i64 t.place,.int .i64 t.runes] 244)) λe w'=>e=.returned (.tuple #[])/\w'.heap[N]?=some (Obj.cells (lkC (qx l t)) 298)/\w'.cell? ⟨wr.heap.size,2,none⟩=some (.int .i64 t.place)/\Below N w w':=by
    intro hw;have h6:=hok.hi;have h7:=hok.lo;refine (q0w N l t _ (by omega) ((Below.heap_alloc _ _ _ hNs).trans hh)).mono ?_;rintro e w' ⟨rfl,h1,h2⟩;have hs:qx l t=Q9 l t:=by unfold qx;rw[if_neg hw]
    rw[hs];exact⟨rfl,h1,qvn h2 hNs qiq⟩
   have c0:wr.cell? ⟨N,0,none⟩=some (.int .i64 l.want):=by simp[World.cell?,hh,lkC]
   have HBE:Hid (Below N w wr):=qiq;have HSP:Hid (Qv l (t::ts.drop (i+1))=Qv ⟨0,false,alone,0,0,0,0⟩ ts):=hsp;have HOK:Hid (q5w (qx l t) (i+1)/\(qx l t).alone=l.alone):=hso;have hw0:=hok.lo;have hw6:=hok.hi;obtain⟨kind,text,place,runes⟩:=t;obtain⟨want,body,alone',rules,atoms,args,e⟩:=l;simp only at *;subst hal he;by_cases qfo:qat ⟨want,body,alone',rules,atoms,args,0⟩ ⟨kind,text,place,runes⟩=true
   ·have Qew:Hid (Qv ⟨0,false,alone',0,0,0,0⟩ ts=(0,0)):=by
     show _=_;rw[<- HSP.out];unfold Qv;rw[if_pos qfo]
    unfold qat at qfo;simp only[decide_eq_true_eq] at qfo;clear hst hnx HOK HSP hsp hso hok hdr hh qiq;obtain⟨rfl,rfl | ⟨rfl,rfl⟩⟩:=qfo
    all_goals
     go_wp2;go_ret2;rw[Qew.out];exact⟨rfl,HBE.out.alloc (by omega) _⟩
   ·have hne:Hid (Qv ⟨0,false,alone',0,0,0,0⟩ ts=if (qx ⟨want,body,alone',rules,atoms,args,0⟩ ⟨kind,text,place,runes⟩).e≠0 then ((qx ⟨want,body,alone',rules,atoms,args,0⟩ ⟨kind,text,place,runes⟩).e,place) else Qv (qx ⟨want,body,alone',rules,atoms,args,0⟩ ⟨kind,text,place,runes⟩) (ts.drop (i+1))):=by
     show _=_;rw[<- HSP.out];conv=>lhs;unfold Qv
     rw[if_neg qfo]
    unfold qat at qfo;simp only[decide_eq_true_eq] at qfo;generalize qx ⟨want,body,alone',rules,atoms,args,0⟩ ⟨kind,text,place,runes⟩=l' at *
    have hc6:Hid (∀w':Wq,w'.heap[N]?=some (Obj.cells (lkC l') 298)->w'.cell? ⟨N,6,none⟩=some (.int .i64 l'.e)):=by
     intro w' h;simp[World.cell?,h,lkC]
    have HST:Hid _:=hst;have HNX:Hid _:=hnx;clear hst hnx HSP hsp hso hok hdr hh qiq;unfold rtV at HST HNX;have hwv:want=0\/want=1\/want=2\/want=3\/want=4\/want=5\/want=6:=by omega
    by_cases hz:l'.e=0
    ·have hgo:Hid (Qv l' (ts.drop (i+1))=Qv ⟨0,false,alone',0,0,0,0⟩ ts):=by
      show _=_;rw[hne.out,if_neg (by simp[hz])]
     rw[hz] at hc6;have HLE:Hid (l'.e=0):=hz;clear hz hne;by_cases k4:kind=4
     ·subst k4;rcases hwv with rfl | rfl | rfl | rfl | rfl | rfl | rfl
      ·cases alone'
       ·simp at qfo
       ·clear qfo
        go_wp2_with (first | (go_at_call 175;refine (HST.out (by simp)).mono ?_;rintro e w' ⟨rfl,hh',hpl,hb'⟩;have c6:=hc6.out w' hh') | (go_at_call 176;refine (HNX.out (by simp)).mono ?_;rintro e w' ⟨rfl,hh',hpl,hb'⟩;have c6:=hc6.out w' hh'))
        go_roundw
        case rel=>exact⟨i+1,l',by go_num,by omega,HLE.out,HOK.out.2,HOK.out.1,hgo,hh',hb'⟩
        case measure=>simp[intOf];omega
      all_goals first | (exfalso;simp at qfo;done) | skip
      all_goals
       clear qfo
       go_wp2_with (first | (go_at_call 175;refine (HST.out (by simp)).mono ?_;rintro e w' ⟨rfl,hh',hpl,hb'⟩;have c6:=hc6.out w' hh') | (go_at_call 176;refine (HNX.out (by simp)).mono ?_;rintro e w' ⟨rfl,hh',hpl,hb'⟩;have c6:=hc6.out w' hh'))
       go_roundw
       case rel=>exact⟨i+1,l',by go_num,by omega,HLE.out,HOK.out.2,HOK.out.1,hgo,hh',hb'⟩
       case measure=>simp[intOf];omega
     ·have m4:(kind == 4)=false:=by simpa using k4
      clear qfo k4;rcases hwv with rfl | rfl | rfl | rfl | rfl | rfl | rfl
      all_goals
       go_wp2_with (first | (go_at_call 175;refine (HST.out (by simp)).mono ?_;rintro e w' ⟨rfl,hh',hpl,hb'⟩;have c6:=hc6.out w' hh') | (go_at_call 176;refine (HNX.out (by simp)).mono ?_;rintro e w' ⟨rfl,hh',hpl,hb'⟩;have c6:=hc6.out w' hh'))
       go_roundw
       case rel=>exact⟨i+1,l',by go_num,by omega,HLE.out,HOK.out.2,HOK.out.1,hgo,hh',hb'⟩
       case measure=>simp[intOf];omega
    ·have hgo:Hid (Qv ⟨0,false,alone',0,0,0,0⟩ ts=(l'.e,place)):=by
      show _=_;rw[hne.out,if_pos hz]
     generalize l'.e=le at *;have mz:(le == 0)=false:=by simpa using hz
     have mz':(le != 0)=true:=by simpa using hz
     clear hne;by_cases k4:kind=4
     ·subst k4;rcases hwv with rfl | rfl | rfl | rfl | rfl | rfl | rfl
      ·cases alone'
       ·simp at qfo
       ·clear qfo
        go_wp2_with (first | (go_at_call 175;refine (HST.out (by simp)).mono ?_;rintro e w' ⟨rfl,hh',hpl,hb'⟩;have c6:=hc6.out w' hh') | (go_at_call 176;refine (HNX.out (by simp)).mono ?_;rintro e w' ⟨rfl,hh',hpl,hb'⟩;have c6:=hc6.out w' hh'))
        go_quiet (fail);go_wp2;go_ret2;rw[hgo.out];exact⟨rfl,qq hb'⟩
      all_goals first | (exfalso;simp at qfo;done) | skip
      all_goals
       clear qfo
       go_wp2_with (first | (go_at_call 175;refine (HST.out (by simp)).mono ?_;rintro e w' ⟨rfl,hh',hpl,hb'⟩;have c6:=hc6.out w' hh') | (go_at_call 176;refine (HNX.out (by simp)).mono ?_;rintro e w' ⟨rfl,hh',hpl,hb'⟩;have c6:=hc6.out w' hh'))
       go_quiet (fail);go_wp2;go_ret2;rw[hgo.out];exact⟨rfl,qq hb'⟩
     ·have m4:(kind == 4)=false:=by simpa using k4
      clear qfo k4;rcases hwv with rfl | rfl | rfl | rfl | rfl | rfl | rfl
      all_goals
       go_wp2_with (first | (go_at_call 175;refine (HST.out (by simp)).mono ?_;rintro e w' ⟨rfl,hh',hpl,hb'⟩;have c6:=hc6.out w' hh') | (go_at_call 176;refine (HNX.out (by simp)).mono ?_;rintro e w' ⟨rfl,hh',hpl,hb'⟩;have c6:=hc6.out w' hh'))
       go_quiet (fail);go_wp2;go_ret2;rw[hgo.out];exact⟨rfl,qq hb'⟩
  ·rw[List.drop_eq_nil_of_le (by omega)] at hsp;go_wp2;go_ret2;rw[<- hsp.out];exact⟨rfl,qiq⟩
def Q2(x y:ByteArray):Bool:=y.toList == x.toList
def Qw(vs:List ByteArray)(x:ByteArray):Nat:=vs.findIdx (Q2 x)
def Qc(vs:List ByteArray)(x:ByteArray):List ByteArray:=if Qw vs x < vs.length then vs else vs++[x]
structure Tm where
 name:ByteArray
 num:Nat
structure Am where
 rel:ByteArray
 args:List Tm
structure Rl where
 head:Am
 body:List Am
def tmC(t:Tm):List Vq:=[.string t.name,.int .i64 t.num]
theorem q7e(t:Tm):(tmC t).length=2:=rfl
def qy(r:Rl):List Am:=r.head::r.body
def qax(vs:List ByteArray)(t:Tm):List ByteArray:=if t.name.toList.isEmpty=true then vs else Qc vs t.name
def nmL(vs:List ByteArray)(l:List Tm):List ByteArray:=l.foldl qax vs
def Qp(l:List Am):List Tm:=l.flatMap (·.args)
structure qw(B:Nat)(w w':Wq):Prop where
 os:w'.os=w.os
 tape:w'.tape=w.tape
 output:w'.output=w.output
 size:w.heap.size<=w'.heap.size
 block:∀k,k < w.heap.size->(k < B\/∀c fz,w.heap[k]?≠some (Obj.cells c 9 fz))->w'.heap[k]?=w.heap[k]?
theorem qw.refl(B:Nat)(w:Wq):qw B w w:=⟨rfl,rfl,rfl,Nat.le_refl _,λ_ _ _=>rfl⟩
theorem qw.trans{B:Nat}{a b c:Wq}(h:qw B a b)(k:qw B b c):qw B a c:=
 ⟨k.os.trans h.os,k.tape.trans h.tape,k.output.trans h.output,Nat.le_trans h.size k.size,λi hi hx=>by
  have h1:=h.block i hi hx
  rw[k.block i (Nat.lt_of_lt_of_le hi h.size) (by rw[h1];exact hx),h1]⟩
theorem qw.alloc{B:Nat}{a b:Wq}(h:qw B a b)(o:Obj):qw B a (b.alloc o):=
 ⟨h.os,h.tape,h.output,by have:=h.size;simp;omega,λi hi hx=>(Below.heap_alloc b o i (Nat.lt_of_lt_of_le hi h.size)).trans (h.block i hi hx)⟩
theorem qw.setCell{B:Nat}{a b:Wq}(h:qw B a b){p:Addr}(hp:a.heap.size<=p.block)(v:Vq):qw B a (b.setCell p v):=
 ⟨h.os,h.tape,h.output,by have:=h.size;simpa using this,λi hi hx=>(Below.heap_setCell b p v i (by omega)).trans (h.block i hi hx)⟩
theorem qw.drew{B:Nat}{a b:Wq}(h:qw B a b):qw B a b.drew:=⟨h.os,h.tape,h.output,h.size,h.block⟩
theorem qw.grown{B:Nat}{a b c:Wq}{row:Option Nat}(h:qw B a b)(hg:b.grownBy c row)(hr:∀k,row=some k->a.heap.size<=k\/(B<=k/\∃d fz,b.heap[k]?=some (Obj.cells d 9 fz))):qw B a c:=
 ⟨hg.os.trans h.os,hg.tape.trans h.tape,hg.output.trans h.output,Nat.le_trans h.size hg.size,λi hi hx=>by
  have h1:=h.block i hi hx;rw[hg.block i (Nat.lt_of_lt_of_le hi h.size) (λe=>?_),h1];rcases hr i e.symm with h2 | ⟨h2,d,fz,h3⟩
  ·omega
  ·rcases hx with hx | hx
   ·omega
   ·rw[h1] at h3;exact hx d fz h3⟩
theorem Qh{W:Wq}{B k n:Nat}{T:TypeId}{v:Vq}{xs:List Vq}(h:W.ownsRow B T k v n xs):∀g,v.ownBlock=some g->B<=g/\g < W.heap.size/\∃d fz,W.heap[g]?=some (Obj.cells d T fz):=by
 intro g hg;obtain⟨_,⟨hv,hn⟩ | ⟨g',cap,cur,hv,hb,hh,h1,h2,h3,h4⟩⟩:=h
 ·rw[hv] at hg;cases hg
 ·rw[hv] at hg;cases hg;exact⟨hb,(zg hh).1,cur,_,hh⟩
theorem qw.own{B B' k n:Nat}{T:TypeId}{a b:Wq}{v:Vq}{xs:List Vq}(h:qw B a b)(hT:T≠9)(ho:a.ownsRow B' T k v n xs):b.ownsRow B' T k v n xs:=by
 refine qm ho (λg hg hlt=>h.block g hlt (.inr λc fz e=>?_));obtain⟨_,_,d,fz',h3⟩:=Qh ho g hg;rw[e] at h3;cases h3;exact hT rfl
def Qej(n:Nat):ByteArray:=⟨(Lib.decDigits n).toArray⟩
theorem qjn(vs:List ByteArray)(x:ByteArray)(i:Nat)(hi:i < vs.length)(h:Q2 x vs[i]=true)(hn:∀(j:Nat) (hj:j < vs.length),j < i->Q2 x vs[j]=false):Qw vs x=i:=by
 unfold Qw;rw[List.findIdx_eq hi];exact⟨h,λj hj=>hn j (by omega) hj⟩
theorem qkz(vs:List ByteArray)(x:ByteArray)(hn:∀(j:Nat) (hj:j < vs.length),Q2 x vs[j]=false):Qw vs x=vs.length:=by
 unfold Qw;rw[List.findIdx_eq_length];intro y hy;obtain⟨j,hj,rfl⟩:=List.getElem_of_mem hy;exact hn j hj
theorem ql4(x:ByteArray):[Value.string x].length=1:=rfl
theorem qjo(vs:List ByteArray):vs.map Value.string=vs.flatMap (λx=>[Value.string x]):=by
 induction vs with
 | nil=>rfl
 | cons x l ih=>simp[ih]
theorem Tryz.infoStr:(Tryz.prog.info? 9).map (λi=>(i.zero,i.size,i.bytes))=some (some (.string ⟨#[]⟩),1,16):=by kernel_rfl
theorem qgd(w:Wq)(x:Vq)(t:TypeId):∀j u,[x][j]?=some u->(w.alloc (.cells #[x] t)).cell? ((⟨w.heap.size,0,none⟩:Addr).add j)=some u:=by
 intro j u hj
 match j,hj with
 | 0,hj=>simp at hj;subst hj;simp[Addr.add]
 | j+1,hj=>simp at hj
theorem q44(B:Nat)(v:Vq)(vs:List ByteArray)(x:ByteArray)(w:Wq)(hB:B<=w.heap.size)(hl:vs.length<=1000)(qr:w.ownsRow B 9 1 v vs.length (vs.map Value.string)) :
  Calls Tryz.prog 221 #[v,.string x] w λe w'=>∃v',e=.returned (.tuple #[v',.int .i64 (Qw vs x)])/\w'.ownsRow B 9 1 v' (Qc vs x).length ((Qc vs x).map Value.string)/\w.grownBy w' v.ownBlock:=by
 obtain⟨i0,hi,hz0,hz1,hz2⟩:=info_parts Tryz.infoStr;obtain⟨a,c,hv⟩:=qd qr
 have qb5:∀(j:Nat) (hj:j < vs.length),∃g,a=some ⟨g,0,none⟩/\w.cell? ⟨g,j,none⟩=some (.string vs[j]):=by
  intro j hj;have h2:=qr;rw[qjo] at h2;obtain⟨g,cap,e1,e2,e3,e4,e5⟩:=qbq h2 ql4 (by omega);rw[hv] at e1;cases e1;have:=e5 j 0 hj (.string vs[j]) (by decide) rfl;rw[Nat.mul_one,Nat.add_zero] at this;exact⟨g,rfl,this⟩
 subst hv;have HO:Hid (w.ownsRow B 9 1 (.slice a vs.length c) vs.length (vs.map Value.string)):=qr;have HC:Hid _:=qb5;clear qr qb5;go_enter Tryz.func221,Tryz.ntmps221;go_wp2
 go_loopw [6] (λp wr=>∃i:Nat,p=.int .i64 i/\i<=vs.length/\wr=w/\Hid (∀(j:Nat) (hj:j < vs.length),j < i->Q2 x vs[j]=false)) (λp _=>vs.length - (intOf p).toNat)
 case atStart=>exact⟨0,rfl,Nat.zero_le _,rfl,λj hj h=>by omega⟩
 case round=>
  obtain⟨i,rfl,hle,rfl,hno⟩:=hrel;by_cases hlt:i < vs.length
  ·obtain⟨g,rfl,Ql⟩:=HC.out i hlt;obtain⟨y,hy⟩:∃y,vs[i]=y:=⟨_,rfl⟩;rw[hy] at Ql;have HY:Hid (vs[i]=y):=hy;clear hy;by_cases hs:Q2 x y=true
   ·have hN:=qjn vs x i hlt (by rw[HY.out];exact hs) hno.out;have HN:Hid _:=hN;clear hN;unfold Q2 at hs;go_wp2;go_ret2;have hL:Qc vs x=vs:=by unfold Qc;rw[if_pos (by rw[HN.out];exact hlt)]
    rw[hL,HN.out];exact⟨_,rfl,HO.out,World.grownBy.refl _ _⟩
   ·have hs':Q2 x y=false:=by simpa using hs
    have q3h:Hid (∀(j:Nat) (hj:j < vs.length),j < i+1->Q2 x vs[j]=false):=by
     intro j hj hji;by_cases e:j=i
     ·subst e;rw[HY.out];exact hs'
     ·exact hno.out j hj (by omega)
    unfold Q2 at hs';clear hs;go_wp2
    go_roundw
    case rel=>exact⟨i+1,by go_num,by omega,by trivial,q3h⟩
    case measure=>simp[intOf];omega
  ·have hN:=qkz vs x (λj hj=>hno.out j hj (by omega));have hL:Qc vs x=vs++[x]:=by unfold Qc;rw[if_neg (by omega)]
   have HL:Hid (Qc vs x=vs++[x]):=hL;have HN:Hid (Qw vs x=vs.length):=hN;have hc3:vs.length+1<=maxLen:=by unfold maxLen;omega
   have hc4:(vs.length+1)*16<=140737488355328:=by omega
   have hc5:Hid (∀O,B<=(wr.alloc O).heap.size):=λO=>by simp;omega
   have h1c:∀u∈[Value.string x],u.oneCell'=true:=by simp[Value.oneCell']
   clear hN hL
   go_wp2_with (at_builtin;refine wpList_append_own _ rfl (.tmp 21) (.tmp 23) 22 rfl B 9 i0 (.string ⟨#[]⟩) 1 16 Tryz.underlying22 hi hz0 hz1 hz2 rfl (by decide) _ _ _ rfl (HO.out.alloc _) ⟨wr.heap.size,0,none⟩ 1 1 [.string x] rfl rfl (qgd _ _ _) h1c hc3 hc4 (hc5.out _) ?_;intro v' w1 hown1 hgrow1 _;obtain⟨g',c',hv'⟩:=ownsRow_succ hown1;subst hv')
   go_ret2;rw[HL.out,HN.out];refine⟨_,rfl,?_,?_⟩
   ·simpa using hown1
   ·exact⟨hgrow1.os,hgrow1.tape,hgrow1.output,by have:=hgrow1.size;simp at this;omega,λk hk hn=>(hgrow1.block k (by simp;omega) hn).trans (Below.heap_alloc _ _ _ hk)⟩
def qf2(vs:List ByteArray)(t:RT):Tm:=if t.kind=2 then ⟨⟨#[]⟩,Qw vs t.text⟩ else ⟨t.text,0⟩
def qdl(vs:List ByteArray)(t:RT):List ByteArray:=if t.kind=2 then Qc vs t.text else vs
def qab:List ByteArray->List RT->Option (List Tm×List ByteArray×Nat)
 | vs,a::b::us=>
  if b.kind=41 then some ([qf2 vs a],qdl vs a,2)
  else match qab (qdl vs a) us with
   | some (l,v',n)=>some (qf2 vs a::l,v',n+2)
   | none=>none
 | _,_=>none
def qgy(W:Wq)(g:Nat)(ts:List RT):Prop:=qex W g ts/\∃c,W.heap[g]?=some (Obj.cells c 244)
theorem qgy.kept{B:Nat}{a b:Wq}{g:Nat}{ts:List RT}(h:qgy a g ts)(hs:qw B a b):qgy b g ts:=by
 obtain⟨⟨h1,h2⟩,c,h3⟩:=h;have hb:b.heap[g]?=a.heap[g]?:=hs.block g h1 (.inr λc' fz e=>by rw[h3] at e;cases e);have hc:∀o,b.cell? ⟨g,o,none⟩=a.cell? ⟨g,o,none⟩:=λo=>World.cell?_of_block (w:=a) hb;refine⟨⟨Nat.lt_of_lt_of_le h1 hs.size,λj hj=>?_⟩,c,hb.trans h3⟩;rw[hc,hc,hc,hc];exact h2 j hj
theorem Tryz.infoArg:(Tryz.prog.info? 215).map (λi=>(i.zero,i.size,i.bytes))=some (some (.agg #[.string ⟨#[]⟩,.int .i64 0]),2,24):=by kernel_rfl
theorem qzr{vs:List ByteArray}{us:List RT}{r:List Tm×List ByteArray×Nat}(h:qab vs us=some r):∃a b us',us=a::b::us':=by
 match us,h with
 | [],h=>simp[qab] at h
 | [a],h=>simp[qab] at h
 | a::b::us',_=>exact⟨a,b,us',rfl⟩
structure Qaw(B N:Nat)(w wr:Wq)(ts:List RT)(at':Nat)(rel:ByteArray)(k:Nat)(vs:List ByteArray)(v va:Vq)(acc:List Tm)(L:List Tm)(vsF:List ByteArray)(M:Nat):Prop where
 str:qw B w wr
 res:wr.heap[N]?=some (Obj.cells #[.string ⟨#[]⟩,.slice none 0 0] 145)
 atm:wr.heap[N+1]?=some (Obj.cells #[.string rel,va] 145)
 own:wr.ownsRow (N+2) 215 2 va acc.length (acc.flatMap tmC)
 vars:wr.ownsRow B 9 1 v vs.length (vs.map Value.string)
 spec:∃l n,qab vs (ts.drop (at'+2+k))=some (l,vsF,n)/\acc++l=L/\k+n=M
 few:acc.length<=k/\vs.length<=500+k
structure ArW(B N:Nat)(w X:Wq)(rel:ByteArray)(vs:List ByteArray)(v va:Vq)(acc:List Tm):Prop where
 str:qw B w X
 res:X.heap[N]?=some (Obj.cells #[.string ⟨#[]⟩,.slice none 0 0] 145)
 atm:X.heap[N+1]?=some (Obj.cells #[.string rel,va] 145)
 own:X.ownsRow (N+2) 215 2 va acc.length (acc.flatMap tmC)
 vars:X.ownsRow B 9 1 v vs.length (vs.map Value.string)
variable {B N:Nat} {w X Y:Wq} {rel:ByteArray} {vs vs':List ByteArray} {v v' va va':Vq} {acc:List Tm}
theorem ArW.alloc(h:ArW B N w X rel vs v va acc)(o:Obj):ArW B N w (X.alloc o) rel vs v va acc:=
 ⟨h.str.alloc o,(Below.heap_alloc _ _ _ (zg h.res).1).trans h.res,(Below.heap_alloc _ _ _ (zg h.atm).1).trans h.atm,h.own.alloc o,h.vars.alloc o⟩
theorem ArW.grow(h:ArW B N w X rel vs v va acc)(hg:X.grownBy Y v.ownBlock)(hv:Y.ownsRow B 9 1 v' vs'.length (vs'.map Value.string)):ArW B N w Y rel vs' v' va acc:=by
 have hk:∀(k:Nat) (c:Array Vq) (T:TypeId),T≠9->X.heap[k]?=some (Obj.cells c T (0,0))->Y.heap[k]?=X.heap[k]?:=by
  intro k c T hT hc;refine hg.block k (zg hc).1 (λe=>?_);obtain⟨_,_,d,fz,h3⟩:=Qh h.vars k e.symm;rw[hc] at h3;cases h3;exact hT rfl
 refine⟨h.str.grown hg (λk e=>.inr ?_),(hk _ _ _ (by decide) h.res).trans h.res,(hk _ _ _ (by decide) h.atm).trans h.atm,?_,hv⟩
 ·obtain⟨h1,_,d,fz,h3⟩:=Qh h.vars k e;exact⟨h1,d,fz,h3⟩
 ·refine qm h.own (λg hg' _=>?_);obtain⟨_,_,d,fz,h3⟩:=Qh h.own g hg';refine hg.block g (zg h3).1 (λe=>?_);obtain⟨_,_,d',fz',h4⟩:=Qh h.vars g e.symm;rw[h3] at h4;cases h4
theorem ArW.setP(h:ArW B N w X rel vs v va acc){P:Nat}{c:Array Vq}(hN:w.heap.size=N)(hP:N+2<=P)(hPt:X.heap[P]?=some (Obj.cells c 215))(hne:va.ownBlock≠some P)(o:Nat)(u:Vq):ArW B N w (X.setCell ⟨P,o,none⟩ u) rel vs v va acc:=by
 refine⟨h.str.setCell (by simp;omega) u,(Below.heap_setCell _ _ _ _ (by simp;omega)).trans h.res,(Below.heap_setCell _ _ _ _ (by simp;omega)).trans h.atm,?_,?_⟩
 ·exact qm h.own (λg hg _=>Below.heap_setCell _ _ _ _ (λe=>hne (by simp at e;rw[<- e];exact hg)))
 ·refine qm h.vars (λg hg _=>Below.heap_setCell _ _ _ _ (λe=>?_));simp at e;subst e;obtain⟨_,_,d,fz,h3⟩:=Qh h.vars g hg;rw[hPt] at h3;cases h3
theorem ArW.app(h:ArW B N w X rel vs v va acc)(hN:w.heap.size=N)(hg:X.grownBy Y va.ownBlock)(t:Tm)(ho:Y.ownsRow (N+2) 215 2 va' (acc.length+1) (acc.flatMap tmC++tmC t)):ArW B N w (Y.setCell ⟨N+1,1,none⟩ va') rel vs v va' (acc++[t]):=by
 have hlo:∀k,va.ownBlock=some k->N+2<=k:=λk e=>(Qh h.own k e).1;have qbr:Y.heap[N]?=X.heap[N]?:=hg.block N (zg h.res).1 (λe=>by have:=hlo N e.symm;omega);have q24:Y.heap[N+1]?=X.heap[N+1]?:=hg.block (N+1) (zg h.atm).1 (λe=>by have:=hlo (N+1) e.symm;omega)
 have q3y:Y.ownsRow B 9 1 v vs.length (vs.map Value.string):=by
  refine qm h.vars (λg hg' hlt=>hg.block g hlt (λe=>?_));obtain⟨_,_,d,fz,h3⟩:=Qh h.vars g hg';obtain⟨_,_,d',fz',h4⟩:=Qh h.own g e.symm;rw[h3] at h4;cases h4
 refine⟨(h.str.grown hg (λk e=>.inl (by have:=hlo k e;omega))).setCell (by simp;omega) _,?_,?_,?_,?_⟩
 ·exact (Below.heap_setCell _ _ _ _ (by simp)).trans (qbr.trans h.res)
 ·exact Qb (q24.trans h.atm) 1 va'
 ·have h2:Y.ownsRow (N+2) 215 2 va' (acc++[t]).length ((acc++[t]).flatMap tmC):=by simpa using ho
  exact qm h2 (λg hg' _=>Below.heap_setCell _ _ _ _ (λe=>by have:=(Qh ho g hg').1;simp at e;omega))
 ·refine qm q3y (λg hg' _=>Below.heap_setCell _ _ _ _ (λe=>?_));simp at e;subst e;obtain⟨_,_,d,fz,h3⟩:=Qh q3y _ hg';rw[q24.trans h.atm] at h3;cases h3
theorem ArW.fin(h:ArW B N w X rel vs v va acc)(hN:w.heap.size=N)(a b:Vq):((X.setCell ⟨N,0,none⟩ a).setCell ⟨N,1,none⟩ b).ownsRow N 215 2 va acc.length (acc.flatMap tmC)/\
  ((X.setCell ⟨N,0,none⟩ a).setCell ⟨N,1,none⟩ b).ownsRow B 9 1 v vs.length (vs.map Value.string)/\qw B w ((X.setCell ⟨N,0,none⟩ a).setCell ⟨N,1,none⟩ b):=by
 have hk:∀g,g≠N->((X.setCell ⟨N,0,none⟩ a).setCell ⟨N,1,none⟩ b).heap[g]?=X.heap[g]?:=λg hg=>(Below.heap_setCell _ _ _ _ hg).trans (Below.heap_setCell _ _ _ _ hg);refine⟨Qm (qm h.own (λg hg _=>hk g (by have:=(Qh h.own g hg).1;omega))) (by omega),qm h.vars (λg hg _=>hk g (λe=>?_)),(h.str.setCell (by simp;omega) _).setCell (by simp;omega) _⟩;subst e;obtain⟨_,_,d,fz,h3⟩:=Qh h.vars _ hg;rw[h.res] at h3;cases h3
