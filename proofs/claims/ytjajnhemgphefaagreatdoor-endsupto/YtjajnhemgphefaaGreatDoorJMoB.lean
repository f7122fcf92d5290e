/- Package model: the ground atom that an atom comes to, names -/
import Derived.Test.YtjajnhemgphefaaGreatDoorJEgB
set_option linter.unusedVariables false
set_option linter.unusedSimpArgs false
set_option maxHeartbeats 2000000
namespace Go.Proofs.YtjajnhemgphefaaGreatDoor
open Go renaming World->Wq,Value->Vq
open Go.RowKit Go.Shelf
structure Nms where
 a0:ByteArray
 a1:ByteArray
 a2:ByteArray
 a3:ByteArray
 a4:ByteArray
 a5:ByteArray
def Nms.get(n:Nms):Nat->ByteArray
 | 0=>n.a0
 | 1=>n.a1
 | 2=>n.a2
 | 3=>n.a3
 | 4=>n.a4
 | 5=>n.a5
 | _=>⟨#[]⟩
def Nms.c(n:Nms):Array Vq:=#[.string n.a0,.string n.a1,.string n.a2,.string n.a3,.string n.a4,.string n.a5]
def Nms.v(n:Nms):Vq:=.agg n.c
def ofT(n:Nms)(t:Tm):ByteArray:=if t.name.toList.isEmpty=true then n.get t.num else t.name
theorem Nms.cell(n:Nms)(k:Nat)(h:k < 6):n.c[k]?=some (.string (n.get k)):=by
 have hc:k=0\/k=1\/k=2\/k=3\/k=4\/k=5:=by omega
 rcases hc with rfl | rfl | rfl | rfl | rfl | rfl <;> rfl
theorem q4p(n:Nms)(t:Tm)(ht:t.num < 6)(w:Wq) :
  Calls Tryz.prog 151 #[n.v,.agg #[.string t.name,.int .i64 t.num]] w λe w'=>e=.returned (.string (ofT n t))/\Below w.heap.size w w':=by
 have hiv:Hid (∀W,Calls Tryz.prog 139 #[.agg #[.string t.name,.int .i64 t.num]] W λe w'=>e=.returned (.bool t.name.toList.isEmpty)/\Below W.heap.size W w'):=λW=>qb6 t W
 have hA:Hid (∀W1,Below ((w.alloc (.cells n.c 176)).alloc (.cells #[.string t.name,.int .i64 t.num] 166)).heap.size ((w.alloc (.cells n.c 176)).alloc (.cells #[.string t.name,.int .i64 t.num] 166)) W1->
   W1.cell? ⟨w.heap.size,t.num,none⟩=some (.string (n.get t.num))/\W1.cell? ⟨w.heap.size+1,0,none⟩=some (.string t.name)/\W1.cell? ⟨w.heap.size+1,1,none⟩=some (.int .i64 t.num)/\Below w.heap.size w W1):=by
  intro W1 hb;refine⟨?_,?_,?_,(((Below.refl _ w).alloc zl _).alloc (by simp) _).trans (hb.mono (by simp;omega))⟩
  ·rw[hb.cell (p:=⟨w.heap.size,t.num,none⟩) (by simp;omega)];have hh:((w.alloc (.cells n.c 176)).alloc (.cells #[.string t.name,.int .i64 t.num] 166)).heap[w.heap.size]?=some (Obj.cells n.c 176):=(Below.heap_alloc _ _ _ (by simp)).trans (World.alloc_heap_new w _);simp only[World.cell?,hh];simpa using n.cell _ ht
  ·rw[hb.cell (p:=⟨w.heap.size+1,0,none⟩) (by simp)];simp
  ·rw[hb.cell (p:=⟨w.heap.size+1,1,none⟩) (by simp)];simp
 have hof:Hid (ofT n t=if t.name.toList.isEmpty=true then n.get t.num else t.name):=rfl;unfold Nms.c at hA;unfold Nms.v Nms.c;have i1:(t.num:Int) < 6:=by omega
 generalize ofT n t=res at *;generalize n.get t.num=gt at *;generalize t.num=tn at *;generalize htv:t.name.toList.isEmpty=tv at *;clear htv;generalize t.name=tx at *
 cases tv with
 | false=>
  go_enter Tryz.func151,Tryz.ntmps151
  go_wp2_with (go_at_call 139;refine (hiv.out _).mono ?_;rintro e W1 ⟨rfl,hb1⟩;obtain⟨k1,k2,k3,k4⟩:=hA.out _ hb1)
  go_ret;exact⟨by rw[hof.out];rfl,k4⟩
 | true=>
  go_enter Tryz.func151,Tryz.ntmps151
  go_wp2_with (go_at_call 139;refine (hiv.out _).mono ?_;rintro e W1 ⟨rfl,hb1⟩;obtain⟨k1,k2,k3,k4⟩:=hA.out _ hb1)
  go_ret;exact⟨by rw[hof.out];rfl,k4⟩
structure Gd where
 rel:ByteArray
 x:ByteArray
 y:ByteArray
def Gd.c(g:Gd):Array Vq:=#[.string g.rel,.string g.x,.string g.y]
def Gd.v(g:Gd):Vq:=.agg g.c
def xOf(n:Nms)(l:List Tm):ByteArray:=match l with | []=>⟨#[]⟩ | t::_=>ofT n t
def yOf(n:Nms)(l:List Tm):ByteArray:=match l with | _::t::_=>ofT n t | _=>⟨#[]⟩
def qb(n:Nms)(a:Am):Gd:=⟨a.rel,xOf n a.args,yOf n a.args⟩
theorem q5n(n:Nms)(l:List Tm)(h:0 < l.length):xOf n (l.take (0+1))=ofT n l[0]/\yOf n (l.take (0+1))=⟨#[]⟩/\xOf n (l.take 0)=⟨#[]⟩/\yOf n (l.take 0)=⟨#[]⟩:=by
 cases l with
 | nil=>simp at h
 | cons t l=>simp[xOf,yOf]
theorem q5o(n:Nms)(l:List Tm)(h:1 < l.length):xOf n (l.take (1+1))=xOf n (l.take 1)/\yOf n (l.take (1+1))=ofT n l[1]/\yOf n (l.take 1)=⟨#[]⟩:=by
 match l,h with
 | t::u::l,h=>simp[xOf,yOf]
theorem qoy(n:Nms)(a:Am)(va:Vq)(b:Nat)(w:Wq)(hS:Qd w b va a.args)(hl:a.args.length<=2)(hn:∀t∈a.args,t.num < 6) :
  Calls Tryz.prog 89 #[n.v,.agg #[.string a.rel,va]] w λe w'=>e=.returned (qb n a).v/\Below w.heap.size w w':=by
 obtain⟨ta,tc,htf⟩:=hS.form
 have Ql:∀k (hk:k < a.args.length),∃g,ta=some ⟨g,0,none⟩/\w.cell? ⟨g,k*2,none⟩=some (.string (a.args[k]).name)/\w.cell? ⟨g,k*2+1,none⟩=some (.int .i64 (a.args[k]).num)/\g < w.heap.size:=by
  intro k hk;obtain⟨g,c',h1,h2,h3,h4⟩:=qfc hS hk;rw[htf] at h1;cases h1;exact⟨g,rfl,h2,h3,h4⟩
 subst htf;have hof:Hid (∀k (hk:k < a.args.length) W,Calls Tryz.prog 151 #[n.v,.agg #[.string (a.args[k]).name,.int .i64 (a.args[k]).num]] W λe w'=>e=.returned (.string (ofT n a.args[k]))/\Below W.heap.size W w'):=λk hk W=>q4p n a.args[k] (hn _ (List.getElem_mem hk)) W;have HC:Hid _:=Ql;clear Ql hS hn;unfold Nms.v Nms.c at hof ⊢;unfold Gd.v Gd.c;go_enter Tryz.func89,Tryz.ntmps89;go_wp2;obtain⟨N,hN⟩:∃N,w.heap.size=N:=⟨_,rfl⟩;simp only[hN];obtain⟨W0,hW0⟩:∃W0,((((w.alloc (.cells n.c 176)).alloc (.cells #[.string a.rel,.slice ta a.args.length tc] 92)).alloc (.cells #[.string ⟨#[]⟩,.string ⟨#[]⟩,.string ⟨#[]⟩] 111)).alloc (.cells #[.string a.rel,.string ⟨#[]⟩,.string ⟨#[]⟩] 111))=W0:=⟨_,rfl⟩;have hsz:W0.heap.size=N+4:=by rw[<- hW0,<- hN];simp
 have hB0:Below N w W0:=by
  rw[<- hW0,<- hN];exact ((((Below.refl _ w).alloc zl _).alloc (by simp) _).alloc (by simp;omega) _).alloc (by simp;omega) _
 have b0:W0.heap[N]?=some (Obj.cells n.c 176):=by
  rw[<- hW0,<- hN];exact (Below.heap_alloc _ _ _ (by simp;omega)).trans ((Below.heap_alloc _ _ _ (by simp;omega)).trans ((Below.heap_alloc _ _ _ (by simp)).trans (World.alloc_heap_new w _)))
 have b2:W0.heap[N+1+1]?=some (Obj.cells #[.string ⟨#[]⟩,.string ⟨#[]⟩,.string ⟨#[]⟩] 111):=by
  rw[<- hW0,<- hN];refine (Below.heap_alloc _ _ _ (by simp)).trans ?_;have:=World.alloc_heap_new ((w.alloc (.cells n.c 176)).alloc (.cells #[.string a.rel,.slice ta a.args.length tc] 92)) (.cells #[.string ⟨#[]⟩,.string ⟨#[]⟩,.string ⟨#[]⟩] 111);simpa using this
 have b3:W0.heap[N+1+1+1]?=some (Obj.cells #[.string a.rel,.string ⟨#[]⟩,.string ⟨#[]⟩] 111):=by
  rw[<- hW0,<- hN];have:=World.alloc_heap_new (((w.alloc (.cells n.c 176)).alloc (.cells #[.string a.rel,.slice ta a.args.length tc] 92)).alloc (.cells #[.string ⟨#[]⟩,.string ⟨#[]⟩,.string ⟨#[]⟩] 111)) (.cells #[.string a.rel,.string ⟨#[]⟩,.string ⟨#[]⟩] 111);simpa using this
 unfold Nms.c at hW0 b0;rw[hW0];clear hW0
 go_loopw [14] (λi wr=>∃k:Nat,k<=a.args.length/\i=.int .i64 k/\N+4<=wr.heap.size/\wr.heap[N]?=some (Obj.cells #[.string n.a0,.string n.a1,.string n.a2,.string n.a3,.string n.a4,.string n.a5] 176)/\wr.heap[N+1+1]?=some (Obj.cells #[.string ⟨#[]⟩,.string ⟨#[]⟩,.string ⟨#[]⟩] 111)/\wr.heap[N+1+1+1]?=some (Obj.cells #[.string a.rel,.string (xOf n (a.args.take k)),.string (yOf n (a.args.take k))] 111)/\Below N w wr) (λi _=>a.args.length - (intOf i).toNat)
 case atStart=>exact⟨0,Nat.zero_le _,rfl,by omega,b0,b2,b3,hB0⟩
 case round=>
  obtain⟨k,hk,rfl,hs4,h0,h2,h3,hB⟩:=hrel;by_cases hlt:k < a.args.length
  ·obtain⟨g,rfl,q0,q1,hg⟩:=HC.out k hlt;have q0':=(hB.cell (p:=⟨g,k*2,none⟩) (by rw[<- hN];exact hg)).trans q0;have q1':=(hB.cell (p:=⟨g,k*2+1,none⟩) (by rw[<- hN];exact hg)).trans q1;have qbb:=hof.out k hlt;have i1:(k:Int) < (a.args.length:Int):=by omega
   have hkk:k=0\/k=1:=by omega
   have n0:∀O,(wr.alloc O).cell? ⟨N,0,none⟩=some (.string n.a0):=λO=>cell_later ((Below.refl wr.heap.size wr).alloc zl O) (by simp[World.cell?,h0]);have n1:∀O,(wr.alloc O).cell? ⟨N,1,none⟩=some (.string n.a1):=λO=>cell_later ((Below.refl wr.heap.size wr).alloc zl O) (by simp[World.cell?,h0]);have n2:∀O,(wr.alloc O).cell? ⟨N,2,none⟩=some (.string n.a2):=λO=>cell_later ((Below.refl wr.heap.size wr).alloc zl O) (by simp[World.cell?,h0]);have n3:∀O,(wr.alloc O).cell? ⟨N,3,none⟩=some (.string n.a3):=λO=>cell_later ((Below.refl wr.heap.size wr).alloc zl O) (by simp[World.cell?,h0]);have n4:∀O,(wr.alloc O).cell? ⟨N,4,none⟩=some (.string n.a4):=λO=>cell_later ((Below.refl wr.heap.size wr).alloc zl O) (by simp[World.cell?,h0]);have n5:∀O,(wr.alloc O).cell? ⟨N,5,none⟩=some (.string n.a5):=λO=>cell_later ((Below.refl wr.heap.size wr).alloc zl O) (by simp[World.cell?,h0]);have ne:N≠wr.heap.size:=by omega
   have hst:Hid (∀O W1,Below (wr.alloc O).heap.size (wr.alloc O) W1->N+4<=W1.heap.size/\W1.heap[N]?=some (Obj.cells #[.string n.a0,.string n.a1,.string n.a2,.string n.a3,.string n.a4,.string n.a5] 176)/\W1.heap[N+1+1]?=some (Obj.cells #[.string ⟨#[]⟩,.string ⟨#[]⟩,.string ⟨#[]⟩] 111)/\W1.heap[N+1+1+1]?=some (Obj.cells #[.string a.rel,.string (xOf n (a.args.take k)),.string (yOf n (a.args.take k))] 111)/\Below N w W1):=by
    intro O W1 hb;have hb0:Below wr.heap.size wr W1:=((Below.refl _ wr).alloc zl O).trans (hb.mono (by simp));have hz:=hb0.size;exact⟨by omega,(hb0.block _ (by omega)).trans h0,(hb0.block _ (by omega)).trans h2,(hb0.block _ (by omega)).trans h3,hB.trans (hb0.mono (by omega))⟩
   clear q0 q1 h0 h2 h3 hB;rcases hkk with rfl | rfl
   ·have hx:Hid _:=q5n n a.args hlt;generalize a.args[0]=tk at *
    go_wp2_with (go_at_call 151;refine (qbb _).mono ?_;rintro e W1 ⟨rfl,hb1⟩;obtain⟨r1,r2,r3,r4,r5⟩:=hst.out _ _ hb1;have f1:W1.frozen? ⟨N+1+1+1,1,none⟩=false:=(by simp[World.frozen?,r4]);have d1:W1.cell? ⟨N+1+1+1,1,none⟩=some (.string (xOf n (a.args.take 0))):=(by simp[World.cell?,r4]))
    go_roundw
    case rel=>
     refine⟨0+1,by omega,by go_num,?_,?_,?_,?_,?_⟩
     ·simpa using r1
     ·exact (Below.heap_setCell _ _ _ _ (by show N≠N+1+1+1;omega)).trans r2
     ·exact (Below.heap_setCell _ _ _ _ (by show N+1+1≠N+1+1+1;omega)).trans r3
     ·have:=Qi r4 1 (.string (ofT n tk));rw[hx.out.1,hx.out.2.1];rw[hx.out.2.2.1,hx.out.2.2.2] at this;exact this
     ·exact r5.setCell (p:=⟨N+1+1+1,1,none⟩) (by simp;omega) _
    case measure=>simp[intOf];omega
   ·have hx:Hid _:=q5o n a.args hlt;generalize a.args[1]=tk at *
    go_wp2_with (go_at_call 151;refine (qbb _).mono ?_;rintro e W1 ⟨rfl,hb1⟩;obtain⟨r1,r2,r3,r4,r5⟩:=hst.out _ _ hb1;have f1:W1.frozen? ⟨N+1+1+1,2,none⟩=false:=(by simp[World.frozen?,r4]);have d1:W1.cell? ⟨N+1+1+1,2,none⟩=some (.string (yOf n (a.args.take 1))):=(by simp[World.cell?,r4]))
    go_roundw
    case rel=>
     refine⟨1+1,by omega,by go_num,?_,?_,?_,?_,?_⟩
     ·simpa using r1
     ·exact (Below.heap_setCell _ _ _ _ (by show N≠N+1+1+1;omega)).trans r2
     ·exact (Below.heap_setCell _ _ _ _ (by show N+1+1≠N+1+1+1;omega)).trans r3
     ·have:=Qi r4 2 (.string (ofT n tk));rw[hx.out.1,hx.out.2.1];exact this
     ·exact r5.setCell (p:=⟨N+1+1+1,2,none⟩) (by simp;omega) _
    case measure=>simp[intOf];omega
  ·have hka:k=a.args.length:=by omega
   have d0:wr.cell? ⟨N+1+1+1,0,none⟩=some (.string a.rel):=by simp[World.cell?,h3]
   have d1:wr.cell? ⟨N+1+1+1,1,none⟩=some (.string (xOf n (a.args.take k))):=by simp[World.cell?,h3]
   have d2:wr.cell? ⟨N+1+1+1,2,none⟩=some (.string (yOf n (a.args.take k))):=by simp[World.cell?,h3]
   have e0:wr.cell? ⟨N+1+1,0,none⟩=some (.string ⟨#[]⟩):=by simp[World.cell?,h2]
   have e1:wr.cell? ⟨N+1+1,1,none⟩=some (.string ⟨#[]⟩):=by simp[World.cell?,h2]
   have e2:wr.cell? ⟨N+1+1,2,none⟩=some (.string ⟨#[]⟩):=by simp[World.cell?,h2]
   have g0:wr.frozen? ⟨N+1+1,0,none⟩=false:=by simp[World.frozen?,h2]
   have g1:wr.frozen? ⟨N+1+1,1,none⟩=false:=by simp[World.frozen?,h2]
   have g2:wr.frozen? ⟨N+1+1,2,none⟩=false:=by simp[World.frozen?,h2]
   have qbr:Hid (qb n a=⟨a.rel,xOf n (a.args.take k),yOf n (a.args.take k)⟩):=by show _=_;rw[hka,List.take_length];rfl
   generalize xOf n (a.args.take k)=gx at *;generalize yOf n (a.args.take k)=gy at *;clear h0 h2 h3;go_wp2;refine bodyPost_ret (v:=.agg #[.string a.rel,.string gx,.string gy]) (by simp[results,Tryz.results89,go_sem,e0,e1,e2]) rfl ?_;rw[qbr.out,hN];exact⟨rfl,((hB.setCell (p:=⟨N+1+1,0,none⟩) (by simp;omega) _).setCell (p:=⟨N+1+1,1,none⟩) (by simp;omega) _).setCell (p:=⟨N+1+1,2,none⟩) (by simp;omega) _⟩
