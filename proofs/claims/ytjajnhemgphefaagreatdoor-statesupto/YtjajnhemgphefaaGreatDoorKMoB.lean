/- A part -/
import Derived.Test.YtjajnhemgphefaaGreatDoorKEgB
set_option linter.all false
set_option maxHeartbeats 2000000
namespace Go.Proofs.YtjajnhemgphefaaGreatDoor
open Go renaming World->Wq,Value->Vq
open Go.RowKit Go.Shelf
structure Nms where
 a0:By
 a1:By
 a2:By
 a3:By
 a4:By
 a5:By
def Nms.get(n:Nms):Nat->By
 | 0=>n.a0
 | 1=>n.a1
 | 2=>n.a2
 | 3=>n.a3
 | 4=>n.a4
 | 5=>n.a5
 | _=>⟨#[]⟩
def Nms.c(n:Nms):Array Vq:=#[.string n.a0,.string n.a1,.string n.a2,.string n.a3,.string n.a4,.string n.a5]
def Nms.v(n:Nms):Vq:=.agg n.c
def ofT(n:Nms)(t:Tm):By:=if t.name.toList.isEmpty=true then n.get t.num else t.name
theorem Nms.cell(n:Nms)(k:Nat)(h:k < 6):n.c[k]?=some (.string (n.get k)):=by
 have hc:k=0\/k=1\/k=2\/k=3\/k=4\/k=5:=by omega
 rcases hc with rfl | rfl | rfl | rfl | rfl | rfl <;> rfl
theorem q5q(n:Nms)(t:Tm)(ht:t.num < 6)(w:Wq) :
  Cs 151 #[n.v,.agg #[.string t.name,.int .i64 t.num]] w λe w'=>e=.returned (.string (ofT n t))/\Below w.heap.size w w':=by
 have af:Hid (∀W,Cs 139 #[.agg #[.string t.name,.int .i64 t.num]] W λe w'=>e=.returned (.bool t.name.toList.isEmpty)/\Below W.heap.size W w'):=λW=>qb6 t W
 have hA:Hid (∀W1,Below ((w.alloc (.cells n.c 176)).alloc (.cells #[.string t.name,.int .i64 t.num] 166)).heap.size ((w.alloc (.cells n.c 176)).alloc (.cells #[.string t.name,.int .i64 t.num] 166)) W1->
   W1.cell? (Ad w.heap.size t.num)=some (.string (n.get t.num))/\W1.cell? (Ad (w.heap.size+1) 0)=some (.string t.name)/\W1.cell? (Ad (w.heap.size+1) 1)=some (.int .i64 t.num)/\Below w.heap.size w W1):=by
  intro W1 hb;refine⟨?_,?_,?_,(((Below.refl _ w).alloc zl _).alloc (by simp) _).trans (hb.mono (by simp;omega))⟩
  .rw[hb.cell (p:=⟨w.heap.size,t.num,none⟩) (by simp;omega)];have hh:((w.alloc (.cells n.c 176)).alloc (.cells #[.string t.name,.int .i64 t.num] 166)).heap[w.heap.size]?=some (Obj.cells n.c 176):=(Below.heap_alloc _ _ _ (by simp)).trans (zn w _);simp only[World.cell?,hh];simpa using n.cell _ ht
  .rw[hb.cell (p:=⟨w.heap.size+1,0,none⟩) (by simp)];simp
  .rw[hb.cell (p:=⟨w.heap.size+1,1,none⟩) (by simp)];simp
 have ad:Hid (ofT n t=if t.name.toList.isEmpty=true then n.get t.num else t.name):=rfl;unfold Nms.c at hA;unfold Nms.v Nms.c;have i1:(t.num:Int) < 6:=by omega
 generalize ofT n t=res at *;generalize n.get t.num=gt at *;generalize t.num=tn at *;generalize htv:t.name.toList.isEmpty=tv at *;clear htv;generalize t.name=tx at *
 cases tv with
 | false=>
  go_enter Tryz.func151,Tryz.ntmps151
  go_wp2_with (go_at_call 139;refine (af.out _).mono ?_;rintro e W1 ⟨rfl,ab⟩;obtain⟨k1,k2,k3,k4⟩:=hA.out _ ab)
  go_ret;exact⟨by rw[ad.out];rfl,k4⟩
 | true=>
  go_enter Tryz.func151,Tryz.ntmps151
  go_wp2_with (go_at_call 139;refine (af.out _).mono ?_;rintro e W1 ⟨rfl,ab⟩;obtain⟨k1,k2,k3,k4⟩:=hA.out _ ab)
  go_ret;exact⟨by rw[ad.out];rfl,k4⟩
structure Gd where
 rel:By
 x:By
 y:By
def Gd.c(g:Gd):Array Vq:=#[.string g.rel,.string g.x,.string g.y]
def Gd.v(g:Gd):Vq:=.agg g.c
def xOf(n:Nms)(l:List Tm):By:=match l with | []=>⟨#[]⟩ | t::_=>ofT n t
def yOf(n:Nms)(l:List Tm):By:=match l with | _::t::_=>ofT n t | _=>⟨#[]⟩
def qb(n:Nms)(a:Am):Gd:=⟨a.rel,xOf n a.args,yOf n a.args⟩
theorem q6s(n:Nms)(l:List Tm)(h:0 < l.length):xOf n (l.take (0+1))=ofT n l[0]/\yOf n (l.take (0+1))=⟨#[]⟩/\xOf n (l.take 0)=⟨#[]⟩/\yOf n (l.take 0)=⟨#[]⟩:=by
 cases l with
 | nil=>simp at h
 | cons t l=>simp[xOf,yOf]
theorem q6t(n:Nms)(l:List Tm)(h:1 < l.length):xOf n (l.take (1+1))=xOf n (l.take 1)/\yOf n (l.take (1+1))=ofT n l[1]/\yOf n (l.take 1)=⟨#[]⟩:=by
 match l,h with
 | t::u::l,h=>simp[xOf,yOf]
theorem qkw(n:Nms)(a:Am)(va:Vq)(b:Nat)(w:Wq)(hS:Qi w b va a.args)(hl:a.args.length<=2)(hn:∀t∈a.args,t.num < 6) :
  Cs 89 #[n.v,.agg #[.string a.rel,va]] w λe w'=>e=.returned (qb n a).v/\Below w.heap.size w w':=by
 obtain⟨ta,tc,ai⟩:=hS.form
 have Qj:∀k (hk:k < a.args.length),∃g,ta=some ⟨g,0,none⟩/\w.cell? (Ad g (k*2))=some (.string (a.args[k]).name)/\w.cell? (Ad g (k*2+1))=some (.int .i64 (a.args[k]).num)/\g < w.heap.size:=by
  intro k hk;obtain⟨g,c',h1,h2,h3,h4⟩:=qfn hS hk;rw[ai] at h1;cases h1;exact⟨g,rfl,h2,h3,h4⟩
 subst ai;have ad:Hid (∀k (hk:k < a.args.length) W,Cs 151 #[n.v,.agg #[.string (a.args[k]).name,.int .i64 (a.args[k]).num]] W λe w'=>e=.returned (.string (ofT n a.args[k]))/\Below W.heap.size W w'):=λk hk W=>q5q n a.args[k] (hn _ (zm hk)) W;have HC:Hid _:=Qj;clear Qj hS hn;unfold Nms.v Nms.c at ad ⊢;unfold Gd.v Gd.c;go_enter Tryz.func89,Tryz.ntmps89;go_wp2;obtain⟨N,hN⟩:∃N,w.heap.size=N:=⟨_,rfl⟩;simp only[hN];obtain⟨W0,aa⟩:∃W0,((((w.alloc (.cells n.c 176)).alloc (.cells #[.string a.rel,.slice ta a.args.length tc] 92)).alloc (.cells #[.string ⟨#[]⟩,.string ⟨#[]⟩,.string ⟨#[]⟩] 111)).alloc (.cells #[.string a.rel,.string ⟨#[]⟩,.string ⟨#[]⟩] 111))=W0:=⟨_,rfl⟩;have ap:W0.heap.size=N+4:=by rw[<- aa,<- hN];simp
 have am:Below N w W0:=by
  rw[<- aa,<- hN];exact ((((Below.refl _ w).alloc zl _).alloc (by simp) _).alloc (by simp;omega) _).alloc (by simp;omega) _
 have b0:W0.heap[N]?=some (Obj.cells n.c 176):=by
  rw[<- aa,<- hN];exact (Below.heap_alloc _ _ _ (by simp;omega)).trans ((Below.heap_alloc _ _ _ (by simp;omega)).trans ((Below.heap_alloc _ _ _ (by simp)).trans (zn w _)))
 have b2:W0.heap[N+1+1]?=cC #[.string ⟨#[]⟩,.string ⟨#[]⟩,.string ⟨#[]⟩] 111:=by
  rw[<- aa,<- hN];refine (Below.heap_alloc _ _ _ (by simp)).trans ?_;have:=zn ((w.alloc (.cells n.c 176)).alloc (.cells #[.string a.rel,.slice ta a.args.length tc] 92)) (.cells #[.string ⟨#[]⟩,.string ⟨#[]⟩,.string ⟨#[]⟩] 111);simpa using this
 have b3:W0.heap[N+1+1+1]?=cC #[.string a.rel,.string ⟨#[]⟩,.string ⟨#[]⟩] 111:=by
  rw[<- aa,<- hN];have:=zn (((w.alloc (.cells n.c 176)).alloc (.cells #[.string a.rel,.slice ta a.args.length tc] 92)).alloc (.cells #[.string ⟨#[]⟩,.string ⟨#[]⟩,.string ⟨#[]⟩] 111)) (.cells #[.string a.rel,.string ⟨#[]⟩,.string ⟨#[]⟩] 111);simpa using this
 unfold Nms.c at aa b0;rw[aa];clear aa
 go_loopw [14] (λi wr=>∃k:Nat,k<=a.args.length/\i=.int .i64 k/\N+4<=wr.heap.size/\wr.heap[N]?=some (Obj.cells #[.string n.a0,.string n.a1,.string n.a2,.string n.a3,.string n.a4,.string n.a5] 176)/\wr.heap[N+1+1]?=some (Obj.cells #[.string ⟨#[]⟩,.string ⟨#[]⟩,.string ⟨#[]⟩] 111)/\wr.heap[N+1+1+1]?=some (Obj.cells #[.string a.rel,.string (xOf n (a.args.take k)),.string (yOf n (a.args.take k))] 111)/\Below N w wr) (λi _=>a.args.length - (intOf i).toNat)
 case atStart=>exact⟨0,zz,rfl,by omega,b0,b2,b3,am⟩
 case round=>
  obtain⟨k,hk,rfl,ao,h0,h2,h3,hB⟩:=hrel;by_cases ae:k < a.args.length
  .obtain⟨g,rfl,q0,q1,hg⟩:=HC.out k ae;have aq:=(hB.cell (p:=⟨g,k*2,none⟩) (by rw[<- hN];exact hg)).trans q0;have au:=(hB.cell (p:=⟨g,k*2+1,none⟩) (by rw[<- hN];exact hg)).trans q1;have ag:=ad.out k ae;have i1:(k:Int) < (a.args.length:Int):=by omega
   have aj:k=0\/k=1:=by omega
   have n0:∀O,(wr.alloc O).cell? (Ad N 0)=some (.string n.a0):=λO=>cell_later ((Below.refl wr.heap.size wr).alloc zl O) (by simp[World.cell?,h0]);have n1:∀O,(wr.alloc O).cell? (Ad N 1)=some (.string n.a1):=λO=>cell_later ((Below.refl wr.heap.size wr).alloc zl O) (by simp[World.cell?,h0]);have n2:∀O,(wr.alloc O).cell? (Ad N 2)=some (.string n.a2):=λO=>cell_later ((Below.refl wr.heap.size wr).alloc zl O) (by simp[World.cell?,h0]);have n3:∀O,(wr.alloc O).cell? (Ad N 3)=some (.string n.a3):=λO=>cell_later ((Below.refl wr.heap.size wr).alloc zl O) (by simp[World.cell?,h0]);have n4:∀O,(wr.alloc O).cell? (Ad N 4)=some (.string n.a4):=λO=>cell_later ((Below.refl wr.heap.size wr).alloc zl O) (by simp[World.cell?,h0]);have n5:∀O,(wr.alloc O).cell? (Ad N 5)=some (.string n.a5):=λO=>cell_later ((Below.refl wr.heap.size wr).alloc zl O) (by simp[World.cell?,h0]);have ne:N≠wr.heap.size:=by omega
   have ah:Hid (∀O W1,Below (wr.alloc O).heap.size (wr.alloc O) W1->N+4<=W1.heap.size/\W1.heap[N]?=cC #[.string n.a0,.string n.a1,.string n.a2,.string n.a3,.string n.a4,.string n.a5] 176/\W1.heap[N+1+1]?=cC #[.string ⟨#[]⟩,.string ⟨#[]⟩,.string ⟨#[]⟩] 111/\W1.heap[N+1+1+1]?=cC #[.string a.rel,.string (xOf n (a.args.take k)),.string (yOf n (a.args.take k))] 111/\Below N w W1):=by
    intro O W1 hb;have ac:Below wr.heap.size wr W1:=((Below.refl _ wr).alloc zl O).trans (hb.mono (by simp));have hz:=ac.size;exact⟨by omega,(ac.block _ (by omega)).trans h0,(ac.block _ (by omega)).trans h2,(ac.block _ (by omega)).trans h3,hB.trans (ac.mono (by omega))⟩
   clear q0 q1 h0 h2 h3 hB;rcases aj with rfl | rfl
   .have hx:Hid _:=q6s n a.args ae;generalize a.args[0]=tk at *
    go_wp2_with (go_at_call 151;refine (ag _).mono ?_;rintro e W1 ⟨rfl,ab⟩;obtain⟨r1,r2,r3,r4,r5⟩:=ah.out _ _ ab;have f1:W1.frozen? (Ad (N+1+1+1) 1)=false:=(by simp[World.frozen?,r4]);have d1:W1.cell? (Ad (N+1+1+1) 1)=some (.string (xOf n (a.args.take 0))):=(by simp[World.cell?,r4]))
    go_roundw
    case rel=>
     refine⟨0+1,by omega,by go_num,?_,?_,?_,?_,?_⟩
     .simpa using r1
     .exact (Below.heap_setCell _ _ _ _ (by show N≠N+1+1+1;omega)).trans r2
     .exact (Below.heap_setCell _ _ _ _ (by show N+1+1≠N+1+1+1;omega)).trans r3
     .have:=Qd r4 1 (.string (ofT n tk));rw[hx.out.1,hx.out.2.1];rw[hx.out.2.2.1,hx.out.2.2.2] at this;exact this
     .exact r5.setCell (p:=⟨N+1+1+1,1,none⟩) (by simp;omega) _
    case measure=>simp[intOf];omega
   .have hx:Hid _:=q6t n a.args ae;generalize a.args[1]=tk at *
    go_wp2_with (go_at_call 151;refine (ag _).mono ?_;rintro e W1 ⟨rfl,ab⟩;obtain⟨r1,r2,r3,r4,r5⟩:=ah.out _ _ ab;have f1:W1.frozen? (Ad (N+1+1+1) 2)=false:=(by simp[World.frozen?,r4]);have d1:W1.cell? (Ad (N+1+1+1) 2)=some (.string (yOf n (a.args.take 1))):=(by simp[World.cell?,r4]))
    go_roundw
    case rel=>
     refine⟨1+1,by omega,by go_num,?_,?_,?_,?_,?_⟩
     .simpa using r1
     .exact (Below.heap_setCell _ _ _ _ (by show N≠N+1+1+1;omega)).trans r2
     .exact (Below.heap_setCell _ _ _ _ (by show N+1+1≠N+1+1+1;omega)).trans r3
     .have:=Qd r4 2 (.string (ofT n tk));rw[hx.out.1,hx.out.2.1];exact this
     .exact r5.setCell (p:=⟨N+1+1+1,2,none⟩) (by simp;omega) _
    case measure=>simp[intOf];omega
  .have ak:k=a.args.length:=by omega
   have d0:wr.cell? (Ad (N+1+1+1) 0)=some (.string a.rel):=zc h3
   have d1:wr.cell? (Ad (N+1+1+1) 1)=some (.string (xOf n (a.args.take k))):=zc h3
   have d2:wr.cell? (Ad (N+1+1+1) 2)=some (.string (yOf n (a.args.take k))):=zc h3
   have e0:wr.cell? (Ad (N+1+1) 0)=some (.string ⟨#[]⟩):=zc h2
   have e1:wr.cell? (Ad (N+1+1) 1)=some (.string ⟨#[]⟩):=zc h2
   have e2:wr.cell? (Ad (N+1+1) 2)=some (.string ⟨#[]⟩):=zc h2
   have g0:wr.frozen? (Ad (N+1+1) 0)=false:=by simp[World.frozen?,h2]
   have g1:wr.frozen? (Ad (N+1+1) 1)=false:=by simp[World.frozen?,h2]
   have g2:wr.frozen? (Ad (N+1+1) 2)=false:=by simp[World.frozen?,h2]
   have al:Hid (qb n a=⟨a.rel,xOf n (a.args.take k),yOf n (a.args.take k)⟩):=by show _=_;rw[ak,List.take_length];rfl
   generalize xOf n (a.args.take k)=gx at *;generalize yOf n (a.args.take k)=gy at *;clear h0 h2 h3;go_wp2;refine bodyPost_ret (v:=.agg #[.string a.rel,.string gx,.string gy]) (by simp[results,Tryz.results89,go_sem,e0,e1,e2]) rfl ?_;rw[al.out,hN];exact⟨rfl,((hB.setCell (p:=⟨N+1+1,0,none⟩) (by simp;omega) _).setCell (p:=⟨N+1+1,1,none⟩) (by simp;omega) _).setCell (p:=⟨N+1+1,2,none⟩) (by simp;omega) _⟩
