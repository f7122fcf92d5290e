/- A part -/
import Derived.Test.YtjajnhemgphefaaGreatDoorJEgB
set_option linter.all false
set_option maxHeartbeats 2000000
open List renaming length->aB
open Go.World renaming cell?->aC,frozen?->aD
open Go.Value renaming slice->aH,string->aI,agg->aJ,bool->aK,int->aM
open Go.Obj renaming cells->aN
open Go.Ending renaming returned->aO
open Go.IntKind renaming i64->aP
open Option renaming some->aV,none->aW
open Go.RowKit.Below renaming refl->aX,heap_alloc->aY,heap_setCell->aZ
open Go renaming cell_later->bB
namespace Go.Proofs.YtjajnhemgphefaaGreatDoor
open Go renaming World->Wq,Value->Vq
open Go.RowKit Go.Shelf
structure dF where
 a0:ByteArray
 a1:ByteArray
 a2:ByteArray
 a3:ByteArray
 a4:ByteArray
 a5:ByteArray
def dF.get(n:dF):Nat->ByteArray
 |0=>n.a0
 |1=>n.a1
 |2=>n.a2
 |3=>n.a3
 |4=>n.a4
 |5=>n.a5
 |_=>⟨#[]⟩
def dF.c(n:dF):Array Vq:=#[aI n.a0,aI n.a1,aI n.a2,aI n.a3,aI n.a4,aI n.a5]
def dF.v(n:dF):Vq:=aJ n.c
def dI(n:dF)(t:Tm):ByteArray:=if t.name.toList.isEmpty=true then n.get t.num else t.name
theorem dF.cell(n:dF)(k:Nat)(h:k<6):n.c[k]?=aV (St (n.get k)):=by
 have d:k=0\/k=1\/k=2\/k=3\/k=4\/k=5:=by omega
 rcases d with rfl|rfl|rfl|rfl|rfl|rfl<;>rfl
theorem B8(n:dF)(t:Tm)(E:t.num<6)(w:Wq):Cs 151 #[n.v,aJ #[St t.name,Ii t.num]] w λe w'=>e=aO (St (dI n t))/\Below w.heap.size w w':=by
 have A:Hid (∀W,Cs 139 #[aJ #[St t.name,Ii t.num]] W λe w'=>e=aO (aK t.name.toList.isEmpty)/\Below W.heap.size W w'):=λW=>pu t W
 have z:Hid (∀W1,Below ((w.alloc (aN n.c 176)).alloc (aN #[St t.name,Ii t.num] 166)).heap.size ((w.alloc (aN n.c 176)).alloc (aN #[St t.name,Ii t.num] 166)) W1->
   aC W1 (Ad w.heap.size t.num)=aV (St (n.get t.num))/\aC W1 (Ad (w.heap.size+1) 0)=aV (St t.name)/\aC W1 (Ad (w.heap.size+1) 1)=aV (Ii t.num)/\Below w.heap.size w W1):=by
  intro W1 d;refine⟨?_,?_,?_,(((aX _ w).alloc zl _).alloc (by simp) _).trans (d.mono (by simp;omega))⟩;{rw[d.cell (p:=⟨w.heap.size,t.num,aW⟩) (by simp;omega)];have C:((w.alloc (aN n.c 176)).alloc (aN #[St t.name,Ii t.num] 166)).heap[w.heap.size]?=aV (aN n.c 176):=(aY _ _ _ (by simp)).trans (zn w _);simp only[aC,C];simpa using n.cell _ E};{rw[d.cell (p:=⟨w.heap.size+1,0,aW⟩) (by simp)];simp};{rw[d.cell (p:=⟨w.heap.size+1,1,aW⟩) (by simp)];simp}
 have ad:Hid (dI n t=if t.name.toList.isEmpty=true then n.get t.num else t.name):=rfl;unfold dF.c at z;unfold dF.v dF.c;have G:(t.num:Int)<6:=by omega
 generalize dI n t=res at *;generalize n.get t.num=gt at *;generalize t.num=tn at *;generalize htv:t.name.toList.isEmpty=tv at *;clear htv;generalize t.name=tx at *
 cases tv with
 |false=>
  go_enter Tryz.func151,Tryz.ntmps151
  go_wp2_with (go_at_call 139;refine (A.o _).mono ?_;rintro e W1 ⟨rfl,ab⟩;have⟨k1,k2,k3,k4⟩:=z.o _ ab)
  go_ret;exact⟨by rw[ad.o];rfl,k4⟩
 |true=>
  go_enter Tryz.func151,Tryz.ntmps151
  go_wp2_with (go_at_call 139;refine (A.o _).mono ?_;rintro e W1 ⟨rfl,ab⟩;have⟨k1,k2,k3,k4⟩:=z.o _ ab)
  go_ret;exact⟨by rw[ad.o];rfl,k4⟩
structure Gd where
 rel:ByteArray
 x:ByteArray
 y:ByteArray
def Gd.c(g:Gd):Array Vq:=#[aI g.rel,aI g.x,aI g.y]
def Gd.v(g:Gd):Vq:=aJ g.c
def fM(n:dF)(l:List Tm):ByteArray:=match l with| []=>⟨#[]⟩|t::_=>dI n t
def fK(n:dF)(l:List Tm):ByteArray:=match l with|_::t::_=>dI n t|_=>⟨#[]⟩
def qb(n:dF)(a:Am):Gd:=⟨a.rel,fM n a.args,fK n a.args⟩
theorem Dq(n:dF)(l:List Tm)(h:0<aB l):fM n (l.take (0+1))=dI n l[0]/\fK n (l.take (0+1))=⟨#[]⟩/\fM n (l.take 0)=⟨#[]⟩/\fK n (l.take 0)=⟨#[]⟩:=by
 cases l with
 |nil=>simp at h
 |cons t l=>simp[fM,fK]
theorem GE(n:dF)(l:List Tm)(h:1<aB l):fM n (l.take (1+1))=fM n (l.take 1)/\fK n (l.take (1+1))=dI n l[1]/\fK n (l.take 1)=⟨#[]⟩:=by
 match l,h with
 |t::u::l,h=>simp[fM,fK]
theorem vF(n:dF)(a:Am)(va:Vq)(b:Nat)(w:Wq)(hS:Qh w b va a.args)(hl:aB a.args<=2)(hn:∀t∈a.args,t.num<6):Cs 89 #[n.v,aJ #[aI a.rel,va]] w λe w'=>e=aO (qb n a).v/\Below w.heap.size w w':=by
 obtain⟨ta,tc,al⟩:=hS.form;have Ql:∀k (Z:k<aB a.args),∃g,ta=aV ⟨g,0,aW⟩/\aC w (Ad g (k*2))=aV (aI (a.args[k]).name)/\aC w (Ad g (k*2+1))=aV (aM aP (a.args[k]).num)/\g<w.heap.size:=by grind [pF]
 subst al;have ad:Hid (∀k (Z:k<aB a.args) W,Cs 151 #[n.v,aJ #[aI (a.args[k]).name,aM aP (a.args[k]).num]] W λe w'=>e=aO (aI (dI n a.args[k]))/\Below W.heap.size W w'):=λk Z W=>B8 n a.args[k] (hn _ (zm Z)) W;have HC:Hid _:=Ql;clear Ql hS hn;unfold dF.v dF.c at ad ⊢;unfold Gd.v Gd.c;go_enter Tryz.func89,Tryz.ntmps89;go_wp2;obtain⟨N,d⟩:∃N,w.heap.size=N:=⟨_,rfl⟩;simp only[d];obtain⟨W0,aa⟩:∃W0,((((w.alloc (aN n.c 176)).alloc (aN #[aI a.rel,aH ta (aB a.args) tc] 92)).alloc (aN #[aI ⟨#[]⟩,aI ⟨#[]⟩,aI ⟨#[]⟩] 111)).alloc (aN #[aI a.rel,aI ⟨#[]⟩,aI ⟨#[]⟩] 111))=W0:=⟨_,rfl⟩;have au:W0.heap.size=N+4:=by rw[<-aa,<-d];simp
 have ak:Below N w W0:=by rw[<-aa,<-d];exact ((((aX _ w).alloc zl _).alloc (by simp) _).alloc (by simp;omega) _).alloc (by simp;omega) _
 have b0:W0.heap[N]?=aV (aN n.c 176):=by rw[<-aa,<-d];exact (aY _ _ _ (by simp;omega)).trans ((aY _ _ _ (by simp;omega)).trans ((aY _ _ _ (by simp)).trans (zn w _)))
 have b2:W0.heap[N+1+1]?=cC #[aI ⟨#[]⟩,aI ⟨#[]⟩,aI ⟨#[]⟩] 111:=by rw[<-aa,<-d];refine (aY _ _ _ (by simp)).trans ?_;have:=zn ((w.alloc (aN n.c 176)).alloc (aN #[aI a.rel,aH ta (aB a.args) tc] 92)) (aN #[aI ⟨#[]⟩,aI ⟨#[]⟩,aI ⟨#[]⟩] 111);simpa using this
 have b3:W0.heap[N+1+1+1]?=cC #[aI a.rel,aI ⟨#[]⟩,aI ⟨#[]⟩] 111:=by rw[<-aa,<-d];have:=zn (((w.alloc (aN n.c 176)).alloc (aN #[aI a.rel,aH ta (aB a.args) tc] 92)).alloc (aN #[aI ⟨#[]⟩,aI ⟨#[]⟩,aI ⟨#[]⟩] 111)) (aN #[aI a.rel,aI ⟨#[]⟩,aI ⟨#[]⟩] 111);simpa using this
 unfold dF.c at aa b0;rw[aa];clear aa
 go_loopw [14] (λi wr=>∃k:Nat,k<=aB a.args/\i=aM aP k/\N+4<=wr.heap.size/\wr.heap[N]?=aV (aN #[aI n.a0,aI n.a1,aI n.a2,aI n.a3,aI n.a4,aI n.a5] 176)/\wr.heap[N+1+1]?=aV (aN #[aI ⟨#[]⟩,aI ⟨#[]⟩,aI ⟨#[]⟩] 111)/\wr.heap[N+1+1+1]?=aV (aN #[aI a.rel,aI (fM n (a.args.take k)),aI (fK n (a.args.take k))] 111)/\Below N w wr) (λi _=>aB a.args-(intOf i).toNat)
 case atStart=>exact⟨0,zz,rfl,by omega,b0,b2,b3,ak⟩
 case round=>
  obtain⟨k,Z,rfl,aq,h0,z,E,M⟩:=hrel;by_cases ae:k<aB a.args
  .obtain⟨g,rfl,q0,q1,hg⟩:=HC.o k ae;have ap:=(M.cell (p:=⟨g,k*2,aW⟩) (by rw[<-d];exact hg)).trans q0;have ao:=(M.cell (p:=⟨g,k*2+1,aW⟩) (by rw[<-d];exact hg)).trans q1;have ag:=ad.o k ae;have i1:(k:Int)<(aB a.args:Int):=by omega
   have aj:k=0\/k=1:=by omega
   have n0:∀O,aC (wr.alloc O) (Ad N 0)=aV (aI n.a0):=λO=>bB ((aX wr.heap.size wr).alloc zl O) (by simp[aC,h0]);have n1:∀O,aC (wr.alloc O) (Ad N 1)=aV (aI n.a1):=λO=>bB ((aX wr.heap.size wr).alloc zl O) (by simp[aC,h0]);have n2:∀O,aC (wr.alloc O) (Ad N 2)=aV (aI n.a2):=λO=>bB ((aX wr.heap.size wr).alloc zl O) (by simp[aC,h0]);have n3:∀O,aC (wr.alloc O) (Ad N 3)=aV (aI n.a3):=λO=>bB ((aX wr.heap.size wr).alloc zl O) (by simp[aC,h0]);have n4:∀O,aC (wr.alloc O) (Ad N 4)=aV (aI n.a4):=λO=>bB ((aX wr.heap.size wr).alloc zl O) (by simp[aC,h0]);have n5:∀O,aC (wr.alloc O) (Ad N 5)=aV (aI n.a5):=λO=>bB ((aX wr.heap.size wr).alloc zl O) (by simp[aC,h0]);have ne:N≠wr.heap.size:=by omega
   have af:Hid (∀O W1,Below (wr.alloc O).heap.size (wr.alloc O) W1->N+4<=W1.heap.size/\W1.heap[N]?=cC #[aI n.a0,aI n.a1,aI n.a2,aI n.a3,aI n.a4,aI n.a5] 176/\W1.heap[N+1+1]?=cC #[aI ⟨#[]⟩,aI ⟨#[]⟩,aI ⟨#[]⟩] 111/\W1.heap[N+1+1+1]?=cC #[aI a.rel,aI (fM n (a.args.take k)),aI (fK n (a.args.take k))] 111/\Below N w W1):=by intro O W1 hb;have G:Below wr.heap.size wr W1:=((aX _ wr).alloc zl O).trans (hb.mono (by simp));have hz:=G.size;exact⟨by omega,(G.block _ (by omega)).trans h0,(G.block _ (by omega)).trans z,(G.block _ (by omega)).trans E,M.trans (G.mono (by omega))⟩
   clear q0 q1 h0 z E M;rcases aj with rfl|rfl
   .have A:Hid _:=Dq n a.args ae;generalize a.args[0]=tk at *
    go_wp2_with (go_at_call 151;refine (ag _).mono ?_;rintro e W1 ⟨rfl,ab⟩;obtain⟨r1,r2,r3,C,r5⟩:=af.o _ _ ab;have f1:aD W1 (Ad (N+1+1+1) 1)=false:=(by simp[aD,C]);have d1:aC W1 (Ad (N+1+1+1) 1)=aV (aI (fM n (a.args.take 0))):=(by simp[aC,C]))
    go_roundw
    case rel=>
     refine⟨0+1,by omega,by go_num,?_,?_,?_,?_,?_⟩
     .simpa using r1
     .exact (aZ _ _ _ _ (by show N≠N+1+1+1;omega)).trans r2
     .exact (aZ _ _ _ _ (by show N+1+1≠N+1+1+1;omega)).trans r3
     .have:=qw C 1 (aI (dI n tk));rw[A.o.1,A.o.2.1];rw[A.o.2.2.1,A.o.2.2.2] at this;exact this
     .exact r5.setCell (p:=⟨N+1+1+1,1,aW⟩) (by simp;omega) _
    case measure=>simp[intOf];omega
   .have A:Hid _:=GE n a.args ae;generalize a.args[1]=tk at *
    go_wp2_with (go_at_call 151;refine (ag _).mono ?_;rintro e W1 ⟨rfl,ab⟩;obtain⟨r1,r2,r3,C,r5⟩:=af.o _ _ ab;have f1:aD W1 (Ad (N+1+1+1) 2)=false:=(by simp[aD,C]);have d1:aC W1 (Ad (N+1+1+1) 2)=aV (aI (fK n (a.args.take 1))):=(by simp[aC,C]))
    go_roundw
    case rel=>
     refine⟨1+1,by omega,by go_num,?_,?_,?_,?_,?_⟩
     .simpa using r1
     .exact (aZ _ _ _ _ (by show N≠N+1+1+1;omega)).trans r2
     .exact (aZ _ _ _ _ (by show N+1+1≠N+1+1+1;omega)).trans r3
     .have:=qw C 2 (aI (dI n tk));rw[A.o.1,A.o.2.1];exact this
     .exact r5.setCell (p:=⟨N+1+1+1,2,aW⟩) (by simp;omega) _
    case measure=>simp[intOf];omega
  .have am:k=aB a.args:=by omega
   have d0:aC wr (Ad (N+1+1+1) 0)=aV (aI a.rel):=zc E;have d1:aC wr (Ad (N+1+1+1) 1)=aV (aI (fM n (a.args.take k))):=zc E;have d2:aC wr (Ad (N+1+1+1) 2)=aV (aI (fK n (a.args.take k))):=zc E;have e0:aC wr (Ad (N+1+1) 0)=aV (aI ⟨#[]⟩):=zc z;have e1:aC wr (Ad (N+1+1) 1)=aV (aI ⟨#[]⟩):=zc z;have e2:aC wr (Ad (N+1+1) 2)=aV (aI ⟨#[]⟩):=zc z;have g0:∀j,aD wr (Ad (N+1+1) j)=false:=λj=>by simp[aD,z]
   have ai:Hid (qb n a=⟨a.rel,fM n (a.args.take k),fK n (a.args.take k)⟩):=by show _=_;rw[am,List.take_length];rfl
   generalize fM n (a.args.take k)=gx at *;generalize fK n (a.args.take k)=gy at *;clear h0 z E;go_wp2;refine bodyPost_ret (v:=aJ #[aI a.rel,aI gx,aI gy]) (by simp[results,Tryz.results89,go_sem,e0,e1,e2]) rfl ?_;rw[ai.o,d];exact⟨rfl,((M.setCell (p:=⟨N+1+1,0,aW⟩) (by simp;omega) _).setCell (p:=⟨N+1+1,1,aW⟩) (by simp;omega) _).setCell (p:=⟨N+1+1,2,aW⟩) (by simp;omega) _⟩
