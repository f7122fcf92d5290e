/- A part -/
import Derived.Test.YtjajnhemgphefaaGreatDoorJMoB
set_option linter.all false
set_option maxRecDepth 100000
set_option maxHeartbeats 16000000
open List renaming length->aB,getElem?_eq_some_iff->bB,cons_append->bC,nil_append->bD
open Go.World renaming cell?->aC,frozen?->aD,size_alloc->aX
open Go.Value renaming slice->aH,agg->aJ,bool->aK,tuple->aL,int->aM
open Go.Obj renaming cells->aN
open Go.Ending renaming returned->aO
open Go.IntKind renaming i64->aP
open Option renaming some->aV,none->aW
open Go.RowKit.Below renaming heap_alloc->aY,heap_setCell->aZ,refl->bE
open Go.Proofs.Tryz renaming results157->bF
open Go renaming bodyPost_ret->bG
namespace Go.Proofs.YtjajnhemgphefaaGreatDoor
open Go renaming World->Wq,Value->Vq
open Go.RowKit Go.Shelf
variable {N k:Nat} {W:Wq} {m:dF} {x y:ByteArray} {l:List (Tm×ByteArray)} {p:Tm×ByteArray}
def dF.set(n:dF)(k:Nat)(x:ByteArray):dF:=
 match k with
 |0=>{n with a0:=x}
 |1=>{n with a1:=x}
 |2=>{n with a2:=x}
 |3=>{n with a3:=x}
 |4=>{n with a4:=x}
 |5=>{n with a5:=x}
 |_=>n
theorem dF.set_c(n:dF)(k:Nat)(x:ByteArray)(h:k<6):n.c.setIfInBounds k (St x)=(n.set k x).c:=by
 have d:k=0\/k=1\/k=2\/k=3\/k=4\/k=5:=by omega
 rcases d with rfl|rfl|rfl|rfl|rfl|rfl<;>rfl
theorem dF.get_set(n:dF)(k j:Nat)(x:ByteArray)(h:k<6):(n.set k x).get j=if j=k then x else n.get j:=by
 have z:k=0\/k=1\/k=2\/k=3\/k=4\/k=5:=by omega
 have d:j=0\/j=1\/j=2\/j=3\/j=4\/j=5\/6<=j:=by omega
 rcases z with rfl|rfl|rfl|rfl|rfl|rfl<;>rcases d with rfl|rfl|rfl|rfl|rfl|rfl|d
 all_goals first
  |rfl
  |(rw[if_neg (by omega)];match j,d with|j+6,_=>rfl)
def jL(n:dF)(t:Tm)(x:ByteArray):dF:=if t.name.toList.isEmpty=true/\(n.get t.num).toList.isEmpty=true then n.set t.num x else n
def il(n:dF)(t:Tm)(x:ByteArray):Option dF:=if (dI (jL n t x) t).toList=x.toList then aV (jL n t x) else aW
def fX:dF->List (Tm×ByteArray)->Option dF
 |n,[]=>aV n
 |n,p::l=>match il n p.1 p.2 with|some m=>fX m l|none=>aW
def Q6(n:dF)(a:Am)(x y:ByteArray):Option dF:=fX n (a.args.zip [x,y])
theorem Bk(p:Tm×ByteArray):∀(l:List (Tm×ByteArray)) (n:dF),fX n (l++[p])=match fX n l with|some m=>il m p.1 p.2|none=>aW
 |[],n=>by
  simp only[bD,fX]
  cases il n p.1 p.2<;>rfl
 |q::l,n=>by
  simp only[bC,fX]
  cases il n q.1 q.2 with
  |none=>rfl
  |some m=>exact Bk p l m
theorem AV(p:Tm×ByteArray):∀(l r:List (Tm×ByteArray)) (n m:dF),fX n l=aV m->il m p.1 p.2=aW->fX n (l++p::r)=aW
 |[],r,n,m,h,h2=>by simp only[fX,Option.some.injEq] at h;subst h;simp only[bD,fX,h2]
 |q::l,r,n,m,h,h2=>by
  simp only[bC,fX] at h ⊢
  cases hq:il n q.1 q.2 with
  |none=>rfl
  |some m'=>rw[hq] at h;exact AV p l r m' m h h2
def Qs:dF:=⟨⟨#[]⟩,⟨#[]⟩,⟨#[]⟩,⟨#[]⟩,⟨#[]⟩,⟨#[]⟩⟩
def oz:Option dF->Vq
 |some m=>aL #[m.v,aK true]
 |none=>aL #[Qs.v,aK false]
structure fH(N:Nat)(w W:Wq)(m:dF)(x y:ByteArray):Prop where
 size:N+4<=W.heap.size
 nm:W.heap[N]?=aV (aN m.c 176)
 th:W.heap[N+1+1]?=cC #[St x,St y] 109
 res:W.heap[N+1+1+1]?=aV (aN Qs.c 176)
 low:Below N w W
theorem fH.below{w W':Wq}(h:fH N w W m x y)(d:Below W.heap.size W W'):fH N w W' m x y:=by have A:=d.size;have z:=h.size;exact⟨by omega,(d.block _ (by omega)).trans h.nm,(d.block _ (by omega)).trans h.th,(d.block _ (by omega)).trans h.res,h.low.trans (d.mono (by omega))⟩
theorem fH.drewN{w:Wq}(h:fH N w W m x y)(q:Nat):fH N w (W.drewN q) m x y:=⟨h.size,h.nm,h.th,h.res,⟨h.low.os,h.low.tape,h.low.output,h.low.size,h.low.block⟩⟩
theorem fH.drew{w:Wq}(h:fH N w W m x y):fH N w W.drew m x y:=⟨h.size,h.nm,h.th,h.res,h.low.drew⟩
theorem fH.put{w:Wq}(h:fH N w W m x y)(k:Nat)(d:k<6)(z:ByteArray):fH N w (W.setCell (Ad N k) (St z)) (m.set k z) x y:=by refine⟨by have:=h.size;simpa using this,?_,(aZ _ _ _ _ (by show N+1+1≠N;omega)).trans h.th,(aZ _ _ _ _ (by show N+1+1+1≠N;omega)).trans h.res,h.low.setCell (p:=⟨N,k,aW⟩) (by simp) _⟩;rw[<-m.set_c k z d];exact qw h.nm k _
theorem Qv(W:Wq)(N k:Nat)(v:Vq)(b j:Nat)(h:b≠N):aC (W.setCell (Ad N k) v) (Ad b j)=aC W (Ad b j):=
 World.cell?_of_block (w:=W) (aZ _ _ _ _ h)
theorem fH.cells{w:Wq}(h:fH N w W m x y):aC W (Ad N 0)=aV (St m.a0)/\aC W (Ad N 1)=aV (St m.a1)/\aC W (Ad N 2)=aV (St m.a2)/\aC W (Ad N 3)=aV (St m.a3)/\aC W (Ad N 4)=aV (St m.a4)/\aC W (Ad N 5)=aV (St m.a5):=by have:=h.nm;unfold dF.c at this;simp[aC,this]
theorem fH.zero{w:Wq}(h:fH N w W m x y):aC W (Ad (N+1+1+1) 0)=aV (St ⟨#[]⟩)/\aC W (Ad (N+1+1+1) 1)=aV (St ⟨#[]⟩)/\aC W (Ad (N+1+1+1) 2)=aV (St ⟨#[]⟩)/\aC W (Ad (N+1+1+1) 3)=aV (St ⟨#[]⟩)/\aC W (Ad (N+1+1+1) 4)=aV (St ⟨#[]⟩)/\aC W (Ad (N+1+1+1) 5)=aV (St ⟨#[]⟩)/\∀k,aD W (Ad (N+1+1+1) k)=false:=by have:=h.res;unfold dF.c Qs at this;simp[aC,aD,this]
theorem fH.fin{w:Wq}(h:fH N w W m x y){d z A C E G:Vq}:Below N w ((((((W.setCell (Ad (N+1+1+1) 0) d).setCell (Ad (N+1+1+1) 1) z).setCell (Ad (N+1+1+1) 2) A).setCell (Ad (N+1+1+1) 3) C).setCell (Ad (N+1+1+1) 4) E).setCell (Ad (N+1+1+1) 5) G):=
 (((((h.low.setCell (p:=⟨N+1+1+1,0,aW⟩) (by simp;omega) _).setCell (p:=⟨N+1+1+1,1,aW⟩) (by simp;omega) _).setCell (p:=⟨N+1+1+1,2,aW⟩) (by simp;omega) _).setCell (p:=⟨N+1+1+1,3,aW⟩) (by simp;omega) _).setCell (p:=⟨N+1+1+1,4,aW⟩) (by simp;omega) _).setCell (p:=⟨N+1+1+1,5,aW⟩) (by simp;omega) _
theorem fH.at{w:Wq}(h:fH N w W m x y)(k:Nat)(d:k<6):aC W (Ad N k)=aV (St (m.get k))/\aD W (Ad N k)=false:=by refine⟨?_,by simp[aD,h.nm]⟩;simp only[aC,h.nm];simpa using m.cell k d
theorem fH.thing{w:Wq}(h:fH N w W m x y)(k:Nat)(z:k<2):aC W (Ad (N+1+1) k)=aV (St (if k=0 then x else y)):=by
 have d:k=0\/k=1:=by omega
 rcases d with rfl|rfl<;>simp[aC,h.th]
theorem uo{n d:dF}(A:l[k]?=aV p)(z:fX n (l.take k)=aV m)(hs:il m p.1 p.2=aV d):fX n (l.take (k+1))=aV d:=by rw[List.take_add_one,A];simp only[Option.toList];rw[Bk,z];exact hs
theorem uV{n:dF}(z:l[k]?=aV p)(E:fX n (l.take k)=aV m)(hs:il m p.1 p.2=aW):fX n l=none:=by
 have C:k<aB l:=(bB.1 z).1;have e:l=l.take k++p::l.drop (k+1):=by have d:=List.take_append_drop k l;rw[List.drop_eq_getElem_cons C] at d;have A:l[k]=p:=(bB.1 z).2;rw[A] at d;exact d.symm
 rw[e];exact AV p _ _ n m E hs
theorem BA(n:dF)(a:Am)(va:Vq)(b:Nat)(x y:ByteArray)(w:Wq)(hS:Qh w b va a.args)(hl:a.args.length<=2)(hn:∀t∈a.args,t.num<6):Cs 157 #[n.v,.agg #[.string a.rel,va],.agg #[.string x,.string y]] w λe w'=>e=.returned (oz (Q6 n a x y))/\Below w.heap.size w w':=by
 obtain⟨ta,tc,az⟩:=hS.form;have Ql:∀k (hk:k<a.args.length),∃g,ta=some ⟨g,0,none⟩/\w.cell? ⟨g,k*2,none⟩=some (.string (a.args[k]).name)/\w.cell? ⟨g,k*2+1,none⟩=some (.int .i64 (a.args[k]).num)/\g<w.heap.size:=by intro k hk;obtain⟨g,c',h1,h2,h3,h4⟩:=pF hS hk;rw[az] at h1;cases h1;exact⟨g,rfl,h2,h3,h4⟩
 subst az;have a9:Hid (∀(m:dF) (t:Tm) (_:t.num<6) W,Cs 151 #[.agg #[.string m.a0,.string m.a1,.string m.a2,.string m.a3,.string m.a4,.string m.a5],.agg #[.string t.name,.int .i64 t.num]] W λe w'=>e=.returned (.string (dI m t))/\Below W.heap.size W w'):=λm t ht W=>B8 m t ht W;have HC:Hid _:=Ql;have HNm:Hid _:=hn;clear Ql hS hn;have HM:Hid (Q6 n a x y=fX n (a.args.zip [x,y])):=rfl;generalize Q6 n a x y=MA at *;unfold dF.v;unfold dF.c;go_enter Tryz.func157,Tryz.ntmps157;go_wp2;obtain⟨N,hN⟩:∃N,w.heap.size=N:=⟨_,rfl⟩;simp only[hN];obtain⟨W0,av⟩:∃W0,((((w.alloc (.cells #[.string n.a0,.string n.a1,.string n.a2,.string n.a3,.string n.a4,.string n.a5] 176)).alloc (.cells #[.string a.rel,.slice ta a.args.length tc] 92)).alloc (.cells #[.string x,.string y] 109)).alloc (.cells #[.string ⟨#[]⟩,.string ⟨#[]⟩,.string ⟨#[]⟩,.string ⟨#[]⟩,.string ⟨#[]⟩,.string ⟨#[]⟩] 176))=W0:=⟨_,rfl⟩
 have a8:fH N w W0 n x y:=by
  rw[<-av,<-hN];refine⟨by simp,?_,?_,?_,((((bE _ w).alloc zl _).alloc (by simp) _).alloc (by simp;omega) _).alloc (by simp;omega) _⟩
  .exact (aY _ _ _ (by simp;omega)).trans ((aY _ _ _ (by simp;omega)).trans ((aY _ _ _ (by simp)).trans (zn w _)))
  .refine (aY _ _ _ (by simp)).trans ?_;have:=zn ((w.alloc (.cells #[.string n.a0,.string n.a1,.string n.a2,.string n.a3,.string n.a4,.string n.a5] 176)).alloc (.cells #[.string a.rel,.slice ta a.args.length tc] 92)) (.cells #[.string x,.string y] 109);rw[aX,aX] at this;exact this
  .have:=zn (((w.alloc (.cells #[.string n.a0,.string n.a1,.string n.a2,.string n.a3,.string n.a4,.string n.a5] 176)).alloc (.cells #[.string a.rel,.slice ta a.args.length tc] 92)).alloc (.cells #[.string x,.string y] 109)) (.cells #[.string ⟨#[]⟩,.string ⟨#[]⟩,.string ⟨#[]⟩,.string ⟨#[]⟩,.string ⟨#[]⟩,.string ⟨#[]⟩] 176);rw[aX,aX,aX] at this;exact this
 rw[av];clear av
 go_loopw [13] (λi wr=>∃(k:Nat) (m:dF),k<=a.args.length/\i=.int .i64 k/\Hid (fX n ((a.args.zip [x,y]).take k)=some m)/\fH N w wr m x y) (λi _=>a.args.length-(intOf i).toNat)
 case atStart=>exact⟨0,n,zz,rfl,by show _=_;simp[fX],a8⟩
 case round=>
  obtain⟨k,m,hk,rfl,hm,ah⟩:=hrel;by_cases aq:k<a.args.length
  .obtain⟨g,rfl,q0,q1,hg⟩:=HC.o k aq;have be:=(ah.low.cell (p:=⟨g,k*2,none⟩) (by rw[<-hN];exact hg)).trans q0;have bd:=(ah.low.cell (p:=⟨g,k*2+1,none⟩) (by rw[<-hN];exact hg)).trans q1;have ag:(a.args[k]).num<6:=HNm.o _ (zm aq);have i1:(k:Int)<(a.args.length:Int):=by omega
   have i2:(k:Int)<2:=by omega
   have a6:k<2:=by omega
   have hp:Hid ((a.args.zip [x,y])[k]?=some (a.args[k],if k=0 then x else y)):=by
    show _=_;rw[List.getElem?_zip_eq_some];refine⟨List.getElem?_eq_getElem aq,?_⟩;have hc:k=0\/k=1:=by omega
    rcases hc with rfl|rfl<;>rfl
   have ak:Hid (∀W,Cs 139 #[.agg #[.string (a.args[k]).name,.int .i64 (a.args[k]).num]] W λe w'=>e=.returned (.bool (a.args[k]).name.toList.isEmpty)/\Below W.heap.size W w'):=λW=>pu _ W;have Qej:Hid (∀(m:dF) W,Cs 151 #[.agg #[.string m.a0,.string m.a1,.string m.a2,.string m.a3,.string m.a4,.string m.a5],.agg #[.string (a.args[k]).name,.int .i64 (a.args[k]).num]] W λe w'=>e=.returned (.string (dI m a.args[k]))/\Below W.heap.size W w'):=λm W=>a9.o m _ ag W;have am:Hid (il m a.args[k] (if k=0 then x else y)=if (dI (jL m a.args[k] (if k=0 then x else y)) a.args[k]).toList=(if k=0 then x else y).toList then some (jL m a.args[k] (if k=0 then x else y)) else none):=rfl;have au:Hid (jL m a.args[k] (if k=0 then x else y)=if (a.args[k]).name.toList.isEmpty=true/\(m.get (a.args[k]).num).toList.isEmpty=true then m.set (a.args[k]).num (if k=0 then x else y) else m):=rfl;have ao:Hid (∀O W1,Below (wr.alloc O).heap.size (wr.alloc O) W1->fH N w W1 m x y/\(∀j,W1.cell? ⟨wr.heap.size,j,none⟩=(wr.alloc O).cell? ⟨wr.heap.size,j,none⟩)/\wr.heap.size<W1.heap.size):=λO W1 hb=>⟨ah.below (((bE _ wr).alloc zl O).trans (hb.mono (by simp))),λj=>hb.cell (p:=⟨wr.heap.size,j,none⟩) (by simp),by have:=hb.size;simp at this;omega⟩;have bc:N+4<=wr.heap.size:=ah.size;have aa:Hid (∀W m,fH N w W m x y->W.cell? ⟨N+1+1,k,none⟩=some (.string (if k=0 then x else y))):=λW m h=>h.thing k a6;clear q0 q1 ah;generalize (if k=0 then x else y)=z at *;generalize a.args[k]=t at *
   cases htv:t.name.toList.isEmpty with
   |false=>
    rw[htv] at ak;have ai:Hid (jL m t z=m):=by show _=_;rw[au.o,htv];simp
    have aj:=Qej.o (m);by_cases ac:(dI (m) t).toList=z.toList
    .have ab:Hid (il m t z=some (m)):=by show _=_;rw[am.o,ai.o,if_pos ac]
     have ad:Hid (fX n ((a.args.zip [x,y]).take (k+1))=some (m)):=uo hp.o hm.o ab.o;generalize dI (m) t=ot at *;clear htv
     go_wp2_with (go_at_call 139;refine (ak.o _).mono ?_;rintro e W1 ⟨rfl,af⟩;obtain⟨r1,r2,r3⟩:=ao.o _ _ af;obtain⟨c0,c1,c2,c3,c4,c5⟩:=r1.cells;have d0:=r2 0;have d1:=r2 1;have tk:=aa.o W1 m r1;obtain⟨nk,nf⟩:=r1.at _ ag;simp at d0 d1)
     go_region_with (go_at_call 151;refine (aj _).mono ?_;rintro e W2 ⟨rfl,ae⟩;have r4:fH N w W2 (m) x y:=r1.drew.below ae;have ap:=aa.o W2 _ r4)
     all_goals
      go_wp2;exact⟨⟨k+1,_,by omega,by go_num,ad,r4⟩,by simp[intOf];omega⟩
    .have ab:Hid (il m t z=none):=by show _=_;rw[am.o,ai.o,if_neg ac]
     have ad:Hid (MA=none):=by show _=_;rw[HM.o];exact uV hp.o hm.o ab.o
     generalize dI (m) t=ot at *;have ay:(ot.toList == z.toList)=false:=by simp[ac]
     clear htv
     go_wp2_with (go_at_call 139;refine (ak.o _).mono ?_;rintro e W1 ⟨rfl,af⟩;obtain⟨r1,r2,r3⟩:=ao.o _ _ af;obtain⟨c0,c1,c2,c3,c4,c5⟩:=r1.cells;have d0:=r2 0;have d1:=r2 1;have tk:=aa.o W1 m r1;obtain⟨nk,nf⟩:=r1.at _ ag;simp at d0 d1)
     go_region_with (go_at_call 151;refine (aj _).mono ?_;rintro e W2 ⟨rfl,ae⟩;have r4:fH N w W2 (m) x y:=r1.drew.below ae;have ap:=aa.o W2 _ r4;obtain⟨e0,e1,e2,e3,e4,e5,ef⟩:=r4.zero)
     all_goals
      go_wp2;refine bodyPost_ret (v:=.tuple #[Qs.v,.bool false]) (by simp[results,Tryz.results157,go_sem,e0,e1,e2,e3,e4,e5,Qs,dF.v,dF.c]) rfl ?_;rw[ad.o,hN];exact⟨rfl,r4.fin⟩
   |true=>
    rw[htv] at ak
    cases hge:(m.get t.num).toList.isEmpty with
    |false=>
     have ai:Hid (jL m t z=m):=by show _=_;rw[au.o,hge];simp
     have aj:=Qej.o (m);by_cases ac:(dI (m) t).toList=z.toList
     .have ab:Hid (il m t z=some (m)):=by show _=_;rw[am.o,ai.o,if_pos ac]
      have ad:Hid (fX n ((a.args.zip [x,y]).take (k+1))=some (m)):=uo hp.o hm.o ab.o;generalize dI (m) t=ot at *;clear htv
      go_wp2_with (go_at_call 139;refine (ak.o _).mono ?_;rintro e W1 ⟨rfl,af⟩;obtain⟨r1,r2,r3⟩:=ao.o _ _ af;obtain⟨c0,c1,c2,c3,c4,c5⟩:=r1.cells;have d0:=r2 0;have d1:=r2 1;have tk:=aa.o W1 m r1;obtain⟨nk,nf⟩:=r1.at _ ag;simp at d0 d1)
      go_region_with (go_at_call 151;refine (aj _).mono ?_;rintro e W2 ⟨rfl,ae⟩;have r4:fH N w W2 (m) x y:=r1.drew.below ae;have ap:=aa.o W2 _ r4)
      all_goals
       go_wp2;exact⟨⟨k+1,_,by omega,by go_num,ad,r4⟩,by simp[intOf];omega⟩
     .have ab:Hid (il m t z=none):=by show _=_;rw[am.o,ai.o,if_neg ac]
      have ad:Hid (MA=none):=by show _=_;rw[HM.o];exact uV hp.o hm.o ab.o
      generalize dI (m) t=ot at *;have ay:(ot.toList == z.toList)=false:=by simp[ac]
      clear htv
      go_wp2_with (go_at_call 139;refine (ak.o _).mono ?_;rintro e W1 ⟨rfl,af⟩;obtain⟨r1,r2,r3⟩:=ao.o _ _ af;obtain⟨c0,c1,c2,c3,c4,c5⟩:=r1.cells;have d0:=r2 0;have d1:=r2 1;have tk:=aa.o W1 m r1;obtain⟨nk,nf⟩:=r1.at _ ag;simp at d0 d1)
      go_region_with (go_at_call 151;refine (aj _).mono ?_;rintro e W2 ⟨rfl,ae⟩;have r4:fH N w W2 (m) x y:=r1.drew.below ae;have ap:=aa.o W2 _ r4;obtain⟨e0,e1,e2,e3,e4,e5,ef⟩:=r4.zero)
      all_goals
       go_wp2;refine bodyPost_ret (v:=.tuple #[Qs.v,.bool false]) (by simp[results,Tryz.results157,go_sem,e0,e1,e2,e3,e4,e5,Qs,dF.v,dF.c]) rfl ?_;rw[ad.o,hN];exact⟨rfl,r4.fin⟩
    |true=>
     have ai:Hid (jL m t z=m.set t.num z):=by show _=_;rw[au.o,htv,hge];simp
     have aj:=Qej.o (m.set t.num z);by_cases ac:(dI (m.set t.num z) t).toList=z.toList
     .have ab:Hid (il m t z=some (m.set t.num z)):=by show _=_;rw[am.o,ai.o,if_pos ac]
      have ad:Hid (fX n ((a.args.zip [x,y]).take (k+1))=some (m.set t.num z)):=uo hp.o hm.o ab.o;generalize dI (m.set t.num z) t=ot at *;clear htv
      go_wp2_with (go_at_call 139;refine (ak.o _).mono ?_;rintro e W1 ⟨rfl,af⟩;obtain⟨r0,r2,r3⟩:=ao.o _ _ af;obtain⟨c0,c1,c2,c3,c4,c5⟩:=r0.cells;have d0:=r2 0;have d1:=r2 1;have tk:=aa.o W1 m r0;obtain⟨nk,nf⟩:=r0.at _ ag;simp at d0 d1)
      have r1:fH N w (W1.setCell ⟨N,t.num,none⟩ (.string z)).drew (m.set t.num z) x y:=(r0.put _ ag z).drew;have aw:(W1.setCell ⟨N,t.num,none⟩ (.string z)).drew.cell? ⟨wr.heap.size,0,none⟩=some (.string t.name):=(Qv W1 N t.num (.string z) wr.heap.size 0 (by omega)).trans d0;have ax:(W1.setCell ⟨N,t.num,none⟩ (.string z)).drew.cell? ⟨wr.heap.size,1,none⟩=some (.int .i64 t.num):=(Qv W1 N t.num (.string z) wr.heap.size 1 (by omega)).trans d1
      go_region
      all_goals
       obtain⟨W3,al⟩:∃W3,(W1.setCell ⟨N,t.num,none⟩ (.string z)).drew=W3:=⟨_,rfl⟩;rw[al] at r1 aw ax
       (try simp only[al])
       obtain⟨b0,b1,b2,b3,b4,b5⟩:=r1.cells;have bb:=aa.o W3 _ r1;clear c0 c1 c2 c3 c4 c5 d0 d1 tk nk nf al
       (try go_wp2)
       go_region_with (go_at_call 151;refine (aj _).mono ?_;rintro e W2 ⟨rfl,ae⟩;have r4:fH N w W2 (m.set t.num z) x y:=r1.drew.below ae;have ap:=aa.o W2 _ r4)
       all_goals
        go_wp2;exact⟨⟨k+1,_,by omega,by go_num,ad,r4⟩,by simp[intOf];omega⟩
     .have ab:Hid (il m t z=none):=by show _=_;rw[am.o,ai.o,if_neg ac]
      have ad:Hid (MA=none):=by show _=_;rw[HM.o];exact uV hp.o hm.o ab.o
      generalize dI (m.set t.num z) t=ot at *;have ay:(ot.toList == z.toList)=false:=by simp[ac]
      clear htv
      go_wp2_with (go_at_call 139;refine (ak.o _).mono ?_;rintro e W1 ⟨rfl,af⟩;obtain⟨r0,r2,r3⟩:=ao.o _ _ af;obtain⟨c0,c1,c2,c3,c4,c5⟩:=r0.cells;have d0:=r2 0;have d1:=r2 1;have tk:=aa.o W1 m r0;obtain⟨nk,nf⟩:=r0.at _ ag;simp at d0 d1)
      have r1:fH N w (W1.setCell ⟨N,t.num,none⟩ (.string z)).drew (m.set t.num z) x y:=(r0.put _ ag z).drew;have aw:(W1.setCell ⟨N,t.num,none⟩ (.string z)).drew.cell? ⟨wr.heap.size,0,none⟩=some (.string t.name):=(Qv W1 N t.num (.string z) wr.heap.size 0 (by omega)).trans d0;have ax:(W1.setCell ⟨N,t.num,none⟩ (.string z)).drew.cell? ⟨wr.heap.size,1,none⟩=some (.int .i64 t.num):=(Qv W1 N t.num (.string z) wr.heap.size 1 (by omega)).trans d1
      go_region
      all_goals
       obtain⟨W3,al⟩:∃W3,(W1.setCell ⟨N,t.num,none⟩ (.string z)).drew=W3:=⟨_,rfl⟩;rw[al] at r1 aw ax
       (try simp only[al])
       obtain⟨b0,b1,b2,b3,b4,b5⟩:=r1.cells;have bb:=aa.o W3 _ r1;clear c0 c1 c2 c3 c4 c5 d0 d1 tk nk nf al
       (try go_wp2)
       go_region_with (go_at_call 151;refine (aj _).mono ?_;rintro e W2 ⟨rfl,ae⟩;have r4:fH N w W2 (m.set t.num z) x y:=r1.drew.below ae;have ap:=aa.o W2 _ r4;obtain⟨e0,e1,e2,e3,e4,e5,ef⟩:=r4.zero)
       all_goals
        go_wp2;refine bodyPost_ret (v:=.tuple #[Qs.v,.bool false]) (by simp[results,Tryz.results157,go_sem,e0,e1,e2,e3,e4,e5,Qs,dF.v,dF.c]) rfl ?_;rw[ad.o,hN];exact⟨rfl,r4.fin⟩
  .have bf:k=a.args.length:=by omega
   have a7:Hid (MA=some m):=by show _=_;rw[HM.o,<-hm.o,List.take_of_length_le (by simp;omega)]
   obtain⟨c0,c1,c2,c3,c4,c5⟩:=ah.cells;obtain⟨e0,e1,e2,e3,e4,e5,ef⟩:=ah.zero;go_wp2;refine bodyPost_ret (v:=.tuple #[m.v,.bool true]) (by simp[results,Tryz.results157,go_sem,e0,e1,e2,e3,e4,e5,dF.v,dF.c]) rfl ?_;rw[a7.o,hN];exact⟨rfl,ah.fin⟩
