/- A part -/
import Derived.Test.YtjajnhemgphefaaGreatDoorKMoB
set_option linter.all false
set_option maxRecDepth 100000
set_option maxHeartbeats 16000000
namespace Go.Proofs.YtjajnhemgphefaaGreatDoor
open Go renaming World->Wq,Value->Vq
open Go.RowKit Go.Shelf
variable {N k:Nat} {W:Wq} {m:Nms} {x y:By} {l:List (Tm×By)} {p:Tm×By}
def Nms.set(n:Nms)(k:Nat)(x:By):Nms:=
 match k with
 | 0=>{n with a0:=x}
 | 1=>{n with a1:=x}
 | 2=>{n with a2:=x}
 | 3=>{n with a3:=x}
 | 4=>{n with a4:=x}
 | 5=>{n with a5:=x}
 | _=>n
theorem Nms.set_c(n:Nms)(k:Nat)(x:By)(h:k < 6):n.c.setIfInBounds k (.string x)=(n.set k x).c:=by
 have hc:k=0\/k=1\/k=2\/k=3\/k=4\/k=5:=by omega
 rcases hc with rfl | rfl | rfl | rfl | rfl | rfl <;> rfl
theorem Nms.get_set(n:Nms)(k j:Nat)(x:By)(h:k < 6):(n.set k x).get j=if j=k then x else n.get j:=by
 have hc:k=0\/k=1\/k=2\/k=3\/k=4\/k=5:=by omega
 have hj:j=0\/j=1\/j=2\/j=3\/j=4\/j=5\/6<=j:=by omega
 rcases hc with rfl | rfl | rfl | rfl | rfl | rfl <;> rcases hj with rfl | rfl | rfl | rfl | rfl | rfl | hj
 all_goals first
  | rfl
  | (rw[if_neg (by omega)];match j,hj with | j+6,_=>rfl)
def qk7(n:Nms)(t:Tm)(x:By):Nms:=if t.name.toList.isEmpty=true/\(n.get t.num).toList.isEmpty=true then n.set t.num x else n
def Qy(n:Nms)(t:Tm)(x:By):Option Nms:=if (ofT (qk7 n t x) t).toList=x.toList then some (qk7 n t x) else none
def qav:Nms->List (Tm×By)->Option Nms
 | n,[]=>some n
 | n,p::l=>match Qy n p.1 p.2 with | some m=>qav m l | none=>none
def Q3(n:Nms)(a:Am)(x y:By):Option Nms:=qav n (a.args.zip [x,y])
theorem qn7(p:Tm×By):∀(l:List (Tm×By)) (n:Nms),qav n (l++[p])=match qav n l with | some m=>Qy m p.1 p.2 | none=>none
 | [],n=>by
  simp only[List.nil_append,qav]
  cases Qy n p.1 p.2 <;> rfl
 | q::l,n=>by
  simp only[List.cons_append,qav]
  cases Qy n q.1 q.2 with
  | none=>rfl
  | some m=>exact qn7 p l m
theorem qn8(p:Tm×By):∀(l r:List (Tm×By)) (n m:Nms),qav n l=some m->Qy m p.1 p.2=none->qav n (l++p::r)=none
 | [],r,n,m,h,h2=>by
  simp only[qav,Option.some.injEq] at h;subst h;simp only[List.nil_append,qav,h2]
 | q::l,r,n,m,h,h2=>by
  simp only[List.cons_append,qav] at h ⊢
  cases hq:Qy n q.1 q.2 with
  | none=>rfl
  | some m'=>rw[hq] at h;exact qn8 p l r m' m h h2
def Qm:Nms:=⟨⟨#[]⟩,⟨#[]⟩,⟨#[]⟩,⟨#[]⟩,⟨#[]⟩,⟨#[]⟩⟩
def qk4:Option Nms->Vq
 | some m=>.tuple #[m.v,.bool true]
 | none=>.tuple #[Qm.v,.bool false]
structure qdf(N:Nat)(w W:Wq)(m:Nms)(x y:By):Prop where
 size:N+4<=W.heap.size
 nm:W.heap[N]?=some (Obj.cells m.c 176)
 th:W.heap[N+1+1]?=cC #[.string x,.string y] 109
 res:W.heap[N+1+1+1]?=some (Obj.cells Qm.c 176)
 low:Below N w W
theorem qdf.below{w W':Wq}(h:qdf N w W m x y)(hb:Below W.heap.size W W'):qdf N w W' m x y:=by
 have hz:=hb.size;have h1:=h.size;exact⟨by omega,(hb.block _ (by omega)).trans h.nm,(hb.block _ (by omega)).trans h.th,(hb.block _ (by omega)).trans h.res,h.low.trans (hb.mono (by omega))⟩
theorem qdf.drewN{w:Wq}(h:qdf N w W m x y)(q:Nat):qdf N w (W.drewN q) m x y:=⟨h.size,h.nm,h.th,h.res,⟨h.low.os,h.low.tape,h.low.output,h.low.size,h.low.block⟩⟩
theorem qdf.drew{w:Wq}(h:qdf N w W m x y):qdf N w W.drew m x y:=⟨h.size,h.nm,h.th,h.res,h.low.drew⟩
theorem qdf.put{w:Wq}(h:qdf N w W m x y)(k:Nat)(hk:k < 6)(z:By):qdf N w (W.setCell (Ad N k) (.string z)) (m.set k z) x y:=by
 refine⟨by have:=h.size;simpa using this,?_,(Below.heap_setCell _ _ _ _ (by show N+1+1≠N;omega)).trans h.th,(Below.heap_setCell _ _ _ _ (by show N+1+1+1≠N;omega)).trans h.res,h.low.setCell (p:=⟨N,k,none⟩) (by simp) _⟩;rw[<- m.set_c k z hk];exact Qd h.nm k _
theorem qbn(W:Wq)(N k:Nat)(v:Vq)(b j:Nat)(h:b≠N):(W.setCell (Ad N k) v).cell? (Ad b j)=W.cell? (Ad b j):=
 World.cell?_of_block (w:=W) (Below.heap_setCell _ _ _ _ h)
theorem qdf.cells{w:Wq}(h:qdf N w W m x y) :
  W.cell? (Ad N 0)=some (.string m.a0)/\W.cell? (Ad N 1)=some (.string m.a1)/\W.cell? (Ad N 2)=some (.string m.a2)/\W.cell? (Ad N 3)=some (.string m.a3)/\W.cell? (Ad N 4)=some (.string m.a4)/\W.cell? (Ad N 5)=some (.string m.a5):=by
 have:=h.nm;unfold Nms.c at this;simp[World.cell?,this]
theorem qdf.zero{w:Wq}(h:qdf N w W m x y) :
  W.cell? (Ad (N+1+1+1) 0)=some (.string ⟨#[]⟩)/\W.cell? (Ad (N+1+1+1) 1)=some (.string ⟨#[]⟩)/\W.cell? (Ad (N+1+1+1) 2)=some (.string ⟨#[]⟩)/\W.cell? (Ad (N+1+1+1) 3)=some (.string ⟨#[]⟩)/\W.cell? (Ad (N+1+1+1) 4)=some (.string ⟨#[]⟩)/\W.cell? (Ad (N+1+1+1) 5)=some (.string ⟨#[]⟩)/\∀k,W.frozen? (Ad (N+1+1+1) k)=false:=by
 have:=h.res;unfold Nms.c Qm at this;simp[World.cell?,World.frozen?,this]
theorem qdf.fin{w:Wq}(h:qdf N w W m x y){v0 v1 v2 v3 v4 v5:Vq}:Below N w ((((((W.setCell (Ad (N+1+1+1) 0) v0).setCell (Ad (N+1+1+1) 1) v1).setCell (Ad (N+1+1+1) 2) v2).setCell (Ad (N+1+1+1) 3) v3).setCell (Ad (N+1+1+1) 4) v4).setCell (Ad (N+1+1+1) 5) v5):=
 (((((h.low.setCell (p:=⟨N+1+1+1,0,none⟩) (by simp;omega) _).setCell (p:=⟨N+1+1+1,1,none⟩) (by simp;omega) _).setCell (p:=⟨N+1+1+1,2,none⟩) (by simp;omega) _).setCell (p:=⟨N+1+1+1,3,none⟩) (by simp;omega) _).setCell (p:=⟨N+1+1+1,4,none⟩) (by simp;omega) _).setCell (p:=⟨N+1+1+1,5,none⟩) (by simp;omega) _
theorem qdf.at{w:Wq}(h:qdf N w W m x y)(k:Nat)(hk:k < 6):W.cell? (Ad N k)=some (.string (m.get k))/\W.frozen? (Ad N k)=false:=by
 refine⟨?_,by simp[World.frozen?,h.nm]⟩;simp only[World.cell?,h.nm];simpa using m.cell k hk
theorem qdf.thing{w:Wq}(h:qdf N w W m x y)(k:Nat)(hk:k < 2):W.cell? (Ad (N+1+1) k)=some (.string (if k=0 then x else y)):=by
 have hc:k=0\/k=1:=by omega
 rcases hc with rfl | rfl <;> simp[World.cell?,h.th]
theorem qje{n m':Nms}(hp:l[k]?=some p)(hm:qav n (l.take k)=some m)(hs:Qy m p.1 p.2=some m'):qav n (l.take (k+1))=some m':=by
 rw[List.take_add_one,hp];simp only[Option.toList];rw[qn7,hm];exact hs
theorem qjd{n:Nms}(hp:l[k]?=some p)(hm:qav n (l.take k)=some m)(hs:Qy m p.1 p.2=none):qav n l=none:=by
 have hk:k < l.length:=(List.getElem?_eq_some_iff.1 hp).1
 have e:l=l.take k++p::l.drop (k+1):=by
  have h1:=List.take_append_drop k l;rw[List.drop_eq_getElem_cons hk] at h1;have h2:l[k]=p:=(List.getElem?_eq_some_iff.1 hp).2;rw[h2] at h1;exact h1.symm
 rw[e];exact qn8 p _ _ n m hm hs
theorem qsn(n:Nms)(a:Am)(va:Vq)(b:Nat)(x y:By)(w:Wq)(hS:Qi w b va a.args)(hl:a.args.length<=2)(hn:∀t∈a.args,t.num < 6) :
  Cs 157 #[n.v,.agg #[.string a.rel,va],.agg #[.string x,.string y]] w λe w'=>e=.returned (qk4 (Q3 n a x y))/\Below w.heap.size w w':=by
 obtain⟨ta,tc,ay⟩:=hS.form
 have Qj:∀k (hk:k < a.args.length),∃g,ta=some ⟨g,0,none⟩/\w.cell? (Ad g (k*2))=some (.string (a.args[k]).name)/\w.cell? (Ad g (k*2+1))=some (.int .i64 (a.args[k]).num)/\g < w.heap.size:=by
  intro k hk;obtain⟨g,c',h1,h2,h3,h4⟩:=qfn hS hk;rw[ay] at h1;cases h1;exact⟨g,rfl,h2,h3,h4⟩
 subst ay;have a9:Hid (∀(m:Nms) (t:Tm) (_:t.num < 6) W,Cs 151 #[.agg #[.string m.a0,.string m.a1,.string m.a2,.string m.a3,.string m.a4,.string m.a5],.agg #[.string t.name,.int .i64 t.num]] W λe w'=>e=.returned (.string (ofT m t))/\Below W.heap.size W w'):=λm t ht W=>q5q m t ht W;have HC:Hid _:=Qj;have HNm:Hid _:=hn;clear Qj hS hn;have HM:Hid (Q3 n a x y=qav n (a.args.zip [x,y])):=rfl;generalize Q3 n a x y=MA at *;unfold Nms.v;unfold Nms.c;go_enter Tryz.func157,Tryz.ntmps157;go_wp2;obtain⟨N,hN⟩:∃N,w.heap.size=N:=⟨_,rfl⟩;simp only[hN];obtain⟨W0,ax⟩:∃W0,((((w.alloc (.cells #[.string n.a0,.string n.a1,.string n.a2,.string n.a3,.string n.a4,.string n.a5] 176)).alloc (.cells #[.string a.rel,.slice ta a.args.length tc] 92)).alloc (.cells #[.string x,.string y] 109)).alloc (.cells #[.string ⟨#[]⟩,.string ⟨#[]⟩,.string ⟨#[]⟩,.string ⟨#[]⟩,.string ⟨#[]⟩,.string ⟨#[]⟩] 176))=W0:=⟨_,rfl⟩
 have a7:qdf N w W0 n x y:=by
  rw[<- ax,<- hN];refine⟨by simp,?_,?_,?_,((((Below.refl _ w).alloc zl _).alloc (by simp) _).alloc (by simp;omega) _).alloc (by simp;omega) _⟩
  .exact (Below.heap_alloc _ _ _ (by simp;omega)).trans ((Below.heap_alloc _ _ _ (by simp;omega)).trans ((Below.heap_alloc _ _ _ (by simp)).trans (zn w _)))
  .refine (Below.heap_alloc _ _ _ (by simp)).trans ?_;have:=zn ((w.alloc (.cells #[.string n.a0,.string n.a1,.string n.a2,.string n.a3,.string n.a4,.string n.a5] 176)).alloc (.cells #[.string a.rel,.slice ta a.args.length tc] 92)) (.cells #[.string x,.string y] 109);rw[World.size_alloc,World.size_alloc] at this;exact this
  .have:=zn (((w.alloc (.cells #[.string n.a0,.string n.a1,.string n.a2,.string n.a3,.string n.a4,.string n.a5] 176)).alloc (.cells #[.string a.rel,.slice ta a.args.length tc] 92)).alloc (.cells #[.string x,.string y] 109)) (.cells #[.string ⟨#[]⟩,.string ⟨#[]⟩,.string ⟨#[]⟩,.string ⟨#[]⟩,.string ⟨#[]⟩,.string ⟨#[]⟩] 176);rw[World.size_alloc,World.size_alloc,World.size_alloc] at this;exact this
 rw[ax];clear ax
 go_loopw [13] (λi wr=>∃(k:Nat) (m:Nms),k<=a.args.length/\i=.int .i64 k/\Hid (qav n ((a.args.zip [x,y]).take k)=some m)/\qdf N w wr m x y) (λi _=>a.args.length - (intOf i).toNat)
 case atStart=>exact⟨0,n,zz,rfl,by show _=_;simp[qav],a7⟩
 case round=>
  obtain⟨k,m,hk,rfl,hm,aj⟩:=hrel;by_cases aq:k < a.args.length
  .obtain⟨g,rfl,q0,q1,hg⟩:=HC.out k aq;have bc:=(aj.low.cell (p:=⟨g,k*2,none⟩) (by rw[<- hN];exact hg)).trans q0;have bf:=(aj.low.cell (p:=⟨g,k*2+1,none⟩) (by rw[<- hN];exact hg)).trans q1;have ag:(a.args[k]).num < 6:=HNm.out _ (zm aq);have i1:(k:Int) < (a.args.length:Int):=by omega
   have i2:(k:Int) < 2:=by omega
   have a6:k < 2:=by omega
   have hp:Hid ((a.args.zip [x,y])[k]?=some (a.args[k],if k=0 then x else y)):=by
    show _=_;rw[List.getElem?_zip_eq_some];refine⟨List.getElem?_eq_getElem aq,?_⟩;have hc:k=0\/k=1:=by omega
    rcases hc with rfl | rfl <;> rfl
   have ak:Hid (∀W,Cs 139 #[.agg #[.string (a.args[k]).name,.int .i64 (a.args[k]).num]] W λe w'=>e=.returned (.bool (a.args[k]).name.toList.isEmpty)/\Below W.heap.size W w'):=λW=>qb6 _ W;have Qbb:Hid (∀(m:Nms) W,Cs 151 #[.agg #[.string m.a0,.string m.a1,.string m.a2,.string m.a3,.string m.a4,.string m.a5],.agg #[.string (a.args[k]).name,.int .i64 (a.args[k]).num]] W λe w'=>e=.returned (.string (ofT m a.args[k]))/\Below W.heap.size W w'):=λm W=>a9.out m _ ag W;have ao:Hid (Qy m a.args[k] (if k=0 then x else y)=if (ofT (qk7 m a.args[k] (if k=0 then x else y)) a.args[k]).toList=(if k=0 then x else y).toList then some (qk7 m a.args[k] (if k=0 then x else y)) else none):=rfl;have au:Hid (qk7 m a.args[k] (if k=0 then x else y)=if (a.args[k]).name.toList.isEmpty=true/\(m.get (a.args[k]).num).toList.isEmpty=true then m.set (a.args[k]).num (if k=0 then x else y) else m):=rfl
   have am:Hid (∀O W1,Below (wr.alloc O).heap.size (wr.alloc O) W1->qdf N w W1 m x y/\(∀j,W1.cell? (Ad wr.heap.size j)=(wr.alloc O).cell? (Ad wr.heap.size j))/\wr.heap.size < W1.heap.size):=λO W1 hb=>
    ⟨aj.below (((Below.refl _ wr).alloc zl O).trans (hb.mono (by simp))),λj=>hb.cell (p:=⟨wr.heap.size,j,none⟩) (by simp),by have:=hb.size;simp at this;omega⟩
   have bd:N+4<=wr.heap.size:=aj.size;have aa:Hid (∀W m,qdf N w W m x y->W.cell? (Ad (N+1+1) k)=some (.string (if k=0 then x else y))):=λW m h=>h.thing k a6;clear q0 q1 aj;generalize (if k=0 then x else y)=z at *;generalize a.args[k]=t at *
   cases htv:t.name.toList.isEmpty with
   | false=>
    rw[htv] at ak;have ai:Hid (qk7 m t z=m):=by show _=_;rw[au.out,htv];simp
    have ah:=Qbb.out (m);by_cases ac:(ofT (m) t).toList=z.toList
    .have ab:Hid (Qy m t z=some (m)):=by show _=_;rw[ao.out,ai.out,if_pos ac]
     have ad:Hid (qav n ((a.args.zip [x,y]).take (k+1))=some (m)):=qje hp.out hm.out ab.out;generalize ofT (m) t=ot at *;clear htv
     go_wp2_with (go_at_call 139;refine (ak.out _).mono ?_;rintro e W1 ⟨rfl,af⟩;obtain⟨r1,r2,r3⟩:=am.out _ _ af;obtain⟨c0,c1,c2,c3,c4,c5⟩:=r1.cells;have d0:=r2 0;have d1:=r2 1;have tk:=aa.out W1 m r1;obtain⟨nk,nf⟩:=r1.at _ ag;simp at d0 d1)
     go_region_with (go_at_call 151;refine (ah _).mono ?_;rintro e W2 ⟨rfl,ae⟩;have r4:qdf N w W2 (m) x y:=r1.drew.below ae;have ap:=aa.out W2 _ r4)
     all_goals
      go_wp2;exact⟨⟨k+1,_,by omega,by go_num,ad,r4⟩,by simp[intOf];omega⟩
    .have ab:Hid (Qy m t z=none):=by show _=_;rw[ao.out,ai.out,if_neg ac]
     have ad:Hid (MA=none):=by show _=_;rw[HM.out];exact qjd hp.out hm.out ab.out
     generalize ofT (m) t=ot at *;have az:(ot.toList == z.toList)=false:=by simp[ac]
     clear htv
     go_wp2_with (go_at_call 139;refine (ak.out _).mono ?_;rintro e W1 ⟨rfl,af⟩;obtain⟨r1,r2,r3⟩:=am.out _ _ af;obtain⟨c0,c1,c2,c3,c4,c5⟩:=r1.cells;have d0:=r2 0;have d1:=r2 1;have tk:=aa.out W1 m r1;obtain⟨nk,nf⟩:=r1.at _ ag;simp at d0 d1)
     go_region_with (go_at_call 151;refine (ah _).mono ?_;rintro e W2 ⟨rfl,ae⟩;have r4:qdf N w W2 (m) x y:=r1.drew.below ae;have ap:=aa.out W2 _ r4;obtain⟨e0,e1,e2,e3,e4,e5,ef⟩:=r4.zero)
     all_goals
      go_wp2;refine bodyPost_ret (v:=.tuple #[Qm.v,.bool false]) (by simp[results,Tryz.results157,go_sem,e0,e1,e2,e3,e4,e5,Qm,Nms.v,Nms.c]) rfl ?_;rw[ad.out,hN];exact⟨rfl,r4.fin⟩
   | true=>
    rw[htv] at ak
    cases hge:(m.get t.num).toList.isEmpty with
    | false=>
     have ai:Hid (qk7 m t z=m):=by show _=_;rw[au.out,hge];simp
     have ah:=Qbb.out (m);by_cases ac:(ofT (m) t).toList=z.toList
     .have ab:Hid (Qy m t z=some (m)):=by show _=_;rw[ao.out,ai.out,if_pos ac]
      have ad:Hid (qav n ((a.args.zip [x,y]).take (k+1))=some (m)):=qje hp.out hm.out ab.out;generalize ofT (m) t=ot at *;clear htv
      go_wp2_with (go_at_call 139;refine (ak.out _).mono ?_;rintro e W1 ⟨rfl,af⟩;obtain⟨r1,r2,r3⟩:=am.out _ _ af;obtain⟨c0,c1,c2,c3,c4,c5⟩:=r1.cells;have d0:=r2 0;have d1:=r2 1;have tk:=aa.out W1 m r1;obtain⟨nk,nf⟩:=r1.at _ ag;simp at d0 d1)
      go_region_with (go_at_call 151;refine (ah _).mono ?_;rintro e W2 ⟨rfl,ae⟩;have r4:qdf N w W2 (m) x y:=r1.drew.below ae;have ap:=aa.out W2 _ r4)
      all_goals
       go_wp2;exact⟨⟨k+1,_,by omega,by go_num,ad,r4⟩,by simp[intOf];omega⟩
     .have ab:Hid (Qy m t z=none):=by show _=_;rw[ao.out,ai.out,if_neg ac]
      have ad:Hid (MA=none):=by show _=_;rw[HM.out];exact qjd hp.out hm.out ab.out
      generalize ofT (m) t=ot at *;have az:(ot.toList == z.toList)=false:=by simp[ac]
      clear htv
      go_wp2_with (go_at_call 139;refine (ak.out _).mono ?_;rintro e W1 ⟨rfl,af⟩;obtain⟨r1,r2,r3⟩:=am.out _ _ af;obtain⟨c0,c1,c2,c3,c4,c5⟩:=r1.cells;have d0:=r2 0;have d1:=r2 1;have tk:=aa.out W1 m r1;obtain⟨nk,nf⟩:=r1.at _ ag;simp at d0 d1)
      go_region_with (go_at_call 151;refine (ah _).mono ?_;rintro e W2 ⟨rfl,ae⟩;have r4:qdf N w W2 (m) x y:=r1.drew.below ae;have ap:=aa.out W2 _ r4;obtain⟨e0,e1,e2,e3,e4,e5,ef⟩:=r4.zero)
      all_goals
       go_wp2;refine bodyPost_ret (v:=.tuple #[Qm.v,.bool false]) (by simp[results,Tryz.results157,go_sem,e0,e1,e2,e3,e4,e5,Qm,Nms.v,Nms.c]) rfl ?_;rw[ad.out,hN];exact⟨rfl,r4.fin⟩
    | true=>
     have ai:Hid (qk7 m t z=m.set t.num z):=by show _=_;rw[au.out,htv,hge];simp
     have ah:=Qbb.out (m.set t.num z);by_cases ac:(ofT (m.set t.num z) t).toList=z.toList
     .have ab:Hid (Qy m t z=some (m.set t.num z)):=by show _=_;rw[ao.out,ai.out,if_pos ac]
      have ad:Hid (qav n ((a.args.zip [x,y]).take (k+1))=some (m.set t.num z)):=qje hp.out hm.out ab.out;generalize ofT (m.set t.num z) t=ot at *;clear htv
      go_wp2_with (go_at_call 139;refine (ak.out _).mono ?_;rintro e W1 ⟨rfl,af⟩;obtain⟨r0,r2,r3⟩:=am.out _ _ af;obtain⟨c0,c1,c2,c3,c4,c5⟩:=r0.cells;have d0:=r2 0;have d1:=r2 1;have tk:=aa.out W1 m r0;obtain⟨nk,nf⟩:=r0.at _ ag;simp at d0 d1)
      have r1:qdf N w (W1.setCell (Ad N t.num) (.string z)).drew (m.set t.num z) x y:=(r0.put _ ag z).drew;have aw:(W1.setCell (Ad N t.num) (.string z)).drew.cell? (Ad wr.heap.size 0)=some (.string t.name):=(qbn W1 N t.num (.string z) wr.heap.size 0 (by omega)).trans d0;have av:(W1.setCell (Ad N t.num) (.string z)).drew.cell? (Ad wr.heap.size 1)=some (.int .i64 t.num):=(qbn W1 N t.num (.string z) wr.heap.size 1 (by omega)).trans d1
      go_region
      all_goals
       obtain⟨W3,al⟩:∃W3,(W1.setCell (Ad N t.num) (.string z)).drew=W3:=⟨_,rfl⟩;rw[al] at r1 aw av
       (try simp only[al])
       obtain⟨b0,b1,b2,b3,b4,b5⟩:=r1.cells;have bb:=aa.out W3 _ r1;clear c0 c1 c2 c3 c4 c5 d0 d1 tk nk nf al
       (try go_wp2)
       go_region_with (go_at_call 151;refine (ah _).mono ?_;rintro e W2 ⟨rfl,ae⟩;have r4:qdf N w W2 (m.set t.num z) x y:=r1.drew.below ae;have ap:=aa.out W2 _ r4)
       all_goals
        go_wp2;exact⟨⟨k+1,_,by omega,by go_num,ad,r4⟩,by simp[intOf];omega⟩
     .have ab:Hid (Qy m t z=none):=by show _=_;rw[ao.out,ai.out,if_neg ac]
      have ad:Hid (MA=none):=by show _=_;rw[HM.out];exact qjd hp.out hm.out ab.out
      generalize ofT (m.set t.num z) t=ot at *;have az:(ot.toList == z.toList)=false:=by simp[ac]
      clear htv
      go_wp2_with (go_at_call 139;refine (ak.out _).mono ?_;rintro e W1 ⟨rfl,af⟩;obtain⟨r0,r2,r3⟩:=am.out _ _ af;obtain⟨c0,c1,c2,c3,c4,c5⟩:=r0.cells;have d0:=r2 0;have d1:=r2 1;have tk:=aa.out W1 m r0;obtain⟨nk,nf⟩:=r0.at _ ag;simp at d0 d1)
      have r1:qdf N w (W1.setCell (Ad N t.num) (.string z)).drew (m.set t.num z) x y:=(r0.put _ ag z).drew;have aw:(W1.setCell (Ad N t.num) (.string z)).drew.cell? (Ad wr.heap.size 0)=some (.string t.name):=(qbn W1 N t.num (.string z) wr.heap.size 0 (by omega)).trans d0;have av:(W1.setCell (Ad N t.num) (.string z)).drew.cell? (Ad wr.heap.size 1)=some (.int .i64 t.num):=(qbn W1 N t.num (.string z) wr.heap.size 1 (by omega)).trans d1
      go_region
      all_goals
       obtain⟨W3,al⟩:∃W3,(W1.setCell (Ad N t.num) (.string z)).drew=W3:=⟨_,rfl⟩;rw[al] at r1 aw av
       (try simp only[al])
       obtain⟨b0,b1,b2,b3,b4,b5⟩:=r1.cells;have bb:=aa.out W3 _ r1;clear c0 c1 c2 c3 c4 c5 d0 d1 tk nk nf al
       (try go_wp2)
       go_region_with (go_at_call 151;refine (ah _).mono ?_;rintro e W2 ⟨rfl,ae⟩;have r4:qdf N w W2 (m.set t.num z) x y:=r1.drew.below ae;have ap:=aa.out W2 _ r4;obtain⟨e0,e1,e2,e3,e4,e5,ef⟩:=r4.zero)
       all_goals
        go_wp2;refine bodyPost_ret (v:=.tuple #[Qm.v,.bool false]) (by simp[results,Tryz.results157,go_sem,e0,e1,e2,e3,e4,e5,Qm,Nms.v,Nms.c]) rfl ?_;rw[ad.out,hN];exact⟨rfl,r4.fin⟩
  .have be:k=a.args.length:=by omega
   have a8:Hid (MA=some m):=by
    show _=_;rw[HM.out,<- hm.out,List.take_of_length_le (by simp;omega)]
   obtain⟨c0,c1,c2,c3,c4,c5⟩:=aj.cells;obtain⟨e0,e1,e2,e3,e4,e5,ef⟩:=aj.zero;go_wp2;refine bodyPost_ret (v:=.tuple #[m.v,.bool true]) (by simp[results,Tryz.results157,go_sem,e0,e1,e2,e3,e4,e5,Nms.v,Nms.c]) rfl ?_;rw[a8.out,hN];exact⟨rfl,aj.fin⟩
