/- Package model: an atom matched against the names of a -/
import Derived.Test.YtjajnhemgphefaaGreatDoorJMoB
set_option linter.unusedVariables false
set_option linter.unusedSimpArgs false
set_option maxRecDepth 100000
set_option maxHeartbeats 16000000
namespace Go.Proofs.YtjajnhemgphefaaGreatDoor
open Go renaming World->Wq,Value->Vq
open Go.RowKit Go.Shelf
variable {N k:Nat} {W:Wq} {m:Nms} {x y:ByteArray} {l:List (Tm×ByteArray)} {p:Tm×ByteArray}
def Nms.set(n:Nms)(k:Nat)(x:ByteArray):Nms:=
 match k with
 | 0=>{n with a0:=x}
 | 1=>{n with a1:=x}
 | 2=>{n with a2:=x}
 | 3=>{n with a3:=x}
 | 4=>{n with a4:=x}
 | 5=>{n with a5:=x}
 | _=>n
theorem Nms.set_c(n:Nms)(k:Nat)(x:ByteArray)(h:k < 6):n.c.setIfInBounds k (.string x)=(n.set k x).c:=by
 have hc:k=0\/k=1\/k=2\/k=3\/k=4\/k=5:=by omega
 rcases hc with rfl | rfl | rfl | rfl | rfl | rfl <;> rfl
theorem Nms.get_set(n:Nms)(k j:Nat)(x:ByteArray)(h:k < 6):(n.set k x).get j=if j=k then x else n.get j:=by
 have hc:k=0\/k=1\/k=2\/k=3\/k=4\/k=5:=by omega
 have hj:j=0\/j=1\/j=2\/j=3\/j=4\/j=5\/6<=j:=by omega
 rcases hc with rfl | rfl | rfl | rfl | rfl | rfl <;> rcases hj with rfl | rfl | rfl | rfl | rfl | rfl | hj
 all_goals first
  | rfl
  | (rw[if_neg (by omega)];match j,hj with | j+6,_=>rfl)
def qks(n:Nms)(t:Tm)(x:ByteArray):Nms:=if t.name.toList.isEmpty=true/\(n.get t.num).toList.isEmpty=true then n.set t.num x else n
def Qx(n:Nms)(t:Tm)(x:ByteArray):Option Nms:=if (ofT (qks n t x) t).toList=x.toList then some (qks n t x) else none
def qaw:Nms->List (Tm×ByteArray)->Option Nms
 | n,[]=>some n
 | n,p::l=>match Qx n p.1 p.2 with | some m=>qaw m l | none=>none
def qaj(n:Nms)(a:Am)(x y:ByteArray):Option Nms:=qaw n (a.args.zip [x,y])
theorem qnk(p:Tm×ByteArray):∀(l:List (Tm×ByteArray)) (n:Nms),qaw n (l++[p])=match qaw n l with | some m=>Qx m p.1 p.2 | none=>none
 | [],n=>by
  simp only[List.nil_append,qaw]
  cases Qx n p.1 p.2 <;> rfl
 | q::l,n=>by
  simp only[List.cons_append,qaw]
  cases Qx n q.1 q.2 with
  | none=>rfl
  | some m=>exact qnk p l m
theorem qnl(p:Tm×ByteArray):∀(l r:List (Tm×ByteArray)) (n m:Nms),qaw n l=some m->Qx m p.1 p.2=none->qaw n (l++p::r)=none
 | [],r,n,m,h,h2=>by
  simp only[qaw,Option.some.injEq] at h;subst h;simp only[List.nil_append,qaw,h2]
 | q::l,r,n,m,h,h2=>by
  simp only[List.cons_append,qaw] at h ⊢
  cases hq:Qx n q.1 q.2 with
  | none=>rfl
  | some m'=>rw[hq] at h;exact qnl p l r m' m h h2
def Qg:Nms:=⟨⟨#[]⟩,⟨#[]⟩,⟨#[]⟩,⟨#[]⟩,⟨#[]⟩,⟨#[]⟩⟩
def qkq:Option Nms->Vq
 | some m=>.tuple #[m.v,.bool true]
 | none=>.tuple #[Qg.v,.bool false]
structure qc4(N:Nat)(w W:Wq)(m:Nms)(x y:ByteArray):Prop where
 size:N+4<=W.heap.size
 nm:W.heap[N]?=some (Obj.cells m.c 176)
 th:W.heap[N+1+1]?=some (Obj.cells #[.string x,.string y] 109)
 res:W.heap[N+1+1+1]?=some (Obj.cells Qg.c 176)
 low:Below N w W
theorem qc4.below{w W':Wq}(h:qc4 N w W m x y)(hb:Below W.heap.size W W'):qc4 N w W' m x y:=by
 have hz:=hb.size;have h1:=h.size;exact⟨by omega,(hb.block _ (by omega)).trans h.nm,(hb.block _ (by omega)).trans h.th,(hb.block _ (by omega)).trans h.res,h.low.trans (hb.mono (by omega))⟩
theorem qc4.drewN{w:Wq}(h:qc4 N w W m x y)(q:Nat):qc4 N w (W.drewN q) m x y:=⟨h.size,h.nm,h.th,h.res,⟨h.low.os,h.low.tape,h.low.output,h.low.size,h.low.block⟩⟩
theorem qc4.drew{w:Wq}(h:qc4 N w W m x y):qc4 N w W.drew m x y:=⟨h.size,h.nm,h.th,h.res,h.low.drew⟩
theorem qc4.put{w:Wq}(h:qc4 N w W m x y)(k:Nat)(hk:k < 6)(z:ByteArray):qc4 N w (W.setCell ⟨N,k,none⟩ (.string z)) (m.set k z) x y:=by
 refine⟨by have:=h.size;simpa using this,?_,(Below.heap_setCell _ _ _ _ (by show N+1+1≠N;omega)).trans h.th,(Below.heap_setCell _ _ _ _ (by show N+1+1+1≠N;omega)).trans h.res,h.low.setCell (p:=⟨N,k,none⟩) (by simp) _⟩;rw[<- m.set_c k z hk];exact Qi h.nm k _
theorem qbn(W:Wq)(N k:Nat)(v:Vq)(b j:Nat)(h:b≠N):(W.setCell ⟨N,k,none⟩ v).cell? ⟨b,j,none⟩=W.cell? ⟨b,j,none⟩:=
 World.cell?_of_block (w:=W) (Below.heap_setCell _ _ _ _ h)
theorem qc4.cells{w:Wq}(h:qc4 N w W m x y) :
  W.cell? ⟨N,0,none⟩=some (.string m.a0)/\W.cell? ⟨N,1,none⟩=some (.string m.a1)/\W.cell? ⟨N,2,none⟩=some (.string m.a2)/\W.cell? ⟨N,3,none⟩=some (.string m.a3)/\W.cell? ⟨N,4,none⟩=some (.string m.a4)/\W.cell? ⟨N,5,none⟩=some (.string m.a5):=by
 have:=h.nm;unfold Nms.c at this;simp[World.cell?,this]
theorem qc4.zero{w:Wq}(h:qc4 N w W m x y) :
  W.cell? ⟨N+1+1+1,0,none⟩=some (.string ⟨#[]⟩)/\W.cell? ⟨N+1+1+1,1,none⟩=some (.string ⟨#[]⟩)/\W.cell? ⟨N+1+1+1,2,none⟩=some (.string ⟨#[]⟩)/\W.cell? ⟨N+1+1+1,3,none⟩=some (.string ⟨#[]⟩)/\W.cell? ⟨N+1+1+1,4,none⟩=some (.string ⟨#[]⟩)/\W.cell? ⟨N+1+1+1,5,none⟩=some (.string ⟨#[]⟩)/\∀k,W.frozen? ⟨N+1+1+1,k,none⟩=false:=by
 have:=h.res;unfold Nms.c Qg at this;simp[World.cell?,World.frozen?,this]
theorem qc4.fin{w:Wq}(h:qc4 N w W m x y){v0 v1 v2 v3 v4 v5:Vq}:Below N w ((((((W.setCell ⟨N+1+1+1,0,none⟩ v0).setCell ⟨N+1+1+1,1,none⟩ v1).setCell ⟨N+1+1+1,2,none⟩ v2).setCell ⟨N+1+1+1,3,none⟩ v3).setCell ⟨N+1+1+1,4,none⟩ v4).setCell ⟨N+1+1+1,5,none⟩ v5):=
 (((((h.low.setCell (p:=⟨N+1+1+1,0,none⟩) (by simp;omega) _).setCell (p:=⟨N+1+1+1,1,none⟩) (by simp;omega) _).setCell (p:=⟨N+1+1+1,2,none⟩) (by simp;omega) _).setCell (p:=⟨N+1+1+1,3,none⟩) (by simp;omega) _).setCell (p:=⟨N+1+1+1,4,none⟩) (by simp;omega) _).setCell (p:=⟨N+1+1+1,5,none⟩) (by simp;omega) _
theorem qc4.at{w:Wq}(h:qc4 N w W m x y)(k:Nat)(hk:k < 6):W.cell? ⟨N,k,none⟩=some (.string (m.get k))/\W.frozen? ⟨N,k,none⟩=false:=by
 refine⟨?_,by simp[World.frozen?,h.nm]⟩;simp only[World.cell?,h.nm];simpa using m.cell k hk
theorem qc4.thing{w:Wq}(h:qc4 N w W m x y)(k:Nat)(hk:k < 2):W.cell? ⟨N+1+1,k,none⟩=some (.string (if k=0 then x else y)):=by
 have hc:k=0\/k=1:=by omega
 rcases hc with rfl | rfl <;> simp[World.cell?,h.th]
theorem qi1{n m':Nms}(hp:l[k]?=some p)(hm:qaw n (l.take k)=some m)(hs:Qx m p.1 p.2=some m'):qaw n (l.take (k+1))=some m':=by
 rw[List.take_add_one,hp];simp only[Option.toList];rw[qnk,hm];exact hs
theorem qi0{n:Nms}(hp:l[k]?=some p)(hm:qaw n (l.take k)=some m)(hs:Qx m p.1 p.2=none):qaw n l=none:=by
 have hk:k < l.length:=(List.getElem?_eq_some_iff.1 hp).1
 have e:l=l.take k++p::l.drop (k+1):=by
  have h1:=List.take_append_drop k l;rw[List.drop_eq_getElem_cons hk] at h1;have h2:l[k]=p:=(List.getElem?_eq_some_iff.1 hp).2;rw[h2] at h1;exact h1.symm
 rw[e];exact qnl p _ _ n m hm hs
theorem qrz(n:Nms)(a:Am)(va:Vq)(b:Nat)(x y:ByteArray)(w:Wq)(hS:Qd w b va a.args)(hl:a.args.length<=2)(hn:∀t∈a.args,t.num < 6) :
  Calls Tryz.prog 157 #[n.v,.agg #[.string a.rel,va],.agg #[.string x,.string y]] w λe w'=>e=.returned (qkq (qaj n a x y))/\Below w.heap.size w w':=by
 obtain⟨ta,tc,htf⟩:=hS.form
 have Ql:∀k (hk:k < a.args.length),∃g,ta=some ⟨g,0,none⟩/\w.cell? ⟨g,k*2,none⟩=some (.string (a.args[k]).name)/\w.cell? ⟨g,k*2+1,none⟩=some (.int .i64 (a.args[k]).num)/\g < w.heap.size:=by
  intro k hk;obtain⟨g,c',h1,h2,h3,h4⟩:=qfc hS hk;rw[htf] at h1;cases h1;exact⟨g,rfl,h2,h3,h4⟩
 subst htf;have hof:Hid (∀(m:Nms) (t:Tm) (_:t.num < 6) W,Calls Tryz.prog 151 #[.agg #[.string m.a0,.string m.a1,.string m.a2,.string m.a3,.string m.a4,.string m.a5],.agg #[.string t.name,.int .i64 t.num]] W λe w'=>e=.returned (.string (ofT m t))/\Below W.heap.size W w'):=λm t ht W=>q4p m t ht W;have HC:Hid _:=Ql;have HNm:Hid _:=hn;clear Ql hS hn;have HM:Hid (qaj n a x y=qaw n (a.args.zip [x,y])):=rfl;generalize qaj n a x y=MA at *;unfold Nms.v;unfold Nms.c;go_enter Tryz.func157,Tryz.ntmps157;go_wp2;obtain⟨N,hN⟩:∃N,w.heap.size=N:=⟨_,rfl⟩;simp only[hN];obtain⟨W0,hW0⟩:∃W0,((((w.alloc (.cells #[.string n.a0,.string n.a1,.string n.a2,.string n.a3,.string n.a4,.string n.a5] 176)).alloc (.cells #[.string a.rel,.slice ta a.args.length tc] 92)).alloc (.cells #[.string x,.string y] 109)).alloc (.cells #[.string ⟨#[]⟩,.string ⟨#[]⟩,.string ⟨#[]⟩,.string ⟨#[]⟩,.string ⟨#[]⟩,.string ⟨#[]⟩] 176))=W0:=⟨_,rfl⟩
 have qqx:qc4 N w W0 n x y:=by
  rw[<- hW0,<- hN];refine⟨by simp,?_,?_,?_,((((Below.refl _ w).alloc zl _).alloc (by simp) _).alloc (by simp;omega) _).alloc (by simp;omega) _⟩
  ·exact (Below.heap_alloc _ _ _ (by simp;omega)).trans ((Below.heap_alloc _ _ _ (by simp;omega)).trans ((Below.heap_alloc _ _ _ (by simp)).trans (World.alloc_heap_new w _)))
  ·refine (Below.heap_alloc _ _ _ (by simp)).trans ?_;have:=World.alloc_heap_new ((w.alloc (.cells #[.string n.a0,.string n.a1,.string n.a2,.string n.a3,.string n.a4,.string n.a5] 176)).alloc (.cells #[.string a.rel,.slice ta a.args.length tc] 92)) (.cells #[.string x,.string y] 109);rw[World.size_alloc,World.size_alloc] at this;exact this
  ·have:=World.alloc_heap_new (((w.alloc (.cells #[.string n.a0,.string n.a1,.string n.a2,.string n.a3,.string n.a4,.string n.a5] 176)).alloc (.cells #[.string a.rel,.slice ta a.args.length tc] 92)).alloc (.cells #[.string x,.string y] 109)) (.cells #[.string ⟨#[]⟩,.string ⟨#[]⟩,.string ⟨#[]⟩,.string ⟨#[]⟩,.string ⟨#[]⟩,.string ⟨#[]⟩] 176);rw[World.size_alloc,World.size_alloc,World.size_alloc] at this;exact this
 rw[hW0];clear hW0
 go_loopw [13] (λi wr=>∃(k:Nat) (m:Nms),k<=a.args.length/\i=.int .i64 k/\Hid (qaw n ((a.args.zip [x,y]).take k)=some m)/\qc4 N w wr m x y) (λi _=>a.args.length - (intOf i).toNat)
 case atStart=>exact⟨0,n,Nat.zero_le _,rfl,by show _=_;simp[qaw],qqx⟩
 case round=>
  obtain⟨k,m,hk,rfl,hm,hst⟩:=hrel;by_cases hlt:k < a.args.length
  ·obtain⟨g,rfl,q0,q1,hg⟩:=HC.out k hlt;have q0':=(hst.low.cell (p:=⟨g,k*2,none⟩) (by rw[<- hN];exact hg)).trans q0;have q1':=(hst.low.cell (p:=⟨g,k*2+1,none⟩) (by rw[<- hN];exact hg)).trans q1;have qd0:(a.args[k]).num < 6:=HNm.out _ (List.getElem_mem hlt);have i1:(k:Int) < (a.args.length:Int):=by omega
   have i2:(k:Int) < 2:=by omega
   have hk2:k < 2:=by omega
   have hp:Hid ((a.args.zip [x,y])[k]?=some (a.args[k],if k=0 then x else y)):=by
    show _=_;rw[List.getElem?_zip_eq_some];refine⟨List.getElem?_eq_getElem hlt,?_⟩;have hc:k=0\/k=1:=by omega
    rcases hc with rfl | rfl <;> rfl
   have hiv:Hid (∀W,Calls Tryz.prog 139 #[.agg #[.string (a.args[k]).name,.int .i64 (a.args[k]).num]] W λe w'=>e=.returned (.bool (a.args[k]).name.toList.isEmpty)/\Below W.heap.size W w'):=λW=>qb6 _ W;have q9s:Hid (∀(m:Nms) W,Calls Tryz.prog 151 #[.agg #[.string m.a0,.string m.a1,.string m.a2,.string m.a3,.string m.a4,.string m.a5],.agg #[.string (a.args[k]).name,.int .i64 (a.args[k]).num]] W λe w'=>e=.returned (.string (ofT m a.args[k]))/\Below W.heap.size W w'):=λm W=>hof.out m _ qd0 W;have qa1:Hid (Qx m a.args[k] (if k=0 then x else y)=if (ofT (qks m a.args[k] (if k=0 then x else y)) a.args[k]).toList=(if k=0 then x else y).toList then some (qks m a.args[k] (if k=0 then x else y)) else none):=rfl;have qd1:Hid (qks m a.args[k] (if k=0 then x else y)=if (a.args[k]).name.toList.isEmpty=true/\(m.get (a.args[k]).num).toList.isEmpty=true then m.set (a.args[k]).num (if k=0 then x else y) else m):=rfl
   have qdt:Hid (∀O W1,Below (wr.alloc O).heap.size (wr.alloc O) W1->qc4 N w W1 m x y/\(∀j,W1.cell? ⟨wr.heap.size,j,none⟩=(wr.alloc O).cell? ⟨wr.heap.size,j,none⟩)/\wr.heap.size < W1.heap.size):=λO W1 hb=>
    ⟨hst.below (((Below.refl _ wr).alloc zl O).trans (hb.mono (by simp))),λj=>hb.cell (p:=⟨wr.heap.size,j,none⟩) (by simp),by have:=hb.size;simp at this;omega⟩
   have hNs:N+4<=wr.heap.size:=hst.size;have qlo:Hid (∀W m,qc4 N w W m x y->W.cell? ⟨N+1+1,k,none⟩=some (.string (if k=0 then x else y))):=λW m h=>h.thing k hk2;clear q0 q1 hst;generalize (if k=0 then x else y)=z at *;generalize a.args[k]=t at *
   cases htv:t.name.toList.isEmpty with
   | false=>
    rw[htv] at hiv;have hpm:Hid (qks m t z=m):=by show _=_;rw[qd1.out,htv];simp
    have HOF:=q9s.out (m);by_cases heq:(ofT (m) t).toList=z.toList
    ·have hms:Hid (Qx m t z=some (m)):=by show _=_;rw[qa1.out,hpm.out,if_pos heq]
     have hnx:Hid (qaw n ((a.args.zip [x,y]).take (k+1))=some (m)):=qi1 hp.out hm.out hms.out;generalize ofT (m) t=ot at *;clear htv
     go_wp2_with (go_at_call 139;refine (hiv.out _).mono ?_;rintro e W1 ⟨rfl,hb1⟩;obtain⟨r1,r2,r3⟩:=qdt.out _ _ hb1;obtain⟨c0,c1,c2,c3,c4,c5⟩:=r1.cells;have d0:=r2 0;have d1:=r2 1;have tk:=qlo.out W1 m r1;obtain⟨nk,nf⟩:=r1.at _ qd0;simp at d0 d1)
     go_region_with (go_at_call 151;refine (HOF _).mono ?_;rintro e W2 ⟨rfl,hb2⟩;have r4:qc4 N w W2 (m) x y:=r1.drew.below hb2;have tk2:=qlo.out W2 _ r4)
     all_goals
      go_wp2;exact⟨⟨k+1,_,by omega,by go_num,hnx,r4⟩,by simp[intOf];omega⟩
    ·have hms:Hid (Qx m t z=none):=by show _=_;rw[qa1.out,hpm.out,if_neg heq]
     have hnx:Hid (MA=none):=by show _=_;rw[HM.out];exact qi0 hp.out hm.out hms.out
     generalize ofT (m) t=ot at *;have hne:(ot.toList == z.toList)=false:=by simp[heq]
     clear htv
     go_wp2_with (go_at_call 139;refine (hiv.out _).mono ?_;rintro e W1 ⟨rfl,hb1⟩;obtain⟨r1,r2,r3⟩:=qdt.out _ _ hb1;obtain⟨c0,c1,c2,c3,c4,c5⟩:=r1.cells;have d0:=r2 0;have d1:=r2 1;have tk:=qlo.out W1 m r1;obtain⟨nk,nf⟩:=r1.at _ qd0;simp at d0 d1)
     go_region_with (go_at_call 151;refine (HOF _).mono ?_;rintro e W2 ⟨rfl,hb2⟩;have r4:qc4 N w W2 (m) x y:=r1.drew.below hb2;have tk2:=qlo.out W2 _ r4;obtain⟨e0,e1,e2,e3,e4,e5,ef⟩:=r4.zero)
     all_goals
      go_wp2;refine bodyPost_ret (v:=.tuple #[Qg.v,.bool false]) (by simp[results,Tryz.results157,go_sem,e0,e1,e2,e3,e4,e5,Qg,Nms.v,Nms.c]) rfl ?_;rw[hnx.out,hN];exact⟨rfl,r4.fin⟩
   | true=>
    rw[htv] at hiv
    cases hge:(m.get t.num).toList.isEmpty with
    | false=>
     have hpm:Hid (qks m t z=m):=by show _=_;rw[qd1.out,hge];simp
     have HOF:=q9s.out (m);by_cases heq:(ofT (m) t).toList=z.toList
     ·have hms:Hid (Qx m t z=some (m)):=by show _=_;rw[qa1.out,hpm.out,if_pos heq]
      have hnx:Hid (qaw n ((a.args.zip [x,y]).take (k+1))=some (m)):=qi1 hp.out hm.out hms.out;generalize ofT (m) t=ot at *;clear htv
      go_wp2_with (go_at_call 139;refine (hiv.out _).mono ?_;rintro e W1 ⟨rfl,hb1⟩;obtain⟨r1,r2,r3⟩:=qdt.out _ _ hb1;obtain⟨c0,c1,c2,c3,c4,c5⟩:=r1.cells;have d0:=r2 0;have d1:=r2 1;have tk:=qlo.out W1 m r1;obtain⟨nk,nf⟩:=r1.at _ qd0;simp at d0 d1)
      go_region_with (go_at_call 151;refine (HOF _).mono ?_;rintro e W2 ⟨rfl,hb2⟩;have r4:qc4 N w W2 (m) x y:=r1.drew.below hb2;have tk2:=qlo.out W2 _ r4)
      all_goals
       go_wp2;exact⟨⟨k+1,_,by omega,by go_num,hnx,r4⟩,by simp[intOf];omega⟩
     ·have hms:Hid (Qx m t z=none):=by show _=_;rw[qa1.out,hpm.out,if_neg heq]
      have hnx:Hid (MA=none):=by show _=_;rw[HM.out];exact qi0 hp.out hm.out hms.out
      generalize ofT (m) t=ot at *;have hne:(ot.toList == z.toList)=false:=by simp[heq]
      clear htv
      go_wp2_with (go_at_call 139;refine (hiv.out _).mono ?_;rintro e W1 ⟨rfl,hb1⟩;obtain⟨r1,r2,r3⟩:=qdt.out _ _ hb1;obtain⟨c0,c1,c2,c3,c4,c5⟩:=r1.cells;have d0:=r2 0;have d1:=r2 1;have tk:=qlo.out W1 m r1;obtain⟨nk,nf⟩:=r1.at _ qd0;simp at d0 d1)
      go_region_with (go_at_call 151;refine (HOF _).mono ?_;rintro e W2 ⟨rfl,hb2⟩;have r4:qc4 N w W2 (m) x y:=r1.drew.below hb2;have tk2:=qlo.out W2 _ r4;obtain⟨e0,e1,e2,e3,e4,e5,ef⟩:=r4.zero)
      all_goals
       go_wp2;refine bodyPost_ret (v:=.tuple #[Qg.v,.bool false]) (by simp[results,Tryz.results157,go_sem,e0,e1,e2,e3,e4,e5,Qg,Nms.v,Nms.c]) rfl ?_;rw[hnx.out,hN];exact⟨rfl,r4.fin⟩
    | true=>
     have hpm:Hid (qks m t z=m.set t.num z):=by show _=_;rw[qd1.out,htv,hge];simp
     have HOF:=q9s.out (m.set t.num z);by_cases heq:(ofT (m.set t.num z) t).toList=z.toList
     ·have hms:Hid (Qx m t z=some (m.set t.num z)):=by show _=_;rw[qa1.out,hpm.out,if_pos heq]
      have hnx:Hid (qaw n ((a.args.zip [x,y]).take (k+1))=some (m.set t.num z)):=qi1 hp.out hm.out hms.out;generalize ofT (m.set t.num z) t=ot at *;clear htv
      go_wp2_with (go_at_call 139;refine (hiv.out _).mono ?_;rintro e W1 ⟨rfl,hb1⟩;obtain⟨r0,r2,r3⟩:=qdt.out _ _ hb1;obtain⟨c0,c1,c2,c3,c4,c5⟩:=r0.cells;have d0:=r2 0;have d1:=r2 1;have tk:=qlo.out W1 m r0;obtain⟨nk,nf⟩:=r0.at _ qd0;simp at d0 d1)
      have r1:qc4 N w (W1.setCell ⟨N,t.num,none⟩ (.string z)).drew (m.set t.num z) x y:=(r0.put _ qd0 z).drew;have dd0:(W1.setCell ⟨N,t.num,none⟩ (.string z)).drew.cell? ⟨wr.heap.size,0,none⟩=some (.string t.name):=(qbn W1 N t.num (.string z) wr.heap.size 0 (by omega)).trans d0;have dd1:(W1.setCell ⟨N,t.num,none⟩ (.string z)).drew.cell? ⟨wr.heap.size,1,none⟩=some (.int .i64 t.num):=(qbn W1 N t.num (.string z) wr.heap.size 1 (by omega)).trans d1
      go_region
      all_goals
       obtain⟨W3,hW3⟩:∃W3,(W1.setCell ⟨N,t.num,none⟩ (.string z)).drew=W3:=⟨_,rfl⟩;rw[hW3] at r1 dd0 dd1
       (try simp only[hW3])
       obtain⟨b0,b1,b2,b3,b4,b5⟩:=r1.cells;have tk3:=qlo.out W3 _ r1;clear c0 c1 c2 c3 c4 c5 d0 d1 tk nk nf hW3
       (try go_wp2)
       go_region_with (go_at_call 151;refine (HOF _).mono ?_;rintro e W2 ⟨rfl,hb2⟩;have r4:qc4 N w W2 (m.set t.num z) x y:=r1.drew.below hb2;have tk2:=qlo.out W2 _ r4)
       all_goals
        go_wp2;exact⟨⟨k+1,_,by omega,by go_num,hnx,r4⟩,by simp[intOf];omega⟩
     ·have hms:Hid (Qx m t z=none):=by show _=_;rw[qa1.out,hpm.out,if_neg heq]
      have hnx:Hid (MA=none):=by show _=_;rw[HM.out];exact qi0 hp.out hm.out hms.out
      generalize ofT (m.set t.num z) t=ot at *;have hne:(ot.toList == z.toList)=false:=by simp[heq]
      clear htv
      go_wp2_with (go_at_call 139;refine (hiv.out _).mono ?_;rintro e W1 ⟨rfl,hb1⟩;obtain⟨r0,r2,r3⟩:=qdt.out _ _ hb1;obtain⟨c0,c1,c2,c3,c4,c5⟩:=r0.cells;have d0:=r2 0;have d1:=r2 1;have tk:=qlo.out W1 m r0;obtain⟨nk,nf⟩:=r0.at _ qd0;simp at d0 d1)
      have r1:qc4 N w (W1.setCell ⟨N,t.num,none⟩ (.string z)).drew (m.set t.num z) x y:=(r0.put _ qd0 z).drew;have dd0:(W1.setCell ⟨N,t.num,none⟩ (.string z)).drew.cell? ⟨wr.heap.size,0,none⟩=some (.string t.name):=(qbn W1 N t.num (.string z) wr.heap.size 0 (by omega)).trans d0;have dd1:(W1.setCell ⟨N,t.num,none⟩ (.string z)).drew.cell? ⟨wr.heap.size,1,none⟩=some (.int .i64 t.num):=(qbn W1 N t.num (.string z) wr.heap.size 1 (by omega)).trans d1
      go_region
      all_goals
       obtain⟨W3,hW3⟩:∃W3,(W1.setCell ⟨N,t.num,none⟩ (.string z)).drew=W3:=⟨_,rfl⟩;rw[hW3] at r1 dd0 dd1
       (try simp only[hW3])
       obtain⟨b0,b1,b2,b3,b4,b5⟩:=r1.cells;have tk3:=qlo.out W3 _ r1;clear c0 c1 c2 c3 c4 c5 d0 d1 tk nk nf hW3
       (try go_wp2)
       go_region_with (go_at_call 151;refine (HOF _).mono ?_;rintro e W2 ⟨rfl,hb2⟩;have r4:qc4 N w W2 (m.set t.num z) x y:=r1.drew.below hb2;have tk2:=qlo.out W2 _ r4;obtain⟨e0,e1,e2,e3,e4,e5,ef⟩:=r4.zero)
       all_goals
        go_wp2;refine bodyPost_ret (v:=.tuple #[Qg.v,.bool false]) (by simp[results,Tryz.results157,go_sem,e0,e1,e2,e3,e4,e5,Qg,Nms.v,Nms.c]) rfl ?_;rw[hnx.out,hN];exact⟨rfl,r4.fin⟩
  ·have hka:k=a.args.length:=by omega
   have qny:Hid (MA=some m):=by
    show _=_;rw[HM.out,<- hm.out,List.take_of_length_le (by simp;omega)]
   obtain⟨c0,c1,c2,c3,c4,c5⟩:=hst.cells;obtain⟨e0,e1,e2,e3,e4,e5,ef⟩:=hst.zero;go_wp2;refine bodyPost_ret (v:=.tuple #[m.v,.bool true]) (by simp[results,Tryz.results157,go_sem,e0,e1,e2,e3,e4,e5,Nms.v,Nms.c]) rfl ?_;rw[qny.out,hN];exact⟨rfl,hst.fin⟩
