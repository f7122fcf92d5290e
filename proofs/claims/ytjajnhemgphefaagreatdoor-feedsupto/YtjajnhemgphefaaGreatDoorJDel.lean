/- A part -/
import Derived.Test.YtjajnhemgphefaaGreatDoorJTxt2
import Derived.Lib.SliceRun
set_option linter.all false
set_option maxRecDepth 100000
set_option maxHeartbeats 16000000
open List renaming length->aB,take_succ_eq_append_getElem->aY,take_length->aZ,flatMap_append->bD,getElem?_take->bE,map_append->bI,getElem?_eq_none->bJ,flatMap_cons->bO,ext_getElem?->bQ,length_cons->bT,not_mem_nil->bU,length_map->bX,mem_cons->bZ
open Go.World renaming cell?->aC,frozen?->aD,ownsRow->aE,size_alloc->bH
open Go.Value renaming ownBlock->aF,slice->aH,string->aI,agg->aJ,bool->aK,tuple->aL,int->aM
open Go.Obj renaming cells->aN
open Go.Ending renaming returned->aO
open Go.IntKind renaming i64->aP
open Or renaming inl->aQ,inr->aR
open Option renaming some->aV,none->aW
open Nat renaming mul_le_mul_right->aX,le_refl->bC,zero_add->cA
open Array renaming size_append->bB,replicate_succ->bL
open Go.RowKit.Below renaming refl->bF,heap_alloc->bG
open Go.RowKit renaming Below->cD
open Go.Proofs.Tryz renaming underlying196->cE,prog->cJ,underlying134->cL,growRecord->cR
open Go renaming cell_later->cF,info_parts->cG,wpList_append_own->cI,callsIn_wide->cM,grownCap_le_maxLen->cO,run_takeDeferred->cP,step_append_room->cQ,grownBy_putObj'->cS
open Go.Builtin renaming zeroCells->cH
namespace Go.Proofs.YtjajnhemgphefaaGreatDoor
open Go renaming World->Wq,Value->Vq
open Go.RowKit Go.Shelf
variable {W:Wq} {size b e:Nat} {xs:List Vq}
theorem qZ(z:Array Vq)(n:Nat):(cH z n).size=n*z.size:=by
 unfold cH
 induction n with
 |zero=>simp
 |succ n ih=>simp[bL,Nat.succ_mul]
structure Sl where
 v:Vq
 n:Nat
 xs:List Vq
def eK(l:List Sl):Nat:=(l.map (·.n)).sum
theorem sv{l:List Sl}{k:Nat}(h:k<aB l):eK (l.take (k+1))=eK (l.take k)+(l[k]).n:=by grind [eK,aY]
theorem tP(l:List Sl)(k:Nat):eK (l.take k)<=eK l:=by grind [eK,List.take_append_drop]
def jn(W:Wq)(size:Nat)(s:Sl):Prop:=
 (s.v=aH aW 0 0/\s.n=0/\s.xs=[])\/
 ∃a c,s.v=aH (aV a) s.n c/\aB s.xs=s.n*size/\(∀j u,s.xs[j]?=aV u->aC W (a.add j)=aV u)/\(s.n≠0->a.block<W.heap.size)/\∀u∈s.xs,u.oneCell'=true
theorem jn.form{s:Sl}(h:jn W size s):∃a c,s.v=aH a s.n c:=by
 rcases h with⟨d,z,_⟩|⟨a,c,d,_⟩
 .grind
 .grind
theorem jn.later{W':Wq}{s:Sl}(h:jn W size s)(d:cD W.heap.size W W'):jn W' size s:=by
 rcases h with h|⟨a,c,z,A,C,E,G⟩
 .exact aQ h
 .refine aR ⟨a,c,z,A,λj u M=>cF d (C j u M),λO=>?_,G⟩;have:=E O;have:=d.size;omega
theorem l6{b' n:Nat}{v:Vq}(h:aE W b e size v n xs)(C:b'<=b):aE W b' e size v n xs:=by
 obtain⟨h0,z|⟨g,d,ae,G,E,A⟩⟩:=h
 .exact⟨h0,aQ z⟩
 .exact⟨h0,aR ⟨g,d,ae,G,Nat.le_trans C E,A⟩⟩
theorem Ap{n:Nat}{v:Vq}(h:aE W b e size v n xs){g:Nat}(d:aF v=aV g):b<=g:=by
 obtain⟨h0,⟨A,_⟩|⟨g',z,ae,E,C,G⟩⟩:=h
 .rw[A] at d;cases d
 .rw[E] at d;cases d;exact C
theorem Bv(W:Wq)(r:Option Nat):W.grownBy W r:=⟨rfl,rfl,rfl,bC _,λ_ _ _=>rfl⟩
theorem Af{P:Program}(w:Wq){z:Array Oper}{rest:List Oper}{o:Oper}{a:Act}{Q:Exit->Act->Wq->Prop}(A:o.guard=aW)(s x:Operand)(t:TypeId)(G:o.op=.call {callee:=.builtin .append,args:=#[s,x],argTypes:=#[t,t]})(d:Nat)(e:TypeId)(i:TypeInfo)(size:Nat)(O:P.underlying t=aV (.slice e))(E:P.info? e=aV i)(v:Vq)(n:Nat)(xs:List Vq)(hs:a.eval s=v)(qt:aE w d e size v n xs)(Z:a.eval x=aH aW 0 0)(h:wpList P z Q rest (a.put o.dst v) w):wpList P z Q (o::rest) a w:=by refine wpList_plain A λK C=>?_;have M:=run_append_owned_none (P:=P) w d t o.type e i size O E v n xs qt;unfold Oper.wp execOp;simp only[G,resolve,invoke,builtin,Sem.run_bind,Sem.run_pure,Result.andThen_ok,List.map_toArray,List.map_cons,List.map_nil,hs,Z,M];exact C _ _ h
theorem Tryz.infoRec:(Tryz.prog.info? 71).map (λi=>(i.zero,i.size,i.bytes))=aV (aV (aJ #[Ii 0,Ii 0,St ⟨#[]⟩,Ii 0]),4,40):=by kernel_rfl
theorem CP(n:Nat)(A:n<=1000)(w:Wq):Cs 259 #[aH aW 0 0,Ii n] w λe w'=>∃v,e=aO v/\aE w' w.heap.size 92 2 v 0 []/\cD w.heap.size w w':=by
 by_cases h0:n=0
 .subst h0;refine (Any8.slices_Grow_room Tryz.growAtom aW 0 0 0 w zl (by decide) (by decide) zl).mono ?_;rintro e w' ⟨rfl,rfl⟩;exact⟨_,rfl,zo,zr⟩
 .have⟨i0,hi,am,ai,an⟩:=cG Tryz.info45;refine (Any8.slices_Grow_grow Tryz.growAtom i0 _ hi am (by rw[ai];decide) aW 0 0 n [] w zl (by omega) (by rw[an];omega) (by omega) (by simp) (λ_=>rfl) (λa h=>by cases h)).mono ?_;rintro e w' ⟨rfl,rfl⟩;have d:=grownCap_ge w (0+n) 0 92;have z:=cO w (0+n) 0 92 (by unfold maxLen;omega);refine⟨_,rfl,⟨rfl,aR ⟨w.heap.size,_,_,rfl,bC _,zn w.drew _,zz,z,?_,by simp⟩⟩,(bF w.heap.size w).drew.alloc zl _⟩;rw[bB,bB,qZ,qZ];show 0+_*2+_*2=_*2;have:∀g:Nat,0+n<=g->0+(0+n-0)*2+(g-(0+n))*2=g*2:=λg h=>by{omega};exact this _ d
theorem G3(B:Nat)(d:List Sl)(w:Wq)(hB:w.heap[B]?=aV (aN (d.map (·.v)).toArray 134))(bi:∀s∈d,jn w 2 s)(hn:eK d<=500)(hl:aB d<=10):Cs 230 #[Sc B (aB d) (aB d)] w λe w'=>∃v,e=aO v/\aE w' w.heap.size 92 2 v (eK d) (d.flatMap (·.xs))/\cD w.heap.size w w':=by
 have dq:B<w.heap.size:=(zg hB).1;have b3:Hid (∀W,Cs 259 #[aH aW 0 0,Ii (eK d)] W λe w'=>∃v,e=aO v/\aE w' W.heap.size 92 2 v 0 []/\cD W.heap.size W w'):=λW=>CP _ (by omega) W;have Ql:Hid (∀W,cD w.heap.size w W->∀k (G:k<aB d),aC W (Ad B k)=aV (d[k]).v/\jn W 2 d[k]):=by intro W A k G;refine⟨cF A ?_,(bi _ (zm G)).later A⟩;simp[aC,hB,G]
 clear bi hB;have⟨i0,hi,am,ai,an⟩:=cG Tryz.info45;go_enter Tryz.func230,Tryz.ntmps230;go_wp2
 go_loopw [3,11] (λx y wr=>∃k:Nat,k<=aB d/\x=aM aP (eK (d.take k))/\y=aM aP k/\cD w.heap.size w wr) (λx y _=>aB d-(intOf y).toNat)
 case atStart=>exact⟨0,zz,rfl,rfl,zr⟩
 case round=>
  obtain⟨k,G,rfl,rfl,A⟩:=hrel;by_cases C:k<aB d
  .have⟨hc,hs⟩:=Ql.o wr A k C;have⟨a,c,hv⟩:=hs.form;have E:eK (d.take (k+1))=eK (d.take k)+(d[k]).n:=sv C;have aw:=tP d (k+1);rw[hv] at hc;have i1:(k:Int)<(aB d:Int):=by{omega};generalize (d[k]).n=m at *;generalize hq:eK (d.take k)=q at *;have i2:¬((q:Int)+m<0):=by{omega};clear hs hv hq;go_wp2
   go_roundw
   case rel=>exact⟨k+1,by omega,by rw[E];go_num,by go_num,A⟩
   case measure=>simp[intOf];omega
  .have au:k=aB d:=by{omega};subst au;rw[aZ] at *;generalize hq:eK d=q at *;have az:=aA hq;have d5:q<=500:=hn;clear hq
   go_wp2_with (go_at_call 259;refine (b3.o _).mono ?_;rintro e W1 ⟨v,rfl,z,M⟩;have⟨va,vc,cd⟩:=qe z;subst cd)
   have b0:cD w.heap.size w W1:=A.trans (M.mono A.size);have bb:aE W1 w.heap.size 92 2 (aH va 0 vc) 0 []:=l6 z A.size;clear z b3 M A
   go_loopw [6,27] (λx y wr=>∃k:Nat,k<=aB d/\(∃vx,vx=x/\aE wr w.heap.size 92 2 vx (eK (d.take k)) ((d.take k).flatMap (·.xs)))/\y=aM aP k/\cD w.heap.size w wr) (λx y _=>aB d-(intOf y).toNat)
   case atStart=>exact⟨0,zz,⟨_,rfl,bb⟩,rfl,b0⟩
   case round=>
    clear bb b0;obtain⟨k,G,⟨vx,rfl,z⟩,rfl,A⟩:=hrel;by_cases C:k<aB d
    .have⟨hc,hs⟩:=Ql.o _ A k C;have E:eK (d.take (k+1))=eK (d.take k)+(d[k]).n:=sv C;have aw:=tP d (k+1);have a6:(d.take (k+1)).flatMap (·.xs)=(d.take k).flatMap (·.xs)++(d[k]).xs:=by{rw[aY C,bD];simp};have i1:(k:Int)<(aB d:Int):=by{omega};have a8:=A.size;have a7:Hid (∀Z w1,aE w1 w.heap.size 92 2 Z (eK (d.take k)+(d[k]).n) ((d.take k).flatMap (·.xs)++(d[k]).xs)->wr.grownBy w1 (aF vx)->aE w1 w.heap.size 92 2 Z (eK (d.take (k+1))) ((d.take (k+1)).flatMap (·.xs))/\cD w.heap.size w w1):=by intro Z w1 h1 h2;rw[E,a6];exact⟨h1,A.grown h2 a8 (λg hg=>Ap z hg)⟩
     rw[az.o] at aw;rcases hs with⟨s1,s2,O⟩|⟨a,c,s1,s2,O,s4,s5⟩
     .rw[s1] at hc;have hl:=a7.o vx wr (by rw[s2,O];simpa using z) (Bv _ _);have HL:=aA hl;have HO:=aA z;have⟨xa,xc,ak⟩:=qe z;clear a7 a6 E hl;subst ak
      go_wp2_with (at_builtin;refine Af _ rfl (.tmp 31) (.tmp 32) 134 rfl w.heap.size 92 i0 2 cL hi _ _ _ rfl HO.o rfl ?_)
      go_roundw
      case rel=>exact⟨k+1,by omega,⟨_,rfl,HL.o.1⟩,by go_num,HL.o.2⟩
      case measure=>simp[intOf];omega
     .rw[s1] at hc;have M:eK (d.take k)+(d[k]).n<=maxLen:=by{unfold maxLen;omega};have bj:(eK (d.take k)+(d[k]).n)*40<=140737488355328:=by{omega};have HO:=aA z;have⟨xa,xc,ak⟩:=qe z;have S3:=aA O;generalize (d[k]).n=m at *;generalize (d[k]).xs=news at *;clear a6 E aw O z;subst ak
      go_wp2_with (at_builtin;refine cI _ rfl (.tmp 31) (.tmp 32) 134 rfl w.heap.size 92 i0 _ 2 40 cL hi am ai an rfl (by decide) _ _ _ rfl HO.o a m c news rfl s2 S3.o s5 M bj a8 ?_;intro Z w1 ab ac _;have⟨dp,dr,Qe0⟩:=qe ab;subst Qe0)
      have⟨t1,t2⟩:=a7.o _ w1 ab ac
      go_roundw
      case rel=>exact⟨k+1,by omega,⟨_,rfl,t1⟩,by go_num,t2⟩
      case measure=>simp[intOf];omega
    .have au:k=aB d:=by{omega};subst au;rw[aZ] at z;rw[az.o] at z;have⟨xa,xc,ak⟩:=qe z;subst ak;go_wp2;go_ret;refine⟨_,rfl,?_,A⟩;rw[az.o];exact z
theorem FI(n:Nat)(A:n<=1000)(w:Wq):Cs 194 #[aH aW 0 0,Ii n] w λe w'=>∃v,e=aO v/\aE w' w.heap.size 71 4 v 0 []/\cD w.heap.size w w':=by
 by_cases h0:n=0
 .subst h0;refine (Any8.slices_Grow_room cR aW 0 0 0 w zl (by decide) (by decide) zl).mono ?_;rintro e w' ⟨rfl,rfl⟩;exact⟨_,rfl,zo,zr⟩
 .have⟨i0,hi,am,ai,an⟩:=cG Tryz.infoRec;refine (Any8.slices_Grow_grow cR i0 _ hi am (by rw[ai];decide) aW 0 0 n [] w zl (by omega) (by rw[an];omega) (by omega) (by simp) (λ_=>rfl) (λa h=>by cases h)).mono ?_;rintro e w' ⟨rfl,rfl⟩;have d:=grownCap_ge w (0+n) 0 71;have z:=cO w (0+n) 0 71 (by unfold maxLen;omega);refine⟨_,rfl,⟨rfl,aR ⟨w.heap.size,_,_,rfl,bC _,zn w.drew _,zz,z,?_,by simp⟩⟩,(bF w.heap.size w).drew.alloc zl _⟩;rw[bB,bB,qZ,qZ];show 0+_*4+_*4=_*4;have:∀g:Nat,0+n<=g->0+(0+n-0)*4+(g-(0+n))*4=g*4:=λg h=>by{omega};exact this _ d
theorem Fn(B:Nat)(d:List Sl)(w:Wq)(hB:w.heap[B]?=aV (aN (d.map (·.v)).toArray 196))(bi:∀s∈d,jn w 4 s)(hn:eK d<=500)(hl:aB d<=10):Cs 148 #[Sc B (aB d) (aB d)] w λe w'=>∃v,e=aO v/\aE w' w.heap.size 71 4 v (eK d) (d.flatMap (·.xs))/\cD w.heap.size w w':=by
 have dq:B<w.heap.size:=(zg hB).1;have b3:Hid (∀W,Cs 194 #[aH aW 0 0,Ii (eK d)] W λe w'=>∃v,e=aO v/\aE w' W.heap.size 71 4 v 0 []/\cD W.heap.size W w'):=λW=>FI _ (by omega) W;have Ql:Hid (∀W,cD w.heap.size w W->∀k (G:k<aB d),aC W (Ad B k)=aV (d[k]).v/\jn W 4 d[k]):=by intro W A k G;refine⟨cF A ?_,(bi _ (zm G)).later A⟩;simp[aC,hB,G]
 clear bi hB;have⟨i0,hi,am,ai,an⟩:=cG Tryz.infoRec;go_enter Tryz.func148,Tryz.ntmps148;go_wp2
 go_loopw [3,11] (λx y wr=>∃k:Nat,k<=aB d/\x=aM aP (eK (d.take k))/\y=aM aP k/\cD w.heap.size w wr) (λx y _=>aB d-(intOf y).toNat)
 case atStart=>exact⟨0,zz,rfl,rfl,zr⟩
 case round=>
  obtain⟨k,G,rfl,rfl,A⟩:=hrel;by_cases C:k<aB d
  .have⟨hc,hs⟩:=Ql.o wr A k C;have⟨a,c,hv⟩:=hs.form;have E:eK (d.take (k+1))=eK (d.take k)+(d[k]).n:=sv C;have aw:=tP d (k+1);rw[hv] at hc;have i1:(k:Int)<(aB d:Int):=by{omega};generalize (d[k]).n=m at *;generalize hq:eK (d.take k)=q at *;have i2:¬((q:Int)+m<0):=by{omega};clear hs hv hq;go_wp2
   go_roundw
   case rel=>exact⟨k+1,by omega,by rw[E];go_num,by go_num,A⟩
   case measure=>simp[intOf];omega
  .have au:k=aB d:=by{omega};subst au;rw[aZ] at *;generalize hq:eK d=q at *;have az:=aA hq;have d5:q<=500:=hn;clear hq
   go_wp2_with (go_at_call 194;refine (b3.o _).mono ?_;rintro e W1 ⟨v,rfl,z,M⟩;have⟨va,vc,cd⟩:=qe z;subst cd)
   have b0:cD w.heap.size w W1:=A.trans (M.mono A.size);have bb:aE W1 w.heap.size 71 4 (aH va 0 vc) 0 []:=l6 z A.size;clear z b3 M A
   go_loopw [6,27] (λx y wr=>∃k:Nat,k<=aB d/\(∃vx,vx=x/\aE wr w.heap.size 71 4 vx (eK (d.take k)) ((d.take k).flatMap (·.xs)))/\y=aM aP k/\cD w.heap.size w wr) (λx y _=>aB d-(intOf y).toNat)
   case atStart=>exact⟨0,zz,⟨_,rfl,bb⟩,rfl,b0⟩
   case round=>
    clear bb b0;obtain⟨k,G,⟨vx,rfl,z⟩,rfl,A⟩:=hrel;by_cases C:k<aB d
    .have⟨hc,hs⟩:=Ql.o _ A k C;have E:eK (d.take (k+1))=eK (d.take k)+(d[k]).n:=sv C;have aw:=tP d (k+1);have a6:(d.take (k+1)).flatMap (·.xs)=(d.take k).flatMap (·.xs)++(d[k]).xs:=by{rw[aY C,bD];simp};have i1:(k:Int)<(aB d:Int):=by{omega};have a8:=A.size;have a7:Hid (∀Z w1,aE w1 w.heap.size 71 4 Z (eK (d.take k)+(d[k]).n) ((d.take k).flatMap (·.xs)++(d[k]).xs)->wr.grownBy w1 (aF vx)->aE w1 w.heap.size 71 4 Z (eK (d.take (k+1))) ((d.take (k+1)).flatMap (·.xs))/\cD w.heap.size w w1):=by intro Z w1 h1 h2;rw[E,a6];exact⟨h1,A.grown h2 a8 (λg hg=>Ap z hg)⟩
     rw[az.o] at aw;rcases hs with⟨s1,s2,O⟩|⟨a,c,s1,s2,O,s4,s5⟩
     .rw[s1] at hc;have hl:=a7.o vx wr (by rw[s2,O];simpa using z) (Bv _ _);have HL:=aA hl;have HO:=aA z;have⟨xa,xc,ak⟩:=qe z;clear a7 a6 E hl;subst ak
      go_wp2_with (at_builtin;refine Af _ rfl (.tmp 31) (.tmp 32) 196 rfl w.heap.size 71 i0 4 cE hi _ _ _ rfl HO.o rfl ?_)
      go_roundw
      case rel=>exact⟨k+1,by omega,⟨_,rfl,HL.o.1⟩,by go_num,HL.o.2⟩
      case measure=>simp[intOf];omega
     .rw[s1] at hc;have M:eK (d.take k)+(d[k]).n<=maxLen:=by{unfold maxLen;omega};have bj:(eK (d.take k)+(d[k]).n)*40<=140737488355328:=by{omega};have HO:=aA z;have⟨xa,xc,ak⟩:=qe z;have S3:=aA O;generalize (d[k]).n=m at *;generalize (d[k]).xs=news at *;clear a6 E aw O z;subst ak
      go_wp2_with (at_builtin;refine cI _ rfl (.tmp 31) (.tmp 32) 196 rfl w.heap.size 71 i0 _ 4 40 cE hi am ai an rfl (by decide) _ _ _ rfl HO.o a m c news rfl s2 S3.o s5 M bj a8 ?_;intro Z w1 ab ac _;have⟨dp,dr,Qe0⟩:=qe ab;subst Qe0)
      have⟨t1,t2⟩:=a7.o _ w1 ab ac
      go_roundw
      case rel=>exact⟨k+1,by omega,⟨_,rfl,t1⟩,by go_num,t2⟩
      case measure=>simp[intOf];omega
    .have au:k=aB d:=by{omega};subst au;rw[aZ] at z;rw[az.o] at z;have⟨xa,xc,ak⟩:=qe z;subst ak;go_wp2;go_ret;refine⟨_,rfl,?_,A⟩;rw[az.o];exact z
end Go.Proofs.YtjajnhemgphefaaGreatDoor
namespace Go.Proofs.YtjajnhemgphefaaGreatDoor
open Go renaming World->Wq,Value->Vq
open Go.RowKit Go.Shelf Go.Maps
attribute [local go_sem] Oper.semAt_some
variable {W:Wq} {b:Nat}
theorem I0(B z:Nat)(a:Am)(d:Vq)(w:Wq)(C:Option Addr)(G E:Nat)(A:d=aH C G E):Cs 147 #[.map (aV B),.map (aV z),aJ #[St a.rel,d]] w λe w'=>e=aO (.func (.func 193) #[] #[Pt w.heap.size,Pt (w.heap.size+2),Pt (w.heap.size+1)])/\
   w'=((w.alloc (aN #[.map (aV B)] 98)).alloc (aN #[.map (aV z)] 98)).alloc (aN #[St a.rel,d] 92):=by
 subst A;go_enter Tryz.func147,Tryz.ntmps147;go_wp2;go_ret;exact⟨rfl,rfl⟩
structure nR(Bm Ba Bo B B2 nn n2 ax:Nat)(M M2:Gd->Option Int)(a:Am)(va:Vq)(W:Wq):Prop where
 bm:W.heap[Bm]?=cC #[.map (aV B)] 98
 ba:W.heap[Ba]?=cC #[St a.rel,va] 92
 bo:W.heap[Bo]?=cC #[.map (aV B2)] 98
 args:Qh W ax va a.args
 md:eT W B nn M
 md2:eT W B2 n2 M2
theorem nR.mk'{m C A E B z Z O ax:Nat}{M G:Gd->Option Int}{a:Am}{va:Vq}{W':Wq}(h:nR C A E B z Z O ax M G a va W)(d:qr m W W'):nR C A E B z Z O ax M G a va W':=
 ⟨d.cells _ _ _ (by unfold eF;decide) h.bm,d.cells _ _ _ (by unfold eF;decide) h.ba,d.cells _ _ _ (by unfold eF;decide) h.bo,h.args.mk d,h.md.mk d,h.md2.mk d⟩
theorem CA(n0 Bm Ba Bo B B2 nn n2 ax:Nat)(M d:Gd->Option Int)(a:Am)(va:Vq)(w:Wq)(bf:nR Bm Ba Bo B B2 nn n2 ax M d a va w)(dn:aB a.args<=2)(dw:∀t∈a.args,t.num<6)(hrel:a.rel.size<=2000)(dm:∀t∈a.args,t.name.size<=2000)(d6:∀x y,(M ⟨a.rel,x,y⟩).isSome=true->x.size<=2000/\y.size<=2000)(m:Nat):fW m n0 193 #[Pt Bm,Pt Ba,Pt Bo] (λg:lU=>#[g.1.v]) (qr m)
   (λgs=>∃ks:List (ByteArray×ByteArray),ks.Nodup/\(∀x y,(x,y)∈ks↔(x.size<=maxLen/\y.size<=maxLen/\(M ⟨a.rel,x,y⟩).isSome=true))/\aB ks<=nn/\gs.map (·.1)=((ks.filterMap (λk=>Q6 Qs a k.1 k.2)).map (λp=>qb p a)).filter (λg=>(d g).isNone)) (λ_=>True) nn w:=by
 obtain⟨n,hn⟩:∃n,12<=n:=⟨12,bC _⟩;refine fW.any (n:=n) ?_ n0;have n1:1<=n:=by omega
 have ec:1<=n-1:=by omega
 have n3:1<=n-1-1:=by omega
 intro l J Jx W hW a8 hJ de hY h0;have a9:=bf.mk' (qr.ofBelow (m:=m) hW);clear bf hW;have⟨fa,fc,ci⟩:=a9.args.form;subst ci;have b8:∀O,cD W.heap.size W (W.alloc O):=λO=>(bF _ W).alloc zl O;have c0:∀O,aC (W.alloc O) (Ad Bm 0)=aV (.map (aV B)):=λO=>cF (b8 O) (by have:=a9.bm;simp[aC,this]);have c1:∀O,aC (W.alloc O) (Ad Ba 0)=aV (St a.rel):=λO=>cF (b8 O) (by have:=a9.ba;simp[aC,this]);have c2:∀O,aC (W.alloc O) (Ad Ba 1)=aV (aH fa (aB a.args) fc):=λO=>cF (b8 O) (by have:=a9.ba;simp[aC,this])
 have db:Hid (∀W,Cs 51 #[.map (aV B),aJ #[St a.rel,aH fa (aB a.args) fc]] W λe w'=>e=aO (.func (.func 93) #[] #[Pt W.heap.size,Pt (W.heap.size+1)])/\
   w'=(W.alloc (aN #[.map (aV B)] 98)).alloc (aN #[St a.rel,aH fa (aB a.args) fc] 92)):=λW=>yB B a _ W _ _ _ rfl
 have d7:=aA a9;have HY:=aA hY;have HJ:=aA hJ;have HJx:=aA de;have H0:=aA h0;clear hY hJ de h0 b8 a9;refine callsIn_of_wp_marks Tryz.func193 rfl trivial ?_ rfl;simp only[Tryz.ntmps193,List.size_toArray,bT,List.length_nil,Nat.reduceAdd,Nat.reduceSub,bL,Array.replicate_zero,List.push_toArray,List.append_toArray,List.nil_append,List.cons_append]
 gi_wp2_with (refine⟨trivial,?_⟩;gi_at_call 51;refine (cM.2 (db.o _)).mono ?_;rintro e w' ⟨rfl,rfl⟩)
 obtain⟨NB,bv⟩:∃NB,W.heap.size=NB:=⟨_,rfl⟩;obtain⟨W0,ay⟩:∃W0,((W.alloc (aN #[.func (.yield l) #[] #[]] 181)).alloc (aN #[.map (aV B)] 98)).alloc (aN #[St a.rel,aH fa (aB a.args) fc] 92)=W0:=⟨_,rfl⟩;have cg:cD W.heap.size W W0:=by rw[<-ay];exact (((bF _ W).alloc zl _).alloc (by simp) _).alloc (by simp;omega) _
 have ed:W0.heap.size=NB+3:=by rw[<-ay,<-bv];simp
 have bY:W0.heap[NB]?=cC #[.func (.yield l) #[] #[]] 181:=by rw[<-ay,<-bv];exact (bG _ _ _ (by simp;omega)).trans ((bG _ _ _ (by simp)).trans (zn W _))
 have bM:W0.heap[NB+1]?=cC #[.map (aV B)] 98:=by rw[<-ay,<-bv];refine (bG _ _ _ (by simp)).trans ?_;have:=zn (W.alloc (aN #[.func (.yield l) #[] #[]] 181)) (aN #[.map (aV B)] 98);rw[bH] at this;exact this
 have bA:W0.heap[NB+1+1]?=cC #[St a.rel,aH fa (aB a.args) fc] 92:=by rw[<-ay,<-bv];have:=zn ((W.alloc (aN #[.func (.yield l) #[] #[]] 181)).alloc (aN #[.map (aV B)] 98)) (aN #[St a.rel,aH fa (aB a.args) fc] 92);rw[bH,bH] at this;exact this
 have cc:=(d7.o).mk' (qr.ofBelow (m:=m) cg);have dj:J [] W0:=HJ.o _ _ _ aW H0.o (qg cg) (λr e=>by cases e);have ee:m<=W0.heap.size:=by have:=cg.size;omega
 have ih:=Az (n-1) (NB+1) (NB+1+1) B nn ax M a (aH fa (aB a.args) fc) W0 bM bA cc.md cc.args dn dw hrel dm d6 (W0.heap.size+2);simp only[bv];rw[ay];clear ay c0 c1 c2 db;have d8:=aA cc;clear cc
 refine nz (n:=n) (gf:=93) (lb:=#[Pt (NB+1),Pt (NB+1+1)]) rfl (enters_of Tryz.func93 (by kernel_rfl) rfl)
  ih qr.tr (λV rc o' ho=>qr.put V _ _ o' (by omega) ho rfl (λ_ _ h=>by cases h)) (λ_=>rfl)
  (λpre V=>∃gs:List lU,J gs V/\gs.map (·.1)=(pre.map (·.1)).filter (λg=>(d g).isNone)/\qr m W0 V)
  (λc pre V=>c=.ret/\∃gs,Jx gs V)
  ?hI ?hIx ⟨[],dj,rfl,qr.ofBelow zr⟩
  (λx a' V=>∃z,V.heap[z]?=aV (aN x.1.c 111)/\a'={tmps:=#[.func (.yield l) #[] #[],Pt Bm,Pt Ba,Pt Bo,Pt NB,Pt z,.map (aV B),aJ #[St a.rel,aH fa (aB a.args) fc],.func (.func 93) #[] #[Pt (NB+1),Pt (NB+1+1)],aJ #[St x.1.rel,St x.1.x,St x.1.y],undef,undef,undef,undef,undef,undef,undef,undef,undef,undef],defers:=[]})
  ?hAx ?assign ?body ?done ?stop
 case hI=>rintro pre V V' row ⟨gs,A,C,h4⟩ hg Z;exact⟨gs,HJ.o _ _ _ row A hg (λr e=>⟨by have:=(Z r e).1;omega,(Z r e).2⟩),C,h4.own hg (λr e=>(Z r e).1)⟩
 case hIx=>rintro c pre V V' row ⟨rfl,gs,A⟩ hg Z;exact⟨rfl,gs,HJx.o _ _ _ row A hg (λr e=>⟨by have:=(Z r e).1;omega,(Z r e).2⟩)⟩
 case hAx=>rintro x a' _ V V' row ⟨z,C,h3⟩ hg Z;exact⟨z,qm hg (λr e=>(Z r e).2) _ _ _ _ C,h3⟩
 case assign=>
  rintro l' pre x V K hl d9 ⟨gs,A,C,h4⟩ E;have HK:=aA E;clear E;unfold Gd.v Gd.c
  gi_wp2
  have b9:cD V.heap.size V (V.alloc (aN #[St x.1.rel,St x.1.x,St x.1.y] 111)):=(bF _ V).alloc zl _;exact HK.o _ _ (KeepsFrom.ofBelow b9) (qr.ofBelow b9) ⟨gs,HJ.o _ _ _ aW A (qg b9) (λr e=>by cases e),C,h4.tr (qr.ofBelow b9)⟩ ⟨V.heap.size,zn V _,rfl⟩
 case done=>
  rintro D xs V hD ⟨ks,k1,k2,k3,k4⟩ ⟨gs,A,C,h4⟩ E
  have Qf:Hid (∃ks:List (ByteArray×ByteArray),ks.Nodup/\(∀x y,(x,y)∈ks↔(x.size<=maxLen/\y.size<=maxLen/\(M ⟨a.rel,x,y⟩).isSome=true))/\aB ks<=nn/\gs.map (·.1)=((ks.filterMap (λk=>Q6 Qs a k.1 k.2)).map (λp=>qb p a)).filter (λg=>(d g).isNone)):=
   ⟨ks,k1,k2,k3,by rw[C,k4]⟩
  clear C k2 k4
  gi_wp2
  refine⟨by simp,aQ ⟨_,_,rfl,cP E,?_⟩⟩;refine⟨_,results_none rfl _ _ _,⟨_,rfl⟩,aQ ⟨gs,Qf.o,?_⟩⟩;exact HJ.o _ _ _ (aV D) A (cS V D (.deferred aW)) (λr e=>by cases e;exact⟨by omega,_,E,rfl⟩)
 case stop=>
  rintro D c pre V hD _ ⟨rfl,gs,A⟩ E
  gi_wp2
  refine⟨by simp,aQ ⟨_,_,rfl,cP E,?_⟩⟩;refine⟨_,results_none rfl _ _ _,⟨_,rfl⟩,aR ⟨gs,trivial,?_⟩⟩;exact HJx.o _ _ _ (aV D) A (cS V D (.deferred aW)) (λr e=>by cases e;exact⟨by omega,_,E,rfl⟩)
 case body=>
  rintro l2 pre x a' X eh ⟨eb,di⟩ ⟨gs,j1,j0,j2⟩ ⟨z,dt,rfl⟩ ef;have Qes:=(d8.o).mk' j2;have cn:=j2.cells _ _ _ (by unfold eF;decide) bY;have bq:=dt;unfold Gd.c at bq;have q0:aC X (Ad z 0)=aV (St x.1.rel):=zc bq;have q1:aC X (Ad z 1)=aV (St x.1.x):=zc bq;have q2:aC X (Ad z 2)=aV (St x.1.y):=zc bq;have qo:aC X (Ad Bo 0)=aV (.map (aV B2)):=by{have:=Qes.bo;simp[aC,this]};have cy:aC X (Ad NB 0)=aV (.func (.yield l) #[] #[]):=zc cn;have cb:Hid (Cs 136 #[.map (aV B2),aJ #[St x.1.rel,St x.1.x,St x.1.y]] X λe w'=>e=aO (aK (d x.1).isSome)/\cD X.heap.size X w'):=wt B2 n2 d x.1 x.2.ok X Qes.md2;have ag:aB gs<nn:=by{have e1:=congrArg aB j0;rw[bX] at e1;have e2:=List.length_filter_le (λg=>(d g).isNone) (pre.map (·.1));have e3:aB (pre.map (·.1))=aB pre:=bX _;omega};have b7:Hid (((pre++[x]).map (·.1)).filter (λg=>(d g).isNone)=gs.map (·.1)++(if (d x.1).isNone=true then [x.1] else [])):=by show _=_;rw[bI,List.filter_append,j0];congr 1;show List.filter _ [x.1]=_;rw[List.filter_cons,List.filter_nil]
  have dc:Hid (∀X3,cD X.heap.size X X3->YieldAt Fence.wide (n-1) cJ l #[aJ #[St x.1.rel,St x.1.x,St x.1.y]] X3 λe W'=>∃b:Bool,e=aO (aK b)/\((b=true/\J (gs++[x]) W'/\qr m X W')\/(b=false/\Jx (gs++[x]) W'/\KeepsFrom m X W'))):=by
   intro X3 G;have⟨fn,tmps,assign,body,hy,hR⟩:=HY.o gs x X3 (HJ.o _ _ _ aW j1 (qg G) (λr e=>by cases e)) ag;refine⟨fn,tmps,assign,body,hy,hR.mono ?_⟩;rintro e W' (⟨rfl,k1,k2⟩|⟨rfl,k1,k2⟩);{exact⟨true,rfl,aQ ⟨rfl,k1,(qr.ofBelow G).tr k2⟩⟩};{exact⟨false,rfl,aR ⟨rfl,k1,KeepsFrom.tr (KeepsFrom.ofBelow G) k2⟩⟩}
  have cz:Hid (∀X3,cD X.heap.size X X3->aC X3 (Ad NB 0)=aV (.func (.yield l) #[] #[])/\aC X3 (Ad z 0)=aV (St x.1.rel)/\aC X3 (Ad z 1)=aV (St x.1.x)/\aC X3 (Ad z 2)=aV (St x.1.y)):=λX3 G=>⟨cF G cy,cF G q0,cF G q1,cF G q2⟩;clear bq Qes cn
  cases hMh:d x.1 with
  |some t=>
   have cj:Hid (((pre++[x]).map (·.1)).filter (λg=>(d g).isNone)=gs.map (·.1)):=by{show _=_;rw[b7.o,hMh];simp};rw[hMh] at cb;clear hMh b7 dc cz ag j0
   gi_wp2_with (refine⟨trivial,?_⟩;gi_at_call 136;refine (CallsIn.inRound l2 (cM.2 cb.o)).mono ?_;rintro e X3 ⟨rfl,ah⟩)
   refine⟨λf h=>(by cases h),?_⟩
   gi_wp2
   exact⟨KeepsFrom.ofBelow ah,qr.ofBelow ah,gs,HJ.o _ _ _ aW j1 (qg ah) (λr e=>by cases e),cj.o.symm,j2.tr (qr.ofBelow ah)⟩
  |none=>
   have cj:Hid (((pre++[x]).map (·.1)).filter (λg=>(d g).isNone)=(gs++[x]).map (·.1)):=by{show _=_;rw[b7.o,hMh,bI];rfl};rw[hMh] at cb;clear hMh b7 ag j0
   gi_wp2_with (refine⟨trivial,?_⟩;gi_at_call 136;refine (CallsIn.inRound l2 (cM.2 cb.o)).mono ?_;rintro e X3 ⟨rfl,ah⟩;have⟨ea,g0,g1,g2⟩:=cz.o X3 ah;have⟨fn,tmps,assign,body,hy,hR⟩:=dc.o X3 ah)
   refine (qK hR).mono ?_;rintro e X' ⟨b,rfl,⟨rfl,du,bc⟩|⟨rfl,ch,bc⟩⟩
   .clear hy hR
    gi_wp2
    exact⟨KeepsFrom.up bc.from' (by omega),bc.up (by omega),gs++[x],du,cj.o.symm,j2.tr bc⟩
   .clear hy hR
    gi_wp2
    exact⟨KeepsFrom.up bc (by omega),rfl,⟨_,ch⟩⟩
structure Rc where
 kind:Int
 seq:Int
 text:ByteArray
 time:Int
def Rc.c(r:Rc):List Vq:=[aM aP r.kind,aM aP r.seq,aI r.text,aM aP r.time]
def Rc.v(r:Rc):Vq:=aJ r.c.toArray
theorem Rc.c_len(r:Rc):aB r.c=4:=rfl
theorem pP(l:List Rc):aB (l.flatMap Rc.c)=aB l*4:=by
 induction l with
 |nil=>rfl
 |cons x l ih=>rw[bO,List.length_append,ih,Rc.c_len,bT];omega
def iO(kind:Int)(l:List (List UInt8)):List Rc:=l.map (λt=>⟨kind,0,⟨t.toArray⟩,0⟩)
theorem EJ{v:Vq}{l:List (List UInt8)}(h:aE W b 9 1 v (aB l) (l.map jw)){k:Nat}(G:k<aB l):∃(g c:Nat),v=Sc g (aB l) c/\aC W (Ad g k)=aV (St ⟨(l[k]).toArray⟩):=by
 obtain⟨_,⟨_,M⟩|⟨g,c,ae,C,_,E,_,_,_,z⟩⟩:=h
 .omega
 refine⟨g,c,C,?_⟩;have d:(l.map jw)[k]?=aV (jw l[k]):=by grind
 rw[<-z,bE,if_pos (by omega)] at d;simp only[aC,E];have A:ae[k]?=aV (jw l[k]):=by simpa using d
 exact A
theorem BR{gf:Nat}{lb:Array Vq}{S Sp:List lU->Prop}{N:Nat}(d:Int)(w:Wq)(d4:N<=1000000)(eg:∀args w,(callFunc gf args).run cJ w=.ok (.enter gf args) w)(bu:∀m n,fW m n gf lb (λg:lU=>#[g.1.v]) (qr m) S Sp N w):Cs 146 #[Ii d,.func (.func gf) #[] lb] w λe w'=>∃(v:Vq) (gs:List lU),e=aO v/\S gs/\aE w' w.heap.size 71 4 v (aB (iO d (fO (gs.map (λg=>(dY g.1).data.toList))))) ((iO d (fO (gs.map (λg=>(dY g.1).data.toList)))).flatMap Rc.c)/\cD w.heap.size w w':=by
 have cx:Hid (Cs 50 #[.func (.func gf) #[] lb] w λe w'=>∃(z:Option Addr) (C:Nat) (ts:List (List UInt8)) (gs:List lU),e=aO (aH z (aB ts) C)/\S gs/\ts=fO (gs.map (λg=>(dY g.1).data.toList))/\aB ts<=1000000/\aE w' w.heap.size 9 1 (aH z (aB ts) C) (aB ts) (ts.map jw)/\cD w.heap.size w w'):=by refine (Fm w d4 eg bu).mono ?_;rintro e w' ⟨v,gs,rfl,Z,E,G,hl⟩;have ag:aB (fO (gs.map (λg=>(dY g.1).data.toList)))=aB gs:=((List.mergeSort_perm _ _).length_eq).trans (by simp);have⟨z,C,dz⟩:=qq E;subst dz;rw[<-ag] at E;exact⟨z,C,_,gs,by rw[ag],Z,rfl,by omega,E,G⟩
 clear bu;go_enter Tryz.func146,Tryz.ntmps146
 go_wp2_with (go_at_call 50;refine (cx.o).mono ?_;rintro e W1 ⟨z,C,ts,gs,rfl,Z,c9,ei,E,G⟩;have d0:=aA c9;clear c9)
 have⟨i0,hi,am,ai,an⟩:=cG Tryz.infoRec;have HB:=aA G;have c5:w.heap.size<=W1.heap.size:=G.size;have HO:=aA E;clear E G cx;refine wp_loop (λA V=>∃(k:Nat) (qa:Option Addr) (qc:Nat) (u7 cu c4 da c6 co c7 cp cr cv dd:Vq),A={tmps:=#[Ii d,.func (.func gf) #[] lb,undef,undef,aH aW 0 0,aH qa k qc,undef,u7,.func (.func gf) #[] lb,aH z (aB ts) C,Ii (aB ts),Ii k,cu,c4,da,c6,co,c7,cp,cr,cv,dd,undef],defers:=[]}/\k<=aB ts/\aE V W1.heap.size 71 4 (aH qa k qc) k ((iO d (ts.take k)).flatMap Rc.c)/\cD W1.heap.size W1 V) (λA _=>aB ts-(intOf (A.tmps.getD 11 undef)).toNat) ⟨0,aW,0,_,_,_,_,_,_,_,_,_,_,_,rfl,zz,⟨rfl,aQ ⟨rfl,rfl⟩⟩,zr⟩ ?_;rintro A V ⟨k,qa,qc,u7,cu,c4,da,c6,co,c7,cp,cr,cv,dd,rfl,hk,O,M⟩;have cw:aE V w.heap.size 9 1 (aH z (aB ts) C) (aB ts) (ts.map jw):=qj HO.o M;have d1:W1.heap.size<=V.heap.size:=M.size;by_cases af:k<aB ts
 .have⟨g,c,e0,x0⟩:=EJ cw af;cases e0;have dv:k+1<=maxLen:=by{unfold maxLen;omega};have dl:(k+1)*40<=140737488355328:=by{omega};have Q9:Hid ((iO d (ts.take (k+1))).flatMap Rc.c=(iO d (ts.take k)).flatMap Rc.c++[Ii d,Ii 0,St ⟨(ts[k]).toArray⟩,Ii 0]):=by{show _=_;rw[aY af];unfold iO;rw[bI,bD];rfl};generalize hxk:(⟨(ts[k]).toArray⟩:ByteArray)=tx at *;generalize hub:(iO d (ts.take k)).flatMap Rc.c=uc at *;clear hxk hub cw
  go_wp2_with (at_builtin;refine cI _ rfl (.tmp 15) (.tmp 19) 196 rfl W1.heap.size 71 i0 (aJ #[Ii 0,Ii 0,St ⟨#[]⟩,Ii 0]) 4 40 cE hi am ai an rfl (by decide) _ _ _ rfl (aE.alloc O _) ⟨V.heap.size,0,aW⟩ 1 1 [Ii d,Ii 0,St tx,Ii 0] rfl rfl (mF _ _ _ _ _ _) (by simp[Value.oneCell']) dv dl (by simp;omega) ?_;intro v' w1 ab ac _;have⟨g',be,d3⟩:=ownsRow_succ ab;subst d3)
  have dk:aE w1 W1.heap.size 71 4 (Sc g' (k+1) be) (k+1) ((iO d (ts.take (k+1))).flatMap Rc.c):=by{rw[Q9.o];exact ab};have bj:cD W1.heap.size W1 w1:=(M.alloc d1 _).grown ac (by simp;omega) (λj e=>(qd O e).1);refine⟨⟨k+1,_,_,_,_,_,_,_,_,_,_,_,_,_,rfl,by omega,dk,bj⟩,?_⟩;simp[intOf];omega
 .have au:k=aB ts:=by{omega};subst au;rw[aZ] at O;go_wp2;go_ret;have bh:aB (iO d ts)=aB ts:=by{unfold iO;simp};refine⟨_,gs,rfl,Z,?_,HB.o.trans (M.mono c5)⟩;rw[<-d0.o,bh];exact l6 O c5
theorem ph{t:TypeId}{A:Nat×Nat}:∀(d:List Vq) (o:Nat) (w:Wq) (ae:Array Vq),w.heap[b]?=aV (aN ae t A)->o+aB d<=ae.size->
  ∃aa:Array Vq,(w.setCells b o d).heap[b]?=aV (aN aa t A)/\aa.size=ae.size/\(∀j,j<aB d->aa[o+j]?=d[j]?)/\∀j,(j<o\/o+aB d<=j)->aa[j]?=ae[j]?
 |[],o,w,ae,h,_=>⟨ae,h,rfl,λj z=>by simp at z,λ_ _=>rfl⟩
 |v::d,o,w,ae,h,hl=>by
  have C:=qw h o v;have⟨aa,k1,k2,k3,k4⟩:=ph d (o+1) (w.setCell (Ad b o) v) _ C (by simp at hl ⊢;omega);refine⟨aa,k1,by simpa using k2,λj z=>?_,λj z=>?_⟩;{grind};{grind}
theorem oL{w0:Wq}:∀(d:List Vq) (o:Nat) (w:Wq),dD w0 w (λk=>k=b)->dD w0 (w.setCells b o d) (λk=>k=b)
 |[],_,_,h=>h
 |v::d,o,w,h=>oL d (o+1) _ (h.setCell (Ad b o) v (λ_=>rfl))
theorem Bj(w:Wq)(b o c:Nat)(C:∀j,j<4->(aC w (Ad b (o+j))).isSome=true)(E:∀j,j<4->aD w (Ad b (o+j))=false):(Builtin.clear_ #[196] 0 #[aH (aV ⟨b,o,aW⟩) 1 c]).run cJ w=.ok (aL #[]) (w.setCells b o [Ii 0,Ii 0,St ⟨#[]⟩,Ii 0]):=by
 have d:=run_storeCells_cells (P:=cJ) b o [Ii 0,Ii 0,St ⟨#[]⟩,Ii 0] 0 w (by simpa using C) (by simpa using E) (by
  intro v z;simp only[bZ,bU,or_false] at z
  rcases z with rfl|rfl|rfl|rfl<;>rfl)
 simp only[Nat.add_zero] at d;have A:(cH (aJ #[Ii 0,Ii 0,St ⟨#[]⟩,Ii 0]).cells 1).toList=[Ii 0,Ii 0,St ⟨#[]⟩,Ii 0]:=by kernel_rfl
 simp[Builtin.clear_,run_underlying cE,Tryz.zeroValue71 w,A,d]
theorem EH(g d b:Nat)(r:Rc)(l:List Rc)(w:Wq)(qt:aE w b 71 4 (Sc g (aB l+1) d) (aB l+1) ((r::l).flatMap Rc.c))(hl:aB l<=100000):Cs 216 #[Sc g (aB l+1) d,Ii 0,Ii 1] w λe w'=>e=aO (Sc g (aB l) d)/\aE w' b 71 4 (Sc g (aB l) d) (aB l) (l.flatMap Rc.c)/\dD w w' (λk=>k=g):=by
 have⟨i0,hi,am,ai,an⟩:=cG Tryz.infoRec;obtain⟨ag,⟨hv,_⟩|⟨g',be,ae,hv,c8,b6,h1,h2,h3,h4⟩⟩:=qt
 .cases hv
 cases hv;have ce:(aB l:Int)+1<=(d:Int):=by omega
 have E:aB l+1<=d:=h1;have bh:=pP l;have Ql:∀(j:Nat) (u:Vq),((r::l).flatMap Rc.c)[j]?=aV u->ae[j]?=aV u:=by grind
 have cq:∀(j:Nat) (u:Vq),(l.flatMap Rc.c)[j]?=aV u->ae[4+j]?=aV u:=λj u z=>Ql (4+j) u (by rw[bO,List.getElem?_append_right (by rw[Rc.c_len];omega),Rc.c_len,Nat.add_sub_cancel_left];exact z);have c3:∀u∈l.flatMap Rc.c,u.oneCell'=true:=by intro u hu;have⟨x,_,hx⟩:=List.mem_flatMap.1 hu;simp only[Rc.c,bZ,bU,or_false] at hx;rcases hx with rfl|rfl|rfl|rfl<;>rfl
 have ct:∀j,j<aB (l.flatMap Rc.c)->(aC w.drew (Ad g (0+0*4+j))).isSome=true/\aD w.drew (Ad g (0+0*4+j))=false:=by
  intro j z;have hd:w.drew.heap[g]?=cC ae 71:=b6;refine⟨?_,by simp[aD,hd]⟩;simp only[aC,hd];have:j<ae.size:=by{rw[h3];rw[bh] at z;have:=aX 4 E;omega};simp[this]
 have C:=aA bh;have ca:=aA c3;have b5:=aA ct
 have b4:Hid (∀ad:Addr,(d=1/\ad=⟨g,0,aW⟩)\/(d≠1/\ad=⟨g,4,aW⟩)->∀(j:Nat) (u:Vq),(l.flatMap Rc.c)[j]?=aV u->aC w.drew (ad.add j)=aV u):=by
  rintro ad (⟨hc,rfl⟩|⟨hc,rfl⟩) j u z;{have:l=[]:=List.eq_nil_of_length_eq_zero (by omega);rw[this] at z;simp at z};{have hd:w.drew.heap[g]?=cC ae 71:=b6;have:=cq j u z;rw[show (⟨g,4,aW⟩:Addr).add j=⟨g,4+j,aW⟩ by simp[Addr.add]];simp only[aC,hd];simpa using this}
 have G:=aA b6;clear ct c3 Ql cq ag h4 bh b6;by_cases cl:d=1
 .have dh:aB l=0:=by{omega};rw[dh] at ce E C hl h1 ⊢;subst cl;generalize hnw:l.flatMap Rc.c=news at *;have j4:(1:Int)<=((0:Nat):Int)+1:=by{omega};have j5:(1:Int)<=(1:Int):=by{omega};have j6:(0:Int)<=(1:Int):=by{omega};go_enter Tryz.func216,Tryz.ntmps216;go_wp2
  go_region_law (refine cQ rfl (.tmp 22) (.tmp 25) 196 rfl 71 i0 4 cE hi ai g 0 0 1 (by simp[Act.eval,Act.put]) ⟨g,0,aW⟩ 0 0 news (by simp[Act.eval,Act.put]) C.o (b4.o ⟨g,0,aW⟩ (aQ ⟨by simp,rfl⟩)) ca.o (by omega) b5.o ?_)
  have⟨aa,k1,k2,k3,k4⟩:=ph (b:=g) news 0 w.drew ae G.o (by rw[C.o,h3];have:=aX 4 E;omega);have M:dD w (w.drew.setCells g 0 news) (λk=>k=g):=oL news 0 w.drew ⟨rfl,rfl,rfl,bC _,λ_ _ _=>rfl⟩;generalize hW2:w.drew.setCells g 0 news=W2 at *;have aq:aa.size=1*4:=k2.trans h3
  have Z:∀j,j<4->∃u,aC W2 (Ad g (0+j))=aV u:=by
   intro j z;have af:0+j<aa.size:=by{rw[aq];have:=aX 4 E;omega};refine⟨aa[0+j],?_⟩;simp only[aC,k1];simp[af]
  have Qke:=Bj W2 g (0) 1 (λj z=>by have⟨u,hu⟩:=Z j z;rw[hu];rfl) (λj _=>by simp[aD,k1]);have⟨al,m1,m2,m3,m4⟩:=ph (b:=g) [Ii 0,Ii 0,St ⟨#[]⟩,Ii 0] (0) W2 aa k1 (by rw[aq];simp);have O:=oL [Ii 0,Ii 0,St ⟨#[]⟩,Ii 0] (0) W2 M;generalize hW3:W2.setCells g (0) [Ii 0,Ii 0,St ⟨#[]⟩,Ii 0]=W3 at *;clear Z b4 b5 ca hW3 hW2;have ck:=aA m1;have cf:=aA O;clear m1 O M k1;go_wp2;go_ret;refine⟨rfl,⟨C.o,aR ⟨g,1,al,rfl,c8,ck.o,by omega,h2,m2.trans aq,?_⟩⟩,cf.o⟩;have dx:0<=al.size:=by{rw[m2,aq];have:=aX 4 E;omega};refine bQ (λj=>?_);rw[bE];by_cases z:j<0;{rw[if_pos z];have e1:=m4 j (aQ z);have e2:=k3 j (by rw[C.o];exact z);rw[cA] at e2;rw[<-e2,<-e1];simp};{rw[if_neg z,bJ (by rw[C.o];omega)]}
 .generalize hln:aB l=A at *;generalize hnw:l.flatMap Rc.c=news at *;have j4:(1:Int)<=(A:Int)+1:=by{omega};have j5:(1:Int)<=(d:Int):=by{omega};have j6:(0:Int)<=(d:Int):=by{omega};go_enter Tryz.func216,Tryz.ntmps216;go_wp2
  go_region_law (refine cQ rfl (.tmp 22) (.tmp 25) 196 rfl 71 i0 4 cE hi ai g 0 0 d (by simp[Act.eval,Act.put]) ⟨g,4,aW⟩ A (d-1) news (by simp[Act.eval,Act.put,cl]) C.o (b4.o ⟨g,4,aW⟩ (aR ⟨cl,rfl⟩)) ca.o (by omega) b5.o ?_)
  have⟨aa,k1,k2,k3,k4⟩:=ph (b:=g) news 0 w.drew ae G.o (by rw[C.o,h3];have:=aX 4 E;omega);have M:dD w (w.drew.setCells g 0 news) (λk=>k=g):=oL news 0 w.drew ⟨rfl,rfl,rfl,bC _,λ_ _ _=>rfl⟩;generalize hW2:w.drew.setCells g 0 news=W2 at *;have aq:aa.size=d*4:=k2.trans h3
  have Z:∀j,j<4->∃u,aC W2 (Ad g (A*4+j))=aV u:=by
   intro j z;have af:A*4+j<aa.size:=by{rw[aq];have:=aX 4 E;omega};refine⟨aa[A*4+j],?_⟩;simp only[aC,k1];simp[af]
  have Qke:=Bj W2 g (A*4) (d-A) (λj z=>by have⟨u,hu⟩:=Z j z;rw[hu];rfl) (λj _=>by simp[aD,k1]);have⟨al,m1,m2,m3,m4⟩:=ph (b:=g) [Ii 0,Ii 0,St ⟨#[]⟩,Ii 0] (A*4) W2 aa k1 (by rw[aq];have:=aX 4 E;simp;omega);have O:=oL [Ii 0,Ii 0,St ⟨#[]⟩,Ii 0] (A*4) W2 M;generalize hW3:W2.setCells g (A*4) [Ii 0,Ii 0,St ⟨#[]⟩,Ii 0]=W3 at *;clear Z b4 b5 ca hW3 hW2;have ck:=aA m1;have cf:=aA O;clear m1 O M k1;go_wp2;go_ret;refine⟨rfl,⟨C.o,aR ⟨g,d,al,rfl,c8,ck.o,by omega,h2,m2.trans aq,?_⟩⟩,cf.o⟩;have dx:A*4<=al.size:=by{rw[m2,aq];have:=aX 4 E;omega};refine bQ (λj=>?_);rw[bE];by_cases z:j<A*4;{rw[if_pos z];have e1:=m4 j (aQ z);have e2:=k3 j (by rw[C.o];exact z);rw[cA] at e2;rw[<-e2,<-e1];simp};{rw[if_neg z,bJ (by rw[C.o];omega)]}
