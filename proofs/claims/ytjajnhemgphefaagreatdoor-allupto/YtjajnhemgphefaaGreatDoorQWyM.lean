/- A part -/
import Derived.Shelf.Strings.BuilderK
import Derived.Test.YtjajnhemgphefaaGreatDoorQEgVa
set_option linter.all false
set_option maxRecDepth 100000
set_option maxHeartbeats 1000000
open List renaming length->aD,cons_append->bD,drop_eq_getElem_cons->bE,drop_of_length_le->bG,map_cons->bH,nil_append->bI,exists_cons_of_ne_nil->bJ,map_drop->bL,map_nil->bO
open Go.World renaming cell?->aE,ownsRow->aH
open Go.Value renaming ownBlock->aI,slice->aJ,agg->aL,tuple->aN,int->aO
open Go.Obj renaming cells->aP
open Go.Ending renaming returned->aQ
open Go.IntKind renaming i64->aR
open Or renaming inl->aS,inr->aU
open Option renaming some->aX,none->aY
open Nat renaming le_trans->bB
open Go.Calls renaming mono->bC
open Go.RowKit.Below renaming refl->bF
open Go.Lib renaming byteCells->bQ,decDigits->bU,OthersKept->bX,runeCountFrom->bZ,BuilderAtF->cA,runeCount->cD
open Go.RowKit renaming Below->bT
namespace Go.Proofs.YtjajnhemgphefaaGreatDoor
open Go renaming World->Wq,Value->Vq
open Go.RowKit Go.Shelf
variable {B b:Nat} {bs cu:List UInt8} {W W' A C D:Wq}
def Al:Ren:=
 {f:=fun
   |166=>105
   |167=>169
   |240=>171
   |276=>219
   |n=>n
  t:=fun
   |0=>0
   |3=>3
   |4=>4
   |5=>5
   |9=>9
   |20=>20
   |37=>131
   |70=>130
   |72=>133
   |75=>203
   |80=>138
   |164=>333
   |n=>n
  g:=λn=>n}
def K3:Lays.n166 Tryz.prog Al:=
 {mixed:=by kernel_rfl
  f166:=by kernel_rfl
  f240:=by kernel_rfl
  f276:=by kernel_rfl
  t0:=by kernel_rfl
  a0:=λ_=>by kernel_rfl
  z0:=λ_=>by kernel_rfl
  v0:=λ_=>by kernel_rfl
  t3:=by kernel_rfl
  a3:=λ_=>by kernel_rfl
  z3:=λ_=>by kernel_rfl
  v3:=λ_=>by kernel_rfl
  t4:=by kernel_rfl
  a4:=λ_=>by kernel_rfl
  z4:=λ_=>by kernel_rfl
  v4:=λ_=>by kernel_rfl
  t9:=by kernel_rfl
  a9:=λ_=>by kernel_rfl
  z9:=λ_=>by kernel_rfl
  v9:=λ_=>by kernel_rfl
  t20:=by kernel_rfl
  a20:=λ_=>by kernel_rfl
  z20:=λ_=>by kernel_rfl
  v20:=λ_=>by kernel_rfl
  t37:=by kernel_rfl
  a37:=λ_=>by kernel_rfl
  z37:=λ_=>by kernel_rfl
  v37:=λ_=>by kernel_rfl
  t70:=by kernel_rfl
  a70:=λ_=>by kernel_rfl
  z70:=λ_=>by kernel_rfl
  v70:=λ_=>by kernel_rfl
  t72:=by kernel_rfl
  a72:=λ_=>by kernel_rfl
  z72:=λ_=>by kernel_rfl
  v72:=λ_=>by kernel_rfl
  t75:=by kernel_rfl
  a75:=λ_=>by kernel_rfl
  z75:=λ_=>by kernel_rfl
  v75:=λ_=>by kernel_rfl
  t164:=by kernel_rfl
  a164:=λ_=>by kernel_rfl
  z164:=λ_=>by kernel_rfl
  v164:=λ_=>by kernel_rfl}
def K1:Lays.n167 Tryz.prog Al:=
 {mixed:=by kernel_rfl
  f167:=by kernel_rfl
  f240:=by kernel_rfl
  f276:=by kernel_rfl
  t0:=by kernel_rfl
  a0:=λ_=>by kernel_rfl
  z0:=λ_=>by kernel_rfl
  v0:=λ_=>by kernel_rfl
  t4:=by kernel_rfl
  a4:=λ_=>by kernel_rfl
  z4:=λ_=>by kernel_rfl
  v4:=λ_=>by kernel_rfl
  t5:=by kernel_rfl
  a5:=λ_=>by kernel_rfl
  z5:=λ_=>by kernel_rfl
  v5:=λ_=>by kernel_rfl
  t9:=by kernel_rfl
  a9:=λ_=>by kernel_rfl
  z9:=λ_=>by kernel_rfl
  v9:=λ_=>by kernel_rfl
  t20:=by kernel_rfl
  a20:=λ_=>by kernel_rfl
  z20:=λ_=>by kernel_rfl
  v20:=λ_=>by kernel_rfl
  t37:=by kernel_rfl
  a37:=λ_=>by kernel_rfl
  z37:=λ_=>by kernel_rfl
  v37:=λ_=>by kernel_rfl
  t70:=by kernel_rfl
  a70:=λ_=>by kernel_rfl
  z70:=λ_=>by kernel_rfl
  v70:=λ_=>by kernel_rfl
  t72:=by kernel_rfl
  a72:=λ_=>by kernel_rfl
  z72:=λ_=>by kernel_rfl
  v72:=λ_=>by kernel_rfl
  t75:=by kernel_rfl
  a75:=λ_=>by kernel_rfl
  z75:=λ_=>by kernel_rfl
  v75:=λ_=>by kernel_rfl
  t164:=by kernel_rfl
  a164:=λ_=>by kernel_rfl
  z164:=λ_=>by kernel_rfl
  v164:=λ_=>by kernel_rfl}
def C0:Builder.Extra Tryz.prog Al:={
 sizeBuilder:=by kernel_rfl
 liesBuilder:=by kernel_rfl
 t5:=by kernel_rfl
 a5:=λ_=>by kernel_rfl
 z5:=λ_=>by kernel_rfl
 v5:=λ_=>by kernel_rfl
 infoByte:=by kernel_rfl
 cellsByte:=by kernel_rfl
 sizeByte:=by kernel_rfl
 neB5:=by decide}
def nI(B b:Nat)(bs:List UInt8)(W:Wq):Prop:=Lib.IsBuilderF 133 5 B b (bQ bs) W
structure Qp(B b:Nat)(bs:List UInt8)(W W':Wq):Prop where
 e:nI B b bs W'
 f:bT B W W'
 d:bX 5 (aX b) W W'
def EX(l m:List UInt8):bQ (l++m)=bQ l++bQ m:=by simp[bQ]
theorem CL(l:List UInt8):aD (bQ l)=aD l:=by simp[bQ]
def nI.h(h:nI B b bs W):B<=b/\∃c,W.heap[b]?=cC c 133:=by
 obtain⟨z,v,A,_⟩|⟨z,v,A,_⟩:=h
 .grind
 grind
def nI.f(h:nI B b bs W)(z:bT W.heap.size W W'):nI B b bs W':=by
 have M:b<W.heap.size:=by have⟨_,c,hc⟩:=h.h;exact (zg hc).1
 obtain⟨A,v,C,E,G⟩|⟨A,v,C,E,G⟩:=h
 .exact aS ⟨A,v,(z.b b M).t C,E.kept (qi z) (by grind),G⟩
 exact aU ⟨A,v,(z.b b M).t C,E.kept (qi z) (by grind),G⟩
def yF{b:Option Nat}(h:bT W.heap.size W W'):bX 5 b W W':=λk o z _ _=>(h.b k (zg z).1).t z
def Qp.i(h:Qp B b bs W W')(h0:nI B b cu W){k:Nat}{c:Array Vq}{t:TypeId}{z:Nat×Nat}(A:W.heap[k]?=aX (aP c t z))(G:t≠5)(C:t≠133):W'.heap[k]?=aX (aP c t z):=by
 refine h.d k _ A (λe=>?_) (λc' E e=>?_)
 .cases e;have⟨_,c',cq⟩:=h0.h;rw[A] at cq;cases cq;exact C rfl
 grind
def Qp.a(h:Qp B b bs W W')(h0:nI B b cu W):qf W W':=λk c t A z=>h.i h0 z (by grind) (by grind)
def Qp.trans{z:List UInt8}(h:Qp B b bs A C)(k:Qp B b z C D):Qp B b z A D:=⟨k.e,h.f.t k.f,h.d.trans k.d⟩
def Qp.c(h:bT A.heap.size A C)(z:B<=A.heap.size)(k:Qp B b bs C D):Qp B b bs A D:=⟨k.e,(h.m z).t k.f,(yF h).trans k.d⟩
def yo(B b:Nat)(bs:List UInt8)(s:ByteArray)(W:Wq)(h:nI B b bs W)(O:aD (bs++s.data.toList)<=1000000)(E:B<=W.heap.size):Cs 105 #[Pt b,St s] W λe W'=>e=aQ (aN #[Ii s.size,.nilIface])/\Qp B b (bs++s.data.toList) W W':=by
 have M:s.size=aD s.data.toList:=by simp_all
 have G:Cs 105 #[Pt b,St s] W λe w'=>e=aQ (aN #[Ii s.size,.nilIface])/\(cA 133 5 B b (Pt b) (bQ bs++Lib.strCells s) w'/\bT B W w'/\bX 5 (aX b) W w'):=
  Any.Builder_WriteString_k K3 C0 B b (bQ bs) s W h (by grind [CL]) E
 refine G.m ?_;rintro e W' ⟨rfl,z,A,C⟩;exact⟨rfl,aU (by rw[EX];exact z),A,C⟩
def za(B b:Nat)(bs:List UInt8)(c:UInt8)(W:Wq)(h:nI B b bs W)(M:aD (bs++[c])<=1000000)(E:B<=W.heap.size):Cs 169 #[Pt b,aO .u8 c.toNat] W λe W'=>e=aQ .nilIface/\Qp B b (bs++[c]) W W':=by
 have G:Cs 169 #[Pt b,aO .u8 c.toNat] W λe w'=>e=aQ .nilIface/\(cA 133 5 B b (Pt b) (bQ bs++[aO .u8 c.toNat]) w'/\bT B W w'/\bX 5 (aX b) W w'):=
  Any.Builder_WriteByte_k K1 C0 B b (bQ bs) c.toNat W h (by grind [CL]) E
 refine G.m ?_;rintro e W' ⟨rfl,z,A,C⟩;exact⟨rfl,aU (by rw[EX];exact z),A,C⟩
theorem J2(B b:Nat)(bs:List UInt8)(t:Tm)(W:Wq)(G:nI B b bs W)(hn:t.d<=90)(A:aD (bs++nB t)<=1000000)(hB:B<=W.heap.size):Cs 170 #[Pt b,aL #[St t.c,Ii t.d]] W λe W'=>e=aQ (aN #[])/\Qp B b (bs++nB t) W W':=by
 have ac:bT W.heap.size W (W.alloc (aP #[St t.c,Ii t.d] 166)):=(bF _ W).l zl _;have bi:B<=(W.alloc (aP #[St t.c,Ii t.d] 166)).heap.size:=by simp;omega
 have C:=λW1=>uY t W1;have M:(W.alloc (aP #[St t.c,Ii t.d] 166)).heap[W.heap.size]?=cC #[St t.c,Ii t.d] 166:=zn W _;cases htv:t.c.toList.isEmpty with
 |false=>have E:nB t=t.c.data.toList:=by{unfold nB;rw[if_neg (by simp[htv])]};rw[E] at A ⊢;rw[htv] at C;have hw:∀W1,bT (W.alloc (aP #[St t.c,Ii t.d] 166)).heap.size (W.alloc (aP #[St t.c,Ii t.d] 166)) W1->Cs 105 #[Pt b,St t.c] W1 λe W'=>(∃n:Int,e=aQ (aN #[Ii n,.nilIface]))/\Qp B b (bs++t.c.data.toList) W W':=λW1 z=>by{refine (yo B b bs t.c W1 ((G.f ac).f z) A (bB bi z.s)).m ?_;rintro e W' ⟨rfl,k⟩;exact⟨⟨_,rfl⟩,Qp.c ac hB (Qp.c z bi k)⟩};have hc:∀W1,bT (W.alloc (aP #[St t.c,Ii t.d] 166)).heap.size (W.alloc (aP #[St t.c,Ii t.d] 166)) W1->aE W1 (Ad W.heap.size 0)=aX (St t.c):=λW1 z=>by{have:=(z.b W.heap.size (by simp)).t M;simp[aE,this]};have HW:=aA hw;have HC:=aA hc;have O:=aA C;clear hw hc C ac bi G A E htv M;go_enter Tryz.func170,Tryz.ntmps170;go_wp2_with fail;refine bC (O.o _) ?_;rintro e W1 ⟨rfl,z⟩;have c0:=HC.o W1 z;go_wp2_with fail;refine bC (HW.o W1 z) ?_;rintro e W' ⟨⟨n,rfl⟩,h2⟩;go_wp2;refine bodyPost_ret (results_none rfl _ _ _) rfl ?_;exact⟨rfl,h2⟩
 |true=>have E:nB t=88::bU t.d:=by{unfold nB;rw[if_pos htv]};rw[E] at A ⊢;rw[htv] at C;have b0:∀W1,bT (W.alloc (aP #[St t.c,Ii t.d] 166)).heap.size (W.alloc (aP #[St t.c,Ii t.d] 166)) W1->Cs 169 #[Pt b,aO .u8 88] W1 λe W'=>e=aQ .nilIface/\Qp B b (bs++[88]) W W'/\aE W' (Ad W.heap.size 1)=aX (Ii t.d):=λW1 z=>by{refine (za B b bs 88 W1 ((G.f ac).f z) (by simp at A ⊢;omega) (bB bi z.s)).m ?_;rintro e W' ⟨rfl,k⟩;refine⟨rfl,Qp.c ac hB (Qp.c z bi k),?_⟩;have:=k.i ((G.f ac).f z) ((z.b W.heap.size (by simp)).t M) (by decide) (by decide);simp[aE,this]};have c8:∀W1,Cs 129 #[Ii t.d] W1 λe w'=>e=aQ (St ⟨(bU t.d).toArray⟩)/\W1=w':=λW1=>(Tryz.strconv_Itoa_small _ (by omega) W1).m (λe w' h=>⟨h.1,h.2.s⟩);have bv:∀W1,Qp B b (bs++[88]) W W1->Cs 105 #[Pt b,St ⟨(bU t.d).toArray⟩] W1 λe W'=>(∃n:Int,e=aQ (aN #[Ii n,.nilIface]))/\Qp B b (bs++88::bU t.d) W W':=λW1 k=>by{refine (yo B b (bs++[88]) ⟨(bU t.d).toArray⟩ W1 k.e (by simp at A ⊢;omega) (bB hB k.f.s)).m ?_;rintro e W' ⟨rfl,z⟩;refine⟨⟨_,rfl⟩,k.trans ?_⟩;simpa using z};have H1:=aA b0;have H3:=aA c8;have H4:=aA bv;have O:=aA C;clear b0 c8 bv C ac bi G A E htv M;go_enter Tryz.func170,Tryz.ntmps170;go_wp2_with fail;refine bC (O.o _) ?_;rintro e W1 ⟨rfl,z⟩;go_wp2_with fail;refine bC (H1.o W1 z) ?_;rintro e W2 ⟨rfl,k1,c1⟩;go_wp2_with fail;refine bC (H3.o W2) ?_;rintro e w' ⟨rfl,rfl⟩;go_wp2_with fail;refine bC (H4.o W2 k1) ?_;rintro e W' ⟨⟨n,rfl⟩,h2⟩;go_wp2;go_end0;exact⟨rfl,h2⟩
def MN(B b:Nat)(bs:List UInt8)(aq:Nat)(va:Vq)(A:Am)(W:Wq)(hb:nI B b bs W)(hS:Qg W aq va A.d)(cf:aD A.d<=2)(ht:∀t∈A.d,t.d<=90)(hl:aD (bs++kH A)<=1000000)(hB:B<=W.heap.size):Cs 104 #[Pt b,aL #[St A.j,va]] W λe W'=>e=aQ (aN #[])/\Qp B b (bs++kH A) W W':=by
 have⟨ta,tc,cn⟩:=hS.c;subst cn;have ac:bT W.heap.size W (W.alloc (aP #[St A.j,aJ ta (aD A.d) tc] 92)):=(bF _ W).l zl _;obtain⟨W0,ay⟩:=aC (W.alloc (aP #[St A.j,aJ ta (aD A.d) tc] 92));have Qy:W0.heap[W.heap.size]?=cC #[St A.j,aJ ta (aD A.d) tc] 92:=ay▸zn W _
 have dc:aE W0 (Ad W.heap.size 0)=aX (St A.j):=zc Qy;have E:B<=W0.heap.size:=by rw[<-ay];simp;omega
 rw[ay] at ac;have bd:=hb.f ac;have b5:=hS.a (qf.d ac);have c5:aD (bs++A.j.data.toList)<=1000000:=by unfold kH at hl;simp at hl ⊢;omega
 have b0:=yo B b bs A.j W0 bd c5 E;have bv:∀W1,Qp B b (bs++A.j.data.toList) W0 W1->Cs 169 #[Pt b,aO .u8 40] W1 λe W'=>e=aQ .nilIface/\Qp B b (bs++A.j.data.toList++[40]) W0 W':=λW1 k=>(za B b _ 40 W1 k.e (by unfold kH at hl;simp at hl ⊢;omega) (bB E k.f.s)).m (λe W' h=>⟨h.1,k.trans h.2⟩);have dm:∀(k:Nat) (hk:k<aD A.d) (z:List UInt8) (W1:Wq),Qp B b z W0 W1->aD (z++nB A.d[k])<=1000000->Cs 170 #[Pt b,aL #[St (A.d[k]).c,Ii (A.d[k]).d]] W1 λe W'=>e=aQ (aN #[])/\Qp B b (z++nB A.d[k]) W0 W':=λk hk z W1 h ai=>(J2 B b z A.d[k] W1 h.e (ht _ (zm hk)) ai (bB E h.f.s)).m (λe W' h'=>⟨h'.1,h.trans h'.2⟩);have Qi:∀(k:Nat)(hk:k<aD A.d)(z:List UInt8)(W1:Wq),Qp B b z W0 W1->∃g,ta=aX ⟨g,0,aY⟩/\aE W1 (Ad g (k*2))=aX (St (A.d[k]).c)/\aE W1 (Ad g (k*2+1))=aX (Ii (A.d[k]).d):=λk hk z W1 h=>by have⟨g,c',h1,h2,h3,h4⟩:=uJ (b5.a (h.a bd)) hk;cases h1;exact⟨g,rfl,h2,h3⟩
 have bb:∀(z:List UInt8)(W1:Wq)(O:Obj),Qp B b z W0 W1->Qp B b z W0 (W1.alloc O):=λz W1 O h=>by have hx:=(bF _ W1).l zl O;exact⟨h.e.f hx,h.f.t (hx.m (bB E h.f.s)),h.d.trans (yF hx)⟩
 have dh:∀(z:List UInt8) (W1:Wq),Qp B b z W0 W1->aD (z++[44])<=1000000->Cs 169 #[Pt b,aO .u8 44] W1 λe W'=>e=aQ .nilIface/\Qp B b (z++[44]) W0 W'/\Qp B b (z++[44]) W1 W':=λz W1 k ai=>(za B b _ 44 W1 k.e ai (bB E k.f.s)).m (λe W' h=>⟨h.1,k.trans h.2,h.2⟩);have dk:∀(z:List UInt8) (W1:Wq),Qp B b z W0 W1->aD (z++[41])<=1000000->Cs 169 #[Pt b,aO .u8 41] W1 λe W'=>e=aQ .nilIface/\Qp B b (z++[41]) W W':=λz W1 k ai=>(za B b _ 41 W1 k.e ai (bB E k.f.s)).m (λe W' h=>⟨h.1,Qp.c ac hB (k.trans h.2)⟩);have dr:∀(z:List UInt8) (W1:Wq),Qp B b z W0 W1->W1.heap[W.heap.size]?=cC #[St A.j,aJ ta (aD A.d) tc] 92:=λz W1 k=>k.i bd Qy (by decide) (by decide);have cc:∀(z az:List UInt8) (W1 W2:Wq) (x y:Vq),Qp B b z W0 (W1.alloc (aP #[x,y] 166))->Qp B b az (W1.alloc (aP #[x,y] 166)) W2->W2.heap[W1.heap.size]?=cC #[x,y] 166:=λz az W1 W2 x y k k'=>k'.i k.e (zn W1 _) (by decide) (by decide);have b7:Hid (bs++kH A=bs++A.j.data.toList++[40]++mC 0 A.d++[41]):=by show _=_;unfold kH;simp
 have HL:Hid (aD (bs++A.j.data.toList++[40]++mC 0 A.d++[41])<=1000000):=by show _<=_;rwa[<-b7.o]
 have H1:=aA b0;have H2:=aA bv;have H3:=aA dm;have H4:=aA Qi;have H5:=aA bb;have H6:=aA dh;have H7:=aA dk;have H8:=aA dr;have H9:=aA cc;clear b0 bv dm Qi bb dh dk dr cc hl c5 ac Qy E bd b5 hb hS ht hB;generalize qk1:bs++A.j.data.toList++[40]=p0 at *;clear qk1;go_enter Tryz.func104,Tryz.ntmps104;go_wp2_with fail;refine bC H1.o ?_;rintro e W1 ⟨rfl,k1⟩;clear ay dc;go_wp2_with fail;refine bC (H2.o W1 k1) ?_;rintro e W2 ⟨rfl,k2⟩;have af:=H8.o _ W2 k2;have c1:aE W2 (Ad W.heap.size 1)=aX (aJ ta (aD A.d) tc):=zc af;clear af;go_wp2;go_loopw [15] (λi wr=>∃(k:Nat)(z:List UInt8),k<=aD A.d/\i=aO aR k/\Hid (z++mC k (A.d.drop k)=p0++mC 0 A.d)/\Qp B b z W0 wr) (λi _=>aD A.d-(intOf i).toNat)
 case atStart=>exact⟨0,p0,zz,rfl,rfl,k2⟩
 obtain⟨k,z,hk,rfl,G,kw⟩:=hrel;by_cases ao:k<aD A.d
 .obtain⟨g,rfl,q0,q1⟩:=H4.o k ao z wr kw;have ad:Hid (mC k (A.d.drop k)=(if k=0 then [] else [44])++nB A.d[k]++mC (k+1) (A.d.drop (k+1))):=by{show _=_;rw[bE ao];rfl};have i1:(k:Int)<(aD A.d:Int):=by{omega};have a6:=H5.o z wr (aP #[St (A.d[k]).c,Ii (A.d[k]).d] 166) kw;by_cases ax:k=0
  .subst ax;have ai:aD (z++nB A.d[0])<=1000000:=by{have h:=congrArg aD G.o;rw[ad.o] at h;have h2:=HL.o;simp at h h2 ⊢;omega};have ch:=H3.o 0 ao z _ a6 ai;have bu:Hid ((z++nB A.d[0])++mC (0+1) (A.d.drop (0+1))=p0++mC 0 A.d):=by{show _=_;rw[<-G.o,ad.o];simp};generalize A.d[0]=tk at *;clear ad G ai;go_wp2_with fail;refine ch.m ?_;rintro e W3 ⟨rfl,M⟩;go_wp2;go_roundw
   case rel=>exact⟨0+1,_,by omega,by go_num,bu,M⟩
   simp[intOf];omega
  have Qd3:(0:Int)<(k:Int):=by{omega};have C:aD (z++[44])<=1000000/\aD (z++[44]++nB A.d[k])<=1000000:=by{have h:=congrArg aD G.o;rw[ad.o,if_neg ax] at h;have h2:=HL.o;simp at h h2 ⊢;omega};have bu:Hid ((z++[44]++nB A.d[k])++mC (k+1) (A.d.drop (k+1))=p0++mC 0 A.d):=by{show _=_;rw[<-G.o,ad.o,if_neg ax];simp};have HC:Hid _:=H6.o z _ a6 C.1;have HT:Hid _:=λW3 (M:Qp B b (z++[44]) W0 W3)=>H3.o k ao (z++[44]) W3 M C.2;generalize A.d[k]=tk at *;clear ad G C ax;go_wp2_with fail;refine bC HC.o ?_;rintro e W3 ⟨rfl,M,bf⟩;have af:=H9.o _ _ _ _ _ _ a6 bf;have d0:=cZz af;clear af;go_wp2_with fail;refine bC (HT.o W3 M) ?_;rintro e W4 ⟨rfl,k4⟩;go_wp2;go_roundw
  case rel=>exact⟨k+1,_,by omega,by go_num,bu,k4⟩
  simp[intOf];omega
 have b9:z=p0++mC 0 A.d:=by{have:=G.o;rw[bG (by omega)] at this;simpa [mC] using this};subst b9;have cj:=H7.o _ wr kw HL.o;go_wp2_with fail;refine cj.m ?_;rintro e W3 ⟨rfl,M⟩;go_wp2;go_end0;rw[b7.o];exact⟨rfl,M⟩
def MU(B b:Nat)(bs:List UInt8)(r:Rl)(v0 vb:Vq)(bc aq:Nat)(W:Wq)(hb:nI B b bs W)(hv:mF W bc aq r v0 vb)(am:kF r)(hl:aD (bs++qW r)<=1000000)(hB:B<=W.heap.size):Cs 62 #[Pt b,aL #[St r.d.j,v0,vb]] W λe W'=>e=aQ (aN #[])/\Qp B b (bs++qW r) W W':=by
 have⟨fa,fc,ea⟩:=hv.1.c;have⟨ga,gc,cv⟩:=hv.2.c;obtain⟨W0,ay⟩:=aC (W.alloc (aP #[St r.d.j,v0,vb] 136));have ac:bT W.heap.size W W0:=ay▸(bF _ W).l zl _
 have Qy:W0.heap[W.heap.size]?=cC #[St r.d.j,v0,vb] 136:=ay▸zn W _
 have ah:=bB hB ac.s;have b7:Hid (bs++qW r=bs++kH r.d++mG 0 r.n++[46,10]):=by show _=_;unfold qW;simp
 have HL:Hid (aD (bs++kH r.d++mG 0 r.n++[46,10])<=1000000):=by show _<=_;rwa[<-b7.o]
 have Qfq:∀W1,bT W0.heap.size W0 W1->∀(z:List UInt8)(W2:Wq)(A:Am)(E:Vq),Qp B b z W1 W2->Qg W aq E A.d->lO A->aD (z++kH A)<=1000000->
   Cs 104 #[Pt b,aL #[St A.j,E]] W2 λe W'=>e=aQ (aN #[])/\Qp B b (z++kH A) W1 W':=by
  intro W1 ab z W2 A E G hS da ai;have co:=(hb.f ac).f ab;have ec:=(hS.a (qf.d ac)).a (qf.d ab);refine (MN B b z aq E A W2 G.e (ec.a (G.a co)) da.d (λt ht=>by have:=(da.c t ht).d;omega) ai (bB (bB ah ab.s) G.f.s)).m ?_;exact λe W' h=>⟨h.1,G.trans h.2⟩
 have di:∀W1,bT W0.heap.size W0 W1->∀(z:List UInt8)(W2:Wq)(s:ByteArray),Qp B b z W1 W2->aD (z++s.data.toList)<=1000000->
   Cs 105 #[Pt b,St s] W2 λe W'=>e=aQ (aN #[Ii s.size,.nilIface])/\Qp B b (z++s.data.toList) W1 W'/\Qp B b (z++s.data.toList) W2 W':=by
  intro W1 ab z W2 s G ai;exact (yo B b z s W2 G.e ai (bB (bB ah ab.s) G.f.s)).m (λe W' h=>⟨h.1,G.trans h.2,h.2⟩)
 have de:∀W1,bT W0.heap.size W0 W1->Qp B b bs W1 W1:=λW1 ab=>⟨(hb.f ac).f ab,zr,Lib.OthersKept.refl _ _ _⟩;have ce:∀W1,bT W0.heap.size W0 W1->∀(z:List UInt8) (W2:Wq),Qp B b z W1 W2->Qp B b z W W2:=λW1 ab z W2 h=>Qp.c ac hB (Qp.c ab ah h);have Qfs:∀W1,bT W0.heap.size W0 W1->∀(z:List UInt8) (W2:Wq),Qp B b z W1 W2->W2.heap[W.heap.size]?=cC #[St r.d.j,v0,vb] 136:=λW1 ab z W2 h=>h.i ((hb.f ac).f ab) ((ab.b _ (zg Qy).1).t Qy) (by decide) (by decide);have bb:∀W1,bT W0.heap.size W0 W1->∀(z:List UInt8)(W2:Wq)(O:Obj),Qp B b z W1 W2->Qp B b z W1 (W2.alloc O):=λW1 ab z W2 O h=>by have hx:=(bF _ W2).l zl O;exact⟨h.e.f hx,h.f.t (hx.m (bB (bB ah ab.s) h.f.s)),h.d.trans (yF hx)⟩
 have cc:∀(z az:List UInt8) (W1 W2 W3:Wq) (x y:Vq),Qp B b z W1 (W2.alloc (aP #[x,y] 92))->Qp B b az (W2.alloc (aP #[x,y] 92)) W3->W3.heap[W2.heap.size]?=cC #[x,y] 92:=λz az W1 W2 W3 x y k k'=>k'.i k.e (zn W2 _) (by decide) (by decide)
 have Qi:∀W1,bT W0.heap.size W0 W1->∀(z:List UInt8)(W2:Wq),Qp B b z W1 W2->∀k(hk:k<aD r.n),∃g bn E,ga=aX ⟨g,bn,aY⟩/\aE W2 (Ad g (bn+k*2))=aX (St (r.n[k]).j)/\aE W2 (Ad g (bn+k*2+1))=aX E/\Qg W aq E (r.n[k]).d:=by
  intro W1 ab z W2 G k hk;have co:=(hb.f ac).f ab;have cd:=((qf.d ac).trans (qf.d ab)).trans (G.a co);have⟨g,bn,c,E,h1,h2,h3,h4,h5⟩:=xp hv.2 hk;have⟨g',dt,c',ek,dl,d5,eo,es,em⟩:=xp (hv.2.a cd) hk;rw[cv] at h1 dl;cases h1;cases dl;refine⟨g,bn,E,rfl,d5,?_,h4⟩;have⟨ps,a,cap,e1,e2,e3,e4⟩:=hv.2;have⟨g2,dx,ei,k1,k2,k3,k4⟩:=e4 (by intro e;rw[e] at hk;simp at hk);rw[cv] at e2;cases e2;cases k1;have bf:=cd _ _ _ (aU (aS rfl)) k3;simp only[aE,k3] at h3;simp only[aE,bf];exact h3
 have dg:∀k (hk:k<aD r.n),lO r.n[k]:=λk hk=>am.h _ (zm hk);have c4:=am.d;have b5:=hv.1;have dc:∀j,aE W0 (Ad W.heap.size j)=([St r.d.j,v0,vb]:List Vq)[j]?:=λj=>by simp[aE,Qy]
 have Qnu:=am.n;clear hv am hl hb ac Qy ah hB;subst ea cv;have H2:=aA Qfq;have H3:=aA di;have H4:=aA de;have H5:=aA ce;have H6:=aA Qfs;have H7:=aA bb;have H8:=aA cc;have H9:=aA Qi;have HA:=aA dg;have HH:=aA c4;have HS:=aA b5;clear Qfq di de ce Qfs bb cc Qi dg c4 b5;go_enter Tryz.func62,Tryz.ntmps62;have ab:bT W0.heap.size W0 W0:=zr;have k1:=H4.o W0 ab;have af:=H6.o W0 ab bs W0 k1;have d0:=cZz af;clear af;have dp:aD (bs++kH r.d)<=1000000:=by have:=HL.o;simp at this ⊢;omega
 have ha:=H2.o W0 ab bs W0 r.d _ k1 HS.o HH.o dp;have dw:=aA ha;clear ha;go_wp2_with fail;refine bC dw.o ?_;rintro e W2 ⟨rfl,k2⟩;have af:=H6.o W0 ab _ W2 k2;have d2:aE W2 (Ad W.heap.size 2)=aX (aJ ga (aD r.n) gc):=zc af;clear af d0 dp;generalize hp0:bs++kH r.d=p0 at *;clear hp0;go_wp2
 go_loopw [13] (λi wr=>∃(k:Nat)(z:List UInt8),k<=aD r.n/\i=aO aR k/\Hid (z++mG k (r.n.drop k)=p0++mG 0 r.n)/\Qp B b z W0 wr) (λi _=>aD r.n-(intOf i).toNat)
 case atStart=>exact⟨0,p0,zz,rfl,rfl,k2⟩
 case round=>
  obtain⟨k,z,hk,rfl,aj,kw⟩:=hrel;by_cases ao:k<aD r.n
  .obtain⟨g,bn,E,rfl,q0,q1,ck⟩:=H9.o W0 ab z wr kw k ao;have⟨sa,sc,cy⟩:=ck.c;have Qh2:=HA.o k ao;have ad:Hid (mG k (r.n.drop k)=(if k=0 then [32,58,45,32] else [44,32])++kH r.n[k]++mG (k+1) (r.n.drop (k+1))):=by{show _=_;rw[bE ao];rfl};have i1:(k:Int)<(aD r.n:Int):=by{omega};subst cy;have a6:=H7.o W0 ab z wr (aP #[St (r.n[k]).j,aJ sa (aD (r.n[k]).d) sc] 92) kw
   have M:∀(C:List UInt8),(if k=0 then [32,58,45,32] else [44,32])=C->aD (z++C)<=1000000/\aD (z++C++kH r.n[k])<=1000000/\(z++C++kH r.n[k])++mG (k+1) (r.n.drop (k+1))=p0++mG 0 r.n:=by
    intro C hs;have h2:=HL.o;have h3:(z++C++kH r.n[k])++mG (k+1) (r.n.drop (k+1))=p0++mG 0 r.n:=by{rw[<-aj.o,ad.o,hs];simp};refine⟨?_,?_,h3⟩;{have h4:=congrArg aD h3;simp at h4 h2 ⊢;omega};{have h4:=congrArg aD h3;simp at h4 h2 ⊢;omega}
   have HT:Hid (∀(az:List UInt8) (W3:Wq),Qp B b az W0 W3->aD (az++kH r.n[k])<=1000000->Cs 104 #[Pt b,aL #[St (r.n[k]).j,aJ sa (aD (r.n[k]).d) sc]] W3 λe W'=>e=aQ (aN #[])/\Qp B b (az++kH r.n[k]) W0 W'):=λaz W3 h h'=>H2.o W0 ab az W3 r.n[k] _ h ck Qh2 h';by_cases ax:k=0
   .have⟨l1,l2,au⟩:=M [32,58,45,32] (by rw[if_pos ax]);have HC:Hid _:=H3.o W0 ab z _ ⟨#[32,58,45,32]⟩ a6 l1;have HX:=aA au;have cp:Hid _:=λW3 h=>HT.o (z++[32,58,45,32]) W3 h l2;have e0:((k:Int) == 0)=true:=by{simp[ax]};clear ad aj M HT l1 l2 au ax ck Qh2;generalize r.n[k]=ak at *;go_wp2_with fail;refine bC HC.o ?_;rintro e W3 ⟨rfl,k3,bf⟩;have af:=H8.o _ _ _ _ _ _ _ a6 bf;have e1:aE W3 (Ad wr.heap.size 0)=aX (St ak.j):=zc af;have e2:aE W3 (Ad wr.heap.size 1)=aX (aJ sa (aD ak.d) sc):=zc af;clear af;go_wp2_with fail;refine bC (cp.o W3 k3) ?_;rintro e W4 ⟨rfl,k4⟩;go_wp2
    go_roundw
    case rel=>exact⟨k+1,_,by omega,by go_num,HX.o,k4⟩
    case measure=>simp[intOf];omega
   .have⟨l1,l2,au⟩:=M [44,32] (by rw[if_neg ax]);have HC:Hid _:=H3.o W0 ab z _ ⟨#[44,32]⟩ a6 l1;have HX:=aA au;have cp:Hid _:=λW3 h=>HT.o (z++[44,32]) W3 h l2;have e0:((k:Int) == 0)=false:=by{simp[ax]};clear ad aj M HT l1 l2 au ax ck Qh2;generalize r.n[k]=ak at *;go_wp2_with fail;refine bC HC.o ?_;rintro e W3 ⟨rfl,k3,bf⟩;have af:=H8.o _ _ _ _ _ _ _ a6 bf;have e1:aE W3 (Ad wr.heap.size 0)=aX (St ak.j):=zc af;have e2:aE W3 (Ad wr.heap.size 1)=aX (aJ sa (aD ak.d) sc):=zc af;clear af;go_wp2_with fail;refine bC (cp.o W3 k3) ?_;rintro e W4 ⟨rfl,k4⟩;go_wp2
    go_roundw
    case rel=>exact⟨k+1,_,by omega,by go_num,HX.o,k4⟩
    case measure=>simp[intOf];omega
  .have b9:z=p0++mG 0 r.n:=by{have:=aj.o;rw[bG (by omega)] at this;simpa [mG] using this};subst b9;have cj:=H3.o W0 ab _ wr ⟨#[46,10]⟩ kw HL.o;have ee:=aA cj;clear cj;go_wp2_with fail;refine bC ee.o ?_;rintro e W3 ⟨rfl,k3,_⟩;go_wp2
   go_end0
   rw[b7.o];exact⟨rfl,H5.o W0 ab _ W3 k3⟩
def BZ(s:ByteArray):s.size=aD s.data.toList:=by cases s;simp[ByteArray.size]
def J5(t:Tm)(h:tB t):aD (nB t)<=1200:=by
 unfold nB;split
 .have A:=h.d;have C:=yL t.d;have E:(qL t.d).size=aD (bU t.d):=by{rw[BZ];rfl};simp;lia
 have:=h.c;have z:=BZ t.c;lia
theorem GD:∀(l:List Tm) (i:Nat),(∀t∈l,tB t)->aD (mC i l)<=aD l*1201
 |[],_,_=>by simp[mC]
 |t::l,i,h=>by have A:=GD l (i+1) (λx z=>h x (by simp[z]));have C:=J5 t (h t (by simp));unfold mC;split<;>simp<;>lia
def DG(a:Am)(h:lO a):aD (kH a)<=4000:=by have A:=GD a.d 0 h.c;have:=h.j;have:=h.d;have z:=BZ a.j;unfold kH;simp;lia
theorem GU:∀(l:List Am) (i:Nat),(∀a∈l,lO a)->aD (mG i l)<=aD l*4004
 |[],_,_=>by simp[mG]
 |a::l,i,ha=>by have A:=GU l (i+1) (λb z=>ha b (by simp[z]));have C:=DG a (ha a (by simp));unfold mG;split<;>simp<;>lia
def NJ(r:Rl)(z:kF r):aD (qW r)<=17000:=by have A:=DG r.d z.d;have C:=GU r.n 0 z.h;have E:=z.n;unfold qW;simp;lia
theorem FY:∀(rs:List Rl),(∀r∈rs,kF r)->aD (mK rs)<=aD rs*17000
 |[],_=>by simp[mK]
 |r::rs,h=>by have z:=FY rs (λq A=>h q (by simp[A]));have C:=NJ r (h r (by simp));unfold mK at z ⊢;simp at z ⊢;lia
def Iu(v:Vq)(rs:List Rl)(a8 bc aq:Nat)(w:Wq)(hR:Qq w a8 bc aq v rs)(Qv:∀g,aI v=aX g->g<w.heap.size)(h8:aD rs<=8)(am:∀r∈rs,kF r):Cs 31 #[v] w λe w'=>e=aQ (St ⟨(mK rs).toArray⟩)/\bT w.heap.size w w':=by
 have⟨a,c,dn⟩:=hR.c;have dv:aD (mK rs)<=1000000:=by have:=FY rs am;omega
 obtain⟨W0,ay⟩:=aC (w.alloc (aP #[.pointer aY,aJ aY 0 0] 133));have ac:bT w.heap.size w W0:=ay▸(bF _ w).l zl _
 have M:=ac.s;have bd:nI w.heap.size w.heap.size [] W0:=by refine aS ⟨Nat.le_refl _,aJ aY 0 0,ay▸zn w _,World.ownsRowF_nil _ _ _ _,by simp[aI]⟩
 have Qi:∀(z:List UInt8)(W1:Wq),Qp w.heap.size w.heap.size z W0 W1->∀k(hk:k<aD rs),∃g A vb,a=aX ⟨g,0,aY⟩/\aE W1 (Ad g (k*3))=aX (St (rs[k]).d.j)/\aE W1 (Ad g (k*3+1))=aX A/\aE W1 (Ad g (k*3+2))=aX vb/\mF W1 bc aq rs[k] A vb:=by intro z W1 hw k hk;have cd:=(qf.d ac).trans (hw.a bd);have⟨g,c',A,vb,h1,h2,h3,h4,h5⟩:=sY (hR.a cd) hk;rw[dn] at h1;cases h1;exact⟨g,A,vb,rfl,h2,h3,h4,h5⟩
 have bb:∀(z:List UInt8)(W1:Wq)(O:Obj),Qp w.heap.size w.heap.size z W0 W1->Qp w.heap.size w.heap.size z W0 (W1.alloc O)/\bT W1.heap.size W1 (W1.alloc O):=λz W1 O h=>by have hx:=(bF _ W1).l zl O;exact⟨⟨h.e.f hx,h.f.t (hx.m (bB M h.f.s)),h.d.trans (yF hx)⟩,hx⟩
 have E:∀(z:List UInt8)(W1:Wq)(r:Rl)(A vb:Vq),Qp w.heap.size w.heap.size z W0 W1->mF W1 bc aq r A vb->kF r->aD (z++qW r)<=1000000->
   Cs 62 #[Pt w.heap.size,aL #[St r.d.j,A,vb]] W1 λe W'=>e=aQ (aN #[])/\Qp w.heap.size w.heap.size (z++qW r) W0 W':=λz W1 r A vb h C hr ai=>
  (MU _ _ z r A vb bc aq W1 h.e C hr ai (bB M h.f.s)).m (λe W' G=>⟨G.1,h.trans G.2⟩)
 have dj:∀(z:List UInt8) (W1:Wq),Qp w.heap.size w.heap.size z W0 W1->Cs 63 #[Pt w.heap.size] W1 λe w'=>e=aQ (St ⟨z.toArray⟩)/\bT w.heap.size w w':=λz W1 h=>(Tryz.Builder_String_any_k w.heap.size w.heap.size z W1 h.e (bB M h.f.s)).m (λe w' G=>⟨G.1,(ac.t h.f).t G.2.2.1⟩);subst dn;have H1:=aA Qi;have H2:=aA bb;have H3:=aA E;have H4:=aA dj;have d4:=aA am;have k0:Qp w.heap.size w.heap.size [] W0 W0:=⟨bd,zr,Lib.OthersKept.refl _ _ _⟩;clear Qi bb E dj hR Qv am bd M ac;go_enter Tryz.func31,Tryz.ntmps31;go_wp2;clear ay
 go_loopw [8] (λi wr=>∃(k:Nat)(z:List UInt8),k<=aD rs/\i=aO aR k/\Hid (z++mK (rs.drop k)=mK rs)/\Qp w.heap.size w.heap.size z W0 wr) (λi _=>aD rs-(intOf i).toNat)
 case atStart=>exact⟨0,[],zz,rfl,rfl,k0⟩
 case round=>
  obtain⟨k,z,hk,rfl,aj,kw⟩:=hrel;by_cases ao:k<aD rs
  .obtain⟨g,A,vb,rfl,q0,q1,q2,C⟩:=H1.o z wr kw k ao;have ad:mK (rs.drop k)=qW rs[k]++mK (rs.drop (k+1)):=by{rw[bE ao];rfl};have bu:Hid ((z++qW rs[k])++mK (rs.drop (k+1))=mK rs):=by{show _=_;rw[<-aj.o,ad];simp};have ai:aD (z++qW rs[k])<=1000000:=by{have:=congrArg aD bu.o;simp at this ⊢;omega};have⟨sa,sc,cy⟩:=C.1.c;have⟨ta,tc,cn⟩:=C.2.c;subst cy cn;have⟨a6,dd⟩:=H2.o z wr (aP #[St (rs[k]).d.j,aJ sa (aD (rs[k]).d.d) sc,aJ ta (aD (rs[k]).n) tc] 136) kw;have ch:=H3.o z _ rs[k] _ _ a6 (C.a (qf.d dd)) (d4.o _ (zm ao)) ai;have HC:=aA ch;have i1:(k:Int)<(aD rs:Int):=by{omega};clear ch ad aj ai C dd a6;generalize rs[k]=rk at *;go_wp2_with fail;refine bC HC.o ?_;rintro e W3 ⟨rfl,k3⟩;go_wp2
   go_roundw
   case rel=>exact⟨k+1,_,by omega,by go_num,bu,k3⟩
   case measure=>simp[intOf];omega
  .have b9:z=mK rs:=by{have:=aj.o;rw[bG (by omega)] at this;simpa [mK] using this};subst b9;have eg:Hid _:=H4.o _ wr kw;go_wp2_with fail;refine bC eg.o ?_;rintro e W3 ⟨rfl,dz⟩;go_wp2;go_ret;exact⟨rfl,dz⟩
def Nt(s:ByteArray)(w:Wq)(hs:s.size<=4611686018427387904)(hT:Lib.Utf8Tabs 0 1 w):Cs 14 #[St s] w λe w'=>e=aQ (aN #[St ⟨(iB s).1.toArray⟩,Ii (iB s).2.1,Ii (iB s).2.2])/\bT w.heap.size w w':=by
 have M:=CB s w hs hT;have H1:=aA M;clear M;go_enter Tryz.func14,Tryz.ntmps14;go_wp2_with fail;refine bC H1.o ?_;rintro e w1 ⟨ab,⟨c,p,rfl,O,z⟩|⟨rs,v,bc,aq,rfl,A,h8,E,z,_,_⟩⟩
 .have cq:(c == 0)=false:=by{simp[O]};have C:=aA z;clear z O;go_wp2;go_ret3;rw[C.o];exact⟨rfl,ab⟩
 obtain⟨va,vc,rfl⟩:=A.c;have G:=Iu _ rs _ bc aq w1 A (xx A) h8 E;have HW:=aA G;have C:=aA z;clear G z A E;go_wp2_with fail;refine bC HW.o ?_;rintro e w2 ⟨rfl,dy⟩;go_wp2;go_ret3;rw[C.o];exact⟨rfl,ab.t (dy.m ab.s)⟩
end Go.Proofs.YtjajnhemgphefaaGreatDoor
namespace Go.Proofs.YtjajnhemgphefaaGreatDoor
open Go renaming World->Wq,Value->Vq
variable {s:fT} {k r:Int} {t:ByteArray} {x:gF}
theorem vV(h:(gA s k t r).1=0):Q2 s.d k=true/\Qc s.d r (aD s.u) (aD s.f) (Qz s.f)=false/\(gA s k t r).2=fS s k t:=by grind [gA]
def tY{sF:fT}{l:List gF}(h:fO s (x::l)=(sF,aY)):(gA s x.d x.f x.a).1=0/\fO (fS s x.d x.f) l=(sF,aY):=by grind [fO,gA,vV]
def t3(hs:s.d=3)(h:(gA s k t r).1=0):(k=1\/k=2)/\fS s k t={s with d:=4,f:=pO s.f (jH s.c k t),c:=kG s.c k t}:=by
 have A:=(vV h).1;have z:k=1\/k=2:=by grind [Q2]
 exact⟨z,by unfold fS oQ;rw[if_pos z,if_pos hs]⟩
def t4(hs:s.d=4)(h:(gA s k t r).1=0):(k=5/\fS s k t={s with d:=3})\/(k=4/\fS s k t=sI s):=by
 have A:=(vV h).1;have z:k=5\/k=4:=by grind [Q2]
 obtain rfl|rfl:=z
 .grind [fS]
 grind [fS]
def t2(hs:s.d=2)(h:(gA s k t r).1=0):k=3/\fS s k t={s with d:=3}:=by
 have A:=(vV h).1;have z:k=3:=by grind [Q2]
 subst z;exact⟨rfl,by unfold fS;simp⟩
def zH(hs:s.d=0\/s.d=1)(h:(gA s k t r).1=0):k=1/\fS s k t={s with d:=2,f:=s.f++[⟨t,[]⟩]}:=by
 have A:=(vV h).1;have z:k=1:=by grind [Q2]
 subst z;exact⟨rfl,by unfold fS oQ;rw[if_pos (aS rfl),if_neg (by lia)]⟩
def CG(hs:s.d=5\/s.d=6)(h:(gA s k t r).1=0):(k=6/\fS s k t=mV s)\/((k=5\/k=7)/\fS s k t={s with d:=1}):=by
 have z:=(vV h).1;obtain hs|hs:=hs
 .have A:k=7\/k=6:=by{unfold Q2 at z;simp[hs] at z;exact z};obtain rfl|rfl:=A;{grind [fS]};grind [fS]
 have A:k=5\/k=6:=by unfold Q2 at z;simp[hs] at z;exact z
 obtain rfl|rfl:=A
 .grind [fS]
 grind [fS]
def Bd(z:List ByteArray)(x:gF)(h:x.d=1\/x.d=2):lF z (Qu x)=jH z x.d x.f/\mB z (Qu x)=kG z x.d x.f:=by grind [lF,mB,jH,kG,Qu,gZ]
def yj(n:Nat):Int:=if n=1 then 5 else 6
theorem zV(E:RT):∀(n:Nat) (ts:List gF) (s sF:fT) (p:List Am) (a:Am),aD ts<=n->s.d=3->s.f=p++[a]->fO s ts=(sF,aY)->sF.d=0->
  ∃L z k,gG s.c (ts.map Qu++[E])=aX (L,z,k)/\k<=aD ts/\2<=k/\fO {s with d:=yj (aD p+1),f:=p++[{a with d:=a.d++L}],c:=z} (ts.drop k)=(sF,aY)
 |n,[],s,sF,p,a,hn,hs,ha,h,hF=>by grind [fO]
 |n,[x],s,sF,p,a,hn,hs,ha,h,hF=>by have⟨h1,h2⟩:=tY h;have⟨hk,he⟩:=t3 hs h1;rw[he] at h2;simp[fO] at h2;subst h2;simp at hF
 |0,x::y::us,s,sF,p,a,hn,hs,ha,h,hF=>by simp at hn
 |n+1,x::y::us,s,sF,p,a,hn,hs,ha,h,hF=>by
  have⟨h1,h2⟩:=tY h;have⟨hk,he⟩:=t3 hs h1;rw[he,ha,At] at h2;have⟨e1,e2⟩:=Bd s.c x hk;have⟨h3,h4⟩:=tY h2;obtain⟨C,A⟩|⟨C,A⟩:=t4 rfl h3
  .rw[A] at h4;have⟨L,z,k,q1,q2,q3,q4⟩:=zV E n us {s with d:=3,f:=p++[{a with d:=a.d++[jH s.c x.d x.f]}],c:=kG s.c x.d x.f} sF p {a with d:=a.d++[jH s.c x.d x.f]} (by simp at hn;lia) rfl rfl h4 hF;refine⟨jH s.c x.d x.f::L,z,k+2,?_,by simp;lia,by lia,?_⟩;{grind [gG,Qu,gZ]};{grind}
  .rw[A] at h4;refine⟨[jH s.c x.d x.f],kG s.c x.d x.f,2,?_,by simp,by lia,?_⟩
   .simp only[bH,bD];unfold gG;have G:(Qu y).d=41:=by{unfold Qu;rw[C];rfl};rw[if_pos G,e1,e2]
   .grind [sI,yj]
theorem ye(h:x.d=1):(Qu x).f=x.f:=by unfold Qu;simp[h]
theorem G6(E:RT):∀(f:Nat) (ts:List gF) (s sF:fT) (a:Am) (l:List Am),aD ts<f->(s.d=5\/s.d=6)->s.f=a::l->fO s ts=(sF,aY)->sF.d=0->
  ∃bs m,nK f s.c (ts.map Qu++[E])=aX (bs,m)/\m<aD ts/\fO ⟨0,s.u++[⟨a,l++bs⟩],[],[]⟩ (ts.drop (m+1))=(sF,aY)
 |0,ts,s,sF,a,l,hn,_,_,_,_=>by lia
 |f+1,[],s,sF,a,l,hn,hs,ha,h,hF=>by grind [fO]
 |f+1,x::us,s,sF,a,l,hn,hs,ha,h,hF=>by
  have⟨h1,h2⟩:=tY h;obtain⟨z,A⟩|⟨z,A⟩:=CG hs h1
  .rw[A] at h2;have G:mV s=⟨0,s.u++[⟨a,l⟩],[],[]⟩:=by{unfold mV;rw[ha]};rw[G] at h2;refine⟨[],0,?_,by simp,by simpa using h2⟩;simp only[bH,bD];unfold nK;have C:(Qu x).d=46:=by{unfold Qu;rw[z];rfl};simp only[if_pos C]
  .rw[A] at h2;have C:(Qu x).d≠46:=by show gZ x.d≠46;obtain z|z:=z<;>rw[z]<;>decide
   cases us with
   |nil=>simp[fO] at h2;subst h2;simp at hF
   |cons r us=>
    have⟨h3,h4⟩:=tY h2;have⟨eh,cr⟩:=zH (aU rfl) h3;rw[cr] at h4
    cases us with
    |nil=>simp[fO] at h4;subst h4;simp at hF
    |cons o us=>
     have⟨h5,h6⟩:=tY h4;have⟨ef,d9⟩:=t2 rfl h5;rw[d9] at h6;simp only at h6;have⟨L,bj,k,q1,q2,q3,q4⟩:=zV E (aD us) us _ sF s.f ⟨r.f,[]⟩ zl rfl rfl h6 hF;simp only[bI] at q4;have O:1<=aD s.f:=by{rw[ha];simp};have M:yj (aD s.f+1)=6:=by{grind [yj]};rw[M] at q4;have⟨bs,m,p1,p2,p3⟩:=G6 E f (us.drop k) _ sF a (l++[⟨r.f,L⟩]) (by simp at hn ⊢;lia) (aU rfl) (by simp[ha]) q4 hF;refine⟨⟨r.f,L⟩::bs,3+k+m,?_,?_,?_⟩;{grind [nK,Qu,ye,bL]};{grind};{grind [List.drop_drop]}
theorem DM(E:RT)(z:E.d=4):∀(f:Nat) (ts:List gF) (s sF:fT),aD ts<f->s.d=0->s.f=[]->s.c=[]->fO s ts=(sF,aY)->sF.d=0->
  ∃rs,nG f (ts.map Qu++[E])=aX rs/\sF.u=s.u++rs
 |0,ts,s,sF,hn,_,_,_,_,_=>by lia
 |f+1,[],s,sF,hn,hs,ha,hv,h,hF=>by simp[fO] at h;subst h;exact⟨[],by simp[nG,z],by simp⟩
 |f+1,x::us,s,sF,hn,hs,ha,hv,h,hF=>by
  have⟨h1,h2⟩:=tY h;have⟨hk,he⟩:=zH (aS hs) h1;rw[he,ha] at h2;have A:(Qu x).d≠4:=by show gZ x.d≠4;rw[hk];decide
  cases us with
  |nil=>simp[fO] at h2;subst h2;simp at hF
  |cons o us=>
   have⟨h3,h4⟩:=tY h2;have⟨ef,cr⟩:=t2 rfl h3;rw[cr] at h4;have⟨L,bj,k,q1,q2,q3,q4⟩:=zV E (aD us) us _ sF [] ⟨x.f,[]⟩ zl rfl rfl h4 hF;simp only[hv] at q1;simp only[bI,List.length_nil] at q4;have⟨bs,m,p1,p2,p3⟩:=G6 E (aD (us.map Qu++[E])) (us.drop k) _ sF ⟨x.f,L⟩ [] (by simp;lia) (aS rfl) rfl q4 hF;have⟨rs,r1,r2⟩:=DM E z f ((us.drop k).drop (m+1)) _ sF (by simp at hn ⊢;lia) rfl rfl rfl p3 hF;refine⟨⟨⟨x.f,L⟩,bs⟩::rs,?_,by simpa using r2⟩;simp only[bH,bD];unfold nG;have hd:(us.map Qu++[E]).drop k=(us.drop k).map Qu++[E]:=by{grind [bL]};have C:((us.drop k).map Qu++[E]).drop (m+1)=((us.drop k).drop (m+1)).map Qu++[E]:=by{grind [bL]};simp only[if_neg A,q1,hd,p1,C,r1,ye hk]
structure zA(s:fT)(l:Lk):Prop where
 e:l.e=0
 c:l.c=false
 a:l.a=if s.d=6 then 5 else s.d
 h:0<=s.d
 j:s.d<=6
 u:l.u=aD s.u+if s.d=0 then 0 else 1
 n:s.d≠0->s.d≠1->(l.n=false↔aD s.f=1)
 f:s.d≠0->l.n=true->aD s.f=l.f+1
 g:s.d=1->l.n=true
 d:s.d=3\/s.d=4->l.d=Qz s.f
 i:s.d=2->Qz s.f=0
 m:s.d=5->aD s.f=1
 o:s.d=6->aD s.f≠1
theorem tS(k:Int):gZ k=1↔k=1:=by unfold gZ;repeat' split;all_goals lia
theorem AW(k:Int):gZ k=2↔k=2:=by unfold gZ;repeat' split;all_goals lia
def CH(k:Int):gZ k=3↔k=7:=by unfold gZ;repeat' split;all_goals lia
theorem Bq(k:Int):gZ k=40↔k=3:=by unfold gZ;repeat' split;all_goals lia
theorem vS(k:Int):gZ k=41↔k=4:=by unfold gZ;repeat' split;all_goals lia
theorem uy(k:Int):gZ k=44↔k=5:=by unfold gZ;repeat' split;all_goals lia
def vN(k:Int):gZ k=46↔k=6:=by unfold gZ;repeat' split;all_goals lia
theorem DA(k:Int):gZ k≠4:=by unfold gZ;repeat' split;all_goals lia
theorem qU(h:Q2 s.d k=false):gA s k t r=(2,s):=by unfold gA;rw[if_pos h]
theorem uZ(h:Q2 s.d k=true)(z:Qc s.d r (aD s.u) (aD s.f) (Qz s.f)=true):gA s k t r=(3,s):=by unfold gA;rw[h,z];rfl
theorem pA(h:Q2 s.d k=true)(z:Qc s.d r (aD s.u) (aD s.f) (Qz s.f)=false):gA s k t r=(0,fS s k t):=by unfold gA;rw[h,z];rfl
def ro(x:gF):Prop:=x.d=1\/x.d=2\/x.a<=2
def KX(s:fT)(l:Lk)(x:gF)(h:zA s l)(hI:qG s)(hx:ro x):(Qk l (Qu x)).e=(gA s x.d x.f x.a).1/\((gA s x.d x.f x.a).1=0->zA (gA s x.d x.f x.a).2 (Qk l (Qu x))):=by
 have⟨h1,h2,h3,h4,h5,h6,h7,h8,h9,c9,eb,Qkz,Qid⟩:=h;have⟨i1,i2,i3,i4,i5,i6,i7,i8⟩:=hI;have av:(Qu x).d=gZ x.d:=rfl;have cw:(Qu x).a=x.a:=rfl;have ed:s.d=0\/s.d=1\/s.d=2\/s.d=3\/s.d=4\/s.d=5\/s.d=6:=by lia
 obtain hs|hs|hs|hs|hs|hs|hs:=ed;·-- a rule may begin
  have A:l.a=0:=by{rw[h3,hs];rfl};have M:l.u=aD s.u:=by{rw[h6,hs];simp};have ad:Qk l (Qu x)=iU l (Qu x):=by{unfold Qk;simp[A]};rw[ad];by_cases G:x.d=1
  .have z:Q2 s.d x.d=true:=by{rw[hs,G];rfl};have O:iU l (Qu x)=if kP l=true\/8<x.a then {iY l with e:=3} else {iY l with a:=2}:=by{unfold iU;rw[if_neg (by grind [tS])];simp[A,cw]};by_cases he:Qc s.d x.a (aD s.u) (aD s.f) (Qz s.f)=true
   .have ho:kP l=true\/8<x.a:=by{unfold Qc at he;unfold kP;simp[hs] at he;simp[A];lia};rw[uZ z he,O,if_pos ho];exact⟨rfl,λh=>by simp at h⟩
   .have ae:Qc s.d x.a (aD s.u) (aD s.f) (Qz s.f)=false:=by{simpa using he};have ho:¬(kP l=true\/8<x.a):=by{unfold Qc at ae;unfold kP;simp[hs] at ae;simp[A];lia};rw[pA z ae,O,if_neg ho];have E:=(zH (aS hs) (r:=x.a) (by rw[pA z ae]:(gA s x.d x.f x.a).1=0)).2;rw[E];have b4:iY l={l with u:=l.u+1,n:=false}:=by{unfold iY;rw[if_pos A]};rw[b4];refine⟨h1,λ_=>⟨h1,h2,rfl,by simp,by simp,by simp[M],λ_ _=>by simp[i4 hs],λ_ h=>by simp at h,λh=>by simp at h,λh=>by simp at h,λ_=>by simp[Qz],λh=>by simp at h,λh=>by simp at h⟩⟩
  .have z:Q2 s.d x.d=false:=by{rw[hs];unfold Q2;simp[G]};have O:iU l (Qu x)={iY l with e:=2}:=by{unfold iU;rw[if_pos (by grind [tS])]};rw[qU z,O];exact⟨rfl,λh=>by simp at h⟩
 ·-- an atom of a body
  have A:l.a=1:=by{rw[h3,hs];rfl};have M:l.u=aD s.u+1:=by{rw[h6,hs];simp};have hb:=h9 hs;have ha:=h8 (by lia) hb;have ad:Qk l (Qu x)=iU l (Qu x):=by{unfold Qk;simp[A]};rw[ad];by_cases G:x.d=1
  .have z:Q2 s.d x.d=true:=by{rw[hs,G];rfl};have O:iU l (Qu x)=if kP l=true\/8<x.a then {iY l with e:=3} else {iY l with a:=2}:=by{unfold iU;rw[if_neg (by grind [tS])];simp[A,cw]};by_cases he:Qc s.d x.a (aD s.u) (aD s.f) (Qz s.f)=true
   .have ho:kP l=true\/8<x.a:=by{unfold Qc at he;unfold kP;simp[hs] at he;simp[A];lia};rw[uZ z he,O,if_pos ho];exact⟨rfl,λh=>by simp at h⟩
   .have ae:Qc s.d x.a (aD s.u) (aD s.f) (Qz s.f)=false:=by{simpa using he};have ho:¬(kP l=true\/8<x.a):=by{unfold Qc at ae;unfold kP;simp[hs] at ae;simp[A];lia};rw[pA z ae,O,if_neg ho];have E:=(zH (aU hs) (r:=x.a) (by rw[pA z ae]:(gA s x.d x.f x.a).1=0)).2;rw[E];have b4:iY l={l with f:=l.f+1}:=by{unfold iY;rw[if_neg (by lia),if_pos A]};rw[b4];refine⟨h1,λ_=>⟨h1,h2,rfl,by simp,by simp,by simp[M],λ_ _=>by simp[hb,i5 (by lia)],λ_ _=>by simp;lia,λh=>by simp at h,λh=>by simp at h,λ_=>by simp[Qz],λh=>by simp at h,λh=>by simp at h⟩⟩
  .have z:Q2 s.d x.d=false:=by{rw[hs];unfold Q2;simp[G]};have O:iU l (Qu x)={iY l with e:=2}:=by{unfold iU;rw[if_pos (by grind [tS])]};rw[qU z,O];exact⟨rfl,λh=>by simp at h⟩
 ·-- a bracket
  have A:l.a=2:=by{rw[h3,hs];rfl};have M:l.u=aD s.u+1:=by{rw[h6,hs];simp};have ad:Qk l (Qu x)=gJ l (Qu x):=by{unfold Qk;simp[A]};rw[ad];by_cases G:x.d=3
  .have z:Q2 s.d x.d=true:=by rw[hs,G];rfl
   have ae:Qc s.d x.a (aD s.u) (aD s.f) (Qz s.f)=false:=by
    have:¬(8:Int)<x.a:=by{unfold ro at hx;lia};unfold Qc;simp[hs,this]
   rw[pA z ae];have E:=(t2 hs (r:=x.a) (by rw[pA z ae]:(gA s x.d x.f x.a).1=0)).2;rw[E];have C:gJ l (Qu x)={l with d:=0,a:=3}:=by{unfold gJ;rw[if_pos ⟨A,by rwa[av,Bq]⟩]};rw[C];have Qn9:=eb hs;have aw:=h7 (by lia) (by lia);have a7:=h8 (by lia);exact⟨h1,λ_=>⟨h1,h2,rfl,by simp,by simp,by simp[M],λ_ _=>aw,λ_=>a7,λh=>by simp at h,λ_=>Qn9.s,λh=>by simp at h,λh=>by simp at h,λh=>by simp at h⟩⟩
  .have z:Q2 s.d x.d=false:=by{rw[hs];unfold Q2;simp[G]};have C:gJ l (Qu x)={l with e:=2}:=by{unfold gJ;simp only[A,av,Bq,G];simp};rw[qU z,C];exact⟨rfl,λh=>by simp at h⟩
 ·-- an argument
  have A:l.a=3:=by{rw[h3,hs];rfl};have M:l.u=aD s.u+1:=by{rw[h6,hs];simp};have hg:=c9 (aS hs);have aw:=h7 (by lia) (by lia);have a7:=h8 (by lia);have ad:Qk l (Qu x)=iU l (Qu x):=by{unfold Qk;simp[A]};have⟨p,a,dq⟩:=De s.f (i5 (by lia));have en:Qz s.f=aD a.d:=by{unfold Qz;rw[dq];simp};have et:=(i3 a (by grind)).d;rw[ad];by_cases G:x.d=1\/x.d=2
  .have z:Q2 s.d x.d=true:=by{rw[hs];unfold Q2;simp[G]};have O:iU l (Qu x)=if kP l=true\/8<x.a then {iY l with e:=3} else {iY l with a:=4}:=by{unfold iU;rw[if_neg (by grind [tS,AW])];simp[A,cw]};by_cases he:Qc s.d x.a (aD s.u) (aD s.f) (Qz s.f)=true
   .have ho:kP l=true\/8<x.a:=by{unfold Qc at he;unfold kP;simp[hs] at he;simp[A];lia};rw[uZ z he,O,if_pos ho];exact⟨rfl,λh=>by simp at h⟩
   .have ae:Qc s.d x.a (aD s.u) (aD s.f) (Qz s.f)=false:=by{simpa using he};have ho:¬(kP l=true\/8<x.a):=by{unfold Qc at ae;unfold kP;simp[hs] at ae;simp[A];lia};rw[pA z ae,O,if_neg ho];have E:=(t3 hs (r:=x.a) (by rw[pA z ae]:(gA s x.d x.f x.a).1=0)).2;rw[E];have b4:iY l={l with d:=l.d+1}:=by{unfold iY;rw[if_neg (by lia),if_neg (by lia)]};rw[b4];refine⟨h1,λ_=>⟨h1,h2,rfl,by simp,by simp,by simp[M],λ_ _=>by rwa[Gf],λ_=>by rwa[Gf],λh=>by simp at h,λ_=>?_,λh=>by simp at h,λh=>by simp at h,λh=>by simp at h⟩⟩;rw[dq,At];simp[Qz];lia
  .have z:Q2 s.d x.d=false:=by{rw[hs];unfold Q2;simp;lia};have O:iU l (Qu x)={iY l with e:=2}:=by{unfold iU;rw[if_pos (by grind [tS,AW])]};rw[qU z,O];exact⟨rfl,λh=>by simp at h⟩
 ·-- behind an argument
  have A:l.a=4:=by{rw[h3,hs];rfl};have M:l.u=aD s.u+1:=by{rw[h6,hs];simp};have hg:=c9 (aU hs);have aw:=h7 (by lia) (by lia);have a7:=h8 (by lia);have ad:Qk l (Qu x)=gJ l (Qu x):=by{unfold Qk;simp[A]};rw[ad];by_cases G:x.d=5\/x.d=4
  .have z:Q2 s.d x.d=true:=by rw[hs];unfold Q2;simp[G]
   have ae:Qc s.d x.a (aD s.u) (aD s.f) (Qz s.f)=false:=by
    have:¬(8:Int)<x.a:=by{unfold ro at hx;lia};unfold Qc;simp[hs,this]
   rw[pA z ae];obtain⟨bh,E⟩|⟨b8,E⟩:=t4 hs (r:=x.a) (by rw[pA z ae]:(gA s x.d x.f x.a).1=0)
   .rw[E];have C:gJ l (Qu x)={l with a:=3}:=by{unfold gJ;simp[A,av,uy,bh]};rw[C];exact⟨h1,λ_=>⟨h1,h2,rfl,by simp,by simp,by simp[M],λ_ _=>aw,λ_=>a7,λh=>by simp at h,λ_=>hg,λh=>by simp at h,λh=>by simp at h,λh=>by simp at h⟩⟩
   .rw[E];have C:gJ l (Qu x)={l with a:=5}:=by{unfold gJ;simp[A,av,vS,uy,b8,h2]};rw[C];unfold sI;by_cases ci:aD s.f=1;{simp only[if_pos ci];exact⟨h1,λ_=>⟨h1,h2,rfl,by simp,by simp,by simp[M],λ_ _=>aw,λ_=>a7,λh=>by simp at h,λh=>by simp at h,λh=>by simp at h,λ_=>ci,λh=>by simp at h⟩⟩};{simp only[if_neg ci];exact⟨h1,λ_=>⟨h1,h2,rfl,by simp,by simp,by simp[M],λ_ _=>aw,λ_=>a7,λh=>by simp at h,λh=>by simp at h,λh=>by simp at h,λh=>by simp at h,λ_=>ci⟩⟩}
  .have z:Q2 s.d x.d=false:=by rw[hs];unfold Q2;simp;lia
   have C:gJ l (Qu x)={l with e:=2}:=by
    have bh:¬x.d=5:=by{lia};have b8:¬x.d=4:=by{lia};unfold gJ;simp only[A,av,uy,vS,bh,b8];simp
   rw[qU z,C];exact⟨rfl,λh=>by simp at h⟩
 ·-- behind a head
  have A:l.a=5:=by{rw[h3,hs];rfl};have M:l.u=aD s.u+1:=by{rw[h6,hs];simp};have aw:=h7 (by lia) (by lia);have db:=Qkz hs;have hb:=aw.2 db;have ad:Qk l (Qu x)=gJ l (Qu x):=by{unfold Qk;simp[A]};rw[ad];by_cases G:x.d=7\/x.d=6
  .have z:Q2 s.d x.d=true:=by rw[hs];unfold Q2;simp[G]
   have ae:Qc s.d x.a (aD s.u) (aD s.f) (Qz s.f)=false:=by
    have:¬(8:Int)<x.a:=by{unfold ro at hx;lia};unfold Qc;simp[hs,this]
   rw[pA z ae];obtain⟨be,E⟩|⟨cz,E⟩:=CG (aS hs) (r:=x.a) (by rw[pA z ae]:(gA s x.d x.f x.a).1=0)
   .rw[E];have C:gJ l (Qu x)={l with a:=0}:=by{unfold gJ;simp[A,av,vN,be]};rw[C];obtain⟨a0,al,cf⟩:∃a0 al,s.f=a0::al:=bJ (i5 (by lia));have b6:mV s=⟨0,s.u++[⟨a0,al⟩],[],[]⟩:=by{unfold mV;rw[cf]};rw[b6];exact⟨h1,λ_=>⟨h1,h2,rfl,by simp,by simp,by simp[M],λh=>absurd rfl h,λh=>absurd rfl h,λh=>by simp at h,λh=>by simp at h,λh=>by simp at h,λh=>by simp at h,λh=>by simp at h⟩⟩
   .rw[E];have cl:x.d=7:=by{lia};have C:gJ l (Qu x)={l with n:=true,f:=0,a:=1}:=by{unfold gJ;simp[A,av,vN,uy,CH,cl,hb]};rw[C];exact⟨h1,λ_=>⟨h1,h2,rfl,by simp,by simp,by simp[M],λ_ h=>absurd rfl h,λ_ _=>by simpa using db,λ_=>rfl,λh=>by simp at h,λh=>by simp at h,λh=>by simp at h,λh=>by simp at h⟩⟩
  .have z:Q2 s.d x.d=false:=by rw[hs];unfold Q2;simp;lia
   have C:gJ l (Qu x)={l with e:=2}:=by
    have be:¬x.d=6:=by{lia};have cl:¬x.d=7:=by{lia};unfold gJ;simp only[A,av,vN,CH,be,cl,hb];simp
   rw[qU z,C];exact⟨rfl,λh=>by simp at h⟩
 ·-- behind an atom of a body
  have A:l.a=5:=by{rw[h3,hs];rfl};have M:l.u=aD s.u+1:=by{rw[h6,hs];simp};have aw:=h7 (by lia) (by lia);have Qlj:=Qid hs
  have hb:l.n=true:=by
   cases hbb:l.n with
   |true=>rfl
   |false=>exact absurd (aw.1 hbb) Qlj
  have a7:=h8 (by lia) hb;have ad:Qk l (Qu x)=gJ l (Qu x):=by{unfold Qk;simp[A]};rw[ad];by_cases G:x.d=5\/x.d=6
  .have z:Q2 s.d x.d=true:=by rw[hs];unfold Q2;simp[G]
   have ae:Qc s.d x.a (aD s.u) (aD s.f) (Qz s.f)=false:=by
    have:¬(8:Int)<x.a:=by{unfold ro at hx;lia};unfold Qc;simp[hs,this]
   rw[pA z ae];obtain⟨be,E⟩|⟨cz,E⟩:=CG (aU hs) (r:=x.a) (by rw[pA z ae]:(gA s x.d x.f x.a).1=0)
   .rw[E];have C:gJ l (Qu x)={l with a:=0}:=by{unfold gJ;simp[A,av,vN,be]};rw[C];obtain⟨a0,al,cf⟩:∃a0 al,s.f=a0::al:=bJ (i5 (by lia));have b6:mV s=⟨0,s.u++[⟨a0,al⟩],[],[]⟩:=by{unfold mV;rw[cf]};rw[b6];exact⟨h1,λ_=>⟨h1,h2,rfl,by simp,by simp,by simp[M],λh=>absurd rfl h,λh=>absurd rfl h,λh=>by simp at h,λh=>by simp at h,λh=>by simp at h,λh=>by simp at h,λh=>by simp at h⟩⟩
   .rw[E];have bh:x.d=5:=by{lia};have C:gJ l (Qu x)={l with a:=1}:=by{unfold gJ;simp[A,av,vN,uy,bh,hb]};rw[C];exact⟨h1,λ_=>⟨h1,h2,rfl,by simp,by simp,by simp[M],λ_ h=>absurd rfl h,λ_ _=>a7,λ_=>hb,λh=>by simp at h,λh=>by simp at h,λh=>by simp at h,λh=>by simp at h⟩⟩
  .have z:Q2 s.d x.d=false:=by rw[hs];unfold Q2;simp;lia
   have C:gJ l (Qu x)={l with e:=2}:=by
    have be:¬x.d=6:=by{lia};have bh:¬x.d=5:=by{lia};unfold gJ;simp only[A,av,vN,uy,CH,be,bh,hb];simp
   rw[qU z,C];exact⟨rfl,λh=>by simp at h⟩
theorem FJ(E:RT)(z:E.d=4):∀(ts:List gF) (s:fT) (l:Lk),zA s l->qG s->(∀x∈ts,ro x)->
  match fO s ts with
  |(_,aX ep)=>fZ l (ts.map Qu++[E])=ep/\ep.1≠0
  |(sF,aY)=>fZ l (ts.map Qu++[E])=if sF.d=0 then (0,0) else (2,E.b)
 |[],s,l,h,hI,hx=>by
  have M:=h.a;simp only[fO,bO,bI];unfold fZ;by_cases h0:s.d=0
  .have C:mN l E=true:=by{unfold mN;simp[z,M,h0,h.c]};rw[if_pos C,if_pos h0]
  .have O:l.a≠0:=by{rw[M];split<;>lia};have du:l.a≠6:=by rw[M];split<;>lia
   have he:(Qk l E).e=2:=by
    unfold Qk;split;{unfold iU;rw[if_pos (z▸⟨by decide,aS (by decide)⟩)]};{unfold gJ;simp[z]}
   rw[if_neg (by rw[sq O du];simp),he,if_pos (by lia),if_neg h0]
 |x::ts,s,l,h,hI,hx=>by
  have⟨q1,q2⟩:=KX s l x h hI (hx x zs);have C:mN l (Qu x)=false:=by{unfold mN;have:(Qu x).d≠4:=DA _;simp[this]};simp only[bH,bD];have A:fZ l (Qu x::(ts.map Qu++[E]))=if (Qk l (Qu x)).e≠0 then ((Qk l (Qu x)).e,(Qu x).b) else fZ (Qk l (Qu x)) (ts.map Qu++[E]):=by{rw[fZ,if_neg (by rw[C];simp)]};rw[A];by_cases h0:(gA s x.d x.f x.a).1=0
  .have G:fO s (x::ts)=fO (gA s x.d x.f x.a).2 ts:=by{rw[fO,if_pos h0]};rw[G,q1,if_neg (by rw[h0];simp)];exact FJ E z ts _ _ (q2 h0) (DC s _ _ _ x.o hI h0) (λy hy=>hx y (zt hy))
  .have G:fO s (x::ts)=(s,aX ((gA s x.d x.f x.a).1,x.b)):=by{rw[fO,if_neg h0]};rw[G,q1,if_pos h0];exact⟨rfl,h0⟩
theorem FE(a:Am)(rest:List Am):∀(aa:List Am),gX (aa++a::rest) a.j=match gV aa a.j.data.toList with|some n=>n|none=>aD a.d
 |[]=>by simp[gX,gV,Bk]
 |b::aa=>by
  have z:=FE a rest aa;simp only[bD,gX,Bk];by_cases h:(b.j.data.toList == a.j.data.toList)=true;{grind [gV]};{grind [gV]}
def Mn(aa:List Am)(a:Am)(rest:List Am):qH (aa++a::rest) a=!rE aa a:=by grind [qH,rE,FE,gV]
theorem Fb:∀(l aa rest:List Am),lK aa l=if l.any (qH (aa++l++rest))=true then aY else aX (aa++l)
 |[],aa,rest=>by simp[lK]
 |a::l,aa,rest=>by
  have C:=Mn aa a (l++rest);have e:aa++(a::l)++rest=aa++a::(l++rest):=by{simp};unfold lK;rw[e];simp only[List.any_cons,C];by_cases z:rE aa a=true
  .rw[if_pos z,z];have E:=Fb l (aa++[a]) rest;have A:aa++[a]++l++rest=aa++a::(l++rest):=by{simp};rw[E,A];simp
  .grind
def vL(o:Option Nat):Int:=match o with|some n=>n|none=>-1
theorem FX:∀(rs:List Rl) (aa:List Am) (i:Nat),mO aa i rs=vL (jX (qI (aa++fK rs)) rs i)
 |[],aa,i=>by simp[mO,jX,vL]
 |r::rs,aa,i=>by
  have hs:=Fb (Qa r) aa (fK rs);have e:aa++Qa r++fK rs=aa++fK (r::rs):=by{simp[fK]};rw[e] at hs;have E:qI (aa++fK (r::rs)) r=(Qa r).any (qH (aa++fK (r::rs))):=rfl;unfold mO jX;rw[E];show (match lK aa (Qa r) with|none=>(i:Int)|some s=>mO s (i+1) rs)=_;rw[hs];by_cases z:(Qa r).any (qH (aa++fK (r::rs)))=true;{rw[if_pos z,if_pos z];rfl};{rw[if_neg z,if_neg z];have A:=FX rs (aa++Qa r) (i+1);have C:=e;rwa[C] at A}
theorem Ni(r:Rl):pU r=oY r:=by
 unfold pU oY;congr 1;funext t;unfold so uh;cases h:t.c.toList.isEmpty with
 |false=>rfl
 |true=>grind [wm,Qf,pS,yJ,mW]
theorem GM(p:Rl->Bool):∀(rs:List Rl) (i:Nat),sM p i rs=vL (jX p rs i)
 |[],i=>rfl
 |r::rs,i=>by
  unfold sM jX;by_cases h:p r=true;{rw[if_pos h,if_pos h];rfl};{rw[if_neg h,if_neg h];exact GM p rs (i+1)}
theorem OO(rs:List Rl):sW rs=vL (jX oY rs 0):=by unfold sW;rw[GM];have:pU=oY:=funext Ni;rw[this]
theorem D4:∀(rs:List Rl) (ns:List ByteArray) (i:Nat),mS ns i rs=vL (nZ ns rs i)
 |[],ns,i=>rfl
 |r::rs,ns,i=>by
  unfold mS nZ;by_cases h:8<aD (fF ns (Q3 (Qa r)));{rw[if_pos h,if_pos h];rfl};{rw[if_neg h,if_neg h];exact D4 rs _ (i+1)}
theorem A8(rs:List Rl):nM rs=((lA rs).1,((lA rs).2:Int)):=by grind [nM,lA,FX,OO,D4,jX,qI,fK,vL,oY,nZ]
end Go.Proofs.YtjajnhemgphefaaGreatDoor
namespace Go.Proofs.YtjajnhemgphefaaGreatDoor
open Go renaming World->Wq,Value->Vq
open Go.RowKit Go.Shelf
variable {s:fT} {x:gF} {r:List gF} {l:Lk} {E:RT}
theorem EL(s:ByteArray):∀(f i:Nat),s.size<=i+f->bZ s f i=aD (R s i)
 |0,i,h=>by rw[qF s i (by lia)];rfl
 |f+1,i,h=>by
  unfold bZ;by_cases z:i<s.size;{have A:=Lib.decode_width_pos s i z;rw[if_pos z,qC s i z,EL s f _ (by lia)];simp;lia};{grind [qF]}
theorem rK(s:ByteArray):aD (R s 0)=cD s:=(EL s s.size 0 (by lia)).s
theorem Cw(s:ByteArray):aD (R s 0)<=s.size:=by rw[rK];exact Lib.runeCount_le s
def yQ(s:ByteArray)(h:s.size<=1200):Q7 s=(gD s.size s 0).map Qu++[⟨4,⟨#[]⟩,aD (R s 0),0⟩]:=by grind [Q7,uH,uC,Cw]
theorem yU:∀(f:Nat) (s:ByteArray) (p:Nat),∀x∈gD f s p,ro x
 |0,s,p,x,z=>by simp[gD] at z
 |f+1,s,p,x,z=>by
  unfold gD at z;split at z;{simp at z};split at z;{exact yU f _ _ x z};split at z
  .obtain rfl|z:=List.mem_cons.1 z
   .grind [ro,gT]
   .exact yU f _ _ x z
  .simp at z
def LZ:zA iG (gU false):=by refine⟨rfl,rfl,rfl,by decide,by decide,rfl,λh=>absurd rfl h,λh=>absurd rfl h,λh=>?_,λh=>?_,λh=>?_,λh=>?_,λh=>?_⟩;all_goals (simp[iG] at h)
def It:qG iG:=⟨by decide,by decide,by simp[iG],λ_=>rfl,λh=>absurd rfl h,λh=>absurd rfl h,by simp[iG],by simp[iG]⟩
theorem tH(x y:ByteArray):(x++y).data.toList=x.data.toList++y.data.toList:=by simp
def IQ(t:Tm):(wy t).data.toList=nB t:=by unfold wy nB qL;split<;>simp
theorem CR:∀(l:List Tm) (i:Nat),(pI i l).data.toList=mC i l
 |[],i=>rfl
 |t::l,i=>by
  unfold pI mC;rw[tH,tH,IQ,CR l (i+1)];by_cases h:i=0;{subst h;simp};{grind}
def DN(a:Am):(rL a).data.toList=kH a:=by grind [rL,kH,tH,CR]
theorem Eb:∀(l:List Am) (i:Nat),(sj i l).data.toList=mG i l
 |[],i=>rfl
 |a::l,i=>by
  unfold sj mG;rw[tH,tH,DN,Eb l (i+1)];by_cases h:i=0;{grind};{grind}
theorem Gl:∀(l:List Rl),(oZ l).data.toList=mK l
 |[]=>rfl
 |r::l=>by unfold oZ mK;rw[tH,Gl l,List.flatMap_cons];unfold mK BF qW;rw[tH,tH,DN,Eb]
theorem Cy(s:ByteArray)(h:aD (R s 0)<=300)(A:s.size<=1200):iT s=match nE s with|.error ep=>.error ep|.ok rs=>if (lA rs).1≠0 then .error (lA rs) else .ok rs:=by
 have z:=FJ ⟨4,⟨#[]⟩,aD (R s 0),0⟩ rfl (gD s.size s 0) iG (gU false) LZ It (yU _ _ _);rw[<-yQ s A] at z;unfold iT nE;rw[if_neg (by lia)];cases hf:fO iG (gD s.size s 0) with
 |mk sF o=>
  rw[hf] at z;cases o with
  |some ep=>grind
  |none=>simp only at z ⊢;by_cases h0:sF.d=0;{rw[if_pos h0] at z ⊢;rw[z,if_neg (by simp)];have⟨rs,r1,r2⟩:=DM ⟨4,⟨#[]⟩,aD (R s 0),0⟩ rfl (aD (Q7 s)+1) (gD s.size s 0) iG sF (by rw[yQ s A];simp;lia) rfl rfl rfl hf h0;rw[<-yQ s A] at r1;rw[r1];have:sF.u=rs:=by{rw[r2];rfl};rw[this]};grind [rK]
def Ml(s:ByteArray):rZ s=(⟨(iB s).1.toArray⟩,(iB s).2.1,(iB s).2.2.toNat)/\0<=(iB s).2.2:=by
 unfold rZ iB;by_cases C:300<cD s
 .grind [iT,rK]
 rw[if_neg C,Cy s (by rw[rK];lia) (by have:=sr s;lia)];cases hp:nE s with
 |error ep=>have⟨c,p⟩:=ep;simp
 |ok rs=>have z:=A8 rs;have A:0<=(nM rs).2:=by{rw[z];simp};simp only;by_cases h0:(lA rs).1=0;{have:(nM rs).1=0:=z▸h0;rw[if_pos this,if_neg (by simpa using h0)];simp only;refine⟨?_,by simp⟩;have:=Gl rs;refine Prod.ext ?_ rfl;apply ByteArray.ext;simp only;rw[<-this]};grind
def jT(s:fT)(r:List gF):Option Am:=match fO s r with
 |(_,aX _)=>aY
 |(st,aY)=>if st.d=5/\st.u=[] then st.f.head? else aY
def kE(E:RT)(l:Lk)(r:List gF):Prop:=(fZ l (r.map Qu++[E])).1=0
theorem tU(h:(gA s x.d x.f x.a).1≠0):jT s (x::r)=none:=by grind [jT,fO]
theorem wk(z:Q2 s.d x.d=true)(A:Qc s.d x.a (aD s.u) (aD s.f) (Qz s.f)=false):jT s (x::r)=jT (fS s x.d x.f) r:=by grind [pA,jT,fO]
theorem GV(x:gF):mN l (Qu x)=false:=by grind [mN,Qu,DA]
theorem xh(h:(Qk l (Qu x)).e≠0):¬kE E l (x::r):=by grind [kE,fZ,GV]
theorem zy{z:Lk}(h:Qk l (Qu x)=z)(h0:z.e=0):kE E l (x::r)↔kE E z r:=by grind [kE,fZ,GV]
def Left(s:fT):Prop:=s.u≠[]\/(s.d≠5/\s.d≠0/\1<=aD s.f/\(s.d≠1->2<=aD s.f))
theorem JB(l:List Am)(x:Tm):aD (pO l x)=aD l:=by grind [pO]
def Oi{k:Int}{t:ByteArray}(h:Left s)(hf:Q2 s.d k=true):Left (fS s k t):=by
 rcases h with h|⟨h5,h0,z,A⟩
 .left;unfold fS oQ mV sI
  repeat' split
  all_goals simp_all
 .by_cases C:k=1\/k=2
  .right;unfold fS oQ;rw[if_pos C];by_cases h3:s.d=3;{grind [JB]};{grind}
  .unfold fS;rw[if_neg C];by_cases E:k=3
   .rw[if_pos E];have hs:s.d=2:=by{grind [Q2]};have:=A (by lia);exact aU ⟨by simp,by simp,z,λ_=>this⟩
   .rw[if_neg E];by_cases G:k=4
    .rw[if_pos G];have hs:s.d=4:=by{grind [Q2]};have:=A (by lia);right;unfold sI;rw[if_neg (by lia)];exact⟨by simp,by simp,z,λ_=>this⟩
    .rw[if_neg G];by_cases M:k=5
     .rw[if_pos M];right;by_cases hs:s.d=4;{grind};{grind}
     .rw[if_neg M];by_cases k7:k=7;{rw[if_pos k7];exact aU ⟨by simp,by simp,z,λh=>absurd rfl h⟩}
      .rw[if_neg k7];by_cases O:k=6
       .rw[if_pos O];left;unfold mV
        cases ha:s.f with
        |nil=>rw[ha] at z;simp at z
        |cons a l=>simp
       .rw[if_neg O];exact aU ⟨h5,h0,z,A⟩
theorem En:∀(r:List gF) (s:fT),Left s->jT s r=aY
 |[],s,h=>by
  unfold jT fO;simp only;rw[if_neg];rintro⟨a,b⟩;obtain h|h:=h
  .exact h b
  .exact h.1 a
 |x::r,s,h=>by
  by_cases A:Q2 s.d x.d=true
  .by_cases z:Qc s.d x.a (aD s.u) (aD s.f) (Qz s.f)=true;{grind [tU,uZ]};{rw[Bool.not_eq_true] at z;rw[wk A z];exact En r _ (Oi h A)}
  .grind [tU,qU]
theorem C2(a:Am)(C:List ByteArray)(r:List gF):jT ⟨5,[],[a],C⟩ r=if r=[] then aX a else none:=by
 cases r with
 |nil=>unfold jT fO;simp
 |cons x r=>rw[if_neg (by simp)];by_cases E:Q2 5 x.d=true;{by_cases A:Qc 5 x.a 0 1 (Qz [a])=true;{grind [tU,uZ]};rw[Bool.not_eq_true] at A;rw[wk (s:=⟨5,[],[a],C⟩) E A];apply En;have z:x.d=7\/x.d=6:=by{grind [Q2]};obtain z|z:=z;{rw[z];right;unfold fS;simp};rw[z];left;unfold fS mV;simp};grind [tU,qU]
theorem E5(z:E.d=4){l:Lk}(A:l.a=6)(r:List gF):kE E l r↔r=[]:=by
 cases r with
 |nil=>simp only[iff_true];unfold kE fZ mN;simp[z,A]
 |cons x r=>grind [xh,Qk,gJ]
def uo(x:gF):Prop:=(x.d=1\/x.d=2)/\x.a<=8
def Ck(A:l.a=3)(z:l.e=0)(x:gF)(r:List gF):(uo x/\l.d+1<=2->(kE E l (x::r)↔kE E {l with d:=l.d+1,a:=4} r))/\(¬(uo x/\l.d+1<=2)->¬kE E l (x::r)):=by grind [zy,gZ,Qk,iU,iY,kP,Qu,xh,tS,AW,uo]
def zR(rel:ByteArray)(l:List Tm)(z:List ByteArray)(x:gF)(r:List gF):(uo x/\aD l+1<=2->jT ⟨3,[],[⟨rel,l⟩],z⟩ (x::r)=jT ⟨4,[],[⟨rel,l++[jH z x.d x.f]⟩],kG z x.d x.f⟩ r)/\(aD l<=2->¬(uo x/\aD l+1<=2)->jT ⟨3,[],[⟨rel,l⟩],z⟩ (x::r)=aY):=by grind [wk,Q2,Qc,Qz,fS,oQ,pO,tU,uZ,uo,qU]
def Dx(C:l.a=4)(z:l.c=true)(A:l.e=0)(x:gF)(r:List gF):(x.d=5->(kE E l (x::r)↔kE E {l with a:=3} r))/\(x.d=4->(kE E l (x::r)↔kE E {l with a:=6} r))/\(x.d≠5->x.d≠4->¬kE E l (x::r)):=by grind [zy,xh,Qk,gJ,Qu,gZ,uy,vS]
def EO(a:Am)(z:List ByteArray)(x:gF)(A:ro x)(r:List gF):(x.d=5->jT ⟨4,[],[a],z⟩ (x::r)=jT ⟨3,[],[a],z⟩ r)/\(x.d=4->jT ⟨4,[],[a],z⟩ (x::r)=jT ⟨5,[],[a],z⟩ r)/\(x.d≠5->x.d≠4->jT ⟨4,[],[a],z⟩ (x::r)=aY):=by grind [ro,wk,Q2,Qc,fS,sI,tU,qU]
def vP(z:E.d=4){l:Lk}(A:l.a=3\/l.a=4\/l.a=2):¬kE E l []:=by
 show ¬(fZ l [E]).1=0;unfold fZ mN;rw[if_neg (by simp;lia)];have:(Qk l E).e=2:=by grind [Qk,iU,iY,gJ]
 simp[this]
theorem uN(h:s.d≠5):jT s []=none:=by unfold jT fO;simp[h]
theorem NO(E:RT)(A:E.d=4)(ts:List gF)(hf:∀x∈ts,ro x):(kE E (gU true) ts->jT iG ts=uU (ts.map Qu++[E]))/\(¬kE E (gU true) ts->jT iG ts=aY):=by
 cases ts with
 |nil=>grind [kE,gU,fZ,mN,Qk,iU,iY,uN,iG]
 |cons z ts=>
  by_cases h1:z.d=1/\z.a<=8
  .have r1:kE E (gU true) (z::ts)↔kE E ⟨2,false,true,1,0,0,0⟩ ts:=zy (by unfold Qk iU iY kP Qu gZ gU;simp[h1.1];lia) rfl;have c1:jT iG (z::ts)=jT ⟨2,[],[⟨z.f,[]⟩],[]⟩ ts:=by{grind [wk,iG,Q2,Qc,fS,oQ]};rw[r1,c1];cases ts with
   |nil=>exact⟨λh=>absurd h (vP A (aU (aU rfl))),λ_=>uN (by simp)⟩
   |cons x2 ts=>
    have f2:=hf x2 (by simp);by_cases h2:x2.d=3
    .have r2:kE E ⟨2,false,true,1,0,0,0⟩ (x2::ts)↔kE E ⟨3,false,true,1,0,0,0⟩ ts:=zy (by unfold Qk gJ Qu gZ;simp[h2]) rfl;have c2:jT ⟨2,[],[⟨z.f,[]⟩],[]⟩ (x2::ts)=jT ⟨3,[],[⟨z.f,[]⟩],[]⟩ ts:=by{grind [wk,Q2,Qc,ro,fS]};rw[r2,c2];cases ts with
     |nil=>exact⟨λh=>absurd h (vP A (aS rfl)),λ_=>uN (by simp)⟩
     |cons x3 ts=>
      have G:=Ck (E:=E) (l:=⟨3,false,true,1,0,0,0⟩) rfl rfl x3 ts;have C:=zR z.f [] [] x3 ts;by_cases h3:uo x3
      .have⟨e1,e2⟩:=Bd [] x3 h3.1;rw[G.1 ⟨h3,by simp⟩,C.1 ⟨h3,by simp⟩];cases ts with
       |nil=>exact⟨λh=>absurd h (vP A (aU (aS rfl))),λ_=>uN (by simp)⟩
       |cons x4 ts=>
        have O:=Dx (E:=E) (l:=⟨4,false,true,1,0,0+1,0⟩) rfl rfl rfl x4 ts;have M:=EO ⟨z.f,[]++[jH [] x3.d x3.f]⟩ (kG [] x3.d x3.f) x4 (hf x4 (by simp)) ts;by_cases h4:x4.d=4;{grind [Qu,vS,E5,C2,uU,gG,ye]};by_cases h5:x4.d=5
        .rw[O.1 h5,M.1 h5];have e4:(Qu x4).d≠41:=λh=>h4 ((vS _).1 h);cases ts with
         |nil=>exact⟨λh=>absurd h (vP A (aS rfl)),λ_=>uN (by simp)⟩
         |cons x5 ts=>
          have G:=Ck (E:=E) (l:=⟨3,false,true,1,0,0+1,0⟩) rfl rfl x5 ts;have C:=zR z.f ([]++[jH [] x3.d x3.f]) (kG [] x3.d x3.f) x5 ts;by_cases h6:uo x5
          .have⟨e5,e6⟩:=Bd (kG [] x3.d x3.f) x5 h6.1;rw[G.1 ⟨h6,by simp⟩,C.1 ⟨h6,by simp⟩];cases ts with
           |nil=>exact⟨λh=>absurd h (vP A (aU (aS rfl))),λ_=>uN (by simp)⟩
           |cons x6 ts=>
            have O:=Dx (E:=E) (l:=⟨4,false,true,1,0,0+1+1,0⟩) rfl rfl rfl x6 ts;have M:=EO ⟨z.f,[]++[jH [] x3.d x3.f]++[jH (kG [] x3.d x3.f) x5.d x5.f]⟩ (kG (kG [] x3.d x3.f) x5.d x5.f) x6 (hf x6 (by simp)) ts;by_cases h7:x6.d=4;{have e7:(Qu x6).d=41:=(vS _).2 h7;rw[O.2.1 h7,M.2.1 h7,E5 A rfl,C2];refine⟨λh=>?_,λh=>by rw[if_neg h]⟩;rw[if_pos h];subst h;simp only[bH,bO,bD,bI];unfold uU gG;simp only[if_neg e4];unfold gG;simp only[if_pos e7,e1,e2,e5];rw[ye h1.1]};by_cases h8:x6.d=5
            .rw[O.1 h8,M.1 h8];cases ts with
             |nil=>exact⟨λh=>absurd h (vP A (aS rfl)),λ_=>uN (by simp)⟩
             |cons x7 ts=>have G:=Ck (E:=E) (l:=⟨3,false,true,1,0,0+1+1,0⟩) rfl rfl x7 ts;have C:=zR z.f ([]++[jH [] x3.d x3.f]++[jH (kG [] x3.d x3.f) x5.d x5.f]) (kG (kG [] x3.d x3.f) x5.d x5.f) x7 ts;exact⟨λh=>absurd h (G.2 (by simp)),λ_=>C.2 (by simp) (by simp)⟩
            grind
          grind
        grind
      grind
    grind [xh,Bq,Qk,gJ,Qu,tU,qU,Q2]
  grind [xh,tS,gZ,Qk,iU,iY,kP,Qu,gU,tU,iG,uZ,Q2,Qc,qU]
def yN(s:ByteArray):jW s=jN s:=by
 have C:aD (R s 0)<=300->s.size<=1200:=λh=>by grind [sr,rK]
 unfold jW jN;rw[<-rK];by_cases z:300<aD (R s 0)
 .grind
 rw[if_neg z,if_neg z];have A:=yQ s (C (by lia));have h:=NO ⟨4,⟨#[]⟩,aD (R s 0),0⟩ rfl (gD s.size s 0) (yU s.size s 0);rw[A];unfold kE at h;unfold jT at h;by_cases E:(fZ (gU true) ((gD s.size s 0).map Qu++[⟨4,⟨#[]⟩,aD (R s 0),0⟩])).1=0;{grind};{grind}
