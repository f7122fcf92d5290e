/- A part -/
import Derived.Test.YtjajnhemgphefaaGreatDoorQWyG
import Derived.Lib.ItoaNum
import Derived.Maps.AppendAt
set_option linter.all false
set_option maxRecDepth 100000
set_option maxHeartbeats 4000000
open List renaming length->aD,mem_map->bE,length_append->bG,length_cons->bH,mem_flatMap->bI,length_filter_le->bJ,mem_append->bL,flatMap_cons->bO,getElem_append_left->bT,getElem?_eq_getElem->bU,length_map->bX,mem_filter->bZ,mem_cons->cD,getElem?_take->cE,not_mem_nil->cG,length_nil->cH
open Go.World renaming cell?->aE,frozen?->aF,ownsRow->aH,size_alloc->cF
open Go.Value renaming ownBlock->aI,slice->aJ,string->aK,agg->aL,bool->aM,tuple->aN,int->aO
open Go.Obj renaming cells->aP
open Go.Ending renaming returned->aQ
open Go.IntKind renaming i64->aR
open Or renaming inl->aS,inr->aU
open Option renaming some->aX,none->aY
open Go renaming undef->aZ,Addr->cO,TypeId->cP
open Go.Calls renaming mono->bB
open Nat renaming le_trans->bC,lt_of_lt_of_le->bF,mul_le_mul->cA,zero_add->cJ
open Go.RowKit.Below renaming refl->bD,heap_alloc->bQ
open Go.RowKit renaming Below->cL
open Go.Lib renaming Utf8Tabs->cM
namespace Go.Proofs.YtjajnhemgphefaaGreatDoor
open Go renaming World->Wq,Value->Vq
open Go.RowKit Go.Shelf Go.Maps
variable {rs:List Rl} {r:Rl} {rels ns:List ByteArray}
theorem EJ{l:List Am}{x:List UInt8}{n:Nat}(h:gV l x=aX n):∃a∈l,a.j.data.toList=x/\aD a.d=n:=by
 unfold gV at h;cases hf:l.find? (λa=>a.j.data.toList == x) with
 |none=>rw[hf] at h;cases h
 |some a=>grind
theorem tV(h:nN rs)(x:ByteArray):fG rs x=1\/fG rs x=2\/fG rs x=0:=by
 unfold fG;cases ha:gV (rs.flatMap Qa) x.data.toList with
 |none=>exact aU (aU rfl)
 |some n=>have⟨a,h1,_,h3⟩:=EJ ha;rcases (h.c a h1).2 with e|e;{grind};grind
def uI(z:r∈rs):r.d∈rs.flatMap Qa:=bI.2 ⟨r,z,by simp[Qa]⟩
def Av(A:r∈rs){a:Am}(z:a∈r.n):a∈rs.flatMap Qa:=bI.2 ⟨r,A,by simp[Qa,z]⟩
def ww(h:nN rs):∀r∈rs,uS (fG rs) r/\r.d.d≠[]:=λr z=>
 ⟨⟨⟨(h.c _ (uI z)).1,h.f _ (uI z)⟩,λa A=>⟨(h.c _ (Av z A)).1,h.f _ (Av z A)⟩,h.j r z⟩,λe=>by
  have:=(h.c _ (uI z)).2
  rw[e] at this;simp at this⟩
def uu{n:Nat}(h:n<=1200):n<=maxLen:=bC h (by unfold maxLen;decide)
def Mi(h:nN rs):∀r∈rs,Cq r:=λr C=>
 have z:=h.d r C
 ⟨⟨λa A=>(z.h a A).d,λa A=>h.f _ (Av C A),λa A=>uu (z.h a A).j⟩,z.n,z.d.d,h.f _ (uI C),uu z.d.j,λt E=>uu (z.d.c t E).c⟩
def wS(h:nN rs):∀x∈jK rs,x.size<=1200:=by
 intro x E;obtain⟨a,C,rfl⟩:=bE.1 E;have⟨r,hr,z⟩:=bI.1 C;have A:=h.d r hr;simp only[Qa,cD] at z;obtain rfl|z:=z
 .exact A.d.j
 exact (A.h a z).j
theorem JW(h:nN rs):aD (rs.flatMap Qa)<=32:=by
 have A:∀l:List Rl,(∀r∈l,kF r)->aD (l.flatMap Qa)<=aD l*4:=by
  intro l;induction l with
  |nil=>intro _;simp
  |cons r l ih=>intro z;have:=(z r (by simp)).n;have:=ih (λq C=>z q (by simp[C]));rw[bO,bG,bH];simp only[Qa,bH];lia
 have:=A rs h.d;have:=h.o;lia
def Ox(h:nN rs){ns:List ByteArray}(C:aD ns<=8):aD (jG (jK rs) ns)<=2400:=by
 rw[ML];have z:aD (jK rs)<=32:=by grind [jK,JW]
 have A:aD ns*(aD ns+1)<=8*9:=cA C (by lia);have:=cA z A;lia
def FR(h:nN rs){ns:List ByteArray}(C:∀x∈ns,x.size<=1200){g:Gd}(A:g∈jG (jK rs) ns):g.j.size<=1200/\g.x.size<=1200/\g.y.size<=1200:=by
 have⟨h1,h2,z⟩:=qY.1 A;refine⟨wS h _ h1,C _ h2,?_⟩;obtain z|z:=z
 .rw[z];decide
 grind
def ym(rs:List Rl)(ns:List ByteArray)(F:List (Gd×Int)):Prop:=aD F<=1000/\∀x∈F,x.1∈jG (jK rs) ns/\gN (fG rs) x.1/\0<=x.2/\x.2<=2000000
theorem GF(h:nN rs){ns:List ByteArray}(du:∀r∈rs,∀t∈r.d.d,t.c≠eB->t.c∈ns):∀x∈Qx rs,x.1∈jG (jK rs) ns/\gN (fG rs) x.1:=by
 intro x z;unfold Qx at z;have⟨r,hr,z⟩:=List.mem_filterMap.1 z;split at z
 .rename_i E;cases z;have A:=ww h r hr;have G:=Ai (tV h) A.1 A.2 (p:=Ql) (by rw[E];simp);have C:∀t∈r.d.d,fH Ql t∈ns:=by{intro t O;by_cases M:t.c=eB;{have⟨a,ha,_⟩:=h.j r hr t O M;rw[E] at ha;simp at ha};{grind [sJ]}};refine⟨qY.2 ⟨bE.2 ⟨r.d,uI hr,rfl⟩,?_,?_⟩,G⟩
  .show iM Ql r.d.d∈ns;match ha:r.d.d,A.2 with
   |t::l,_=>exact C t (by rw[ha];simp)
  show iJ Ql r.d.d=eB\/iJ Ql r.d.d∈ns;match ha:r.d.d,A.2 with
  |[t],_=>exact aS rfl
  |t::u::l,_=>exact aU (C u (by rw[ha];simp))
 cases z
def GG(h:nN rs){ns:List ByteArray}(M:aD ns<=8)(O:∀x∈ns,x.size<=1200)(G:∀r∈rs,∀t∈r.d.d,t.c≠eB->t.c∈ns){F:List (Gd×Int)}(A:ym rs ns F):Fu (fG rs) rs F (jG (jK rs) ns):=by
 have C:∀x∈F++Qx rs,x.1∈jG (jK rs) ns/\gN (fG rs) x.1:=by intro x z;obtain z|z:=bL.1 z;{exact⟨(A.2 x z).1,(A.2 x z).2.1⟩};grind [GF]
 have E:=JM (rels:=jK rs) (NS:=ns) (λx z=>uu (wS h x z)) (λx z=>uu (O x z));exact⟨tV h,ww h,Mi h,h.o,λx z=>⟨(C x z).2,E _ (C x z).1⟩,λx z=>(C x z).1,λx z=>(A.2 x z).2.2,E9 (ww h) (λr hr=>bE.2 ⟨r.d,uI hr,rfl⟩) G,E,Ox h M,A.1⟩
def Cg(h:nN rs){ns:List ByteArray}(O:∀r∈rs,∀t∈r.d.d,t.c≠eB->t.c∈ns){F:List (Gd×Int)}(G:ym rs ns F){M:Gd->Option Int}(hM:kD rs (F++Qx rs) M):∀g,(M g).isSome=true->gN (fG rs) g/\g∈jG (jK rs) ns:=by
 intro g hg;have⟨t,ht⟩:=Option.isSome_iff_exists.1 hg;refine hM.c g t ht (t-1) (by lia) (λg=>gN (fG rs) g/\g∈jG (jK rs) ns) (λx A _=>?_) (λr z h0 p E=>?_)
 .obtain A|A:=bL.1 A;{exact⟨(G.2 x A).2.1,(G.2 x A).1⟩};grind [GF]
 exact⟨Ai (tV h) (ww h r z).1 (ww h r z).2 (λa C=>(E a C).1),E9 (ww h) (λr z=>bE.2 ⟨r.d,uI z,rfl⟩) O r z h0 p (λa C=>⟨(E a C).2,(E a C).1⟩)⟩
def GK{z:List ByteArray}(h:∀x∈ns,x∈z){g:Gd}(A:g∈jG rels ns):g∈jG rels z:=by have⟨h1,h2,h3⟩:=qY.1 A;exact qY.2 ⟨h1,h _ h2,h3.imp id (h _)⟩
def CX{M:Gd->Option Int}{a:Am}{gs:List Gd}(h:rj M a gs)(C:∀g,(M g).isSome=true->g∈jG rels ns)(A:aD ns<=8):aD gs<=72:=by
 obtain⟨ks,G,O,rfl⟩:=h;have h1:aD ks<=aD (ns.flatMap λx=>(eB::ns).map λy=>(x,y)):=by refine List.Nodup.length_le_of_subset G (λk E=>?_);have⟨_,_,z⟩:=(O k.1 k.2).1 E;have⟨_,m2,m3⟩:=qY.1 (C _ z);refine bI.2 ⟨k.1,m2,bE.2 ⟨k.2,?_,rfl⟩⟩;obtain e|e:=m3;{grind};grind
 have h2:aD (ns.flatMap λx=>(eB::ns).map λy=>(x,y))=aD ns*(aD ns+1):=by
  have:∀(l m:List ByteArray),aD (l.flatMap λx=>m.map λy=>(x,y))=aD l*aD m:=by
   intro l m;induction l with
   |nil=>simp
   |cons x l ih=>rw[bO,bG,ih,bX,bH,Nat.succ_mul];lia
  rw[this];rfl
 have z:aD ns*(aD ns+1)<=8*9:=cA A (by lia);have h4:aD ((ks.filterMap (λk=>gK Ql a k.1 k.2)).map (λp=>qb p a))<=aD ks:=by grind
 lia
end Go.Proofs.YtjajnhemgphefaaGreatDoor
namespace Go.Proofs.YtjajnhemgphefaaGreatDoor
open Go renaming World->Wq,Value->Vq
open Go.RowKit Go.Shelf
def nB(t:Tm):List UInt8:=if t.c.toList.isEmpty=true then 88::Lib.decDigits t.d else t.c.data.toList
def mC:Nat->List Tm->List UInt8
 |_,[]=>[]
 |i,t::l=>(if i=0 then [] else [44])++nB t++mC (i+1) l
def kH(a:Am):List UInt8:=a.j.data.toList++40::mC 0 a.d++[41]
def mG:Nat->List Am->List UInt8
 |_,[]=>[]
 |i,a::l=>(if i=0 then [32,58,45,32] else [44,32])++kH a++mG (i+1) l
def qW(r:Rl):List UInt8:=kH r.d++mG 0 r.n++[46,10]
def mK(rs:List Rl):List UInt8:=rs.flatMap qW
def Hu(v:Vq)(rs:List Rl)(ae ak aj:Nat)(w:Wq)(C:Qq w ae ak aj v rs)(M:∀g,aI v=aX g->g<w.heap.size)(h8:aD rs<=8)(O:∀r∈rs,kF r):Cs 61 #[v] w λe w'=>e=aQ (aN #[aO aR (nM rs).1,aO aR (nM rs).2])/\cL w.heap.size w w':=by
 have h1:=Jy v rs ae ak aj w C M h8 O;have h2:∀W,cL w.heap.size w W->Cs 101 #[v,.func (.func 102) #[] #[]] W λe w'=>e=aQ (aO aR (sW rs))/\cL w.heap.size w w':=λW z=>(IK v rs ae ak aj W (C.a (qf.d z)) (λg hg=>bF (M g hg) z.s) h8 O).m (λe w' h=>⟨h.1,z.t (h.2.m z.s)⟩);have h3:∀W,cL w.heap.size w W->Cs 103 #[v] W λe w'=>e=aQ (aO aR (mS [] 0 rs))/\cL w.heap.size w w':=λW z=>(La v rs ae ak aj W (C.a (qf.d z)) (λg hg=>bF (M g hg) z.s) h8 O).m (λe w' h=>⟨h.1,z.t (h.2.m z.s)⟩);obtain⟨a,c,rfl⟩:=C.c;have ch:Hid (nM rs=if 0<=mO [] 0 rs then (4,mO [] 0 rs) else if 0<=sW rs then (5,sW rs) else if 0<=mS [] 0 rs then (3,mS [] 0 rs) else (0,0)):=rfl;have G:=aA h1;have H2:=aA h2;have H3:=aA h3;clear h1 h2 h3 C M O;generalize mO [] 0 rs=ar at *;generalize sW rs=fu at *;generalize mS [] 0 rs=mn at *;generalize nM rs=cs at *;by_cases E:0<=ar
 .have A:Hid (cs=(4,ar)):=by{show _=_;rw[ch.o,if_pos E]};go_enter Tryz.func61,Tryz.ntmps61;go_wp2_with fail;refine bB G.o ?_;rintro e w1 ⟨rfl,ab⟩;go_wp2;go_ret2;rw[A.o];exact⟨rfl,ab⟩
 have it:=E;by_cases hu:0<=fu
 .have A:Hid (cs=(5,fu)):=by{show _=_;rw[ch.o,if_neg E,if_pos hu]};go_enter Tryz.func61,Tryz.ntmps61;go_wp2_with fail;refine bB G.o ?_;rintro e w1 ⟨rfl,ab⟩;go_wp2_with fail;refine bB (H2.o w1 ab) ?_;rintro e w2 ⟨rfl,ai⟩;go_wp2;go_ret2;rw[A.o];exact⟨rfl,ai⟩
 by_cases hm:0<=mn
 .have A:Hid (cs=(3,mn)):=by{show _=_;rw[ch.o,if_neg E,if_neg hu,if_pos hm]};go_enter Tryz.func61,Tryz.ntmps61;go_wp2_with fail;refine bB G.o ?_;rintro e w1 ⟨rfl,ab⟩;go_wp2_with fail;refine bB (H2.o w1 ab) ?_;rintro e w2 ⟨rfl,ai⟩;go_wp2_with fail;refine bB (H3.o w2 ai) ?_;rintro e w3 ⟨rfl,ac⟩;go_wp2;go_ret2;rw[A.o];exact⟨rfl,ac⟩
 have A:Hid (cs=(0,0)):=by{show _=_;rw[ch.o,if_neg E,if_neg hu,if_neg hm]};go_enter Tryz.func61,Tryz.ntmps61;go_wp2_with fail;refine bB G.o ?_;rintro e w1 ⟨rfl,ab⟩;go_wp2_with fail;refine bB (H2.o w1 ab) ?_;rintro e w2 ⟨rfl,ai⟩;go_wp2_with fail;refine bB (H3.o w2 ai) ?_;rintro e w3 ⟨rfl,ac⟩;go_wp2;go_ret2;rw[A.o];exact⟨rfl,ac⟩
def iB(s:ByteArray):List UInt8×Int×Int:=
 if 300<Lib.runeCount s then ([],1,0)
 else match nE s with
  |.error (c,p)=>([],c,p)
  |.ok rs=>if (nM rs).1=0 then (mK rs,0,0) else ([],(nM rs).1,(nM rs).2)
theorem LG(s:ByteArray)(c:Int)(p:Nat)(h:nE s=.error (c,p)):c≠0:=by grind [nE,zF]
def IF(s:ByteArray)(w:Wq)(e:Ending)(w':Wq):Prop:=
 cL w.heap.size w w'/\((∃c p:Int,e=aQ (aN #[aJ aY 0 0,aO aR c,aO aR p])/\c≠0/\iB s=([],c,p))\/
  (∃rs v ak aj,e=aQ (aN #[v,aO aR 0,aO aR 0])/\Qq w' w.heap.size ak aj v rs/\aD rs<=8/\(∀r∈rs,kF r)/\iB s=(if (nM rs).1=0 then (mK rs,0,0) else ([],(nM rs).1,(nM rs).2))/\nE s=.ok rs))
def Km(s:ByteArray)(w:Wq)(hs:s.size<=4611686018427387904)(C:cM 0 1 w):Cs 60 #[aK s] w (IF s w):=by
 by_cases A:300<Lib.runeCount s
 .refine (Nj s w hs A).m ?_;rintro e w' ⟨rfl,z⟩;exact⟨z,aS ⟨1,0,rfl,by lia,by unfold iB;rw[if_pos A]⟩⟩
 refine (N9 s w (by lia) C).m ?_;rintro e w' ⟨z,h⟩;refine⟨z,?_⟩;cases hp:nE s with
 |error cp=>grind [LG,iB]
 |ok rs=>grind [iB]
def xx{W:Wq}{ae ak aj:Nat}{v:Vq}{rs:List Rl}(h:Qq W ae ak aj v rs):∀g,aI v=aX g->g<W.heap.size:=by intro g z;have⟨qs,r1,r2,r3⟩:=h;have⟨_,c,hc⟩:=qe r2 z;exact (zg hc).1
def Nu(s:ByteArray)(w:Wq)(e:Ending)(w':Wq):Prop:=
 cL w.heap.size w w'/\((∃c p:Int,e=aQ (aN #[aJ aY 0 0,aO aR c,aO aR p])/\c≠0/\iB s=([],c,p))\/
  (∃rs v ak aj,e=aQ (aN #[v,aO aR 0,aO aR 0])/\Qq w' w.heap.size ak aj v rs/\aD rs<=8/\(∀r∈rs,kF r)/\iB s=(mK rs,0,0)/\nE s=.ok rs/\(nM rs).1=0))
def CB(s:ByteArray)(w:Wq)(hs:s.size<=4611686018427387904)(hT:cM 0 1 w):Cs 30 #[aK s] w (Nu s w):=by
 have h1:=Km s w hs hT;have H1:=aA h1;clear h1;go_enter Tryz.func30,Tryz.ntmps30;go_wp2_with fail;refine bB H1.o ?_;rintro e w1 ⟨ab,⟨c,p,rfl,M,A⟩|⟨rs,v,ak,aj,rfl,z,h8,G,A,fr⟩⟩
 .have ip:(c == 0)=false:=by{simp[M]};have C:=aA A;have gj:=aA M;clear A M;go_wp2;go_ret3;exact⟨ab,aS ⟨c,p,rfl,gj.o,C.o⟩⟩
 obtain⟨va,vc,rfl⟩:=z.c;have al:=Hu _ rs _ ak aj w1 z (xx z) h8 G;have da:=aA al;have C:=aA A;have ic:=aA z;have cy:=aA G;have fz:=aA fr;clear al A z G fr;generalize ch:nM rs=cs at *;have⟨ce,cn⟩:=cs;have gp:=aA ch;clear ch;go_wp2_with fail;refine bB da.o ?_;rintro e w2 ⟨rfl,ai⟩;simp only;by_cases E:ce=0
 .subst E;go_wp2;go_ret3;refine⟨ab.t (ai.m ab.s),aU ⟨rs,_,ak,aj,rfl,Qq.a ic.o (qf.d ai),h8,cy.o,?_,fz.o,by rw[gp.o]⟩⟩;exact C.o
 have Qpu:(ce == 0)=false:=by{simp[E]};have O:=aA E;clear E;go_wp2;go_ret3;refine⟨ab.t (ai.m ab.s),aS ⟨ce,cn,rfl,O.o,?_⟩⟩;have:=C.o;rwa[if_neg O.o] at this
end Go.Proofs.YtjajnhemgphefaaGreatDoor
namespace Go.Proofs.YtjajnhemgphefaaGreatDoor
open Go renaming World->Wq,Value->Vq
open Go.RowKit Go.Shelf Go.Maps
variable {W W' w' w1 w2:Wq} {S:Nat->Prop} {be bm rb ak aj k j:Nat} {e e':Eg} {vr vn vk vf vn' v':Vq} {aa:List Nat} {Sf:Nat->Nat->Prop} {a:Am} {rs:List Rl}
def gR(rs:List Rl)(a:Am):Int:=if fG rs a.j=0 then 7 else if fG rs a.j=aD a.d then 0 else 4
def iQ.lt(h:iQ W S be e vr vn vk vf bm rb ak aj aa Sf):be<W.heap.size:=(zg h.d).1
def AX(S:Nat->Prop)(be:Nat)(e:Eg)(w:Wq)(h:jD w S be e)(hr:nN e.z)(a:Am)(va:Vq)(C:Option cO)(E:Nat)(b0:va=aJ C (aD a.d) E)(hl:aD a.d<=2):Cs 42 #[Pt be,aL #[aK a.j,va]] w λen w'=>en=aQ (aO aR (gR e.z a))/\cL w.heap.size w w':=by
 have⟨vr,vn,vk,vf,bm,rb,ak,aj,aa,Sf,hv⟩:=h;subst b0;have z:=λO=>(bD _ w).l zl O;have G:Hid (∀W,cL w.heap.size w W->Cs 53 #[vr,aK a.j] W λe' w'=>e'=aQ (aO aR (fG e.z a.j))/\cL W.heap.size W w'):=λW A=>by have bf:=hv.f A;exact Gi vr e.z a.j rb ak aj _ bf.u (xx bf.u) hr.o hr.d
 have⟨ra,rc,dj⟩:=hv.u.c;subst dj;have ah:=hv.d;have c0:∀O,aE (w.alloc O) (Ad be 0)=aX (aJ ra (aD e.z) rc):=λO=>cell_later (z O) (by simp[aE,ah]);have al:Hid (gR e.z a=if fG e.z a.j=0 then 7 else if fG e.z a.j=aD a.d then 0 else 4):=rfl;have M:Hid (∀W1,cL (w.alloc (aP #[aK a.j,aJ C (aD a.d) E] 92)).drew.heap.size (w.alloc (aP #[aK a.j,aJ C (aD a.d) E] 92)).drew W1->aE W1 (Ad w.heap.size 1)=aX (aJ C (aD a.d) E)/\cL w.heap.size w W1):=λW1 A=>by have:=(A.b w.heap.size (by show _<(w.alloc _).heap.size;simp)).t (zn w _);exact⟨zc this,((z _).drew).t (A.m (by show _<=(w.alloc _).heap.size;simp))⟩
 clear hv ah;generalize hn:fG e.z a.j=n at *;clear hn;by_cases h0:n=0
 .subst h0;rw[if_pos rfl] at al;rw[al.o];go_enter Tryz.func42,Tryz.ntmps42;go_wp2_with fail;go_region_with (go_at_call 53;refine (G.o _ ((z _).drew)).m ?_;rintro e' W1 ⟨rfl,ab⟩;have⟨d1,dd⟩:=M.o W1 ab);all_goals go_wp2
  all_goals go_ret
  all_goals exact⟨rfl,dd⟩
 rw[if_neg h0] at al;have fs:((n:Int) == 0)=false:=by{simp[h0]};have Qjv:¬(n:Int)=0:=by{omega};by_cases h1:n=aD a.d
 .rw[if_pos h1] at al;rw[al.o];subst h1;clear al;go_enter Tryz.func42,Tryz.ntmps42;go_wp2_with fail;go_region_with (go_at_call 53;refine (G.o _ ((z _).drew)).m ?_;rintro e' W1 ⟨rfl,ab⟩;have⟨d1,dd⟩:=M.o W1 ab);all_goals go_wp2
  all_goals go_ret
  all_goals exact⟨rfl,dd⟩
 rw[if_neg h1] at al;rw[al.o];have iz:((n:Int) == (aD a.d:Int))=false:=by{simp;omega};clear al;go_enter Tryz.func42,Tryz.ntmps42;go_wp2_with fail;go_region_with (go_at_call 53;refine (G.o _ ((z _).drew)).m ?_;rintro e' W1 ⟨rfl,ab⟩;have⟨d1,dd⟩:=M.o W1 ab);all_goals go_wp2
 all_goals go_ret
 all_goals exact⟨rfl,dd⟩
def pW(e:Eg)(s:ByteArray):Int×Int:=match jN s with
 |none=>(0,2)
 |some a=>if kB a=false then (0,2) else if gR e.z a=0 then ((e.M (qb Ql a)).getD 0,0) else (0,gR e.z a)
def M6(h:lO a):lZ (qb Ql a):=CW (λk=>EB k) (uu h.j) (λt z=>uu (h.c t z).c)
theorem KP(S:Nat->Prop)(be:Nat)(e:Eg)(s:ByteArray)(w:Wq)(h:jD w S be e)(ag:fP e)(hs:s.size<=4611686018427387904)(hT:cM 0 1 w)(hn:∀a,jN s=aX a->∀t∈a.d,t.d<6):Cs 24 #[Pt be,aK s] w λen w'=>en=aQ (aN #[aO aR (pW e s).1,aO aR (pW e s).2])/\cL w.heap.size w w':=by
 have G:=FC s w hs hT;unfold wM at G;cases ha:jN s with
 |none=>rw[ha] at G;have A:Hid (pW e s=(0,2)):=by{show _=_;unfold pW;rw[ha]};have O:=aA G;clear G ha h ag;rw[A.o];go_enter Tryz.func24,Tryz.ntmps24;go_wp2_with (go_at_call 40;refine bB O.o ?_;rintro e' W1 ⟨ab,rfl⟩);go_ret2;exact⟨rfl,ab.l ab.s _⟩
 |some a=>
  rw[ha] at G;have bv:=hn a ha;have A:Hid (pW e s=if kB a=false then (0,2) else if gR e.z a=0 then ((e.M (qb Ql a)).getD 0,0) else (0,gR e.z a)):=by{show _=_;unfold pW;rw[ha]};obtain⟨gb,cq⟩:=aC (kB a);have O:Hid (Cs 40 #[aK s] w λe' w'=>cL w.heap.size w w'/\∃va,e'=aQ (aN #[aL #[aK a.j,va],aM gb])/\lO a/\Qg w' w'.heap.size va a.d):=by{show Calls _ _ _ _ _;rwa[<-cq]};rw[cq] at A;have dc:Hid (∀W,cL w.heap.size w W->jD W S be e):=λW z=>h.f z;have⟨vr,vn,vk,vf,bm,rb,ak,aj,aa,Sf,hv⟩:=h;have ah:Hid (∀W,cL w.heap.size w W->W.heap[be]?=cC #[vr,aO aR e.j,aO aR e.u,aO aR e.w,aO aR e.h,vn,vk,.map (aX bm),vf] 101/\gH W bm 5000 e.M):=λW z=>⟨(hv.f z).d,(hv.f z).C⟩;have dw:=aA ag.z;clear G ha hv ag hT hn;clear cq;cases gb with
  |false=>rw[if_pos rfl] at A;rw[A.o];clear A;go_enter Tryz.func24,Tryz.ntmps24;go_wp2_with (go_at_call 40;refine bB O.o ?_;rintro e' W1 ⟨ab,va,rfl,E,C⟩;have⟨xa,xc,bn⟩:=C.c;subst bn;have gg:=aA E;have hh:=aA C;clear E C);go_ret2;exact⟨rfl,ab.l ab.s _⟩
  |true=>rw[if_neg (by decide)] at A;go_enter Tryz.func24,Tryz.ntmps24;go_wp2_with fail;refine bB O.o ?_;rintro e' W1 ⟨ab,va,rfl,E,C⟩;have⟨xa,xc,bn⟩:=C.c;subst bn;have bi:Hid (∀W,cL w.heap.size w W->Cs 42 #[Pt be,aL #[aK a.j,aJ xa (aD a.d) xc]] W λen w'=>en=aQ (aO aR (gR e.z a))/\cL W.heap.size W w'):=λW z=>AX S be e W (dc.o W z) dw.o a _ _ _ rfl E.d;have cc:=aA λW z=>B6 a _ W1.heap.size W (C.a (qf.d z)) E.d bv;have dn:=aA λW z=>Kk bm 5000 e.M (qb Ql a) (M6 E) W (ah.o W z).2;have fo:=ab.s;have bc:Hid (cL w.heap.size w (W1.alloc (aP #[aK a.j,aJ xa (aD a.d) xc] 92))/\cL W1.heap.size W1 (W1.alloc (aP #[aK a.j,aJ xa (aD a.d) xc] 92))):=⟨ab.l ab.s _,(bD _ W1).l zl _⟩;have Qy:Hid (∀W2,cL (W1.alloc (aP #[aK a.j,aJ xa (aD a.d) xc] 92)).heap.size (W1.alloc (aP #[aK a.j,aJ xa (aD a.d) xc] 92)) W2->W2.heap[W1.heap.size]?=cC #[aK a.j,aJ xa (aD a.d) xc] 92/\cL w.heap.size w W2/\cL W1.heap.size W1 W2):=λW2 z=>⟨(z.b _ (by simp)).t (zn W1 _),bc.o.1.t (z.m (by simp;omega)),bc.o.2.t (z.m (by simp))⟩;clear E C dc;by_cases al:gR e.z a=0;{rw[if_pos al] at A;rw[al] at bi;clear al;go_wp2_with fail;refine (bi.o _ bc.o.1).m ?_;rintro e' W2 ⟨rfl,ai⟩;have⟨p1,ac,aq⟩:=Qy.o W2 ai;have t0:=cZz p1;have q1:=(ah.o W2 ac).1;have t7:aE W2 (Ad be 7)=aX (.map (aX bm)):=zc q1;have a9:Hid (cL W1.heap.size W1 W2.drew/\cL w.heap.size w W2.drew):=⟨aq.drew,ac.drew⟩;have gv:Hid (∀W3,cL W2.drew.heap.size W2.drew W3->cL w.heap.size w W3/\aE W3 (Ad be 7)=aX (.map (aX bm))):=λW3 z=>by{have hx:=ac.drew.t (z.m (by show _<=W2.heap.size;exact ac.s));have:=(ah.o W3 hx).1;exact⟨hx,zc this⟩};clear p1 q1 ai;go_wp2_with fail;(first|(go_region_with (first|(go_at_call 48;refine (cc.o _ a9.o.1).m ?_;rintro e' W3 ⟨rfl,a7⟩;have⟨cb,s7⟩:=gv.o W3 a7)|(go_at_call 47;refine (dn.o W3 cb).m ?_;rintro e' W4 ⟨rfl,d9⟩)))|fail);(all_goals go_wp2);(all_goals go_ret2);all_goals exact⟨by rw[A.o];rfl,cb.t (d9.m cb.s)⟩};rw[if_neg al] at A;have Qku:(gR e.z a == 0)=false:=by{simp[al]};generalize gR e.z a=ck at *;go_wp2_with (go_at_call 42;refine (bi.o _ bc.o.1).m ?_;rintro e' W2 ⟨rfl,ai⟩;have⟨p1,ac,aq⟩:=Qy.o W2 ai);go_ret2;exact⟨by rw[A.o];rfl,ac⟩
def oO(gs:List Gd):List (List UInt8):=iL (gs.map (λg=>(fU g).data.toList))
def yG(e:Eg)(s:ByteArray)(w:Wq)(en:Ending)(w':Wq):Prop:=
 cL w.heap.size w w'/\match jN s with
  |none=>en=aQ (aN #[aJ aY 0 0,aO aR 2])
  |some a=>(gR e.z a≠0/\en=aQ (aN #[aJ aY 0 0,aO aR (gR e.z a)]))\/
   (gR e.z a=0/\∃v gs,rj e.M a gs/\en=aQ (aN #[v,aO aR 0])/\aH w' w.heap.size 9 1 v (aD (oO gs)) ((oO gs).map kR))
def Iy(gs:List Gd):aD (oO gs)=aD gs:=((List.mergeSort_perm _ _).length_eq).t (by simp)
def xH(h:fP e)(rel x y:ByteArray)(z:(e.M ⟨rel,x,y⟩).isSome=true):x.size<=2000/\y.size<=2000:=by have:=FR h.z h.n (h.C _ z).2;exact⟨bC this.2.1 (by lia),bC this.2.2 (by lia)⟩
def KL(bm C aj:Nat)(M:Gd->Option Int)(a:Am)(z:Vq)(ta:Option cO)(tn tc:Nat)(b0:z=aJ ta tn tc)(w:Wq)(hM:gH w bm C M)(ie:C<=1000000)(hS:Qg w aj z a.d)(A:tp a)(ii:∀x y,(M ⟨a.j,x,y⟩).isSome=true->x.size<=2000/\y.size<=2000):Cs 51 #[.map (aX bm),aL #[aK a.j,z]] w λen w'=>∃Bm O,en=aQ (.func (.func 93) #[] #[Pt Bm,Pt O])/\cL w.heap.size w w'/\
   ∀W,cL w'.heap.size w' W->Cs 50 #[.func (.func 93) #[] #[Pt Bm,Pt O]] W λe2 W'=>∃v gs,rj M a gs/\e2=aQ v/\aH W' W.heap.size 9 1 v (aD (oO gs)) ((oO gs).map kR)/\cL W.heap.size W W':=by
 refine (BK bm a z w ta tn tc b0).m ?_;rintro en w' ⟨rfl,rfl⟩;have G:cL w.heap.size w ((w.alloc (aP #[.map (aX bm)] 98)).alloc (aP #[aK a.j,z] 92)):=((bD _ w).l zl _).l (by simp) _;refine⟨_,_,rfl,G,λW E=>?_⟩;have co:=G.t (E.m G.s);have x1:W.heap[w.heap.size]?=cC #[.map (aX bm)] 98:=(E.b _ (by simp;lia)).t ((bQ _ _ _ (by simp)).t (zn w _));have x2:W.heap[w.heap.size+1]?=cC #[aK a.j,z] 92:=by refine (E.b _ (by simp)).t ?_;have:=zn (w.alloc (aP #[.map (aX bm)] 98)) (aP #[aK a.j,z] 92);rwa[cF] at this
 refine (DR (N:=C) W ie (enters_of Tryz.func93 (by kernel_rfl) rfl) (λm n=>zY n w.heap.size (w.heap.size+1) bm C aj M a _ W x1 x2 (hM.mk (qr.d (m:=m) co)) (hS.mk (qr.d (m:=m) co)) A.d A.f A.j A.c ii m)).m ?_;rintro e2 W' ⟨v,gs,rfl,⟨ks,k1,k2,k3,k4⟩,ho,ec,hl⟩;have f8:(gs.map (·.1)).map (λg=>(fU g).data.toList)=gs.map (λg=>(fU g.1).data.toList):=by rw[List.map_map];rfl
 refine⟨v,gs.map (·.1),⟨ks,k1,k2,k4⟩,rfl,?_,ec⟩;rw[Iy];unfold oO;rwa[f8,bX]
theorem OJ(S:Nat->Prop)(be:Nat)(e:Eg)(s:ByteArray)(w:Wq)(h:jD w S be e)(ag:fP e)(hs:s.size<=4611686018427387904)(hT:cM 0 1 w)(hn:∀a,jN s=aX a->∀t∈a.d,t.d<6):Cs 25 #[Pt be,aK s] w (yG e s w):=by
 have A:=DP s w hs hT;unfold uQ at A;cases ha:jN s with
 |none=>rw[ha] at A;have G:=aA ha;have HR:=aA A;clear A ha h ag hn;go_enter Tryz.func25,Tryz.ntmps25;go_wp2_with (go_at_call 49;refine bB HR.o ?_;rintro e' W1 ⟨ab,rfl⟩);go_ret2;exact⟨ab.l ab.s _,by rw[G.o];rfl⟩
 |some a=>rw[ha] at A;have bv:=hn a ha;have G:=aA ha;have HR:=aA A;have dc:Hid (∀W,cL w.heap.size w W->jD W S be e):=λW z=>h.f z;have⟨vr,vn,vk,vf,bm,rb,ak,aj,aa,Sf,hv⟩:=h;have ah:Hid (∀W,cL w.heap.size w W->W.heap[be]?=cC #[vr,aO aR e.j,aO aR e.u,aO aR e.w,aO aR e.h,vn,vk,.map (aX bm),vf] 101/\gH W bm 5000 e.M):=λW z=>⟨(hv.f z).d,(hv.f z).C⟩;have dw:=aA ag;clear A ha hv ag hT hn;go_enter Tryz.func25,Tryz.ntmps25;go_wp2_with fail;refine bB HR.o ?_;rintro e' W1 ⟨ab,va,rfl,C,an⟩;have⟨xa,xc,bn⟩:=an.c;subst bn;have bi:Hid (∀W,cL w.heap.size w W->Cs 42 #[Pt be,aL #[aK a.j,aJ xa (aD a.d) xc]] W λen w'=>en=aQ (aO aR (gR e.z a))/\cL W.heap.size W w'):=λW z=>AX S be e W (dc.o W z) dw.o.z a _ _ _ rfl C.d;have gt:Hid (∀W,cL W1.heap.size W1 W->cL w.heap.size w W->Cs 51 #[.map (aX bm),aL #[aK a.j,aJ xa (aD a.d) xc]] W λen w'=>∃Bm Ba,en=aQ (.func (.func 93) #[] #[Pt Bm,Pt Ba])/\cL W.heap.size W w'/\Hid (∀V,cL w'.heap.size w' V->Cs 50 #[.func (.func 93) #[] #[Pt Bm,Pt Ba]] V λe2 V'=>∃v gs,rj e.M a gs/\e2=aQ v/\aH V' V.heap.size 9 1 v (aD (oO gs)) ((oO gs).map kR)/\cL V.heap.size V V')):=λW z eu=>KL bm 5000 W1.heap.size e.M a _ _ _ _ rfl W (ah.o W eu).2 (by decide) (an.a (qf.d z)) ⟨C.d,bv,bC C.j (by decide),λt ht=>bC (C.c t ht).c (by decide)⟩ (λx y E=>xH dw.o a.j x y E);have fo:w.heap.size<=W1.heap.size:=ab.s;have O:Hid (cL w.heap.size w (W1.alloc (aP #[aK a.j,aJ xa (aD a.d) xc] 92))/\cL W1.heap.size W1 (W1.alloc (aP #[aK a.j,aJ xa (aD a.d) xc] 92))):=⟨ab.l ab.s _,(bD _ W1).l zl _⟩;have Qy:Hid (∀W2,cL (W1.alloc (aP #[aK a.j,aJ xa (aD a.d) xc] 92)).heap.size (W1.alloc (aP #[aK a.j,aJ xa (aD a.d) xc] 92)) W2->W2.heap[W1.heap.size]?=cC #[aK a.j,aJ xa (aD a.d) xc] 92/\cL w.heap.size w W2/\cL W1.heap.size W1 W2):=λW2 z=>⟨(z.b _ (by simp)).t (zn W1 _),O.o.1.t (z.m (by simp;omega)),O.o.2.t (z.m (by simp))⟩;clear C an dc;by_cases al:gR e.z a=0;{have da:=aA al;rw[al] at bi;clear al;go_wp2_with fail;refine (bi.o _ O.o.1).m ?_;rintro e' W2 ⟨rfl,ai⟩;have⟨p1,ac,aq⟩:=Qy.o W2 ai;have t0:aE W2 (Ad W1.heap.size 0)=aX (aK a.j):=zc p1;have t1:aE W2 (Ad W1.heap.size 1)=aX (aJ xa (aD a.d) xc):=zc p1;have q1:=(ah.o W2 ac).1;have t7:aE W2 (Ad be 7)=aX (.map (aX bm)):=zc q1;clear p1 q1 ai;have a9:Hid (cL W1.heap.size W1 W2.drew/\cL w.heap.size w W2.drew):=⟨aq.drew,ac.drew⟩;have Qd:Hid (∀W3 W4 v gs,cL W2.drew.heap.size W2.drew W3->cL W3.heap.size W3 W4->rj e.M a gs->aH W4 W3.heap.size 9 1 v (aD (oO gs)) ((oO gs).map kR)->∀en,en=aQ (aN #[v,aO aR 0])->yG e s w en W4):=λW3 W4 v gs h1 h2 h3 h4 en dn=>by{have E:cL w.heap.size w W3:=ac.drew.t (h1.m (by show _<=W2.heap.size;exact ac.s));exact⟨E.t (h2.m E.s),by rw[G.o];exact aU ⟨da.o,v,gs,h3,dn,rD h4 E.s⟩⟩};go_wp2_with fail;(first|(go_region_with (first|(go_at_call 51;refine (gt.o _ a9.o.1 a9.o.2).m ?_;rintro e' W3 ⟨Bm,Ba,rfl,a7,f1⟩)|(go_at_call 50;refine (f1.o W3 zr).m ?_;rintro e' W4 ⟨tv,gs,gi,rfl,ft,cb⟩;have⟨oa,oc,cc⟩:=qq ft;subst cc)))|fail);(all_goals go_wp2);(all_goals go_ret2);all_goals exact Qd.o W3 W4 _ gs a7 cb gi ft _ rfl};have da:=aA al;have Qku:(gR e.z a == 0)=false:=by{simp[al]};have hu:Hid (∀(v:Vq) en w',cL w.heap.size w w'->en=aQ (aN #[aJ aY 0 0,aO aR (gR e.z a)])->yG e s w en w'):=λv en w' z dn=>⟨z,G.o▸aS ⟨da.o,dn⟩⟩;generalize gR e.z a=ck at *;go_wp2_with (go_at_call 42;refine (bi.o _ O.o.1).m ?_;rintro e' W2 ⟨rfl,ai⟩;have⟨p1,ac,aq⟩:=Qy.o W2 ai);go_ret2;exact hu.o aZ _ _ ac rfl
def iQ.H{vk':Vq}{bm':Nat}(h:iQ W S be e vr vn vk vf bm rb ak aj aa Sf)(O:fC W W' (λk=>k=be\/aI vk=aX k))(hy:e'.z=e.z)(ei:e'.l=e.l)(blk:W'.heap[be]?=cC #[vr,aO aR e'.j,aO aR e'.u,aO aR e'.w,aO aR e'.h,vn',vk',.map (aX bm'),vf] 101)(names:aH W' 0 9 1 vn' (aD e'.c) (e'.c.map aK))(kept:aH W' 0 161 4 vk' (aD e'.o) (e'.o.flatMap qy))(md:gH W' bm' 5000 e'.M):iQ W' (λk=>(S k/\aI vk≠aX k)\/aI vk'=aX k\/aI vn'=aX k) be e' vr vn' vk' vf bm' rb ak aj aa Sf:=by
 have bu:∀(j:Nat)(c:Array Vq)(t:cP),W.heap[j]?=cC c t->t≠101->t≠161->¬(j=be\/aI vk=aX j):=by rintro j c t z E G (rfl|hs);{rw[h.d] at z;cases z;exact E rfl};{have⟨_,c',af⟩:=qe h.o hs;rw[z] at af;cases af;exact G rfl}
 have ca:∀(j:Nat) (c:Array Vq) (t:cP),W.heap[j]?=cC c t->t≠101->t≠161->W'.heap[j]?=cC c t:=λj c t z E G=>(O.h j (zg z).1 (bu j c t z E G)).t z;have hF:∀j,pE W j->¬(j=be\/aI vk=aX j):=by rintro j ⟨c,t,E,G⟩;exact bu j c t E (by grind) (by grind)
 have hv:∀g,aI vf=aX g->¬(g=be\/aI vk=aX g):=by intro g C;have⟨_,c,af⟩:=qe h.n C;exact bu g c _ af (by lia) (by lia)
 have b5:aI vk≠aX be:=λhs=>by have⟨_,c,af⟩:=qe h.o hs;rw[h.d] at af;cases af
 refine⟨blk,?_,names,kept,md,ei▸h.l,qm h.n (λg C cf=>O.h g cf (hv g C)),λi hi c3=>?_,h.r,λi k A=>⟨aS ⟨(h.m i k A).1,λe=>hF k (h.m i k A).2 (aU e)⟩,(h.m i k A).2.u (O.h k (h.m i k A).2.lt (hF k (h.m i k A).2))⟩,⟨aS ⟨h.z.1,b5⟩,λg C=>aU (aS C),λg C=>aS ⟨h.z.2.2.1 g C,λe=>hv g C (aU e)⟩,λg C=>aU (aU C)⟩,λk A=>?_⟩
 .rw[hy];exact h.u.E (λj c t ht z=>ca j c t z (by grind) (by grind))
 .have⟨b,hf⟩:=h.y i hi (by grind);refine⟨b,?_⟩;have he:e'.l[i]'c3=e.l[i]'(by grind):=by{grind};rw[he];exact hf.E (ex:=λk=>k=be\/aI vk=aX k) O.h (λk hs=>hF k (h.m i k hs).2) (λk c z=>bu k c _ z (by lia) (by lia))
 obtain⟨E,G⟩|A|A:=A
 .by_cases dg:k=be;{subst dg;exact⟨_,_,blk,aS rfl⟩};{exact (h.w k E).u (O.h k (h.w k E).lt (λe=>e.elim dg G))}
 .have⟨_,c,af⟩:=qe kept A;exact⟨_,_,af,aU (aS rfl)⟩
 have⟨_,c,af⟩:=qe names A;exact⟨_,_,af,aU (aU (aU (aU (aU rfl))))⟩
def iQ.O{vf':Vq}(h:iQ W S be e vr vn vk vf bm rb ak aj aa Sf){B b:Nat}{f:Fs}{SB:Nat->Prop}(hc:fC W W' (λk=>k=be\/aI vf=aX k))(blk:W'.heap[be]?=cC #[vr,aO aR e.j,aO aR e.u,aO aR e.w,aO aR e.h,vn,vk,.map (aX bm),vf'] 101)(G:aH W' 0 120 1 vf' (aD aa+1) ((aa++[B]).map rB))(hf:gC W' SB B b f)(ew:∀k,SB k->W.heap.size<=k/\pE W' k):iQ W' (λk=>((S k/\aI vf≠aX k)\/aI vf'=aX k)\/SB k) be {e with l:=e.l++[f]} vr vn vk vf' bm rb ak aj (aa++[B]) (λi k=>if i=aD aa then SB k else Sf i k):=by
 have bu:∀(j:Nat)(c:Array Vq)(t:cP),W.heap[j]?=cC c t->t≠101->t≠120->¬(j=be\/aI vf=aX j):=by rintro j c t E z A (rfl|hs);{rw[h.d] at E;cases E;exact z rfl};{have⟨_,c',af⟩:=qe h.n hs;rw[E] at af;cases af;exact A rfl}
 have ca:∀(j:Nat) (c:Array Vq) (t:cP),W.heap[j]?=cC c t->t≠101->t≠120->W'.heap[j]?=cC c t:=λj c t E z A=>(hc.h j (zg E).1 (bu j c t E z A)).t E;have hF:∀j,pE W j->¬(j=be\/aI vf=aX j):=by rintro j ⟨c,t,z,A⟩;exact bu j c t z (by grind) (by grind)
 have hv:∀g,aI vk=aX g->¬(g=be\/aI vf=aX g):=by intro g C;have⟨_,c,af⟩:=qe h.o C;exact bu g c _ af (by lia) (by lia)
 have ia:∀g,aI vn=aX g->¬(g=be\/aI vf=aX g):=by intro g C;have⟨_,c,af⟩:=qe h.c C;exact bu g c _ af (by lia) (by lia)
 have b5:aI vf≠aX be:=λhs=>by have⟨_,c,af⟩:=qe h.n hs;rw[h.d] at af;cases af
 refine⟨blk,h.u.E (λj c t ht E=>ca j c t E (by grind) (by grind)),Qe h.c (λg c _ E=>ca g c _ E (by lia) (by lia)),qm h.o (λg C cf=>hc.h g cf (hv g C)),h.C.o (λj es c hm=>(hc.h j (zg hm).1 (λhs=>?_)).t hm),by simp[h.l],bG▸G,λi hi c3=>?_,λi j cw k z A=>?_,λi k M=>?_,⟨aS (aS ⟨h.z.1,b5⟩),λg C=>aS (aS ⟨h.z.2.1 g C,λe=>hv g C (aU e)⟩),λg C=>aS (aU C),λg C=>aS (aS ⟨h.z.2.2.2 g C,λe=>ia g C (aU e)⟩)⟩,λk M=>?_⟩
 .obtain rfl|hs:=hs;{rw[h.d] at hm;cases hm};have⟨_,c',af⟩:=qe h.n hs;rw[hm] at af;cases af
 .have fm:=h.l;by_cases O:i=aD aa;{subst O;refine⟨b,?_⟩;have e1:(aa++[B])[aD aa]'hi=B:=by{simp};have e2:(e.l++[f])[aD aa]'c3=f:=by{simp[fm]};rw[e1,e2];simpa using hf};have fb:i<aD aa:=by{simp at hi;lia};have⟨b',ed⟩:=h.y i fb (by lia);refine⟨b',?_⟩;have e1:(aa++[B])[i]'hi=aa[i]:=bT fb;have e2:(e.l++[f])[i]'c3=e.l[i]'(by lia):=bT (by lia);rw[e1,e2];simp only[if_neg O];exact ed.E (ex:=λk=>k=be\/aI vf=aX k) hc.h (λk hs=>hF k (h.m i k hs).2) (λk c E=>bu k c _ E (by lia) (by lia))
 .by_cases O:i=aD aa;{have d3:j≠aa.length:=by{lia};simp only[if_pos O] at z;simp only[if_neg d3] at A;have:=(ew k z).1;have:=(h.m j k A).2.lt;lia};simp only[if_neg O] at z;by_cases d3:j=aD aa;{simp only[if_pos d3] at A;have:=(ew k A).1;have:=(h.m i k z).2.lt;lia};{simp only[if_neg d3] at A;exact h.r i j cw k z A}
 .by_cases O:i=aD aa;{grind};{simp only[if_neg O] at M;have hs:=h.m i k M;exact⟨aS (aS ⟨hs.1,λe=>hF k hs.2 (aU e)⟩),hs.2.u (hc.h k hs.2.lt (hF k hs.2))⟩}
 obtain (⟨z,A⟩|M)|M:=M
 .by_cases dg:k=be;{subst dg;exact⟨_,_,blk,aS rfl⟩};{exact (h.w k z).u (hc.h k (h.w k z).lt (λe=>e.elim dg A))}
 .have⟨_,c,af⟩:=qe G M;exact⟨_,_,af,aU (aU (aS rfl))⟩
 exact (ew k M).2.w
def Qn(S:Nat->Prop)(be:Nat)(e':Eg)(w w':Wq):Prop:=∃S',jD w' S' be e'/\(∀k,S' k->S k\/w.heap.size<=k)/\fC w w' S
def Qn.u{w:Wq}(h:jD w S be e)(z:cL w.heap.size w w'):Qn S be e w w':=⟨S,h.f z,λ_ A=>aS A,fC.d _ z⟩
def NR{w W5:Wq}{nb:Nat}(hv:iQ w S be e vr vn vk vf bm rb ak aj aa Sf)(E:cL w.heap.size w W5){ns:List ByteArray}(eo:w.heap.size<=nb)(b8:aH W5 nb 9 1 vn' (aD ns) (ns.map aK)){d:Gd×Int}(O:Obj)(am:aH w1 0 161 4 v' (aD e.o+1) (e.o.flatMap qy++qy d))(dq:((W5.setCell (Ad be 5) vn').alloc O).grownBy w1 (aI vk))(ez:aI v'=aI vk\/aI v'=aX ((W5.setCell (Ad be 5) vn').alloc O).heap.size):aE w1 (Ad be 6)=aX vk/\aF w1 (Ad be 6)=false/\Qn S be {e with c:=ns,o:=e.o++[d]} w (w1.setCell (Ad be 6) v'):=by
 have z:=hv.f E;have e7:=(zg z.d).1;have b5:aI vk≠aX be:=λhs=>by have⟨_,c,af⟩:=qe z.o hs;rw[z.d] at af;cases af
 have fe:((W5.setCell (Ad be 5) vn').alloc O).heap.size=W5.heap.size+1:=by simp
 have b1:w1.heap[be]?=cC #[vr,aO aR e.j,aO aR e.u,aO aR e.w,aO aR e.h,vn',vk,.map (aX bm),vf] 101:=by refine (dq.b be (by grind) (λe=>b5 e.s)).t ?_;exact (bQ _ _ _ (by simp_all)).t (qw z.d 5 vn')
 have e9:fC W5 w1 (λk=>k=be\/aI vk=aX k):=(((fC.j W5 _).i (Ad be 5) vn' (λ_=>aS rfl)).alloc O).o dq (λk G _=>aU G);have C:=e9.i (Ad be 6) v' (λ_=>aS rfl);have bj:∀(k:Nat)(c:Array Vq)(t:cP),W5.heap[k]?=cC c t->t≠101->t≠161->¬(k=be\/aI vk=aX k):=by rintro j c t hj A h2 (rfl|hs);{rw[z.d] at hj;cases hj;exact A rfl};{have⟨_,c',af⟩:=qe z.o hs;rw[hj] at af;cases af;exact h2 rfl}
 have ga:=z.H (W':=w1.setCell (Ad be 6) v') (e':={e with c:=ns,o:=e.o++[d]}) (vn':=vn') (vk':=v') (bm':=bm) C rfl rfl (qw b1 6 v')
  (qm (rD b8 zz) (λg hg cf=>by
   have⟨_,c,af⟩:=qe b8 hg
   exact C.h g cf (bj g c _ af (by lia) (by lia))))
  (by
   show aH _ 0 161 4 v' (aD (e.o++[d])) ((e.o++[d]).flatMap qy);rw[bG,List.flatMap_append];simp only[bH,cH,cJ,bO,List.flatMap_nil,List.append_nil]
   exact Qj am ⟨be,6,aY⟩ v' (Qh am b1 (by lia)))
  (z.C.o (λj es c M=>(C.h j (zg M).1 (by
   rintro (rfl|hs);{rw[z.d] at M;cases M}
   .have⟨_,c',af⟩:=qe z.o hs
    rw[M] at af;cases af)).t M))
 refine⟨zc b1,by simp[aF,b1],_,⟨_,_,_,_,_,_,_,_,_,_,ga⟩,λk G=>?_,?_⟩
 .obtain⟨A,_⟩|A|A:=G;{exact aS A};{obtain e1|e1:=ez;{exact aS (hv.z.2.1 k (e1.s.t A))};right;rw[e1,fe] at A;cases A;have:=E.s;lia};have⟨gz,_⟩:=qe b8 A;exact aU (bC eo gz)
 refine⟨C.os.t E.os,C.tape.t E.tape,C.output.t E.output,bC E.s C.size,λk G hs=>(C.h k (bF G E.s) (λe=>hs ?_)).t (E.b k G)⟩;obtain rfl|e:=e
 .exact hv.z.1
 exact hv.z.2.1 k e
def OS{w W4:Wq}{va:Vq}{bt B:Nat}(hv:iQ w S be e vr vn vk vf bm rb ak aj aa Sf)(A:cL w.heap.size w W4){a:Am}(hB:w.heap.size<=B)(df:W4.heap[B]?=cC #[aK a.j,va,aM true,aJ aY 0 0,aJ aY 0 0,aO aR 0] 198)(hs:Qg W4 bt va a.d)(O:Obj)(am:aH w1 0 120 1 v' (aD aa+1) (aa.map rB++[rB B]))(dq:(W4.alloc O).grownBy w1 (aI vf))(ez:aI v'=aI vf\/aI v'=aX (W4.alloc O).heap.size):aE w1 (Ad be 8)=aX vf/\aF w1 (Ad be 8)=false/\Qn S be {e with l:=e.l++[⟨a,true,[],[],0⟩]} w (w1.setCell (Ad be 8) v'):=by
 have G:=hv.f A;have e7:=(zg G.d).1;have b5:aI vf≠aX be:=λhs=>by have⟨_,c,af⟩:=qe G.n hs;rw[G.d] at af;cases af
 have fe:(W4.alloc O).heap.size=W4.heap.size+1:=by simp
 have b1:w1.heap[be]?=cC #[vr,aO aR e.j,aO aR e.u,aO aR e.w,aO aR e.h,vn,vk,.map (aX bm),vf] 101:=
  (dq.b be (by grind) (λe=>b5 e.s)).t ((bQ _ _ _ e7).t G.d)
 have e9:fC W4 w1 (λk=>k=be\/aI vf=aX k):=((fC.j W4 _).alloc O).o dq (λk z _=>aU z);have C:=e9.i (Ad be 8) v' (λ_=>aS rfl);have bj:∀(k:Nat)(c:Array Vq)(t:cP),W4.heap[k]?=cC c t->t≠101->t≠120->(w1.setCell (Ad be 8) v').heap[k]?=cC c t:=by intro j c t M E h2;refine (C.h j (zg M).1 ?_).t M;rintro (rfl|hs);{rw[G.d] at M;cases M;exact E rfl};{have⟨_,c',af⟩:=qe G.n hs;rw[M] at af;cases af;exact h2 rfl}
 have fi:fC w (w1.setCell (Ad be 8) v') (λk=>k=be\/aI vf=aX k):=⟨C.os.t A.os,C.tape.t A.tape,C.output.t A.output,bC A.s C.size,λk z hs=>(C.h k (bF z A.s) hs).t (A.b k z)⟩;have fx:=bj B _ _ df (by lia) (by lia);have c9:=hv.O (W':=w1.setCell (Ad be 8) v') (vf':=v') (B:=B) (b:=bt) (f:=⟨a,true,[],[],0⟩) (SB:=λk=>k=B) fi (qw b1 8 v') (by grind [Qj,Qh]) ⟨va,_,_,fx,hs.o (λk c _ hc=>bj k c _ hc (by lia) (by lia)),⟨rfl,aS ⟨rfl,rfl⟩⟩,⟨rfl,aS ⟨rfl,rfl⟩⟩,λg hg=>(by cases hg),λg hg=>(by cases hg),rfl⟩ (λk z=>by subst z;exact⟨hB,_,_,fx,aS rfl⟩);refine⟨zc b1,by simp[aF,b1],_,⟨_,_,_,_,_,_,_,_,_,_,c9⟩,λk z=>?_,?_⟩
 .obtain (⟨E,_⟩|E)|E:=z;{exact aS E};{obtain e1|e1:=ez;{exact aS (hv.z.2.2.1 k (e1.s.t E))};grind};grind
 refine fi.mono (λk _ e=>?_);obtain rfl|e:=e
 .exact hv.z.1
 exact hv.z.2.2.1 k e
def wt(Sf:Nat->Nat->Prop)(w w':Wq)(k:Nat):Nat->Nat->Prop:=λi j=>if i=k then (Sf k j\/w.heap.size<=j)/\pE w' j else Sf i j
def CF(S:Nat->Prop)(Sf:Nat->Nat->Prop)(w w':Wq)(k:Nat):Nat->Prop:=λj=>(S j/\¬Sf k j)\/wt Sf w w' k k j
def uq{w:Wq}:wt Sf w w' k k j↔((Sf k j\/w.heap.size<=j)/\pE w' j):=by grind [wt]
def xr{w:Wq}{i:Nat}(h:i≠k):wt Sf w w' k i j↔Sf i j:=by unfold wt;rw[if_neg h]
def iQ.A{w:Wq}(h:iQ w S be e vr vn vk vf bm rb ak aj aa Sf){k:Nat}(hk:k<aD aa){b:Nat}{f':Fs}(hf:gC w' (λj=>Sf k j\/w.heap.size<=j) aa[k] b f')(hc:fC w w' (Sf k)):iQ w' (CF S Sf w w' k) be {e with l:=e.l.set k f'} vr vn vk vf bm rb ak aj aa (wt Sf w w' k):=by
 have O:∀(j:Nat)(c:Array Vq)(t:cP),w.heap[j]?=cC c t->t≠198->t≠71->¬Sf k j:=by intro j c t A C E hs;have⟨c',t',e1,e2⟩:=(h.m k j hs).2;rw[A] at e1;cases e1;exact e2.elim C E
 have ca:∀(j:Nat) (c:Array Vq) (t:cP),w.heap[j]?=cC c t->t≠198->t≠71->w'.heap[j]?=cC c t:=λj c t A C E=>(hc.h j (zg A).1 (O j c t A C E)).t A;have d7:=λj hs hn=>hc.h j (h.w j hs).lt hn;have Qfy:∀g,aI vk=aX g->¬Sf k g:=λg z=>by have⟨_,c,af⟩:=qe h.o z;exact O g c _ af (by lia) (by lia)
 have g5:∀g,aI vn=aX g->¬Sf k g:=λg z=>by have⟨_,c,af⟩:=qe h.c z;exact O g c _ af (by lia) (by lia)
 have Qfv:∀g,aI vf=aX g->¬Sf k g:=λg z=>by have⟨_,c,af⟩:=qe h.n z;exact O g c _ af (by lia) (by lia)
 refine⟨ca _ _ _ h.d (by lia) (by lia),h.u.E (λj c t ht A=>ca j c t A (by grind) (by grind)),Qe h.c (λg c _ A=>ca g c _ A (by lia) (by lia)),qm h.o (λg z cf=>d7 g (h.z.2.1 g z) (Qfy g z)),h.C.o (λj es c G=>(hc.h j (zg G).1 (λhs=>?_)).t G),by simp[h.l],qm h.n (λg z cf=>d7 g (h.z.2.2.1 g z) (Qfv g z)),λi hi c3=>?_,λi j cw m C E=>?_,λi m G=>?_,⟨aS ⟨h.z.1,O _ _ _ h.d (by lia) (by lia)⟩,λg z=>aS ⟨h.z.2.1 g z,Qfy g z⟩,λg z=>aS ⟨h.z.2.2.1 g z,Qfv g z⟩,λg z=>aS ⟨h.z.2.2.2 g z,g5 g z⟩⟩,λm G=>?_⟩
 .exact kX.d G (h.m k j hs).2.w
 .by_cases M:i=k;{subst M;refine⟨b,?_⟩;have e6:(e.l.set i f')[i]'c3=f':=List.getElem_set_self _;rw[e6];exact (hf.K).a (λj A=>uq.2 A)};{have⟨b',ed⟩:=h.y i hi (by grind);refine⟨b',?_⟩;have e6:(e.l.set k f')[i]'c3=e.l[i]'(by grind):=List.getElem_set_ne (by lia) _;rw[e6];exact (ed.E (ex:=Sf k) hc.h (λj A f2=>h.r i k M j A f2) (λj c A hs=>O j c _ A (by lia) (by lia) hs)).a (λj A=>(xr M).2 A)}
 .by_cases M:i=k;{subst M;rw[xr (Ne.symm cw)] at E;rw[uq] at C;obtain C|C:=C.1;{exact h.r i j cw m C E};have:=(h.m j m E).2.lt;lia};rw[xr M] at C;by_cases fj:j=k;{subst fj;rw[uq] at E;obtain E|E:=E.1;{exact h.r i j cw m C E};have:=(h.m i m C).2.lt;lia};rw[xr fj] at E;exact h.r i j cw m C E
 .by_cases M:i=k;{subst M;exact⟨aU G,(uq.1 G).2⟩};{rw[xr M] at G;exact⟨aS ⟨(h.m i m G).1,h.r i k M m G⟩,(h.m i m G).2.u (d7 m (h.m i m G).1 (h.r i k M m G))⟩}
 obtain⟨C,E⟩|G:=G
 .exact (h.w m C).u (d7 m C E)
 exact (uq.1 G).2.w
def Ew{w:Wq}(hs:∀j,Sf k j->S j):∀j,CF S Sf w w' k j->S j\/w.heap.size<=j:=by
 rintro j (⟨h,_⟩|h)
 .exact aS h
 exact (uq.1 h).1.imp (hs j) id
def EH(S:Nat->Prop)(be:Nat)(e:Eg)(i:Int)(w:Wq)(en:Ending)(w':Wq):Prop:=
 (¬(0<=i/\i<aD e.l)/\en=aQ (aN #[aL #[aO aR 0,aO aR 0,aK ⟨#[]⟩,aO aR 0],aO aR 6])/\cL w.heap.size w w')\/
 ∃(k:Nat) (hk:k<aD e.l),i=k/\∃r f',sP e.M e.h e.l[k] r f'/\en=aQ (aN #[aL #[aO aR r.d,aO aR r.h,aK r.f,aO aR r.g],aO aR 0])/\Qn S be {e with l:=e.l.set k f'} w w'
def GN{b T:Nat}{v:Vq}{l:List Nat}(h:aH W b T 1 v (aD l) (l.map rB)){k:Nat}(O:k<aD l):∃(g c:Nat),v=Sc g (aD l) c/\aE W (Ad g k)=aX (Pt (l[k]))/\g<W.heap.size:=by
 obtain⟨_,⟨_,hz⟩|⟨g,c,E,M,_,A,_,_,_,G⟩⟩:=h
 .omega
 refine⟨g,c,M,?_,(zg A).1⟩;have z:(l.map rB)[k]?=aX (rB l[k]):=by grind
 rw[<-G,cE,if_pos (by lia)] at z;simp only[aE,A];have C:E[k]?=aX (rB l[k]):=by simpa using z
 exact C
def Ay(W:Wq)(N:Nat)(r:Rc)(h:W.heap[N]?=cC #[aO aR 0,aO aR 0,aK ⟨#[]⟩,aO aR 0] 71):(mI W N r).heap[N]?=cC #[aO aR r.d,aO aR r.h,aK r.f,aO aR r.g] 71:=
 qw (qw (qw (qw h 0 (aO aR r.d)) 1 (aO aR r.h)) 2 (aK r.f)) 3 (aO aR r.g)
def LE(S:Nat->Prop)(be:Nat)(e:Eg)(i:Int)(w:Wq)(h:jD w S be e)(ag:fP e)(ht:∀f∈e.l,f.h<=1000000000000):Cs 29 #[Pt be,aO aR i] w (EH S be e i w):=by
 have⟨vr,vn,vk,vf,bm,rb,ak,aj,aa,Sf,hv⟩:=h;have⟨fa,fc,dh⟩:=qq hv.n;subst dh;obtain⟨N,hN⟩:=aC w.heap.size;have dx:=ag.c;have bh:aD aa<=3:=hv.l▸dx
 have ik:aR.wrap ((aD aa:Int)-1)=(aD aa:Int)-1:=wG _ (by omega) (by omega);have ah:=hv.d;have c8:∀O,aE (w.alloc O) (Ad be 8)=aX (aJ fa (aD aa) fc):=λO=>cell_later ((bD _ w).l zl O) (by simp[aE,ah]);obtain⟨W0,d6⟩:=aC (w.alloc (aP #[aO aR 0,aO aR 0,aK ⟨#[]⟩,aO aR 0] 71));have az:cL w.heap.size w W0:=d6▸(bD _ w).l zl _
 have im:W0.heap.size=N+1:=by rw[<-d6,<-hN];simp
 have eN:W0.heap[N]?=cC #[aO aR 0,aO aR 0,aK ⟨#[]⟩,aO aR 0] 71:=by rw[<-d6,<-hN];exact zn w _
 have ix:aE W0 (Ad be 8)=aX (aJ fa (aD aa) fc):=d6▸c8 _
 have z0:aE W0 (Ad N 0)=aX (aO aR 0):=zc eN;have z1:aE W0 (Ad N 1)=aX (aO aR 0):=zc eN;have z2:aE W0 (Ad N 2)=aX (aK ⟨#[]⟩):=zc eN;have z3:aE W0 (Ad N 3)=aX (aO aR 0):=zc eN;have x0:∀j,aF W0 (Ad N j)=false:=λj=>by simp[aF,eN]
 by_cases hi:0<=i/\i<aD e.l
 .obtain⟨k,rfl⟩:∃k:Nat,i=k:=⟨i.toNat,by omega⟩;have hk:k<aD e.l:=by{omega};have eg:k<aD aa:=hv.l▸hk;have b9:Hid (∀W,Cs 43 #[aO aR (k:Int),aO aR 0,aO aR ((aD aa:Int)-1)] W λe' w'=>e'=aQ (aM true)/\W=w'):=λW=>by{refine (vM k 0 ((aD aa:Int)-1) W).m ?_;rintro e' w' ⟨rfl,rfl⟩;refine⟨kU ?_,rfl⟩;rw[Bool.and_eq_true];simp only[decide_eq_true_eq];omega};have G:=hv.f az.drew;have⟨bb,fh⟩:=G.y k eg hk;have cj:=List.getElem_mem hk;have aw:=ag.l _ cj;have gk:Hid (Cs 59 #[Pt (aa[k]),.map (aX bm),aO aR e.h] W0.drew λe' w'=>∃r f',e'=aQ (aL #[aO aR r.d,aO aR r.h,aK r.f,aO aR r.g])/\sP e.M e.h e.l[k] r f'/\gC w' (λj=>Sf k j\/W0.drew.heap.size<=j) aa[k] bb f'/\fC W0.drew w' (Sf k)):=
   Lp (Sf k) aa[k] bb e.l[k] bm 5000 e.M e.h W0.drew fh (λj z=>(G.m k j z).2.lt) ⟨by have:=aw.2.1;omega,by have:=aw.2.2;omega⟩ aw.1 G.C (by decide) (λx y hx=>xH ag _ x y hx) (ht _ cj)
  have⟨g,cap,gc,ck,iy⟩:=GN (W:=W0) G.n eg;cases gc;have c7:aE W0 (Ad be 7)=aX (.map (aX bm)):=by{have:=G.d;have h2:W0.heap[be]?=_:=this;simp[aE,h2]};have c4:aE W0 (Ad be 4)=aX (aO aR e.h):=by{have:=G.d;have h2:W0.heap[be]?=_:=this;simp[aE,h2]};have eb:∀j,S j->j<N:=λj z=>by{rw[<-hN];exact (hv.w j z).lt};have Qd:Hid (∀W1 r f',sP e.M e.h e.l[k] r f'->gC W1 (λj=>Sf k j\/W0.drew.heap.size<=j) aa[k] bb f'->fC W0.drew W1 (Sf k)->W1.heap[N]?=cC #[aO aR 0,aO aR 0,aK ⟨#[]⟩,aO aR 0] 71/\Qn S be {e with l:=e.l.set k f'} w (mI W1 N r)):=λW1 r f' hp hf C=>by{have Qka:¬Sf k N:=λhs=>by{have:=eb N (hv.m k N hs).1;omega};have fk:=(C.h N (by show N<W0.heap.size;omega) Qka).t eN;refine⟨fk,CF S Sf W0.drew W1 k,⟨_,_,_,_,_,_,_,_,_,_,(G.A eg hf C).E (ex:=λj=>j=N) ⟨rfl,rfl,rfl,by simp[mI],λj _ z=>ti W1 N r z⟩ (λj z e=>?_) (λj _ e=>?_)⟩,λj z=>?_,?_⟩;{subst e;obtain⟨z,_⟩|z:=z;{have:=eb _ z;omega};rcases (uq.1 z).1 with A|A;{exact Qka A};have h2:W0.heap.size<=j:=A;omega};{subst e;exact⟨_,_,fk,by simp⟩};{obtain A|A:=Ew (λj z=>(G.m k j z).1) j z;{exact aS A};right;have h2:W0.heap.size<=j:=A;omega};refine wb ⟨C.os.t az.os,C.tape.t az.tape,C.output.t az.output,?_,λj z hx=>(C.h j ?_ (λhs=>hx (hv.m k j hs).1)).t (az.b j z)⟩ (by omega) r;{have A:W0.heap.size<=W1.heap.size:=C.size;omega};{show j<W0.heap.size;omega}};have cy:Hid (∀en w' r f',sP e.M e.h e.l[k] r f'->en=aQ (aN #[aL #[aO aR r.d,aO aR r.h,aK r.f,aO aR r.g],aO aR 0])->Qn S be {e with l:=e.l.set k f'} w w'->EH S be e k w en w'):=λen w' r f' A h2 h3=>aU ⟨k,hk,rfl,r,f',A,h2,h3⟩;have Qqa:(k:Int)<(aD aa:Int):=by{omega};clear hi hv ah G fh aw cj ag ht eb c8;generalize b5:aa[k]=bfk at *;clear b5;go_enter Tryz.func29,Tryz.ntmps29;go_wp2_with (go_at_call 43;refine (b9.o _).m ?_;rintro e' w' ⟨rfl,av⟩;subst av);have gq:Hid (∀W1 r f',sP e.M e.h e.l[k] r f'->gC W1 (λj=>Sf k j\/W0.drew.heap.size<=j) bfk bb f'->fC W0.drew W1 (Sf k)->aE W1 (Ad N 0)=aX (aO aR 0)/\aE W1 (Ad N 1)=aX (aO aR 0)/\aE W1 (Ad N 2)=aX (aK ⟨#[]⟩)/\aE W1 (Ad N 3)=aX (aO aR 0)/\aF W1 (Ad N 0)=false/\aF W1 (Ad N 1)=false/\aF W1 (Ad N 2)=false/\aF W1 (Ad N 3)=false):=λW1 r f' A h2 h3=>by{have E:=(Qd.o W1 r f' A h2 h3).1;exact⟨zc E,zc E,zc E,zc E,by simp[aF,E],by simp[aF,E],by simp[aF,E],by simp[aF,E]⟩};refine wp_mono (Q:=λen a' W2=>match en with|Exit.normal=>(∃W1 r f',sP e.M e.h e.l[k] r f'/\gC W1 (λj=>Sf k j\/W0.drew.heap.size<=j) bfk bb f'/\fC W0.drew W1 (Sf k)/\W2=mI W1 N r/\a'={tmps:=#[Pt be,aO aR k,aZ,aZ,Pt N,aO aR 0,aO aR k,Pt be,Pt be,.pointer (aX ⟨be,8,aY⟩),Sc g (aD aa) fc,aO aR (aD aa),aO aR ((aD aa:Int)-1),aM true,aM false,aZ,Pt be,Pt be,.pointer (aX ⟨be,8,aY⟩),Sc g (aD aa) fc,aO aR k,.pointer (aX ⟨g,k,aY⟩),Pt bfk,Pt be,Pt be,.pointer (aX ⟨be,7,aY⟩),.map (aX bm),Pt be,Pt be,.pointer (aX ⟨be,4,aY⟩),aO aR e.h,aL #[aO aR r.d,aO aR r.h,aK r.f,aO aR r.g]],defers:=[]})|_=>False) ?reg ?rest
  case reg=>(first|(go_region_with (go_at_call 59;refine bB gk.o ?_;rintro e' W1 ⟨r,f',rfl,hp,hf,C⟩;have⟨u0,u1,u2,u3,y0,y1,y2,y3⟩:=gq.o W1 r f' hp hf C))|fail);all_goals exact⟨W1,r,f',hp,hf,C,rfl,rfl⟩
  rintro (_|_|_|_|_|_) a' W2 hq;all_goals first|exact hq.elim|skip
  obtain⟨W1,r,f',hp,hf,C,rfl,rfl⟩:=hq;have⟨E,hE⟩:=Qd.o W1 r f' hp hf C;have q1:=Ay W1 N r E;have u0:aE (mI W1 N r) (Ad N 0)=aX (aO aR r.d):=zc q1;have u1:aE (mI W1 N r) (Ad N 1)=aX (aO aR r.h):=zc q1;have u2:aE (mI W1 N r) (Ad N 2)=aX (aK r.f):=zc q1;have u3:aE (mI W1 N r) (Ad N 3)=aX (aO aR r.g):=zc q1;clear E q1;generalize hW3:mI W1 N r=W3 at *;go_wp2;refine bodyPost_ret (v:=aN #[aL #[aO aR r.d,aO aR r.h,aK r.f,aO aR r.g],aO aR 0]) (by simp[results,Tryz.results29,go_sem,u0,u1,u2,u3]) rfl ?_;exact cy.o _ _ r f' hp rfl hE
 have b9:Hid (∀W,Cs 43 #[aO aR i,aO aR 0,aO aR ((aD aa:Int)-1)] W λe' w'=>e'=aQ (aM false)/\W=w'):=λW=>by{refine (vM i 0 ((aD aa:Int)-1) W).m ?_;rintro e' w' ⟨rfl,rfl⟩;refine⟨kU ?_,rfl⟩;rw[Bool.and_eq_false_iff];simp only[decide_eq_false_iff_not];have fm:=hv.l;omega};have HI:=aA hi;clear hi hv ah c8;go_enter Tryz.func29,Tryz.ntmps29;go_wp2_with (go_at_call 43;refine (b9.o _).m ?_;rintro e' w' ⟨rfl,av⟩;subst av);refine bodyPost_ret (v:=aN #[aL #[aO aR 0,aO aR 0,aK ⟨#[]⟩,aO aR 0],aO aR 6]) (by simp[results,Tryz.results29,go_sem,z0,z1,z2,z3]) rfl ?_;refine aS ⟨HI.o,rfl,?_⟩;exact (((az.c (p:=⟨N,0,aY⟩) (by simp;omega) _).c (p:=⟨N,1,aY⟩) (by simp;omega) _).c (p:=⟨N,2,aY⟩) (by simp;omega) _).c (p:=⟨N,3,aY⟩) (by simp;omega) _
theorem K8(z:List ByteArray)(x y:ByteArray):y∈Qs z x↔y∈z\/y=x:=by grind [Qs,fW,fQ,yY]
theorem wZ:∀(l:List Tm) (z:List ByteArray) (y:ByteArray),y∈fF z l↔y∈z\/∃t∈l,t.c≠eB/\y=t.c
 |[],z,y=>by simp[fF]
 |t::l,z,y=>by
  have C:=wZ l (jO z t) y;have A:fF z (t::l)=fF (jO z t) l:=rfl;rw[A,C];unfold jO;by_cases h:t.c.toList.isEmpty=true;{grind [lN]};{grind [K8,eB,lN]}
def ru(e:Eg)(a:Am)(t:Int):Int×Eg:=
 if gS e.j e.h t=true then (8,e) else if qO e.o (qb Ql a,t)=true then (9,e)
 else if aD e.o=24\/8<aD (fF e.c a.d) then (10,e)
 else (0,{e with c:=fF e.c a.d,o:=e.o++[(qb Ql a,t)]})
def lR(e:Eg)(s:ByteArray)(t:Int):Int×Eg:=
 match jN s with
 |none=>(2,e)
 |some a=>if kB a=false then (2,e) else if qA e.z a.j=true then (7,e) else if gR e.z a≠0 then (gR e.z a,e) else if ¬(0<=t/\t<=1000000) then (6,e) else ru e a t
def lW(e:Eg)(s:ByteArray):Int×Int×Eg:=
 if oG s=false then (0,2,e) else if fG e.z s=0 then (0,7,e) else if aD e.l=3 then (0,10,e)
 else (aD e.l,0,{e with l:=e.l++[⟨iP s (fG e.z s),true,[],[],0⟩]})
def tj(e:Eg)(m:Int):List (Gd×Int):=((e.o.filter (λd=>!gS e.j m d.2)).filter (λd=>decide (d.2<=m))).map (λd=>(d.1,d.2+e.j))
def BC(M M':Gd->Option Int)(m q:Int)(f f':Fs):Prop:=
 (f.a=true/\f'=f)\/(f.a=false/\∃g1 g2,rO M M' f.c g1/\rO M' M f.c g2/\((q<(aD (f.w++Qt 3 g1++Qt 2 g2):Int)+1/\f'={f with a:=true,g:=[],w:=[]})\/((aD (f.w++Qt 3 g1++Qt 2 g2):Int)+1<=q/\f'={f with w:=f.w++Qt 3 g1++Qt 2 g2++[⟨4,0,⟨#[]⟩,m⟩]})))
def xS(e:Eg)(m:Int)(e':Eg):Prop:=∃M' ax,kD e.z (tj e m++Qx e.z) M'/\aD ax=aD e.l/\(∀i (h:i<aD e.l) (h':i<aD ax),BC e.M M' m e.w e.l[i] ax[i])/\e'={e with h:=m,o:=e.o.filter (λd=>!gS e.j m d.2),M:=M',l:=ax}
def uL(e:Eg)(c:Int)(e':Eg)(r:Int×Int):Prop:=
 (¬(0<=c/\c<=1000000)/\e'=e/\r=(0,6))\/((0<=c/\c<=1000000)/\r=(e'.h,0)/\((c-e.u<=e.h/\e'=e)\/(e.h<c-e.u/\xS e (c-e.u) e')))
def fP.mono(h:fP e)(A:e'.z=e.z)(C:e'.j=e.j)(E:e'.u=e.u)(G:e'.w=e.w)(O:e'.h=e.h)(h6:e'.c=e.c)(h7:e'.o=e.o)(h8:e'.M=e.M)(z:aD e'.l<=3)(fds:∀f∈e'.l,tp f.c/\aD f.g<=1000/\aD f.w<=50):fP e':=by have⟨rs,win,lat,que,mark,names,kept,M,ax⟩:=e';simp only at *;subst A C E G O h6 h7 h8;exact⟨h.z,h.j,h.u,h.w,h.h,h.A,h.n,h.v,h.m,h.o,h.C,z,fds⟩
def Mh{s:ByteArray}(h:oG s=true):s.size<=32:=by grind [oG,sr]
def Hv(h:fP e)(s:ByteArray):fP (lW e s).2.2:=by
 unfold lW;split
 .exact h
 rename_i E;split
 .exact h
 split
 .exact h
 rename_i G;have hs:=Mh (s:=s) (by simpa using E);have z:=h.c;refine h.mono rfl rfl rfl rfl rfl rfl rfl rfl (by simp;lia) (λf z=>?_);obtain z|z:=bL.1 z
 .exact h.l f z
 simp only[cD,cG,or_false] at z;subst z;refine⟨⟨?_,?_,?_,?_⟩,by simp,by simp⟩
 .show (aD (iP s _).d)<=2;rw[wQ];obtain e|e|e:=tV h.z s<;>lia
 .intro t A;obtain⟨k,C,rfl⟩:=bE.1 A;have:=List.mem_range.1 C;obtain e|e|e:=tV h.z s;{grind};{grind};grind
 .show s.size<=2000;lia
 intro t A;obtain⟨k,C,rfl⟩:=bE.1 A;show (0:Nat)<=2000;decide
theorem yc(h:kB a=true):∀t∈a.d,t.c≠eB:=by intro t z e;unfold kB at h;simp only[Bool.not_eq_true',List.any_eq_false] at h;exact h t z ((lN _).2 e)
def BM(h:gR rs a=0):fG rs a.j≠0/\fG rs a.j=aD a.d:=by grind [gR]
theorem yW{x:ByteArray}(h:fG rs x≠0):x∈jK rs:=by
 unfold fG at h;cases ha:gV (rs.flatMap Qa) x.data.toList with
 |none=>rw[ha] at h;exact absurd rfl h
 |some n=>have⟨a,h1,h2,_⟩:=EJ ha;exact bE.2 ⟨a,h1,ud h2⟩
def MS(h:nN rs){a:Am}(z:kB a=true)(O:gR rs a=0){ns:List ByteArray}(E:∀t∈a.d,t.c∈ns):qb Ql a∈jG (jK rs) ns/\gN (fG rs) (qb Ql a):=by
 have⟨h0,h1⟩:=BM O;have G:=yc z;have A:aD a.d=1\/aD a.d=2:=by grind [tV]
 obtain A|A:=A
 .match ha:a.d,A with
  |[t],_=>have C:=G t (by rw[ha];simp);have z:qb Ql a=⟨a.j,t.c,eB⟩:=by{unfold qb;rw[ha];show (⟨a.j,fH Ql t,eB⟩:Gd)=_;rw[sJ C]};rw[z];exact⟨qY.2 ⟨yW h0,E t (by rw[ha];simp),aS rfl⟩,C,aS ⟨by show fG rs a.j=1;rw[h1,ha];rfl,rfl⟩⟩
 match ha:a.d,A with
 |[t,u],_=>have C:=G t (by rw[ha];simp);have M:=G u (by rw[ha];simp);have z:qb Ql a=⟨a.j,t.c,u.c⟩:=by{unfold qb;rw[ha];show (⟨a.j,fH Ql t,fH Ql u⟩:Gd)=_;rw[sJ C,sJ M]};rw[z];exact⟨qY.2 ⟨yW h0,E t (by rw[ha];simp),aU (E u (by rw[ha];simp))⟩,C,aU ⟨by show fG rs a.j=2;rw[h1,ha];rfl,M⟩⟩
theorem OM(h:fP e){a:Am}(O:lO a)(z:kB a=true)(hc:gR e.z a=0){t:Int}(M:0<=t/\t<=1000000):fP (ru e a t).2:=by
 unfold ru;split
 .exact h
 split
 .exact h
 split
 .exact h
 rename_i iv;have E:=wZ a.d e.c;have G:=λx A=>(E x).2 (aS A);have b8:=yc z;have gh:=h.m;refine⟨h.z,h.j,h.u,h.w,h.h,by show aD (fF e.c a.d)<=8;lia,λx A=>?_,λr hr t M cu=>G _ (h.v r hr t M cu),by show aD (e.o++_)<=24;simp;lia,λd hd=>?_,λg z=>⟨(h.C g z).1,GK G (h.C g z).2⟩,h.c,h.l⟩
 .rcases (E x).1 A with A|⟨u,C,_,rfl⟩;{exact h.n x A};exact (O.c u C).c
 obtain hd|hd:=bL.1 hd
 .have:=h.o d hd;exact⟨GK G this.1,this.2⟩
 simp only[cD,cG,or_false] at hd;subst hd;have:=MS h.z z hc (ns:=fF e.c a.d) (λu C=>(E _).2 (aU ⟨u,C,b8 u C,rfl⟩));exact⟨this.1,this.2,M⟩
def MQ(h:fP e)(s:ByteArray)(z:∀a,jN s=aX a->lO a)(t:Int):fP (lR e s t).2:=by grind [lR,jN,OM]
def Ac(h:fP e)(m:Int):ym e.z e.c (tj e m):=by
 unfold tj;refine⟨?_,λx A=>?_⟩
 .rw[bX];have C:=bJ (λd:Gd×Int=>decide (d.2<=m)) (e.o.filter (λd=>!gS e.j m d.2));have E:=bJ (λd:Gd×Int=>!gS e.j m d.2) e.o;have:=h.m;lia
 obtain⟨d,hd,rfl⟩:=bE.1 A;have z:=h.o d ((bZ.1 (bZ.1 hd).1).1);have G:=h.j;exact⟨z.1,z.2.1,by show 0<=d.2+e.j;lia,by show d.2+e.j<=2000000;lia⟩
def Kx(h:fP e){m:Int}(hm:0<=m/\m<=1000000)(hv:xS e m e'):fP e':=by
 obtain⟨M',C,E,h2,G,rfl⟩:=hv;have dx:=h.c;refine⟨h.z,h.j,h.u,h.w,hm,h.A,h.n,h.v,bC (bJ _ _) h.m,λd hd=>h.o d (bZ.1 hd).1,Cg h.z h.v (Ac h m) E,by show aD C<=3;lia,λf M=>?_⟩;obtain⟨i,O,rfl⟩:=List.getElem_of_mem M;have z:i<aD e.l:=by grind
 have aw:=h.l _ (zm z);have hq:=h.w;obtain⟨_,A⟩|⟨_,g1,g2,_,_,⟨_,A⟩|⟨h5,A⟩⟩:=G i z O
 .grind
 .grind
 grind
def Cj(h:fP e){c:Int}{r:Int×Int}(A:uL e c e' r):fP e':=by
 obtain⟨_,rfl,_⟩|⟨E,_,⟨_,rfl⟩|⟨C,z⟩⟩:=A
 .exact h
 .exact h
 have G:=h.u;have M:=h.h;exact Kx h ⟨by lia,by lia⟩ z
def M9(h:fP e){k:Nat}(G:k<aD e.l){r:Rc}{f':Fs}(hp:sP e.M e.h e.l[k] r f'):fP {e with l:=e.l.set k f'}:=by
 refine h.mono rfl rfl rfl rfl rfl rfl rfl rfl (by simp;exact h.c) (λf A=>?_);have z:=h.l _ (zm G);obtain A|rfl:=List.mem_or_eq_of_mem_set A
 .exact h.l f A
 have⟨r0,f0,hn,hc⟩:=hp;have h0:tp f0.c/\aD f0.g<=1000/\aD f0.w<=50:=by obtain⟨l,E,rfl⟩|⟨_,_,_,gs,C,rfl⟩|⟨_,_,l,E,rfl⟩|⟨_,_,_,_,rfl⟩:=hn;{grind};{refine⟨z.1,?_,z.2.2⟩;have i4:=CX C (λg C=>(h.C g C).2) h.A;have O:aD (mH 2 (iL (gs.map (λg=>(fU g).data.toList))))=aD gs:=vB 2 gs;show aD (_++[_])<=1000;rw[bG,O];simp only[bH,cH];lia};{grind};exact z
 obtain⟨_,_,rfl⟩|⟨_,_,rfl⟩:=hc
 .exact h0
 exact h0
def Ly(v:Vq)(ns:List ByteArray)(b:Nat)(w:Wq)(h:aH w b 9 1 v (aD ns) (ns.map aK))(hl:aD ns<=1000):Cs 83 #[v] w λe w'=>∃(G:Option cO) (M:Nat),e=aQ (aJ G (aD ns) M)/\aH w' w.heap.size 9 1 (aJ G (aD ns) M) (aD ns) (ns.map aK)/\cL w.heap.size w w':=by
 obtain⟨h0,⟨A,hn⟩|⟨g,z,ee,A,hb,hw,h1,h2,h3,h4⟩⟩:=h
 .subst A;have hz:=List.eq_nil_of_length_eq_zero hn;subst hz;refine (Tryz.slices_Clone_string_nil 0 0 w).m ?_;rintro e w' ⟨rfl,rfl⟩;exact⟨aY,0,rfl,⟨rfl,aS ⟨rfl,rfl⟩⟩,zr⟩
 subst A;refine (Tryz.slices_Clone_string g 0 (aD ns) z ns w zl (by lia) (λj E=>?_)).m ?_
 .have C:(ns.map aK)[j]?=aX (aK ns[j]):=by{rw[List.getElem?_map,bU E];rfl};rw[<-h4,cE,if_pos (by lia)] at C;simp only[aE,hw,cJ];have O:ee[j]?=aX (aK ns[j]):=by{simpa using C};rw[O,List.getD_eq_getElem?_getD,bU E];rfl
 grind [qq]
def M5(f:Vq)(w:Wq):Cs 145 #[aJ aY 0 0,.func (.func 86) #[] #[f]] w λe w'=>e=aQ (aO aR (-1))/\cL w.heap.size w w':=by
 go_enter Tryz.func145,Tryz.ntmps145;go_wp2;go_loopw [8] (λi wr=>i=aO aR 0/\cL w.heap.size w wr) (λi _=>0)
 case atStart=>exact⟨rfl,zr⟩
 obtain⟨rfl,z⟩:=hrel;go_wp2;go_ret;exact⟨rfl,z⟩
def Ju(f:Vq)(w:Wq):Cs 85 #[aJ aY 0 0,.func (.func 86) #[] #[f]] w λe w'=>e=aQ (aJ aY 0 0)/\cL w.heap.size w w':=by have hI:=aA λW=>M5 f W;go_enter Tryz.func85,Tryz.ntmps85;go_wp2_with (go_at_call 145;refine (hI.o _).m ?_;rintro e W1 ⟨rfl,ab⟩);go_ret;exact⟨rfl,ab⟩
def Hd(v:Vq)(ns:List ByteArray)(ae A b:Nat)(G:Vq)(ts:List Tm)(w:Wq)(M:w.heap[A]?=cC #[G] 90)(hs:Qg w b G ts)(hl:aD ts<=2)(qt:aH w ae 9 1 v (aD ns) (ns.map aK))(eu:ae<=w.heap.size)(hn:aD ns<=900):Cs 76 #[v,.func (.func 144) #[] #[Pt A]] w λe w'=>∃(C:Option cO) (E:Nat),e=aQ (aJ C (aD (fF ns ts)) E)/\aH w' ae 9 1 (aJ C (aD (fF ns ts)) E) (aD (fF ns ts)) ((fF ns ts).map aK)/\cL ae w w':=by
 refine (Kt 144 #[Pt A] ts (λ_=>True) (aD ts) v ns ae w (enters_of Tryz.func144 (by kernel_rfl) rfl) (λO=>?_) (by lia) qt eu hn).m ?_
 .have hb:=(bD _ w).l zl O;exact Om A b G ts (w.alloc O) ((hb.b _ (zg M).1).t M) (hs.a (qf.d hb)) (by lia)
 rintro e w' ⟨v',rfl,ho,z⟩;have⟨C,E,cc⟩:=qq ho;subst cc;exact⟨C,E,rfl,ho,⟨z.os,z.tape,z.output,z.size,λk hk=>z.h k (by lia) (aS hk)⟩⟩
def Hc(x:ByteArray)(E:Vq)(z:Option cO)(C A:Nat)(G:E=aJ z C A)(w:Wq):Cs 54 #[aL #[aK x,E]] w λe w'=>∃B,e=aQ (Pt B)/\w.heap.size<=B/\w'.heap[B]?=cC #[aK x,E,aM true,aJ aY 0 0,aJ aY 0 0,aO aR 0] 198/\cL w.heap.size w w':=by subst G;go_enter Tryz.func54,Tryz.ntmps54;go_wp2;go_ret;refine⟨w.heap.size+1,rfl,by omega,?_,((bD _ w).l zl _).l (by simp) _⟩;have:=zn (w.alloc (aP #[aK x,aJ z C A] 92)) (aP #[aK x,aJ z C A,aM true,aJ aY 0 0,aJ aY 0 0,aO aR 0] 198);rwa[cF] at this
def Mm:(Tryz.prog.info? 161).map (λi=>(i.zero,i.size,i.bytes))=aX (aX (aL #[aK ⟨#[]⟩,aK ⟨#[]⟩,aK ⟨#[]⟩,aO aR 0]),4,56):=by kernel_rfl
def zu{P:Program}{M:Array Oper}{o:Oper}{a:Act}{w:Wq}{K:Act->Wq->Prop}{Q:Exit->Act->Wq->Prop}{E:Prop}(hg:o.guard=aY)(s x:Operand)(t:cP)(g9:o.op=Op.call {callee:=Callee.builtin Builtin.append,args:=#[s,x],argTypes:=#[t,t]})(ae:Nat)(e:cP)(i:TypeInfo)(z:Vq)(size A:Nat)(h1:P.underlying t=aX (.slice e))(h2:P.info? e=aX i)(h3:i.zero=aX z)(h4:i.size=size)(h5:i.bytes=A)(h6:z.cells.size=size)(h7:0<size)(v:Vq)(n:Nat)(xs:List Vq)(hs:a.eval s=v)(qt:aH w ae e size v n xs)(G:cO)(m c:Nat)(C:List Vq)(hx:a.eval x=aJ (aX G) m c)(hn:aD C=m*size)(hc:∀j u,C[j]?=aX u->aE w (G.add j)=aX u)(gm:∀u∈C,u.oneCell'=true)(O:n+m<=maxLen)(b2:(n+m)*A<=140737488355328)(g7:ae<=w.heap.size)(hK:∀v' w',aH w' ae e size v' (n+m) (xs++C)->w.grownBy w' (aI v)->(aI v'=aI v\/aI v'=aX w.heap.size)->K (a.put o.dst v') w'):if Region.wanted o (yielded M a.tmps)=true then Oper.wp P o a w K Q else E:=by
 have hw:Region.wanted o (yielded M a.tmps)=true:=by simp[Region.wanted,hg]
 rw[if_pos hw];have⟨v',w',ig,r1,r2,_,r3⟩:=run_append_own_at (P:=P) w ae t o.type e i z size A h1 h2 h3 h4 h5 h6 h7 v n xs qt G m c C hn hc gm O b2 g7;unfold Oper.wp;simp[execOp,g9,resolve,invoke,builtin,hs,hx,ig,Result.andThen];exact hK v' w' r1 r2 r3
