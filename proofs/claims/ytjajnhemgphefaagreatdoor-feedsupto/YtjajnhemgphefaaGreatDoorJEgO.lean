/- A part -/
import Derived.Test.YtjajnhemgphefaaGreatDoorJWyG
import Derived.Lib.ItoaNum
set_option linter.all false
set_option maxRecDepth 100000
set_option maxHeartbeats 4000000
open List renaming length->aB,length_append->bB,mem_flatMap->bC,length_cons->bD,mem_map->bE,flatMap_cons->bF,getElem_append_left->bG,mem_append->bI
open Go.World renaming cell?->aC,frozen?->aD,ownsRow->aE
open Go.Value renaming ownBlock->aF,slice->aH,string->aI,agg->aJ,bool->aK,tuple->aL,int->aM
open Go.Obj renaming cells->aN
open Go.Ending renaming returned->aO
open Go.IntKind renaming i64->aP
open Or renaming inl->aQ,inr->aR
open Option renaming some->aV,none->aW
open Go.Calls renaming mono->aX
open Nat renaming le_trans->aY,lt_of_lt_of_le->aZ,mul_le_mul->bH
open Go.RowKit.Below renaming refl->bJ,heap_alloc->bQ
open Go.RowKit renaming Below->bL
open Go renaming TypeId->bO
namespace Go.Proofs.YtjajnhemgphefaaGreatDoor
open Go renaming World->Wq,Value->Vq
open Go.RowKit Go.Shelf Go.Maps
variable {rs:List Rl} {r:Rl} {rels ns:List ByteArray}
theorem xo{l:List Am}{x:List UInt8}{n:Nat}(h:fB l x=aV n):∃a∈l,a.rel.data.toList=x/\aB a.args=n:=by
 unfold fB at h
 cases hf:l.find? (λa=>a.rel.data.toList == x) with
 |none=>rw[hf] at h;cases h
 |some a=>grind
theorem og(h:jv rs)(x:ByteArray):dH rs x=1\/dH rs x=2\/dH rs x=0:=by
 unfold dH
 cases ha:fB (rs.flatMap qz) x.data.toList with
 |none=>exact aR (aR rfl)
 |some n=>
  have⟨a,h1,_,h3⟩:=xo ha;rcases (h.arity a h1).2 with e|e
  .grind
  .grind
theorem o5(d:r∈rs):r.head∈rs.flatMap qz:=bC.2 ⟨r,d,by simp[qz]⟩
theorem xl(z:r∈rs){a:Am}(d:a∈r.body):a∈rs.flatMap qz:=bC.2 ⟨r,z,by simp[qz,d]⟩
theorem pL(h:jv rs):∀r∈rs,oV (dH rs) r/\r.head.args≠[]:=λr d=>
 ⟨⟨⟨(h.arity _ (o5 d)).1,h.nums _ (o5 d)⟩,λa z=>⟨(h.arity _ (xl d z)).1,h.nums _ (xl d z)⟩,h.safe r d⟩,λe=>by
  have:=(h.arity _ (o5 d)).2
  rw[e] at this;simp at this⟩
theorem qY{n:Nat}(h:n<=1200):n<=maxLen:=aY h (by unfold maxLen;decide)
theorem Fz(h:jv rs):∀r∈rs,wN r:=λr A=>
 have d:=h.rok r A
 ⟨⟨λa z=>(d.ams a z).args,λa z=>h.nums _ (xl A z),λa z=>qY (d.ams a z).rel⟩,d.body,d.head.args,h.nums _ (o5 A),qY d.head.rel,λt C=>qY (d.head.tms t C).name⟩
theorem t7(h:jv rs):∀x∈gF rs,x.size<=1200:=by
 intro x C;obtain⟨a,A,rfl⟩:=bE.1 C;have⟨r,hr,d⟩:=bC.1 A;have z:=h.rok r hr;simp only[qz,List.mem_cons] at d;rcases d with rfl|d
 .exact z.head.rel
 .exact (z.ams a d).rel
theorem Eu(h:jv rs):aB (rs.flatMap qz)<=32:=by
 have z:∀l:List Rl,(∀r∈l,iS r)->aB (l.flatMap qz)<=aB l*4:=by
  intro l
  induction l with
  |nil=>intro _;simp
  |cons r l ih=>intro d;have:=(d r (by simp)).body;have:=ih (λq A=>d q (by simp[A]));rw[bF,bB,bD];simp only[qz,bD];omega
 have:=z rs h.rok;have:=h.r8;omega
theorem JD(h:jv rs){ns:List ByteArray}(A:aB ns<=8):aB (gD (gF rs) ns)<=2400:=by
 rw[Em];have d:aB (gF rs)<=32:=by grind [gF,Eu]
 have z:aB ns*(aB ns+1)<=8*9:=bH A (by omega);have:=bH d z;omega
theorem xJ(h:jv rs){ns:List ByteArray}(A:∀x∈ns,x.size<=1200){g:Gd}(z:g∈gD (gF rs) ns):g.rel.size<=1200/\g.x.size<=1200/\g.y.size<=1200:=by
 have⟨h1,h2,d⟩:=lF.1 z;refine⟨t7 h _ h1,A _ h2,?_⟩;rcases d with d|d
 .rw[d];decide
 .grind
def tq(rs:List Rl)(ns:List ByteArray)(F:List (Gd×Int)):Prop:=aB F<=1000/\∀x∈F,x.1∈gD (gF rs) ns/\eO (dH rs) x.1/\0<=x.2/\x.2<=2000000
theorem Ak(h:jv rs){ns:List ByteArray}(O:∀r∈rs,∀t∈r.head.args,t.name≠eB->t.name∈ns):∀x∈Qx rs,x.1∈gD (gF rs) ns/\eO (dH rs) x.1:=by
 intro x d;unfold Qx at d;have⟨r,hr,d⟩:=List.mem_filterMap.1 d;split at d
 .rename_i C;cases d;have z:=pL h r hr;have E:=xh (og h) z.1 z.2 (p:=Qs) (by rw[C];simp)
  have A:∀t∈r.head.args,dI Qs t∈ns:=by
   intro t M;by_cases G:t.name=eB;{have⟨a,ha,_⟩:=h.safe r hr t M G;rw[C] at ha;simp at ha};{grind [mi]}
  refine⟨lF.2 ⟨bE.2 ⟨r.head,o5 hr,rfl⟩,?_,?_⟩,E⟩
  .show fM Qs r.head.args∈ns
   match ha:r.head.args,z.2 with
   |t::l,_=>exact A t (by rw[ha];simp)
  .show fK Qs r.head.args=eB\/fK Qs r.head.args∈ns
   match ha:r.head.args,z.2 with
   |[t],_=>exact aQ rfl
   |t::u::l,_=>exact aR (A u (by rw[ha];simp))
 .cases d
theorem yo(h:jv rs){ns:List ByteArray}(G:aB ns<=8)(M:∀x∈ns,x.size<=1200)(E:∀r∈rs,∀t∈r.head.args,t.name≠eB->t.name∈ns){F:List (Gd×Int)}(z:tq rs ns F):zv (dH rs) rs F (gD (gF rs) ns):=by
 have A:∀x∈F++Qx rs,x.1∈gD (gF rs) ns/\eO (dH rs) x.1:=by
  intro x d;rcases bI.1 d with d|d
  .exact⟨(z.2 x d).1,(z.2 x d).2.1⟩
  .grind [Ak]
 have C:=FA (rels:=gF rs) (NS:=ns) (λx d=>qY (t7 h x d)) (λx d=>qY (M x d));exact⟨og h,pL h,Fz h,h.r8,λx d=>⟨(A x d).2,C _ (A x d).1⟩,λx d=>(A x d).1,λx d=>(z.2 x d).2.2,Ah (pL h) (λr O=>bE.2 ⟨r.head,o5 O,rfl⟩) E,C,JD h G,z.1⟩
theorem uC(h:jv rs){ns:List ByteArray}(G:∀r∈rs,∀t∈r.head.args,t.name≠eB->t.name∈ns){F:List (Gd×Int)}(E:tq rs ns F){M:Gd->Option Int}(O:ia rs (F++Qx rs) M):∀g,(M g).isSome=true->eO (dH rs) g/\g∈gD (gF rs) ns:=by
 intro g Z;have⟨t,ht⟩:=Option.isSome_iff_exists.1 Z;refine O.sound g t ht (t-1) (by omega) (λg=>eO (dH rs) g/\g∈gD (gF rs) ns) (λx z _=>?_) (λr d h0 p C=>?_)
 .rcases bI.1 z with z|z
  .exact⟨(E.2 x z).2.1,(E.2 x z).1⟩
  .grind [Ak]
 .exact⟨xh (og h) (pL h r d).1 (pL h r d).2 (λa A=>(C a A).1),Ah (pL h) (λr d=>bE.2 ⟨r.head,o5 d,rfl⟩) G r d h0 p (λa A=>⟨(C a A).2,(C a A).1⟩)⟩
theorem yU{d:List ByteArray}(h:∀x∈ns,x∈d){g:Gd}(z:g∈gD rels ns):g∈gD rels d:=by have⟨h1,h2,h3⟩:=lF.1 z;exact lF.2 ⟨h1,h _ h2,h3.imp id (h _)⟩
theorem xS{M:Gd->Option Int}{a:Am}{gs:List Gd}(h:nB M a gs)(A:∀g,(M g).isSome=true->g∈gD rels ns)(z:aB ns<=8):aB gs<=72:=by
 obtain⟨ks,E,G,rfl⟩:=h
 have O:aB ks<=aB (ns.flatMap λx=>(eB::ns).map λy=>(x,y)):=by
  refine List.Nodup.length_le_of_subset E (λk C=>?_);have⟨_,_,d⟩:=(G k.1 k.2).1 C;have⟨_,m2,m3⟩:=lF.1 (A _ d);refine bC.2 ⟨k.1,m2,bE.2 ⟨k.2,?_,rfl⟩⟩;rcases m3 with e|e
  .grind
  .grind
 have Z:aB (ns.flatMap λx=>(eB::ns).map λy=>(x,y))=aB ns*(aB ns+1):=by
  have:∀(l m:List ByteArray),aB (l.flatMap λx=>m.map λy=>(x,y))=aB l*aB m:=by
   intro l m
   induction l with
   |nil=>simp
   |cons x l ih=>rw[bF,bB,ih,List.length_map,bD,Nat.succ_mul];omega
  rw[this];rfl
 have d:aB ns*(aB ns+1)<=8*9:=bH z (by omega);have h4:aB ((ks.filterMap (λk=>Q6 Qs a k.1 k.2)).map (λp=>qb p a))<=aB ks:=by grind
 omega
end Go.Proofs.YtjajnhemgphefaaGreatDoor
namespace Go.Proofs.YtjajnhemgphefaaGreatDoor
open Go renaming World->Wq,Value->Vq
open Go.RowKit Go.Shelf
def DP(t:Tm):List UInt8:=if t.name.toList.isEmpty=true then 88::Lib.decDigits t.num else t.name.data.toList
def xX:Nat->List Tm->List UInt8
 |_,[]=>[]
 |i,t::l=>(if i=0 then [] else [44])++DP t++xX (i+1) l
def AR(a:Am):List UInt8:=a.rel.data.toList++40::xX 0 a.args++[41]
def AP:Nat->List Am->List UInt8
 |_,[]=>[]
 |i,a::l=>(if i=0 then [32,58,45,32] else [44,32])++AR a++AP (i+1) l
def JQ(r:Rl):List UInt8:=AR r.head++AP 0 r.body++[46,10]
def uX(rs:List Rl):List UInt8:=rs.flatMap JQ
theorem Dj(v:Vq)(rs:List Rl)(Z ac ad:Nat)(w:Wq)(C:Qn w Z ac ad v rs)(M:∀g,aF v=aV g->g<w.heap.size)(h8:aB rs<=8)(O:∀r∈rs,iS r):Cs 61 #[v] w λe w'=>e=aO (aL #[Ii (jP rs).1,Ii (jP rs).2])/\bL w.heap.size w w':=by
 have h1:=F2 v rs Z ac ad w C M h8 O;have h2:∀W,bL w.heap.size w W->Cs 101 #[v,.func (.func 102) #[] #[]] W λe w'=>e=aO (Ii (mP rs))/\bL w.heap.size w w':=λW d=>(Iw v rs Z ac ad W (C.rk (qf.ofBelow d)) (λg hg=>aZ (M g hg) d.size) h8 O).mono (λe w' h=>⟨h.1,d.trans (h.2.mono d.size)⟩);have h3:∀W,bL w.heap.size w W->Cs 103 #[v] W λe w'=>e=aO (Ii (jo [] 0 rs))/\bL w.heap.size w w':=λW d=>(Hv v rs Z ac ad W (C.rk (qf.ofBelow d)) (λg hg=>aZ (M g hg) d.size) h8 O).mono (λe w' h=>⟨h.1,d.trans (h.2.mono d.size)⟩);obtain⟨a,c,rfl⟩:=C.form;have ay:Hid (jP rs=if 0<=iW [] 0 rs then (4,iW [] 0 rs) else if 0<=mP rs then (5,mP rs) else if 0<=jo [] 0 rs then (3,jo [] 0 rs) else (0,0)):=rfl;have G:Hid _:=h1;have H2:Hid _:=h2;have H3:Hid _:=h3;clear h1 h2 h3 C M O;generalize iW [] 0 rs=ar at *;generalize mP rs=fu at *;generalize jo [] 0 rs=mn at *;generalize jP rs=cs at *;by_cases E:0<=ar
 .have z:Hid (cs=(4,ar)):=by show _=_;rw[ay.o,if_pos E]
  go_enter Tryz.func61,Tryz.ntmps61;go_wp2_with fail;refine aX G.o ?_;rintro e w1 ⟨rfl,ae⟩;go_wp2;go_ret2;rw[z.o];exact⟨rfl,ae⟩
 have dz:¬(0<=ar):=E;by_cases hu:0<=fu
 .have z:Hid (cs=(5,fu)):=by show _=_;rw[ay.o,if_neg E,if_pos hu]
  go_enter Tryz.func61,Tryz.ntmps61;go_wp2_with fail;refine aX G.o ?_;rintro e w1 ⟨rfl,ae⟩;go_wp2_with fail;refine aX (H2.o w1 ae) ?_;rintro e w2 ⟨rfl,A⟩;go_wp2;go_ret2;rw[z.o];exact⟨rfl,A⟩
 by_cases hm:0<=mn
 .have z:Hid (cs=(3,mn)):=by show _=_;rw[ay.o,if_neg E,if_neg hu,if_pos hm]
  go_enter Tryz.func61,Tryz.ntmps61;go_wp2_with fail;refine aX G.o ?_;rintro e w1 ⟨rfl,ae⟩;go_wp2_with fail;refine aX (H2.o w1 ae) ?_;rintro e w2 ⟨rfl,A⟩;go_wp2_with fail;refine aX (H3.o w2 A) ?_;rintro e w3 ⟨rfl,b8⟩;go_wp2;go_ret2;rw[z.o];exact⟨rfl,b8⟩
 .have z:Hid (cs=(0,0)):=by show _=_;rw[ay.o,if_neg E,if_neg hu,if_neg hm]
  go_enter Tryz.func61,Tryz.ntmps61;go_wp2_with fail;refine aX G.o ?_;rintro e w1 ⟨rfl,ae⟩;go_wp2_with fail;refine aX (H2.o w1 ae) ?_;rintro e w2 ⟨rfl,A⟩;go_wp2_with fail;refine aX (H3.o w2 A) ?_;rintro e w3 ⟨rfl,b8⟩;go_wp2;go_ret2;rw[z.o];exact⟨rfl,b8⟩
def lp(s:ByteArray):List UInt8×Int×Int:=
 if 300<Lib.runeCount s then ([],1,0)
 else match jA s with
  |.error (c,p)=>([],c,p)
  |.ok rs=>if (jP rs).1=0 then (uX rs,0,0) else ([],(jP rs).1,(jP rs).2)
theorem FP(s:ByteArray)(c:Int)(p:Nat)(h:jA s=.error (c,p)):c≠0:=by grind [jA,tU]
def EA(s:ByteArray)(w:Wq)(e:Ending)(w':Wq):Prop:=
 bL w.heap.size w w'/\((∃c p:Int,e=aO (aL #[aH aW 0 0,aM aP c,aM aP p])/\c≠0/\lp s=([],c,p))\/
  (∃rs v ac ad,e=aO (aL #[v,aM aP 0,aM aP 0])/\Qn w' w.heap.size ac ad v rs/\aB rs<=8/\(∀r∈rs,iS r)/\lp s=(if (jP rs).1=0 then (uX rs,0,0) else ([],(jP rs).1,(jP rs).2))/\jA s=.ok rs))
theorem DS(s:ByteArray)(w:Wq)(hs:s.size<=4611686018427387904)(A:Lib.Utf8Tabs 0 1 w):Cs 60 #[St s] w (EA s w):=by
 by_cases z:300<Lib.runeCount s
 .refine (G9 s w hs z).mono ?_;rintro e w' ⟨rfl,d⟩;exact⟨d,aQ ⟨1,0,rfl,by decide,by unfold lp;rw[if_pos z]⟩⟩
 .refine (I2 s w (by omega) A).mono ?_;rintro e w' ⟨d,h⟩;refine⟨d,?_⟩
  cases hp:jA s with
  |error cp=>grind [FP,lp]
  |ok rs=>grind [lp]
theorem sy{W:Wq}{d ac ad:Nat}{v:Vq}{rs:List Rl}(h:Qn W d ac ad v rs):∀g,aF v=aV g->g<W.heap.size:=by intro g z;have⟨qs,r1,r2,r3⟩:=h;have⟨_,c,hc⟩:=qd r2 z;exact (zg hc).1
def EX(s:ByteArray)(w:Wq)(e:Ending)(w':Wq):Prop:=
 bL w.heap.size w w'/\((∃c p:Int,e=aO (aL #[aH aW 0 0,aM aP c,aM aP p])/\c≠0/\lp s=([],c,p))\/
  (∃rs v ac ad,e=aO (aL #[v,aM aP 0,aM aP 0])/\Qn w' w.heap.size ac ad v rs/\aB rs<=8/\(∀r∈rs,iS r)/\lp s=(uX rs,0,0)/\jA s=.ok rs/\(jP rs).1=0))
theorem Cc(s:ByteArray)(w:Wq)(hs:s.size<=4611686018427387904)(hT:Lib.Utf8Tabs 0 1 w):Cs 30 #[St s] w (EX s w):=by
 have h1:=DS s w hs hT;have H1:=aA h1;clear h1;go_enter Tryz.func30,Tryz.ntmps30;go_wp2_with fail;refine aX H1.o ?_;rintro e w1 ⟨ae,⟨c,p,rfl,M,z⟩|⟨rs,v,ac,ad,rfl,d,h8,E,z,cu⟩⟩
 .have du:(c == 0)=false:=by{simp[M]};have A:=aA z;have de:=aA M;clear z M;go_wp2
  go_ret3
  exact⟨ae,aQ ⟨c,p,rfl,de.o,A.o⟩⟩
 .obtain⟨va,vc,rfl⟩:=d.form;have Z:=Dj _ rs _ ac ad w1 d (sy d) h8 E;have cz:=aA Z;have A:=aA z;have dq:=aA d;have ca:=aA E;have cx:=aA cu;clear Z z d E cu;generalize ay:jP rs=cs at *;have⟨ce,cn⟩:=cs;have di:=aA ay;clear ay;go_wp2_with fail;refine aX cz.o ?_;rintro e w2 ⟨rfl,G⟩;simp only;by_cases C:ce=0
  .subst C;go_wp2
   go_ret3
   refine⟨ae.trans (G.mono ae.size),aR ⟨rs,_,ac,ad,rfl,Qn.rk dq.o (qf.ofBelow G),h8,ca.o,?_,cx.o,by rw[di.o]⟩⟩;exact A.o
  .have Ql2:(ce == 0)=false:=by{simp[C]};have O:=aA C;clear C;go_wp2
   go_ret3
   refine⟨ae.trans (G.mono ae.size),aQ ⟨ce,cn,rfl,O.o,?_⟩⟩;have:=A.o;rw[if_neg O.o] at this;exact this
end Go.Proofs.YtjajnhemgphefaaGreatDoor
namespace Go.Proofs.YtjajnhemgphefaaGreatDoor
open Go renaming World->Wq,Value->Vq
open Go.RowKit Go.Shelf Go.Maps
variable {W W' w' w1:Wq} {S:Nat->Prop} {be bm rb ac ad k j:Nat} {e:Eg} {vr vn vk vf vn' v':Vq} {aa:List Nat} {Sf:Nat->Nat->Prop}
def iH(rs:List Rl)(a:Am):Int:=if dH rs a.rel=0 then 7 else if dH rs a.rel=aB a.args then 0 else 4
theorem fR.lt(h:fR W S be e vr vn vk vf bm rb ac ad aa Sf):be<W.heap.size:=(zg h.blk).1
theorem Fx(S:Nat->Prop)(be:Nat)(e:Eg)(w:Wq)(h:gN w S be e)(hr:jv e.rs)(a:Am)(va:Vq)(A:Option Addr)(C:Nat)(dh:va=aH A (aB a.args) C)(hl:aB a.args<=2):Cs 42 #[Pt be,aJ #[St a.rel,va]] w λen w'=>en=aO (Ii (iH e.rs a))/\bL w.heap.size w w':=by
 have⟨vr,vn,vk,vf,bm,rb,ac,ad,aa,Sf,hv⟩:=h;subst dh;have bq:=hv.lt;have ak:∀O,bL w.heap.size w (w.alloc O):=λO=>(bJ _ w).alloc zl O;have E:Hid (∀W,bL w.heap.size w W->Cs 53 #[vr,St a.rel] W λe' w'=>e'=aO (Ii (dH e.rs a.rel))/\bL W.heap.size W w'):=λW z=>by have cv:=hv.below z;exact AK vr e.rs a.rel rb ac ad _ cv.rules (sy cv.rules) hr.r8 hr.rok
 have⟨ra,rc,dg⟩:=hv.rules.form;subst dg;have Z:=hv.blk;have c0:∀O,aC (w.alloc O) (Ad be 0)=aV (aH ra (aB e.rs) rc):=λO=>cell_later (ak O) (by simp[aC,Z]);have d:Hid (iH e.rs a=if dH e.rs a.rel=0 then 7 else if dH e.rs a.rel=aB a.args then 0 else 4):=rfl;have G:Hid (∀W1,bL (w.alloc (aN #[St a.rel,aH A (aB a.args) C] 92)).drew.heap.size (w.alloc (aN #[St a.rel,aH A (aB a.args) C] 92)).drew W1->aC W1 (Ad w.heap.size 1)=aV (aH A (aB a.args) C)/\bL w.heap.size w W1):=λW1 z=>by have:=(z.block w.heap.size (by show _<(w.alloc _).heap.size;simp)).trans (zn w _);exact⟨zc this,((ak _).drew).trans (z.mono (by show _<=(w.alloc _).heap.size;simp))⟩
 clear hv Z;generalize hn:dH e.rs a.rel=n at *;clear hn;by_cases h0:n=0
 .subst h0;rw[if_pos rfl] at d;rw[d.o];go_enter Tryz.func42,Tryz.ntmps42;go_wp2_with fail
  go_region_with (go_at_call 53;refine (E.o _ ((ak _).drew)).mono ?_;rintro e' W1 ⟨rfl,ae⟩;have⟨d1,a8⟩:=G.o W1 ae)
  all_goals go_wp2
  all_goals go_ret
  all_goals exact⟨rfl,a8⟩
 .rw[if_neg h0] at d;have dv:((n:Int) == 0)=false:=by simp[h0]
  have Qgb:¬(n:Int)=0:=by omega
  by_cases M:n=aB a.args
  .rw[if_pos M] at d;rw[d.o];subst M;clear d;go_enter Tryz.func42,Tryz.ntmps42;go_wp2_with fail
   go_region_with (go_at_call 53;refine (E.o _ ((ak _).drew)).mono ?_;rintro e' W1 ⟨rfl,ae⟩;have⟨d1,a8⟩:=G.o W1 ae)
   all_goals go_wp2
   all_goals go_ret
   all_goals exact⟨rfl,a8⟩
  .rw[if_neg M] at d;rw[d.o];have dy:((n:Int) == (aB a.args:Int))=false:=by simp;omega
   have Qlz:¬(n:Int)=(aB a.args:Int):=by omega
   clear d;go_enter Tryz.func42,Tryz.ntmps42;go_wp2_with fail
   go_region_with (go_at_call 53;refine (E.o _ ((ak _).drew)).mono ?_;rintro e' W1 ⟨rfl,ae⟩;have⟨d1,a8⟩:=G.o W1 ae)
   all_goals go_wp2
   all_goals go_ret
   all_goals exact⟨rfl,a8⟩
def so(gs:List Gd):List (List UInt8):=fO (gs.map (λg=>(dY g).data.toList))
theorem uj(h:dV e)(rel x y:ByteArray)(d:(e.M ⟨rel,x,y⟩).isSome=true):x.size<=2000/\y.size<=2000:=by have:=xJ h.rs h.nsz (h.md _ d).2;exact⟨aY this.2.1 (by decide),aY this.2.2 (by decide)⟩
theorem fR.put{e':Eg}{vk':Vq}{bm':Nat}(h:fR W S be e vr vn vk vf bm rb ac ad aa Sf)(hc:dD W W' (λk=>k=be\/vk.ownBlock=some k))(dm:e'.rs=e.rs)(b3:e'.fds=e.fds)(blk:W'.heap[be]?=some (Obj.cells #[vr,.int .i64 e'.win,.int .i64 e'.lat,.int .i64 e'.que,.int .i64 e'.mark,vn',vk',.map (some bm'),vf] 101))(names:W'.ownsRow 0 9 1 vn' e'.names.length (e'.names.map Value.string))(kept:W'.ownsRow 0 161 4 vk' e'.kept.length (e'.kept.flatMap qx))(md:eT W' bm' 5000 e'.M) :
  fR W' (λk=>(S k/\vk.ownBlock≠some k)\/vk'.ownBlock=some k\/vn'.ownBlock=some k) be e' vr vn' vk' vf bm' rb ac ad aa Sf:=by
 have ao:∀(j:Nat) (c:Array Vq) (t:TypeId),W.heap[j]?=some (Obj.cells c t (0,0))->t≠101->t≠161->¬(j=be\/vk.ownBlock=some j):=by
  rintro j c t hj h1 h2 (rfl | hs)
  .rw[h.blk] at hj;cases hj;exact h1 rfl
  .obtain⟨_,c',ab⟩:=qd h.kept hs;rw[hj] at ab;cases ab;exact h2 rfl
 have aw:∀(j:Nat) (c:Array Vq) (t:TypeId),W.heap[j]?=some (Obj.cells c t (0,0))->t≠101->t≠161->W'.heap[j]?=some (Obj.cells c t (0,0)):=λj c t hj h1 h2=>(hc.block j (zg hj).1 (ao j c t hj h1 h2)).trans hj
 have hF:∀j,ko W j->¬(j=be\/vk.ownBlock=some j):=by
  rintro j ⟨c,t,h1,h2⟩;exact ao j c t h1 (by grind) (by grind)
 have hv:∀g,vf.ownBlock=some g->¬(g=be\/vk.ownBlock=some g):=by
  intro g hg;obtain⟨_,c,ab⟩:=qd h.frow hg;exact ao g c _ ab (by decide) (by decide)
 have au:vk.ownBlock≠some be:=λhs=>by
  obtain⟨_,c,ab⟩:=qd h.kept hs;rw[h.blk] at ab;cases ab
 refine⟨blk,?_,names,kept,md,by rw[b3];exact h.len,qn h.frow (λg hg ax=>hc.block g ax (hv g hg)),λi hi cg=>?_,h.sep,λi k hk=>⟨.inl ⟨(h.sub i k hk).1,λe=>hF k (h.sub i k hk).2 (.inr e)⟩,(h.sub i k hk).2.same (hc.block k (h.sub i k hk).2.lt (hF k (h.sub i k hk).2))⟩,⟨.inl ⟨h.own.1,au⟩,λg hg=>.inr (.inl hg),λg hg=>.inl ⟨h.own.2.2.1 g hg,λe=>hv g hg (.inr e)⟩,λg hg=>.inr (.inr hg)⟩,λk hk=>?_⟩
 .rw[dm];exact h.rules.keep (λj c t ht hj=>aw j c t hj (by grind) (by grind))
 .obtain⟨b,hf⟩:=h.feed i hi (by grind);refine⟨b,?_⟩;have he:e'.fds[i]'cg=e.fds[i]'(by grind):=by grind
  rw[he];exact hf.keep (ex:=λk=>k=be\/vk.ownBlock=some k) hc.block (λk hs=>hF k (h.sub i k hs).2) (λk c hj=>ao k c _ hj (by decide) (by decide))
 .rcases hk with⟨h1,h2⟩ | hk | hk
  .by_cases a9:k=be
   .subst a9;exact⟨_,_,blk,.inl rfl⟩
   .exact (h.typ k h1).same (hc.block k (h.typ k h1).lt (λe=>e.elim a9 h2))
  .obtain⟨_,c,ab⟩:=qd kept hk;exact⟨_,_,ab,.inr (.inl rfl)⟩
  .obtain⟨_,c,ab⟩:=qd names hk;exact⟨_,_,ab,.inr (.inr (.inr (.inr (.inr rfl))))⟩
theorem fR.addFeed{vf':Vq}(h:fR W S be e vr vn vk vf bm rb ac ad aa Sf){B b:Nat}{f:Fs}{SB:Nat->Prop}(hc:dD W W' (λk=>k=be\/vf.ownBlock=some k))(blk:W'.heap[be]?=some (Obj.cells #[vr,.int .i64 e.win,.int .i64 e.lat,.int .i64 e.que,.int .i64 e.mark,vn,vk,.map (some bm),vf'] 101))(frow:W'.ownsRow 0 120 1 vf' (aa.length+1) ((aa++[B]).map lD))(hf:dZ W' SB B b f)(cb:∀k,SB k->W.heap.size<=k/\ko W' k) :
  fR W' (λk=>((S k/\vf.ownBlock≠some k)\/vf'.ownBlock=some k)\/SB k) be {e with fds:=e.fds++[f]} vr vn vk vf' bm rb ac ad (aa++[B]) (λi k=>if i=aa.length then SB k else Sf i k):=by
 have ao:∀(j:Nat) (c:Array Vq) (t:TypeId),W.heap[j]?=some (Obj.cells c t (0,0))->t≠101->t≠120->¬(j=be\/vf.ownBlock=some j):=by
  rintro j c t hj h1 h2 (rfl | hs)
  .rw[h.blk] at hj;cases hj;exact h1 rfl
  .obtain⟨_,c',ab⟩:=qd h.frow hs;rw[hj] at ab;cases ab;exact h2 rfl
 have aw:∀(j:Nat) (c:Array Vq) (t:TypeId),W.heap[j]?=some (Obj.cells c t (0,0))->t≠101->t≠120->W'.heap[j]?=some (Obj.cells c t (0,0)):=λj c t hj h1 h2=>(hc.block j (zg hj).1 (ao j c t hj h1 h2)).trans hj
 have hF:∀j,ko W j->¬(j=be\/vf.ownBlock=some j):=by
  rintro j ⟨c,t,h1,h2⟩;exact ao j c t h1 (by grind) (by grind)
 have hv:∀g,vk.ownBlock=some g->¬(g=be\/vf.ownBlock=some g):=by
  intro g hg;obtain⟨_,c,ab⟩:=qd h.kept hg;exact ao g c _ ab (by decide) (by decide)
 have dp:∀g,vn.ownBlock=some g->¬(g=be\/vf.ownBlock=some g):=by
  intro g hg;obtain⟨_,c,ab⟩:=qd h.names hg;exact ao g c _ ab (by decide) (by decide)
 have au:vf.ownBlock≠some be:=λhs=>by
  obtain⟨_,c,ab⟩:=qd h.frow hs;rw[h.blk] at ab;cases ab
 refine⟨blk,h.rules.keep (λj c t ht hj=>aw j c t hj (by grind) (by grind)),Qc h.names (λg c _ hj=>aw g c _ hj (by decide) (by decide)),qn h.kept (λg hg ax=>hc.block g ax (hv g hg)),h.md.kept (λj es c hm=>(hc.block j (zg hm).1 (λhs=>?_)).trans hm),by simp[h.len],by rw[List.length_append];exact frow,λi hi cg=>?_,λi j a7 k h1 h2=>?_,λi k hk=>?_,⟨.inl (.inl ⟨h.own.1,au⟩),λg hg=>.inl (.inl ⟨h.own.2.1 g hg,λe=>hv g hg (.inr e)⟩),λg hg=>.inl (.inr hg),λg hg=>.inl (.inl ⟨h.own.2.2.2 g hg,λe=>dp g hg (.inr e)⟩)⟩,λk hk=>?_⟩
 .rcases hs with rfl | hs
  .rw[h.blk] at hm;cases hm
  .obtain⟨_,c',ab⟩:=qd h.frow hs;rw[hm] at ab;cases ab
 .have ct:=h.len;by_cases az:i=aa.length
  .subst az;refine⟨b,?_⟩;have e1:(aa++[B])[aa.length]'hi=B:=by simp
   have e2:(e.fds++[f])[aa.length]'cg=f:=by simp[ct]
   rw[e1,e2];simpa using hf
  .have ch:i < aa.length:=by simp at hi;omega
   obtain⟨b',bv⟩:=h.feed i ch (by omega);refine⟨b',?_⟩;have e1:(aa++[B])[i]'hi=aa[i]:=List.getElem_append_left ch;have e2:(e.fds++[f])[i]'cg=e.fds[i]'(by omega):=List.getElem_append_left (by omega);rw[e1,e2];simp only[if_neg az];exact bv.keep (ex:=λk=>k=be\/vf.ownBlock=some k) hc.block (λk hs=>hF k (h.sub i k hs).2) (λk c hj=>ao k c _ hj (by decide) (by decide))
 .by_cases az:i=aa.length
  .have bi:j≠aa.length:=by omega
   simp only[if_pos az] at h1;simp only[if_neg bi] at h2;have:=(cb k h1).1;have:=(h.sub j k h2).2.lt;omega
  .simp only[if_neg az] at h1;by_cases bi:j=aa.length
   .simp only[if_pos bi] at h2;have:=(cb k h2).1;have:=(h.sub i k h1).2.lt;omega
   .simp only[if_neg bi] at h2;exact h.sep i j a7 k h1 h2
 .by_cases az:i=aa.length
  .grind
  .simp only[if_neg az] at hk;have hs:=h.sub i k hk;exact⟨.inl (.inl ⟨hs.1,λe=>hF k hs.2 (.inr e)⟩),hs.2.same (hc.block k hs.2.lt (hF k hs.2))⟩
 .rcases hk with (⟨h1,h2⟩ | hk) | hk
  .by_cases a9:k=be
   .subst a9;exact⟨_,_,blk,.inl rfl⟩
   .exact (h.typ k h1).same (hc.block k (h.typ k h1).lt (λe=>e.elim a9 h2))
  .obtain⟨_,c,ab⟩:=qd frow hk;exact⟨_,_,ab,.inr (.inr (.inl rfl))⟩
  .exact (cb k hk).2.w
def Qm(S:Nat->Prop)(be:Nat)(e':Eg)(w w':Wq):Prop:=∃S',gN w' S' be e'/\(∀k,S' k->S k\/w.heap.size<=k)/\dD w w' S
theorem Qm.same{w:Wq}(h:gN w S be e)(d:bL w.heap.size w w'):Qm S be e w w':=⟨S,h.below d,λ_ z=>aQ z,dD.ofBelow _ d⟩
theorem Qm.trans{w w2:Wq}{A C:Eg}(h:Qm S be A w w1)(k:∀d,gN w1 d be A->Qm d be C w1 w2):Qm S be C w w2:=by
 have⟨d,h1,h2,h3⟩:=h;have⟨S2,k1,k2,k3⟩:=k d h1;refine⟨S2,k1,λj z=>?_,k3.os.trans h3.os,k3.tape.trans h3.tape,k3.output.trans h3.output,aY h3.size k3.size,λj z hs=>(k3.block j (aZ z h3.size) (λe=>?_)).trans (h3.block j z hs)⟩
 .rcases k2 j z with e|e
  .exact h2 j e
  .exact aR (aY h3.size e)
 .grind
theorem E8{w W5:Wq}{nb:Nat}(hv:fR w S be e vr vn vk vf bm rb ac ad aa Sf)(E:bL w.heap.size w W5){ns:List ByteArray}(dd:w.heap.size<=nb)(a6:aE W5 nb 9 1 vn' (aB ns) (ns.map aI)){d:Gd×Int}(O:Obj)(am:aE w1 0 161 4 v' (aB e.kept+1) (e.kept.flatMap qx++qx d))(bc:((W5.setCell (Ad be 5) vn').alloc O).grownBy w1 (aF vk))(cc:aF v'=aF vk\/aF v'=aV ((W5.setCell (Ad be 5) vn').alloc O).heap.size):aC w1 (Ad be 6)=aV vk/\aD w1 (Ad be 6)=false/\Qm S be {e with names:=ns,kept:=e.kept++[d]} w (w1.setCell (Ad be 6) v'):=by
 have z:=hv.below E;have bq:=(zg z.blk).1;have au:aF vk≠aV be:=λhs=>by have⟨_,c,ab⟩:=qd z.kept hs;rw[z.blk] at ab;cases ab
 have ci:((W5.setCell (Ad be 5) vn').alloc O).heap.size=W5.heap.size+1:=by simp
 have Z:w1.heap[be]?=cC #[vr,Ii e.win,Ii e.lat,Ii e.que,Ii e.mark,vn',vk,.map (aV bm),vf] 101:=by refine (bc.block be (by grind) (λe=>au e.symm)).trans ?_;exact (bQ _ _ _ (by simp_all)).trans (qw z.blk 5 vn')
 have cf:dD W5 w1 (λk=>k=be\/aF vk=aV k):=(((dD.refl W5 _).setCell (Ad be 5) vn' (λ_=>aQ rfl)).alloc O).grown bc (λk G _=>aR G);have C:dD W5 (w1.setCell (Ad be 6) v') (λk=>k=be\/aF vk=aV k):=cf.setCell (Ad be 6) v' (λ_=>aQ rfl)
 have al:∀(k:Nat) (c:Array Vq) (t:bO),W5.heap[k]?=cC c t->t≠101->t≠161->¬(k=be\/aF vk=aV k):=by
  rintro j c t hj A h2 (rfl|hs);{rw[z.blk] at hj;cases hj;exact A rfl};{have⟨_,c',ab⟩:=qd z.kept hs;rw[hj] at ab;cases ab;exact h2 rfl}
 have c3:=z.put (W':=w1.setCell (Ad be 6) v') (e':={e with names:=ns,kept:=e.kept++[d]}) (vn':=vn') (vk':=v') (bm':=bm) C rfl rfl (qw Z 6 v')
  (qn (l6 a6 zz) (λg hg ax=>by
   have⟨_,c,ab⟩:=qd a6 hg
   exact C.block g ax (al g c _ ab (by decide) (by decide))))
  (by
   show aE _ 0 161 4 v' (aB (e.kept++[d])) ((e.kept++[d]).flatMap qx);rw[bB,List.flatMap_append];simp only[bD,List.length_nil,Nat.zero_add,bF,List.flatMap_nil,List.append_nil]
   exact Qk am ⟨be,6,aW⟩ v' (Qe am Z (by decide)))
  (z.md.kept (λj es c M=>(C.block j (zg M).1 (by
   rintro (rfl|hs);{rw[z.blk] at M;cases M}
   .have⟨_,c',ab⟩:=qd z.kept hs
    rw[M] at ab;cases ab)).trans M))
 refine⟨zc Z,by simp[aD,Z],_,⟨_,_,_,_,_,_,_,_,_,_,c3⟩,λk G=>?_,?_⟩
 .rcases G with⟨A,_⟩|A|A
  .exact aQ A
  .rcases cc with e1|e1
   .exact aQ (hv.own.2.1 k (e1.symm.trans A))
   .right;rw[e1,ci] at A;cases A;have:=E.size;omega
  .have⟨dk,_⟩:=qd a6 A;exact aR (aY dd dk)
 .refine⟨C.os.trans E.os,C.tape.trans E.tape,C.output.trans E.output,aY E.size C.size,λk G hs=>(C.block k (aZ G E.size) (λe=>hs ?_)).trans (E.block k G)⟩;rcases e with rfl|e
  .exact hv.own.1
  .exact hv.own.2.1 k e
theorem Hn{w W4:Wq}{va:Vq}{bt B:Nat}(M:fR w S be e vr vn vk vf bm rb ac ad aa Sf)(z:bL w.heap.size w W4){a:Am}(hB:w.heap.size<=B)(c6:W4.heap[B]?=cC #[St a.rel,va,aK true,aH aW 0 0,aH aW 0 0,Ii 0] 198)(hs:Qh W4 bt va a.args)(O:Obj)(am:aE w1 0 120 1 v' (aB aa+1) (aa.map lD++[lD B]))(bc:(W4.alloc O).grownBy w1 (aF vf))(cc:aF v'=aF vf\/aF v'=aV (W4.alloc O).heap.size):aC w1 (Ad be 8)=aV vf/\aD w1 (Ad be 8)=false/\Qm S be {e with fds:=e.fds++[⟨a,true,[],[],0⟩]} w (w1.setCell (Ad be 8) v'):=by
 have E:=M.below z;have bq:=(zg E.blk).1;have au:aF vf≠aV be:=λhs=>by have⟨_,c,ab⟩:=qd E.frow hs;rw[E.blk] at ab;cases ab
 have ci:(W4.alloc O).heap.size=W4.heap.size+1:=by simp
 have Z:w1.heap[be]?=cC #[vr,Ii e.win,Ii e.lat,Ii e.que,Ii e.mark,vn,vk,.map (aV bm),vf] 101:=
  (bc.block be (by grind) (λe=>au e.symm)).trans ((bQ _ _ _ bq).trans E.blk)
 have cf:dD W4 w1 (λk=>k=be\/aF vf=aV k):=((dD.refl W4 _).alloc O).grown bc (λk d _=>aR d);have A:dD W4 (w1.setCell (Ad be 8) v') (λk=>k=be\/aF vf=aV k):=cf.setCell (Ad be 8) v' (λ_=>aQ rfl)
 have al:∀(k:Nat) (c:Array Vq) (t:bO),W4.heap[k]?=cC c t->t≠101->t≠120->(w1.setCell (Ad be 8) v').heap[k]?=cC c t:=by
  intro j c t G C h2;refine (A.block j (zg G).1 ?_).trans G;rintro (rfl|hs);{rw[E.blk] at G;cases G;exact C rfl};{have⟨_,c',ab⟩:=qd E.frow hs;rw[G] at ab;cases ab;exact h2 rfl}
 have co:dD w (w1.setCell (Ad be 8) v') (λk=>k=be\/aF vf=aV k):=⟨A.os.trans z.os,A.tape.trans z.tape,A.output.trans z.output,aY z.size A.size,λk d hs=>(A.block k (aZ d z.size) hs).trans (z.block k d)⟩;have cw:=al B _ _ c6 (by decide) (by decide)
 have da:=M.addFeed (W':=w1.setCell (Ad be 8) v') (vf':=v') (B:=B) (b:=bt) (f:=⟨a,true,[],[],0⟩) (SB:=λk=>k=B) co (qw Z 8 v')
  (by grind [Qk,Qe])
  ⟨va,_,_,cw,hs.kept (λk c _ hc=>al k c _ hc (by decide) (by decide)),⟨rfl,aQ ⟨rfl,rfl⟩⟩,⟨rfl,aQ ⟨rfl,rfl⟩⟩,λg hg=>(by cases hg),λg hg=>(by cases hg),rfl⟩
  (λk d=>by subst d;exact⟨hB,_,_,cw,aQ rfl⟩)
 refine⟨zc Z,by simp[aD,Z],_,⟨_,_,_,_,_,_,_,_,_,_,da⟩,λk d=>?_,?_⟩
 .rcases d with (⟨C,_⟩|C)|C
  .exact aQ C
  .rcases cc with e1|e1
   .exact aQ (M.own.2.2.1 k (e1.symm.trans C))
   .grind
  .grind
 .refine co.mono (λk _ e=>?_);rcases e with rfl|e
  .exact M.own.1
  .exact M.own.2.2.1 k e
def pO(Sf:Nat->Nat->Prop)(w w':Wq)(k:Nat):Nat->Nat->Prop:=λi j=>if i=k then (Sf k j\/w.heap.size<=j)/\ko w' j else Sf i j
def wv(S:Nat->Prop)(Sf:Nat->Nat->Prop)(w w':Wq)(k:Nat):Nat->Prop:=λj=>(S j/\¬Sf k j)\/pO Sf w w' k k j
theorem o6{w:Wq}:pO Sf w w' k k j↔((Sf k j\/w.heap.size<=j)/\ko w' j):=by grind [pO]
theorem rF{w:Wq}{i:Nat}(h:i≠k):pO Sf w w' k i j↔Sf i j:=by unfold pO;rw[if_neg h]
theorem fR.feedSet{w:Wq}(h:fR w S be e vr vn vk vf bm rb ac ad aa Sf){k:Nat}(hk:k < aa.length){b:Nat}{f':Fs}(hf:dZ w' (λj=>Sf k j\/w.heap.size<=j) aa[k] b f')(hc:dD w w' (Sf k)) :
  fR w' (wv S Sf w w' k) be {e with fds:=e.fds.set k f'} vr vn vk vf bm rb ac ad aa (pO Sf w w' k):=by
 have al:∀(j:Nat) (c:Array Vq) (t:TypeId),w.heap[j]?=some (Obj.cells c t (0,0))->t≠198->t≠71->¬Sf k j:=by
  intro j c t hj h1 h2 hs;obtain⟨c',t',e1,e2⟩:=(h.sub k j hs).2;rw[hj] at e1;cases e1;exact e2.elim h1 h2
 have aw:∀(j:Nat) (c:Array Vq) (t:TypeId),w.heap[j]?=some (Obj.cells c t (0,0))->t≠198->t≠71->w'.heap[j]?=some (Obj.cells c t (0,0)):=λj c t hj h1 h2=>(hc.block j (zg hj).1 (al j c t hj h1 h2)).trans hj;have bk:∀j,S j->¬Sf k j->w'.heap[j]?=w.heap[j]?:=λj hs hn=>hc.block j (h.typ j hs).lt hn
 have Qci:∀g,vk.ownBlock=some g->¬Sf k g:=λg hg=>by
  obtain⟨_,c,ab⟩:=qd h.kept hg;exact al g c _ ab (by decide) (by decide)
 have dc:∀g,vn.ownBlock=some g->¬Sf k g:=λg hg=>by
  obtain⟨_,c,ab⟩:=qd h.names hg;exact al g c _ ab (by decide) (by decide)
 have Qce:∀g,vf.ownBlock=some g->¬Sf k g:=λg hg=>by
  obtain⟨_,c,ab⟩:=qd h.frow hg;exact al g c _ ab (by decide) (by decide)
 refine⟨aw _ _ _ h.blk (by decide) (by decide),h.rules.keep (λj c t ht hj=>aw j c t hj (by grind) (by grind)),Qc h.names (λg c _ hj=>aw g c _ hj (by decide) (by decide)),qn h.kept (λg hg ax=>bk g (h.own.2.1 g hg) (Qci g hg)),h.md.kept (λj es c hm=>(hc.block j (zg hm).1 (λhs=>?_)).trans hm),by simp[h.len],qn h.frow (λg hg ax=>bk g (h.own.2.2.1 g hg) (Qce g hg)),λi hi cg=>?_,λi j a7 m h1 h2=>?_,λi m hm=>?_,⟨.inl ⟨h.own.1,al _ _ _ h.blk (by decide) (by decide)⟩,λg hg=>.inl ⟨h.own.2.1 g hg,Qci g hg⟩,λg hg=>.inl ⟨h.own.2.2.1 g hg,Qce g hg⟩,λg hg=>.inl ⟨h.own.2.2.2 g hg,dc g hg⟩⟩,λm hm=>?_⟩
 .exact ik.notMap hm (h.sub k j hs).2.w
 .by_cases an:i=k
  .subst an;refine⟨b,?_⟩;have cd:(e.fds.set i f')[i]'cg=f':=List.getElem_set_self _;rw[cd];exact (hf.narrow).wider (λj hj=>o6.2 hj)
  .obtain⟨b',bv⟩:=h.feed i hi (by grind);refine⟨b',?_⟩;have cd:(e.fds.set k f')[i]'cg=e.fds[i]'(by grind):=List.getElem_set_ne (by omega) _;rw[cd];exact (bv.keep (ex:=Sf k) hc.block (λj hj cy=>h.sep i k an j hj cy) (λj c hj hs=>al j c _ hj (by decide) (by decide) hs)).wider (λj hj=>(rF an).2 hj)
 .by_cases an:i=k
  .subst an;rw[rF (Ne.symm a7)] at h2;rw[o6] at h1;rcases h1.1 with h1 | h1
   .exact h.sep i j a7 m h1 h2
   .have:=(h.sub j m h2).2.lt;omega
  .rw[rF an] at h1;by_cases cq:j=k
   .subst cq;rw[o6] at h2;rcases h2.1 with h2 | h2
    .exact h.sep i j a7 m h1 h2
    .have:=(h.sub i m h1).2.lt;omega
   .rw[rF cq] at h2;exact h.sep i j a7 m h1 h2
 .by_cases an:i=k
  .subst an;exact⟨.inr hm,(o6.1 hm).2⟩
  .rw[rF an] at hm;exact⟨.inl ⟨(h.sub i m hm).1,h.sep i k an m hm⟩,(h.sub i m hm).2.same (bk m (h.sub i m hm).1 (h.sep i k an m hm))⟩
 .rcases hm with⟨h1,h2⟩ | hm
  .exact (h.typ m h1).same (bk m h1 h2)
  .exact (o6.1 hm).2.w
theorem BX{w:Wq}(hs:∀j,Sf k j->S j):∀j,wv S Sf w w' k j->S j\/w.heap.size<=j:=by
 rintro j (⟨h,_⟩|h)
 .exact aQ h
 .exact (o6.1 h).1.imp (hs j) id
def B7(S:Nat->Prop)(be:Nat)(e:Eg)(i:Int)(w:Wq)(en:Ending)(w':Wq):Prop:=
 (¬(0<=i/\i<aB e.fds)/\en=aO (aL #[aJ #[aM aP 0,aM aP 0,aI ⟨#[]⟩,aM aP 0],aM aP 6])/\bL w.heap.size w w')\/
 ∃(k:Nat) (hk:k<aB e.fds),i=k/\∃r f',mM e.M e.mark e.fds[k] r f'/\en=aO (aL #[aJ #[aM aP r.kind,aM aP r.seq,aI r.text,aM aP r.time],aM aP 0])/\Qm S be {e with fds:=e.fds.set k f'} w w'
theorem Ck{b T:Nat}{v:Vq}{l:List Nat}(h:aE W b T 1 v (aB l) (l.map lD)){k:Nat}(M:k<aB l):∃(g c:Nat),v=Sc g (aB l) c/\aC W (Ad g k)=aV (Pt (l[k]))/\g<W.heap.size:=by
 obtain⟨_,⟨_,O⟩|⟨g,c,A,G,_,z,_,_,_,C⟩⟩:=h
 .omega
 refine⟨g,c,G,?_,(zg z).1⟩;have d:(l.map lD)[k]?=aV (lD l[k]):=by grind
 rw[<-C,List.getElem?_take,if_pos (by omega)] at d;simp only[aC,z];have E:A[k]?=aV (lD l[k]):=by simpa using d
 exact E
theorem ui(W:Wq)(N:Nat)(r:Rc)(h:W.heap[N]?=cC #[Ii 0,Ii 0,St ⟨#[]⟩,Ii 0] 71):(jb W N r).heap[N]?=cC #[Ii r.kind,Ii r.seq,St r.text,Ii r.time] 71:=
 qw (qw (qw (qw h 0 (Ii r.kind)) 1 (Ii r.seq)) 2 (St r.text)) 3 (Ii r.time)
theorem JU(S:Nat->Prop)(be:Nat)(e:Eg)(i:Int)(w:Wq)(h:gN w S be e)(af:dV e)(ht:∀f∈e.fds,f.told<=1000000000000):Cs 29 #[Pt be,Ii i] w (B7 S be e i w):=by
 have⟨vr,vn,vk,vf,bm,rb,ac,ad,aa,Sf,hv⟩:=h;have⟨fa,fc,db⟩:=qq hv.frow;subst db;obtain⟨N,hN⟩:∃N,w.heap.size=N:=⟨_,rfl⟩;have c5:=af.f3;have Qlx:=aA hv.len;have c1:aB aa<=3:=by rw[hv.len];exact c5
 have dr:aP.wrap ((aB aa:Int)-1)=(aB aa:Int)-1:=pE _ (by omega) (by omega);have ah:=hv.blk;have bq:=hv.lt;have c8:∀O,aC (w.alloc O) (Ad be 8)=aV (aH fa (aB aa) fc):=λO=>cell_later ((bJ _ w).alloc zl O) (by simp[aC,ah]);obtain⟨W0,bj⟩:∃W0,w.alloc (aN #[Ii 0,Ii 0,St ⟨#[]⟩,Ii 0] 71)=W0:=⟨_,rfl⟩;have ak:bL w.heap.size w W0:=by rw[<-bj];exact (bJ _ w).alloc zl _
 have dt:W0.heap.size=N+1:=by rw[<-bj,<-hN];simp
 have G:W0.heap[N]?=cC #[Ii 0,Ii 0,St ⟨#[]⟩,Ii 0] 71:=by rw[<-bj,<-hN];exact zn w _
 have dw:aC W0 (Ad be 8)=aV (aH fa (aB aa) fc):=by rw[<-bj];exact c8 _
 have z0:aC W0 (Ad N 0)=aV (Ii 0):=zc G;have z1:aC W0 (Ad N 1)=aV (Ii 0):=zc G;have z2:aC W0 (Ad N 2)=aV (St ⟨#[]⟩):=zc G;have z3:aC W0 (Ad N 3)=aV (Ii 0):=zc G;have x0:∀j,aD W0 (Ad N j)=false:=λj=>by simp[aD,G]
 by_cases hi:0<=i/\i<aB e.fds
 .obtain⟨k,rfl⟩:∃k:Nat,i=k:=⟨i.toNat,by omega⟩;have hk:k<aB e.fds:=by{omega};have b0:k<aB aa:=by{rw[hv.len];exact hk};have b9:Hid (∀W,Cs 43 #[Ii (k:Int),Ii 0,Ii ((aB aa:Int)-1)] W λe' w'=>e'=aO (aK true)/\W=w'):=λW=>by{refine (qI k 0 ((aB aa:Int)-1) W).mono ?_;rintro e' w' ⟨rfl,rfl⟩;refine⟨ie ?_,rfl⟩;rw[Bool.and_eq_true];simp only[decide_eq_true_eq];omega};have aq:fR W0.drew S be e vr vn vk (aH fa (aB aa) fc) bm rb ac ad aa Sf:=hv.below ak.drew;have⟨bb,cl⟩:=aq.feed k b0 hk;have b4:=List.getElem_mem hk;have bh:=af.fds _ b4
  have df:Hid (Cs 59 #[Pt (aa[k]),.map (aV bm),Ii e.mark] W0.drew λe' w'=>∃r f',e'=aO (aJ #[Ii r.kind,Ii r.seq,St r.text,Ii r.time])/\mM e.M e.mark e.fds[k] r f'/\dZ w' (λj=>Sf k j\/W0.drew.heap.size<=j) aa[k] bb f'/\dD W0.drew w' (Sf k)):=
   Fh (Sf k) aa[k] bb e.fds[k] bm 5000 e.M e.mark W0.drew cl (λj d=>(aq.sub k j d).2.lt) ⟨by have:=bh.2.1;omega,by have:=bh.2.2;omega⟩ bh.1 aq.md (by decide) (λx y hx=>uj af _ x y hx) (ht _ b4)
  have⟨g,cap,c9,ck,dx⟩:=Ck (W:=W0) aq.frow b0;cases c9;have c7:aC W0 (Ad be 7)=aV (.map (aV bm)):=by{have:=aq.blk;have E:W0.heap[be]?=_:=this;simp[aC,E]};have c4:aC W0 (Ad be 4)=aV (Ii e.mark):=by{have:=aq.blk;have E:W0.heap[be]?=_:=this;simp[aC,E]};have bu:∀j,S j->j<N:=λj d=>by rw[<-hN];exact (hv.typ j d).lt
  have Qf:Hid (∀W1 r f',mM e.M e.mark e.fds[k] r f'->dZ W1 (λj=>Sf k j\/W0.drew.heap.size<=j) aa[k] bb f'->dD W0.drew W1 (Sf k)->W1.heap[N]?=cC #[Ii 0,Ii 0,St ⟨#[]⟩,Ii 0] 71/\Qm S be {e with fds:=e.fds.set k f'} w (jb W1 N r)):=λW1 r f' hp Z A=>by
   have Qgo:¬Sf k N:=λhs=>by{have:=bu N (hv.sub k N hs).1;omega};have cr:W1.heap[N]?=cC #[Ii 0,Ii 0,St ⟨#[]⟩,Ii 0] 71:=(A.block N (by show N<W0.heap.size;omega) Qgo).trans G;refine⟨cr,wv S Sf W0.drew W1 k,⟨_,_,_,_,_,_,_,_,_,_,(aq.feedSet b0 Z A).keep (ex:=λj=>j=N) ⟨rfl,rfl,rfl,by simp[jb],λj _ d=>mL W1 N r d⟩ (λj d e=>?_) (λj _ e=>?_)⟩,λj d=>?_,?_⟩
   .subst e;rcases d with⟨d,_⟩|d
    .have:=bu _ d;omega
    .rcases (o6.1 d).1 with z|z
     .exact Qgo z
     .have E:W0.heap.size<=j:=z;omega
   .subst e;exact⟨_,_,cr,by simp⟩
   .rcases BX (λj d=>(aq.sub k j d).1) j d with z|z
    .exact aQ z
    .right;have E:W0.heap.size<=j:=z;omega
   .refine pW ⟨A.os.trans ak.os,A.tape.trans ak.tape,A.output.trans ak.output,?_,λj d hx=>(A.block j ?_ (λhs=>hx (hv.sub k j hs).1)).trans (ak.block j d)⟩ (by omega) r;{have z:W0.heap.size<=W1.heap.size:=A.size;omega};{show j<W0.heap.size;omega}
  have ca:Hid (∀en w' r f',mM e.M e.mark e.fds[k] r f'->en=aO (aL #[aJ #[Ii r.kind,Ii r.seq,St r.text,Ii r.time],Ii 0])->Qm S be {e with fds:=e.fds.set k f'} w w'->B7 S be e k w en w'):=λen w' r f' z E h3=>aR ⟨k,hk,rfl,r,f',z,E,h3⟩;have Qmi:(k:Int)<(aB aa:Int):=by{omega};clear hi hv ah aq cl bh b4 af ht bu c8;generalize au:aa[k]=bfk at *;clear au;go_enter Tryz.func29,Tryz.ntmps29
  go_wp2_with (go_at_call 43;refine (b9.o _).mono ?_;rintro e' w' ⟨rfl,b5⟩;subst b5)
  have dj:Hid (∀W1 r f',mM e.M e.mark e.fds[k] r f'->dZ W1 (λj=>Sf k j\/W0.drew.heap.size<=j) bfk bb f'->dD W0.drew W1 (Sf k)->aC W1 (Ad N 0)=aV (Ii 0)/\aC W1 (Ad N 1)=aV (Ii 0)/\aC W1 (Ad N 2)=aV (St ⟨#[]⟩)/\aC W1 (Ad N 3)=aV (Ii 0)/\aD W1 (Ad N 0)=false/\aD W1 (Ad N 1)=false/\aD W1 (Ad N 2)=false/\aD W1 (Ad N 3)=false):=λW1 r f' z E h3=>by{have C:=(Qf.o W1 r f' z E h3).1;exact⟨zc C,zc C,zc C,zc C,by simp[aD,C],by simp[aD,C],by simp[aD,C],by simp[aD,C]⟩};refine wp_mono (Q:=λen a' W2=>match en with|Exit.normal=>(∃W1 r f',mM e.M e.mark e.fds[k] r f'/\dZ W1 (λj=>Sf k j\/W0.drew.heap.size<=j) bfk bb f'/\dD W0.drew W1 (Sf k)/\W2=jb W1 N r/\a'={tmps:=#[Pt be,Ii k,undef,undef,Pt N,Ii 0,Ii k,Pt be,Pt be,.pointer (aV ⟨be,8,aW⟩),Sc g (aB aa) fc,Ii (aB aa),Ii ((aB aa:Int)-1),aK true,aK false,undef,Pt be,Pt be,.pointer (aV ⟨be,8,aW⟩),Sc g (aB aa) fc,Ii k,.pointer (aV ⟨g,k,aW⟩),Pt bfk,Pt be,Pt be,.pointer (aV ⟨be,7,aW⟩),.map (aV bm),Pt be,Pt be,.pointer (aV ⟨be,4,aW⟩),Ii e.mark,aJ #[Ii r.kind,Ii r.seq,St r.text,Ii r.time]],defers:=[]})|_=>False) ?reg ?rest
  case reg=>
   first|(go_region_with (go_at_call 59;refine aX df.o ?_;rintro e' W1 ⟨r,f',rfl,hp,Z,A⟩;have⟨u0,u1,u2,u3,y0,y1,y2,y3⟩:=dj.o W1 r f' hp Z A))|fail
   all_goals exact⟨W1,r,f',hp,Z,A,rfl,rfl⟩
  case rest=>
   rintro (_|_|_|_|_|_) a' W2 hq
   all_goals first|exact hq.elim|skip
   obtain⟨W1,r,f',hp,Z,A,rfl,rfl⟩:=hq;have⟨C,hE⟩:=Qf.o W1 r f' hp Z A;have q1:=ui W1 N r C;have u0:aC (jb W1 N r) (Ad N 0)=aV (Ii r.kind):=zc q1;have u1:aC (jb W1 N r) (Ad N 1)=aV (Ii r.seq):=zc q1;have u2:aC (jb W1 N r) (Ad N 2)=aV (St r.text):=zc q1;have u3:aC (jb W1 N r) (Ad N 3)=aV (Ii r.time):=zc q1;clear C q1;generalize hW3:jb W1 N r=W3 at *;go_wp2;refine bodyPost_ret (v:=aL #[aJ #[Ii r.kind,Ii r.seq,St r.text,Ii r.time],Ii 0]) (by simp[results,Tryz.results29,go_sem,u0,u1,u2,u3]) rfl ?_;exact ca.o _ _ r f' hp rfl hE
 .have b9:Hid (∀W,Cs 43 #[Ii i,Ii 0,Ii ((aB aa:Int)-1)] W λe' w'=>e'=aO (aK false)/\W=w'):=λW=>by{refine (qI i 0 ((aB aa:Int)-1) W).mono ?_;rintro e' w' ⟨rfl,rfl⟩;refine⟨ie ?_,rfl⟩;rw[Bool.and_eq_false_iff];simp only[decide_eq_false_iff_not];have ct:=hv.len;omega};have HI:=aA hi;clear hi hv ah c8;go_enter Tryz.func29,Tryz.ntmps29
  go_wp2_with (go_at_call 43;refine (b9.o _).mono ?_;rintro e' w' ⟨rfl,b5⟩;subst b5)
  refine bodyPost_ret (v:=aL #[aJ #[Ii 0,Ii 0,St ⟨#[]⟩,Ii 0],Ii 6]) (by simp[results,Tryz.results29,go_sem,z0,z1,z2,z3]) rfl ?_;refine aQ ⟨HI.o,rfl,?_⟩;exact (((ak.setCell (p:=⟨N,0,aW⟩) (by simp;omega) _).setCell (p:=⟨N,1,aW⟩) (by simp;omega) _).setCell (p:=⟨N,2,aW⟩) (by simp;omega) _).setCell (p:=⟨N,3,aW⟩) (by simp;omega) _
