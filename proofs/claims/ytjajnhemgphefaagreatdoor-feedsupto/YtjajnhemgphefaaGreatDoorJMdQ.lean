/- A part -/
import Derived.Test.YtjajnhemgphefaaGreatDoorJMdN
set_option linter.all false
set_option maxRecDepth 100000
set_option maxHeartbeats 8000000
open List renaming length->aB,getElem?_eq_getElem->aX,replicate->aY,range->aZ,take_of_length_le->bD,drop_eq_nil_of_le->bE,length_set->bH,map_set->bI
open Go.World renaming cell?->aC,frozen?->aD,ownsRow->aE
open Go.Value renaming ownBlock->aF,slice->aH,string->aI,bool->aK,int->aM
open Go.Obj renaming cells->aN
open Go.Ending renaming returned->aO
open Go.IntKind renaming i64->aP
open Or renaming inl->aQ,inr->aR
open Option renaming some->aV,none->aW
open Go.RowKit.Below renaming heap_alloc->bB,heap_setCell->bF,refl->bJ
open Array renaming toList_inj->bC
open Nat renaming mul_one->bG
namespace Go.Proofs.YtjajnhemgphefaaGreatDoor
open Go renaming World->Wq,Value->Vq
open Go.RowKit Go.Shelf
def lY(r:Rl)(at' v:Nat):Bool:=Qd [r.head] v || Qd (r.body.drop (at'+1)) v
def fC(r:Rl)(at':Nat)(b:List ByteArray):List ByteArray:=(aZ (aB b)).map (λv=>if lY r at' v=true then b.getD v ⟨#[]⟩ else ⟨#[]⟩)
structure lG(N:Nat)(w X:Wq)(box:Array Vq)(out:List ByteArray):Prop where
 below:Below N w X
 b1:X.heap[N]?=cC box 148
 row:X.heap[N+1]?=aV (aN (out.map aI).toArray 9)
theorem lG.alloc{N:Nat}{w X:Wq}{box:Array Vq}{out:List ByteArray}(h:lG N w X box out)(o:Obj):lG N w (X.alloc o) box out:=by have hs:N+2<=X.heap.size:=(zg h.row).1;exact⟨h.below.alloc (by omega) o,(bB _ _ _ (by omega)).trans h.b1,(bB _ _ _ (by omega)).trans h.row⟩
theorem lG.set{N:Nat}{w X:Wq}{box:Array Vq}{out:List ByteArray}(h:lG N w X box out)(k:Nat)(x:ByteArray):lG N w (X.setCell (Ad (N+1) k) (St x)) box (out.set k x):=by refine⟨h.below.setCell (by simp) _,(bF _ _ _ _ (by simp)).trans h.b1,?_⟩;rw[Qo h.row k (St x)];congr 2;rw[<-bC];simp[bI]
theorem lG.own{N:Nat}{w X:Wq}{box:Array Vq}{out:List ByteArray}(h:lG N w X box out)(d:aB out<=1000):aE X N 9 1 (Sc (N+1) (aB out) (aB out)) (aB out) (out.map aI):=
 ⟨by simp,aR ⟨N+1,aB out,(out.map aI).toArray,rfl,by omega,h.row,Nat.le_refl _,by unfold maxLen;omega,by simp,by rw[bG];exact bD (by simp)⟩⟩
def kg(f:Nat->ByteArray)(n k:Nat)(out:List ByteArray):Prop:=aB out=n/\∀j,j<n->out.getD j ⟨#[]⟩=if j<k then f j else ⟨#[]⟩
theorem kg.start(f:Nat->ByteArray)(n:Nat):kg f n 0 (aY n ⟨#[]⟩):=by refine⟨by simp,λj d=>?_⟩;rw[if_neg (by omega)];simp[d]
theorem kg.skip{f:Nat->ByteArray}{n k:Nat}{out:List ByteArray}(h:kg f n k out)(z:f k=⟨#[]⟩):kg f n (k+1) out:=by
 refine⟨h.1,λj d=>?_⟩;rw[h.2 j d];by_cases e:j=k
 .grind
 .grind
theorem kg.set{f:Nat->ByteArray}{n k:Nat}{out:List ByteArray}(h:kg f n k out)(E:k<n):kg f n (k+1) (out.set k (f k)):=by
 refine⟨by rw[bH];exact h.1,λj A=>?_⟩;have C:=h.1;by_cases e:j=k
 .grind
 .have d:=h.2 j A;have z:(out.set k (f k)).getD j ⟨#[]⟩=out.getD j ⟨#[]⟩:=by{grind};rw[z,d];by_cases ad:j<k;{grind};{grind}
theorem kg.done{f:Nat->ByteArray}{n:Nat}{out:List ByteArray}(h:kg f n n out):out=(aZ n).map f:=by
 apply List.ext_getElem
 .simp[h.1]
 .intro j z A;have d:j<n:=by{grind};have:=h.2 j d;rw[if_pos d] at this;simp only[List.getD_eq_getElem?_getD,aX z,Option.getD_some] at this;simp[this]
theorem G1(q:Rl×Vq×Vq)(g c:Nat)(ps:List (Am×Vq))(at':Nat)(vb:Vq)(b:List ByteArray)(w:Wq)(G:qE w q g c ps)(hB:qv w vb b)(cw:0<aB b)(c3:aB b<=1000)(a9:at'<aB ps)(hl:aB ps<=900)(hm:∀p∈(q.1.head,q.2.1)::ps,aB p.1.args<=1000000/\∀t∈p.1.args,t.num<=1000000):Cs 225 #[vb,kI q,Ii at'] w λe w'=>∃v',e=aO v'/\aE w' w.heap.size 9 1 v' (aB (fC q.1 at' b)) ((fC q.1 at' b).map aI)/\Below w.heap.size w w':=by
 have⟨i0,hi,av,bb,a7⟩:=info_parts Tryz.infoStr;unfold kI;have⟨a1,a2,ap⟩:=qe G.head;simp only at ap;have b8:=G.val;have cj:=G.cap;rw[ap,b8];have⟨gb,cb,e1,cd,_⟩:=hB.cell 0 cw;subst e1;obtain⟨N,hN⟩:∃N,N=w.heap.size:=⟨_,rfl⟩;have be:=hN.symm;have Qd6:gb<N:=by rw[hN];exact cd
 have b4:q.1.body=ps.map (·.1):=G.eq.symm;have bn:∀v,lY q.1 at' v=(Qd [q.1.head] v || Qd ((ps.drop (at'+1)).map (·.1)) v):=by intro v;unfold lY;rw[b4,List.map_drop]
 have HX:Hid (∀X,Below N w X->gW X (aV ⟨g,0,aW⟩) ps/\fI X (q.1.head,aH a1 (aB q.1.head.args) a2)/\∀j,j<aB b->aC X (Ad gb j)=aV (St (b.getD j ⟨#[]⟩))):=by
  intro X M;have da:Below w.heap.size w X:=by{rw[be];exact M};have ca:=G.below da;refine⟨ca.body,by have:=ca.head;rw[ap] at this;exact this,λj hj=>?_⟩;have⟨g',aw,e',ao,c0⟩:=hB.cell j hj
  cases e'
  rw[(Below.cell M Qd6),c0];simp[aX hj]
 have cy:Hid (∀(X:Wq) (v:Nat),Below N w X->v<=1000->Cs 246 #[Sc X.heap.size 1 1,Ii v] (X.alloc (aN #[St q.1.head.rel,aH a1 (aB q.1.head.args) a2] 145)) λe w'=>e=aO (aK (Qd [q.1.head] v))/\w'=X.alloc (aN #[St q.1.head.rel,aH a1 (aB q.1.head.args) a2] 145)):=by
  intro X v M hv
  exact rA (aV ⟨X.heap.size,0,aW⟩) 1 [(q.1.head,aH a1 (aB q.1.head.args) a2)] v _ (gW.single X q.1.head _ (HX.o X M).2.1) (by simp) (by omega) (λp hp=>by
   simp at hp;subst hp
   exact hm (q.1.head,q.2.1) zs)
 have c8:Hid (∀(X:Wq) (v:Nat),Below N w X->v<=1000->Cs 246 #[aH (if c=at'+1 then aV ⟨g,0,aW⟩ else aV ⟨g,(at'+1)*2,aW⟩) (aB ps-(at'+1)) (c-(at'+1)),Ii v] X λe w'=>e=aO (aK (Qd ((ps.drop (at'+1)).map (·.1)) v))/\w'=X):=by
  intro X v M hv;have au:aB (ps.drop (at'+1))=aB ps-(at'+1):=List.length_drop
  have hA:gW X (if c=at'+1 then aV ⟨g,0,aW⟩ else aV ⟨g,(at'+1)*2,aW⟩) (ps.drop (at'+1)):=by
   split;{rw[bE (by omega)];exact gW.nil};{have:=(HX.o X M).1.drop (at'+1);rw[Nat.zero_add] at this;exact this}
  have h:=rA _ (c-(at'+1)) (ps.drop (at'+1)) v X hA (by omega) (by omega) (λp hp=>hm p (zt (List.mem_of_mem_drop hp)));rw[au] at h;exact h
 obtain⟨f,hf⟩:∃f:Nat->ByteArray,f=λv=>if (Qd [q.1.head] v || Qd ((ps.drop (at'+1)).map (·.1)) v)=true then b.getD v ⟨#[]⟩ else ⟨#[]⟩:=⟨_,rfl⟩;have hT:Hid (fC q.1 at' b=(aZ (aB b)).map f):=by show _=_;unfold fC;rw[hf];congr 1;funext v;rw[bn v]
 have HF:Hid (∀v,f v=if (Qd [q.1.head] v || Qd ((ps.drop (at'+1)).map (·.1)) v)=true then b.getD v ⟨#[]⟩ else ⟨#[]⟩):=by intro v;rw[hf]
 generalize fC q.1 at' b=T at *;rw[<-hN];clear G hB bn b4 hm hN ap b8 hf;generalize q.1.head.rel=hrl at *;generalize (aB q.1.head.args)=hal at *;obtain⟨box,ct⟩:∃box:Array Vq,box=#[St hrl,aH a1 hal a2,Sc g (aB ps) c]:=⟨_,rfl⟩;have Qdz:i0.bytes*aB b<=281474976710656:=by rw[a7];omega
 have c4:aB b<=maxLen:=by unfold maxLen;omega
 have O:Hid (∀w1,aE w1 N 9 1 (Sc (N+1) (aB b) (aB b)) (aB b) (madeCells (aI ⟨#[]⟩).cells (aB b*1)).toList->(w.alloc (aN #[St hrl,aH a1 hal a2,Sc g (aB ps) c] 148)).grownBy w1 aW->lG N w w1 #[St hrl,aH a1 hal a2,Sc g (aB ps) c] (aY (aB b) ⟨#[]⟩)):=by
  intro w1 ho hg;rw[wI] at ho;refine⟨((bJ _ w).alloc (by omega) _).grown hg (by simp;omega) (λk e=>by cases e),(hg.block N (by simp;omega) (by simp)).trans (by rw[<-be];exact zn w _),?_⟩;obtain⟨_,⟨hv,_⟩|⟨g',aw,dd,hv,_,hh,E,h2,h3,h4⟩⟩:=ho;{cases hv}
  .cases hv;rw[hh];congr 2;rw[<-bC];simp only[bG] at h3 h4;rw[<-h4,bD (by simp[h3])]
 have bj:(w.alloc (aN #[St hrl,aH a1 hal a2,Sc g (aB ps) c] 148)).heap.size=N+1:=by simp[be]
 have b6:=aA bj;clear ct bj;go_enter Tryz.func225,Tryz.ntmps225
 go_wp2_with (at_make;refine wpList_make_full _ rfl (.tmp 12) (.tmp 12) 22 rfl N 9 i0 (St ⟨#[]⟩) 1 Tryz.underlying22 hi av bb aP aP _ _ (aB b) rfl rfl rfl rfl Qdz c4 (by rw[b6.o];omega) ?_;rw[b6.o];intro w1 ab aa;have cf:Hid _:=O.o w1 ab aa;clear ab aa)
 go_loopw [8] (λx wr=>∃(k:Nat) (out:List ByteArray),x=aM aP k/\k<=aB b/\lG N w wr #[aI hrl,aH a1 hal a2,aH (aV ⟨g,0,aW⟩) (aB ps) c] out/\Hid (kg f (aB b) k out)) (λx _=>aB b-(intOf x).toNat)
 case atStart=>exact⟨0,_,rfl,zz,cf.o,kg.start f _⟩
 case round=>
  clear cf O;obtain⟨k,out,rfl,cz,d,A⟩:=hrel;by_cases ad:k<aB b
  .have df:N+2<=wr.heap.size:=(zg d.row).1;have x0:aC wr (Ad N 0)=aV (St hrl):=by{simp[aC,d.b1]};have x1:aC wr (Ad N 1)=aV (aH a1 hal a2):=by{simp[aC,d.b1]};have b5:=cy.o wr k d.below (by omega);have HS:=aA d;have b7:=HF.o k;have a6:=aA b7;clear d b7;generalize Qd [q.1.head] k=B2 at *;go_wp2_with fail;refine b5.mono ?_;rintro e w' ⟨rfl,ak⟩;obtain⟨W3,a8⟩:∃W3,wr.alloc (aN #[St hrl,aH a1 hal a2] 145)=W3:=⟨_,rfl⟩;rw[a8] at ak;obtain rfl:W3=w':=ak.symm;have z:lG N w W3 #[St hrl,aH a1 hal a2,Sc g (aB ps) c] out:=by{rw[<-a8];exact HS.o.alloc _};have x2:aC W3 (Ad N 2)=aV (Sc g (aB ps) c):=by{simp[aC,z.b1]};have C:=c8.o W3 k z.below (by omega);have dh:=(HX.o W3 z.below).2.2 k ad;have am:aB out=aB b:=A.o.1;have ck:aC W3 (Ad (N+1) k)=aV (St (out.getD k ⟨#[]⟩)):=by{simp[aC,z.row,aX (show k<aB out by omega)]};have fk:aD W3 (Ad (N+1) k)=false:=by{simp[aD,z.row]};have az:=aA z;generalize Qd ((ps.drop (at'+1)).map (·.1)) k=B3 at *;generalize b.getD k ⟨#[]⟩=bk at *;clear b5 z a8 HS am;have i3:at'+1<=aB ps:=by{omega};have i4:(at':Int)+1<=(aB ps:Int):=by{omega};have i5:(aB ps:Int)<=(c:Int):=by{omega};have i6:at'+1<=c:=by{omega};have bv:Hid (∀y,lG N w (W3.setCell (Ad (N+1) k) (St y)) #[St hrl,aH a1 hal a2,Sc g (aB ps) c] (out.set k y)):=λy=>az.o.set k y;have Qiu:Hid ((B2 || B3)=true->kg f (aB b) (k+1) (out.set k bk)):=by{intro h;have E:=a6.o;rw[if_pos h] at E;rw[<-E];exact A.o.set ad};have Z:Hid ((B2 || B3)=false->kg f (aB b) (k+1) out):=by{intro h;have E:=a6.o;rw[if_neg (by rw[h];simp)] at E;exact A.o.skip E};clear a6 A;by_cases bc:c=at'+1
   .rw[if_pos bc] at C;have Qd0:c-(at'+1)=0:=by{omega};rw[Qd0] at C;clear bc;go_wp2_with fail;refine C.mono ?_;rintro e w' ⟨rfl,ak⟩;obtain rfl:W3=w':=ak.symm;clear C
    cases B2<;>cases B3
    case false.false=>
     go_wp2
     go_roundw
     case rel=>exact⟨k+1,out,by go_num,by omega,az.o,Z.o rfl⟩
     case measure=>simp[intOf];omega
    all_goals
     go_wp2
     go_roundw
     case rel=>exact⟨k+1,_,by go_num,by omega,bv.o bk,Qiu.o rfl⟩
     case measure=>simp[intOf];omega
   .rw[if_neg bc] at C;go_wp2_with fail;refine C.mono ?_;rintro e w' ⟨rfl,ak⟩;obtain rfl:W3=w':=ak.symm;clear C
    cases B2<;>cases B3
    case false.false=>
     go_wp2
     go_roundw
     case rel=>exact⟨k+1,out,by go_num,by omega,az.o,Z.o rfl⟩
     case measure=>simp[intOf];omega
    all_goals
     go_wp2
     go_roundw
     case rel=>exact⟨k+1,_,by go_num,by omega,bv.o bk,Qiu.o rfl⟩
     case measure=>simp[intOf];omega
  .have bq:k=aB b:=by{omega};have bu:out=(aZ (aB b)).map f:=by{have:=A.o;rw[bq] at this;exact this.done};have am:aB out=aB b:=A.o.1;have bd:=d.own (by omega);rw[am] at bd;have c7:=aA bd;have HB:=aA d.below;have cp:Hid (T=out):=by{show _=_;rw[hT.o,bu]};have ch:=aA am;clear d bd bu bq am A;go_wp2;go_ret;rw[cp.o,ch.o];exact⟨_,rfl,c7.o,HB.o⟩
theorem Tryz.infoBool:(Tryz.prog.info? 4).map (λi=>(i.zero,i.size,i.bytes))=aV (aV (aK false),1,1):=by kernel_rfl
theorem Gn(w:Wq):Cs 224 #[] w λe w'=>e=aO (Sc w.heap.size 4096 4096)/\aE w' w.heap.size 4 1 (Sc w.heap.size 4096 4096) 4096 (aY 4096 (aK false))/\Below w.heap.size w w':=by
 have⟨i0,hi,av,bb,a7⟩:=info_parts Tryz.infoBool;have A:i0.bytes*4096<=281474976710656:=by rw[a7];decide
 have E:4096<=maxLen:=by unfold maxLen;decide
 have d:(madeCells (aK false).cells (4096*1)).toList=aY 4096 (aK false):=AX (aK false) 4096;have z:=aA d;clear d;go_enter Tryz.func224,Tryz.ntmps224;go_wp2
 go_loopw [1,2] (λx p wr=>wr=w/\((x=aM aP 1/\p=aM aP 0)\/(x=aM aP 8/\p=aM aP 1)\/(x=aM aP 64/\p=aM aP 2)\/(x=aM aP 512/\p=aM aP 3)\/(x=aM aP 4096/\p=aM aP 4))) (λ_ p _=>4-(intOf p).toNat)
 case atStart=>exact⟨rfl,aQ ⟨rfl,rfl⟩⟩
 case round=>
  have⟨cr,cu⟩:=hrel;obtain rfl:w=wr:=cr.symm;rcases cu with⟨rfl,rfl⟩|⟨rfl,rfl⟩|⟨rfl,rfl⟩|⟨rfl,rfl⟩|⟨rfl,rfl⟩
  case inr.inr.inr.inr=>
   go_wp2_with (at_make;refine wpList_make_full _ rfl (.tmp 9) (.tmp 9) 339 rfl w.heap.size 4 i0 (aK false) 1 Tryz.underlying339 hi av bb aP aP _ _ 4096 rfl rfl rfl rfl A E zl ?_;intro w1 ab aa)
   go_ret;rw[z.o] at ab;exact⟨rfl,ab,(bJ _ w).grown aa zl (λk C=>by cases C)⟩
  all_goals
   go_wp2
   go_roundw
   case rel=>simp
   case measure=>simp[intOf]
def jh(names:List ByteArray)(n:Nat)(x:ByteArray):Nat:=if dS names x<aB names then n*8+dS names x else n
def iP(names b:List ByteArray):Nat:=b.foldl (jh names) 0
theorem rN(x y:ByteArray):dO x y=decide (x=y):=by grind [dO,oh]
def rI(l:List ByteArray):Prop:=∀(i j:Nat) (hi:i<aB l) (hj:j<aB l),l[i]=l[j]->i=j
theorem DR(names:List ByteArray)(x:ByteArray)(z:rI names)(k:Nat)(d:k<aB names):dO x names[k]=decide (dS names x=k):=by
 rw[rN];by_cases h:x=names[k]
 .have:dS names x=k:=by{refine tA names x k d (by rw[rN];simp[h]) (λj C A=>?_);rw[rN];simp only[decide_eq_false_iff_not];intro e;rw[h] at e;have:=z _ _ _ _ e;omega};rw[decide_eq_true h,decide_eq_true this]
 .grind [dO,dS,rN]
theorem Gy(names:List ByteArray)(n v:Nat)(x:ByteArray)(d:aB names<=8)(z:n<8 ^ v):jh names n x<8 ^ (v+1):=by grind [jh]
theorem CW(vb vn:Vq)(b names:List ByteArray)(w:Wq)(E:qv w vb b)(ax:qv w vn names)(c3:aB b<=8)(h8:aB names<=8)(hd:rI names):Cs 226 #[vb,vn] w λe w'=>e=aO (Ii (iP names b))/\Below w.heap.size w w':=by
 obtain⟨b1,b2,rfl⟩:=qe E;obtain⟨n1,n2,rfl⟩:=qe ax;have HB:=aA E;have HN:=aA ax;obtain⟨T,G⟩:∃T,T=iP names b:=⟨_,rfl⟩;rw[<-G];have M:=aA G;clear E ax G;have dl:(8:Nat) ^ 8=16777216:=by decide
 go_enter Tryz.func226,Tryz.ntmps226;go_wp2
 go_loopw [5,6] (λx p wr=>∃(n v:Nat),x=aM aP n/\p=aM aP v/\v<=aB b/\(∃d,wr=w.drewN d)/\Hid (n<8 ^ v)/\Hid (T=(b.drop v).foldl (jh names) n)) (λ_ p _=>aB b-(intOf p).toNat)
 case atStart=>exact⟨0,0,rfl,rfl,zz,⟨0,rfl⟩,by show (0:Nat)<8 ^ 0;decide,M⟩
 case round=>
  obtain⟨n,v,rfl,rfl,cz,⟨d,rfl⟩,bh,al⟩:=hrel;by_cases ad:v<aB b
  .have⟨gb,cb,e1,cd,cv⟩:=HB.o.cell v ad;cases e1;rw[List.drop_eq_getElem_cons ad] at al;simp only[List.foldl_cons] at al;have O:=DR names b[v] hd;have ce:=Gy names n v b[v] h8 bh.o;have cc:jh names n b[v]=if dS names b[v]<aB names then n*8+dS names b[v] else n:=rfl;generalize b[v]=x at *;have di:n<16777216:=by{have h1:=bh.o;have h2:(8:Nat) ^ v<=8 ^ 8:=Nat.pow_le_pow_right (by decide) (by omega);omega};generalize dS names x=sx at *;have cq:=aA O;have co:=aA cc;have db:=aA ce;clear O cc ce;go_wp2
   go_loopw [5,7] (λy p wr=>∃(m k:Nat),y=aM aP m/\p=aM aP k/\k<=aB names/\(∃d,wr=w.drewN d)/\Hid (m=if sx<k then n*8+sx else n)) (λ_ p _=>aB names-(intOf p).toNat)
   case atStart=>exact⟨n,0,rfl,rfl,zz,⟨d,rfl⟩,by show n=_;rw[if_neg (by omega)]⟩
   case round=>
    obtain⟨m,k,rfl,rfl,dj,⟨d2,rfl⟩,A⟩:=hrel;have dm:m<=16777216*8+8:=by{have:=A.o;split at this<;>omega};by_cases Z:k<aB names
    .have⟨gn,cn,e2,de,dk⟩:=HN.o.cell k Z;cases e2;have aq:=cq.o k Z;generalize names[k]=y at *;by_cases hs:sx=k
     .subst hs;have cx:m=n:=by{have:=A.o;rw[if_neg (by omega)] at this;exact this};subst cx;have ae:(y.toList == x.toList)=true:=by{have:=aq;unfold dO at this;rw[this];simp};have c6:(x.toList == y.toList)=true:=by{rw[oh] at ae ⊢;simp at ae ⊢;exact ae.symm};have C:Hid ((m*8+sx:Nat)=if sx<sx+1 then m*8+sx else m):=by{show _=_;rw[if_pos (by omega)]};clear aq ae A;go_wp2;go_quiet (fail);go_wp2
      go_roundw
      case rel=>exact⟨m*8+sx,sx+1,by go_num,by go_num,by omega,⟨_,rfl⟩,C⟩
      case measure=>simp[intOf];omega
     .have ae:(y.toList == x.toList)=false:=by{have:=aq;unfold dO at this;rw[this];simp[hs]};have c6:(x.toList == y.toList)=false:=by rw[oh] at ae ⊢;simp at ae ⊢;exact λe=>ae e.symm
      have C:Hid (m=if sx<k+1 then n*8+sx else n):=by
       show _=_;rw[A.o];by_cases h:sx<k;{rw[if_pos h,if_pos (by omega)]};{rw[if_neg h,if_neg (by omega)]}
      clear aq ae A;go_wp2;go_quiet (fail);go_wp2
      go_roundw
      case rel=>exact⟨m,k+1,by go_num,by go_num,by omega,⟨_,rfl⟩,C⟩
      case measure=>simp[intOf];omega
    .have bf:k=aB names:=by{omega};have z:m=jh names n x:=by{rw[co.o,A.o,bf]};have cl:Hid (m<8 ^ (v+1)):=by{rw[z];exact db};have ci:Hid (T=(b.drop (v+1)).foldl (jh names) m):=by{rw[z];exact al};clear bf z A;go_wp2
     go_roundw
     case rel=>exact⟨m,v+1,by go_num,by go_num,by omega,⟨_,rfl⟩,cl,ci⟩
     case measure=>simp[intOf];omega
  .rw[bE (by omega)] at al;have c9:T=n:=al.o;subst c9;clear al M;go_wp2;go_ret;exact⟨rfl,qy zr⟩
def kD(l:List (List ByteArray))(gs:List Gr):List (List ByteArray×Gr):=l.flatMap (λb=>gs.map (λg=>(b,g)))
def fT(r:Rl)(i:Nat)(names:List ByteArray)(a:Am)(st:List Bool×List (List ByteArray))(p:List ByteArray×Gr):List Bool×List (List ByteArray):=
 match fE a p.2 p.1 with
 |none=>st
 |some c=>
  if iD r i=true then
   (if st.1.getD (iP names (fC r i c)) false=true then st else (st.1.set (iP names (fC r i c)) true,st.2++[fC r i c]))
  else (st.1,st.2++[c])
def l7(r:Rl)(names:List ByteArray)(gs:List Gr)(l:List (List ByteArray))(i:Nat):List (List ByteArray):=
 match r.body[i]? with
 |none=>l
 |some a=>((kD l gs).foldl (fT r i names a) (aY 4096 false,[])).2
def mx(r:Rl)(gs:List Gr):List (List ByteArray):=(aZ (aB r.body)).foldl (l7 r (dP [] (gS gs)) gs) [gP]
structure jN(W:Wq)(v:Vq)(ps:List (List ByteArray×Vq)):Prop where
 row:aE W 0 239 1 v (aB ps) (ps.map (·.2))
 each:∀p∈ps,qv W p.2 p.1
theorem FJ(ps:List (List ByteArray×Vq)):ps.map (·.2)=ps.flatMap (λp=>[p.2]):=by
 induction ps with
 |nil=>rfl
 |cons x l ih=>simp[ih]
theorem jN.cell{W:Wq}{v:Vq}{ps:List (List ByteArray×Vq)}(h:jN W v ps)(k:Nat)(E:k<aB ps):∃g d,v=Sc g (aB ps) d/\g<W.heap.size/\aC W (Ad g k)=aV ps[k].2/\(∃a c,ps[k].2=aH a (aB ps[k].1) c)/\qv W ps[k].2 ps[k].1:=by have z:=h.row;rw[FJ] at z;have⟨g,d,e1,e2,e3,e4,e5⟩:=iI z (λ_=>rfl) (by omega);have C:=h.each ps[k] (zm E);have A:=e5 k 0 E ps[k].2 (by decide) rfl;rw[bG,Nat.add_zero] at A;exact⟨g,d,e1,e3,A,qe C,C⟩
theorem jN.below{W W':Wq}{v:Vq}{ps:List (List ByteArray×Vq)}(h:jN W v ps)(d:Below W.heap.size W W'):jN W' v ps:=⟨qj h.row d,λp z=>(h.each p z).below d⟩
structure kN(N S sb:Nat)(w X:Wq)(box:Array Vq)(lv:Vq)(af:List (List ByteArray×Vq))(nv:Vq)(names:List ByteArray)(ac:List Bool)(vx:Vq)(nx:List (List ByteArray×Vq)):Prop where
 below:Below N w X
 bx:X.heap[N]?=cC box 148
 l:jN X lv af
 lS:∀g,aF lv=aV g->g<S
 nm:qv X nv names
 sn:X.heap[sb]?=aV (aN (ac.map aK).toArray 4)
 nS:N<sb/\sb<S/\S<=X.heap.size
 xown:aE X S 239 1 vx (aB nx) (nx.map (·.2))
 each:∀p∈nx,qv X p.2 p.1
variable {N S sb:Nat} {w X Y:Wq} {box:Array Vq} {lv nv vx bi:Vq} {af nx:List (List ByteArray×Vq)} {names:List ByteArray} {ac:List Bool}
theorem kN.grows(h:kN N S sb w X box lv af nv names ac vx nx)(d:Below X.heap.size X Y):kN N S sb w Y box lv af nv names ac vx nx:=by have hs:=h.nS;have A:=d.size;exact⟨h.below.trans (d.mono (by omega)),(d.block _ (zg h.bx).1).trans h.bx,h.l.below d,h.lS,h.nm.below d,(d.block _ (zg h.sn).1).trans h.sn,⟨hs.1,hs.2.1,by omega⟩,qj h.xown d,λp z=>(h.each p z).below d⟩
theorem kN.mark(h:kN N S sb w X box lv af nv names ac vx nx)(k:Nat):kN N S sb w (X.setCell (Ad sb k) (aK true)) box lv af nv names (ac.set k true) vx nx:=by
 have hs:=h.nS;have C:∀g,g≠sb->(X.setCell (Ad sb k) (aK true)).heap[g]?=X.heap[g]?:=λg z=>bF _ _ _ _ z;have d:∀{B T m n:Nat} {v:Vq} {xs:List Vq},T≠4->aE X B T m v n xs->aE (X.setCell (Ad sb k) (aK true)) B T m v n xs:=by intro B T m n v xs G E;refine qn E (λg z _=>C g (λe=>?_));have⟨c,hc⟩:=qh E z;rw[e,h.sn] at hc;cases hc;exact G rfl
 refine⟨h.below.setCell (by simp;omega) _,(C N (by omega)).trans h.bx,⟨d (by decide) h.l.row,λp A=>d (by decide) (h.l.each p A)⟩,h.lS,d (by decide) h.nm,?_,⟨hs.1,hs.2.1,by simpa using hs.2.2⟩,d (by decide) h.xown,λp A=>d (by decide) (h.each p A)⟩;rw[Qo h.sn k (aK true)];congr 2;rw[<-bC];simp[bI]
theorem kN.app(h:kN N S sb w X box lv af nv names ac vx nx)(c:List ByteArray)(M:Vq)(hc:qv X M c){o:Obj}(G:(X.alloc o).grownBy Y (aF vx))(ho:aE Y S 239 1 bi (aB nx+1) (nx.map (·.2)++[M])):kN N S sb w Y box lv af nv names ac bi (nx++[(c,M)]):=by
 have hs:=h.nS;have hz:=G.size;simp at hz;have z:∀k,aF vx=aV k->S<=k:=λk e=>(Qp h.xown k e).1;have A:∀g,g<X.heap.size->aF vx≠aV g->Y.heap[g]?=X.heap[g]?:=λg ad cg=>(G.block g (by simp;omega) (λe=>cg e.symm)).trans (bB _ _ _ ad);have C:∀{B T m n:Nat} {v:Vq} {xs:List Vq},T≠239->aE X B T m v n xs->aE Y B T m v n xs:=by intro B T m n v xs hT O;refine qn O (λg E ad=>A g ad (λe=>?_));have⟨c1,dc⟩:=qh O E;have⟨c2,b0⟩:=qh h.xown e;rw[dc] at b0;cases b0;exact hT rfl
 have Z:=(zg h.sn).1;have hN:=(zg h.bx).1;refine⟨(h.below.alloc (by omega) o).grown G (by simp;omega) (λk e=>by have:=z k e;omega),(A N hN (λe=>by have:=z N e;omega)).trans h.bx,⟨?_,λp d=>C (by decide) (h.l.each p d)⟩,h.lS,C (by decide) h.nm,(A sb Z (λe=>by have:=z sb e;omega)).trans h.sn,⟨hs.1,hs.2.1,by omega⟩,by simpa using ho,λp d=>?_⟩
 .exact qn h.l.row (λg E ad=>A g ad (λe=>by have:=z g e;have:=h.lS g E;omega))
 .rcases List.mem_append.1 d with d|d
  .exact C (by decide) (h.each p d)
  .simp at d;subst d;exact C (by decide) hc
theorem tF:∀(ts:List Tm) (xs b b':List ByteArray),gH ts xs b=aV b'->aB b'=aB b
 |[],xs,b,b',h=>by grind [gH]
 |t::ts,[],b,b',h=>by simp[gH] at h
 |t::ts,x::xs,b,b',h=>by
  unfold gH at h;split at h
  .split at h;{exact tF ts xs b b' h};{cases h}
  .split at h;{have:=tF ts xs _ b' h;rw[bH] at this;exact this}
   .split at h;{exact tF ts xs b b' h};{cases h}
theorem C0(a:Am)(g:Gr)(b b':List ByteArray)(h:fE a g b=aV b'):aB b'=aB b:=by grind [fE,tF]
theorem GQ(r:Rl)(i:Nat)(b:List ByteArray):aB (fC r i b)=aB b:=by unfold fC;simp
