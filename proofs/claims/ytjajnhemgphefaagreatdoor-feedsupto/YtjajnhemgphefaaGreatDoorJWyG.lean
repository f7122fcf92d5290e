/- A part -/
import Derived.Test.YtjajnhemgphefaaGreatDoorJEgI
import Derived.Test.YtjajnhemgphefaaGreatDoorJLea
import Derived.Test.YtjajnhemgphefaaGreatDoorJWyB
set_option linter.all false
set_option maxRecDepth 100000
set_option maxHeartbeats 4000000
open List renaming length->aB,take_succ_eq_append_getElem->aX,getElem?_take->aY,getElem?_eq_getElem->bB,getElem_of_mem->bD,filter_eq_self->bE,mergeSort_perm->bF,ext_getElem?->bH,length_take->bI,drop_drop->bL
open Go.World renaming cell?->aC,frozen?->aD,ownsRow->aE
open Go.Value renaming ownBlock->aF,slice->aH,string->aI,agg->aJ,bool->aK,tuple->aL,int->aM
open Go.Obj renaming cells->aN,map->bU
open Go.Ending renaming returned->aO
open Go.IntKind renaming i64->aP
open Or renaming inl->aQ,inr->aR
open Option renaming some->aV,none->aW
open Nat renaming mul_le_mul_right->aZ,lt_of_lt_of_le->bG,mod_lt->bJ,add_zero->bO,le_of_lt->bQ,le_trans->bT
open Array renaming mem_toList_iff->bC
open Go.Builtin renaming zeroCells->bX,clear_->bZ
namespace Go.Proofs.YtjajnhemgphefaaGreatDoor
open Go renaming World->Wq,Value->Vq
open Go.RowKit Go.Shelf Go.Maps
variable {W W':Wq} {b g i k ac be bm rb ae:Nat} {L:List (Gd×Int)} {t:TypeId} {es:Array MapEntry} {S:Nat->Prop} {vr vn vk vf:Vq} {aa:List Nat} {Sf:Nat->Nat->Prop}
def yw(Bx:Nat)(p:Gd×Int->Bool)(ok:Gd×Int->Prop)(g:Nat)(w:Wq):Prop:=
 ∀W,dD w W (λk=>k=g)->∀d,ok d->Calls Tryz.prog 86 #[aJ #[aI d.1.rel,aI d.1.x,aI d.1.y,aM aP d.2],.pointer (aV ⟨Bx,0,aW⟩)] W λe w'=>e=aO (aK (p d))/\Below W.heap.size W w'
def Hj(p:Gd×Int->Bool)(l:List (Gd×Int))(i:Int):Prop:=(i=-1/\∀d∈l,p d=false)\/∃k:Nat,i=k/\∃hk:k<aB l,p l[k]=true/\∀j,(hj:j<aB l)->j<k->p l[j]=false
theorem FC(v:Vq)(l:List (Gd×Int))(b g c E:Nat)(p:Gd×Int->Bool)(ok:Gd×Int->Prop)(w:Wq)(hv:v=aH (aV ⟨g,0,aW⟩) (aB l) c)(hS:aE w b 161 4 v (aB l) (l.flatMap qx))(hl:aB l<=1000)(am:∀d∈l,ok d)(hF:yw E p ok g w):Cs 145 #[v,.func (.func 86) #[] #[.pointer (aV ⟨E,0,aW⟩)]] w λe w'=>∃i:Int,e=aO (aM aP i)/\Hj p l i/\Below w.heap.size w w':=by
 have O:∀k (M:k<aB l),aC w (Ad g (k*4))=aV (aI (l[k]).1.rel)/\aC w (Ad g (k*4+1))=aV (aI (l[k]).1.x)/\aC w (Ad g (k*4+2))=aV (aI (l[k]).1.y)/\aC w (Ad g (k*4+3))=aV (aM aP (l[k]).2)/\g<w.heap.size:=by grind [rZ]
 subst hv;have HC:Hid _:=O;have HF:Hid (yw E p ok g w):=hF;have aw:Hid _:=am;clear O hS hF am;go_enter Tryz.func145,Tryz.ntmps145;go_wp2
 go_loopw [8] (λi wr=>∃k:Nat,k<=aB l/\i=aM aP k/\Hid (∀j,(A:j<aB l)->j<k->p l[j]=false)/\Below w.heap.size w wr) (λi _=>aB l-(intOf i).toNat)
 case atStart=>exact⟨0,zz,rfl,λj _ A=>by omega,zr⟩
 case round=>
  obtain⟨k,M,rfl,G,z⟩:=hrel;by_cases ad:k<aB l
  .obtain⟨q0,q1,q2,q3,C⟩:=HC.o k ad;have ca:=(z.cell (p:=⟨g,k*4,aW⟩) C).trans q0;have b9:=(z.cell (p:=⟨g,k*4+1,aW⟩) C).trans q1;have co:=(z.cell (p:=⟨g,k*4+2,aW⟩) C).trans q2;have cb:=(z.cell (p:=⟨g,k*4+3,aW⟩) C).trans q3;have au:=HF.o wr ⟨z.os,z.tape,z.output,z.size,λk M _=>z.block k M⟩ l[k] (aw.o _ (zm ad));have i1:(k:Int)<(aB l:Int):=by omega
   generalize hbb:p l[k]=bb at *;have a8:Hid (p l[k]=bb):=hbb;clear hbb q0 q1 q2 q3;generalize htk:l[k]=tk at *;have Z:Hid (l[k]=tk):=htk;clear htk
   cases bb with
   |true=>go_wp2_with fail;refine au.mono ?_;rintro e w1 ⟨rfl,ab⟩;go_wp2;go_ret;exact⟨k,rfl,aR ⟨k,rfl,ad,by rw[Z.o];exact a8.o,G.o⟩,z.trans (ab.mono z.size)⟩
   |false=>
    go_wp2_with fail;refine au.mono ?_;rintro e w1 ⟨rfl,ab⟩;go_wp2
    go_roundw
    case rel=>
     refine⟨k+1,by omega,by go_num,?_,z.trans (ab.mono z.size)⟩;intro j A ce;by_cases e:j=k
     .subst e;rw[Z.o];exact a8.o
     .exact G.o j A (by omega)
    case measure=>simp[intOf];omega
  .go_wp2;go_ret;refine⟨-1,rfl,aQ ⟨rfl,λd hd=>?_⟩,z⟩;obtain⟨j,A,rfl⟩:=bD hd;exact G.o j A (by omega)
theorem rV:∀(L:List (Gd×Int)) (q r:Nat),r<4->(L.flatMap qx)[q*4+r]?=(L[q]?).bind (λd=>(qx d)[r]?)
 |[],q,r,_=>by simp
 |d::L,0,r,hr=>by grind [l4]
 |d::L,q+1,r,hr=>by rw[List.flatMap_cons,List.getElem?_append_right (by rw[l4];omega),l4,show (q+1)*4+r-4=q*4+r by omega,rV L q r hr];simp
def vW(W:Wq)(g o:Nat)(d:Gd×Int):Wq:=(((W.setCell ⟨g,o,aW⟩ (aI d.1.rel)).setCell ⟨g,o+1,aW⟩ (aI d.1.x)).setCell ⟨g,o+2,aW⟩ (aI d.1.y)).setCell ⟨g,o+3,aW⟩ (aM aP d.2)
theorem GF(W:Wq)(g o:Nat)(d:Gd×Int):vW W g o d=W.setCells g o (qx d):=rfl
theorem Fl{c:Nat}(h:aE W b 161 4 (Sc g (aB L) c) (aB L) (L.flatMap qx)){i:Nat}(hi:i<aB L)(d:Gd×Int):aE (vW W g (i*4) d) b 161 4 (Sc g (aB L) c) (aB L) ((L.set i d).flatMap qx)/\dD W (vW W g (i*4) d) (λk=>k=g):=by
 obtain⟨h0,⟨z,_⟩|⟨g',c',al,z,E,G,A,M,O,Z⟩⟩:=h
 .cases z
 cases z;have b8:aB L*4<=c*4:=aZ 4 A;have ch:i*4+4<=aB L*4:=by omega
 have⟨aj,k1,k2,k3,k4⟩:=ph (b:=g) (qx d) (i*4) W al G (by grind [l4]);rw[GF];refine⟨⟨by rw[we];simp,aR ⟨g,c,aj,rfl,E,k1,A,M,k2.trans O,?_⟩⟩,oL _ _ _ (dD.refl _ _)⟩;refine bH (λm=>?_);obtain⟨q,r,C,rfl⟩:∃q r,r<4/\m=q*4+r:=⟨m / 4,m % 4,bJ _ (by decide),by omega⟩;rw[rV _ _ _ C,aY];by_cases hq:q<aB L
 .rw[if_pos (by omega)];have hL:al[q*4+r]?=(L[q]?).bind (λd=>(qx d)[r]?):=by{rw[<-rV L q r C,<-Z,aY,if_pos (by omega)];simp};by_cases cn:q=i;{grind [l4]};{grind [l4]}
 .grind
theorem E7{z:Array Vq}{n:Nat}{v:Vq}(h:v∈(bX z n).toList):v∈z.toList:=by
 unfold bX at h;rw[bC,Array.mem_map] at h;obtain⟨i,d,rfl⟩:=h;rw[Array.mem_range] at d;have A:0<z.size:=by grind
 have:=bJ i A;rw[getElem!_pos z _ this,bC];exact Array.getElem_mem _
theorem C5(w:Wq)(b o m c:Nat)(O:0<m)(G:∀j,j<m*4->(aC w (Ad b (o+j))).isSome=true)(M:∀j,j<m*4->aD w (Ad b (o+j))=false):∃zs:List Vq,aB zs=m*4/\(bZ #[96] 0 #[aH (aV ⟨b,o,aW⟩) m c]).run Tryz.prog w=.ok (aL #[]) (w.setCells b o zs):=by
 have z:aB (bX (aJ #[St ⟨#[]⟩,St ⟨#[]⟩,St ⟨#[]⟩,Ii 0]).cells m).toList=m*4:=by rw[Array.length_toList,qZ];rfl
 have d:=run_storeCells_cells (P:=Tryz.prog) b o (bX (aJ #[St ⟨#[]⟩,St ⟨#[]⟩,St ⟨#[]⟩,Ii 0]).cells m).toList 0 w (by grind) (by grind) (by
  intro v C;have:=E7 C;have A:(aJ #[St ⟨#[]⟩,St ⟨#[]⟩,St ⟨#[]⟩,Ii 0]).cells.toList=[St ⟨#[]⟩,St ⟨#[]⟩,St ⟨#[]⟩,Ii 0]:=rfl;rw[A] at this;simp only[List.mem_cons,List.not_mem_nil,or_false] at this
  rcases this with rfl|rfl|rfl|rfl<;>rfl)
 simp only[bO] at d;refine⟨_,z,?_⟩;obtain⟨m,rfl⟩:∃E,m=E+1:=⟨m-1,by omega⟩;simp[bZ,run_underlying Tryz.underlying96,Tryz.zeroValue161 w,d]
theorem Ei{c n:Nat}{zs:List Vq}(h:aE W b 161 4 (Sc g n c) n (L.flatMap qx))(hL:aB L=n)(hi:i<=n)(hz:aB zs=(n-i)*4):aE (W.setCells g (i*4) zs) b 161 4 (Sc g i c) i ((L.take i).flatMap qx)/\dD W (W.setCells g (i*4) zs) (λk=>k=g):=by
 obtain⟨h0,⟨z,_⟩|⟨g',c',al,z,E,G,M,O,Z,h6⟩⟩:=h
 .cases z
 cases z;have b8:n*4<=c*4:=aZ 4 M;have cg:i*4+(n-i)*4=n*4:=by grind
 have⟨aj,k1,k2,k3,k4⟩:=ph (b:=g) zs (i*4) W al G (by grind);refine⟨⟨by rw[we,bI];congr 1;omega,aR ⟨g,c,aj,rfl,E,k1,by omega,O,k2.trans Z,?_⟩⟩,oL _ _ _ (dD.refl _ _)⟩;refine bH (λm=>?_);obtain⟨q,r,A,rfl⟩:∃q r,r<4/\m=q*4+r:=⟨m / 4,m % 4,bJ _ (by decide),by omega⟩;rw[rV _ _ _ A,aY];by_cases hq:q<i
 .rw[if_pos (by omega)];have C:al[q*4+r]?=(L[q]?).bind (λd=>(qx d)[r]?):=by{rw[<-rV L q r A,<-h6,aY,if_pos (by omega)];simp};have:=k4 (q*4+r) (aQ (by omega));simp only[Array.getElem?_toList];rw[this,C,aY,if_pos hq]
 .grind
theorem CM{p:Gd×Int->Bool}{l:List (Gd×Int)}{j:Nat}(O:j<aB l)(A:L.take i=(l.take j).filter (λd=>!p d))(G:L.drop j=l.drop j)(M:aB L=aB l)(ax:i<=j):(p l[j]=true->L.take i=(l.take (j+1)).filter (λd=>!p d)/\L.drop (j+1)=l.drop (j+1))/\
  (p l[j]=false->(L.set i l[j]).take (i+1)=(l.take (j+1)).filter (λd=>!p d)/\(L.set i l[j]).drop (j+1)=l.drop (j+1)):=by
 have hd:L.drop (j+1)=l.drop (j+1):=by
  have:=congrArg (List.drop 1) G;rw[bL,bL] at this
  first|exact this|(rw[Nat.add_comm] at this;exact this)
 have C:(l.take (j+1)).filter (λd=>!p d)=(l.take j).filter (λd=>!p d)++(if p l[j] then [] else [l[j]]):=by grind [aX]
 refine⟨λz=>⟨by rw[C,z,A];simp,hd⟩,λz=>⟨?_,?_⟩⟩
 .rw[C,z,<-A];have E:i<aB (L.set i l[j]):=by{simp;omega};rw[aX E,List.getElem_set_self];simp only[Bool.false_eq_true,if_false];congr 1;rw[List.take_set_of_le (Nat.le_refl i)]
 .grind [List.drop_set_of_lt]
theorem Gm(v:Vq)(l:List (Gd×Int))(b g c Bx:Nat)(p:Gd×Int->Bool)(ok:Gd×Int->Prop)(w:Wq)(hv:v=Sc g (aB l) c)(hS:aE w b 161 4 v (aB l) (l.flatMap qx))(hl:aB l<=1000)(am:∀d∈l,ok d)(hF:yw Bx p ok g w):Cs 85 #[v,.func (.func 86) #[] #[Pt Bx]] w λe w'=>e=aO (Sc g (aB (l.filter (λd=>!p d))) c)/\aE w' b 161 4 (Sc g (aB (l.filter (λd=>!p d))) c) (aB (l.filter (λd=>!p d))) ((l.filter (λd=>!p d)).flatMap qx)/\dD w w' (λk=>k=g):=by
 have hI:=FC v l b g c Bx p ok w hv hS hl am hF;subst hv;have HI:=aA hI;have HF:=aA hF;have aw:=aA am;have HS:=aA hS;clear hI hF am hS;go_enter Tryz.func85,Tryz.ntmps85;go_wp2_with fail;refine Calls.mono HI.o ?_;rintro e w1 ⟨i,rfl,⟨rfl,ah⟩|⟨k,rfl,C,bd,ah⟩,ab⟩
 .have Qkk:Hid (l.filter (λd=>!p d)=l):=by{show _=_;rw[bE];intro d hd;rw[ah d hd];rfl};clear ah;go_wp2;go_ret;rw[Qkk.o];exact⟨rfl,qj HS.o ab,⟨ab.os,ab.tape,ab.output,ab.size,λk C _=>ab.block k C⟩⟩
 .have bk:((k:Int) == -1)=false:=by{simp};have bj:¬(k:Int)=-1:=by omega
  have a9:Hid (l.take k=(l.take (k+1)).filter (λd=>!p d)):=by
   show _=_;rw[aX C,List.filter_append];have h1:(l.take k).filter (λd=>!p d)=l.take k:=by{rw[bE];intro d hd;obtain⟨j,hj,rfl⟩:=bD hd;rw[List.getElem_take,ah j (by simp at hj;omega) (by simp at hj;omega)];rfl};rw[h1];simp[bd]
  have HK:=aA C;clear ah bd;go_wp2
  go_loopw [5,6] (λvi vj wr=>∃(i j:Nat) (L:List (Gd×Int)),vi=aM aP i/\vj=aM aP j/\i<j/\j<=aB l/\Hid (aB L=aB l/\L.take i=(l.take j).filter (λd=>!p d)/\L.drop j=l.drop j)/\aE wr b 161 4 (aH (aV ⟨g,0,aW⟩) (aB l) c) (aB l) (L.flatMap qx)/\dD w wr (λk=>k=g)) (λ_ vj _=>aB l-(intOf vj).toNat)
  case atStart=>exact⟨k,k+1,l,rfl,by go_num,by omega,by omega,⟨rfl,a9.o,rfl⟩,qj HS.o ab,⟨ab.os,ab.tape,ab.output,ab.size,λk C _=>ab.block k C⟩⟩
  case round=>
   obtain⟨i,j,L,rfl,rfl,ax,hj,A,qt,E⟩:=hrel;clear bk bj a9 C;by_cases ad:j<aB l
   .have bh:L[j]'(by rw[A.o.1];exact ad)=l[j]:=by{have h1:=congrArg (λz=>z[0]?) A.o.2.2;simp only[List.getElem?_drop,bO] at h1;rw[bB (by rw[A.o.1];exact ad),bB ad] at h1;exact Option.some.inj h1};have az:aE wr b 161 4 (Sc g (aB L) c) (aB L) (L.flatMap qx):=by{rw[A.o.1];exact qt};have⟨g',c',e0,q0,q1,q2,q3,hg⟩:=rZ az (k:=j) (by rw[A.o.1];exact ad);cases e0;rw[bh] at q0 q1 q2 q3;have i1:(j:Int)<(aB l:Int):=by{omega};have au:Hid (∀O,Cs 86 #[aJ #[St (l[j]).1.rel,St (l[j]).1.x,St (l[j]).1.y,Ii (l[j]).2],Pt Bx] (wr.alloc O) λe w'=>e=aO (aK (p l[j]))/\Below (wr.alloc O).heap.size (wr.alloc O) w'):=λO=>HF.o _ (E.alloc O) l[j] (aw.o _ (zm ad));have ao:=CM (p:=p) ad A.o.2.1 A.o.2.2 A.o.1 (bQ ax);have a7:Hid (∀W2,Below (wr.alloc (aN #[St (l[j]).1.rel,St (l[j]).1.x,St (l[j]).1.y,Ii (l[j]).2] 161)).heap.size (wr.alloc (aN #[St (l[j]).1.rel,St (l[j]).1.x,St (l[j]).1.y,Ii (l[j]).2] 161)) W2->W2.heap[wr.heap.size]?=cC #[St (l[j]).1.rel,St (l[j]).1.x,St (l[j]).1.y,Ii (l[j]).2] 161/\aE W2 b 161 4 (Sc g (aB L) c) (aB L) (L.flatMap qx)/\dD w W2 (λk=>k=g)):=λW2 Z=>⟨(Z.block _ (by simp)).trans (zn wr _),qj (az.alloc _) Z,⟨Z.os.trans E.os,Z.tape.trans E.tape,Z.output.trans E.output,by have:=Z.size;have:=E.size;simp at *;omega,λk C hx=>(Z.block k (by have:=E.size;simp;omega)).trans ((Below.heap_alloc _ _ _ (by have:=E.size;omega)).trans (E.block k C hx))⟩⟩;have M:=aA E;have cp:=aA qt;have bi:=aA ao;clear bh az qt E ao;generalize hpb:p l[j]=bb at *;have cf:=aA hpb;clear hpb;generalize hlj:l[j]=d at *;have ck:=aA hlj;clear hlj
    cases bb with
    |true=>
     go_wp2_with fail;refine (au.o _).mono ?_;rintro e W2 ⟨rfl,av⟩;go_wp2
     go_roundw
     case rel=>have⟨x1,x2,x3⟩:=a7.o W2 av;have⟨z1,z2⟩:=bi.o.1 (by trivial);exact⟨i,j+1,L,rfl,by go_num,by omega,by omega,⟨A.o.1,z1,z2⟩,by have:=x2;rw[A.o.1] at this;exact this,x3⟩
     case measure=>simp[intOf];omega
    |false=>
     go_wp2_with fail;refine (au.o _).mono ?_;rintro e W2 ⟨rfl,av⟩;have⟨x1,x2,x3⟩:=a7.o W2 av;have t0:∀j,aC W2 (Ad wr.heap.size j)=([St d.1.rel,St d.1.x,St d.1.y,Ii d.2]:List Vq)[j]?:=λj=>by{simp[aC,x1]};have⟨g',c',e0,s0,s1,s2,s3,cj⟩:=rZ x2 (k:=i) (by rw[A.o.1];omega);cases e0;have⟨_,cc,ag⟩:=qd x2 (g:=g) rfl;have y0:aD W2 (Ad g (i*4))=false:=by{simp[aD,ag]};have y1:aD W2 (Ad g (i*4+1))=false:=by{simp[aD,ag]};have y2:aD W2 (Ad g (i*4+2))=false:=by{simp[aD,ag]};have y3:aD W2 (Ad g (i*4+3))=false:=by{simp[aD,ag]};have i3:(i:Int)<(aB l:Int):=by{omega};have G:Hid _:=And.intro x2 x3;clear x1 x2 x3 ag av;go_wp2
     go_roundw
     case rel=>
      have⟨z1,z2⟩:=bi.o.2 (by trivial);have⟨o1,o2⟩:=Fl G.o.1 (i:=i) (by rw[A.o.1];omega) d;refine⟨i+1,j+1,L.set i d,by go_num,by go_num,by omega,by omega,⟨by simp[A.o.1],z1,z2⟩,?_,?_⟩;{have:=o1;rw[A.o.1] at this;exact this};{exact⟨o2.os.trans G.o.2.os,o2.tape.trans G.o.2.tape,o2.output.trans G.o.2.output,bT G.o.2.size o2.size,λk C hx=>(o2.block k (bG C G.o.2.size) hx).trans (G.o.2.block k C hx)⟩}
     case measure=>simp[intOf];omega
   .have bu:j=aB l:=by{omega};subst bu;have Qf:Hid (L.take i=l.filter (λd=>!p d)):=by{show _=_;rw[A.o.2.1,List.take_length]};have b5:Hid (aB (l.filter (λd=>!p d))=i):=by{show _=_;rw[<-Qf.o,bI,A.o.1];omega};have⟨_,cc,ag⟩:=qd qt (g:=g) rfl
    have ay:cc.size=c*4/\aB l<=c:=by
     obtain⟨h0,⟨hv,_⟩|⟨g',c',al,hv,h1,h2,h3,h4,h5,h6⟩⟩:=qt;{cases hv}
     cases hv;rw[ag] at h2;cases h2;exact⟨h5,h3⟩
    have Ql6:aB l*4<=c*4:=aZ 4 ay.2
    have⟨zs,b3,cl⟩:=C5 wr g (i*4) (aB l-i) (c-i) (by omega) (λj hj=>by
     have:i*4+j<cc.size:=by rw[ay.1];omega
     simp[aC,ag,this]) (λj hj=>by simp[aD,ag])
    have aq:=Ei (zs:=zs) qt A.o.1 (bQ ax) b3;have an:=aA aq;have M:=aA E;have ci:¬(c:Int)=(i:Int):=by{omega};have Qmd:¬c=i:=by{omega};have i3:(i:Int)<=(aB l:Int):=by{omega};have i4:(aB l:Int)<=(c:Int):=by{omega};have i5:(i:Int)<=(c:Int):=by{omega};clear aq qt ag ay E;go_wp2;go_ret;rw[b5.o,<-Qf.o];refine⟨rfl,an.o.1,?_⟩;exact⟨an.o.2.os.trans M.o.os,an.o.2.tape.trans M.o.tape,an.o.2.output.trans M.o.output,bT M.o.size an.o.2.size,λk C hx=>(an.o.2.block k (bG C M.o.size) hx).trans (M.o.block k C hx)⟩
def mE:Tm:=⟨eB,0⟩
def ms:Tm:=⟨eB,1⟩
theorem uh{l A:List (List UInt8)}(h:l.Perm A):fO l=fO A:=by
 have hs:∀l:List (List UInt8),(fO l).Pairwise (λa b=>decide (a<=b)=true):=λl=>List.pairwise_mergeSort (le:=λx y=>decide (x<=y)) (λa b c d z=>by simp only[decide_eq_true_eq] at *;exact List.le_trans d z) (λa b=>by simp only[Bool.or_eq_true,decide_eq_true_eq];exact List.le_total a b) l;refine List.Perm.eq_of_pairwise (le:=λa b=>decide (a<=b)=true) (λa b _ _ d z=>?_) (hs l) (hs A) (((bF l _).trans h).trans (bF A _).symm);simp only[decide_eq_true_eq] at d z;exact List.le_antisymm d z
def qP:Tm:=⟨eB,2⟩
def tz(P E:ByteArray):List Rl:=[⟨⟨P,[mE,ms]⟩,[⟨E,[mE,ms]⟩]⟩,⟨⟨P,[mE,ms]⟩,[⟨P,[mE,qP]⟩,⟨E,[qP,ms]⟩]⟩]
structure Eg where
 rs:List Rl
 win:Int
 lat:Int
 que:Int
 mark:Int
 names:List ByteArray
 kept:List (Gd×Int)
 M:Gd->Option Int
 fds:List Fs
def ik(W:Wq)(k:Nat):Prop:=∃c t,W.heap[k]?=aV (aN c t (0,0))/\(t=101\/t=161\/t=120\/t=198\/t=71\/t=9)
def ko(W:Wq)(k:Nat):Prop:=∃c t,W.heap[k]?=aV (aN c t (0,0))/\(t=198\/t=71)
theorem ko.w(h:ko W k):ik W k:=by
 obtain⟨c,t,z,d|d⟩:=h
 .exact⟨c,t,z,by simp[d]⟩
 .exact⟨c,t,z,by simp[d]⟩
theorem ik.lt(h:ik W k):k<W.heap.size:=by have⟨c,t,h1,_⟩:=h;exact (zg h1).1
theorem ko.lt(h:ko W k):k<W.heap.size:=h.w.lt
theorem ik.same(h:ik W k)(d:W'.heap[k]?=W.heap[k]?):ik W' k:=by have⟨c,t,h1,h2⟩:=h;exact⟨c,t,d.trans h1,h2⟩
theorem ko.same(h:ko W k)(d:W'.heap[k]?=W.heap[k]?):ko W' k:=by have⟨c,t,h1,h2⟩:=h;exact⟨c,t,d.trans h1,h2⟩
theorem ik.not{c:Array Vq}(h:W.heap[k]?=cC c t)(A:t≠101/\t≠161/\t≠120/\t≠198/\t≠71/\t≠9):¬ik W k:=by
 rintro⟨c',C,z,d⟩;rw[h] at z;cases z;rcases d with d|d|d|d|d|d
 .exact A.1 d
 .grind
 .grind
 .grind
 .grind
 .grind
theorem ik.notMap{c:Nat}(h:W.heap[k]?=aV (bU es c)):¬ik W k:=by rintro⟨c',z,d,_⟩;rw[h] at d;cases d
def lD(b:Nat):Vq:=.pointer (aV ⟨b,0,aW⟩)
structure fR(W:Wq)(S:Nat->Prop)(be:Nat)(e:Eg)(vr vn vk vf:Vq)(bm rb ae ac:Nat)(aa:List Nat)(Sf:Nat->Nat->Prop):Prop where
 blk:W.heap[be]?=cC #[vr,Ii e.win,Ii e.lat,Ii e.que,Ii e.mark,vn,vk,.map (aV bm),vf] 101
 rules:Qn W rb ae ac vr e.rs
 names:aE W 0 9 1 vn (aB e.names) (e.names.map aI)
 kept:aE W 0 161 4 vk (aB e.kept) (e.kept.flatMap qx)
 md:eT W bm 5000 e.M
 len:aB aa=aB e.fds
 frow:aE W 0 120 1 vf (aB aa) (aa.map lD)
 feed:∀i (h:i<aB aa) (h':i<aB e.fds),∃b,dZ W (Sf i) aa[i] b e.fds[i]
 sep:∀i j,i≠j->∀k,Sf i k->¬Sf j k
 sub:∀i,∀k,Sf i k->S k/\ko W k
 own:S be/\(∀g,aF vk=aV g->S g)/\(∀g,aF vf=aV g->S g)/\∀g,aF vn=aV g->S g
 typ:∀k,S k->ik W k
def gN(W:Wq)(S:Nat->Prop)(be:Nat)(e:Eg):Prop:=∃vr vn vk vf bm rb ae ac aa Sf,fR W S be e vr vn vk vf bm rb ae ac aa Sf
theorem dZ.narrow{z:Nat}{f:Fs}(h:dZ W S z ac f):dZ W (λk=>S k/\ko W k) z ac f:=by
 have⟨va,vs,vq,h1,h2,h3,h4,h5,h6,h7⟩:=h;refine⟨va,vs,vq,h1,h2,h3,h4,λg d=>⟨⟨(h5 g d).1,?_⟩,(h5 g d).2⟩,λg d=>⟨h6 g d,?_⟩,h7,?_⟩
 .have⟨_,c,hc⟩:=qd h3 d;exact⟨c,_,hc,aR rfl⟩
 .have⟨_,c,hc⟩:=qd h4 d;exact⟨c,_,hc,aR rfl⟩
 .exact⟨_,_,h1,aQ rfl⟩
def kM(W:Wq)(k:Nat):Prop:=∃c t,W.heap[k]?=aV (aN c t (0,0))/\t≠136/\t≠92/\t≠166
theorem ik.n(h:ik W k):kM W k:=by have⟨c,t,h1,h2⟩:=h;exact⟨c,t,h1,by rcases h2 with rfl|rfl|rfl|rfl|rfl|rfl<;>decide⟩
theorem kM.not{c:Array Vq}(h:W.heap[k]?=cC c t)(d:t=136\/t=92\/t=166):¬kM W k:=by
 rintro⟨c',G,z,A,C,E⟩;rw[h] at z;cases z;rcases d with d|d|d
 .exact A d
 .exact C d
 .exact E d
theorem kM.notMap{c:Nat}(h:W.heap[k]?=aV (bU es c)):¬kM W k:=by rintro⟨c',z,d,_⟩;rw[h] at d;cases d
theorem fR.keepN{e:Eg}(h:fR W S be e vr vn vk vf bm rb ae ac aa Sf){ex:Nat->Prop}(d:dD W W' ex)(O:∀k,S k->¬ex k)(G:∀k,k<W.heap.size->ex k->kM W k):fR W' S be e vr vn vk vf bm rb ae ac aa Sf:=by have C:∀k,k<W.heap.size->¬ex k->W'.heap[k]?=W.heap[k]?:=d.block;have ak:∀k,S k->W'.heap[k]?=W.heap[k]?:=λk hs=>C k (h.typ k hs).lt (O k hs);have Z:∀(k:Nat) (c:Array Vq) (t:TypeId),W.heap[k]?=cC c t->(t=136\/t=92\/t=166)->W'.heap[k]?=cC c t:=λk c t d M=>(C k (zg d).1 (λz=>kM.not d M (G k (zg d).1 z))).trans d;have cq:=(zg h.blk).1;refine⟨(ak be h.own.1).trans h.blk,h.rules.keep (λk c t M d=>Z k c t d M),qn h.names (λg A ad=>ak g (h.own.2.2.2 g A)),qn h.kept (λg A ad=>ak g (h.own.2.1 g A)),h.md.kept (λk es c E=>(C k (zg E).1 (λz=>kM.notMap E (G k (zg E).1 z))).trans E),h.len,qn h.frow (λg A ad=>ak g (h.own.2.2.1 g A)),λi hi bv=>?_,h.sep,λi k hs=>⟨(h.sub i k hs).1,(h.sub i k hs).2.same (ak k (h.sub i k hs).1)⟩,h.own,λk hs=>(h.typ k hs).same (ak k hs)⟩;have⟨b,hf⟩:=h.feed i hi bv;exact⟨b,hf.keep (ex:=ex) C (λk hs=>O k (h.sub i k hs).1) (λk c d z=>kM.not d (aR (aR rfl)) (G k (zg d).1 z))⟩
theorem fR.keep{e:Eg}(h:fR W S be e vr vn vk vf bm rb ae ac aa Sf){ex:Nat->Prop}(E:dD W W' ex)(A:∀k,S k->¬ex k)(C:∀k,k<W.heap.size->ex k->ik W k):fR W' S be e vr vn vk vf bm rb ae ac aa Sf:=
 h.keepN E A (λk d z=>(C k d z).n)
theorem gN.keepN{e:Eg}(h:gN W S be e){ex:Nat->Prop}(A:dD W W' ex)(d:∀k,S k->¬ex k)(z:∀k,k<W.heap.size->ex k->kM W k):gN W' S be e:=by have⟨vr,vn,vk,vf,bm,rb,ae,ac,aa,Sf,hv⟩:=h;exact⟨vr,vn,vk,vf,bm,rb,ae,ac,aa,Sf,hv.keepN A d z⟩
theorem gN.keep{e:Eg}(h:gN W S be e){ex:Nat->Prop}(E:dD W W' ex)(A:∀k,S k->¬ex k)(C:∀k,k<W.heap.size->ex k->ik W k):gN W' S be e:=
 h.keepN E A (λk d z=>(C k d z).n)
theorem fR.below{e:Eg}(h:fR W S be e vr vn vk vf bm rb ae ac aa Sf)(d:Below W.heap.size W W'):fR W' S be e vr vn vk vf bm rb ae ac aa Sf:=
 h.keep (dD.ofBelow (λ_=>False) d) (λ_ _=>id) (λ_ _=>False.elim)
theorem gN.below{e:Eg}(h:gN W S be e)(d:Below W.heap.size W W'):gN W' S be e:=
 h.keep (dD.ofBelow (λ_=>False) d) (λ_ _=>id) (λ_ _=>False.elim)
def gF(rs:List Rl):List ByteArray:=(rs.flatMap qz).map (·.rel)
structure jv(rs:List Rl):Prop where
 r8:aB rs<=8
 rok:∀r∈rs,iS r
 arity:∀a∈rs.flatMap qz,aB a.args=dH rs a.rel/\(aB a.args=1\/aB a.args=2)
 nums:∀a∈rs.flatMap qz,∀t∈a.args,t.num<6
 safe:∀r∈rs,∀t∈r.head.args,t.name=eB->∃a∈r.body,∃u∈a.args,u.name=eB/\u.num=t.num
structure dV(e:Eg):Prop where
 rs:jv e.rs
 win:1<=e.win/\e.win<=1000
 lat:0<=e.lat/\e.lat<=1000
 que:1<=e.que/\e.que<=50
 mark:0<=e.mark/\e.mark<=1000000
 n8:aB e.names<=8
 nsz:∀x∈e.names,x.size<=1200
 nrs:∀r∈e.rs,∀t∈r.head.args,t.name≠eB->t.name∈e.names
 k24:aB e.kept<=24
 kept:∀d∈e.kept,d.1∈gD (gF e.rs) e.names/\eO (dH e.rs) d.1/\0<=d.2/\d.2<=1000000
 md:∀g,(e.M g).isSome=true->eO (dH e.rs) g/\g∈gD (gF e.rs) e.names
 f3:aB e.fds<=3
 fds:∀f∈e.fds,nT f.form/\aB f.snap<=1000/\aB f.que<=50
end Go.Proofs.YtjajnhemgphefaaGreatDoor
namespace Go.Proofs.YtjajnhemgphefaaGreatDoor
open Go renaming World->Wq,Value->Vq
open Go.RowKit Go.Shelf
variable {p:dF} {s:Nat->ByteArray} {a:Am} {ar:ByteArray->Nat} {F:List (Gd×Int)} {e:Int} {G:List Gr}
def dR(g:Gd):Gr:=⟨g.rel,if qi g.y=true then [g.x] else [g.x,g.y]⟩
theorem rP{g h:Gd}(e:dR g=dR h):g=h:=by
 have⟨r,x,y⟩:=g;have⟨r',x',y'⟩:=h;unfold dR at e;simp only[Gr.mk.injEq] at e;obtain⟨rfl,e⟩:=e;by_cases d:qi y=true<;>by_cases z:qi y'=true
 .grind [ou]
 .grind
 .grind
 .grind
def G0(a:Am):Prop:=(aB a.args=1\/aB a.args=2)/\∀t∈a.args,t.num<6
def H9(s:Nat->ByteArray)(a:Am):Prop:=∀t∈a.args,qi (iJ s t)=false
theorem uu{t:Tm}(h:qi t.name=true->p.get t.num=s t.num):dI p t=iJ s t:=by grind [dI,iJ,qi]
theorem pY(A:aB a.args=1\/aB a.args=2)(d:∀t∈a.args,qi t.name=true->p.get t.num=s t.num)(z:H9 s a):dR (qb p a)=gu s a:=by
 have⟨rel,args⟩:=a;simp only at A d z;unfold dR qb gu;simp only[Gr.mk.injEq,true_and]
 match args,A,d,z with
 |[t],_,d,z=>show (if qi dK=true then [dI p t] else [dI p t,dK])=[iJ s t];rw[if_pos kH,uu (d t zs)]
 |[t,u],_,d,z=>show (if qi (dI p u)=true then [dI p t] else [dI p t,dI p u])=[iJ s t,iJ s u];have C:=uu (d t zs);have E:=uu (d u (zt zs));have G:=z u (zt zs);rw[C,E,if_neg (by rw[G];decide)]
 |[],h,_,_=>simp at h
 |_::_::_::_,h,_,_=>simp at h
def rS(s:Nat->ByteArray):dF:=⟨s 0,s 1,s 2,s 3,s 4,s 5⟩
theorem xK(s:Nat->ByteArray){n:Nat}(h:n<6):(rS s).get n=s n:=by
 match n,h with
 |0,_=>rfl
 |1,_=>rfl
 |2,_=>rfl
 |3,_=>rfl
 |4,_=>rfl
 |5,_=>rfl
theorem qD(hs:∀v,qi (s v)=false)(t:Tm):qi (iJ s t)=false:=by grind [iJ]
def mC(ar:ByteArray->Nat)(g:Gd):Prop:=qi g.x=false/\((ar g.rel=1/\qi g.y=true)\/(ar g.rel=2/\qi g.y=false))
theorem uf(A:aB a.args=1\/aB a.args=2)(d:aB a.args=ar a.rel):mC ar (qb p a)↔∀t∈a.args,qi (dI p t)=false:=by
 have⟨rel,args⟩:=a;simp only at A d
 match args,A,d with
 |[t],_,d=>show (qi (dI p t)=false/\((ar rel=1/\qi dK=true)\/(ar rel=2/\qi dK=false)))↔_;rw[kH];have z:ar rel=1:=d.symm;simp[z]
 |[t,u],_,d=>show (qi (dI p t)=false/\((ar rel=1/\qi (dI p u)=true)\/(ar rel=2/\qi (dI p u)=false)))↔_;have z:ar rel=2:=d.symm;simp[z]
 |[],h,_=>simp at h
 |_::_::_::_,h,_=>simp at h
structure tD(ar:ByteArray->Nat)(R:List Rl)(F:List (Gd×Int))(e:Int)(G:List Gr):Prop where
 to:∀x∈F,e<x.2->mC ar x.1/\(dR x.1∈G\/∃r∈R,r.body=[]/\x.1=qb Qs r.head)
 back:∀g∈G,∃x∈F,e<x.2/\dR x.1=g
 given:∀r∈R,r.body=[]->∃x∈F,e<x.2/\x.1=qb Qs r.head
structure mH(ar:ByteArray->Nat)(R:List Rl):Prop where
 two:∀r∈R,∀a∈r.head::r.body,G0 a/\aB a.args=ar a.rel
 safe:∀r∈R,∀v,iu r.head v->∃a∈r.body,iu a v
theorem zO{r:Rl}(hs:∀v,iu r.head v->∃a∈r.body,iu a v)(d:r.body=[]):∀t∈r.head.args,qi t.name=false:=λt z=>by
 cases he:qi t.name with
 |false=>rfl
 |true=>have⟨a,ha,_⟩:=hs t.num ⟨t,z,he,rfl⟩;rw[d] at ha;cases ha
theorem Ac{R:List Rl}(d:mH ar R){r:Rl}(A:r∈R)(E:r.body=[])(p:dF)(s:Nat->ByteArray)(hs:∀v,qi (s v)=false):dR (qb p r.head)=gu s r.head:=by have G:=zO (d.safe r A) E;exact pY (d.two r A _ zs).1.1 (λt C z=>by rw[G t C] at z;cases z) (λt C=>qD hs t)
theorem EF{R:List Rl}(O:mH ar R)(hF:tD ar R F e G){g:Gd}(hd:gq R F e g):Dv R G (dR g)/\mC ar g:=by
 have bc:qi (⟨#[97]⟩:ByteArray)=false:=by decide +kernel
 refine hd (λg=>Dv R G (dR g)/\mC ar g) (λx hx E=>?_) (λr C hb p hp=>?_)
 .have⟨h1,A⟩:=hF.to x hx E;refine⟨?_,h1⟩;rcases A with A|⟨r,C,hb,e1⟩
  .exact λS s1 _=>s1 _ A
  .rw[e1,Ac O C hb _ (λ_=>⟨#[97]⟩) (λ_=>bc)];exact λS _ Z=>Z r C _ (λ_=>bc) (λa d=>by rw[hb] at d;cases d)
 .have hv:∀v,(∃a∈r.body,iu a v)->qi (p.get v)=false:=λv ⟨a,d,t,z,E,hn⟩=>by{have⟨A,h3⟩:=O.two r C a (zt d);have:=(uf A.1 h3).1 (hp a d).2 t z;unfold dI at this;rw[if_pos (by exact E),hn] at this;exact this};have hs:∀v,qi ((λv=>if qi (p.get v)=true then (⟨#[97]⟩:ByteArray) else p.get v) v)=false:=λv=>by{grind};have E:∀v,qi (p.get v)=false->p.get v=(λv=>if qi (p.get v)=true then (⟨#[97]⟩:ByteArray) else p.get v) v:=λv h=>by{grind};have b6:∀a∈r.body,dR (qb p a)=gu (λv=>if qi (p.get v)=true then (⟨#[97]⟩:ByteArray) else p.get v) a:=λa d=>pY (O.two r C a (zt d)).1.1 (λt z M=>E _ (hv _ ⟨a,d,t,z,M,rfl⟩)) (λt z=>qD hs t);have bq:∀t∈r.head.args,qi t.name=true->qi (p.get t.num)=false:=λt z M=>hv _ (O.safe r C _ ⟨t,z,M,rfl⟩);have⟨A,h3⟩:=O.two r C r.head zs;refine⟨?_,(uf A.1 h3).2 (λt z=>?_)⟩;{rw[pY A.1 (λt z M=>E _ (bq t z M)) (λt z=>qD hs t)];exact λS s1 Z=>Z r C _ hs (λa d=>by rw[<-b6 a d];exact (hp a d).1 S s1 Z)};{grind [dI,qi]}
theorem G6{R:List Rl}(z:mH ar R)(C:tD ar R F e G){h:Gr}(hd:Dv R G h):∃g,dR g=h/\gq R F e g:=by
 refine hd (λh=>∃g,dR g=h/\gq R F e g) (λx A=>?_) (λr d s hs O=>?_)
 .have⟨y,hy,he,e1⟩:=C.back x A;exact⟨y.1,e1,gq.fact hy he⟩
 .have Z:∀a∈r.head::r.body,dR (qb (rS s) a)=gu s a:=λa E=>pY (z.two r d a E).1.1 (λt M _=>xK s ((z.two r d a E).1.2 t M)) (λt M=>qD hs t);by_cases h0:r.body=[];{have⟨x,A,he,e1⟩:=C.given r d h0;refine⟨x.1,?_,gq.fact A he⟩;rw[e1];exact Ac z d h0 _ s hs};{grind [qb,rS,gq.rule,rP,zs,List.mem_cons_of_mem]}
theorem IC{R:List Rl}(z:mH ar R)(d:tD ar R F e G)(g:Gd):gq R F e g↔Dv R G (dR g):=by refine⟨λh=>(EF z d h).1,λh=>?_⟩;have⟨g',e1,h'⟩:=G6 z d h;rw[<-rP e1];exact h'
