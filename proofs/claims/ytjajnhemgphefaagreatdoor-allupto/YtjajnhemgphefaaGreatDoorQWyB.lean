/- A part -/
import Derived.Test.YtjajnhemgphefaaGreatDoorQMdK
set_option linter.all false
set_option maxRecDepth 100000
set_option maxHeartbeats 16000000
open List renaming length->aD,getElem?_eq_getElem->bB,drop_eq_nil_of_le->bC,replicate->bD,drop_eq_getElem_cons->bE,mem_flatMap->bF,range->bG,foldl_cons->bH,mem_map->bI,length_cons->bJ,length_set->bL,mem_cons->bO,mem_append->bQ,mem_singleton->bT,take_of_length_le->bU,mem_of_mem_take->cD,mem_of_getElem?->cE,map_congr_left->cF,length_append->cG,map_cons->cH,getD_eq_getElem?_getD->cI,take_subset_take_left->cJ,flatMap_cons->cL,getElem?_eq_some_iff->cO,length_map->cP,mem_iff_getElem?->cR,mem_of_mem_drop->cT,mem_cons_of_mem->cW,findIdx_getElem->cX,mem_iff_getElem->cZ,mem_append_left->dA,nodup_append->dC,length_take->dE,length_drop->dF,ext_getElem->dG,nodup_cons->dH,nodup_nil->dI,map_drop->dJ,map_set->dL,map->dO
open Go.World renaming cell?->aE,frozen?->aF,ownsRow->aH
open Go.Value renaming ownBlock->aI,slice->aJ,string->aK,agg->aL,bool->aM,tuple->aN,int->aO
open Go.Obj renaming cells->aP
open Go.Ending renaming returned->aQ
open Go.IntKind renaming i64->aR
open Or renaming inl->aS,inr->aU
open Option renaming some->aX,none->aY
open Go.RowKit.Below renaming heap_alloc->bX,cell->cM,refl->cS,heap_setCell->dB
open Array renaming toList_inj->bZ
open Nat renaming le_trans->cA,mul_one->cQ,pow_le_pow_right->cU,le_refl->dD,zero_add->dK,le_succ->dM
open Go.RowKit renaming Below->dP
open Bool renaming false_or->dQ,or_eq_true->dR,false_eq_true->dS,and_false->dT,false_and->dU,not_true->dV
open Go renaming wpList_make_full->dW
namespace Go.Proofs.YtjajnhemgphefaaGreatDoor
open Go renaming World->Wq,Value->Vq
open Go.RowKit Go.Shelf
def tJ(a:Am)(g:Gr)(b:List ByteArray)(vb:Vq)(N:Nat)(e:Ending)(w':Wq):Prop:=
 match gM a g b with
 |none=>e=aQ (aN #[vb,aM false])
 |some b'=>∃v',e=aQ (aN #[v',aM true])/\aH w' N 9 1 v' (aD b') (b'.map aK)
theorem EQ(p:Am×Vq)(q:Gr×Vq)(vb:Vq)(b:List ByteArray)(w:Wq)(hA:gY w p)(hG:qv w q.2 q.1.d)(hB:qv w vb b)(hl:aD p.1.d<=1000)(bb:0<aD b)(de:aD b<=1000)(hn:∀t∈p.1.d,t.d<aD b):Cs 123 #[aL #[St p.1.j,p.2],rI q,vb] w λe w'=>tJ p.1 q.1 b vb w.heap.size e w'/\dP w.heap.size w w':=by
 have⟨i0,hi,b7,b4,cf⟩:=info_parts Tryz.a;have⟨⟨r1,l1⟩,v1⟩:=p;have⟨⟨r2,l2⟩,v2⟩:=q;unfold rI;simp only at hl hn hG ⊢;have⟨a1,c1,hq⟩:=qd hA;simp only at hq;subst hq;obtain⟨a2,z,rfl⟩:=qd hG;have⟨gb,cb,e1,cu,_⟩:=hB.d 0 bb;subst e1;obtain⟨N,hN⟩:=aB w.heap.size;have ak:=hN.s;have Qhn:gb<N:=hN▸cu
 have ea:Hid (∀(X:Wq),dP N w X->∀(j:Nat)(E:j<aD l1),∃g,a1=aX ⟨g,0,aY⟩/\g<N/\aE X (Ad g (j*2))=aX (St l1[j].c)/\aE X (Ad g (j*2+1))=aX (Ii l1[j].d)):=by intro X hX j E;have⟨g,cap,e1,hg,c0,c1⟩:=hA.d j E;cases e1;have bv:g<N:=hN▸hg;exact⟨g,rfl,bv,(cM hX bv).t c0,(cM hX bv).t c1⟩
 have ef:Hid (∀(X:Wq),dP N w X->∀(j:Nat)(E:j<aD l2),∃g,a2=aX ⟨g,0,aY⟩/\g<N/\aE X (Ad g j)=aX (St l2[j])):=by intro X hX j E;have⟨g,cap,e1,hg,c0⟩:=hG.d j E;cases e1;have bv:g<N:=hN▸hg;exact⟨g,rfl,bv,(cM hX bv).t c0⟩
 have d9:Hid (∀(X:Wq),dP N w X->∀(j:Nat)(E:j<aD b),aE X (Ad gb j)=aX (St (b.getD j ⟨#[]⟩))):=by intro X hX j E;have⟨g,cap,e1,hg,c0⟩:=hB.d j E;cases e1;rw[(cM hX Qhn),c0];simp[bB E]
 have C:Hid (gM ⟨r1,l1⟩ ⟨r2,l2⟩ b=aY->∀(e:Ending)(w':Wq),e=aQ (aN #[Sc gb (aD b) cb,aM false])->tJ ⟨r1,l1⟩ ⟨r2,l2⟩ b (Sc gb (aD b) cb) N e w'):=by intro h e w' he;unfold tJ;rwa[h]
 have Qjo:Hid (∀b',gM ⟨r1,l1⟩ ⟨r2,l2⟩ b=aX b'->∀(e:Ending)(w':Wq),(∃v',e=aQ (aN #[v',aM true])/\aH w' N 9 1 v' (aD b') (b'.map aK))->tJ ⟨r1,l1⟩ ⟨r2,l2⟩ b (Sc gb (aD b) cb) N e w'):=by intro b' h e w' he;unfold tJ;rwa[h]
 have ay:Hid (∀O O',dP N w ((w.alloc O).alloc O')):=λO O'=>((cS _ w).l (by omega) O).l (by simp;omega) O';rw[<-hN];clear hA hG hB hN;cases hr:(r1.toList == r2.toList) with
 |false=>have ao:Hid (gM ⟨r1,l1⟩ ⟨r2,l2⟩ b=aY):=by{show _=_;unfold gM rC;rw[if_neg (by simp[hr])]};go_enter Tryz.func123,Tryz.ntmps123;go_wp2;go_ret2;exact⟨C.o ao.o _ _ rfl,ay.o _ _⟩
 |true=>
  by_cases ae:aD l1=aD l2
  .have A:gM ⟨r1,l1⟩ ⟨r2,l2⟩ b=jR l1 l2 b:=by{unfold gM rC;rw[if_pos ⟨hr,ae⟩]};rw[A] at C Qjo;obtain⟨n,ci⟩:=aC (aD l2);have d8:=aA ci;have c9:=aA (ae.t ci);have e1:=ae.t ci;rw[e1] at hl ⊢;rw[ci];clear ae ci e1 A;go_enter Tryz.func123,Tryz.ntmps123;go_wp2;go_loopw [8] (λx wr=>∃k:Nat,x=aO aR k/\k<=n/\wr=(w.alloc (aP #[aK r1,aJ a1 n c1] 145)).alloc (aP #[aK r2,aJ a2 n z] 226)) (λx _=>n-(intOf x).toNat)
   case atStart=>exact⟨0,rfl,zz,rfl⟩
   obtain⟨k,rfl,b9,rfl⟩:=hrel;by_cases ad:k<n
   .have bi:k<aD l1:=c9.o▸ad;have b6:k<aD l2:=d8.o▸ad;obtain⟨g1,rfl,Qoc,d0,d1⟩:=ea.o _ (ay.o (aP #[St r1,aJ a1 n c1] 145) (aP #[St r2,aJ a2 n z] 226)) k bi;obtain⟨g2,rfl,Qk1,d2⟩:=ef.o _ (ay.o (aP #[St r1,Sc g1 n c1] 145) (aP #[St r2,aJ a2 n z] 226)) k b6;have b5:=hn l1[k] (zm bi);have d3:=d9.o _ (ay.o (aP #[St r1,Sc g1 n c1] 145) (aP #[St r2,Sc g2 n z] 226)) l1[k].d b5;have e6:=λG h2=>GT b l1 l2 b k bi b6 ⟨rfl,λ_ _=>rfl⟩ G h2;have an:=aA e6;clear e6;generalize l1[k]=tm at *;generalize l2[k]=y at *;have⟨nm,nu⟩:=tm;simp only at d0 d1 d3 b5;have d6:mZ b ⟨nm,nu⟩=if nm.toList.isEmpty=true then b.getD nu ⟨#[]⟩ else nm:=rfl;rw[d6] at an;clear d6;generalize b.getD nu ⟨#[]⟩=bn at *;unfold qj rC at an;cases G:nm.toList.isEmpty with
    |true=>
     rw[G] at an;simp only[if_true] at an;cases h2:bn.toList.isEmpty with
     |true=>
      go_wp2;go_roundw
      case rel=>exact⟨k+1,by go_num,by omega,by trivial⟩
      simp[intOf];omega
     |false=>
      cases M:(bn.toList == y.toList) with
      |true=>
       go_wp2;go_roundw
       case rel=>exact⟨k+1,by go_num,by omega,by trivial⟩
       simp[intOf];omega
      |false=>have ao:=an.o h2 M;have bh:Hid _:=C.o ao;clear ao an;go_wp2;go_ret2;exact⟨bh.o _ _ rfl,ay.o _ _⟩
    |false=>
     rw[G] at an;simp only[dS,if_false] at an;cases M:(nm.toList == y.toList) with
     |true=>
      go_wp2;go_roundw
      case rel=>exact⟨k+1,by go_num,by omega,by trivial⟩
      simp[intOf];omega
     |false=>have ao:=an.o G M;have bh:Hid _:=C.o ao;clear ao an;go_wp2;go_ret2;exact⟨bh.o _ _ rfl,ay.o _ _⟩
   have Qhh:i0.bytes*aD b<=281474976710656:=by{rw[cf];omega};have dh:aD b<=maxLen:=by{unfold maxLen;omega};obtain⟨W2,ca⟩:=aC ((w.alloc (aP #[St r1,aJ a1 n c1] 145)).alloc (aP #[St r2,aJ a2 n z] 226));have fg:W2.heap.size=N+2:=by{rw[<-ca];simp[ak]};have am:dP N w W2:=ca▸ay.o _ _;have x1:W2.heap[N]?=cC #[St r1,aJ a1 n c1] 145:=by{rw[<-ca,bX _ _ _ (by simp;omega),<-ak];exact zn w _};have x2:W2.heap[N+1]?=cC #[St r2,aJ a2 n z] 226:=by{rw[<-ca];have:=zn (w.alloc (aP #[St r1,aJ a1 n c1] 145)) (aP #[St r2,aJ a2 n z] 226);rwa[World.size_alloc,ak] at this};have y1:aE W2 (Ad N 1)=aX (aJ a1 n c1):=zc x1;have HMk:Hid (∀w1,aH w1 N 9 1 (Sc (N+2) (aD b) (aD b)) (aD b) (madeCells (aK ⟨#[]⟩).cells (aD b*1)).toList->W2.grownBy w1 aY->jE N w w1 r1 (aJ a1 n c1) r2 (aJ a2 n z) (bD (aD b) ⟨#[]⟩)):=by{intro w1 ho hg;rw[AD] at ho;refine⟨am.grown hg (by omega) (λk e=>by cases e),(hg.b N (by omega) (by simp)).t x1,(hg.b (N+1) (by omega) (by simp)).t x2,?_⟩;obtain⟨_,⟨hv,_⟩|⟨g',b8,fc,hv,_,hh,G,h2,M,h4⟩⟩:=ho;{cases hv};cases hv;rw[hh];congr 2;rw[<-bZ];simp only[cQ] at M h4;rw[<-h4,bU (by simp[M])]};have HCp:Hid (∀w1,jE N w w1 r1 (aJ a1 n c1) r2 (aJ a2 n z) (bD (aD b) ⟨#[]⟩)->(∀j v,(b.map aK)[j]?=aX v->aE w1 ((⟨gb,0,aY⟩:Addr).add j)=aX v)/\jE N w (w1.setRow (N+2) ((((bD (aD b) (⟨#[]⟩:ByteArray)).map aK).toArray.toList.take 0++(b.map aK++((bD (aD b) (⟨#[]⟩:ByteArray)).map aK).toArray.toList.drop (0+aD (b.map aK)))).toArray)) r1 (aJ a1 n c1) r2 (aJ a2 n z) b):=by{intro w1 A;refine⟨λj v E=>?_,?_⟩;{have df:j<aD b:=by{apply Classical.byContradiction;intro h;rw[List.getElem?_eq_none (by simp;omega)] at E;cases E};have G:=d9.o w1 A.f j df;rw[List.getElem?_map,bB df] at E;simp only[Option.map_some,Option.some.injEq] at E;subst E;have e:(⟨gb,0,aY⟩:Addr).add j=⟨gb,j,aY⟩:=by{simp[Addr.add];intro h;exact h.s};rw[e,G];simp[bB df]};have Qv:=setRow_heap w1 (N+2) _ ((((bD (aD b) (⟨#[]⟩:ByteArray)).map aK).toArray.toList.take 0++(b.map aK++((bD (aD b) (⟨#[]⟩:ByteArray)).map aK).toArray.toList.drop (0+aD (b.map aK)))).toArray) _ _ A.h;refine⟨below_setRow A.f (by omega) _,(setRow_other w1 _ _ _ (by omega)).t A.e,(setRow_other w1 _ _ _ (by omega)).t A.c,?_⟩;rw[Qv];congr 2;simp};have Qnf:∀v∈b.map aK,v.oneCell'=true:=by{intro v hv;obtain⟨x,_,rfl⟩:=bI.1 hv;rfl};have fe:(Tryz.prog.info? 9).map (·.size)=aX 1:=by{rw[hi];simp[b4]};rw[ca];clear x1 x2 am;go_wp2_with (first|(at_make;refine dW _ rfl (.tmp 65) (.tmp 65) 22 rfl N 9 i0 (St ⟨#[]⟩) 1 Tryz.underlying22 hi b7 b4 aR aR _ _ (aD b) rfl rfl rfl rfl Qhh dh (by omega) ?_;rw[fg];intro w1 ac ab;have bq:Hid _:=HMk.o w1 ac ab;clear ac ab)|(refine wpList_copy_own rfl (.tmp 67) (.tmp 68) 22 239 rfl 9 Tryz.underlying22 fe (N+2) 0 (aD b) (aD b) ⟨gb,0,aY⟩ (aD b) cb rfl rfl _ _ bq.o.h (b.map aK) (by simp) (HCp.o w1 bq.o).1 (by simp) Qnf ?_;have em:Hid _:=(HCp.o w1 bq.o).2));have d7:Hid (jE N w (w1.setRow (N+2) (dO aK b).toArray) r1 (aJ a1 n c1) r2 (aJ a2 n z) b):=by{have h:jE N w (w1.setRow (N+2) (dO aK b).toArray) r1 (aJ a1 n c1) r2 (aJ a2 n z) b:=by{simpa using em.o};exact h};clear bq HMk HCp em;go_loopw [11] (λx wr=>∃(k:Nat)(out:List ByteArray),x=aO aR k/\k<=n/\jE N w wr r1 (aJ a1 n c1) r2 (aJ a2 n z) out/\Hid (aD out=aD b)/\Hid (jR (l1.drop k) (l2.drop k) out=jR l1 l2 b)) (λx _=>n-(intOf x).toNat)
   case atStart=>exact⟨0,b,rfl,zz,d7.o,rfl,rfl⟩
   clear d7;obtain⟨k,out,rfl,b9,A,aj,aa⟩:=hrel;have y1:aE wr (Ad N 1)=aX (aJ a1 n c1):=by{simp[aE,A.e]};by_cases ad:k<n
   .have bi:k<aD l1:=c9.o▸ad;have b6:k<aD l2:=d8.o▸ad;obtain⟨g1,rfl,Qoc,d0,d1⟩:=ea.o wr A.f k bi;have b5:=hn l1[k] (zm bi);rw[bE bi,bE b6] at aa;have hA:=A.alloc (aP #[St l1[k].c,Ii l1[k].d] 215);obtain⟨g2,rfl,Qk1,d2⟩:=ef.o _ hA.f k b6;have d3:=hA.d l1[k].d (aj.o▸b5);have b0:=λx=>hA.u l1[k].d x;generalize l1[k]=tm at *;generalize l2[k]=y at *;have⟨nm,nu⟩:=tm;simp only at d0 d1 d3 b5 hA b0 d2;have z1:aE (wr.alloc (aP #[St nm,Ii nu] 215)) (Ad (N+1) 1)=aX (Sc g2 n z):=by{simp[aE,hA.c]};have z2:aF (wr.alloc (aP #[St nm,Ii nu] 215)) (Ad (N+2) nu)=false:=by{simp[aF,hA.h]};simp only[jR] at aa;unfold qj rC at aa;have HA:=aA hA;have Qc4:=aA b0;have b3:=aj.o;obtain⟨on,dv⟩:=aC (out.getD nu ⟨#[]⟩);rw[dv] at d3 aa;clear hA b0 A dv;cases G:nm.toList.isEmpty with
    |false=>
     rw[G] at aa;simp only[if_true] at aa;cases M:(nm.toList == y.toList) with
     |true=>
      rw[M] at aa;simp only[if_true] at aa;clear b3;go_wp2;go_quiet (fail);go_wp2;go_quiet (fail);go_wp2;go_roundw
      case rel=>exact⟨k+1,out,by go_num,by omega,HA.o.q _,aj,aa⟩
      simp[intOf];omega
     |false=>rw[M] at aa;simp only[dS,if_false] at aa;have bh:Hid _:=C.o aa.o.s;clear b3 aa;go_wp2;go_quiet (fail);go_wp2;go_ret2;exact⟨bh.o _ _ rfl,qx HA.o.f⟩
    |true=>
     rw[G] at aa;simp only[Bool.true_eq_false,if_false] at aa;cases h2:on.toList.isEmpty with
     |true=>
      rw[h2] at aa;simp only[if_true] at aa;have Qoz:Hid (aD (out.set nu y)=aD b):=by{show _=_;rwa[bL]};have f6:=aA (Qc4.o y);clear b3 Qc4;go_wp2;go_quiet (fail);go_wp2;go_region;all_goals
       go_wp2
       go_roundw
       case rel=>exact⟨k+1,out.set nu y,by go_num,by omega,jE.b f6.o rfl rfl rfl rfl,Qoz,aa⟩
       case measure=>simp[intOf];omega
     |false=>
      rw[h2] at aa;simp only[dS,if_false] at aa;cases M:(on.toList == y.toList) with
      |true=>
       rw[M] at aa;simp only[if_true] at aa;clear b3 Qc4;go_wp2;go_quiet (fail);go_wp2;go_quiet (fail);go_wp2;go_roundw
       case rel=>exact⟨k+1,out,by go_num,by omega,jE.b HA.o rfl rfl rfl rfl,aj,aa⟩
       simp[intOf];omega
      |false=>rw[M] at aa;simp only[dS,if_false] at aa;have bh:Hid _:=C.o aa.o.s;clear b3 Qc4 aa;go_wp2;go_quiet (fail);go_wp2;go_quiet (fail);go_wp2;go_ret2;exact⟨bh.o _ _ rfl,qx (qx HA.o.f)⟩
   have G:l1.drop k=[]:=bC (by rw[c9.o];omega);rw[G] at aa;simp only[jR] at aa;have ft:Hid _:=Qjo.o out aa.o.s;have bu:=A.z (aj.o▸de);rw[aj.o] at bu;have dj:=aA bu;have cx:=aA aj;have HB:=aA A.f;clear A bu aa;go_wp2;go_ret2;refine⟨ft.o _ _ ⟨_,rfl,?_⟩,HB.o⟩;rw[cx.o];exact dj.o
  have ao:Hid (gM ⟨r1,l1⟩ ⟨r2,l2⟩ b=aY):=by{show _=_;unfold gM;rw[if_neg (by simp[ae])]};have G:((aD l1:Int) == (aD l2:Int))=false:=by{simp;omega};have h2:((aD l1:Int) != (aD l2:Int))=true:=by{simp;omega};go_enter Tryz.func123,Tryz.ntmps123;go_wp2;go_ret2;exact⟨C.o ao.o _ _ rfl,ay.o _ _⟩
def fR(vs l:List ByteArray):List ByteArray:=l.foldl Qs vs
def kK(gs:List Gr):List ByteArray:=gs.flatMap (·.d)
theorem D8(z:List ByteArray)(x:ByteArray):aD z<=aD (Qs z x)/\aD (Qs z x)<=aD z+1:=by grind [Qs]
theorem ES(l:List ByteArray):∀z,aD z<=aD (fR z l)/\aD (fR z l)<=aD z+aD l:=by
 induction l with
 |nil=>intro z;simp[fR]
 |cons t l ih=>grind [D8,Qs,fR]
theorem OH(v:Vq)(ps:List (Gr×Vq))(w:Wq)(hp:jS w v ps)(hl:aD ps<=100000)(ha:∀p∈ps,aD p.1.d<=1000)(ht:aD (fR [] (kK (ps.map (·.1))))<=100000):Cs 222 #[v] w λe w'=>∃v',e=aQ v'/\pH w.heap.size w w' v' (fR [] (kK (ps.map (·.1)))):=by
 obtain⟨N,hN⟩:=aB w.heap.size;have ak:=hN.s;obtain⟨va,vc,hv⟩:=qd hp.h;rw[<-hN];have HP:Hid (jS w v ps):=hp;subst hv;clear hp hN;generalize hTT:fR [] (kK (ps.map (·.1)))=T at *;go_enter Tryz.func222,Tryz.ntmps222;go_wp2;go_loopw [3,4] (λo p wr=>∃(i:Nat) (A:Vq) (z:List ByteArray),A=o/\p=aO aR i/\i<=aD ps/\pH N w wr A z/\Hid (fR z (kK ((ps.drop i).map (·.1)))=T)) (λ_ p _=>aD ps-(intOf p).toNat)
 case atStart=>exact⟨0,_,[],rfl,rfl,zz,⟨zr,by omega,zo⟩,hTT⟩
 obtain⟨i,A,z,rfl,rfl,b9,C,aa⟩:=hrel;by_cases O:i<aD ps
 .have dz:Hid (fR z (ps[i].1.d++kK ((ps.drop (i+1)).map (·.1)))=T):=by{have:=aa.o;rw[bE O,cH] at this;unfold kK at this ⊢;rw[cL] at this;exact this};have gv:=ha ps[i] (zm O);have E:Hid (pH N w wr A z):=C;clear aa C;go_wp2;go_loopw [3,5] (λo p wr=>∃(m:Nat) (A:Vq) (z:List ByteArray),A=o/\p=aO aR m/\m<=aD ps[i].1.d/\pH N w wr A z/\Hid (fR z (ps[i].1.d.drop m++kK ((ps.drop (i+1)).map (·.1)))=T)) (λ_ p _=>aD ps[i].1.d-(intOf p).toNat)
  case atStart=>exact⟨0,_,z,rfl,rfl,zz,E.o,dz⟩
  clear E dz;obtain⟨m,A,z,rfl,rfl,Qor,C,G⟩:=hrel;obtain⟨g,cap,e1,hg,d0,d1,⟨x1,x2,M⟩,hS⟩:=(HP.o.f (by rw[ak];exact C.f)).d i O;cases e1;rw[M] at d1;by_cases eh:m<aD ps[i].1.d
  .obtain⟨g3,ff,e3,_,f0⟩:=hS.d m eh;rw[M] at e3;cases e3;rw[bE eh] at G;generalize ps[i].1.d[m]=nm at *;simp only[List.cons_append,fR,bH] at G;have dq:Hid (fR (Qs z nm) (ps[i].1.d.drop (m+1)++kK ((ps.drop (i+1)).map (·.1)))=T):=G;have ev:=(ES (ps[i].1.d.drop (m+1)++kK ((ps.drop (i+1)).map (·.1))) (Qs z nm)).1;rw[dq.o] at ev;have f9:=(D8 z nm).1;have gw:aD z<=100000:=by{omega};have fl:=Gq N A z nm wr C.size (by omega) C.z;have E:Hid (pH N w wr A z):=C;clear G ev f9 M hS d0 C;go_wp2_with (go_at_call 119;refine fl.m ?_;rintro e w2 ⟨v2,rfl,ax,bc⟩);have c5:pH N w w2 v2 (Qs z nm):=⟨E.o.f.grown bc E.o.size (λk e=>(Qr E.o.z k e).1),cA E.o.size bc.size,ax⟩;clear ax bc;go_roundw
   case rel=>exact⟨m+1,v2,_,rfl,by go_num,by omega,c5,dq⟩
   simp[intOf];omega
  rw[bC (by omega)] at G;simp only[List.nil_append] at G;have E:Hid (pH N w wr A z):=C;clear C hS M;go_wp2;go_roundw
  case rel=>exact⟨i+1,A,z,rfl,by go_num,by omega,E.o,G⟩
  simp[intOf];omega
 rw[bC (by omega)] at aa;have fb:z=T:=by have:=aa.o;simpa [fR,kK] using this
 subst fb;go_wp2;go_ret;exact⟨A,rfl,C⟩
def A9(r:Rl)(at' v:Nat):Bool:=Qf (r.n.take (at'+1)) v && !Qf [r.d] v && !Qf (r.n.drop (at'+1)) v
def mA(r:Rl)(at':Nat):Bool:=(bG 8).any (A9 r at')
structure vX(W:Wq)(q:Rl×Vq×Vq)(g c:Nat)(ps:List (Am×Vq)):Prop where
 d:gY W (q.1.d,q.2.1)
 n:jY W (aX ⟨g,0,aY⟩) ps
 j:ps.map (·.1)=q.1.n
 e:q.2.2=Sc g (aD ps) c
 h:aD ps<=c
def vX.f{W W':Wq}{q:Rl×Vq×Vq}{g c:Nat}{ps:List (Am×Vq)}(h:vX W q g c ps)(z:dP W.heap.size W W'):vX W' q g c ps:=⟨h.d.o (Kp.d (S:=0) z),h.n.f z,h.j,h.e,h.h⟩
def jY.e{W:Wq}{a:Option Addr}{ps:List (Am×Vq)}(h:jY W a ps)(i:Nat):jY W a (ps.take i):=
 ⟨λk C=>by
  have z:k<aD ps:=by{grind};have e:(ps.take i)[k]=ps[k]:=by grind
  rw[e];exact h.i k z,λp A=>h.z p (cD A)⟩
def jY.j{W:Wq}{a:Option Addr}:jY W a []:=⟨λk z=>by simp at z,λp A=>by cases A⟩
def jY.d(X:Wq)(hd:Am)(z:Vq)(h:gY X (hd,z)):jY (X.alloc (aP #[St hd.j,z] 145)) (aX ⟨X.heap.size,0,aY⟩) [(hd,z)]:=
 ⟨λk E=>by
  have C:k=0:=by{grind};subst C
  exact⟨X.heap.size,0,rfl,by simp,by simp,by simp⟩,λp A=>by
  simp at A;subst A
  exact h.o (Kp.alloc (S:=0) _ _)⟩
def M4(q:Rl×Vq×Vq)(g c:Nat)(ps:List (Am×Vq))(at':Nat)(w:Wq)(M:vX w q g c ps)(ct:at'<aD ps)(hl:aD ps<=900)(hm:∀p∈(q.1.d,q.2.1)::ps,aD p.1.d<=1000000/\∀t∈p.1.d,t.d<=1000000):Cs 223 #[pT q,Ii at'] w λe w'=>e=aQ (aM (mA q.1 at'))/\dP w.heap.size w w':=by
 unfold pT;have⟨a1,a2,av⟩:=qd M.d;simp only at av;have ch:=M.e;have c3:=M.h;rw[av,ch];obtain⟨N,hN⟩:=aB w.heap.size;have ak:=hN.s;have cd:q.1.n=ps.map (·.1):=M.j.s;have Qfx:∀v,A9 q.1 at' v=(Qf ((ps.take (at'+1)).map (·.1)) v && !Qf [q.1.d] v && !Qf ((ps.drop (at'+1)).map (·.1)) v):=by intro v;unfold A9;rw[cd,List.map_take,dJ]
 obtain⟨W0,cq⟩:=aB (w.alloc (aP #[St q.1.d.j,aJ a1 (aD q.1.d.d) a2,Sc g (aD ps) c] 148));have fq:W0.heap.size=N+1:=by rw[cq];simp[ak]
 have bb:dP N w W0:=by rw[cq];exact (cS _ w).l (by omega) _
 have Qy:W0.heap[N]?=cC #[St q.1.d.j,aJ a1 (aD q.1.d.d) a2,Sc g (aD ps) c] 148:=by rw[cq,<-ak];exact zn w _
 have ey:=M.f (by rw[ak];exact bb);have A:Hid (∀X,dP (N+1) W0 X->jY X (aX ⟨g,0,aY⟩) ps/\gY X (q.1.d,aJ a1 (aD q.1.d.d) a2)/\aE X (Ad N 0)=aX (St q.1.d.j)/\aE X (Ad N 1)=aX (aJ a1 (aD q.1.d.d) a2)/\aE X (Ad N 2)=aX (Sc g (aD ps) c)/\dP N w X/\N+1<=X.heap.size):=by intro X z;have dl:dP W0.heap.size W0 X:=by{rw[fq];exact z};have h1:X.heap[N]?=_:=(z.b N (by omega)).t Qy;have cg:=ey.f dl;refine⟨cg.n,by have:=cg.d;rw[av] at this;exact this,zc h1,zc h1,zc h1,bb.t (z.m (by omega)),by have:=z.s;omega⟩
 have Qjj:Hid (∀(X:Wq) (v:Nat),dP (N+1) W0 X->v<=8->Cs 246 #[Sc g (at'+1) c,Ii v] X λe w'=>e=aQ (aM (Qf ((ps.take (at'+1)).map (·.1)) v))/\w'=X):=by intro X v z hv;have ae:aD (ps.take (at'+1))=at'+1:=by{rw[dE];omega};have h:=ya (aX ⟨g,0,aY⟩) c (ps.take (at'+1)) v X ((A.o X z).1.e _) (by omega) (by omega) (λp O=>hm p (zt (cD O)));rw[ae] at h;exact h
 have di:Hid (∀(X:Wq) (v:Nat),dP (N+1) W0 X->v<=8->Cs 246 #[Sc X.heap.size 1 1,Ii v] (X.alloc (aP #[St q.1.d.j,aJ a1 (aD q.1.d.d) a2] 145)) λe w'=>e=aQ (aM (Qf [q.1.d] v))/\w'=X.alloc (aP #[St q.1.d.j,aJ a1 (aD q.1.d.d) a2] 145)):=by
  intro X v z hv;have h:=ya (aX ⟨X.heap.size,0,aY⟩) 1 [(q.1.d,aJ a1 (aD q.1.d.d) a2)] v _ (jY.d X q.1.d _ (A.o X z).2.1) (by simp) (by omega) (λp O=>by
   simp at O;subst O
   exact hm (q.1.d,q.2.1) zs)
  exact h
 have dc:Hid (∀(X:Wq) (v:Nat),dP (N+1) W0 X->v<=8->Cs 246 #[aJ (if c=at'+1 then aX ⟨g,0,aY⟩ else aX ⟨g,(at'+1)*2,aY⟩) (aD ps-(at'+1)) (c-(at'+1)),Ii v] X λe w'=>e=aQ (aM (Qf ((ps.drop (at'+1)).map (·.1)) v))/\w'=X):=by intro X v z hv;have ae:aD (ps.drop (at'+1))=aD ps-(at'+1):=dF;have hA:jY X (if c=at'+1 then aX ⟨g,0,aY⟩ else aX ⟨g,(at'+1)*2,aY⟩) (ps.drop (at'+1)):=by{split;{rw[bC (by omega)];exact jY.j};{have:=(A.o X z).1.b (at'+1);rw[dK] at this;exact this}};have h:=ya _ (c-(at'+1)) (ps.drop (at'+1)) v X hA (by omega) (by omega) (λp O=>hm p (zt (cT O)));rw[ae] at h;exact h
 have hL:Hid (mA q.1 at'=(bG 8).any (λv=>Qf ((ps.take (at'+1)).map (·.1)) v && !Qf [q.1.d] v && !Qf ((ps.drop (at'+1)).map (·.1)) v)):=by show _=_;unfold mA;congr 1;funext v;exact Qfx v
 generalize mA q.1 at'=T at *;rw[<-hN];clear M ey bb Qy Qfx cd hm hN av ch;generalize q.1.d.j=hrl at *;generalize (aD q.1.d.d)=hal at *;go_enter Tryz.func223,Tryz.ntmps223;go_wp2;go_loopw [5] (λx wr=>∃k:Nat,x=aO aR k/\k<=8/\dP (N+1) W0 wr/\Hid (T=((bG 8).drop k).any (λv=>Qf ((ps.take (at'+1)).map (·.1)) v && !Qf [q.1.d] v && !Qf ((ps.drop (at'+1)).map (·.1)) v))) (λx _=>8-(intOf x).toNat)
 case atStart=>exact⟨0,rfl,zz,by rw[cq];exact zr,hL⟩
 obtain⟨k,rfl,b9,cw,aa⟩:=hrel;have cp:=Ci wr;have gk:=(A.o wr cw).2.2.2.2.2.2;by_cases ad:k<8
 .have e0:(bG 8).drop k=k::(bG 8).drop (k+1):=by{rw[bE (by simpa using ad)];simp};rw[e0] at aa;simp only[List.any_cons] at aa;have f4:=aA cw;clear cw e0;go_wp2_with fail;refine cp.m ?_;rintro e W2 ⟨v2,rfl,ax,am⟩;obtain⟨p1,p2,rfl⟩:=qd ax;have G:dP (N+1) W0 W2:=f4.o.t (am.m gk);have⟨_,_,k0,k1,k2,_,c5⟩:=A.o W2 G;have dx:=Qjj.o W2 k G (by omega);have ce:=di.o W2 k G (by omega);have ei:=aA G;clear cp ax am G;have i1:at'+1<=c:=by{omega};generalize Qf ((ps.take (at'+1)).map (·.1)) k=B1 at *;generalize Qf [q.1.d] k=B2 at *;go_wp2_with fail;refine dx.m ?_;rintro e w' ⟨rfl,C⟩;obtain rfl:W2=w':=C.s;go_wp2_with fail;refine ce.m ?_;rintro e w' ⟨rfl,C⟩;obtain⟨W3,bf⟩:=aC (W2.alloc (aP #[St hrl,aJ a1 hal a2] 145));rw[bf] at C;obtain rfl:W3=w':=C.s;have co:dP (N+1) W0 W3:=by{rw[<-bf];exact ei.o.l c5 _};have⟨_,_,g9,g7,g6,_,gt⟩:=A.o W3 co;have ai:=dc.o W3 k co (by omega);have E:=aA co;generalize Qf ((ps.drop (at'+1)).map (·.1)) k=B3 at *;clear dx ce co bf ei;have i3:at'+1<=aD ps:=by{omega};have i4:(at':Int)+1<=(aD ps:Int):=by{omega};have i5:(aD ps:Int)<=(c:Int):=by{omega};by_cases bj:c=at'+1
  .rw[if_pos bj] at ai;have Qhi:c-(at'+1)=0:=by{omega};rw[Qhi] at ai;clear bj;go_wp2_with fail;refine ai.m ?_;rintro e w' ⟨rfl,C⟩;obtain rfl:W3=w':=C.s;clear ai;cases B1 with
   |false=>
    simp only[dU,dQ] at aa;go_wp2;go_roundw
    case rel=>exact⟨k+1,by go_num,by omega,E.o,aa⟩
    simp[intOf];omega
   |true=>
    cases B2 with
    |true=>
     simp only[dV,dT,dU,dQ] at aa;go_wp2;go_roundw
     case rel=>exact⟨k+1,by go_num,by omega,E.o,aa⟩
     simp[intOf];omega
    |false=>
     cases B3 with
     |true=>
      simp only[dV,dT,dQ] at aa;go_wp2;go_roundw
      case rel=>exact⟨k+1,by go_num,by omega,E.o,aa⟩
      simp[intOf];omega
     |false=>have hT:Hid (T=true):=by{show _=_;rw[aa.o];simp};clear aa;have dg:=(A.o W3 E.o).2.2.2.2.2.1;go_wp2;go_ret;rw[hT.o];exact⟨rfl,dg⟩
  rw[if_neg bj] at ai;go_wp2_with fail;refine ai.m ?_;rintro e w' ⟨rfl,C⟩;obtain rfl:W3=w':=C.s;clear ai;cases B1 with
  |false=>
   simp only[dU,dQ] at aa;go_wp2;go_roundw
   case rel=>exact⟨k+1,by go_num,by omega,E.o,aa⟩
   simp[intOf];omega
  |true=>
   cases B2 with
   |true=>
    simp only[dV,dT,dU,dQ] at aa;go_wp2;go_roundw
    case rel=>exact⟨k+1,by go_num,by omega,E.o,aa⟩
    simp[intOf];omega
   |false=>
    cases B3 with
    |true=>
     simp only[dV,dT,dQ] at aa;go_wp2;go_roundw
     case rel=>exact⟨k+1,by go_num,by omega,E.o,aa⟩
     simp[intOf];omega
    |false=>have hT:Hid (T=true):=by{show _=_;rw[aa.o];simp};clear aa;have dg:=(A.o W3 E.o).2.2.2.2.2.1;go_wp2;go_ret;rw[hT.o];exact⟨rfl,dg⟩
 rw[bC (by simp;omega)] at aa;simp only[List.any_nil] at aa;have fm:=(A.o wr cw).2.2.2.2.2.1;have gl:N<=wr.heap.size:=by{omega};go_wp2_with fail;refine cp.m ?_;rintro e W2 ⟨v2,rfl,ax,am⟩;obtain⟨p1,p2,rfl⟩:=qd ax;have G:dP N w W2:=fm.t (am.m gl);clear cp ax am;go_wp2;go_ret;rw[aa.o];exact⟨rfl,G⟩
def rM(r:Rl)(at' v:Nat):Bool:=Qf [r.d] v || Qf (r.n.drop (at'+1)) v
def gW(r:Rl)(at':Nat)(b:List ByteArray):List ByteArray:=(bG (aD b)).map (λv=>if rM r at' v=true then b.getD v ⟨#[]⟩ else ⟨#[]⟩)
structure rG(N:Nat)(w X:Wq)(box:Array Vq)(out:List ByteArray):Prop where
 f:dP N w X
 e:X.heap[N]?=cC box 148
 h:X.heap[N+1]?=aX (aP (out.map aK).toArray 9)
def rG.alloc{N:Nat}{w X:Wq}{box:Array Vq}{out:List ByteArray}(h:rG N w X box out)(o:Obj):rG N w (X.alloc o) box out:=by have hs:N+2<=X.heap.size:=(zg h.h).1;exact⟨h.f.l (by lia) o,(bX _ _ _ (by lia)).t h.e,(bX _ _ _ (by lia)).t h.h⟩
def rG.u{N:Nat}{w X:Wq}{box:Array Vq}{out:List ByteArray}(h:rG N w X box out)(k:Nat)(x:ByteArray):rG N w (X.setCell (Ad (N+1) k) (St x)) box (out.set k x):=by refine⟨h.f.c (by simp) _,(dB _ _ _ _ (by simp)).t h.e,?_⟩;rw[Qo h.h k (St x)];congr 2;rw[<-bZ];simp[dL]
def rG.z{N:Nat}{w X:Wq}{box:Array Vq}{out:List ByteArray}(h:rG N w X box out)(z:aD out<=1000):aH X N 9 1 (Sc (N+1) (aD out) (aD out)) (aD out) (out.map aK):=
 ⟨by simp,aU ⟨N+1,aD out,(out.map aK).toArray,rfl,by lia,h.h,dD _,by unfold maxLen;lia,by simp,by rw[cQ];exact bU (by simp)⟩⟩
def pJ(f:Nat->ByteArray)(n k:Nat)(out:List ByteArray):Prop:=aD out=n/\∀j,j<n->out.getD j ⟨#[]⟩=if j<k then f j else ⟨#[]⟩
def pJ.e(f:Nat->ByteArray)(n:Nat):pJ f n 0 (bD n ⟨#[]⟩):=by refine⟨by simp,λj z=>?_⟩;rw[if_neg (by lia)];simp[z]
def pJ.o{f:Nat->ByteArray}{n k:Nat}{out:List ByteArray}(h:pJ f n k out)(A:f k=⟨#[]⟩):pJ f n (k+1) out:=by
 refine⟨h.1,λj z=>?_⟩;rw[h.2 j z];by_cases e:j=k
 .grind
 grind
def pJ.u{f:Nat->ByteArray}{n k:Nat}{out:List ByteArray}(h:pJ f n k out)(M:k<n):pJ f n (k+1) (out.set k (f k)):=by
 refine⟨by rw[bL];exact h.1,λj C=>?_⟩;have G:=h.1;by_cases e:j=k
 .grind
 have z:=h.2 j C;have A:(out.set k (f k)).getD j ⟨#[]⟩=out.getD j ⟨#[]⟩:=by{grind};rw[A,z];by_cases E:j<k;{grind};{grind}
def pJ.n{f:Nat->ByteArray}{n:Nat}{out:List ByteArray}(h:pJ f n n out):out=(bG n).map f:=by
 apply dG
 .simp[h.1]
 intro j A C;have z:j<n:=by{grind};have:=h.2 j z;rw[if_pos z] at this;simp only[cI,bB A,Option.getD_some] at this;simp[this]
def Ja(q:Rl×Vq×Vq)(g c:Nat)(ps:List (Am×Vq))(at':Nat)(vb:Vq)(b:List ByteArray)(w:Wq)(M:vX w q g c ps)(hB:qv w vb b)(bb:0<aD b)(de:aD b<=1000)(ct:at'<aD ps)(hl:aD ps<=900)(hm:∀p∈(q.1.d,q.2.1)::ps,aD p.1.d<=1000000/\∀t∈p.1.d,t.d<=1000000):Cs 225 #[vb,pT q,Ii at'] w λe w'=>∃v',e=aQ v'/\aH w' w.heap.size 9 1 v' (aD (gW q.1 at' b)) ((gW q.1 at' b).map aK)/\dP w.heap.size w w':=by
 have⟨i0,hi,b7,b4,cf⟩:=info_parts Tryz.a;unfold pT;have⟨a1,a2,av⟩:=qd M.d;simp only at av;have ch:=M.e;have c3:=M.h;rw[av,ch];have⟨gb,cb,e1,cu,_⟩:=hB.d 0 bb;subst e1;obtain⟨N,hN⟩:=aB w.heap.size;have ak:=hN.s;have Qhn:gb<N:=hN▸cu
 have cd:=M.j.s;have ep:∀v,rM q.1 at' v=(Qf [q.1.d] v || Qf ((ps.drop (at'+1)).map (·.1)) v):=by intro v;unfold rM;rw[cd,dJ]
 have HX:Hid (∀X,dP N w X->jY X (aX ⟨g,0,aY⟩) ps/\gY X (q.1.d,aJ a1 (aD q.1.d.d) a2)/\∀j,j<aD b->aE X (Ad gb j)=aX (St (b.getD j ⟨#[]⟩))):=by intro X O;have dl:dP w.heap.size w X:=ak▸O;have cg:=M.f dl;refine⟨cg.n,av▸cg.d,λj hj=>?_⟩;have⟨g',b8,e',cl,c0⟩:=hB.d j hj;cases e';rw[(cM O Qhn),c0];simp[bB hj]
 have di:Hid (∀(X:Wq)(v:Nat),dP N w X->v<=1000->Cs 246 #[Sc X.heap.size 1 1,Ii v] (X.alloc (aP #[St q.1.d.j,aJ a1 (aD q.1.d.d) a2] 145)) λe w'=>e=aQ (aM (Qf [q.1.d] v))/\w'=X.alloc (aP #[St q.1.d.j,aJ a1 (aD q.1.d.d) a2] 145)):=by
  intro X v O hv;exact ya (aX ⟨X.heap.size,0,aY⟩) 1 [(q.1.d,aJ a1 (aD q.1.d.d) a2)] v _ (jY.d X q.1.d _ (HX.o X O).2.1) (by simp) (by omega) (λp hp=>by
   simp at hp;subst hp
   exact hm (q.1.d,q.2.1) zs)
 have dc:Hid (∀(X:Wq)(v:Nat),dP N w X->v<=1000->Cs 246 #[aJ (if c=at'+1 then aX ⟨g,0,aY⟩ else aX ⟨g,(at'+1)*2,aY⟩) (aD ps-(at'+1)) (c-(at'+1)),Ii v] X λe w'=>e=aQ (aM (Qf ((ps.drop (at'+1)).map (·.1)) v))/\w'=X):=by intro X v O hv;have ae:aD (ps.drop (at'+1))=aD ps-(at'+1):=dF;have hA:jY X (if c=at'+1 then aX ⟨g,0,aY⟩ else aX ⟨g,(at'+1)*2,aY⟩) (ps.drop (at'+1)):=by{split;{rw[bC (by omega)];exact jY.j};{have:=(HX.o X O).1.b (at'+1);rwa[dK] at this}};have h:=ya _ (c-(at'+1)) (ps.drop (at'+1)) v X hA (by omega) (by omega) (λp hp=>hm p (zt (cT hp)));rwa[ae] at h
 obtain⟨f,hf⟩:=aB (λv=>if (Qf [q.1.d] v || Qf ((ps.drop (at'+1)).map (·.1)) v)=true then b.getD v ⟨#[]⟩ else ⟨#[]⟩);have hT:Hid (gW q.1 at' b=(bG (aD b)).map f):=by show _=_;unfold gW;rw[hf];congr 1;funext v;rw[ep v]
 have HF:Hid (∀v,f v=if (Qf [q.1.d] v || Qf ((ps.drop (at'+1)).map (·.1)) v)=true then b.getD v ⟨#[]⟩ else ⟨#[]⟩):=by intro v;rw[hf]
 generalize gW q.1 at' b=T at *;rw[<-hN];clear M hB ep cd hm hN av ch hf;generalize q.1.d.j=hrl at *;generalize (aD q.1.d.d)=hal at *;obtain⟨box,fs⟩:=aB (#[St hrl,aJ a1 hal a2,Sc g (aD ps) c]);have Qhh:i0.bytes*aD b<=281474976710656:=by rw[cf];omega
 have dh:aD b<=maxLen:=by unfold maxLen;omega
 have HMk:Hid (∀w1,aH w1 N 9 1 (Sc (N+1) (aD b) (aD b)) (aD b) (madeCells (aK ⟨#[]⟩).cells (aD b*1)).toList->(w.alloc (aP #[St hrl,aJ a1 hal a2,Sc g (aD ps) c] 148)).grownBy w1 aY->rG N w w1 #[St hrl,aJ a1 hal a2,Sc g (aD ps) c] (bD (aD b) ⟨#[]⟩)):=by intro w1 ho hg;rw[AD] at ho;refine⟨((cS _ w).l (by omega) _).grown hg (by simp;omega) (λk e=>by cases e),(hg.b N (by simp;omega) (by simp)).t (ak▸zn w _),?_⟩;obtain⟨_,⟨hv,_⟩|⟨g',b8,fc,hv,_,hh,G,h2,h3,h4⟩⟩:=ho;{cases hv};cases hv;rw[hh];congr 2;rw[<-bZ];simp only[cQ] at h3 h4;rw[<-h4,bU (by simp[h3])]
 have dy:(w.alloc (aP #[St hrl,aJ a1 hal a2,Sc g (aD ps) c] 148)).heap.size=N+1:=by simp[ak]
 have en:=aA dy;clear fs dy;go_enter Tryz.func225,Tryz.ntmps225;go_wp2_with (at_make;refine dW _ rfl (.tmp 12) (.tmp 12) 22 rfl N 9 i0 (St ⟨#[]⟩) 1 Tryz.underlying22 hi b7 b4 aR aR _ _ (aD b) rfl rfl rfl rfl Qhh dh (by rw[en.o];omega) ?_;rw[en.o];intro w1 ac ab;have bq:Hid _:=HMk.o w1 ac ab;clear ac ab);go_loopw [8] (λx wr=>∃(k:Nat)(out:List ByteArray),x=aO aR k/\k<=aD b/\rG N w wr #[aK hrl,aJ a1 hal a2,aJ (aX ⟨g,0,aY⟩) (aD ps) c] out/\Hid (pJ f (aD b) k out)) (λx _=>aD b-(intOf x).toNat)
 case atStart=>exact⟨0,_,rfl,zz,bq.o,pJ.e f _⟩
 clear bq HMk;obtain⟨k,out,rfl,b9,z,C⟩:=hrel;by_cases ad:k<aD b
 .have x0:=cZz z.e;have ce:=di.o wr k z.f (by omega);have HS:=aA z;have eo:=HF.o k;have db:=aA eo;clear z eo;generalize Qf [q.1.d] k=B2 at *;go_wp2_with fail;refine ce.m ?_;rintro e w' ⟨rfl,E⟩;obtain⟨W3,bf⟩:=aC (wr.alloc (aP #[St hrl,aJ a1 hal a2] 145));rw[bf] at E;obtain rfl:W3=w':=E.s;have A:rG N w W3 #[St hrl,aJ a1 hal a2,Sc g (aD ps) c] out:=bf▸HS.o.alloc _;have x2:aE W3 (Ad N 2)=aX (Sc g (aD ps) c):=by{simp[aE,A.e]};have ai:=dc.o W3 k A.f (by omega);have gy:=(HX.o W3 A.f).2.2 k ad;have aj:=C.o.1;have ck:aE W3 (Ad (N+1) k)=aX (St (out.getD k ⟨#[]⟩)):=by{simp[aE,A.h,bB (show k<aD out by omega)]};have fk:aF W3 (Ad (N+1) k)=false:=by{simp[aF,A.h]};have da:=aA A;generalize Qf ((ps.drop (at'+1)).map (·.1)) k=B3 at *;generalize b.getD k ⟨#[]⟩=bk at *;clear ce A bf HS aj;have i3:at'+1<=aD ps:=by{omega};have i4:(at':Int)+1<=(aD ps:Int):=by{omega};have i5:(aD ps:Int)<=(c:Int):=by{omega};have i6:at'+1<=c:=by{omega};have b0:=aA λy=>da.o.u k y;have Qml:Hid ((B2 || B3)=true->pJ f (aD b) (k+1) (out.set k bk)):=by{intro h;have G:=db.o;rw[if_pos h] at G;rw[<-G];exact C.o.u ad};have Qlq:Hid ((B2 || B3)=false->pJ f (aD b) (k+1) out):=by{intro h;have G:=db.o;rw[if_neg (by rw[h];simp)] at G;exact C.o.o G};clear db C;by_cases bj:c=at'+1
  .rw[if_pos bj] at ai;have Qhi:c-(at'+1)=0:=by{omega};rw[Qhi] at ai;clear bj;go_wp2_with fail;refine ai.m ?_;rintro e w' ⟨rfl,E⟩;obtain rfl:W3=w':=E.s;clear ai;cases B2<;>cases B3
   case false.false=>
    go_wp2;go_roundw
    case rel=>exact⟨k+1,out,by go_num,by omega,da.o,Qlq.o rfl⟩
    simp[intOf];omega
   all_goals
    go_wp2
    go_roundw
    case rel=>exact⟨k+1,_,by go_num,by omega,b0.o bk,Qml.o rfl⟩
    case measure=>simp[intOf];omega
  rw[if_neg bj] at ai;go_wp2_with fail;refine ai.m ?_;rintro e w' ⟨rfl,E⟩;obtain rfl:W3=w':=E.s;clear ai;cases B2<;>cases B3
  case false.false=>
   go_wp2;go_roundw
   case rel=>exact⟨k+1,out,by go_num,by omega,da.o,Qlq.o rfl⟩
   simp[intOf];omega
  all_goals
   go_wp2
   go_roundw
   case rel=>exact⟨k+1,_,by go_num,by omega,b0.o bk,Qml.o rfl⟩
   case measure=>simp[intOf];omega
 have d4:k=aD b:=by{omega};have d5:out=(bG (aD b)).map f:=by{have:=C.o;rw[d4] at this;exact this.n};have aj:=C.o.1;have bu:=z.z (by omega);rw[aj] at bu;have dj:=aA bu;have HB:=aA z.f;have fj:Hid (T=out):=by{show _=_;rw[hT.o,d5]};have cx:=aA aj;clear z bu d5 d4 aj C;go_wp2;go_ret;rw[fj.o,cx.o];exact⟨_,rfl,dj.o,HB.o⟩
def Tryz.k:(Tryz.prog.info? 4).map (λi=>(i.zero,i.size,i.bytes))=aX (aX (aM false),1,1):=by kernel_rfl
def On(w:Wq):Cs 224 #[] w λe w'=>e=aQ (Sc w.heap.size 4096 4096)/\aH w' w.heap.size 4 1 (Sc w.heap.size 4096 4096) 4096 (bD 4096 (aM false))/\dP w.heap.size w w':=by
 have⟨i0,hi,b7,b4,cf⟩:=info_parts Tryz.k;have C:i0.bytes*4096<=281474976710656:=by rw[cf];decide
 have G:4096<=maxLen:=by unfold maxLen;decide
 have z:(madeCells (aM false).cells (4096*1)).toList=bD 4096 (aM false):=F4 (aM false) 4096;have A:=aA z;clear z;go_enter Tryz.func224,Tryz.ntmps224;go_wp2;go_loopw [1,2] (λx p wr=>wr=w/\((x=aO aR 1/\p=aO aR 0)\/(x=aO aR 8/\p=aO aR 1)\/(x=aO aR 64/\p=aO aR 2)\/(x=aO aR 512/\p=aO aR 3)\/(x=aO aR 4096/\p=aO aR 4))) (λ_ p _=>4-(intOf p).toNat)
 case atStart=>exact⟨rfl,aS ⟨rfl,rfl⟩⟩
 have⟨fp,c7⟩:=hrel;obtain rfl:w=wr:=fp.s;obtain⟨rfl,rfl⟩|⟨rfl,rfl⟩|⟨rfl,rfl⟩|⟨rfl,rfl⟩|⟨rfl,rfl⟩:=c7
 case inr.inr.inr.inr=>go_wp2_with (at_make;refine dW _ rfl (.tmp 9) (.tmp 9) 339 rfl w.heap.size 4 i0 (aM false) 1 Tryz.underlying339 hi b7 b4 aR aR _ _ 4096 rfl rfl rfl rfl C G zl ?_;intro w1 ac ab);go_ret;rw[A.o] at ac;exact⟨rfl,ac,(cS _ w).grown ab zl (λk E=>by cases E)⟩
 all_goals
  go_wp2
  go_roundw
  case rel=>simp
  case measure=>simp[intOf]
def nC(names:List ByteArray)(n:Nat)(x:ByteArray):Nat:=if fW names x<aD names then n*8+fW names x else n
def mL(names b:List ByteArray):Nat:=b.foldl (nC names) 0
theorem xE(x y:ByteArray):fQ x y=decide (x=y):=by grind [fQ,vz]
def xU(l:List ByteArray):Prop:=∀(i j:Nat) (hi:i<aD l) (hj:j<aD l),l[i]=l[j]->i=j
def Jd(names:List ByteArray)(x:ByteArray)(A:xU names)(k:Nat)(z:k<aD names):fQ x names[k]=decide (fW names x=k):=by
 rw[xE];by_cases h:x=names[k]
 .have:fW names x=k:=by{refine zi names x k z (by rw[xE];simp[h]) (λj E C=>?_);rw[xE];simp only[decide_eq_false_iff_not];intro e;rw[h] at e;have:=A _ _ _ _ e;lia};rw[decide_eq_true h,decide_eq_true this]
 grind [fQ,fW,xE]
def Jz(names:List ByteArray)(n v:Nat)(x:ByteArray)(z:aD names<=8)(A:n<8 ^ v):nC names n x<8 ^ (v+1):=by grind [nC]
def MV(vb vn:Vq)(b names:List ByteArray)(w:Wq)(O:qv w vb b)(G:qv w vn names)(de:aD b<=8)(h8:aD names<=8)(hd:xU names):Cs 226 #[vb,vn] w λe w'=>e=aQ (Ii (mL names b))/\dP w.heap.size w w':=by
 obtain⟨b1,b2,rfl⟩:=qd O;obtain⟨n1,n2,rfl⟩:=qd G;have HB:=aA O;have HN:=aA G;obtain⟨T,hT⟩:=aB (mL names b);rw[<-hT];have HT:=aA hT;clear O G hT;have g5:(8:Nat) ^ 8=16777216:=by decide
 go_enter Tryz.func226,Tryz.ntmps226;go_wp2;go_loopw [5,6] (λx p wr=>∃(n v:Nat),x=aO aR n/\p=aO aR v/\v<=aD b/\(∃d,wr=w.drewN d)/\Hid (n<8 ^ v)/\Hid (T=(b.drop v).foldl (nC names) n)) (λ_ p _=>aD b-(intOf p).toNat)
 case atStart=>exact⟨0,0,rfl,rfl,zz,⟨0,rfl⟩,by show (0:Nat)<8 ^ 0;decide,HT⟩
 obtain⟨n,v,rfl,rfl,b9,⟨d,rfl⟩,dr,aa⟩:=hrel;by_cases ad:v<aD b
 .have⟨gb,cb,e1,cu,cv⟩:=HB.o.d v ad;cases e1;rw[bE ad] at aa;simp only[bH] at aa;have ct:=Jd names b[v] hd;have eb:=Jz names n v b[v] h8 dr.o;have ew:nC names n b[v]=if fW names b[v]<aD names then n*8+fW names b[v] else n:=rfl;generalize b[v]=x at *;have gz:n<16777216:=by{have h1:=dr.o;have h2:(8:Nat) ^ v<=8 ^ 8:=cU (by decide) (by omega);omega};generalize fW names x=sx at *;have fo:=aA ct;have fi:=aA ew;have gp:=aA eb;clear ct ew eb;go_wp2;go_loopw [5,7] (λy p wr=>∃(m k:Nat),y=aO aR m/\p=aO aR k/\k<=aD names/\(∃d,wr=w.drewN d)/\Hid (m=if sx<k then n*8+sx else n)) (λ_ p _=>aD names-(intOf p).toNat)
  case atStart=>exact⟨n,0,rfl,rfl,zz,⟨d,rfl⟩,by show n=_;rw[if_neg (by omega)]⟩
  obtain⟨m,k,rfl,rfl,g0,⟨d2,rfl⟩,C⟩:=hrel;have g8:m<=16777216*8+8:=by{have:=C.o;split at this<;>omega};by_cases et:k<aD names
  .have⟨gn,cn,e2,gu,g4⟩:=HN.o.d k et;cases e2;have E:=fo.o k et;generalize names[k]=y at *;by_cases hs:sx=k
   .subst hs;have fv:m=n:=by{have:=C.o;rwa[if_neg (by omega)] at this};subst fv;have z:(y.toList == x.toList)=true:=by{have:=E;unfold fQ at this;rw[this];simp};have fy:(x.toList == y.toList)=true:=by{rw[vz] at z ⊢;simp at z ⊢;exact z.s};have M:Hid ((m*8+sx:Nat)=if sx<sx+1 then m*8+sx else m):=by{show _=_;rw[if_pos (by omega)]};clear E z C;go_wp2;go_quiet (fail);go_wp2;go_roundw
    case rel=>exact⟨m*8+sx,sx+1,by go_num,by go_num,by omega,⟨_,rfl⟩,M⟩
    simp[intOf];omega
   have z:(y.toList == x.toList)=false:=by{have:=E;unfold fQ at this;rw[this];simp[hs]};have fy:(x.toList == y.toList)=false:=by{rw[vz] at z ⊢;simp at z ⊢;exact λe=>z e.s};have M:Hid (m=if sx<k+1 then n*8+sx else n):=by{show _=_;rw[C.o];by_cases h:sx<k;{rw[if_pos h,if_pos (by omega)]};{rw[if_neg h,if_neg (by omega)]}};clear E z C;go_wp2;go_quiet (fail);go_wp2;go_roundw
   case rel=>exact⟨m,k+1,by go_num,by go_num,by omega,⟨_,rfl⟩,M⟩
   simp[intOf];omega
  have dn:k=aD names:=by{omega};have A:m=nC names n x:=by{rw[fi.o,C.o,dn]};have fh:Hid (m<8 ^ (v+1)):=A▸gp;have e8:Hid (T=(b.drop (v+1)).foldl (nC names) m):=A▸aa;clear dn A C;go_wp2;go_roundw
  case rel=>exact⟨m,v+1,by go_num,by go_num,by omega,⟨_,rfl⟩,fh,e8⟩
  simp[intOf];omega
 rw[bC (by omega)] at aa;have gh:T=n:=aa.o;subst gh;clear aa HT;go_wp2;go_ret;exact⟨rfl,qx zr⟩
def pD(l:List (List ByteArray))(gs:List Gr):List (List ByteArray×Gr):=l.flatMap (λb=>gs.map (λg=>(b,g)))
def iV(r:Rl)(i:Nat)(names:List ByteArray)(a:Am)(st:List Bool×List (List ByteArray))(p:List ByteArray×Gr):List Bool×List (List ByteArray):=
 match gM a p.2 p.1 with
 |none=>st
 |some c=>
  if mA r i=true then
   (if st.1.getD (mL names (gW r i c)) false=true then st else (st.1.set (mL names (gW r i c)) true,st.2++[gW r i c]))
  else (st.1,st.2++[c])
def rQ(r:Rl)(names:List ByteArray)(gs:List Gr)(l:List (List ByteArray))(i:Nat):List (List ByteArray):=
 match r.n[i]? with
 |none=>l
 |some a=>((pD l gs).foldl (iV r i names a) (bD 4096 false,[])).2
def sv(r:Rl)(gs:List Gr):List (List ByteArray):=(bG (aD r.n)).foldl (rQ r (fR [] (kK gs)) gs) [iF]
structure oM(W:Wq)(v:Vq)(ps:List (List ByteArray×Vq)):Prop where
 h:aH W 0 239 1 v (aD ps) (ps.map (·.2))
 z:∀p∈ps,qv W p.2 p.1
theorem ME(ps:List (List ByteArray×Vq)):ps.map (·.2)=ps.flatMap (λp=>[p.2]):=by
 induction ps with
 |nil=>rfl
 |cons x l ih=>simp[ih]
def oM.d{W:Wq}{v:Vq}{ps:List (List ByteArray×Vq)}(h:oM W v ps)(k:Nat)(G:k<aD ps):∃g z,v=Sc g (aD ps) z/\g<W.heap.size/\aE W (Ad g k)=aX ps[k].2/\(∃a c,ps[k].2=aJ a (aD ps[k].1) c)/\qv W ps[k].2 ps[k].1:=by have A:=h.h;rw[ME] at A;have⟨g,z,e1,e2,e3,e4,e5⟩:=lH A (λ_=>rfl) (by lia);have E:=h.z ps[k] (zm G);have C:=e5 k 0 G ps[k].2 (by lia) rfl;rw[cQ,Nat.add_zero] at C;exact⟨g,z,e1,e3,C,qd E,E⟩
def oM.f{W W':Wq}{v:Vq}{ps:List (List ByteArray×Vq)}(h:oM W v ps)(z:dP W.heap.size W W'):oM W' v ps:=⟨qh h.h z,λp A=>(h.z p A).f z⟩
structure qT(N S sb:Nat)(w X:Wq)(box:Array Vq)(lv:Vq)(az:List (List ByteArray×Vq))(nv:Vq)(names:List ByteArray)(af:List Bool)(vx:Vq)(nx:List (List ByteArray×Vq)):Prop where
 f:dP N w X
 d:X.heap[N]?=cC box 148
 l:oM X lv az
 q:∀g,aI lv=aX g->g<S
 o:qv X nv names
 m:X.heap[sb]?=aX (aP (af.map aM).toArray 4)
 n:N<sb/\sb<S/\S<=X.heap.size
 k:aH X S 239 1 vx (aD nx) (nx.map (·.2))
 z:∀p∈nx,qv X p.2 p.1
variable {N S sb:Nat} {w X Y:Wq} {box:Array Vq} {lv nv vx dt:Vq} {az nx:List (List ByteArray×Vq)} {names:List ByteArray} {af:List Bool}
def qT.e(h:qT N S sb w X box lv az nv names af vx nx)(z:dP X.heap.size X Y):qT N S sb w Y box lv az nv names af vx nx:=by have hs:=h.n;have C:=z.s;exact⟨h.f.t (z.m (by lia)),(z.b _ (zg h.d).1).t h.d,h.l.f z,h.q,h.o.f z,(z.b _ (zg h.m).1).t h.m,⟨hs.1,hs.2.1,by lia⟩,qh h.k z,λp A=>(h.z p A).f z⟩
def qT.h(h:qT N S sb w X box lv az nv names af vx nx)(k:Nat):qT N S sb w (X.setCell (Ad sb k) (aM true)) box lv az nv names (af.set k true) vx nx:=by
 have hs:=h.n;have E:∀g,g≠sb->(X.setCell (Ad sb k) (aM true)).heap[g]?=X.heap[g]?:=λg A=>dB _ _ _ _ A;have z:∀{B T m n:Nat}{v:Vq}{xs:List Vq},T≠4->aH X B T m v n xs->aH (X.setCell (Ad sb k) (aM true)) B T m v n xs:=by intro B T m n v xs M G;refine qm G (λg A _=>E g (λe=>?_));have⟨c,hc⟩:=qg G A;rw[e,h.m] at hc;cases hc;exact M rfl
 refine⟨h.f.c (by simp;lia) _,(E N (by lia)).t h.d,⟨z (by lia) h.l.h,λp C=>z (by lia) (h.l.z p C)⟩,h.q,z (by lia) h.o,?_,⟨hs.1,hs.2.1,by simpa using hs.2.2⟩,z (by lia) h.k,λp C=>z (by lia) (h.z p C)⟩;rw[Qo h.m k (aM true)];congr 2;rw[<-bZ];simp[dL]
def qT.j(h:qT N S sb w X box lv az nv names af vx nx)(c:List ByteArray)(vc:Vq)(hc:qv X vc c){o:Obj}(O:(X.alloc o).grownBy Y (aI vx))(ho:aH Y S 239 1 dt (aD nx+1) (nx.map (·.2)++[vc])):qT N S sb w Y box lv az nv names af dt (nx++[(c,vc)]):=by
 have hs:=h.n;have hz:=O.size;simp at hz;have C:=λk e=>(Qr h.k k e).1;have E:∀g,g<X.heap.size->aI vx≠aX g->Y.heap[g]?=X.heap[g]?:=λg A e7=>(O.b g (by simp;lia) (λe=>e7 e.s)).t (bX _ _ _ A);have G:∀{B T m n:Nat}{v:Vq}{xs:List Vq},T≠239->aH X B T m v n xs->aH Y B T m v n xs:=by intro B T m n v xs hT eg;refine qm eg (λg M A=>E g A (λe=>?_));have⟨c1,gq⟩:=qg eg M;have⟨c2,ee⟩:=qg h.k e;rw[gq] at ee;cases ee;exact hT rfl
 have fx:=(zg h.m).1;have hN:=(zg h.d).1;refine⟨(h.f.l (by lia) o).grown O (by simp;lia) (λk e=>by have:=C k e;lia),(E N hN (λe=>by have:=C N e;lia)).t h.d,⟨?_,λp z=>G (by lia) (h.l.z p z)⟩,h.q,G (by lia) h.o,(E sb fx (λe=>by have:=C sb e;lia)).t h.m,⟨hs.1,hs.2.1,by lia⟩,by simpa using ho,λp z=>?_⟩
 .exact qm h.l.h (λg M A=>E g A (λe=>by have:=C g e;have:=h.q g M;lia))
 obtain z|z:=bQ.1 z
 .exact G (by lia) (h.z p z)
 simp at z;subst z;exact G (by lia) hc
theorem yf:∀(ts:List Tm) (xs b b':List ByteArray),jR ts xs b=aX b'->aD b'=aD b
 |[],xs,b,b',h=>by grind [jR]
 |t::ts,[],b,b',h=>by simp[jR] at h
 |t::ts,x::xs,b,b',h=>by
  unfold jR at h;split at h
  .split at h;{exact yf ts xs b b' h};{cases h}
  .split at h;{have:=yf ts xs _ b' h;rwa[bL] at this}
   .split at h;{exact yf ts xs b b' h};{cases h}
def OW(a:Am)(g:Gr)(b b':List ByteArray)(h:gM a g b=aX b'):aD b'=aD b:=by grind [gM,yf]
def Mv(r:Rl)(i:Nat)(b:List ByteArray):aD (gW r i b)=aD b:=by unfold gW;simp
structure Cb(r:Rl)(names:List ByteArray)(gs:List Gr)(P:Nat->List ByteArray->Prop):Prop where
 e:P 0 iF
 d:∀(i:Nat) (a:Am) (g:Gr) (b c:List ByteArray),r.n[i]?=aX a->g∈gs->P i b->gM a g b=aX c->(mA r i=true->P (i+1) (gW r i c)/\mL names (gW r i c)<4096)/\(mA r i=false->P (i+1) c)
abbrev fJ:ByteArray:=⟨#[]⟩
theorem sS(x:ByteArray):qj x=true↔x=fJ:=by
 constructor
 .intro h;have A:=List.isEmpty_iff.1 h;have C:fJ.toList=[]:=by{decide +kernel};have z:=vz x fJ;rw[A,C] at z;simpa using z.s
 rintro rfl;decide +kernel
theorem pB:qj fJ=true:=by decide +kernel
theorem uf(x y:ByteArray):rC x y=true↔x=y:=by grind [rC,vz]
def lL(a:Am)(v:Nat):Prop:=∃t∈a.d,qj t.c=true/\t.d=v
def GA(z:List Am)(v:Nat):Qf z v=true↔∃a∈z,lL a v:=by grind [Qf,lL,mW,qj]
theorem w7(a:Am)(v:Nat):Qf [a] v=true↔lL a v:=by rw[GA];simp
def KR(b:List ByteArray)(n v:Nat)(x:ByteArray)(z:n<aD b):(b.set n x).getD v fJ=if v=n then x else b.getD v fJ:=by grind
theorem vY:∀(ts:List Tm) (xs b c:List ByteArray),jR ts xs b=aX c->aD ts=aD xs->(∀x∈xs,qj x=false)->(∀t∈ts,t.d<aD b)->
  aD c=aD b/\(∀v,qj (b.getD v fJ)=false->c.getD v fJ=b.getD v fJ)/\xs=ts.map (mZ c)/\(∀v,qj (c.getD v fJ)=false↔(qj (b.getD v fJ)=false\/∃t∈ts,qj t.c=true/\t.d=v))/\∀v,qj (c.getD v fJ)=false->qj (b.getD v fJ)=true->c.getD v fJ∈xs
 |[],[],b,c,h,_,_,_=>by cases h;exact⟨rfl,λ_ _=>rfl,rfl,λv=>by simp,λv A z=>by rw[A] at z;cases z⟩
 |[],_::_,_,_,_,h,_,_=>by cases h
 |_::_,[],_,_,_,h,_,_=>by cases h
 |t::ts,x::xs,b,c,h,hl,hx,hn=>by
  have M:aD ts=aD xs:=by{simpa using hl};have G:=λy hy=>hx y (zt hy);have al:=λu O=>hn u (zt O);have ek:=hn t zs;unfold jR at h;by_cases A:qj t.c=false
  .rw[if_pos A] at h;by_cases z:rC t.c x=true
   .rw[if_pos z] at h;have⟨i1,i2,i3,i4,i5⟩:=vY ts xs b c h M G al;refine⟨i1,i2,?_,λv=>?_,λv C E=>cW _ (i5 v C E)⟩;{grind [mZ,qj,uf]};{grind}
   .grind
  .have ez:qj t.c=true:=by{simpa using A};rw[if_neg A] at h;by_cases z:qj (b.getD t.d ⟨#[]⟩)=true
   .rw[if_pos z] at h;have⟨i1,i2,i3,i4,i5⟩:=vY ts xs (b.set t.d x) c h M G (λu O=>by rw[bL];exact al u O);rw[bL] at i1;have gj:c.getD t.d fJ=x:=by{grind};refine⟨i1,λv g=>?_,?_,λv=>?_,λv C E=>?_⟩;{grind};{rw[cH,<-i3];congr 1;unfold mZ;rw[if_pos (by exact ez)];exact gj.s};{grind};{grind}
   .rw[if_neg z] at h;have f5:qj (b.getD t.d fJ)=false:=by{simpa using z};by_cases h3:rC (b.getD t.d ⟨#[]⟩) x=true
    .rw[if_pos h3] at h;have ge:=(uf _ _).1 h3;have⟨i1,i2,i3,i4,i5⟩:=vY ts xs b c h M G al;refine⟨i1,i2,?_,λv=>?_,λv C E=>cW _ (i5 v C E)⟩;{rw[cH,<-i3];congr 1;unfold mZ;rw[if_pos (by exact ez),i2 _ f5];exact ge.s};{grind}
    .grind
def lX(s:Nat->ByteArray)(t:Tm):ByteArray:=if qj t.c=true then s t.d else t.c
def iX(s:Nat->ByteArray)(a:Am):Gr:=⟨a.j,a.d.map (lX s)⟩
def xN(b:List ByteArray)(s:Nat->ByteArray):Prop:=∀v,qj (b.getD v fJ)=false->b.getD v fJ=s v
theorem wY(s:Nat->ByteArray):∀(ts:List Tm) (b:List ByteArray),(∀t∈ts,t.d<aD b)->xN b s->(∀v,qj (s v)=false)->∃c,jR ts (ts.map (lX s)) b=aX c/\xN c s
 |[],b,_,hb,_=>⟨b,rfl,hb⟩
 |t::ts,b,hn,hb,hs=>by
  have al:=λu C=>hn u (zt C);have M:=hn t zs;rw[cH];unfold jR;by_cases A:qj t.c=false
  .have z:lX s t=t.c:=by{unfold lX;rw[A];rfl};rw[if_pos A,z,if_pos ((uf _ _).2 rfl)];exact wY s ts b al hb hs
  .have z:lX s t=s t.d:=by{grind [lX]};rw[if_neg A,z];by_cases G:qj (b.getD t.d ⟨#[]⟩)=true
   .rw[if_pos G];refine wY s ts _ (λu C=>by rw[bL];exact al u C) (λv E=>?_) hs;rw[KR _ _ _ _ M] at E ⊢;by_cases e:v=t.d;{grind};{rw[if_neg e] at E ⊢;exact hb v E}
   .rw[if_neg G,if_pos ((uf _ _).2 (hb _ (by grind)))];exact wY s ts b al hb hs
def jB(r:Rl):Nat->Nat->Bool
 |0,_=>false
 |i+1,v=>match r.n[i]? with
  |none=>jB r i v
  |some a=>if mA r i=true then (jB r i v || Qf [a] v) && rM r i v else jB r i v || Qf [a] v
theorem Ch(r:Rl)(v:Nat):∀i,i<=aD r.n->(∃k a,k<i/\r.n[k]?=aX a/\lL a v)->(lL r.d v\/∃j a,i<=j/\r.n[j]?=aX a/\lL a v)->jB r i v=true
 |0,_,⟨k,a,hk,_⟩,_=>by lia
 |i+1,hi,⟨k,a,hk,ha,hv⟩,C=>by
  have M:r.n[i]?=aX r.n[i]:=bB (by lia)
  have E:(jB r i v || Qf [r.n[i]] v)=true:=by
   rw[dR];by_cases e:k=i;{grind [w7]};{refine aS (Ch r v i (by lia) ⟨k,a,by lia,ha,hv⟩ (C.imp id ?_));rintro⟨j,z,O,A⟩;exact⟨j,z,by lia,A⟩}
  unfold jB;rw[M];simp only;split
  .rw[Bool.and_eq_true];refine⟨E,?_⟩;unfold rM;rw[dR];obtain C|⟨j,z,O,A,G⟩:=C
   .grind [w7]
   .refine aU ((GA _ _).2 ⟨z,?_,G⟩);rw[cR];exact⟨j-(i+1),by rw[List.getElem?_drop];rwa[show i+1+(j-(i+1))=j by omega]⟩
  .exact E
structure uj(r:Rl):Prop where
 e:aD r.n<=3
 d:∀a∈r.d::r.n,aD a.d<=2/\∀t∈a.d,t.d<8
 j:∀v,lL r.d v->∃a∈r.n,lL a v
structure Wy(r:Rl)(names:List ByteArray)(d:Nat->Bool)(b:List ByteArray):Prop where
 l:aD b=8
 e:∀v,v<8->qj (b.getD v fJ)=!d v
 f:∀v,qj (b.getD v fJ)=false->b.getD v fJ∈names
def tO(r:Rl)(i:Nat)(a:Am)(v:Nat):Bool:=jB r i v || Qf [a] v
def wg{a:Am}{g:Gr}{b c:List ByteArray}(h:gM a g b=aX c):a.j=g.j/\aD a.d=aD g.d/\jR a.d g.d b=aX c:=by grind [gM,uf]
def Jp{b:List ByteArray}{v:Nat}(h:qj (b.getD v fJ)=false):v<aD b:=by grind [pB]
section
variable {r:Rl} {names:List ByteArray} {gs:List Gr} {i:Nat} {a:Am} {g:Gr} {b c:List ByteArray}
def Az(hr:uj r)(M:∀g∈gs,∀x∈g.d,qj x=false/\x∈names)(E:a∈r.n)(O:g∈gs)(h:Wy r names (jB r i) b)(A:gM a g b=aX c):Wy r names (tO r i a) c:=by
 have⟨f1,f2,f3⟩:=wg A;have hn:=(hr.d a (zt E)).2;have⟨i1,i2,i3,i4,i5⟩:=vY _ _ _ _ f3 f2 (λx hx=>(M g O x hx).1) (λt ht=>by rw[h.l];exact hn t ht);refine⟨i1.t h.l,λv C=>?_,λv C=>?_⟩
 .have e1:(qj (c.getD v fJ)=false)↔tO r i a v=true:=by{rw[i4 v,h.e v C];unfold tO;rw[dR,w7];unfold lL;simp};clear i4 i5 i3 f3 A;cases h1:qj (c.getD v fJ)<;>cases h2:tO r i a v;{grind};{rfl};{rfl};grind
 by_cases G:qj (b.getD v fJ)=true;{grind};have z:qj (b.getD v fJ)=false:=by{simpa using G};rw[i2 v z];exact h.f v z
def yh(v:Nat)(z:aD c=8):(gW r i c).getD v fJ=if v<8/\rM r i v=true then c.getD v fJ else fJ:=by grind [gW]
theorem Be(h:Wy r names (tO r i a) c)(E:r.n[i]?=aX a)(G:mA r i=true):Wy r names (jB r (i+1)) (gW r i c):=by
 refine⟨by unfold gW;simpa using h.l,λv z=>?_,λv z=>?_⟩
 .rw[yh v h.l];show _=!(match r.n[i]? with|none=>jB r i v|some a=>if mA r i=true then (jB r i v || Qf [a] v) && rM r i v else jB r i v || Qf [a] v);rw[E];simp only[G,if_true];have C:=h.e v z;unfold tO at C;by_cases M:rM r i v=true;{grind};{grind [rM,pB]}
 rw[yh v h.l] at z ⊢;split at z;{rename_i A;rw[if_pos A];exact h.f v z};{grind [pB]}
def CS(h:Wy r names (tO r i a) c)(z:r.n[i]?=aX a)(A:mA r i=false):Wy r names (jB r (i+1)) c:=by refine⟨h.l,λv C=>?_,h.f⟩;rw[h.e v C];show _=!(match r.n[i]? with|none=>jB r i v|some a=>if mA r i=true then (jB r i v || Qf [a] v) && rM r i v else jB r i v || Qf [a] v);rw[z];simp only[A];rfl
end
theorem AV(x y:ByteArray):fQ x y=true↔x=y:=by rw[xE];simp
def uO{names:List ByteArray}{x:ByteArray}:fW names x<aD names↔x∈names:=by grind [fW,AV]
def OB{names:List ByteArray}{x y:ByteArray}(G:x∈names)(M:y∈names)(h:fW names x=fW names y):x=y:=by have z:=uO.2 G;have A:=uO.2 M;have C:fQ x (names[fW names x]'z)=true:=cX (p:=fQ x) (xs:=names) (w:=z);have E:fQ y (names[fW names y]'A)=true:=cX (p:=fQ y) (xs:=names) (w:=A);rw[(AV _ _).1 C,(AV _ _).1 E];congr 1
theorem DJ(names:List ByteArray)(h8:aD names<=8)(he:fJ∉names):∀(x y:List ByteArray) (n m:Nat),aD x=aD y->(∀(v:Nat) (h:v<aD x) (O:v<aD y),(x[v]=fJ/\y[v]=fJ)\/(x[v]∈names/\y[v]∈names))->x.foldl (nC names) n=y.foldl (nC names) m->n=m/\x=y
 |[],[],n,m,_,_,h=>⟨h,rfl⟩
 |[],_::_,_,_,h,_,_=>by cases h
 |_::_,[],_,_,h,_,_=>by cases h
 |a::x,b::y,n,m,hl,hv,h=>by
  have⟨h1,h2⟩:=DJ names h8 he x y (nC names n a) (nC names m b) (by grind) (λv h O=>by
   have:=hv (v+1) (by simp;lia) (by simp;lia)
   simpa using this) h
  have h0:=hv 0 (by simp) (by simp);simp only[List.getElem_cons_zero] at h0;obtain⟨rfl,rfl⟩|⟨z,A⟩:=h0
  .grind [nC]
  .have M:=uO.2 z;have C:=uO.2 A;unfold nC at h1;rw[if_pos M,if_pos C] at h1;have E:n=m:=by{lia};have G:fW names a=fW names b:=by{lia};exact⟨E,by rw[h2,OB z A G]⟩
theorem CD(names:List ByteArray)(A:aD names<=8)(z:fJ∉names):∀(x:List ByteArray) (n k:Nat),n<8 ^ k->x.foldl (nC names) n<8 ^ (k+x.countP (λy=>!qj y))
 |[],n,k,h=>by simpa using h
 |a::x,n,k,h=>by
  rw[bH];by_cases C:qj a=true
  .rw[List.countP_cons_of_neg (by grind)];have e:=(sS a).1 C;have E:¬fW names a<aD names:=λh=>z (by rw[<-e];exact uO.1 h);have:nC names n a=n:=by{grind [nC]};rw[this];exact CD names A z x n k h
  .rw[List.countP_cons_of_pos (by grind)]
   have:=CD names A z x (nC names n a) (k+1) (by
    unfold nC;rw[Nat.pow_succ]
    split<;>lia)
   rwa[show k+(x.countP (λy=>!qj y)+1)=k+1+x.countP (λy=>!qj y) by omega]
theorem GY:∀(l L:List Nat),l.Nodup->(∀x∈l,x∈L)->aD l<=aD L
 |[],L,_,_=>zz
 |a::l,L,hn,hs=>by have al:=dH.1 hn;have A:=GY l (L.erase a) al.2 (λx z=>(List.mem_erase_of_ne (λe:x=a=>al.1 (by grind))).2 (hs x (zt z)));have C:=List.length_erase_of_mem (hs a zs);have E:=List.length_pos_of_mem (hs a zs);simp only[bJ];lia
def KO(b:List ByteArray)(L:List Nat)(h:∀v,qj (b.getD v fJ)=false->v∈L):b.countP (λy=>!qj y)<=aD L:=by
 have z:b=(bG (aD b)).map (λv=>b.getD v fJ):=by apply dG;{simp};{grind}
 rw[z,List.countP_map,List.countP_eq_length_filter];refine GY _ L (List.nodup_range.sublist List.filter_sublist) (λv A=>?_);have:=(List.mem_filter.1 A).2;exact h v (by grind)
def xw(l:List Am):List Nat:=l.flatMap (λa=>a.d.map (·.d))
theorem BW:∀(l:List Am),(∀a∈l,aD a.d<=2)->aD (xw l)<=2*aD l
 |[],_=>dD _
 |a::l,h=>by have z:=BW l (λx A=>h x (zt A));have C:=h a zs;unfold xw at z ⊢;rw[cL,cG,cP,bJ];lia
theorem G2{a:Am}{l:List Am}{v:Nat}(z:a∈l)(h:lL a v):v∈xw l:=by obtain⟨t,A,_,rfl⟩:=h;exact bF.2 ⟨a,z,bI.2 ⟨t,A,rfl⟩⟩
theorem Bh(r:Rl)(v:Nat):∀i,jB r i v=true->∃a∈r.n.take i,lL a v
 |0,h=>by cases h
 |i+1,h=>by
  unfold jB at h
  cases hb:r.n[i]? with
  |none=>rw[hb] at h;have⟨a,ha,hv⟩:=Bh r v i h;exact⟨a,(cJ _ (dM i)) ha,hv⟩
  |some a=>
   rw[hb] at h;simp only at h;have A:(jB r i v || Qf [a] v)=true:=by grind
   rcases dR _ _ ▸ A with z|z
   .have⟨a,ha,hv⟩:=Bh r v i z;exact⟨a,(cJ _ (dM i)) ha,hv⟩
   .refine⟨a,?_,(w7 _ _).1 z⟩;rw[cR];exact⟨i,by rwa[List.getElem?_take,if_pos (Nat.lt_succ_self i)]⟩
theorem FN{r:Rl}{names:List ByteArray}(M:uj r)(h8:aD names<=8)(he:fJ∉names){i:Nat}(hi:i<aD r.n)(hl:mA r i=true){b:List ByteArray}(h:Wy r names (jB r (i+1)) b):mL names b<4096:=by
 have hd:∀v,qj (b.getD v fJ)=false->jB r (i+1) v=true:=λv z=>by have E:=h.e v (h.l▸Jp z);rw[z] at E;simpa using E.s
 obtain⟨L,hL,hs⟩:∃L:List Nat,aD L<=4/\∀v,qj (b.getD v fJ)=false->v∈L:=by by_cases h2:i+1<=2;{refine⟨xw (r.n.take (i+1)),?_,λv z=>?_⟩;{have:=BW (r.n.take (i+1)) (λa C=>(M.d a (zt (cD C))).1);rw[dE] at this;lia};{grind [Bh,G2]}};have h3:=M.e;refine⟨xw [r.d],?_,λv z=>?_⟩;{have:=BW [r.d] (λa C=>by simp at C;subst C;exact (M.d _ zs).1);simp only[bJ,List.length_nil] at this;lia};have A:=hd v z;unfold jB at A;rw[bB hi] at A;simp only[hl,if_true] at A;have G:=(Bool.and_eq_true _ _ ▸ A).2;unfold rM at G;rw[bC (by lia)] at G;rcases dR _ _ ▸ G with O|O;{grind [G2,w7,zs]};cases O
 have E:=CD names h8 he b 0 0 (by lia);have h2:=cA (KO b L hs) hL;have h3:8 ^ (0+b.countP (λy=>!qj y))<=8 ^ 4:=cU (by lia) (by lia);unfold mL;lia
theorem N6{r:Rl}{names:List ByteArray}(h8:aD names<=8)(he:fJ∉names){d:Nat->Bool}{x y:List ByteArray}(z:Wy r names d x)(A:Wy r names d y)(h:mL names x=mL names y):x=y:=by
 refine (DJ names h8 he x y 0 0 (z.l.t A.l.s) (λv O h2=>?_) h).2;have G:x.getD v fJ=x[v]:=by grind
 have M:y.getD v fJ=y[v]:=by grind
 have C:=z.e v (z.l▸O);have E:=A.e v (A.l▸h2);have m1:=z.f v;have m2:=A.f v;rw[G] at C m1;rw[M] at E m2;cases hd:d v with
 |true=>grind
 |false=>grind [sS]
def Ws(r:Rl)(gs:List Gr)(i:Nat)(b:List ByteArray):Prop:=∃s:Nat->ByteArray,(∀v,qj (s v)=false)/\xN b s/\∀k a,k<i->r.n[k]?=aX a->iX s a∈gs
def F8{r:Rl}{names:List ByteArray}{gs:List Gr}{i:Nat}{a:Am}{g:Gr}{b c:List ByteArray}(hr:uj r)(hg:∀g∈gs,∀x∈g.d,qj x=false/\x∈names)(G:r.n[i]?=aX a)(O:g∈gs)(h:Wy r names (jB r i) b)(hs:Ws r gs i b)(hf:gM a g b=aX c):Ws r gs (i+1) c:=by
 have⟨f1,f2,f3⟩:=wg hf;have ha:=cE G;have hi:=(cO.1 G).1;have hn:=(hr.d a (zt ha)).2;have⟨i1,i2,i3,i4,i5⟩:=vY _ _ _ _ f3 f2 (λx hx=>(hg g O x hx).1) (λt M=>by rw[h.l];exact hn t M);have⟨s,s1,s2,s3⟩:=hs;refine⟨λv=>if qj (c.getD v fJ)=true then s v else c.getD v fJ,λv=>?_,λv hv=>?_,λk C hk E=>?_⟩
 .grind
 .grind
 by_cases e:k=i
 .subst e;rw[G] at E;cases E;have:iX (λv=>if qj (c.getD v fJ)=true then s v else c.getD v fJ) a=g:=by{have⟨gr,ga⟩:=g;simp only at f1 i3;unfold iX;rw[f1,i3];congr 1;refine cF (λt M=>?_);unfold lX mZ;by_cases z:qj t.c=true;{rw[if_pos z,if_pos (by exact z)];show (if _ then _ else _)=_;rw[if_neg (by grind)]};{rw[if_neg z,if_neg (by exact z)]}};rwa[this]
 have h3:=s3 k C (by lia) E;have:iX (λv=>if qj (c.getD v fJ)=true then s v else c.getD v fJ) C=iX s C:=by unfold iX;congr 1;refine cF (λt M=>?_);unfold lX;by_cases z:qj t.c=true;{rw[if_pos z,if_pos z];show (if _ then _ else _)=_;split;{rfl};rename_i hc;have c7:qj (c.getD t.d fJ)=false:=by{simpa using hc};by_cases A:qj (b.getD t.d fJ)=false;{rw[i2 _ A];exact s2 _ A};exfalso;rcases (i4 t.d).1 c7 with h4|⟨u,hu,dk,cy⟩;{exact A h4};have hd:=Ch r t.d i (by lia) ⟨k,C,by lia,E,t,M,z,rfl⟩ (aU ⟨i,a,dD _,G,u,hu,dk,cy⟩);have h8:t.d<8:=by{grind};rw[h.e _ h8,hd] at A;exact A rfl};grind
 rwa[this]
def MO{r:Rl}{gs:List Gr}{i:Nat}{c:List ByteArray}(C:aD c=8)(h:Ws r gs (i+1) c):Ws r gs (i+1) (gW r i c):=by
 have⟨s,s1,s2,s3⟩:=h;refine⟨s,s1,λv z=>?_,s3⟩;rw[yh v C] at z ⊢;split at z
 .rename_i A;rw[if_pos A];exact s2 v z
 grind [pB]
theorem xP(v:Nat):qj (iF.getD v fJ)=true:=by grind [iF,pB]
def Ft(r:Rl)(names:List ByteArray):Wy r names (jB r 0) iF:=
 ⟨rfl,λv _=>by rw[xP];rfl,λv z=>by rw[xP] at z;cases z⟩
def uX(r:Rl)(names:List ByteArray)(gs:List Gr)(i:Nat)(b:List ByteArray):Prop:=Wy r names (jB r i) b/\Ws r gs i b
def J3{r:Rl}{names:List ByteArray}{gs:List Gr}(C:uj r)(G:∀g∈gs,∀x∈g.d,qj x=false/\x∈names)(h8:aD names<=8)(he:fJ∉names):Cb r names gs (uX r names gs):=by
 have f8:qj ⟨#[97]⟩=false:=by decide +kernel
 refine⟨⟨Ft _ _,λ_=>⟨#[97]⟩,λ_=>f8,λv hv=>(by grind [xP]),λk a hk=>by lia⟩,λi a g b c z O A E=>⟨λM=>?_,λM=>?_⟩⟩
 .have hw:=Az C G (cE z) O A.1 E;have hs:=F8 C G z O A.1 A.2 E;have h1:=Be hw z M;exact⟨⟨h1,MO hw.l hs⟩,FN C h8 he (cO.1 z).1 M h1⟩
 exact⟨CS (Az C G (cE z) O A.1 E) z M,F8 C G z O A.1 A.2 E⟩
def D5{r:Rl}{names:List ByteArray}{s:Nat->ByteArray}{b:List ByteArray}(C:uj r)(h:Wy r names (jB r (aD r.n)) b)(hs:xN b s):jI r.d b=iX s r.d:=by
 unfold jI iX;congr 1;refine cF (λt E=>?_);unfold mZ lX;by_cases z:qj t.c=true
 .rw[if_pos z,if_pos (by exact z)];refine hs _ ?_;have G:lL r.d t.d:=⟨t,E,z,rfl⟩;have⟨a,ha,fz⟩:=C.j _ G;obtain⟨k,A,rfl⟩:=cZ.1 ha;rw[h.e _ ((C.d _ zs).2 t E),Ch r t.d _ zl ⟨k,_,A,bB A,fz⟩ (aS G)];rfl
 rw[if_neg z,if_neg (by exact z)]
def NX{r:Rl}{names:List ByteArray}{gs:List Gr}{b:List ByteArray}(C:uj r)(h:uX r names gs (aD r.n) b):∃s:Nat->ByteArray,(∀v,qj (s v)=false)/\(∀a∈r.n,iX s a∈gs)/\jI r.d b=iX s r.d:=by have⟨h1,s,s1,s2,s3⟩:=h;refine⟨s,s1,λa A=>?_,D5 C h1 s2⟩;obtain⟨k,z,rfl⟩:=cZ.1 A;exact s3 k _ z (bB z)
theorem Dn(r:Rl)(i:Nat)(names:List ByteArray)(a:Am)(E:mA r i=false):∀(ps:List (List ByteArray×Gr)) (st:List Bool×List (List ByteArray)),(∀x∈st.2,x∈(ps.foldl (iV r i names a) st).2)/\∀p∈ps,∀c,gM a p.2 p.1=aX c->c∈(ps.foldl (iV r i names a) st).2
 |[],st=>⟨λx A=>A,λp z=>by cases z⟩
 |p::ps,st=>by
  rw[bH];have⟨h1,h2⟩:=Dn r i names a E ps (iV r i names a st p);have C:∀x∈st.2,x∈(iV r i names a st p).2:=λx A=>by grind [iV]
  refine⟨λx A=>h1 x (C x A),λp' z c G=>?_⟩;obtain rfl|z:=bO.1 z
  .grind [iV]
  .grind
theorem yV(r:Rl)(i:Nat)(names:List ByteArray)(a:Am)(E:mA r i=true)(O:aD names<=8)(he:fJ∉names){d:Nat->Bool}:∀(ps:List (List ByteArray×Gr)) (st:List Bool×List (List ByteArray)),(∀p∈ps,∀c,gM a p.2 p.1=aX c->Wy r names d (gW r i c)/\mL names (gW r i c)<4096)->aD st.1=4096->(∀k,st.1.getD k false=true->∃x∈st.2,mL names x=k)->(∀x∈st.2,Wy r names d x)->
  (∀x∈st.2,x∈(ps.foldl (iV r i names a) st).2)/\∀p∈ps,∀c,gM a p.2 p.1=aX c->gW r i c∈(ps.foldl (iV r i names a) st).2
 |[],st,_,_,_,_=>⟨λx z=>z,λp G=>by cases G⟩
 |p::ps,st,G,hs,hk,hw=>by
  rw[bH];have M:=λq A=>G q (zt A)
  cases hf:gM a p.2 p.1 with
  |none=>
   have C:iV r i names a st p=st:=by unfold iV;rw[hf]
   rw[C];have⟨h1,h2⟩:=yV r i names a E O he ps st M hs hk hw;refine⟨h1,λq A c hc=>?_⟩;obtain rfl|A:=bO.1 A
   .grind
   .grind
  |some c0=>
   have⟨gg,ec⟩:=G p zs c0 hf;by_cases ed:st.1.getD (mL names (gW r i c0)) false=true
   .have C:iV r i names a st p=st:=by unfold iV;rw[hf];simp only[E,if_true];rw[if_pos ed]
    rw[C];have⟨h1,h2⟩:=yV r i names a E O he ps st M hs hk hw;refine⟨h1,λq A c hc=>?_⟩;obtain rfl|A:=bO.1 A
    .grind [N6]
    .grind
   .have C:iV r i names a st p=(st.1.set (mL names (gW r i c0)) true,st.2++[gW r i c0]):=by{unfold iV;rw[hf];simp only[E,if_true];rw[if_neg ed]};rw[C]
    have⟨h1,h2⟩:=yV r i names a E O he ps (st.1.set (mL names (gW r i c0)) true,st.2++[gW r i c0]) M (by grind) (λk du=>by
     simp only[cI,List.getElem?_set] at du;by_cases e:mL names (gW r i c0)=k;{grind}
     .rw[if_neg e] at du;have⟨x,z,h⟩:=hk k (by grind)
      exact⟨x,dA _ z,h⟩) (λx z=>by
     obtain z|z:=bQ.1 z
     .exact hw x z
     .rw[bT] at z;rwa[z])
    refine⟨λx z=>h1 x (dA _ z),λq A c hc=>?_⟩;obtain rfl|A:=bO.1 A
    .grind
    .grind
theorem Gx(r:Rl)(i:Nat)(names:List ByteArray)(a:Am)(D:List ByteArray->Prop):∀(ps:List (List ByteArray×Gr)) (st:List Bool×List (List ByteArray)),(∀p∈ps,∀c,gM a p.2 p.1=aX c->(mA r i=true->D (gW r i c))/\(mA r i=false->D c))->(∀x∈st.2,D x)->∀x∈(ps.foldl (iV r i names a) st).2,D x
 |[],st,_,h=>h
 |p::ps,st,hp,h=>by
  rw[bH];refine Gx r i names a D ps _ (λq A=>hp q (zt A)) (λx z=>?_);unfold iV at z;split at z;{exact h x z};{grind}
def Mz{r:Rl}{gs:List Gr}(hr:uj r){s:Nat->ByteArray}(hs:∀v,qj (s v)=false)(names:List ByteArray)(hn:fR [] (kK gs)=names)(hg:∀g∈gs,∀x∈g.d,qj x=false/\x∈names)(h8:aD names<=8)(he:fJ∉names)(hb:∀a∈r.n,iX s a∈gs):∃b∈sv r gs,jI r.d b=iX s r.d:=by
 have key:∀i,i<=aD r.n->(∀b∈(bG i).foldl (rQ r names gs) [iF],Wy r names (jB r i) b)/\∃b∈(bG i).foldl (rQ r names gs) [iF],xN b s:=by
  intro i;induction i with
  |zero=>exact λ_=>⟨λb hb=>by rw[bT.1 hb];exact Ft _ _,iF,zs,λv E=>by rw[xP] at E;cases E⟩
  |succ i ih=>
   intro hi;have⟨es,b,eu,gi⟩:=ih (by lia);rw[List.range_succ,List.foldl_append];generalize (bG i).foldl (rQ r names gs) [iF]=l at *;have dw:r.n[i]?=aX r.n[i]:=bB (by lia);have e1:[i].foldl (rQ r names gs) l=((pD l gs).foldl (iV r i names r.n[i]) (bD 4096 false,[])).2:=by{grind [rQ]};rw[e1];have ej:∀p∈pD l gs,p.1∈l/\p.2∈gs:=λp z=>by{have⟨x,G,z⟩:=bF.1 z;obtain⟨y,hy,rfl⟩:=bI.1 z;exact⟨G,hy⟩};have hw:∀p∈pD l gs,∀c,gM r.n[i] p.2 p.1=aX c->Wy r names (tO r i r.n[i]) c:=λp z c A=>Az hr hg (zm (by lia)) (ej p z).2 (es _ (ej p z).1) A;have fr:=es b eu;have⟨c,A,dp⟩:=wY s (r.n[i]).d b (λt ht=>by rw[fr.l];exact (hr.d _ (zt (zm (by lia)))).2 t ht) gi hs;have O:gM r.n[i] (iX s r.n[i]) b=aX c:=by{grind [gM,iX,uf]};have M:(b,iX s r.n[i])∈pD l gs:=bF.2 ⟨b,eu,bI.2 ⟨_,hb _ (zm (by lia)),rfl⟩⟩;refine⟨Gx r i names r.n[i] (Wy r names (jB r (i+1))) _ _ (λp z c A=>⟨λC=>Be (hw p z c A) dw C,λC=>CS (hw p z c A) dw C⟩) (λx G=>by cases G),?_⟩;cases C:mA r i with
   |false=>exact⟨c,(Dn r i names r.n[i] C _ _).2 _ M c O,dp⟩
   |true=>have gc:=hw _ M c O;refine⟨gW r i c,(yV r i names r.n[i] C h8 he (d:=jB r (i+1)) _ _ (λp z c A=>?_) List.length_replicate (λk hk=>?_) (λx G=>by cases G)).2 _ M c O,λv E=>?_⟩;{grind [Be,FN]};{grind};rw[yh v gc.l] at E ⊢;split at E;{rename_i h1;rw[if_pos h1];exact dp v E};{grind [pB]}
 have⟨k1,b,k2,k3⟩:=key (aD r.n) zl;refine⟨b,?_,D5 hr (k1 b k2) k3⟩;unfold sv;rwa[hn]
def Dv(R:List Rl)(F:List Gr)(g:Gr):Prop:=∀S:Gr->Prop,(∀x∈F,S x)->(∀r∈R,∀s:Nat->ByteArray,(∀v,qj (s v)=false)->(∀a∈r.n,S (iX s a))->S (iX s r.d))->S g
def wH(r:Rl):List Am:=r.d::r.n
structure oL(R:List Rl)(Nm:List ByteArray):Prop where
 z:∀r∈R,uj r
 A:aD Nm<=8
 q:fJ∉Nm
 d:∀r∈R,∀t∈r.d.d,qj t.c=false->t.c∈Nm
 I:aD (R.flatMap wH)<=32
structure mJ(R:List Rl)(Nm:List ByteArray)(g:Gr):Prop where
 j:∃a∈R.flatMap wH,g.j=a.j/\aD g.d=aD a.d
 f:∀x∈g.d,x∈Nm
def B7(rel:ByteArray)(Nm:List ByteArray):Nat->List Gr
 |0=>[⟨rel,[]⟩]
 |1=>Nm.map (λx=>⟨rel,[x]⟩)
 |2=>Nm.flatMap (λx=>Nm.map (λy=>⟨rel,[x,y]⟩))
 |_=>[]
def Cv(R:List Rl)(Nm:List ByteArray):List Gr:=(R.flatMap wH).flatMap (λa=>B7 a.j Nm (aD a.d))
theorem zx{α β:Type}(f:α->List β)(k:Nat):∀(l:List α),(∀a∈l,aD (f a)<=k)->aD (l.flatMap f)<=aD l*k
 |[],_=>by simp
 |a::l,h=>by have A:=zx f k l (λx z=>h x (zt z));have C:=h a zs;rw[cL,cG,bJ,Nat.succ_mul];lia
theorem NQ(rel:ByteArray)(Nm:List ByteArray)(h:aD Nm<=8)(n:Nat):aD (B7 rel Nm n)<=64:=by
 match n with
 |0=>exact Nat.le_of_ble_eq_true rfl
 |1=>show aD (Nm.map _)<=64;rw[cP];lia
 |2=>have:=zx (λx=>Nm.map (λy=>(⟨rel,[x,y]⟩:Gr))) 8 Nm (λx _=>by rwa[cP]);have z:aD Nm*8<=64:=by{lia};exact cA this z
 |n+3=>exact zz
def Du{R:List Rl}{Nm:List ByteArray}(h:oL R Nm):aD (Cv R Nm)<=2048:=by have z:=zx (λa=>B7 a.j Nm (aD a.d)) 64 (R.flatMap wH) (λa _=>NQ _ _ h.A _);have A:=h.I;unfold Cv;lia
theorem GS{R:List Rl}{Nm:List ByteArray}(h:oL R Nm){g:Gr}(z:mJ R Nm g):g∈Cv R Nm:=by
 have⟨⟨a,ha,h1,h2⟩,h3⟩:=z;refine bF.2 ⟨a,ha,?_⟩;have A:aD a.d<=2:=by have⟨r,hr,e9⟩:=bF.1 ha;exact ((h.z r hr).d a e9).1
 have⟨gr,ga⟩:=g;simp only at h1 h2 h3;rw[<-h1,<-h2];match ga,h2,h3 with
 |[],_,_=>exact zs
 |[x],_,h3=>exact bI.2 ⟨x,h3 x zs,rfl⟩
 |[x,y],_,h3=>exact bF.2 ⟨x,h3 x zs,bI.2 ⟨y,h3 y (zt zs),rfl⟩⟩
 |_::_::_::_,h2,_=>simp only[bJ] at h2;lia
theorem xK{α:Type}:∀(l L:List α),l.Nodup->(∀x∈l,x∈L)->aD l<=aD L
 |[],L,_,_=>zz
 |a::l,L,hn,hs=>by
  have al:=dH.1 hn;have⟨L1,L2,e⟩:=List.append_of_mem (hs a zs)
  have z:=xK l (L1++L2) al.2 (λx A=>by
   have:=hs x (zt A);rw[e] at this;obtain h|h:=bQ.1 this
   .grind
   .obtain h|h:=bO.1 h
    .grind
    .exact List.mem_append_right _ h)
  rw[e];simp only[cG,bJ] at z ⊢;lia
def JS(z:List ByteArray)(x y:ByteArray):y∈Qs z x↔y∈z\/y=x:=by
 unfold Qs;split
 .rename_i h;have:=uO.1 h;exact⟨aS,λh=>h.elim id (λe=>by rwa[e])⟩
 grind
theorem xG:∀(l z:List ByteArray) (y:ByteArray),y∈fR z l↔y∈z\/y∈l
 |[],z,y=>by simp[fR]
 |x::l,z,y=>by have:=xG l (Qs z x) y;unfold fR at this ⊢;rw[bH,this,JS,bO,or_assoc]
theorem GO:∀(l z:List ByteArray),z.Nodup->(fR z l).Nodup
 |[],z,h=>h
 |x::l,z,h=>by
  unfold fR;rw[bH];refine GO l (Qs z x) ?_;unfold Qs;split;{exact h};{rename_i C;rw[dC];refine⟨h,by simp,λa E b A e=>?_⟩;rw[bT] at A;exact C (uO.2 (by grind))}
def Hj{l:List ByteArray}(h:l.Nodup):xU l:=λi j A C e=>by
 have E:=List.pairwise_iff_getElem.1 (List.nodup_iff_pairwise_ne.1 h);obtain z|z|z:=Nat.lt_trichotomy i j
 .grind
 .exact z
 .grind
section
variable {R:List Rl} {Nm:List ByteArray} {F hs:List Gr}
theorem Bz(C:oL R Nm)(h:∀g∈hs,mJ R Nm g):aD (fR [] (kK hs))<=8/\xU (fR [] (kK hs))/\fJ∉fR [] (kK hs)/\∀g∈hs,∀x∈g.d,qj x=false/\x∈fR [] (kK hs):=by
 have G:∀y∈fR [] (kK hs),y∈Nm:=λy z=>by rcases (xG _ _ _).1 z with z|z;{cases z};have⟨g,A,z⟩:=bF.1 z;exact (h g A).f y z
 have M:(fR [] (kK hs)).Nodup:=GO _ _ dI;refine⟨cA (xK _ _ M G) C.A,Hj M,λE=>C.q (G _ E),λg A x O=>⟨?_,(xG _ _ _).2 (aU (bF.2 ⟨g,A,O⟩))⟩⟩;cases E:qj x with
 |false=>rfl
 |true=>exact absurd (by rw[<-(sS x).1 E];exact (h g A).f x O) C.q
structure iN(R:List Rl)(F:List Gr)(Nm:List ByteArray)(hs:List Gr):Prop where
 s:hs.Nodup
 o:∀g∈hs,mJ R Nm g
 h:∀g∈hs,Dv R F g
def iN.I(z:oL R Nm)(h:iN R F Nm hs):aD hs<=2048:=cA (xK _ _ h.s (λg A=>GS z (h.o g A))) (Du z)
def iN.l(h:iN R F Nm hs){g:Gr}(C:g∉hs)(E:mJ R Nm g)(G:Dv R F g):iN R F Nm (hs++[g]):=by
 refine⟨?_,λx z=>?_,λx z=>?_⟩
 .rw[dC];refine⟨h.s,by simp,λa M b A e=>?_⟩;rw[bT] at A;exact C (by grind)
 .obtain z|z:=bQ.1 z;{exact h.o x z};grind
 obtain z|z:=bQ.1 z
 .exact h.h x z
 grind
def ND(C:oL R Nm)(h:∀g∈hs,mJ R Nm g){r:Rl}(A:r∈R){s:Nat->ByteArray}(G:∀a∈r.n,iX s a∈hs):mJ R Nm (iX s r.d):=by
 refine⟨⟨r.d,bF.2 ⟨r,A,zs⟩,rfl,by simp[iX]⟩,λx M=>?_⟩;obtain⟨t,E,rfl⟩:=bI.1 M;unfold lX;by_cases z:qj t.c=true
 .rw[if_pos z];have⟨a,ha,u,hu,dk,cy⟩:=(C.z r A).j t.d ⟨t,E,z,rfl⟩;refine (h _ (G a ha)).f _ (bI.2 ⟨u,hu,?_⟩);unfold lX;rw[if_pos dk,cy]
 rw[if_neg z];exact C.d r A t E (by grind)
def iN.j(A:oL R Nm)(h:iN R F Nm hs){r:Rl}(z:r∈R){names:List ByteArray}{b:List ByteArray}(G:uX r names hs (aD r.n) b):mJ R Nm (jI r.d b)/\Dv R F (jI r.d b):=by have⟨s,s1,s2,s3⟩:=NX (A.z r z) G;rw[s3];exact⟨ND A h.o z s2,λS M C=>C r z s s1 (λa E=>h.h _ (s2 a E) S M C)⟩
def iN.d(z:oL R Nm)(h:iN R F Nm hs){r:Rl}(A:r∈R):Cb r (fR [] (kK hs)) hs (uX r (fR [] (kK hs)) hs):=by have⟨n1,n2,n3,n4⟩:=Bz z h.o;exact J3 (z.z r A) n4 n1 n3
def iN.n(z:oL R Nm)(h:iN R F Nm hs)(E:∀f∈F,f∈hs)(M:∀r∈R,∀b∈sv r hs,jI r.d b∈hs)(g:Gr):g∈hs↔Dv R F g:=by refine⟨h.h g,λhd=>hd (λg=>g∈hs) E (λr A s C G=>?_)⟩;have⟨n1,n2,n3,n4⟩:=Bz z h.o;have⟨b,gm,am⟩:=Mz (z.z r A) C _ rfl n4 n1 n3 G;rw[<-am];exact M r A b gm
def iN.e:iN R F Nm []:=⟨dI,λg z=>(by cases z),λg z=>(by cases z)⟩
def iN.f(h:iN R F Nm hs){f:Gr}(z:f∈F)(A:f∉hs)(C:mJ R Nm f):iN R F Nm (hs++[f]):=h.l A C (λS E _=>E f z)
end
