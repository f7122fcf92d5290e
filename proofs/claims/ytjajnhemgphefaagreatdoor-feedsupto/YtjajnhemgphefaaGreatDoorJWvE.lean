/- A part -/
import Derived.Test.YtjajnhemgphefaaGreatDoorJWzF
import Derived.Deep.AppendSrc
set_option linter.all false
set_option maxRecDepth 100000
set_option maxHeartbeats 4000000
open List renaming length->aB,length_append->aX,mem_of_getElem?->aY,append_assoc->aZ,mem_singleton->bB,getElem?_eq_getElem->bC,mem_append->bD,getElem?_eq_some_iff->bE,mem_map->bF,take_of_length_le->bG,mem_filter->bH,mem_cons->bJ,getElem?_append_right->bL,getElem?_append_left->bO,length_cons->bT,take_append->bU,append_cancel_left->bX,length_map->bZ,getElem_of_mem->cE,map_congr_left->cF,takeWhile_cons->cG,filter_congr->cI,flatMap_cons->cJ,mem_flatMap->cM,drop_append->cO,filter_map->cQ,take_left'->cR,drop_take->cS,Pairwise->cT,map_map->cU
open Go.World renaming cell?->aC,frozen?->aD,ownsRow->aE
open Go.Value renaming ownBlock->aF,slice->aH,string->aI,agg->aJ,bool->aK,tuple->aL
open Go.Obj renaming cells->aN
open Go.Ending renaming returned->aO
open Or renaming inl->aQ,inr->aR
open Option renaming some->aV,none->aW,isSome_iff_exists->bQ
open Go.Calls renaming mono->bI
open ByteArray renaming data_extract->cA,size_append->cX
open Nat renaming mul_le_mul_right->cD,add_mul->cL,le_refl->cW
open Go.RowKit.Below renaming heap_setCell->cH,heap_alloc->cP
open Go.Utf8 renaming decode->cZ
open Go.Builtin renaming append_->dA,firstCells->dC
open Bool renaming eq_iff_iff->dB
namespace Go.Proofs.YtjajnhemgphefaaGreatDoor
open Go renaming World->Wq,Value->Vq
open Go.RowKit Go.Shelf
variable {s x rel:ByteArray} {k b:Nat} {ar:ByteArray->Nat} {M:Gd->Option Int} {hs:List Gr} {e:Eg} {y:Er} {ds:List Dk} {rs:List Rl} {T:Nat->Prop} {α:Type} {W:Wq} {vr vf vn vs vd:Vq} {qs:List (Rl×Vq×Vq)} {fs:List ((Gr×Int×Bool)×Vq)} {ss:List (Gr×Vq)}
def jK(x:ByteArray):Prop:=(44:UInt8)∉x.data.toList
theorem Fg:jK ⟨#[]⟩:=by unfold jK;simp
theorem C6{i:Nat}(h:∀j,i<=j->j<k->dE s j≠44):jK (s.extract i k):=by
 intro e;have⟨n,hn,e⟩:=cE e;have z:=hn;rw[Array.length_toList,cA,Array.size_extract] at z;rw[Array.getElem_toList] at e;simp only[cA,Array.getElem_extract] at e;have A:i+n<s.size:=by show i+n<s.data.size;omega
 have d:=pC s (i+n) A;have C:s[i+n]=44:=e;rw[C] at d;exact h (i+n) (by omega) (by omega) d.symm
theorem D4(s:ByteArray)(i:Nat)(h:jB (cZ s i).1=true):∀j,i<=j->j<i+(cZ s i).2->dE s j≠44:=by
 rw[wR,<-Bh,decide_eq_true_eq] at h;rw[rE];intro j A d e;unfold jz at h;split at h
 .rename_i z;rw[z] at d;have:j=i:=by{omega};subst this;rw[e] at h
  revert h;decide
 .grind [eQ,gV,iy]
theorem AW(s:ByteArray):∀(f d m j:Nat),d<=j->j<(dT s f d m).1->dE s j≠44
 |0,d,m,j,h1,h2=>by grind [dT]
 |f+1,d,m,j,h1,h2=>by
  unfold dT at h2;split at h2
  .split at h2
   .rename_i A;by_cases z:j<d+(cZ s d).2;{grind [D4]};{exact AW s f _ _ j (by omega) h2}
   .grind
  .grind
theorem sN:∀(f:Nat) (s:ByteArray) (p:Nat),∀x∈eA f s p,x.kind=1->jK x.text
 |0,s,p,x,d,_=>by simp[eA] at d
 |f+1,s,p,x,d,hk=>by
  unfold eA at d;split at d;{simp at d};split at d;{exact sN f _ _ x d hk};split at d
  .rcases bJ.1 d with rfl|d
   .simp only at hk ⊢;refine C6 (λj A z=>?_);unfold eY at hk z;split at z;{grind}
    .split at z;{exact AW s _ _ _ j A z};{grind [mg]}
   .exact sN f _ _ x d hk
  .simp at d
def qT(a:Am):Prop:=∀t∈a.args,jK t.name
structure rC(s:eD):Prop where
 rules:∀r∈s.rules,∀a∈qz r,qT a
 atoms:∀a∈s.atoms,qT a
theorem CQ{l:List Am}{x:Tm}(h:∀a∈l,qT a)(C:jK x.name):∀a∈kJ l x,qT a:=by
 unfold kJ;split
 .rename_i b A;intro a d;rcases bD.1 d with d|d
  .grind [List.dropLast_sublist]
  .rw[bB] at d;subst d;intro t z;rcases bD.1 z with z|z
   .exact h b (List.mem_of_getLast? A) t z
   .grind
 .exact h
theorem GN{s:eD}(h:rC s)(k:Int)(t:ByteArray)(G:k=1->jK t):rC (dQ s k t):=by
 unfold dQ;split
 .unfold jR;split
  .refine⟨h.rules,CQ h.atoms ?_⟩;unfold gE;split;{grind};{exact Fg}
  .refine⟨h.rules,λa d=>?_⟩;rcases bD.1 d with d|d
   .exact h.atoms a d
   .rw[bB] at d;subst d;intro u E;cases E
 split
 .exact⟨h.rules,h.atoms⟩
 split
 .exact⟨h.rules,h.atoms⟩
 split
 .exact⟨h.rules,h.atoms⟩
 split
 .exact⟨h.rules,h.atoms⟩
 split
 .unfold jm;split
  .rename_i a l C;refine⟨λr z=>?_,λa d=>by cases d⟩;rcases bD.1 z with z|z
   .exact h.rules r z
   .rw[bB] at z;subst z;intro b A;exact h.atoms b (by rw[C];exact A)
  .exact h
 .exact h
theorem v8:∀(l:List eE) (s d:eD) (o:Option (Int×Nat)),rC s->(∀x∈l,x.kind=1->jK x.text)->Q5 s l=(d,o)->rC d
 |[],s,d,o,h,_,e=>by grind [Q5]
 |x::l,s,d,o,h,hl,e=>by
  unfold Q5 at e;split at e
  .rename_i h0;refine v8 l _ d o ?_ (λy z=>hl y (zt z)) e;unfold dX at h0 ⊢;split at h0;{cases h0};{grind [GN]}
  .grind
theorem zY:rC eX:=⟨λr z=>(by cases z),λa d=>(by cases d)⟩
theorem Cz(s:ByteArray){a:Am}(h:iX s=aV a):qT a:=by
 unfold iX at h;split at h
 .cases h
 .cases hf:Q5 eX (eA s.size s 0) with
  |mk st o=>
   rw[hf] at h;have d:=v8 _ _ _ _ zY (sN _ _ _) hf
   cases o with
   |some q=>cases h
   |none=>
    simp only at h;split at h;{exact d.atoms a (List.mem_of_head? h)};{cases h}
theorem Gi(s:ByteArray){rs:List Rl}(h:jA s=.ok rs):∀r∈rs,∀a∈qz r,qT a:=by
 unfold jA at h
 cases hf:Q5 eX (eA s.size s 0) with
 |mk st o=>
  rw[hf] at h;have d:=v8 _ _ _ _ zY (sN _ _ _) hf
  cases o with
  |some q=>cases h
  |none=>
   simp only at h;split at h;{injection h with h;subst h;exact d.rules};{cases h}
theorem xA:∀{x z y d:List UInt8},(44:UInt8)∉x->(44:UInt8)∉z->x++44::y=z++44::d->x=z/\y=d
 |[],[],y,d,_,_,e=>by simpa using e
 |[],b::z,y,d,_,h',e=>by grind
 |a::x,[],y,d,h,_,e=>by grind
 |a::x,b::z,y,d,h,h',e=>by simp only[List.cons_append,List.cons.injEq] at e;obtain⟨rfl,e⟩:=e;obtain⟨rfl,rfl⟩:=xA (λm=>h (zt m)) (λm=>h' (zt m)) e;exact⟨rfl,rfl⟩
theorem F3{g g':Gd}(Z:g.rel=g'.rel)(C:eO ar g)(z:eO ar g')(E:jK g.x)(G:jK g'.x)(e:dY g=dY g'):g=g':=by
 have⟨r,x,y⟩:=g;have⟨r',x',y'⟩:=g';simp only at Z E G;subst Z;have A:=congrArg (λb:ByteArray=>b.data.toList) e;unfold dY mT lz at A;simp only[uv,aZ] at A;have d:=List.append_cancel_right (by simpa using bX (bX A):_++[(41:UInt8)]=_++[(41:UInt8)]);unfold eO at C z;simp only at C z;rcases C with⟨_,⟨a1,rfl⟩|⟨a1,hy⟩⟩
 .rcases z with⟨_,⟨a2,rfl⟩|⟨a2,M⟩⟩
  .have O:eB.toList=[]:=by{simpa using (iz eB).2 rfl};rw[if_pos O,if_pos O] at d;have:x=x':=oi (by simpa [Lib.join] using d);rw[this]
  .omega
 .rcases z with⟨_,⟨a2,rfl⟩|⟨a2,M⟩⟩;{omega}
  .rw[if_neg (λh=>hy ((iz _).1 (by simpa using h))),if_neg (λh=>M ((iz _).1 (by simpa using h)))] at d;have e4:x.data.toList++44::y.data.toList=x'.data.toList++44::y'.data.toList:=by{simpa [Lib.join] using d};have⟨e5,e6⟩:=xA E G e4;rw[oi e5,oi e6]
structure kY(ar:ByteArray->Nat)(M:Gd->Option Int)(hs:List Gr):Prop where
 iff:∀g,(M g).isSome=true↔dR g∈hs
 nd:hs.Nodup
 ex:∀h∈hs,∃g,dR g=h
 ok:∀g,(M g).isSome=true->eO ar g/\g.x.size<=2000/\g.y.size<=2000
 cm:∀g,(M g).isSome=true->jK g.x
theorem BH(h:ar rel=1\/ar rel=2):jO ar (fP rel (ar rel)):=by refine⟨ry _ _,λt z=>?_⟩;obtain⟨k,d,rfl⟩:=bF.1 z;have:=List.mem_range.1 d;show k<6;omega
theorem IJ{n:Nat}(M:n=1\/n=2){h:Gr}(G:h.rel=rel->aB h.args=n):(fE (fP rel n) h gP).isSome=lJ rel h:=by
 rw[dB];have C:lJ rel h=true↔h.rel=rel:=by grind [lJ,jQ,oi]
 rw[C];constructor
 .intro E;have⟨c,hc⟩:=bQ.1 E;exact (pv hc).1.symm
 .intro A;have z:=G A;have⟨r,args⟩:=h;simp only at A z;subst A;unfold fE;rw[if_pos ⟨(nj _ _).2 rfl,by rw[ry];exact z.symm⟩];have d:qi (⟨#[]⟩:ByteArray)=true:=kH;rcases M with rfl|rfl
  .match args,z with
   |[x],_=>show (gH [⟨⟨#[]⟩,0⟩] [x] gP).isSome=true;unfold gH;rw[if_neg (by rw[d];decide),if_pos (by exact d)];rfl
  .match args,z with
   |[x,y],_=>show (gH [⟨⟨#[]⟩,0⟩,⟨⟨#[]⟩,1⟩] [x,y] gP).isSome=true;unfold gH;rw[if_neg (by rw[d];decide),if_pos (by exact d)];unfold gH;rw[if_neg (by rw[d];decide),if_pos (by exact d)];rfl
theorem kY.len(h:kY ar M hs){g:Gr}(C:g∈hs):aB g.args=ar g.rel:=by
 obtain⟨d,rfl⟩:=h.ex g C;have:=(h.ok d ((h.iff d).2 C)).1;unfold eO at this;unfold dR;rcases this with⟨_,⟨z,A⟩|⟨z,A⟩⟩
 .rw[if_pos (by rw[A];exact kH)];simp[z]
 .rw[if_neg (λe=>A ((ou _).1 e))];simp[z]
theorem kY.filt(h:kY ar M hs){rel:ByteArray}(z:ar rel=1\/ar rel=2):hs.filter (λg=>(fE (fP rel (ar rel)) g gP).isSome)=hs.filter (lJ rel):=
 cI (λg d=>IJ z (λe=>by rw[h.len d,e]))
theorem Aq(h:kY ar M hs){rel:ByteArray}(d:ar rel=1\/ar rel=2){gs:List Gd}(z:nB M (fP rel (ar rel)) gs):so gs=(iU hs rel).map (λx=>x.data.toList):=by have:=EM h.iff h.nd h.ex h.ok (BH d) z;rw[h.filt d] at this;exact this
theorem Dl(h:kY ar M hs){rel:ByteArray}(C:ar rel=1\/ar rel=2){gs:List Gd}(d:nB M (fP rel (ar rel)) gs):∀g∈gs,(M g).isSome=true/\g.rel=rel:=by intro g z;have A:=zw h.iff h.nd h.ex h.ok (BH C) d;have:=(A.mem_iff (a:=dR g)).1 (bF.2 ⟨g,z,rfl⟩);have⟨h1,h2⟩:=bH.1 this;have⟨c,hc⟩:=bQ.1 h2;exact⟨(h.iff g).2 h1,(pv hc).1.symm⟩
theorem Hp(q:List UInt8->Bool)(l:List (List UInt8)):fO (l.filter q)=(fO l).filter q:=by rw[uh ((List.mergeSort_perm l (λx y=>decide (x<=y))).filter q).symm];refine List.mergeSort_of_pairwise (cT.filter _ ?_);exact List.pairwise_mergeSort (le:=λx y=>decide (x<=y)) (λa b c d z=>by simp only[decide_eq_true_eq] at *;exact List.le_trans d z) (λa b=>by simp only[Bool.or_eq_true,decide_eq_true_eq];exact List.le_total a b) l
theorem JH:jc (iU hs rel) x=true↔∃h∈hs,lJ rel h=true/\j8 h=x:=by
 unfold jc iU;rw[List.any_eq_true];have d:=(rX ((hs.filter (lJ rel)).map j8) [] cT.nil).2;rw[List.append_nil] at d;constructor
 .rintro⟨y,E,e⟩;rw[tt] at e;subst e;have⟨h,hh,e⟩:=bF.1 ((d.mem_iff).1 E);exact⟨h,(bH.1 hh).1,(bH.1 hh).2,e⟩
 .rintro⟨h,z,A,C⟩;exact⟨x,(d.mem_iff).2 (bF.2 ⟨h,bH.2 ⟨z,A⟩,C⟩),(tt _ _).2 rfl⟩
theorem zb{g:Gr}:lJ rel g=true↔g.rel=rel:=by grind [lJ,jQ,oi]
theorem yC{C:Gd->Option Int}{E:List Gr}(h:kY ar M hs)(A:kY ar C E){rel:ByteArray}(hr:ar rel=1\/ar rel=2){gs:List Gd}(hb:lR M C (fP rel (ar rel)) gs)(z:Int):Qr z gs=Q1 z (iU hs rel) (iU E rel):=by
 obtain⟨G,Z,rfl⟩:=hb;have O:=Aq h hr Z;have hm:=Dl h hr Z;unfold so at O
 have h2:(G.filter (λg=>(C g).isNone)).map (λg=>(dY g).data.toList)=(G.map (λg=>(dY g).data.toList)).filter (λt=>!jc (iU E rel) ⟨t.toArray⟩):=by
  rw[cQ];congr 1;refine cI (λg hg=>?_);have⟨m1,m2⟩:=hm g hg;show (C g).isNone=!jc (iU E rel) ⟨(dY g).data.toList.toArray⟩;have e0:(⟨(dY g).data.toList.toArray⟩:ByteArray)=dY g:=by{simp};rw[e0,<-Option.not_isSome];congr 1;rw[dB,JH];constructor;{intro dl;exact⟨dR g,(A.iff g).1 dl,zb.2 m2,wm g⟩};{rintro⟨k,k1,k2,k3⟩;obtain⟨d,rfl⟩:=A.ex k k1;have hd:=(A.iff d).2 k1;rw[wm] at k3;have hrel:d.rel=rel:=zb.1 k2;have:=F3 (by rw[hrel,m2]) (A.ok d hd).1 (h.ok g m1).1 (A.cm d hd) (h.cm g m1) k3;rw[<-this];exact hd}
 unfold Qr Q1 iO;rw[h2,Hp,O,cQ,cU];refine cF (λx _=>?_);simp
theorem Gc(h:kY ar M hs){rel:ByteArray}(C:ar rel=1\/ar rel=2){gs:List Gd}(A:nB M (fP rel (ar rel)) gs)(d:Int):Qr d gs=Q1 d (iU hs rel) []:=by have z:=Aq h C A;unfold so at z;unfold Qr Q1 iO;rw[z,cU,List.filter_eq_self.2 (λx _=>by rfl)];refine cF (λx _=>?_);simp
structure rG(rs:List Rl)(n:Nat)(f:Fs)(d:Fr):Prop where
 form:f.form=fP d.rel (dH rs d.rel)
 ar:dH rs d.rel≠0
 behind:f.behind=d.behind
 snap:f.snap=d.snap
 que:f.que=d.que
 told:f.told=d.next
 next:d.next<=n
 sk:∀r∈d.snap,r.kind≠0
 qk:∀r∈d.que,r.kind≠0
def FF(n:Nat)(e:Eg)(y:Er):Prop:=(∀x∈e.names,jK x)/\aB e.fds=aB y.feeds/\∀(i:Nat) (f:Fs) (d:Fr),e.fds[i]?=aV f->y.feeds[i]?=aV d->rG e.rs n f d
theorem ic.tel(h:ic e y ds)(A:dV e)(E:∀x∈e.names,jK x):kY (dH e.rs) e.M y.state:=by
 have G:∀g,(e.M g).isSome=true->g.x∈e.names:=λg d=>(lF.1 (A.md g d).2).2.1;refine⟨h.holds A,h.nodup,λg d=>?_,λg d=>?_,λg d=>E _ (G g d)⟩
 .have⟨⟨a,ha,h1,h2⟩,h3⟩:=h.sok g d;have ae:=(A.rs.arity a (by rw[h.rs];exact ha)).2;have⟨r,args⟩:=g;simp only at h1 h2 h3;rcases ae with ae|ae
  .match args,h2.trans ae with
   |[x],_=>refine⟨⟨r,x,eB⟩,?_⟩;unfold dR;rw[if_pos (by exact kH)]
  .match args,h2.trans ae with
   |[x,z],_=>refine⟨⟨r,x,z⟩,?_⟩;unfold dR;have C:z∈y.names:=h3 z (by simp);rw[if_neg (λq=>by rw[(ou z).1 q] at C;exact h.ne C)]
 .have:=uj A g.rel g.x g.y d;exact⟨(A.md g d).1,this⟩
theorem xE(z:dV e){x:ByteArray}(h:dH e.rs x≠0):dH e.rs x=1\/dH e.rs x=2:=by
 rcases og z.rs x with d|d|d
 .exact aQ d
 .exact aR d
 .grind
theorem BK{d:Int}{l z:List ByteArray}{r:Rc}(h:r∈Q1 d l z):r.kind=d:=by grind [Q1]
theorem D8(ae:ar=dH rs){M G:Gd->Option Int}{hs C:List Gr}(h:kY ar M hs)(h':kY ar G C){m q:Int}{n:Nat}{f f':Fs}{d:Fr}(A:ar d.rel=1\/ar d.rel=2)(z:rG rs n f d)(hm:wg M G m q f f'):rG rs n f' (iZ q m hs C d):=by
 subst ae;rcases hm with⟨E,rfl⟩|⟨E,g1,g2,O,Z,hc⟩
 .have hd:d.behind=true:=by{rw[<-z.behind];exact E};unfold iZ;rw[if_pos hd];exact z
 .have hd:¬d.behind=true:=by{rw[<-z.behind,E];decide};rw[z.form] at O Z;have e1:=yC h h' A O 3;have e2:=yC h' h A Z 2;have hl:(aB (f.que++Qr 3 g1++Qr 2 g2):Int)+1=((aB d.que+aB (my hs C d.rel m):Nat):Int):=by rw[z.que,e1,e2];unfold my;simp only[aX,bT,List.length_nil];omega
  unfold iZ;rw[if_neg hd];rcases hc with⟨hq,rfl⟩|⟨hq,rfl⟩
  .rw[if_pos (by omega)];exact⟨z.form,z.ar,rfl,rfl,rfl,z.told,z.next,λr A=>(by cases A),λr A=>(by cases A)⟩
  .rw[if_neg (by omega)];refine⟨z.form,z.ar,z.behind,z.snap,?_,z.told,z.next,z.sk,λr A=>?_⟩;{show f.que++Qr 3 g1++Qr 2 g2++_=d.que++my hs C d.rel m;rw[z.que,e1,e2];unfold my;simp only[aZ]}
   .unfold my at A;rcases bD.1 A with A|A
    .exact z.qk r A
    .grind [BK]
theorem De(e:Eg)(s:ByteArray)(t:Int)(d:∀x∈e.names,jK x):∀x∈(iM e s t).2.names,jK x:=by
 unfold iM
 cases ha:iX s with
 |none=>exact d
 |some a=>
  simp only;split;{exact d};split;{exact d};split;{exact d};split;{exact d};unfold lK;split;{exact d};split;{exact d};split;{exact d}
  intro x C;rcases (rY _ _ _).1 C with z|⟨u,A,_,rfl⟩
  .exact d x z
  .exact Cz s ha u A
theorem Hl(e:Eg)(s:ByteArray)(t:Int):(iM e s t).2.rs=e.rs/\(iM e s t).2.fds=e.fds:=by grind [iM,lK]
theorem FF.ins{n:Nat}(s:ByteArray)(t:Int)(h:FF n e y):FF n (iM e s t).2 (iv y s t).2:=by have⟨h1,h2,h3⟩:=h;have⟨k1,k2⟩:=Hl e s t;refine⟨De e s t h1,by rw[k2,vD];exact h2,λi f d z hd=>?_⟩;rw[k2] at z;rw[vD] at hd;rw[k1];exact h3 i f d z hd
theorem FF.tick{n:Nat}{c:Int}{e':Eg}{y':Er}{r r':Int×Int}(E:dV e)(A:ic e y ds)(h:FF n e y)(C:oF e c e' r)(z:mU y c y' r'):FF n e' y':=by
 have⟨_,dv,am⟩:=xG A E C z;have O:=ws E C;have⟨f1,f2,f3⟩:=h;have d8:=am.mark;rcases C with⟨hc,rfl,rfl⟩|⟨hc,_,C⟩
 .rcases z with⟨_,rfl,rfl⟩|⟨ag,_⟩
  .exact⟨f1,f2,f3⟩
  .grind
 .rcases z with⟨ag,_⟩|⟨_,z⟩
  .grind
  .have dp:=A.lat;have dz:=A.mark;have d9:=A.clk;have Qhw:gp y c-y.lat<=y.mark↔c-e.lat<=e.mark:=by grind [gp]
   rcases C with⟨d4,rfl⟩|⟨a7,M⟩
   .rcases z with⟨cx,rfl,rfl⟩|⟨de,_⟩
    .exact⟨f1,f2,f3⟩
    .grind
   .rcases z with⟨cx,_⟩|⟨de,_,st,dy,rfl⟩
    .grind
    .obtain⟨M',Z,hM,hl,cu,rfl⟩:=M;have hT:=A.tel E f1;have dm:=am.tel O f1;have ca:gp y c=c:=by{grind};refine⟨f1,by show aB Z=aB (y.feeds.map _);rw[hl,bZ,f2],λi f d hf hd=>?_⟩;have b0:Z[i]?=aV f:=hf;have G:(y.feeds.map (iZ y.que (gp y c-y.lat) y.state st))[i]?=aV d:=hd;rw[List.getElem?_map] at G;have⟨hi,dn⟩:=bE.1 b0;have b9:i<aB e.fds:=by{omega};have cb:i<aB y.feeds:=by{omega};rw[bC cb] at G;simp only[Option.map_some,Option.some.injEq] at G;have M:=cu i b9 hi;rw[dn] at M;have hR:=f3 i _ _ (bC b9) (bC cb);have:=D8 rfl hT dm (xE E hR.ar) hR M;rw[A.que,show c-e.lat=gp y c-y.lat by rw[ca,dp]] at this;rw[<-G];exact this
theorem FF.new{n:Nat}(win z que:Int)(M:Gd->Option Int)(st:List Gr)(h:tO s rs):FF n (oZ rs win z que M) (nM rs win z que st):=by
 refine⟨λx O=>?_,rfl,λi f d E _=>?_⟩
 .have A:x∈gw [] rs:=O;rw[h.names] at A;rcases (rY _ _ _).1 A with C|⟨u,G,_,rfl⟩
  .cases C
  .have⟨a,ha,cy⟩:=cM.1 G;have⟨r,hr,dt⟩:=cM.1 ha;exact Gi s h.new.parse r hr a dt u cy
 .have:([]:List Fs)[i]?=aV f:=E;simp at this
theorem E9(L:List Vq)(o n:Nat)(v:Vq)(h:o<aB L):(L.set o v).take (o+1)=L.take o++[v]/\(L.set o v).drop (o+1+n)=L.drop (o+1+n):=by refine⟨?_,by rw[List.drop_set_of_lt (by omega)]⟩;rw[List.take_succ_eq_append_getElem (by simpa using h),List.take_set_of_le zl,List.getElem_set_self]
theorem vN{T:TypeId}:∀(vs:List Vq) (o:Nat) (w:Wq) (aa:Array Vq),w.heap[b]?=cC aa T->o+aB vs<=aa.size->∃d,(w.setCells b o vs).heap[b]?=cC d T/\d.size=aa.size/\d.toList=aa.toList.take o++vs++aa.toList.drop (o+aB vs)
 |[],o,w,aa,h,_=>⟨aa,h,rfl,by simp⟩
 |v::vs,o,w,aa,h,hl=>by simp only[bT] at hl;have⟨d,h1,h2,h3⟩:=vN vs (o+1) (w.setCell (Ad b o) v) _ (qw h o v) (by simp;omega);refine⟨d,h1,by simpa using h2,?_⟩;have⟨e1,e2⟩:=E9 aa.toList o (aB vs) v (by grind);rw[h3,Array.toList_setIfInBounds,e1,e2,aZ,aZ,aZ,bT,show o+(aB vs+1)=o+1+aB vs by omega];rfl
theorem qG(b:Nat):∀(vs:List Vq) (o:Nat) (w:Wq),(w.setCells b o vs).os=w.os/\(w.setCells b o vs).tape=w.tape/\(w.setCells b o vs).output=w.output/\(w.setCells b o vs).heap.size=w.heap.size/\∀k,k≠b->(w.setCells b o vs).heap[k]?=w.heap[k]?
 |[],o,w=>⟨rfl,rfl,rfl,rfl,λ_ _=>rfl⟩
 |v::vs,o,w=>by have⟨h1,h2,h3,h4,h5⟩:=qG b vs (o+1) (w.setCell (Ad b o) v);exact⟨h1,h2,h3,h4.trans (by simp),λk d=>(h5 k d).trans (cH w ⟨b,o,aW⟩ v k d)⟩
theorem ul(f:α->List Vq)(k:Nat)(d:∀x,aB (f x)=k):∀(l:List α) (i:Nat) (x:α),i<aB l->(l.set i x).flatMap f=(l.flatMap f).take (i*k)++f x++(l.flatMap f).drop (i*k+k)
 |a::l,0,x,_=>by grind
 |a::l,i+1,x,h=>by
  have C:=ul f k d l i x (by simpa using h);have E:=d a;have z:((f a)++l.flatMap f).take ((i+1)*k)=f a++(l.flatMap f).take (i*k):=by{grind [bU,bG,cL]};have A:((f a)++l.flatMap f).drop ((i+1)*k+k)=(l.flatMap f).drop (i*k+k):=by{grind [cO,List.drop_eq_nil_of_le,cL]};rw[List.set_cons_succ,cJ,C,cJ,z,A];simp only[aZ]
theorem AE{B T:Nat}{f:α->List Vq}{l:List α}{g c:Nat}(h:aE W B T k (Sc g (aB l) c) (aB l) (l.flatMap f))(d:∀x,aB (f x)=k){i:Nat}(z:i<aB l)(x:α):aE (W.setCells g (i*k) (f x)) B T k (Sc g (aB l) c) (aB l) ((l.set i x).flatMap f):=by
 obtain⟨hx,⟨A,_⟩|⟨g',G,aa,A,Z,hh,C,M,h3,O⟩⟩:=h
 .cases A
 .cases A;have dw:i*k+k<=aB l*k:=by rw[<-Nat.succ_mul];exact cD _ z
  have ca:aB l*k<=c*k:=cD _ C;have⟨ac,e1,e2,e3⟩:=vN (f x) (i*k) W aa hh (by grind);have E:aB ((l.set i x).flatMap f)=aB l*k:=by{rw[ul f k d l i x z];simp only[aX,List.length_take,List.length_drop,hx,d];omega};refine⟨E,aR ⟨g,c,ac,rfl,Z,e1,C,M,by omega,?_⟩⟩;rw[e3,ul f k d l i x z,<-O,d,List.take_take,Nat.min_eq_left (by omega)];have hz:aB (aa.toList.take (i*k))=i*k:=by{simp;omega};rw[bU,bG (by grind)];congr 1;rw[aX,hz,d,cS]
theorem Jz{P:Program}(w:Wq)(t ty e:TypeId)(he:e=71)(i:TypeInfo)(z:Vq)(ht:P.underlying t=aV (.slice e))(hi:P.info? e=aV i)(hz:i.zero=aV z)(h4:i.size=4)(h5:i.bytes=40)(cq:z.cells.size=4){v:Vq}{l d:List Rc}(h:dJ w v l){x:Vq}(hs:Src P 4 t x (aB d) (d.flatMap Rc.c) w)(hl:aB l+aB d<=100000):∃C w',(dA #[t,t] ty #[v,x]).run P w=.ok C w'/\dJ w' C (l++d)/\w.grownBy w' (aF v)/\(aF C=aF v\/aF C=aV w.heap.size):=by
 subst he;have dk:aB (l.flatMap Rc.c)=aB l*4:=pP l;have E:aB (d.flatMap Rc.c)=aB d*4:=pP d;have dg:(l++d).flatMap Rc.c=l.flatMap Rc.c++d.flatMap Rc.c:=List.flatMap_append
 have grow:∀(O:Option Addr) (sc:Nat),v=aH O (aB l) sc->sc<aB l+aB d->(dC i.size (aB l) (aH O (aB l) sc)).run P w.drew=.ok (l.flatMap Rc.c).toArray w.drew->∃C w',(dA #[t,t] ty #[v,x]).run P w=.ok C w'/\dJ w' C (l++d)/\w.grownBy w' (aF v)/\(aF C=aF v\/aF C=aV w.heap.size):=by
  rintro O sc rfl hg ap;have M:=run_append_grow_src (P:=P) w t t ty 71 i z ht hi hz O (aB l) sc (l.flatMap Rc.c) ap x (aB d) (d.flatMap Rc.c) (by grind) hg (by omega) (by rw[h5];exact growslice_fits hg (by omega));have ax:=grownCap_ge w (aB l+aB d) sc 71;have b4:=grownCap_le_maxLen w (aB l+aB d) sc 71 (by unfold maxLen;omega);refine⟨_,_,M,aR ⟨w.heap.size,0,_,_,by rw[aX],zn w.drew _,by rw[aX];exact ax,b4,?_,?_⟩,⟨rfl,rfl,rfl,by simp,λk G _=>cP w.drew _ k G⟩,aR rfl⟩;{simp only[Array.size_append,List.size_toArray,aX,dk,E,size_zeroCells,cq];omega};{grind [Array.toList_append,aX,cR]}
 rcases h with⟨rfl,rfl⟩|⟨g,ab,A,aa,rfl,Z,d3,b4,d0,ay⟩
 .by_cases h0:aB d=0
  .have:d=[]:=List.eq_nil_of_length_eq_zero h0;subst this;have hc:(dC 4 0 x).run P w=.ok (#[]:Array Vq) w:=hs.cells;have G:(dA #[t,t] ty #[aH aW 0 0,x]).run P w=.ok (aH aW 0 0) w:=by{rcases hs.kind with⟨e',G⟩|G<;>simp[dA,run_underlying ht,run_underlying G,sizeOf,typeInfo,hi,hs.len,h4,hc,storeCells]};exact⟨_,_,G,aQ ⟨rfl,rfl⟩,⟨rfl,rfl,rfl,cW _,λ_ _ _=>rfl⟩,aQ rfl⟩
  .exact grow aW 0 rfl (by simp;omega) (run_firstCells_none w.drew i.size 0 0 0)
 .by_cases aq:aB l+aB d<=A
  .have di:ab+aB l*4+aB (d.flatMap Rc.c)<=aa.size:=by{rw[E];omega};have M:=run_append_room_src (P:=P) w t t ty 71 i ht hi g ab (aB l) A x (aB d) (d.flatMap Rc.c) (by grind) aq (λj hj=>by rw[h4];simp only[aC,Z];rw[Array.getElem?_eq_getElem (by omega)];rfl) (λj hj=>by simp[aD,Z]);rw[h4] at M;have⟨ac,e1,e2,e3⟩:=vN (d.flatMap Rc.c) (ab+aB l*4) w aa Z di;have⟨f1,f2,f3,f4,f5⟩:=qG g (d.flatMap Rc.c) (ab+aB l*4) w;refine⟨_,_,M,aR ⟨g,ab,A,ac,by rw[aX],e1,by rw[aX];exact aq,b4,by omega,?_⟩,⟨f1,f2,f3,by omega,λk G hn=>f5 k (λe=>hn (by rw[e];rfl))⟩,aQ rfl⟩;rw[e3,dg,aX,cL,<-ay];have hz:aB (aa.toList.take (ab+aB l*4))=ab+aB l*4:=by{simp;omega};rw[aZ,cO,bU,hz,show ab-(ab+aB l*4)=0 by omega,List.drop_zero,cS];have bn:aB ((aa.toList.drop ab).take (ab+aB l*4-ab))=aB l*4:=by{simp;omega};rw[bn,bG (l:=(aa.toList.drop ab).take (ab+aB l*4-ab)) (by omega),show ab+aB l*4-ab=aB l*4 by omega,show aB l*4+aB d*4-aB l*4=aB d*4 by omega];congr 1;exact cR E
  .refine grow (aV ⟨g,ab,aW⟩) A rfl (by omega) (run_firstCells_some w.drew i.size (aB l) ⟨g,ab,aW⟩ (aB l) A _ (by grind) (λj u hu=>?_));have hj:=(bE.1 hu).1;rw[<-ay,List.getElem?_take,if_pos (by omega),List.getElem?_drop] at hu;rw[Addr.add_lit];show aC w (Ad g (ab+j))=aV u;simpa [aC,Z] using hu
theorem eI.putFeed{W':Wq}{ds:List (Fr×Vq×Vq)}(h:eI W T b y vr vf vn vs vd qs fs ss ds){i:Nat}{p p':Fr×Vq×Vq}(G:ds[i]?=aV p)(hc:dD W W' (λk=>aF vd=aV k\/aF p.2.2=aV k))(row:aE W' 0 246 5 vd (aB ds) ((ds.set i p').flatMap jf))(hs:dJ W' p'.2.1 p'.1.snap)(O:dJ W' p'.2.2 p'.1.que)(ls:∀g,aF p'.2.1=aV g->aF p.2.1=aV g\/W.heap.size<=g)(lq:∀g,aF p'.2.2=aV g->aF p.2.2=aV g\/W.heap.size<=g)(hd:∀g,aF p'.2.2=aV g->aF p'.2.1≠aV g):Qu T b {y with feeds:=y.feeds.set i p'.1} W W'/\qJ W W':=by
 have bh:p∈ds:=aY G;have a7:i<aB ds:=(bE.1 G).1
 have Qh9:∀{v:Vq} {l:List Rc},dJ W v l->∀{g:Nat},aF v=aV g->∃c,W.heap[g]?=cC c 71:=λ{v l} C {g} d=>by
  rcases C with⟨rfl,_⟩|⟨g',ab,cap,aa,rfl,z,_⟩
  .cases d
  .cases d;exact⟨aa,z⟩
 have au:qJ W W':=λk c t A z hk=>hc.block k (zg hk).1 (λe=>by
  rcases e with e|e
  .have⟨c',ag⟩:=qh h.feeds e;rw[hk] at ag;cases ag;exact A rfl
  .have⟨c',ag⟩:=Qh9 (h.feede p bh).2.1 e
   rw[hk] at ag;cases ag;exact z rfl)
 have Z:∀{B U m n:Nat} {u:Vq} {xs:List Vq},U≠246->U≠71->aE W B U m u n xs->aE W' B U m u n xs:=λA z ho=>qn ho (λg d _=>by
  have⟨c,az⟩:=qh ho d
  exact au g c _ A z az)
 have Qia:∀{v:Vq} {l:List Rc},dJ W v l->(∀g,aF p.2.2=aV g->aF v≠aV g)->dJ W' v l:=λ{v l} C b6=>C.keep (λg d=>by
  have⟨c,az⟩:=Qh9 C d;refine hc.block g (zg az).1 (λe=>?_);rcases e with e|e
  .have⟨c',ag⟩:=qh h.feeds e;rw[az] at ag;cases ag
  .exact b6 g e d)
 have ax:∀(j:Nat) (q:Fr×Vq×Vq),(ds.set i p')[j]?=aV q->(j=i/\q=p')\/(j≠i/\ds[j]?=aV q):=λj q O=>by grind
 have b3:∀{v:Vq} {l:List Rc},dJ W' v l->∀g,aF v=aV g->g<W'.heap.size:=λ{v l} C g d=>by
  rcases C with⟨rfl,_⟩|⟨g',ab,cap,aa,rfl,z,_⟩
  .cases d
  .cases d;exact (zg z).1
 have co:∀(u o:Vq) (l:List Rc),dJ W' u l->(∀g,aF o=aV g->T g)->(∀g,aF u=aV g->aF o=aV g\/W.heap.size<=g)->∀g,aF u=aV g->gQ T W W' g:=λu o l C ho hl g d=>by
  rcases hl g d with A|A
  .exact aQ (ho g A)
  .exact aR ⟨A,b3 C g d⟩
 have ap:∀{q:Fr×Vq×Vq},q∈ds->(∀g,aF q.2.1=aV g->g<W.heap.size)/\∀g,aF q.2.2=aV g->g<W.heap.size:=λ{q} O=>⟨λg d=>h.lt g ((h.feede q O).1.2 g d),λg d=>h.lt g ((h.feede q O).2.2 g d)⟩
 have hT:dD W W' T:=hc.mono (λk _ e=>by
  rcases e with e|e
  .exact h.feedsT k e
  .exact (h.feede p bh).2.2 k e)
 refine⟨gQ.post ⟨vr,vf,vn,vs,vd,qs,fs,ss,ds.set i p',⟨(au b _ _ (by decide) (by decide) h.box).trans h.box,aQ h.own,gQ.lt h.lt hc.size,h.rules.keep (λk c u ht hk=>au k c u (by grind) (by grind) hk),h.rsm,Z (by decide) (by decide) h.facts,λg d=>aQ (h.factsT g d),h.factsm,λp M=>⟨Z (by decide) (by decide) (h.facte p M).1,λg d=>aQ ((h.facte p M).2 g d)⟩,Z (by decide) (by decide) h.names,λg d=>aQ (h.namesT g d),⟨Z (by decide) (by decide) h.state.row,λp M=>Z (by decide) (by decide) (h.state.each p M)⟩,λg d=>aQ (h.stateT g d),h.statem,λp M g d=>aQ (h.statee p M g d),by rw[List.length_set];exact row,λg d=>aQ (h.feedsT g d),by rw[List.map_set,h.feedsm],λq ai=>?_,h.sepN,λj k q r g ai am d=>?_⟩⟩ hT,au⟩
 .obtain⟨j,hj,rfl⟩:=cE ai;rcases ax j _ (bC hj) with⟨_,e⟩|⟨e,E⟩
  .rw[e];exact⟨⟨hs,co _ p.2.1 _ hs (h.feede p bh).1.2 ls⟩,O,co _ p.2.2 _ O (h.feede p bh).2.2 lq⟩
  .have c5:=aY E;have z:=h.feede _ c5;exact⟨⟨Qia z.1.1 (λg d=>(h.sepQ i j p _ g G E d).2),λg d=>aQ (z.1.2 g d)⟩,Qia z.2.1 (λg d=>(h.sepQ i j p _ g G E d).1 (Ne.symm e)),λg d=>aQ (z.2.2 g d)⟩
 .rcases ax j q ai with⟨rfl,rfl⟩|⟨e,E⟩
  .rcases ax k r am with⟨rfl,rfl⟩|⟨e',bc⟩
   .grind
   .have hl:=ap (aY bc);rcases lq g d with A|A
    .have:=h.sepQ j k p r g G bc A;exact⟨this.1,this.2⟩
    .grind
  .have hl:=(ap (aY E)).2 g d;rcases ax k r am with⟨rfl,rfl⟩|⟨e',bc⟩
   .have:=h.sepQ j k q p g E G d;refine⟨λb6 e2=>?_,λe2=>?_⟩;{grind};{grind}
   .exact h.sepQ j k q r g E bc d
theorem eI.addFeed{W1:Wq}{ds:List (Fr×Vq×Vq)}(h:eI W T b y vr vf vn vs vd qs fs ss ds){O:Obj}{z:Vq}(r:ByteArray)(d:(W.alloc O).grownBy W1 (aF vd))(ho:aE W1 0 246 5 z (aB ds+1) (ds.flatMap jf++jf (⟨r,true,[],[],0⟩,aH aW 0 0,aH aW 0 0)))(b5:aF z=aF vd\/aF z=aV (W.alloc O).heap.size):aC W1 (Ad b 9)=aV vd/\aD W1 (Ad b 9)=false/\Qu T b {y with feeds:=y.feeds++[⟨r,true,[],[],0⟩]} W (W1.setCell (Ad b 9) z):=by
 have cc:(W.alloc O).heap.size=W.heap.size+1:=by simp
 have cl:=d.size;have ci:∀k,k<W.heap.size->aF vd≠aV k->W1.heap[k]?=W.heap[k]?:=λk C hv=>(d.block k (by omega) (λe=>hv e.symm)).trans (cP _ _ k C);have ct:aF vd≠aV b:=λe=>by have⟨c,hc⟩:=qh h.feeds e;rw[h.box] at hc;cases hc
 have dd:=h.lt b h.own;have bd:=(ci b dd ct).trans h.box;have Qg1:=qw bd 9 z;have bn:(W1.setCell (Ad b 9) z).heap.size=W1.heap.size:=by simp
 have au:∀(k:Nat) (c:Array Vq) (t:TypeId),t≠246->t≠222->W.heap[k]?=cC c t->(W1.setCell (Ad b 9) z).heap[k]?=W.heap[k]?:=λk c t G A C=>(cH W1 ⟨b,9,aW⟩ z k (λe=>by
  have e':k=b:=e
  rw[e',h.box] at C;cases C;exact A rfl)).trans (ci k (zg C).1 (λe=>by
  have⟨c',ag⟩:=qh h.feeds e
  rw[C] at ag;cases ag;exact G rfl))
 have Z:∀{B U m n:Nat} {u:Vq} {xs:List Vq},U≠246->U≠222->aE W B U m u n xs->aE (W1.setCell (Ad b 9) z) B U m u n xs:=λG A ho=>qn ho (λg d _=>by
  have⟨c,az⟩:=qh ho d
  exact au g c _ G A az)
 have cf:∀{v:Vq} {l:List Rc},dJ W v l->dJ (W1.setCell (Ad b 9) z) v l:=λ{v l} hr=>by
  refine hr.keep (λg bi=>?_);rcases hr with⟨rfl,_⟩|⟨g',ab,cap,aa,rfl,A,_⟩
  .cases bi
  .cases bi;exact au g' aa _ (by decide) (by decide) A
 have b7:dD W (W1.setCell (Ad b 9) z) T:=(((dD.ofBelow T (Below.refl W.heap.size W)).alloc O).grown d (λk C _=>h.feedsT k C)).setCell (Ad b 9) z (λ_=>h.own)
 have c8:aE (W1.setCell (Ad b 9) z) 0 246 5 z (aB ds+1) (ds.flatMap jf++jf (⟨r,true,[],[],0⟩,aH aW 0 0,aH aW 0 0)):=Qk ho ⟨b,9,aW⟩ z (λg' bi e=>by
  have⟨c,hc⟩:=qh ho bi;have e':g'=b:=e
  rw[e',bd] at hc;cases hc)
 refine⟨zc bd,by simp[aD,bd],gQ.post ⟨vr,vf,vn,vs,z,qs,fs,ss,ds++[(⟨r,true,[],[],0⟩,aH aW 0 0,aH aW 0 0)],⟨Qg1,aQ h.own,gQ.lt h.lt b7.size,h.rules.keep (λk c u ht C=>au k c u (by grind) (by grind) C),h.rsm,Z (by decide) (by decide) h.facts,λg d=>aQ (h.factsT g d),h.factsm,λp M=>⟨Z (by decide) (by decide) (h.facte p M).1,λg d=>aQ ((h.facte p M).2 g d)⟩,Z (by decide) (by decide) h.names,λg d=>aQ (h.namesT g d),⟨Z (by decide) (by decide) h.state.row,λp M=>Z (by decide) (by decide) (h.state.each p M)⟩,λg d=>aQ (h.stateT g d),h.statem,λp M g d=>aQ (h.statee p M g d),?_,λg d=>?_,by rw[List.map_append,h.feedsm];rfl,λq E=>?_,h.sepN,λj k q u g E am d=>?_⟩⟩ b7⟩
 .grind
 .rcases b5 with e|e
  .rw[e] at d;exact aQ (h.feedsT g d)
  .have⟨c,hc⟩:=qh c8 d;rw[e] at d;cases d;exact aR ⟨by omega,(zg hc).1⟩
 .rcases bD.1 E with E|E
  .have A:=h.feede q E;exact⟨⟨cf A.1.1,λg d=>aQ (A.1.2 g d)⟩,cf A.2.1,λg d=>aQ (A.2.2 g d)⟩
  .rw[bB] at E;subst E;exact⟨⟨aQ ⟨rfl,rfl⟩,λg d=>(by cases d)⟩,aQ ⟨rfl,rfl⟩,λg d=>(by cases d)⟩
 .have cn:∀(j:Nat) (q:Fr×Vq×Vq),(ds++[(⟨r,true,[],[],0⟩,aH aW 0 0,aH aW 0 0)])[j]?=aV q->ds[j]?=aV q\/(aF q.2.1=aW/\aF q.2.2=aW):=λj q hq=>by
   by_cases hj:j<aB ds;{grind};{rw[bL (by omega)] at hq;have:=aY hq;rw[bB] at this;subst this;exact aR ⟨rfl,rfl⟩}
  rcases cn j q E with G|G
  .rcases cn k u am with A|A
   .exact h.sepQ j k q u g G A d
   .grind
  .grind
theorem Tryz.infoFeed:(Tryz.prog.info? 246).map (λi=>(i.zero,i.size,i.bytes))=aV (aV (aJ #[St ⟨#[]⟩,aK false,aH aW 0 0,aH aW 0 0,Ii 0]),5,80):=by kernel_rfl
theorem yg(w:Wq)(c:List Vq)(t:TypeId):∀j q,c[j]?=aV q->aC (w.alloc (aN c.toArray t)) ((⟨w.heap.size,0,aW⟩:Addr).add j)=aV q:=by intro j q d;rw[Addr.add_lit];have:=zn w (aN c.toArray t);simp only[aC,this];simpa using d
def ol(s:ByteArray):Bool:=match Q3 s with
 |[t,_]=>decide (t.kind=1) && (decide (t.runes<=8) && (t.text.toList == s.toList))
 |_=>false
def kq(y:Er)(s:ByteArray):Int×Int×Er:=
 if ol s=false then (0,2,y) else if fU (dM y.rs) s=0 then (0,7,y) else if 3<=aB y.feeds then (0,10,y)
 else (aB y.feeds,0,{y with feeds:=y.feeds++[⟨s,true,[],[],0⟩]})
theorem DG{ds:List (Fr×Vq×Vq)}(h:eI W T b y vr vf vn vs vd qs fs ss ds)(hz:sV y)(s:ByteArray)(hs:s.size<=1048576):Cs 72 #[Pt b,St s] W λe w'=>e=aO (aL #[Ii (kq y s).1,Ii (kq y s).2.1])/\Qu T b (kq y s).2.2 W w':=by
 have⟨va,vc,cz⟩:=qe h.rules.row;have⟨da,dc,dh⟩:=qe h.feeds;subst cz dh;have ay:Hid _:=uw s W hs (Nat.le_trans (vR s) hs);have hq:aB qs<=1000:=by have:=hz.r8;rw[<-h.rsm,bZ] at this;omega
 have ch:∀q∈qs,aB q.1.body<=900:=λq hq=>by have:=hz.body q.1 (by rw[<-h.rsm];exact bF.2 ⟨q,hq,rfl⟩);omega
 have ck:dM y.rs=Q8 qs:=by rw[<-h.rsm];unfold dM Q8;rw[List.flatMap_map]
 have bj:aB y.feeds=aB ds:=by rw[<-h.feedsm,bZ]
 have h3:aB ds<=3:=by have:=hz.f3;omega
 have HX:Hid (∀Y,Below W.heap.size W Y->eI Y T b y (aH va (aB qs) vc) vf vn vs (aH da (aB ds) dc) qs fs ss ds):=λY G=>h.below G;have HC:Hid (∀Y,Below W.heap.size W Y->aC Y (Ad b 0)=aV (aH va (aB qs) vc)/\aC Y (Ad b 9)=aV (aH da (aB ds) dc)/\aD Y (Ad b 9)=false):=λY G=>by have:=(h.below G).box;exact⟨zc this,zc this,by simp[aD,this]⟩
 obtain⟨ar,ae⟩:∃ar,fU (dM y.rs) s=ar:=⟨_,rfl⟩;have cj:Hid (∀Y,Below W.heap.size W Y->Cs 117 #[aH va (aB qs) vc,St s] Y λe w'=>e=aO (Ii (ar:Int))/\Below W.heap.size W w'):=λY G=>by rw[<-ae,ck];refine (sZ _ qs s Y (h.below G).rules hq ch).mono ?_;rintro e w' ⟨Z,k2⟩;exact⟨Z,G.trans (k2.mono G.size)⟩
 have M:Hid (∀Y,Below W.heap.size W Y->Qu T b y W Y):=λY G=>Qu.same ⟨_,_,_,_,_,_,_,_,_,h⟩ G;have z:Hid (kq y s=if ol s=false then (0,2,y) else if ar=0 then (0,7,y) else if 3<=aB ds then (0,10,y) else ((aB ds:Int),0,{y with feeds:=y.feeds++[⟨s,true,[],[],0⟩]})):=by show _=_;unfold kq;rw[ae,bj]
 have A:Hid (ol s=match Q3 s with
  |[t,_]=>decide (t.kind=1) && (decide (t.runes<=8) && (t.text.toList == s.toList))
  |_=>false):=rfl
 obtain⟨L,hL⟩:∃L,Q3 s=L:=⟨_,rfl⟩;rw[hL] at ay A;clear h hz hs hq ch ck bj ae hL;generalize ol s=nb at *;generalize kq y s=sd at *;go_enter Tryz.func72,Tryz.ntmps72;go_wp2_with fail;refine bI ay.o ?_;clear ay;rintro e' W1 ⟨v1,rfl,Q2,bv⟩;have⟨ta,tc,cv⟩:=qe Q2;subst cv;have al:=cj.o W1 bv;have⟨c0,c9,z9⟩:=HC.o W1 bv;have d5:=aA bv;clear bv cj;by_cases cg:aB L=2
 .obtain⟨t,u,rfl⟩:∃t u,L=[t,u]:=by
   match L,cg with
   |[t,u],_=>exact⟨t,u,rfl⟩
  have⟨g,cap,e1,_,dx,_,hc⟩:=iI Q2 (λ_=>rfl) (by simp);cases e1;have k0:aC W1 (Ad g 0)=aV (Ii t.kind):=hc 0 0 (by simp) _ (by decide) rfl;have Z:aC W1 (Ad g 1)=aV (St t.text):=hc 0 1 (by simp) _ (by decide) rfl;have k3:aC W1 (Ad g 3)=aV (Ii t.runes):=hc 0 3 (by simp) _ (by decide) rfl;simp only at A;have⟨kd,tx,pl,rn⟩:=t;simp only at k0 Z k3 A;clear hc Q2;by_cases hk:kd=1
  .subst hk;by_cases hr:rn<=8
   .have am:(rn:Int)<=8:=by omega
    cases he:(tx.toList == s.toList) with
    |true=>
     have E:nb=true:=by{rw[A.o,he];simp[hr]};subst E;rw[if_neg (by decide)] at z;clear A;go_wp2_with fail;refine bI al ?_;rintro e' W2 ⟨rfl,ad⟩;have C:=aA ad;have⟨c0,c9,z9⟩:=HC.o W2 ad;clear al ad k0 Z k3;by_cases h0:ar=0;{rw[if_pos h0] at z;subst h0;go_wp2;go_ret2;rw[z.o];exact⟨rfl,M.o _ C.o⟩}
     .rw[if_neg h0] at z;have d6:((ar:Int) == 0)=false:=by{simp;omega};by_cases hf:3<=aB ds
      .rw[if_pos hf] at z;have b0:(3:Int)<=(aB ds:Int):=by{omega};go_wp2;go_ret2;rw[z.o];exact⟨rfl,M.o _ C.o⟩
      .rw[if_neg hf] at z;have b0:¬(3:Int)<=(aB ds:Int):=by{omega};have⟨i0,dr,cc,cl,bn⟩:=info_parts Tryz.infoFeed;obtain⟨O,hO⟩:∃O,aN #[St s,aK true,aH aW 0 0,aH aW 0 0,Ii 0] 246 (0,0)=O:=⟨_,rfl⟩;have bk:=HX.o W2 C.o;have cp:Hid (aE (W2.alloc O) 0 246 5 (aH da (aB ds) dc) (aB ds) (ds.flatMap jf)):=bk.feeds.alloc O;have dj:Hid (∀(j:Nat) (u:Vq),[aI s,aK true,aH aW 0 0,aH aW 0 0,Ii 0][j]?=aV u->aC (W2.alloc O) ((⟨W2.heap.size,0,aW⟩:Addr).add j)=aV u):=by{rw[<-hO];exact yg _ [_,_,_,_,_] _};have Qf:Hid (∀(w1:Wq) (v':Vq),aE w1 0 246 5 v' (aB ds+1) (ds.flatMap jf++[St s,aK true,aH aW 0 0,aH aW 0 0,Ii 0])->(W2.alloc O).grownBy w1 (aF (aH da (aB ds) dc))->(aF v'=aF (aH da (aB ds) dc)\/aF v'=aV (W2.alloc O).heap.size)->aC w1 (Ad b 9)=aV (aH da (aB ds) dc)/\aD w1 (Ad b 9)=false/\Hid (Qu T b {y with feeds:=y.feeds++[⟨s,true,[],[],0⟩]} W (w1.setCell (Ad b 9) v'))):=λw1 v' ho hg b5=>by{have⟨Z,k2,k3⟩:=bk.addFeed s hg ho b5;exact⟨Z,k2,Qu.trans' ⟨⟨⟨_,_,_,_,_,_,_,_,_,bk⟩,λk hk=>aQ hk⟩,dD.ofBelow T C.o⟩ k3⟩};have df:aB ds+1<=maxLen:=by{unfold maxLen;omega};have cr:(aB ds+1)*80<=140737488355328:=by{omega};clear bk
       go_wp2_with (at_builtin;refine zV _ rfl (.tmp 59) (.tmp 62) 220 rfl 0 246 i0 (aJ #[St ⟨#[]⟩,aK false,aH aW 0 0,aH aW 0 0,Ii 0]) 5 80 Tryz.underlying220 dr cc cl bn rfl (by decide) _ (aB ds) (ds.flatMap jf) rfl cp.o ⟨W2.heap.size,0,aW⟩ 1 1 [St s,aK true,aH aW 0 0,aH aW 0 0,Ii 0] rfl rfl dj.o (by simp[Value.oneCell']) df cr zz ?_;intro v' w1 ak a9 aj a6;have⟨g',cw,dq⟩:=ownsRow_succ ak;subst dq;have⟨f6,y6,db⟩:=Qf.o w1 _ ak aj a6;clear ak a9 aj a6)
       go_ret2;rw[z.o];exact⟨by simp,db.o⟩
    |false=>
     have E:nb=false:=by{rw[A.o];simp[he]};subst E;rw[if_pos rfl] at z;clear A;go_wp2_with fail;refine bI al ?_;rintro e' W2 ⟨rfl,ad⟩;have C:=aA ad;clear al ad c0 c9 z9;go_wp2;go_ret2;rw[z.o];exact⟨rfl,M.o _ C.o⟩
   .have am:¬(rn:Int)<=8:=by{omega};have E:nb=false:=by{rw[A.o];simp[hr]};subst E;rw[if_pos rfl] at z;clear A;go_wp2_with fail;refine bI al ?_;rintro e' W2 ⟨rfl,ad⟩;have C:=aA ad;clear al ad c0 c9 z9;go_wp2;go_ret2;rw[z.o];exact⟨rfl,M.o _ C.o⟩
  .have du:(kd == 1)=false:=by{simpa using hk};have E:nb=false:=by{rw[A.o];simp[hk]};subst E;rw[if_pos rfl] at z;clear A;go_wp2_with fail;refine bI al ?_;rintro e' W2 ⟨rfl,ad⟩;have C:=aA ad;clear al ad c0 c9 z9;go_wp2;go_ret2;rw[z.o];exact⟨rfl,M.o _ C.o⟩
 .have bb:((aB L:Int) == 2)=false:=by simp;omega
  have E:nb=false:=by rw[A.o];(match L,cg with
   |[],_=>rfl
   |[a],_=>rfl
   |[a,c],h=>exact absurd rfl h
   |a::c::d::l,_=>rfl)
  subst E;rw[if_pos rfl] at z;clear A;go_wp2_with fail;refine bI al ?_;rintro e' W2 ⟨rfl,ad⟩;have C:=aA ad;clear al ad c0 c9 z9;go_wp2;go_ret2;rw[z.o];exact⟨rfl,M.o _ C.o⟩
theorem um:∀l:List Rn,(gO l).size=eC l
 |[]=>rfl
 |x::l=>by unfold gO eC;rw[cX,um l]
theorem qW:∀(l:List Rn) (k:Nat),eC (l.drop k)<=eC l
 |[],k=>by simp
 |x::l,0=>by simp
 |x::l,k+1=>by have:=qW l k;have d:eC (x::l)=x.text.size+eC l:=rfl;rw[List.drop_succ_cons];omega
theorem zK(s:ByteArray):∀(f i:Nat),s.size<=i+f->i<=s.size->i+eC (R s i)=s.size
 |0,i,h,hi=>by rw[li s i (by omega)];show i+0=_;omega
 |f+1,i,h,hi=>by
  by_cases d:i<s.size
  .have z:=jW s i d;have C:=nU s i;have E:=zK s f (i+(cZ s i).2) (by omega) z;rw[ld s i d];unfold eC;have A:(s.extract i (i+(cZ s i).2)).size=(cZ s i).2:=by{simp;omega};simp only[A];omega
  .rw[li s i d];show i+0=_;omega
theorem py:∀(f:Nat) (l:List Rn) (i:Nat),∀t∈dL f l i,t.text.size<=eC l
 |0,l,i,t,d=>by simp[dL] at d
 |f+1,[],i,t,d=>by simp[dL] at d
 |f+1,r::l,i,t,d=>by
  have E:=py f (l.drop (aB (tw l))) (i+(1+aB (tw l))) t;have G:=py f l (i+1) t;have M:=py f (l.drop 1) (i+2) t;have z:=qW l (aB (tw l));have A:=qW l 1;have C:eC (r::l)=r.text.size+eC l:=rfl
  have O:eC (tw l)<=eC l:=by
   clear E G M z A d C
   induction l with
   |nil=>exact cW _
   |cons x l ih=>
    unfold tw;rw[cG];split;{grind [eC,tw]};{exact zz}
  unfold dL at d;split at d;{grind [gO,tw,um]};split at d;{grind};split at d
  .rcases bJ.1 d with rfl|d
   .exact zz
   .grind
  split at d;{grind};{grind}
theorem zI:∀{l:List Rn},(∀r∈l,1<=r.text.size)->eC l=0->l=[]
 |[],_,_=>rfl
 |r::l,h,e=>by grind [eC]
theorem BB:∀{l:List Rn},(∀r∈l,1<=r.text.size)->eC (tw l)=eC l->tw l=l
 |[],_,_=>rfl
 |x::l,h,e=>by
  have G:=h x zs;unfold tw at e ⊢;rw[cG] at e ⊢;split at e;{rename_i d;rw[if_pos d];have A:eC (x::tw l)=x.text.size+eC (tw l):=rfl;have C:eC (x::l)=x.text.size+eC l:=rfl;have E:eC (x::tw l)=eC (x::l):=e;have:=BB (λr z=>h r (zt z)) (by omega);show x::tw l=x::l;rw[this]};{grind [eC]}
theorem yr:∀(f:Nat) (l:List Rn) (i:Nat),(∀r∈l,1<=r.text.size)->∀t∈dL f l i,t.text.size=eC l->dL f l i=[t]/\t.runes=aB l
 |0,l,i,_,t,d,_=>by simp[dL] at d
 |f+1,[],i,_,t,d,_=>by simp[dL] at d
 |f+1,r::l,i,h,t,d,he=>by
  have h1:=h r zs;have hl:∀r∈l,1<=r.text.size:=λx M=>h x (zt M);have i1:=py f (l.drop (aB (tw l))) (i+(1+aB (tw l))) t;have i2:=py f l (i+1) t;have i3:=py f (l.drop 1) (i+2) t;have O:=qW l (aB (tw l));have Z:=qW l 1;have hw:eC (r::l)=r.text.size+eC l:=rfl;have z:∀j,dL f [] j=[]:=λj=>by{cases f<;>rfl};unfold dL at d ⊢;split at d;{grind [eC,tw,gO,um,BB]};rename_i A;rw[if_neg A];split at d;{grind [zI]};rename_i C;rw[if_neg C];split at d
  .rcases bJ.1 d with e|d
   .have hz:t.text.size=0:=by{rw[e];rfl};omega
   .grind
  rename_i E;rw[if_neg E];split at d;{grind}
  rename_i G;rw[if_neg G];rcases bJ.1 d with e|d
  .grind [zI]
  .grind
theorem toList_eq{y:ByteArray}:(x.toList == y.toList)=true↔x=y:=by grind [jQ,oi]
theorem CX(s:ByteArray):jT s=ol s:=by
 have M:∀r∈R s 0,1<=r.text.size:=λr z=>(sD s s.size 0 (by omega) r z).1;have G:=zK s s.size 0 (by omega) zz;rw[Nat.zero_add] at G
 have hD:ol s=true↔∃t,dL (aB (R s 0)) (R s 0) 0=[t]/\t.kind=1/\t.runes<=8/\t.text=s:=by
  unfold ol Q3;constructor
  .intro h
   match z:dL (aB (R s 0)) (R s 0) 0 with
   |[]=>rw[z] at h;simp at h
   |[t]=>grind [toList_eq]
   |t::u::l=>rw[z] at h;cases l<;>simp at h
  .grind
 have hB:jT s=true↔Lib.runeCount s<=8/\∃x∈eA s.size s 0,x.kind=1/\x.text=s:=by grind [jT,kR,toList_eq]
 have hT:s.size<=1200->(eA s.size s 0).map Qt=dL (aB (R s 0)) (R s 0) 0:=λh=>by grind [oE,oj,vR]
 rw[dB,hB,hD];constructor
 .rintro⟨d,x,hx,A,h3⟩;have C:=mG s;have E:Qt x∈dL (aB (R s 0)) (R s 0) 0:=by grind
  have ht:(Qt x).text=s:=by grind [Qt]
  obtain⟨e1,O⟩:=yr _ _ _ M _ E (by rw[ht,G]);refine⟨_,e1,by unfold Qt fD;simp[A],?_,ht⟩;rw[O,m8];exact d
 .rintro⟨t,d,A,h3,C⟩;obtain⟨_,O⟩:=yr _ _ _ M t (by rw[d];exact zs) (by rw[C,G]);have hc:Lib.runeCount s<=8:=by grind [m8]
  have h5:=mG s;have E:=hT (by omega);rw[d] at E;have:t∈(eA s.size s 0).map Qt:=by grind
  obtain⟨x,hx,rfl⟩:=bF.1 this
  have hk:x.kind=1:=by
   have Z:fD x.kind=1:=A;unfold fD at Z
   revert Z
   repeat' split
   all_goals first|(intro _;assumption)|(intro h;exact absurd h (by decide))
  refine⟨hc,x,hx,hk,?_⟩;have h7:(Qt x).text=x.text:=by grind [Qt]
  rw[<-h7];exact C
theorem Fe{n:Nat}(h:ic e y ds)(af:dV e)(Z:FF n e y)(h3:aB y.feeds<=3)(s:ByteArray):(iF e s).1=(kq y s).1/\(iF e s).2.1=(kq y s).2.1/\ic (iF e s).2.2 (kq y s).2.2 ds/\FF (n+1) (iF e s).2.2 (kq y s).2.2/\aB (kq y s).2.2.feeds<=3:=by
 have⟨f1,f2,f3⟩:=Z
 have hm:FF (n+1) e y:=⟨f1,f2,λi f d C E=>by
  have⟨q1,q2,q3,q4,q5,q6,q7,q8,q9⟩:=f3 i f d C E
  exact⟨q1,q2,q3,q4,q5,q6,by omega,q8,q9⟩⟩
 unfold iF kq;rw[CX,tC,show dH y.rs s=dH e.rs s by rw[h.rs]];split
 .grind
 split
 .grind
 rename_i ae;split
 .grind
 .rename_i h4;rw[if_neg (by omega)];refine⟨by rw[f2],rfl,⟨h.rs,h.win,h.lat,h.que,h.mark,h.clk,h.names,h.ne,h.kept,h.facts,h.least,h.beg,h.nodup,h.sok,h.state⟩,⟨f1,by simp[f2],λi f d C E=>?_⟩,by simp;omega⟩;have A:(e.fds++[⟨fP s (dH e.rs s),true,[],[],0⟩])[i]?=aV f:=C;have z:(y.feeds++[⟨s,true,[],[],0⟩])[i]?=aV d:=E;by_cases hi:i<aB e.fds;{rw[bO hi] at A;rw[bO (by omega)] at z;exact hm.2.2 i f d A z};{rw[bL (by omega)] at A z;have M:=aY A;have O:=aY z;rw[bB] at M O;subst M O;exact⟨rfl,ae,rfl,rfl,rfl,rfl,zz,λr G=>(by cases G),λr G=>(by cases G)⟩}
def lP(m:Int)(st:List Gr)(f:Fr):Rc×Fr:=
 match f.snap with
 |r::l=>({r with seq:=f.next},{f with snap:=l,next:=f.next+1})
 |[]=>if f.behind=true then (⟨1,f.next,⟨#[]⟩,0⟩,{f with behind:=false,snap:=Q1 2 (iU st f.rel) []++[⟨4,0,⟨#[]⟩,m⟩],next:=f.next+1})
  else match f.que with
   |r::l=>({r with seq:=f.next},{f with que:=l,next:=f.next+1})
   |[]=>(⟨0,0,⟨#[]⟩,0⟩,f)
theorem ED(h:kY (dH rs) M hs){m:Int}{n:Nat}{f f':Fs}{d:Fr}{r:Rc}(A:dH rs d.rel=1\/dH rs d.rel=2)(hf:rG rs n f d)(hp:mM M m f r f'):r=(lP m hs d).1/\rG rs (n+1) f' (lP m hs d).2:=by
 have⟨q1,q2,q3,q4,q5,q6,q7,q8,q9⟩:=hf;have⟨r0,f0,hn,hc⟩:=hp;unfold lP;rcases hn with⟨l,z,rfl⟩|⟨z,G,rfl,gs,O,rfl⟩|⟨z,G,l,Z,rfl⟩|⟨z,G,Z,rfl,rfl⟩
 .have hs:d.snap=r0::l:=by rw[<-q4];exact z
  rw[hs];have hk:r0.kind≠0:=q8 r0 (by grind);rcases hc with⟨h0,_⟩|⟨_,rfl,rfl⟩
  .grind
  .refine⟨by rw[q6],q1,q2,q3,rfl,q5,by show f.told+1=d.next+1;rw[q6],by show d.next+1<=n+1;omega,λr A=>q8 r (by grind),q9⟩
 .have hs:d.snap=[]:=by{rw[<-q4];exact z};have C:d.behind=true:=by grind
  rw[hs];simp only;rw[if_pos C];rcases hc with⟨h0,_⟩|⟨_,rfl,rfl⟩
  .cases h0
  .rw[q1] at O;have ht:=Gc h A O 2;unfold Qr at ht;refine⟨by rw[q6],q1,q2,rfl,?_,q5,by show f.told+1=d.next+1;rw[q6],by show d.next+1<=n+1;omega,λr A=>?_,q9⟩;{grind};{grind [BK]}
 .have hs:d.snap=[]:=by{rw[<-q4];exact z};have C:¬d.behind=true:=by{grind};have E:d.que=r0::l:=by grind
  rw[hs];simp only;rw[if_neg C,E];have hk:r0.kind≠0:=q9 r0 (by grind);rcases hc with⟨h0,_⟩|⟨_,rfl,rfl⟩
  .grind
  .refine⟨by rw[q6],q1,q2,q3,q4.trans hs,rfl,by show f.told+1=d.next+1;rw[q6],by show d.next+1<=n+1;omega,λr A=>(List.not_mem_nil (show r∈([]:List Rc) from A)).elim,λr A=>q9 r (by grind)⟩
 .have hs:d.snap=[]:=by{rw[<-q4];exact z};have C:¬d.behind=true:=by{grind};have E:d.que=[]:=by grind
  rw[hs];simp only;rw[if_neg C,E];rcases hc with⟨_,rfl,rfl⟩|⟨h0,_⟩
  .exact⟨rfl,q1,q2,q3,q4,q5,q6,by show d.next<=n+1;omega,q8,q9⟩
  .grind
