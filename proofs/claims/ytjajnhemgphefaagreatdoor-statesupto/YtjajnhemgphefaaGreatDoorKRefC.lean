/- A part -/
import Derived.Test.YtjajnhemgphefaaGreatDoorKAll
import Derived.BigQuiet
set_option linter.all false
set_option maxRecDepth 100000
set_option maxHeartbeats 4000000
namespace Go.Proofs.YtjajnhemgphefaaGreatDoor
open Go renaming World->Wq,Value->Vq
open Go.RowKit Go.Shelf
variable {α:Type} {W W':Wq} {B T k:Nat} {xs:List Vq}
structure RT where
 kind:Int
 text:By
 place:Nat
 runes:Nat
def cat:List Rn->By
 | []=>⟨#[]⟩
 | x::l=>x.text++cat l
def qbt:Nat->List Rn->Nat->List RT
 | 0,_,_=>[]
 | f+1,[],_=>[]
 | f+1,r::l,i=>
  if r.kind=1\/r.kind=2 then ⟨r.kind,r.text++cat (tw l),i,1+(tw l).length⟩::qbt f (l.drop (tw l).length) (i+(1+(tw l).length))
  else if r.kind=5 then ⟨((r.text.get! 0).toNat:Int),r.text,i,1⟩::qbt f l (i+1)
  else if r.kind=6/\(l.head?.map (·.kind))=some 7 then ⟨3,⟨#[]⟩,i,2⟩::qbt f (l.drop 1) (i+2)
  else if r.kind=4 then qbt f l (i+1)
  else ⟨5,r.text,i,1⟩::qbt f l (i+1)
def qdh(k:Int):Int:=
 if k=1 then 1 else if k=2 then 2 else if k=7 then 3 else if k=3 then 40 else if k=4 then 41 else if k=5 then 44 else if k=6 then 46 else 5
def Qn(t:Tok):RT:=⟨qdh t.kind,if t.kind=7 then ⟨#[]⟩ else t.text,t.place,t.runes⟩
theorem qu3(s:By)(i j k:Nat)(h1:i<=j)(h2:j<=k)(h3:k<=s.size):s.extract i j++s.extract j k=s.extract i k:=by
 apply ByteArray.ext;rw[ByteArray.data_append];simp only[ByteArray.data_extract];rw[Array.extract_append_extract];congr 1 <;> omega
theorem q23(s:By):∀(k i:Nat),k<=(R s i).length->i<=s.size->cat ((R s i).take k)=s.extract i (i+qke ((R s i).take k))/\i+qke ((R s i).take k)<=s.size
 | 0,i,_,hi=>by
  refine⟨?_,by simpa [qke] using hi⟩;simp only[List.take_zero,cat,qke,Nat.add_zero];apply ByteArray.ext;simp
 | k+1,i,h,bk=>by
  by_cases hi:i < s.size
  .have hw:=qai s i hi;have hc:=qe6 s i hi;rw[hc] at h ⊢;rw[List.take_succ_cons];have hz:(s.extract i (i+(Utf8.decode s i).2)).size=(Utf8.decode s i).2:=by simp;omega
   have ih:=q23 s k (i+(Utf8.decode s i).2) (by simpa using h) hw;simp only[qke,hz,cat];rw[ih.1,<- Nat.add_assoc];exact⟨qu3 s _ _ _ (by omega) (by omega) ih.2,ih.2⟩
  .rw[qil s i hi] at h;simp at h
theorem qgs(l:List Rn):tw l=l.take (tw l).length:=by
 unfold tw
 induction l with
 | nil=>rfl
 | cons x l ih=>
  rw[List.takeWhile_cons];split
  .simp only[List.length_cons,List.take_succ_cons];rw[<- ih]
  .simp
theorem qzz(l:List Rn):(tw l).length<=l.length:=by
 have:=congrArg List.length (qgs l);rw[List.length_take] at this;omega
theorem qp0(r:Nat)(h:qbu r=true):q9 r=1:=by unfold q9;rw[if_pos h]
theorem qvu(r:Nat)(h:qgf r=true):q9 r=2:=by
 have h2:qbu r=false:=by
  unfold qgf at h;unfold qbu;simp only[decide_eq_true_eq] at h;simp only[decide_eq_false_iff_not];omega
 unfold q9;rw[if_neg (by simp[h2]),if_pos h]
theorem qye(r:Nat)(h:qd9 r=true):q9 r=4:=by
 unfold qd9 at h;simp only[decide_eq_true_eq] at h;unfold q9 qbu qgf qku qd9;simp only[decide_eq_true_eq];rw[if_neg (by omega),if_neg (by omega),if_neg (by omega),if_pos (by omega)]
theorem qwv(s:By)(h:0 < s.size)(hw:q9 (Utf8.decode s 0).1<=3) :
  (qbp s s.size 0 0).2=1+(tw (R s (Utf8.decode s 0).2)).length/\
  s.extract 0 (qbp s s.size 0 0).1=s.extract 0 (Utf8.decode s 0).2++cat (tw (R s (Utf8.decode s 0).2))/\
  R (s.extract (qbp s s.size 0 0).1 s.size) 0=(R s (Utf8.decode s 0).2).drop (tw (R s (Utf8.decode s 0).2)).length:=by
 have hc:=qe6 s 0 h;rw[Nat.zero_add] at hc;have ax:=qai s 0 h;rw[Nat.zero_add] at ax
 have ht:tw (R s 0)=⟨q9 (Utf8.decode s 0).1,s.extract 0 (Utf8.decode s 0).2⟩::tw (R s (Utf8.decode s 0).2):=by
  rw[hc];unfold tw;rw[List.takeWhile_cons,if_pos (by simpa using hw)]
 have hz:(s.extract 0 (Utf8.decode s 0).2).size=(Utf8.decode s 0).2:=by simp;omega
 have hs:=qlc s s.size 0 0 (by omega);rw[ht] at hs;simp only[qke,hz,List.length_cons,Nat.zero_add] at hs;have h1:=q23 s (tw (R s (Utf8.decode s 0).2)).length (Utf8.decode s 0).2 (qzz _) ax;rw[<- qgs] at h1;have h2:=q22 s (tw (R s (Utf8.decode s 0).2)).length (Utf8.decode s 0).2 (qzz _);rw[<- qgs] at h2;rw[hs];refine⟨by simp only;omega,?_,?_⟩
 .rw[h1.1,qu3 s _ _ _ (by omega) (by omega) h1.2]
 .rw[qs3];exact h2
theorem Qam(s:By)(n:Nat)(h:s.size<=1200):(s.extract 0 n).size<=1200:=by simp;omega
theorem qwg(s:By)(h:0 < s.size)(hw:q9 (Utf8.decode s 0).1<=3):0 < (qbp s s.size 0 0).1:=by
 have hc:=qe6 s 0 h;rw[Nat.zero_add] at hc;have hp:=qer s 0;have ax:=qai s 0 h;have hs:=qlc s s.size 0 0 (by omega)
 have ht:tw (R s 0)=⟨q9 (Utf8.decode s 0).1,s.extract 0 (Utf8.decode s 0).2⟩::tw (R s (Utf8.decode s 0).2):=by
  rw[hc];unfold tw;rw[List.takeWhile_cons,if_pos (by simpa using hw)]
 have hz:(s.extract 0 (Utf8.decode s 0).2).size=(Utf8.decode s 0).2:=by simp;omega
 rw[ht] at hs;simp only[qke,hz] at hs;rw[hs];simp only;omega
theorem q6m(s:By)(h:Lib.hasPrefix s.data.toList [58,45]=true):(Utf8.decode s 0).2=1/\(Utf8.decode s 1).2=1/\q9 (Utf8.decode s 0).1=6/\q9 (Utf8.decode s 1).1=7/\2<=s.size/\True:=by
 have h1:[58,45] <+: s.data.toList:=by simpa [Lib.hasPrefix] using h
 obtain⟨t,ht⟩:=h1;have hl:s.data.toList.length=s.size:=Array.length_toList;have hz:2<=s.size:=by rw[<- hl,<- ht];simp
 have b0:byN s 0=58:=by
  have:s.data.toList[0]?=some 58:=by rw[<- ht];rfl
  rw[Array.getElem?_toList] at this;simp[byN,ByteArray.get!,getElem!_def,this]
 have b1:byN s 1=45:=by
  have:s.data.toList[1]?=some 45:=by rw[<- ht];rfl
  rw[Array.getElem?_toList] at this;simp[byN,ByteArray.get!,getElem!_def,this]
 have d0:=qfu s 0;have d1:=qfu s 1;rw[b0,if_pos (by decide)] at d0;rw[b1,if_pos (by decide)] at d1;rw[d0,d1];exact⟨rfl,rfl,by decide,by decide,hz,trivial⟩
theorem Qe6(s:By)(i:Nat)(h:qak s i=2):194<=byN s i/\byN s i<=223:=by
 apply Classical.byContradiction;intro hn;unfold qak at h;rw[if_neg (by omega)] at h;split at h
 .cases h
 .split at h <;> cases h
theorem qhw(s:By)(i:Nat)(h:(Utf8.decode s i).1 < 128):byN s i=(Utf8.decode s i).1/\(Utf8.decode s i).2=1:=by
 have hd:=qfu s i;by_cases k0:byN s i < 128
 .rw[if_pos k0] at hd;rw[hd];exact⟨rfl,rfl⟩
 rw[if_neg k0] at hd;exfalso;by_cases h2:qak s i=2
 .have:=Qe6 s i h2;rw[if_pos h2] at hd;rw[hd] at h;simp only at h;omega
 rw[if_neg h2] at hd;by_cases h3:qak s i=3
 .have:=q9z s i h3;rw[if_pos h3] at hd;rw[hd] at h;simp only at h;omega
 rw[if_neg h3] at hd;by_cases h4:qak s i=4
 .have:=q90 s i h4;rw[if_pos h4] at hd;rw[hd] at h;simp only at h;omega
 rw[if_neg h4] at hd;rw[hd] at h;simp only at h;omega
theorem Qex(r:Nat)(h:q9 r=7):r=45:=by
 unfold q9 at h
 repeat' split at h
 all_goals first | (cases h;done) | assumption | omega
theorem Qb6(s:By)(h0:byN s 0=58)(h1:byN s 1=45)(h2:1 < s.size):Lib.hasPrefix s.data.toList [58,45]=true:=by
 have hl:s.data.toList.length=s.size:=Array.length_toList
 have g0:s.data.toList[0]?=some 58:=by
  rw[Array.getElem?_toList];have e:s.data[0]?=some (s.data[0]'(by show 0 < s.size;omega)):=by simp
  rw[e];have:byN s 0=(s.data[0]'(by show 0 < s.size;omega)).toNat:=by simp[byN,ByteArray.get!,getElem!_def,e]
  rw[h0] at this;congr 1;exact UInt8.toNat.inj (by rw[<- this];rfl)
 have g1:s.data.toList[1]?=some 45:=by
  rw[Array.getElem?_toList];have e:s.data[1]?=some (s.data[1]'(by show 1 < s.size;omega)):=by simp
  rw[e];have:byN s 1=(s.data[1]'(by show 1 < s.size;omega)).toNat:=by simp[byN,ByteArray.get!,getElem!_def,e]
  rw[h1] at this;congr 1;exact UInt8.toNat.inj (by rw[<- this];rfl)
 generalize s.data.toList=l at *
 cases l with
 | nil=>simp at g0
 | cons a l=>
  cases l with
  | nil=>simp at g1
  | cons b l=>
   simp at g0 g1;subst g0 g1;simp[Lib.hasPrefix]
theorem q3p(s:By)(n:Nat)(h:0 < n)(h':0 < s.size):((s.extract 0 n).get! 0).toNat=byN s 0:=by
 unfold byN
 have:(s.extract 0 n).data[0]?=s.data[0]?:=by
  rw[ByteArray.data_extract,Array.getElem?_extract];have hz:s.data.size=s.size:=rfl;rw[if_pos (by rw[hz];omega)]
 simp only[ByteArray.get!,getElem!_def];rw[this]
theorem qho:∀(f:Nat) (s:By) (p:Nat),s.size<=f->s.size<=1200->(qcr f s p).map Qn=qbt f (R s 0) p
 | 0,s,p,h,_=>rfl
 | f+1,s,p,h,hb=>by
  by_cases h0:s.size=0
  .rw[qq0 _ _ _ h0,qil s 0 (by omega)];rfl
  have hp:=qer s 0;have hc:=qe6 s 0 (by omega);rw[Nat.zero_add] at hc;have ax:=qai s 0 (by omega);have ae:∀n,(s.extract n s.size).size=s.size - n:=λn=>by simp
  rw[hc]
  conv=>lhs;unfold qcr
  rw[if_neg h0];by_cases ay:qd9 (Utf8.decode s 0).1=true
  .rw[if_pos ay,qho f _ _ (by rw[ae];omega) (by rw[ae];omega),qs3]
   conv=>rhs;unfold qbt
   simp only[qye _ ay];simp
  rw[if_neg ay,dif_pos (Qam s _ hb)]
  have au:qgf (Utf8.decode s 0).1=true\/qbu (Utf8.decode s 0).1=true->q9 (Utf8.decode s 0).1<=3:=by
   rintro (h | h)
   .rw[qvu _ h];decide
   .rw[qp0 _ h];decide
  by_cases ad:qgf (Utf8.decode s 0).1=true
  .obtain⟨w1,w2,w3⟩:=qwv s (by omega) (au (Or.inl ad));have w0:=qwg s (by omega) (au (Or.inl ad));have hf:Q8 s=(2,(qbp s s.size 0 0).1,(qbp s s.size 0 0).2):=by unfold Q8;rw[if_pos ad]
   rw[List.map_cons,hf];simp only;rw[qho f _ _ (by rw[ae];omega) (by rw[ae];omega),w3]
   conv=>rhs;unfold qbt
   simp only[qvu _ ad];simp[Qn,qdh,w1,w2]
  by_cases ah:qbu (Utf8.decode s 0).1=true
  .obtain⟨w1,w2,w3⟩:=qwv s (by omega) (au (Or.inr ah));have w0:=qwg s (by omega) (au (Or.inr ah));have hf:Q8 s=(1,(qbp s s.size 0 0).1,(qbp s s.size 0 0).2):=by unfold Q8;rw[if_neg ad,if_pos ah]
   rw[List.map_cons,hf];simp only;rw[qho f _ _ (by rw[ae];omega) (by rw[ae];omega),w3]
   conv=>rhs;unfold qbt
   simp only[qp0 _ ah];simp[Qn,qdh,w1,w2]
  by_cases af:Lib.hasPrefix s.data.toList [58,45]=true
  .obtain⟨q1,q2,q3,q4,q5,q6⟩:=q6m s af;have hf:Q8 s=(7,2,2):=by unfold Q8;rw[if_neg ad,if_neg ah,if_pos af]
   rw[List.map_cons,hf];simp only;rw[qho f _ _ (by rw[ae];omega) (by rw[ae];omega),qs3,q1];have b4:=qe6 s 1 (by omega);rw[b4,q2]
   conv=>rhs;unfold qbt
   simp only[q3,q4];simp[Qn,qdh]
  have hf:Q8 s=(qmg (Utf8.decode s 0).1,(Utf8.decode s 0).2,1):=by unfold Q8;rw[if_neg ad,if_neg ah,if_neg af]
  rw[List.map_cons,hf];simp only;rw[qho f _ _ (by rw[ae];omega) (by rw[ae];omega),qs3]
  have bi:q9 (Utf8.decode s 0).1=6->¬((R s (Utf8.decode s 0).2).head?.map (·.kind))=some 7:=by
   intro hk h7
   have cc:(Utf8.decode s 0).1=58:=by
    unfold q9 at hk
    repeat' split at hk
    all_goals first | (cases hk;done) | assumption | omega
   obtain⟨b0,w0⟩:=qhw s 0 (by omega);rw[w0] at h7;by_cases h1:1 < s.size
   .rw[qe6 s 1 h1] at h7;simp at h7;have ca:=Qex _ h7;obtain⟨b1,w1⟩:=qhw s 1 (by omega);exact af (Qb6 s (by omega) (by omega) h1)
   .rw[qil s 1 h1] at h7;simp at h7
  have b8:(Utf8.decode s 0).1 < 128->((s.extract 0 (Utf8.decode s 0).2).get! 0).toNat=(Utf8.decode s 0).1:=by
   intro h;rw[q3p s _ hp (by omega)];exact (qhw s 0 h).1
  conv=>rhs;unfold qbt
  generalize (Utf8.decode s 0).2=wd at *;generalize (Utf8.decode s 0).1=r at *;have bn:qgf r=false:=by simpa using ad
  have b3:qbu r=false:=by simpa using ah
  have Qat:qd9 r=false:=by simpa using ay
  have hk:q9 r=if qku r=true then 3 else if r=40\/r=41\/r=44\/r=46 then 5 else if r=58 then 6 else if r=45 then 7 else 8:=by
   unfold q9;rw[bn,b3,Qat];simp
  by_cases h5:r=40\/r=41\/r=44\/r=46
  .have hd:qku r=false:=by unfold qku;simp only[decide_eq_false_iff_not];omega
   have bd:q9 r=5:=by rw[hk,hd];simp[h5]
   simp only[bd];have hg:=b8 (by omega);rcases h5 with rfl | rfl | rfl | rfl <;> simp[Qn,qdh,qmg,hg]
  .have bh:qmg r=0:=by
    unfold qmg;rw[if_neg (by omega),if_neg (by omega),if_neg (by omega),if_neg (by omega)]
   have bd:q9 r≠1/\q9 r≠2/\q9 r≠5/\q9 r≠4:=by
    rw[hk]
    repeat' split
    all_goals simp
    all_goals omega
   have b6:¬(q9 r=6/\((R s wd).head?.map (·.kind))=some 7):=λhh=>bi hh.1 hh.2;simp only;rw[if_neg (by omega),if_neg (by omega),if_neg b6,if_neg (by omega),bh];simp[Qn,qdh]
theorem qu9(f:α->List Vq)(k:Nat)(hk:∀x,(f x).length=k):∀(l:List α) (j o:Nat) (hj:j < l.length),o < k->(l.flatMap f)[j*k+o]?=(f l[j])[o]?
 | [],j,o,hj,_=>by simp at hj
 | x::l,0,o,hj,ho=>by
  rw[List.flatMap_cons,List.getElem?_append_left (by rw[hk];omega)];simp
 | x::l,j+1,o,hj,ho=>by
  have bo:j < l.length:=by simpa using hj
  have e:(j+1)*k+o=k+(j*k+o):=by rw[Nat.succ_mul];omega
  rw[List.flatMap_cons,List.getElem?_append_right (by rw[hk,e];omega),hk,e,Nat.add_sub_cancel_left];simpa using qu9 f k hk l j o bo ho
theorem qpi(f:α->List Vq)(k:Nat)(hk:∀x,(f x).length=k)(l:List α):(l.flatMap f).length=l.length*k:=by
 induction l with
 | nil=>simp
 | cons x l ih=>rw[List.flatMap_cons,List.length_append,hk,ih,List.length_cons,Nat.succ_mul];omega
theorem qd{n:Nat}{v:Vq}(h:W.ownsRow B T k v n xs):∃a c,v=.slice a n c:=by
 obtain⟨_,⟨hv,hn⟩ | ⟨g,cap,al,hv,_⟩⟩:=h
 .exact⟨none,0,by rw[hv,hn]⟩
 .exact⟨_,_,hv⟩
theorem qb0{v:Vq}{α:Type}{f:α->List Vq}{l:List α}(h:W.ownsRow B T k v l.length (l.flatMap f))(hk:∀x,(f x).length=k)(cd:0 < l.length) :
  ∃g cap,v=Sc g l.length cap/\B<=g/\g < W.heap.size/\l.length<=cap/\∀(j o:Nat) (hj:j < l.length) (u:Vq),o < k->(f l[j])[o]?=some u->W.cell? (Ad g (j*k+o))=some u:=by
 obtain⟨_,⟨hv,hn⟩ | ⟨g,cap,al,hv,hb,hw,h1,h2,h3,h4⟩⟩:=h
 .omega
 .refine⟨g,cap,hv,hb,(zg hw).1,h1,λj o hj u ho hu=>?_⟩;have h5:(al.toList.take (l.length*k))[j*k+o]?=some u:=by rw[h4,qu9 f k hk l j o hj ho,hu]
  have ag:j*k+o < l.length*k:=by
   have:(j+1)*k<=l.length*k:=Nat.mul_le_mul_right k hj;rw[Nat.succ_mul] at this;omega
  rw[List.getElem?_take,if_pos ag] at h5;simp only[World.cell?,hw];simpa using h5
theorem qm{n:Nat}{v:Vq}(h:W.ownsRow B T k v n xs)(hk:∀g,v.ownBlock=some g->g < W.heap.size->W'.heap[g]?=W.heap[g]?):W'.ownsRow B T k v n xs:=by
 obtain⟨h0,⟨hv,hn⟩ | ⟨g,cap,al,hv,hb,hh,h1,h2,h3,h4⟩⟩:=h
 .exact⟨h0,.inl ⟨hv,hn⟩⟩
 .exact⟨h0,.inr ⟨g,cap,al,hv,hb,(hk g (by rw[hv];rfl) (zg hh).1).trans hh,h1,h2,h3,h4⟩⟩
theorem qk{n:Nat}{v:Vq}(h:W.ownsRow B T k v n xs)(hb:Below W.heap.size W W'):W'.ownsRow B T k v n xs:=qm h (λg _ hg=>hb.block g hg)
theorem Qa{B' n:Nat}{v:Vq}(h:W.ownsRow B T k v n xs)(hB:B'<=B):W.ownsRow B' T k v n xs:=by
 obtain⟨h0,⟨hv,hn⟩ | ⟨g,cap,al,hv,hb,hw⟩⟩:=h
 .exact⟨h0,.inl ⟨hv,hn⟩⟩
 .exact⟨h0,.inr ⟨g,cap,al,hv,by omega,hw⟩⟩
theorem qhc(w:Wq)(x y z u:Vq)(t:TypeId):∀j q,[x,y,z,u][j]?=some q->(w.alloc (.cells #[x,y,z,u] t)).cell? ((⟨w.heap.size,0,none⟩:Addr).add j)=some q:=by
 intro j q hj
 match j,hj with
 | 0,hj=>simp at hj;subst hj;simp[Addr.add]
 | 1,hj=>simp at hj;subst hj;simp[Addr.add]
 | 2,hj=>simp at hj;subst hj;simp[Addr.add]
 | 3,hj=>simp at hj;subst hj;simp[Addr.add]
 | j+4,hj=>simp at hj
theorem Qfa(l:List Rn):∀m,m<=(tw l).length->∀hm:m < l.length,l[m].kind<=3->m+1<=(tw l).length:=by
 induction l with
 | nil=>intro m _ hm;simp at hm
 | cons x l ih=>
  intro m h hm hk;unfold tw at h ⊢;rw[List.takeWhile_cons] at h ⊢
  cases m with
  | zero=>rw[if_pos (by simpa using hk)];simp
  | succ m=>
   split at h
   .rename_i hx;rw[if_pos hx];simp only[List.length_cons] at h ⊢;have:=ih m (by unfold tw;omega) (by simpa using hm) (by simpa using hk);unfold tw at this;omega
   .simp at h
theorem q8v(l:List Rn):∀m,m<=(tw l).length->(∀hm:m < l.length,¬l[m].kind<=3)->m=(tw l).length:=by
 induction l with
 | nil=>intro m h _;simpa [tw] using h
 | cons x l ih=>
  intro m h hk
  cases m with
  | zero=>
   have:=hk (by simp);unfold tw;rw[List.takeWhile_cons,if_neg (by simpa using this)];simp
  | succ m=>
   unfold tw at h ⊢;rw[List.takeWhile_cons] at h ⊢;split at h
   .rename_i hx;rw[if_pos hx];simp only[List.length_cons] at h ⊢;have:=ih m (by unfold tw;omega) (λhm=>by have:=hk (by simpa using hm);simpa using this);unfold tw at this;omega
   .simp at h
theorem quq(l:List Rn)(x:Rn):cat (l++[x])=cat l++x.text:=by
 induction l with
 | nil=>
  show x.text++ByteArray.empty=ByteArray.empty++x.text;simp
 | cons y l ih=>simp only[List.cons_append,cat,ih,ByteArray.append_assoc]
theorem qfm:∀(f g:Nat) (l:List Rn) (i:Nat),l.length<=f->l.length<=g->qbt f l i=qbt g l i
 | 0,g,[],i,_,_=>by cases g <;> rfl
 | 0,g,r::l,i,h,_=>by simp at h
 | f+1,0,[],i,_,_=>rfl
 | f+1,0,r::l,i,_,h=>by simp at h
 | f+1,g+1,[],i,_,_=>rfl
 | f+1,g+1,r::l,i,h,h'=>by
  simp only[List.length_cons] at h h';unfold qbt;rw[qfm f g (l.drop (tw l).length) _ (by simp;omega) (by simp;omega),qfm f g l _ (by omega) (by omega),qfm f g (l.drop 1) _ (by simp;omega) (by simp;omega)]
theorem qw2(s:By):∀(f i:Nat),s.size<=i+f->∀r∈R s i,1<=r.text.size/\r.text.size<=4
 | 0,i,h,r,hr=>by rw[qil s i (by omega)] at hr;cases hr
 | f+1,i,h,r,hr=>by
  by_cases hi:i < s.size
  .have hw:=qai s i hi;have hp:=qer s i
   have h4:(Utf8.decode s i).2<=4:=by
    rw[qmi];unfold qak;split
    .decide
    .split
     .decide
     .split <;> decide
   rw[qe6 s i hi] at hr;rcases List.mem_cons.1 hr with rfl | hr
   .have hz:(s.extract i (i+(Utf8.decode s i).2)).size=(Utf8.decode s i).2:=by simp;omega
    simp only;rw[hz];omega
   .exact qw2 s f _ (by omega) r hr
  .rw[qil s i hi] at hr;cases hr
theorem q8b(c:Nat)(w:Wq) :
  Cs 173 #[.int .u8 c] w λe w'=>e=.returned (.int .i64 (qym c))/\w'=w:=by
 go_enter Tryz.func173,Tryz.ntmps173;go_wp2
 all_goals
  go_ret;exact⟨qfl (by unfold qym;(repeat' split) <;> first | rfl | (exfalso;omega) | (simp at *;done) | (exfalso;simp at *;omega)),rfl⟩
theorem qpa(s:By)(i:Nat)(h:i < s.size):s[i].toNat=byN s i:=by
 unfold byN;congr 1;have h':i < s.data.size:=h;show s.data[i]=s.data[i]!;rw[getElem!_pos s.data i h']
theorem qiz(s:By)(i lo hi:Nat)(w:Wq)(hs:s.size<=1048576)(bk:i<=1048576+10) :
  Cs 220 #[.string s,.int .i64 i,.int .u8 lo,.int .u8 hi] w λe w'=>e=.returned (.bool (qfx s i lo hi))/\w'=w:=by
 by_cases ag:i < s.size
 .have hb:=qpa s i ag;go_enter Tryz.func220,Tryz.ntmps220;go_wp2
  all_goals
   go_ret;exact⟨qaj (by rw[Bool.eq_iff_iff];simp only[qfx,decide_eq_true_eq];(try simp) <;> omega),rfl⟩
 .go_enter Tryz.func220,Tryz.ntmps220;go_wp2;go_ret;exact⟨qaj (by rw[Bool.eq_iff_iff];simp only[qfx,decide_eq_true_eq];(try simp) <;> omega),rfl⟩
theorem q02(a b:Nat)(ha:a < 256)(hb:b < 256)(w:Wq) :
  Cs 174 #[.int .u8 a,.int .u8 b] w λe w'=>e=.returned (.int .i64 (qm3 a b))/\w'=w:=by
 go_enter Tryz.func174,Tryz.ntmps174;go_wp2
 all_goals
  go_ret;exact⟨qfl (by unfold qm3;(repeat' split) <;> first | rfl | (exfalso;omega) | (simp at *;done) | (exfalso;simp at *;omega)),rfl⟩
def q58(c:Nat)(a b d:Bool):Nat:=
 if 194<=c/\c<=223/\a=true then 2 else if 224<=c/\c<=239/\a=true/\b=true then 3
 else if 240<=c/\c<=244/\a=true/\b=true/\d=true then 4 else 1
theorem q59(s:By)(i:Nat)(w:Wq)(hs:s.size<=1048576)(hi:i < s.size) :
  Cs 172 #[.string s,.int .i64 i] w λe w'=>e=.returned (.int .i64 (qak s i))/\w'=w:=by
 have hb:=qpa s i hi;have q7:qak s i=q58 (byN s i) (qfx s (i+1) (loB (byN s i)) (hiB (byN s i))) (qfx s (i+2) 128 191) (qfx s (i+3) 128 191):=rfl;have f1:Cs 220 #[.string s,.int .i64 ((i:Int)+1),.int .u8 (loB (byN s i)),.int .u8 (hiB (byN s i))] w λe w'=>e=.returned (.bool (qfx s (i+1) (loB (byN s i)) (hiB (byN s i))))/\w'=w:=qiz s (i+1) _ _ w hs (by omega);have f2:Cs 220 #[.string s,.int .i64 ((i:Int)+2),.int .u8 128,.int .u8 191] w λe w'=>e=.returned (.bool (qfx s (i+2) 128 191))/\w'=w:=qiz s (i+2) _ _ w hs (by omega);have f3:Cs 220 #[.string s,.int .i64 ((i:Int)+3),.int .u8 128,.int .u8 191] w λe w'=>e=.returned (.bool (qfx s (i+3) 128 191))/\w'=w:=qiz s (i+3) _ _ w hs (by omega);rw[q7];clear q7;generalize qfx s (i+1) (loB (byN s i)) (hiB (byN s i))=A at *;generalize qfx s (i+2) 128 191=B at *;generalize qfx s (i+3) 128 191=D at *;have hc:byN s i=224\/byN s i=237\/byN s i=240\/byN s i=244\/(byN s i≠224/\byN s i≠237/\byN s i≠240/\byN s i≠244):=by omega
 generalize byN s i=c at *;rcases hc with rfl | rfl | rfl | rfl | ⟨n1,n2,n3,n4⟩
 case inr.inr.inr.inr=>
  have l1:loB c=128:=by unfold loB;simp[n1,n3]
  have l2:hiB c=191:=by unfold hiB;simp[n2,n4]
  rw[l1,l2] at f1;have m1:((c:Int) == 224)=false:=by simp;omega
  have m2:((c:Int) == 237)=false:=by simp;omega
  have m3:((c:Int) == 240)=false:=by simp;omega
  have m4:((c:Int) == 244)=false:=by simp;omega
  clear n1 n2 n3 n4;go_enter Tryz.func172,Tryz.ntmps172;go_wp2_with fail;refine f1.mono ?_;rintro e w' ⟨rfl,rfl⟩;go_wp2_with fail;refine f2.mono ?_;rintro e w' ⟨rfl,rfl⟩;go_wp2_with fail;refine f3.mono ?_;rintro e w' ⟨rfl,rfl⟩;go_wp2
  all_goals
   go_ret;exact⟨qfl (by unfold q58;(repeat' split) <;> first | rfl | (exfalso;simp_all;done) | (exfalso;simp_all;omega)),rfl⟩
 all_goals
  simp only[loB,hiB] at f1;go_enter Tryz.func172,Tryz.ntmps172;go_wp2_with fail;refine f1.mono ?_;rintro e w' ⟨rfl,rfl⟩;go_wp2_with fail;refine f2.mono ?_;rintro e w' ⟨rfl,rfl⟩;go_wp2_with fail;refine f3.mono ?_;rintro e w' ⟨rfl,rfl⟩;go_wp2
  all_goals
   go_ret;exact⟨qfl (by unfold q58;(repeat' split) <;> first | rfl | (exfalso;simp_all;done) | (exfalso;simp_all;omega)),rfl⟩
theorem qu{a w:Wq}(h:Below B a w){q:Nat}:Below B a (w.drewN q):=⟨h.os,h.tape,h.output,h.size,h.block⟩
def rnC(r:Rn):List Vq:=[.int .i64 r.kind,.string r.text]
theorem Tryz.infoRn:(Tryz.prog.info? 295).map (λi=>(i.zero,i.size,i.bytes))=some (some (.agg #[.int .i64 0,.string ⟨#[]⟩]),2,24):=by kernel_rfl
theorem qei(w:Wq)(x y:Vq)(t:TypeId):∀j u,[x,y][j]?=some u->(w.alloc (.cells #[x,y] t)).cell? ((⟨w.heap.size,0,none⟩:Addr).add j)=some u:=by
 intro j u hj
 match j,hj with
 | 0,hj=>simp at hj;subst hj;simp[Addr.add]
 | 1,hj=>simp at hj;subst hj;simp[Addr.add]
 | j+2,hj=>simp at hj
theorem q8l{w wr X w1:Wq}{v v':Vq}{pre:List Rn}{t:By}(hb:Below B w X)(hX:B<=X.heap.size)(qq:wr.ownsRow B 295 2 v pre.length (pre.flatMap rnC))(b5:w1.ownsRow B 295 2 v' (pre.length+1) (pre.flatMap rnC++[.int .i64 k,.string t]))(hg:X.grownBy w1 v.ownBlock) :
  w1.ownsRow B 295 2 v' (pre++[Rn.mk k t]).length ((pre++[Rn.mk k t]).flatMap rnC)/\Below B w w1:=by
 refine⟨?_,hb.grown hg hX (λk hk=>(qq.lt k hk).1)⟩;simpa [rnC] using b5
theorem qnj(s:By)(w:Wq)(hs:s.size<=1048576) :
  Cs 106 #[.string s] w λe w'=>∃v,e=.returned v/\w'.ownsRow w.heap.size 295 2 v (R s 0).length ((R s 0).flatMap rnC)/\Below w.heap.size w w':=by
 obtain⟨i0,hi,az,a6,a8⟩:=info_parts Tryz.infoRn;obtain⟨B,hB⟩:∃B,B=w.heap.size:=⟨_,rfl⟩;have b7:B<=w.heap.size:=by omega
 have HB:Hid (w.heap.size=B):=hB.symm;rw[<- hB];clear hB;go_enter Tryz.func106,Tryz.ntmps106;go_wp2
 go_loopw [3,4] (λv a wr=>∃(i:Nat) (pre:List Rn) (v1:Vq),v1=v/\a=.int .i64 i/\i<=s.size/\pre++R s i=R s 0/\pre.length<=i/\wr.ownsRow B 295 2 v1 pre.length (pre.flatMap rnC)/\Below B w wr)
  (λ_ a _=>s.size - (intOf a).toNat)
 case atStart=>exact⟨0,[],_,rfl,rfl,zz,rfl,Nat.le_refl _,zo,zr⟩
 case round=>
  obtain⟨i,pre,v,rfl,rfl,cb,af,ce,qq,ap⟩:=hrel;by_cases ag:i < s.size
  .have an:=q5a s i;have be:=qmi s i;have bt:=qai s i ag;have bu:=qer s i;have aw:=qe6 s i ag;have hb:=qpa s i ag;rw[be] at bt bu aw;rw[<- an] at aw;clear be an;have ae:=q59 s i wr hs ag;have HC:Hid (R s i=⟨qdl s i,s.extract i (i+qak s i)⟩::R s (i+qak s i)):=aw;clear aw;have av:Hid (qak s i=1->qdl s i=qym (byN s i)):=λh=>by unfold qdl;rw[if_pos h]
   have ao:Hid (qak s i=2->qdl s i=qm3 (byN s i) (byN s (i+1))):=λh=>by unfold qdl;rw[if_neg (by omega),if_pos h]
   have aq:Hid (qak s i≠1->qak s i≠2->qdl s i=8):=λh h'=>by unfold qdl;rw[if_neg h,if_neg h']
   have q7:Hid (∀(v':Vq) (w1:Wq) (kd:Nat) (X:Wq),kd=qdl s i->Below B w X->B<=X.heap.size->w1.ownsRow B 295 2 v' (pre.length+1) (pre.flatMap rnC++[.int .i64 kd,.string (s.extract i (i+qak s i))])->X.grownBy w1 v.ownBlock->
     ∃ac:List Rn,ac++R s (i+qak s i)=R s 0/\ac.length<=i+qak s i/\w1.ownsRow B 295 2 v' ac.length (ac.flatMap rnC)/\Below B w w1):=by
    intro v' w1 kd X an bq bv ho hg;subst an;obtain⟨a1,a2⟩:=q8l bq bv qq ho hg;exact⟨pre++[⟨qdl s i,s.extract i (i+qak s i)⟩],by rw[<- af,HC.out];simp,by simp;omega,a1,a2⟩
   clear HC af;have a7:B<=wr.heap.size:=Nat.le_trans b7 ap.size;have aj:Hid (Below B w wr):=ap;clear ap;generalize qak s i=n at *;generalize qdl s i=kd at *;have bc:pre.length+1<=maxLen:=by unfold maxLen;omega
   have a9:(pre.length+1)*24<=140737488355328:=by omega
   have ak:∀o,B<=(wr.alloc o).heap.size:=λo=>by simp;omega
   have bb:∀(k:Nat) (t:By),∀u∈[Value.int .i64 k,.string t],u.oneCell'=true:=λk t=>by simp[Value.oneCell']
   by_cases h1:n=1
   .subst h1;have am:=av.out rfl;subst am;clear av ao aq;have bj:=q8b (byN s i) wr;generalize qym (byN s i)=kd at *
    go_wp2_with (first
     | (go_at_call 172;refine ae.mono ?_;rintro e w' ⟨rfl,ai⟩;obtain rfl:wr=w':=ai.symm)
     | (go_at_call 173;refine bj.mono ?_;rintro e w' ⟨rfl,ai⟩;obtain rfl:wr=w':=ai.symm)
     | (at_builtin;refine wpList_append_own _ rfl (.tmp 30) (.tmp 39) 207 rfl B 295 i0 (.agg #[.int .i64 0,.string ⟨#[]⟩]) 2 24 Tryz.underlying207 hi az a6 a8 rfl (by decide) _ _ _ rfl (qq.alloc _) ⟨wr.heap.size,0,none⟩ 1 1 [.int .i64 kd,.string (s.extract i (i+1))] rfl rfl (qei _ _ _ _) (bb _ _) bc a9 (ak _) ?_;intro v' w1 ab aa _))
    obtain⟨ac,q1,q2,q3,q4⟩:=q7.out v' w1 kd _ rfl (aj.out.alloc a7 _) (ak _) ab aa;clear ab aa q7 qq aj
    go_roundw
    case rel=>exact⟨i+1,ac,v',rfl,by go_num,by omega,q1,q2,q3,q4⟩
    case measure=>simp[intOf];omega
   by_cases h2:n=2
   .subst h2;have am:=ao.out rfl;subst am;clear av ao aq h1;have b9:=qpa s (i+1) (by omega);have bf:=q02 (byN s i) (byN s (i+1)) (qgu _ _) (qgu _ _);generalize qm3 (byN s i) (byN s (i+1))=kd at *;have i1:i+1 < s.size:=by omega
    go_wp2_with (first
     | (go_at_call 172;refine ae.mono ?_;rintro e w' ⟨rfl,ai⟩;obtain rfl:wr=w':=ai.symm))
    go_quiet ((go_at_call 174;exact Calls.quiet_of_same (bf _)))
    go_wp2_with (first
     | (at_builtin;refine wpList_append_own _ rfl (.tmp 30) (.tmp 39) 207 rfl B 295 i0 (.agg #[.int .i64 0,.string ⟨#[]⟩]) 2 24 Tryz.underlying207 hi az a6 a8 rfl (by decide) _ _ _ rfl (World.ownsRow.alloc qq _) ⟨wr.heap.size,0,none⟩ 1 1 [.int .i64 kd,.string (s.extract i (i+2))] rfl rfl (qei _ _ _ _) (bb _ _) bc a9 (ak _) ?_;intro v' w1 ab aa _))
    obtain⟨ac,q1,q2,q3,q4⟩:=q7.out v' w1 kd _ rfl ((qu aj.out).alloc a7 _) (ak _) ab aa;clear ab aa q7 qq aj
    go_roundw
    case rel=>exact⟨i+2,ac,v',rfl,by go_num,by omega,q1,q2,q3,q4⟩
    case measure=>simp[intOf];omega
   .have am:=aq.out h1 h2;subst am;clear av ao aq;have m1:((n:Int) == 1)=false:=by simp;omega
    have m2:((n:Int) == 2)=false:=by simp;omega
    go_wp2_with (first
     | (go_at_call 172;refine ae.mono ?_;rintro e w' ⟨rfl,ai⟩;obtain rfl:wr=w':=ai.symm)
     | (at_builtin;refine wpList_append_own _ rfl (.tmp 30) (.tmp 39) 207 rfl B 295 i0 (.agg #[.int .i64 0,.string ⟨#[]⟩]) 2 24 Tryz.underlying207 hi az a6 a8 rfl (by decide) _ _ _ rfl (qq.alloc _) ⟨wr.heap.size,0,none⟩ 1 1 [.int .i64 ((8:Nat):Int),.string (s.extract i (i+n))] rfl rfl (qei _ _ _ _) (bb _ _) bc a9 (ak _) ?_;intro v' w1 ab aa _))
    obtain⟨ac,q1,q2,q3,q4⟩:=q7.out v' w1 8 _ rfl (aj.out.alloc a7 _) (ak _) ab aa;clear ab aa q7 qq aj
    go_roundw
    case rel=>exact⟨i+n,ac,v',rfl,by go_num,by omega,q1,q2,q3,q4⟩
    case measure=>simp[intOf];omega
  .rw[qil s i ag] at af;simp only[List.append_nil] at af;subst af;go_wp2;go_ret;exact⟨v,rfl,qq,ap⟩
