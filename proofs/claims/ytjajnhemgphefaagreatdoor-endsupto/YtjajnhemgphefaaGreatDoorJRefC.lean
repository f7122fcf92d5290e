/- The document's own answer: the runes of a text, in a row of -/
import Derived.Test.YtjajnhemgphefaaGreatDoorJAll
import Derived.BigQuiet
set_option linter.unusedVariables false
set_option linter.unusedSimpArgs false
set_option maxRecDepth 100000
set_option maxHeartbeats 4000000
namespace Go.Proofs.YtjajnhemgphefaaGreatDoor
open Go renaming World->Wq,Value->Vq
open Go.RowKit Go.Shelf
variable {α:Type} {W W':Wq} {B T k:Nat} {xs:List Vq}
structure RT where
 kind:Int
 text:ByteArray
 place:Nat
 runes:Nat
def cat:List Rn->ByteArray
 | []=>⟨#[]⟩
 | x::l=>x.text++cat l
def qbs:Nat->List Rn->Nat->List RT
 | 0,_,_=>[]
 | f+1,[],_=>[]
 | f+1,r::l,i=>
  if r.kind=1\/r.kind=2 then ⟨r.kind,r.text++cat (tw l),i,1+(tw l).length⟩::qbs f (l.drop (tw l).length) (i+(1+(tw l).length))
  else if r.kind=5 then ⟨((r.text.get! 0).toNat:Int),r.text,i,1⟩::qbs f l (i+1)
  else if r.kind=6/\(l.head?.map (·.kind))=some 7 then ⟨3,⟨#[]⟩,i,2⟩::qbs f (l.drop 1) (i+2)
  else if r.kind=4 then qbs f l (i+1)
  else ⟨5,r.text,i,1⟩::qbs f l (i+1)
def qc6(k:Int):Int:=
 if k=1 then 1 else if k=2 then 2 else if k=7 then 3 else if k=3 then 40 else if k=4 then 41 else if k=5 then 44 else if k=6 then 46 else 5
def Qo(t:Tok):RT:=⟨qc6 t.kind,if t.kind=7 then ⟨#[]⟩ else t.text,t.place,t.runes⟩
theorem quh(s:ByteArray)(i j k:Nat)(h1:i<=j)(h2:j<=k)(h3:k<=s.size):s.extract i j++s.extract j k=s.extract i k:=by
 apply ByteArray.ext;rw[ByteArray.data_append];simp only[ByteArray.data_extract];rw[Array.extract_append_extract];congr 1 <;> omega
theorem q18(s:ByteArray):∀(k i:Nat),k<=(R s i).length->i<=s.size->cat ((R s i).take k)=s.extract i (i+qjy ((R s i).take k))/\i+qjy ((R s i).take k)<=s.size
 | 0,i,_,hi=>by
  refine⟨?_,by simpa [qjy] using hi⟩;simp only[List.take_zero,cat,qjy,Nat.add_zero];apply ByteArray.ext;simp
 | k+1,i,h,hi'=>by
  by_cases hi:i < s.size
  ·have hw:=qai s i hi;have hc:=qew s i hi;rw[hc] at h ⊢;rw[List.take_succ_cons];have hz:(s.extract i (i+(Utf8.decode s i).2)).size=(Utf8.decode s i).2:=by simp;omega
   have ih:=q18 s k (i+(Utf8.decode s i).2) (by simpa using h) hw;simp only[qjy,hz,cat];rw[ih.1,<- Nat.add_assoc];exact⟨quh s _ _ _ (by omega) (by omega) ih.2,ih.2⟩
  ·rw[qia s i hi] at h;simp at h
theorem qgj(l:List Rn):tw l=l.take (tw l).length:=by
 unfold tw
 induction l with
 | nil=>rfl
 | cons x l ih=>
  rw[List.takeWhile_cons];split
  ·simp only[List.length_cons,List.take_succ_cons];rw[<- ih]
  ·simp
theorem qzc(l:List Rn):(tw l).length<=l.length:=by
 have:=congrArg List.length (qgj l);rw[List.length_take] at this;omega
theorem qpf(r:Nat)(h:qbu r=true):q7 r=1:=by unfold q7;rw[if_pos h]
theorem qu8(r:Nat)(h:qf4 r=true):q7 r=2:=by
 have h2:qbu r=false:=by
  unfold qf4 at h;unfold qbu;simp only[decide_eq_true_eq] at h;simp only[decide_eq_false_iff_not];omega
 unfold q7;rw[if_neg (by simp[h2]),if_pos h]
theorem qxr(r:Nat)(h:qd4 r=true):q7 r=4:=by
 unfold qd4 at h;simp only[decide_eq_true_eq] at h;unfold q7 qbu qf4 qki qd4;simp only[decide_eq_true_eq];rw[if_neg (by omega),if_neg (by omega),if_neg (by omega),if_pos (by omega)]
theorem qv8(s:ByteArray)(h:0 < s.size)(hw:q7 (Utf8.decode s 0).1<=3) :
  (qbo s s.size 0 0).2=1+(tw (R s (Utf8.decode s 0).2)).length/\
  s.extract 0 (qbo s s.size 0 0).1=s.extract 0 (Utf8.decode s 0).2++cat (tw (R s (Utf8.decode s 0).2))/\
  R (s.extract (qbo s s.size 0 0).1 s.size) 0=(R s (Utf8.decode s 0).2).drop (tw (R s (Utf8.decode s 0).2)).length:=by
 have hc:=qew s 0 h;rw[Nat.zero_add] at hc;have hwd:=qai s 0 h;rw[Nat.zero_add] at hwd
 have ht:tw (R s 0)=⟨q7 (Utf8.decode s 0).1,s.extract 0 (Utf8.decode s 0).2⟩::tw (R s (Utf8.decode s 0).2):=by
  rw[hc];unfold tw;rw[List.takeWhile_cons,if_pos (by simpa using hw)]
 have hz:(s.extract 0 (Utf8.decode s 0).2).size=(Utf8.decode s 0).2:=by simp;omega
 have hs:=qkx s s.size 0 0 (by omega);rw[ht] at hs;simp only[qjy,hz,List.length_cons,Nat.zero_add] at hs;have h1:=q18 s (tw (R s (Utf8.decode s 0).2)).length (Utf8.decode s 0).2 (qzc _) hwd;rw[<- qgj] at h1;have h2:=q17 s (tw (R s (Utf8.decode s 0).2)).length (Utf8.decode s 0).2 (qzc _);rw[<- qgj] at h2;rw[hs];refine⟨by simp only;omega,?_,?_⟩
 ·rw[h1.1,quh s _ _ _ (by omega) (by omega) h1.2]
 ·rw[qsd];exact h2
theorem q86(s:ByteArray)(n:Nat)(h:s.size<=1200):(s.extract 0 n).size<=1200:=by simp;omega
theorem qvu(s:ByteArray)(h:0 < s.size)(hw:q7 (Utf8.decode s 0).1<=3):0 < (qbo s s.size 0 0).1:=by
 have hc:=qew s 0 h;rw[Nat.zero_add] at hc;have hp:=qen s 0;have hwd:=qai s 0 h;have hs:=qkx s s.size 0 0 (by omega)
 have ht:tw (R s 0)=⟨q7 (Utf8.decode s 0).1,s.extract 0 (Utf8.decode s 0).2⟩::tw (R s (Utf8.decode s 0).2):=by
  rw[hc];unfold tw;rw[List.takeWhile_cons,if_pos (by simpa using hw)]
 have hz:(s.extract 0 (Utf8.decode s 0).2).size=(Utf8.decode s 0).2:=by simp;omega
 rw[ht] at hs;simp only[qjy,hz] at hs;rw[hs];simp only;omega
theorem q5i(s:ByteArray)(h:Lib.hasPrefix s.data.toList [58,45]=true):(Utf8.decode s 0).2=1/\(Utf8.decode s 1).2=1/\q7 (Utf8.decode s 0).1=6/\q7 (Utf8.decode s 1).1=7/\2<=s.size/\True:=by
 have h1:[58,45] <+: s.data.toList:=by simpa [Lib.hasPrefix] using h
 obtain⟨t,ht⟩:=h1;have hl:s.data.toList.length=s.size:=Array.length_toList;have hz:2<=s.size:=by rw[<- hl,<- ht];simp
 have b0:byN s 0=58:=by
  have:s.data.toList[0]?=some 58:=by rw[<- ht];rfl
  rw[Array.getElem?_toList] at this;simp[byN,ByteArray.get!,getElem!_def,this]
 have b1:byN s 1=45:=by
  have:s.data.toList[1]?=some 45:=by rw[<- ht];rfl
  rw[Array.getElem?_toList] at this;simp[byN,ByteArray.get!,getElem!_def,this]
 have d0:=qfk s 0;have d1:=qfk s 1;rw[b0,if_pos (by decide)] at d0;rw[b1,if_pos (by decide)] at d1;rw[d0,d1];exact⟨rfl,rfl,by decide,by decide,hz,trivial⟩
theorem Qdw(s:ByteArray)(i:Nat)(h:qal s i=2):194<=byN s i/\byN s i<=223:=by
 apply Classical.byContradiction;intro hn;unfold qal at h;rw[if_neg (by omega)] at h;split at h
 ·cases h
 ·split at h <;> cases h
theorem qhn(s:ByteArray)(i:Nat)(h:(Utf8.decode s i).1 < 128):byN s i=(Utf8.decode s i).1/\(Utf8.decode s i).2=1:=by
 have hd:=qfk s i;by_cases k0:byN s i < 128
 ·rw[if_pos k0] at hd;rw[hd];exact⟨rfl,rfl⟩
 rw[if_neg k0] at hd;exfalso;by_cases h2:qal s i=2
 ·have:=Qdw s i h2;rw[if_pos h2] at hd;rw[hd] at h;simp only at h;omega
 rw[if_neg h2] at hd;by_cases h3:qal s i=3
 ·have:=q8k s i h3;rw[if_pos h3] at hd;rw[hd] at h;simp only at h;omega
 rw[if_neg h3] at hd;by_cases h4:qal s i=4
 ·have:=q8l s i h4;rw[if_pos h4] at hd;rw[hd] at h;simp only at h;omega
 rw[if_neg h4] at hd;rw[hd] at h;simp only at h;omega
theorem Qdl(r:Nat)(h:q7 r=7):r=45:=by
 unfold q7 at h
 repeat' split at h
 all_goals first | (cases h;done) | assumption | omega
theorem Qak(s:ByteArray)(h0:byN s 0=58)(h1:byN s 1=45)(h2:1 < s.size):Lib.hasPrefix s.data.toList [58,45]=true:=by
 have hl:s.data.toList.length=s.size:=Array.length_toList
 have g0:s.data.toList[0]?=some 58:=by
  rw[Array.getElem?_toList];have e:s.data[0]?=some (s.data[0]'(by show 0 < s.size;omega)):=by simp
  rw[e];have:byN s 0=(s.data[0]'(by show 0 < s.size;omega)).toNat:=by simp[byN,ByteArray.get!,getElem!_def,e]
  rw[h0] at this;congr 1;exact UInt8.toNat.inj (by rw[<- this];rfl)
 have g1:s.data.toList[1]?=some 45:=by
  rw[Array.getElem?_toList];have e:s.data[1]?=some (s.data[1]'(by show 1 < s.size;omega)):=by simp
  rw[e];have:byN s 1=(s.data[1]'(by show 1 < s.size;omega)).toNat:=by simp[byN,ByteArray.get!,getElem!_def,e]
  rw[h1] at this;congr 1;exact UInt8.toNat.inj (by rw[<- this];rfl)
 generalize s.data.toList=l at *
 cases l with
 | nil=>simp at g0
 | cons a l=>
  cases l with
  | nil=>simp at g1
  | cons b l=>
   simp at g0 g1;subst g0 g1;simp[Lib.hasPrefix]
theorem q2s(s:ByteArray)(n:Nat)(h:0 < n)(h':0 < s.size):((s.extract 0 n).get! 0).toNat=byN s 0:=by
 unfold byN
 have:(s.extract 0 n).data[0]?=s.data[0]?:=by
  rw[ByteArray.data_extract,Array.getElem?_extract];have hz:s.data.size=s.size:=rfl;rw[if_pos (by rw[hz];omega)]
 simp only[ByteArray.get!,getElem!_def];rw[this]
theorem qhi:∀(f:Nat) (s:ByteArray) (p:Nat),s.size<=f->s.size<=1200->(qch f s p).map Qo=qbs f (R s 0) p
 | 0,s,p,h,_=>rfl
 | f+1,s,p,h,hb=>by
  by_cases h0:s.size=0
  ·rw[qqe _ _ _ h0,qia s 0 (by omega)];rfl
  have hp:=qen s 0;have hc:=qew s 0 (by omega);rw[Nat.zero_add] at hc;have hwd:=qai s 0 (by omega);have hsz:∀n,(s.extract n s.size).size=s.size - n:=λn=>by simp
  rw[hc]
  conv=>lhs;unfold qch
  rw[if_neg h0];by_cases hbl:qd4 (Utf8.decode s 0).1=true
  ·rw[if_pos hbl,qhi f _ _ (by rw[hsz];omega) (by rw[hsz];omega),qsd]
   conv=>rhs;unfold qbs
   simp only[qxr _ hbl];simp
  rw[if_neg hbl,dif_pos (q86 s _ hb)]
  have hw3:qf4 (Utf8.decode s 0).1=true\/qbu (Utf8.decode s 0).1=true->q7 (Utf8.decode s 0).1<=3:=by
   rintro (h | h)
   ·rw[qu8 _ h];decide
   ·rw[qpf _ h];decide
  by_cases qer:qf4 (Utf8.decode s 0).1=true
  ·obtain⟨w1,w2,w3⟩:=qv8 s (by omega) (hw3 (Or.inl qer));have w0:=qvu s (by omega) (hw3 (Or.inl qer));have hf:Q6 s=(2,(qbo s s.size 0 0).1,(qbo s s.size 0 0).2):=by unfold Q6;rw[if_pos qer]
   rw[List.map_cons,hf];simp only;rw[qhi f _ _ (by rw[hsz];omega) (by rw[hsz];omega),w3]
   conv=>rhs;unfold qbs
   simp only[qu8 _ qer];simp[Qo,qc6,w1,w2]
  by_cases hsm:qbu (Utf8.decode s 0).1=true
  ·obtain⟨w1,w2,w3⟩:=qv8 s (by omega) (hw3 (Or.inr hsm));have w0:=qvu s (by omega) (hw3 (Or.inr hsm));have hf:Q6 s=(1,(qbo s s.size 0 0).1,(qbo s s.size 0 0).2):=by unfold Q6;rw[if_neg qer,if_pos hsm]
   rw[List.map_cons,hf];simp only;rw[qhi f _ _ (by rw[hsz];omega) (by rw[hsz];omega),w3]
   conv=>rhs;unfold qbs
   simp only[qpf _ hsm];simp[Qo,qc6,w1,w2]
  by_cases qiu:Lib.hasPrefix s.data.toList [58,45]=true
  ·obtain⟨q1,q2,q3,q4,q5,q6⟩:=q5i s qiu;have hf:Q6 s=(7,2,2):=by unfold Q6;rw[if_neg qer,if_neg hsm,if_pos qiu]
   rw[List.map_cons,hf];simp only;rw[qhi f _ _ (by rw[hsz];omega) (by rw[hsz];omega),qsd,q1];have hc1:=qew s 1 (by omega);rw[hc1,q2]
   conv=>rhs;unfold qbs
   simp only[q3,q4];simp[Qo,qc6]
  have hf:Q6 s=(ql0 (Utf8.decode s 0).1,(Utf8.decode s 0).2,1):=by unfold Q6;rw[if_neg qer,if_neg hsm,if_neg qiu]
  rw[List.map_cons,hf];simp only;rw[qhi f _ _ (by rw[hsz];omega) (by rw[hsz];omega),qsd]
  have r58:q7 (Utf8.decode s 0).1=6->¬((R s (Utf8.decode s 0).2).head?.map (·.kind))=some 7:=by
   intro hk h7
   have h58:(Utf8.decode s 0).1=58:=by
    unfold q7 at hk
    repeat' split at hk
    all_goals first | (cases hk;done) | assumption | omega
   obtain⟨b0,w0⟩:=qhn s 0 (by omega);rw[w0] at h7;by_cases h1:1 < s.size
   ·rw[qew s 1 h1] at h7;simp at h7;have h45:=Qdl _ h7;obtain⟨b1,w1⟩:=qhn s 1 (by omega);exact qiu (Qak s (by omega) (by omega) h1)
   ·rw[qia s 1 h1] at h7;simp at h7
  have hsg:(Utf8.decode s 0).1 < 128->((s.extract 0 (Utf8.decode s 0).2).get! 0).toNat=(Utf8.decode s 0).1:=by
   intro h;rw[q2s s _ hp (by omega)];exact (qhn s 0 h).1
  conv=>rhs;unfold qbs
  generalize (Utf8.decode s 0).2=wd at *;generalize (Utf8.decode s 0).1=r at *;have qli:qf4 r=false:=by simpa using qer
  have qxi:qbu r=false:=by simpa using hsm
  have q9c:qd4 r=false:=by simpa using hbl
  have hk:q7 r=if qki r=true then 3 else if r=40\/r=41\/r=44\/r=46 then 5 else if r=58 then 6 else if r=45 then 7 else 8:=by
   unfold q7;rw[qli,qxi,q9c];simp
  by_cases h5:r=40\/r=41\/r=44\/r=46
  ·have hd:qki r=false:=by unfold qki;simp only[decide_eq_false_iff_not];omega
   have hk5:q7 r=5:=by rw[hk,hd];simp[h5]
   simp only[hk5];have hg:=hsg (by omega);rcases h5 with rfl | rfl | rfl | rfl <;> simp[Qo,qc6,ql0,hg]
  ·have hs0:ql0 r=0:=by
    unfold ql0;rw[if_neg (by omega),if_neg (by omega),if_neg (by omega),if_neg (by omega)]
   have hk5:q7 r≠1/\q7 r≠2/\q7 r≠5/\q7 r≠4:=by
    rw[hk]
    repeat' split
    all_goals simp
    all_goals omega
   have h67:¬(q7 r=6/\((R s wd).head?.map (·.kind))=some 7):=λhh=>r58 hh.1 hh.2;simp only;rw[if_neg (by omega),if_neg (by omega),if_neg h67,if_neg (by omega),hs0];simp[Qo,qc6]
theorem qup(f:α->List Vq)(k:Nat)(hk:∀x,(f x).length=k):∀(l:List α) (j o:Nat) (hj:j < l.length),o < k->(l.flatMap f)[j*k+o]?=(f l[j])[o]?
 | [],j,o,hj,_=>by simp at hj
 | x::l,0,o,hj,ho=>by
  rw[List.flatMap_cons,List.getElem?_append_left (by rw[hk];omega)];simp
 | x::l,j+1,o,hj,ho=>by
  have hj':j < l.length:=by simpa using hj
  have e:(j+1)*k+o=k+(j*k+o):=by rw[Nat.succ_mul];omega
  rw[List.flatMap_cons,List.getElem?_append_right (by rw[hk,e];omega),hk,e,Nat.add_sub_cancel_left];simpa using qup f k hk l j o hj' ho
theorem qow(f:α->List Vq)(k:Nat)(hk:∀x,(f x).length=k)(l:List α):(l.flatMap f).length=l.length*k:=by
 induction l with
 | nil=>simp
 | cons x l ih=>rw[List.flatMap_cons,List.length_append,hk,ih,List.length_cons,Nat.succ_mul];omega
theorem qd{n:Nat}{v:Vq}(h:W.ownsRow B T k v n xs):∃a c,v=.slice a n c:=by
 obtain⟨_,⟨hv,hn⟩ | ⟨g,cap,cur,hv,_⟩⟩:=h
 ·exact⟨none,0,by rw[hv,hn]⟩
 ·exact⟨_,_,hv⟩
theorem qbq{v:Vq}{f:α->List Vq}{l:List α}(h:W.ownsRow B T k v l.length (l.flatMap f))(hk:∀x,(f x).length=k)(hne:0 < l.length) :
  ∃g cap,v=.slice (some ⟨g,0,none⟩) l.length cap/\B<=g/\g < W.heap.size/\l.length<=cap/\∀(j o:Nat) (hj:j < l.length) (u:Vq),o < k->(f l[j])[o]?=some u->W.cell? ⟨g,j*k+o,none⟩=some u:=by
 obtain⟨_,⟨hv,hn⟩ | ⟨g,cap,cur,hv,hb,hw,h1,h2,h3,h4⟩⟩:=h
 ·omega
 ·refine⟨g,cap,hv,hb,(zg hw).1,h1,λj o hj u ho hu=>?_⟩;have h5:(cur.toList.take (l.length*k))[j*k+o]?=some u:=by rw[h4,qup f k hk l j o hj ho,hu]
  have hlt:j*k+o < l.length*k:=by
   have:(j+1)*k<=l.length*k:=Nat.mul_le_mul_right k hj;rw[Nat.succ_mul] at this;omega
  rw[List.getElem?_take,if_pos hlt] at h5;simp only[World.cell?,hw];simpa using h5
theorem qm{n:Nat}{v:Vq}(h:W.ownsRow B T k v n xs)(hk:∀g,v.ownBlock=some g->g < W.heap.size->W'.heap[g]?=W.heap[g]?):W'.ownsRow B T k v n xs:=by
 obtain⟨h0,⟨hv,hn⟩ | ⟨g,cap,cur,hv,hb,hh,h1,h2,h3,h4⟩⟩:=h
 ·exact⟨h0,.inl ⟨hv,hn⟩⟩
 ·exact⟨h0,.inr ⟨g,cap,cur,hv,hb,(hk g (by rw[hv];rfl) (zg hh).1).trans hh,h1,h2,h3,h4⟩⟩
theorem qk{n:Nat}{v:Vq}(h:W.ownsRow B T k v n xs)(hb:Below W.heap.size W W'):W'.ownsRow B T k v n xs:=qm h (λg _ hg=>hb.block g hg)
theorem Qm{B' n:Nat}{v:Vq}(h:W.ownsRow B T k v n xs)(hB:B'<=B):W.ownsRow B' T k v n xs:=by
 obtain⟨h0,⟨hv,hn⟩ | ⟨g,cap,cur,hv,hb,hw⟩⟩:=h
 ·exact⟨h0,.inl ⟨hv,hn⟩⟩
 ·exact⟨h0,.inr ⟨g,cap,cur,hv,by omega,hw⟩⟩
theorem qg5(w:Wq)(x y z u:Vq)(t:TypeId):∀j q,[x,y,z,u][j]?=some q->(w.alloc (.cells #[x,y,z,u] t)).cell? ((⟨w.heap.size,0,none⟩:Addr).add j)=some q:=by
 intro j q hj
 match j,hj with
 | 0,hj=>simp at hj;subst hj;simp[Addr.add]
 | 1,hj=>simp at hj;subst hj;simp[Addr.add]
 | 2,hj=>simp at hj;subst hj;simp[Addr.add]
 | 3,hj=>simp at hj;subst hj;simp[Addr.add]
 | j+4,hj=>simp at hj
theorem Qd5(l:List Rn):∀m,m<=(tw l).length->∀hm:m < l.length,l[m].kind<=3->m+1<=(tw l).length:=by
 induction l with
 | nil=>intro m _ hm;simp at hm
 | cons x l ih=>
  intro m h hm hk;unfold tw at h ⊢;rw[List.takeWhile_cons] at h ⊢
  cases m with
  | zero=>rw[if_pos (by simpa using hk)];simp
  | succ m=>
   split at h
   ·rename_i hx;rw[if_pos hx];simp only[List.length_cons] at h ⊢;have:=ih m (by unfold tw;omega) (by simpa using hm) (by simpa using hk);unfold tw at this;omega
   ·simp at h
theorem q7g(l:List Rn):∀m,m<=(tw l).length->(∀hm:m < l.length,¬l[m].kind<=3)->m=(tw l).length:=by
 induction l with
 | nil=>intro m h _;simpa [tw] using h
 | cons x l ih=>
  intro m h hk
  cases m with
  | zero=>
   have:=hk (by simp);unfold tw;rw[List.takeWhile_cons,if_neg (by simpa using this)];simp
  | succ m=>
   unfold tw at h ⊢;rw[List.takeWhile_cons] at h ⊢;split at h
   ·rename_i hx;rw[if_pos hx];simp only[List.length_cons] at h ⊢;have:=ih m (by unfold tw;omega) (λhm=>by have:=hk (by simpa using hm);simpa using this);unfold tw at this;omega
   ·simp at h
theorem qt3(l:List Rn)(x:Rn):cat (l++[x])=cat l++x.text:=by
 induction l with
 | nil=>
  show x.text++ByteArray.empty=ByteArray.empty++x.text;simp
 | cons y l ih=>simp only[List.cons_append,cat,ih,ByteArray.append_assoc]
theorem qfb:∀(f g:Nat) (l:List Rn) (i:Nat),l.length<=f->l.length<=g->qbs f l i=qbs g l i
 | 0,g,[],i,_,_=>by cases g <;> rfl
 | 0,g,r::l,i,h,_=>by simp at h
 | f+1,0,[],i,_,_=>rfl
 | f+1,0,r::l,i,_,h=>by simp at h
 | f+1,g+1,[],i,_,_=>rfl
 | f+1,g+1,r::l,i,h,h'=>by
  simp only[List.length_cons] at h h';unfold qbs;rw[qfb f g (l.drop (tw l).length) _ (by simp;omega) (by simp;omega),qfb f g l _ (by omega) (by omega),qfb f g (l.drop 1) _ (by simp;omega) (by simp;omega)]
theorem qwg(s:ByteArray):∀(f i:Nat),s.size<=i+f->∀r∈R s i,1<=r.text.size/\r.text.size<=4
 | 0,i,h,r,hr=>by rw[qia s i (by omega)] at hr;cases hr
 | f+1,i,h,r,hr=>by
  by_cases hi:i < s.size
  ·have hw:=qai s i hi;have hp:=qen s i
   have h4:(Utf8.decode s i).2<=4:=by
    rw[ql2];unfold qal;split
    ·decide
    ·split
     ·decide
     ·split <;> decide
   rw[qew s i hi] at hr;rcases List.mem_cons.1 hr with rfl | hr
   ·have hz:(s.extract i (i+(Utf8.decode s i).2)).size=(Utf8.decode s i).2:=by simp;omega
    simp only;rw[hz];omega
   ·exact qwg s f _ (by omega) r hr
  ·rw[qia s i hi] at hr;cases hr
theorem q60(c:Nat)(w:Wq) :
  Calls Tryz.prog 173 #[.int .u8 c] w λe w'=>e=.returned (.int .i64 (qx0 c))/\w'=w:=by
 go_enter Tryz.func173,Tryz.ntmps173;go_wp2
 all_goals
  go_ret;exact⟨qe9 (by unfold qx0;(repeat' split) <;> first | rfl | (exfalso;omega) | (simp at *;done) | (exfalso;simp at *;omega)),rfl⟩
theorem qoq(s:ByteArray)(i:Nat)(h:i < s.size):s[i].toNat=byN s i:=by
 unfold byN;congr 1;have h':i < s.data.size:=h;show s.data[i]=s.data[i]!;rw[getElem!_pos s.data i h']
theorem qin(s:ByteArray)(i lo hi:Nat)(w:Wq)(hs:s.size<=1048576)(hi':i<=1048576+10) :
  Calls Tryz.prog 220 #[.string s,.int .i64 i,.int .u8 lo,.int .u8 hi] w λe w'=>e=.returned (.bool (qfm s i lo hi))/\w'=w:=by
 by_cases hlt:i < s.size
 ·have hb:=qoq s i hlt;go_enter Tryz.func220,Tryz.ntmps220;go_wp2
  all_goals
   go_ret;exact⟨qak (by rw[Bool.eq_iff_iff];simp only[qfm,decide_eq_true_eq];(try simp) <;> omega),rfl⟩
 ·go_enter Tryz.func220,Tryz.ntmps220;go_wp2;go_ret;exact⟨qak (by rw[Bool.eq_iff_iff];simp only[qfm,decide_eq_true_eq];(try simp) <;> omega),rfl⟩
theorem q0c(a b:Nat)(ha:a < 256)(hb:b < 256)(w:Wq) :
  Calls Tryz.prog 174 #[.int .u8 a,.int .u8 b] w λe w'=>e=.returned (.int .i64 (qmm a b))/\w'=w:=by
 go_enter Tryz.func174,Tryz.ntmps174;go_wp2
 all_goals
  go_ret;exact⟨qe9 (by unfold qmm;(repeat' split) <;> first | rfl | (exfalso;omega) | (simp at *;done) | (exfalso;simp at *;omega)),rfl⟩
def q46(c:Nat)(a b d:Bool):Nat:=
 if 194<=c/\c<=223/\a=true then 2 else if 224<=c/\c<=239/\a=true/\b=true then 3
 else if 240<=c/\c<=244/\a=true/\b=true/\d=true then 4 else 1
theorem q47(s:ByteArray)(i:Nat)(w:Wq)(hs:s.size<=1048576)(hi:i < s.size) :
  Calls Tryz.prog 172 #[.string s,.int .i64 i] w λe w'=>e=.returned (.int .i64 (qal s i))/\w'=w:=by
 have hb:=qoq s i hi;have q9:qal s i=q46 (byN s i) (qfm s (i+1) (loB (byN s i)) (hiB (byN s i))) (qfm s (i+2) 128 191) (qfm s (i+3) 128 191):=rfl;have f1:Calls Tryz.prog 220 #[.string s,.int .i64 ((i:Int)+1),.int .u8 (loB (byN s i)),.int .u8 (hiB (byN s i))] w λe w'=>e=.returned (.bool (qfm s (i+1) (loB (byN s i)) (hiB (byN s i))))/\w'=w:=qin s (i+1) _ _ w hs (by omega);have f2:Calls Tryz.prog 220 #[.string s,.int .i64 ((i:Int)+2),.int .u8 128,.int .u8 191] w λe w'=>e=.returned (.bool (qfm s (i+2) 128 191))/\w'=w:=qin s (i+2) _ _ w hs (by omega);have f3:Calls Tryz.prog 220 #[.string s,.int .i64 ((i:Int)+3),.int .u8 128,.int .u8 191] w λe w'=>e=.returned (.bool (qfm s (i+3) 128 191))/\w'=w:=qin s (i+3) _ _ w hs (by omega);rw[q9];clear q9;generalize qfm s (i+1) (loB (byN s i)) (hiB (byN s i))=A at *;generalize qfm s (i+2) 128 191=B at *;generalize qfm s (i+3) 128 191=D at *;have hc:byN s i=224\/byN s i=237\/byN s i=240\/byN s i=244\/(byN s i≠224/\byN s i≠237/\byN s i≠240/\byN s i≠244):=by omega
 generalize byN s i=c at *;rcases hc with rfl | rfl | rfl | rfl | ⟨n1,n2,n3,n4⟩
 case inr.inr.inr.inr=>
  have l1:loB c=128:=by unfold loB;simp[n1,n3]
  have l2:hiB c=191:=by unfold hiB;simp[n2,n4]
  rw[l1,l2] at f1;have m1:((c:Int) == 224)=false:=by simp;omega
  have m2:((c:Int) == 237)=false:=by simp;omega
  have m3:((c:Int) == 240)=false:=by simp;omega
  have m4:((c:Int) == 244)=false:=by simp;omega
  clear n1 n2 n3 n4;go_enter Tryz.func172,Tryz.ntmps172;go_wp2_with fail;refine f1.mono ?_;rintro e w' ⟨rfl,rfl⟩;go_wp2_with fail;refine f2.mono ?_;rintro e w' ⟨rfl,rfl⟩;go_wp2_with fail;refine f3.mono ?_;rintro e w' ⟨rfl,rfl⟩;go_wp2
  all_goals
   go_ret;exact⟨qe9 (by unfold q46;(repeat' split) <;> first | rfl | (exfalso;simp_all;done) | (exfalso;simp_all;omega)),rfl⟩
 all_goals
  simp only[loB,hiB] at f1;go_enter Tryz.func172,Tryz.ntmps172;go_wp2_with fail;refine f1.mono ?_;rintro e w' ⟨rfl,rfl⟩;go_wp2_with fail;refine f2.mono ?_;rintro e w' ⟨rfl,rfl⟩;go_wp2_with fail;refine f3.mono ?_;rintro e w' ⟨rfl,rfl⟩;go_wp2
  all_goals
   go_ret;exact⟨qe9 (by unfold q46;(repeat' split) <;> first | rfl | (exfalso;simp_all;done) | (exfalso;simp_all;omega)),rfl⟩
theorem qq{a w:Wq}(h:Below B a w){q:Nat}:Below B a (w.drewN q):=⟨h.os,h.tape,h.output,h.size,h.block⟩
def rnC(r:Rn):List Vq:=[.int .i64 r.kind,.string r.text]
theorem Tryz.infoRn:(Tryz.prog.info? 295).map (λi=>(i.zero,i.size,i.bytes))=some (some (.agg #[.int .i64 0,.string ⟨#[]⟩]),2,24):=by kernel_rfl
theorem qed(w:Wq)(x y:Vq)(t:TypeId):∀j u,[x,y][j]?=some u->(w.alloc (.cells #[x,y] t)).cell? ((⟨w.heap.size,0,none⟩:Addr).add j)=some u:=by
 intro j u hj
 match j,hj with
 | 0,hj=>simp at hj;subst hj;simp[Addr.add]
 | 1,hj=>simp at hj;subst hj;simp[Addr.add]
 | j+2,hj=>simp at hj
theorem q66{w wr X w1:Wq}{v v':Vq}{pre:List Rn}{t:ByteArray}(hb:Below B w X)(hX:B<=X.heap.size)(qr:wr.ownsRow B 295 2 v pre.length (pre.flatMap rnC))(quz:w1.ownsRow B 295 2 v' (pre.length+1) (pre.flatMap rnC++[.int .i64 k,.string t]))(hg:X.grownBy w1 v.ownBlock) :
  w1.ownsRow B 295 2 v' (pre++[Rn.mk k t]).length ((pre++[Rn.mk k t]).flatMap rnC)/\Below B w w1:=by
 refine⟨?_,hb.grown hg hX (λk hk=>(qr.lt k hk).1)⟩;simpa [rnC] using quz
theorem qm0(s:ByteArray)(w:Wq)(hs:s.size<=1048576) :
  Calls Tryz.prog 106 #[.string s] w λe w'=>∃v,e=.returned v/\w'.ownsRow w.heap.size 295 2 v (R s 0).length ((R s 0).flatMap rnC)/\Below w.heap.size w w':=by
 obtain⟨i0,hi,hz0,hz1,hz2⟩:=info_parts Tryz.infoRn;obtain⟨B,hB⟩:∃B,B=w.heap.size:=⟨_,rfl⟩;have hBw:B<=w.heap.size:=by omega
 have HB:Hid (w.heap.size=B):=hB.symm;rw[<- hB];clear hB;go_enter Tryz.func106,Tryz.ntmps106;go_wp2
 go_loopw [3,4] (λv a wr=>∃(i:Nat) (pre:List Rn) (v1:Vq),v1=v/\a=.int .i64 i/\i<=s.size/\pre++R s i=R s 0/\pre.length<=i/\wr.ownsRow B 295 2 v1 pre.length (pre.flatMap rnC)/\Below B w wr)
  (λ_ a _=>s.size - (intOf a).toNat)
 case atStart=>exact⟨0,[],_,rfl,rfl,Nat.zero_le _,rfl,Nat.le_refl _,World.ownsRow_nil _ _ _ _,Below.refl _ _⟩
 case round=>
  obtain⟨i,pre,v,rfl,rfl,hle,qiu,hpl,qr,qiq⟩:=hrel;by_cases hlt:i < s.size
  ·have hkd:=q38 s i;have hsd:=ql2 s i;have hwl:=qai s i hlt;have hwp:=qen s i;have qyw:=qew s i hlt;have hb:=qoq s i hlt;rw[hsd] at hwl hwp qyw;rw[<- hkd] at qyw;clear hsd hkd;have hsz:=q47 s i wr hs hlt;have HC:Hid (R s i=⟨qdf s i,s.extract i (i+qal s i)⟩::R s (i+qal s i)):=qyw;clear qyw;have hk1:Hid (qal s i=1->qdf s i=qx0 (byN s i)):=λh=>by unfold qdf;rw[if_pos h]
   have hk2:Hid (qal s i=2->qdf s i=qmm (byN s i) (byN s (i+1))):=λh=>by unfold qdf;rw[if_neg (by omega),if_pos h]
   have hk3:Hid (qal s i≠1->qal s i≠2->qdf s i=8):=λh h'=>by unfold qdf;rw[if_neg h,if_neg h']
   have q9:Hid (∀(v':Vq) (w1:Wq) (kd:Nat) (X:Wq),kd=qdf s i->Below B w X->B<=X.heap.size->w1.ownsRow B 295 2 v' (pre.length+1) (pre.flatMap rnC++[.int .i64 kd,.string (s.extract i (i+qal s i))])->X.grownBy w1 v.ownBlock->
     ∃pre':List Rn,pre'++R s (i+qal s i)=R s 0/\pre'.length<=i+qal s i/\w1.ownsRow B 295 2 v' pre'.length (pre'.flatMap rnC)/\Below B w w1):=by
    intro v' w1 kd X hkd hXb hXs ho hg;subst hkd;obtain⟨a1,a2⟩:=q66 hXb hXs qr ho hg;exact⟨pre++[⟨qdf s i,s.extract i (i+qal s i)⟩],by rw[<- qiu,HC.out];simp,by simp;omega,a1,a2⟩
   clear HC qiu;have hbs:B<=wr.heap.size:=Nat.le_trans hBw qiq.size;have HBW:Hid (Below B w wr):=qiq;clear qiq;generalize qal s i=n at *;generalize qdf s i=kd at *;have hc3:pre.length+1<=maxLen:=by unfold maxLen;omega
   have hc4:(pre.length+1)*24<=140737488355328:=by omega
   have hc5:∀o,B<=(wr.alloc o).heap.size:=λo=>by simp;omega
   have h1c:∀(k:Nat) (t:ByteArray),∀u∈[Value.int .i64 k,.string t],u.oneCell'=true:=λk t=>by simp[Value.oneCell']
   by_cases h1:n=1
   ·subst h1;have hkv:=hk1.out rfl;subst hkv;clear hk1 hk2 hk3;have hon:=q60 (byN s i) wr;generalize qx0 (byN s i)=kd at *
    go_wp2_with (first
     | (go_at_call 172;refine hsz.mono ?_;rintro e w' ⟨rfl,hw'⟩;obtain rfl:wr=w':=hw'.symm)
     | (go_at_call 173;refine hon.mono ?_;rintro e w' ⟨rfl,hw'⟩;obtain rfl:wr=w':=hw'.symm)
     | (at_builtin;refine wpList_append_own _ rfl (.tmp 30) (.tmp 39) 207 rfl B 295 i0 (.agg #[.int .i64 0,.string ⟨#[]⟩]) 2 24 Tryz.underlying207 hi hz0 hz1 hz2 rfl (by decide) _ _ _ rfl (qr.alloc _) ⟨wr.heap.size,0,none⟩ 1 1 [.int .i64 kd,.string (s.extract i (i+1))] rfl rfl (qed _ _ _ _) (h1c _ _) hc3 hc4 (hc5 _) ?_;intro v' w1 hown1 hgrow1 _))
    obtain⟨pre',q1,q2,q3,q4⟩:=q9.out v' w1 kd _ rfl (HBW.out.alloc hbs _) (hc5 _) hown1 hgrow1;clear hown1 hgrow1 q9 qr HBW
    go_roundw
    case rel=>exact⟨i+1,pre',v',rfl,by go_num,by omega,q1,q2,q3,q4⟩
    case measure=>simp[intOf];omega
   by_cases h2:n=2
   ·subst h2;have hkv:=hk2.out rfl;subst hkv;clear hk1 hk2 hk3 h1;have hb2:=qoq s (i+1) (by omega);have hgk:=q0c (byN s i) (byN s (i+1)) (qgn _ _) (qgn _ _);generalize qmm (byN s i) (byN s (i+1))=kd at *;have i1:i+1 < s.size:=by omega
    go_wp2_with (first
     | (go_at_call 172;refine hsz.mono ?_;rintro e w' ⟨rfl,hw'⟩;obtain rfl:wr=w':=hw'.symm))
    go_quiet ((go_at_call 174;exact Calls.quiet_of_same (hgk _)))
    go_wp2_with (first
     | (at_builtin;refine wpList_append_own _ rfl (.tmp 30) (.tmp 39) 207 rfl B 295 i0 (.agg #[.int .i64 0,.string ⟨#[]⟩]) 2 24 Tryz.underlying207 hi hz0 hz1 hz2 rfl (by decide) _ _ _ rfl (World.ownsRow.alloc qr _) ⟨wr.heap.size,0,none⟩ 1 1 [.int .i64 kd,.string (s.extract i (i+2))] rfl rfl (qed _ _ _ _) (h1c _ _) hc3 hc4 (hc5 _) ?_;intro v' w1 hown1 hgrow1 _))
    obtain⟨pre',q1,q2,q3,q4⟩:=q9.out v' w1 kd _ rfl ((qq HBW.out).alloc hbs _) (hc5 _) hown1 hgrow1;clear hown1 hgrow1 q9 qr HBW
    go_roundw
    case rel=>exact⟨i+2,pre',v',rfl,by go_num,by omega,q1,q2,q3,q4⟩
    case measure=>simp[intOf];omega
   ·have hkv:=hk3.out h1 h2;subst hkv;clear hk1 hk2 hk3;have m1:((n:Int) == 1)=false:=by simp;omega
    have m2:((n:Int) == 2)=false:=by simp;omega
    go_wp2_with (first
     | (go_at_call 172;refine hsz.mono ?_;rintro e w' ⟨rfl,hw'⟩;obtain rfl:wr=w':=hw'.symm)
     | (at_builtin;refine wpList_append_own _ rfl (.tmp 30) (.tmp 39) 207 rfl B 295 i0 (.agg #[.int .i64 0,.string ⟨#[]⟩]) 2 24 Tryz.underlying207 hi hz0 hz1 hz2 rfl (by decide) _ _ _ rfl (qr.alloc _) ⟨wr.heap.size,0,none⟩ 1 1 [.int .i64 ((8:Nat):Int),.string (s.extract i (i+n))] rfl rfl (qed _ _ _ _) (h1c _ _) hc3 hc4 (hc5 _) ?_;intro v' w1 hown1 hgrow1 _))
    obtain⟨pre',q1,q2,q3,q4⟩:=q9.out v' w1 8 _ rfl (HBW.out.alloc hbs _) (hc5 _) hown1 hgrow1;clear hown1 hgrow1 q9 qr HBW
    go_roundw
    case rel=>exact⟨i+n,pre',v',rfl,by go_num,by omega,q1,q2,q3,q4⟩
    case measure=>simp[intOf];omega
  ·rw[qia s i hlt] at qiu;simp only[List.append_nil] at qiu;subst qiu;go_wp2;go_ret;exact⟨v,rfl,qr,qiq⟩
