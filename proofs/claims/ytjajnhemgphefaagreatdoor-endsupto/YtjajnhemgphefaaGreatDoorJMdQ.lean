/- The document's own answer: what the variables of a rule's -/
import Derived.Test.YtjajnhemgphefaaGreatDoorJMdN
set_option linter.unusedVariables false
set_option linter.unusedSimpArgs false
set_option maxRecDepth 100000
set_option maxHeartbeats 8000000
namespace Go.Proofs.YtjajnhemgphefaaGreatDoor
open Go renaming World->Wq,Value->Vq
open Go.RowKit Go.Shelf
def qft(r:Rl)(at' v:Nat):Bool:=qz [r.head] v || qz (r.body.drop (at'+1)) v
def qa2(r:Rl)(at':Nat)(b:List ByteArray):List ByteArray:=(List.range b.length).map (λv=>if qft r at' v=true then b.getD v ⟨#[]⟩ else ⟨#[]⟩)
structure qd3(N:Nat)(w X:Wq)(box:Array Vq)(out:List ByteArray):Prop where
 below:Below N w X
 b1:X.heap[N]?=some (Obj.cells box 148)
 row:X.heap[N+1]?=some (Obj.cells (out.map Value.string).toArray 9)
theorem qd3.alloc{N:Nat}{w X:Wq}{box:Array Vq}{out:List ByteArray}(h:qd3 N w X box out)(o:Obj):qd3 N w (X.alloc o) box out:=by
 have hs:N+2<=X.heap.size:=(zg h.row).1;exact⟨h.below.alloc (by omega) o,(Below.heap_alloc _ _ _ (by omega)).trans h.b1,(Below.heap_alloc _ _ _ (by omega)).trans h.row⟩
theorem qd3.set{N:Nat}{w X:Wq}{box:Array Vq}{out:List ByteArray}(h:qd3 N w X box out)(k:Nat)(x:ByteArray):qd3 N w (X.setCell ⟨N+1,k,none⟩ (.string x)) box (out.set k x):=by
 refine⟨h.below.setCell (by simp) _,(Below.heap_setCell _ _ _ _ (by simp)).trans h.b1,?_⟩;rw[Qb h.row k (.string x)];congr 2;rw[<- Array.toList_inj];simp[List.map_set]
theorem qd3.own{N:Nat}{w X:Wq}{box:Array Vq}{out:List ByteArray}(h:qd3 N w X box out)(hl:out.length<=1000):X.ownsRow N 9 1 (.slice (some ⟨N+1,0,none⟩) out.length out.length) out.length (out.map Value.string):=
 ⟨by simp,.inr ⟨N+1,out.length,(out.map Value.string).toArray,rfl,by omega,h.row,Nat.le_refl _,by unfold maxLen;omega,by simp,by rw[Nat.mul_one];exact List.take_of_length_le (by simp)⟩⟩
def qk4(f:Nat->ByteArray)(n k:Nat)(out:List ByteArray):Prop:=out.length=n/\∀j,j < n->out.getD j ⟨#[]⟩=if j < k then f j else ⟨#[]⟩
theorem qk4.start(f:Nat->ByteArray)(n:Nat):qk4 f n 0 (List.replicate n ⟨#[]⟩):=by
 refine⟨by simp,λj hj=>?_⟩;rw[if_neg (by omega)];simp[hj]
theorem qk4.skip{f:Nat->ByteArray}{n k:Nat}{out:List ByteArray}(h:qk4 f n k out)(hf:f k=⟨#[]⟩):qk4 f n (k+1) out:=by
 refine⟨h.1,λj hj=>?_⟩;rw[h.2 j hj];by_cases e:j=k
 ·subst e;rw[if_neg (by omega),if_pos (by omega),hf]
 ·by_cases hlt:j < k
  ·rw[if_pos hlt,if_pos (by omega)]
  ·rw[if_neg hlt,if_neg (by omega)]
theorem qk4.set{f:Nat->ByteArray}{n k:Nat}{out:List ByteArray}(h:qk4 f n k out)(hk:k < n):qk4 f n (k+1) (out.set k (f k)):=by
 refine⟨by rw[List.length_set];exact h.1,λj hj=>?_⟩;have h1:=h.1;by_cases e:j=k
 ·subst e;rw[if_pos (by omega)];simp[List.getElem?_set,h1,hj]
 ·have h2:=h.2 j hj
  have h3:(out.set k (f k)).getD j ⟨#[]⟩=out.getD j ⟨#[]⟩:=by
   simp only[List.getD_eq_getElem?_getD,List.getElem?_set];rw[if_neg (λh=>e h.symm)]
  rw[h3,h2];by_cases hlt:j < k
  ·rw[if_pos hlt,if_pos (by omega)]
  ·rw[if_neg hlt,if_neg (by omega)]
theorem qk4.done{f:Nat->ByteArray}{n:Nat}{out:List ByteArray}(h:qk4 f n n out):out=(List.range n).map f:=by
 apply List.ext_getElem
 ·simp[h.1]
 ·intro j h1 h2;have hj:j < n:=by rw[<- h.1];exact h1
  have:=h.2 j hj;rw[if_pos hj] at this;simp only[List.getD_eq_getElem?_getD,List.getElem?_eq_getElem h1,Option.getD_some] at this;simp[this]
theorem q4f(q:Rl×Vq×Vq)(g c:Nat)(ps:List (Am×Vq))(at':Nat)(vb:Vq)(b:List ByteArray)(w:Wq)(hR:qmb w q g c ps)(hB:qu w vb b)(hb0:0 < b.length)(hbl:b.length<=1000)(hat:at' < ps.length)(hl:ps.length<=900)(hm:∀p∈(q.1.head,q.2.1)::ps,p.1.args.length<=1000000/\∀t∈p.1.args,t.num<=1000000) :
  Calls Tryz.prog 225 #[vb,rlV q,.int .i64 at'] w λe w'=>∃v',e=.returned v'/\w'.ownsRow w.heap.size 9 1 v' (qa2 q.1 at' b).length ((qa2 q.1 at' b).map Value.string)/\Below w.heap.size w w':=by
 obtain⟨i0,hi,hz0,hz1,hz2⟩:=info_parts Tryz.infoStr;unfold rlV;obtain⟨a1,a2,hq1⟩:=qd hR.head;simp only at hq1;have qqy:=hR.val;have qer:=hR.cap;rw[hq1,qqy];obtain⟨gb,cb,e1,hgb,_⟩:=hB.cell 0 hb0;subst e1;obtain⟨N,hN⟩:∃N,N=w.heap.size:=⟨_,rfl⟩;have hNr:=hN.symm;have q9k:gb < N:=by rw[hN];exact hgb
 have heq:q.1.body=ps.map (·.1):=hR.eq.symm
 have qc8:∀v,qft q.1 at' v=(qz [q.1.head] v || qz ((ps.drop (at'+1)).map (·.1)) v):=by
  intro v;unfold qft;rw[heq,List.map_drop]
 have HX:Hid (∀X,Below N w X->qam X (some ⟨g,0,none⟩) ps/\qa7 X (q.1.head,.slice a1 q.1.head.args.length a2)/\∀j,j < b.length->X.cell? ⟨gb,j,none⟩=some (.string (b.getD j ⟨#[]⟩))):=by
  intro X hX;have hX':Below w.heap.size w X:=by rw[hNr];exact hX
  have hRX:=hR.below hX';refine⟨hRX.body,by have:=hRX.head;rw[hq1] at this;exact this,λj hj=>?_⟩;obtain⟨g',cap',e',hg',c0⟩:=hB.cell j hj
  cases e'
  rw[(Below.cell hX q9k),c0];simp[List.getElem?_eq_getElem hj]
 have q13:Hid (∀(X:Wq) (v:Nat),Below N w X->v<=1000->Calls Tryz.prog 246 #[.slice (some ⟨X.heap.size,0,none⟩) 1 1,.int .i64 v] (X.alloc (.cells #[.string q.1.head.rel,.slice a1 q.1.head.args.length a2] 145)) λe w'=>e=.returned (.bool (qz [q.1.head] v))/\w'=X.alloc (.cells #[.string q.1.head.rel,.slice a1 q.1.head.args.length a2] 145)):=by
  intro X v hX hv
  exact qip (some ⟨X.heap.size,0,none⟩) 1 [(q.1.head,.slice a1 q.1.head.args.length a2)] v _ (qam.single X q.1.head _ (HX.out X hX).2.1) (by simp) (by omega) (λp hp=>by
   simp at hp;subst hp
   exact hm (q.1.head,q.2.1) List.mem_cons_self)
 have q14:Hid (∀(X:Wq) (v:Nat),Below N w X->v<=1000->Calls Tryz.prog 246 #[.slice (if c=at'+1 then some ⟨g,0,none⟩ else some ⟨g,(at'+1)*2,none⟩) (ps.length - (at'+1)) (c - (at'+1)),.int .i64 v] X λe w'=>e=.returned (.bool (qz ((ps.drop (at'+1)).map (·.1)) v))/\w'=X):=by
  intro X v hX hv;have Q7:(ps.drop (at'+1)).length=ps.length - (at'+1):=List.length_drop
  have hA:qam X (if c=at'+1 then some ⟨g,0,none⟩ else some ⟨g,(at'+1)*2,none⟩) (ps.drop (at'+1)):=by
   split
   ·rw[List.drop_eq_nil_of_le (by omega)];exact qam.nil
   ·have:=(HX.out X hX).1.drop (at'+1);rw[Nat.zero_add] at this;exact this
  have h:=qip _ (c - (at'+1)) (ps.drop (at'+1)) v X hA (by omega) (by omega) (λp hp=>hm p (List.mem_cons_of_mem _ (List.mem_of_mem_drop hp)));rw[Q7] at h;exact h
 obtain⟨f,hf⟩:∃f:Nat->ByteArray,f=λv=>if (qz [q.1.head] v || qz ((ps.drop (at'+1)).map (·.1)) v)=true then b.getD v ⟨#[]⟩ else ⟨#[]⟩:=⟨_,rfl⟩
 have hT:Hid (qa2 q.1 at' b=(List.range b.length).map f):=by
  show _=_;unfold qa2;rw[hf];congr 1;funext v;rw[qc8 v]
 have HF:Hid (∀v,f v=if (qz [q.1.head] v || qz ((ps.drop (at'+1)).map (·.1)) v)=true then b.getD v ⟨#[]⟩ else ⟨#[]⟩):=by intro v;rw[hf]
 generalize qa2 q.1 at' b=T at *;rw[<- hN];clear hR hB qc8 heq hm hN hq1 qqy hf;generalize q.1.head.rel=hrl at *;generalize q.1.head.args.length=hal at *;obtain⟨box,hbx⟩:∃box:Array Vq,box=#[.string hrl,.slice a1 hal a2,.slice (some ⟨g,0,none⟩) ps.length c]:=⟨_,rfl⟩;have q9e:i0.bytes*b.length<=281474976710656:=by rw[hz2];omega
 have hmx:b.length<=maxLen:=by unfold maxLen;omega
 have HMk:Hid (∀w1,w1.ownsRow N 9 1 (.slice (some ⟨N+1,0,none⟩) b.length b.length) b.length (madeCells (Value.string ⟨#[]⟩).cells (b.length*1)).toList->(w.alloc (.cells #[.string hrl,.slice a1 hal a2,.slice (some ⟨g,0,none⟩) ps.length c] 148)).grownBy w1 none->qd3 N w w1 #[.string hrl,.slice a1 hal a2,.slice (some ⟨g,0,none⟩) ps.length c] (List.replicate b.length ⟨#[]⟩)):=by
  intro w1 ho hg;rw[qpi] at ho;refine⟨((Below.refl _ w).alloc (by omega) _).grown hg (by simp;omega) (λk e=>by cases e),(hg.block N (by simp;omega) (by simp)).trans (by rw[<- hNr];exact World.alloc_heap_new w _),?_⟩;obtain⟨_,⟨hv,_⟩ | ⟨g',cap',cur,hv,_,hh,h1,h2,h3,h4⟩⟩:=ho
  ·cases hv
  ·cases hv;rw[hh];congr 2;rw[<- Array.toList_inj];simp only[Nat.mul_one] at h3 h4;rw[<- h4,List.take_of_length_le (by simp[h3])]
 have hsz:(w.alloc (.cells #[.string hrl,.slice a1 hal a2,.slice (some ⟨g,0,none⟩) ps.length c] 148)).heap.size=N+1:=by simp[hNr]
 have HSZ:Hid _:=hsz;clear hbx hsz;go_enter Tryz.func225,Tryz.ntmps225
 go_wp2_with (at_make;refine wpList_make_full _ rfl (.tmp 12) (.tmp 12) 22 rfl N 9 i0 (.string ⟨#[]⟩) 1 Tryz.underlying22 hi hz0 hz1 .i64 .i64 _ _ b.length rfl rfl rfl rfl q9e hmx (by rw[HSZ.out];omega) ?_;rw[HSZ.out];intro w1 hown1 hgrow1;have HM1:Hid _:=HMk.out w1 hown1 hgrow1;clear hown1 hgrow1)
 go_loopw [8] (λx wr=>∃(k:Nat) (out:List ByteArray),x=.int .i64 k/\k<=b.length/\qd3 N w wr #[.string hrl,.slice a1 hal a2,.slice (some ⟨g,0,none⟩) ps.length c] out/\Hid (qk4 f b.length k out)) (λx _=>b.length - (intOf x).toNat)
 case atStart=>exact⟨0,_,rfl,Nat.zero_le _,HM1.out,qk4.start f _⟩
 case round=>
  clear HM1 HMk;obtain⟨k,out,rfl,hle,hS,qo0⟩:=hrel;by_cases hlt:k < b.length
  ·have hNs:N+2<=wr.heap.size:=(zg hS.row).1;have x0:wr.cell? ⟨N,0,none⟩=some (.string hrl):=by simp[World.cell?,hS.b1]
   have x1:wr.cell? ⟨N,1,none⟩=some (.slice a1 hal a2):=by simp[World.cell?,hS.b1]
   have hh2:=q13.out wr k hS.below (by omega);have HS:Hid (qd3 N w wr #[.string hrl,.slice a1 hal a2,.slice (some ⟨g,0,none⟩) ps.length c] out):=hS;have hfk:=HF.out k;have HFK:Hid _:=hfk;clear hS hfk;generalize qz [q.1.head] k=B2 at *;go_wp2_with fail;refine hh2.mono ?_;rintro e w' ⟨rfl,hw'⟩;obtain⟨W3,hW3⟩:∃W3,wr.alloc (.cells #[.string hrl,.slice a1 hal a2] 145)=W3:=⟨_,rfl⟩;rw[hW3] at hw';obtain rfl:W3=w':=hw'.symm;have hS3:qd3 N w W3 #[.string hrl,.slice a1 hal a2,.slice (some ⟨g,0,none⟩) ps.length c] out:=by rw[<- hW3];exact HS.out.alloc _
   have x2:W3.cell? ⟨N,2,none⟩=some (.slice (some ⟨g,0,none⟩) ps.length c):=by simp[World.cell?,hS3.b1]
   have hh3:=q14.out W3 k hS3.below (by omega);have cbk:=(HX.out W3 hS3.below).2.2 k hlt;have hol:out.length=b.length:=qo0.out.1;have ck:W3.cell? ⟨N+1,k,none⟩=some (.string (out.getD k ⟨#[]⟩)):=by simp[World.cell?,hS3.row,List.getElem?_eq_getElem (show k < out.length by omega)]
   have fk:W3.frozen? ⟨N+1,k,none⟩=false:=by simp[World.frozen?,hS3.row]
   have HS3:Hid (qd3 N w W3 #[.string hrl,.slice a1 hal a2,.slice (some ⟨g,0,none⟩) ps.length c] out):=hS3;generalize qz ((ps.drop (at'+1)).map (·.1)) k=B3 at *;generalize b.getD k ⟨#[]⟩=bk at *;clear hh2 hS3 hW3 HS hol;have i3:at'+1<=ps.length:=by omega
   have i4:(at':Int)+1<=(ps.length:Int):=by omega
   have i5:(ps.length:Int)<=(c:Int):=by omega
   have i6:at'+1<=c:=by omega
   have qs3:Hid (∀y,qd3 N w (W3.setCell ⟨N+1,k,none⟩ (.string y)) #[.string hrl,.slice a1 hal a2,.slice (some ⟨g,0,none⟩) ps.length c] (out.set k y)):=λy=>HS3.out.set k y
   have Qdh:Hid ((B2 || B3)=true->qk4 f b.length (k+1) (out.set k bk)):=by
    intro h;have h1:=HFK.out;rw[if_pos h] at h1;rw[<- h1];exact qo0.out.set hlt
   have Qcu:Hid ((B2 || B3)=false->qk4 f b.length (k+1) out):=by
    intro h;have h1:=HFK.out;rw[if_neg (by rw[h];simp)] at h1;exact qo0.out.skip h1
   clear HFK qo0;by_cases hce:c=at'+1
   ·rw[if_pos hce] at hh3;have q9f:c - (at'+1)=0:=by omega
    rw[q9f] at hh3;clear hce;go_wp2_with fail;refine hh3.mono ?_;rintro e w' ⟨rfl,hw'⟩;obtain rfl:W3=w':=hw'.symm;clear hh3
    cases B2 <;> cases B3
    case false.false=>
     go_wp2
     go_roundw
     case rel=>exact⟨k+1,out,by go_num,by omega,HS3.out,Qcu.out rfl⟩
     case measure=>simp[intOf];omega
    all_goals
     go_wp2
     go_roundw
     case rel=>exact⟨k+1,_,by go_num,by omega,qs3.out bk,Qdh.out rfl⟩
     case measure=>simp[intOf];omega
   ·rw[if_neg hce] at hh3;go_wp2_with fail;refine hh3.mono ?_;rintro e w' ⟨rfl,hw'⟩;obtain rfl:W3=w':=hw'.symm;clear hh3
    cases B2 <;> cases B3
    case false.false=>
     go_wp2
     go_roundw
     case rel=>exact⟨k+1,out,by go_num,by omega,HS3.out,Qcu.out rfl⟩
     case measure=>simp[intOf];omega
    all_goals
     go_wp2
     go_roundw
     case rel=>exact⟨k+1,_,by go_num,by omega,qs3.out bk,Qdh.out rfl⟩
     case measure=>simp[intOf];omega
  ·have hkb:k=b.length:=by omega
   have hdn:out=(List.range b.length).map f:=by
    have:=qo0.out;rw[hkb] at this;exact this.done
   have hol:out.length=b.length:=qo0.out.1;have how:=hS.own (by omega);rw[hol] at how;have HOW:Hid _:=how;have HB:Hid (Below N w wr):=hS.below;have HDN:Hid (T=out):=by show _=_;rw[hT.out,hdn]
   have HOL:Hid (out.length=b.length):=hol;clear hS how hdn hkb hol qo0;go_wp2;go_ret;rw[HDN.out,HOL.out];exact⟨_,rfl,HOW.out,HB.out⟩
theorem Tryz.infoBool:(Tryz.prog.info? 4).map (λi=>(i.zero,i.size,i.bytes))=some (some (.bool false),1,1):=by kernel_rfl
theorem q37(w:Wq):Calls Tryz.prog 224 #[] w λe w'=>e=.returned (.slice (some ⟨w.heap.size,0,none⟩) 4096 4096)/\w'.ownsRow w.heap.size 4 1 (.slice (some ⟨w.heap.size,0,none⟩) 4096 4096) 4096 (List.replicate 4096 (.bool false))/\Below w.heap.size w w':=by
 obtain⟨i0,hi,hz0,hz1,hz2⟩:=info_parts Tryz.infoBool;have hc:i0.bytes*4096<=281474976710656:=by rw[hz2];decide
 have hm:4096<=maxLen:=by unfold maxLen;decide
 have q72:(madeCells (Value.bool false).cells (4096*1)).toList=List.replicate 4096 (.bool false):=qvd (.bool false) 4096;have HMd:Hid _:=q72;clear q72;go_enter Tryz.func224,Tryz.ntmps224;go_wp2
 go_loopw [1,2] (λx p wr=>wr=w/\((x=.int .i64 1/\p=.int .i64 0)\/(x=.int .i64 8/\p=.int .i64 1)\/(x=.int .i64 64/\p=.int .i64 2)\/(x=.int .i64 512/\p=.int .i64 3)\/(x=.int .i64 4096/\p=.int .i64 4))) (λ_ p _=>4 - (intOf p).toNat)
 case atStart=>exact⟨rfl,.inl ⟨rfl,rfl⟩⟩
 case round=>
  obtain⟨hww,hc'⟩:=hrel;obtain rfl:w=wr:=hww.symm;rcases hc' with⟨rfl,rfl⟩ | ⟨rfl,rfl⟩ | ⟨rfl,rfl⟩ | ⟨rfl,rfl⟩ | ⟨rfl,rfl⟩
  case inr.inr.inr.inr=>
   go_wp2_with (at_make;refine wpList_make_full _ rfl (.tmp 9) (.tmp 9) 339 rfl w.heap.size 4 i0 (.bool false) 1 Tryz.underlying339 hi hz0 hz1 .i64 .i64 _ _ 4096 rfl rfl rfl rfl hc hm zl ?_;intro w1 hown1 hgrow1)
   go_ret;rw[HMd.out] at hown1;exact⟨rfl,hown1,(Below.refl _ w).grown hgrow1 zl (λk hk=>by cases hk)⟩
  all_goals
   go_wp2
   go_roundw
   case rel=>simp
   case measure=>simp[intOf]
def qbe(names:List ByteArray)(n:Nat)(x:ByteArray):Nat:=if Qw names x < names.length then n*8+Qw names x else n
def qha(names b:List ByteArray):Nat:=b.foldl (qbe names) 0
theorem qlz(x y:ByteArray):Q2 x y=decide (x=y):=by
 unfold Q2;rw[qej];by_cases h:x=y
 ·simp[h]
 ·have:¬y=x:=λe=>h e.symm;simp[h,this]
def qh9(l:List ByteArray):Prop:=∀(i j:Nat) (hi:i < l.length) (hj:j < l.length),l[i]=l[j]->i=j
theorem q42(names:List ByteArray)(x:ByteArray)(hn:qh9 names)(k:Nat)(hk:k < names.length):Q2 x names[k]=decide (Qw names x=k):=by
 rw[qlz];by_cases h:x=names[k]
 ·have:Qw names x=k:=by
   refine qjn names x k hk (by rw[qlz];simp[h]) (λj hj hjk=>?_);rw[qlz];simp only[decide_eq_false_iff_not];intro e;rw[h] at e;have:=hn _ _ _ _ e;omega
  rw[decide_eq_true h,decide_eq_true this]
 ·simp only[h,decide_false];symm;simp only[decide_eq_false_iff_not];intro e;have h1:Q2 x (names[Qw names x]'(by rw[e];exact hk))=true:=List.findIdx_getElem (p:=Q2 x) (xs:=names) (w:=by show names.findIdx (Q2 x) < names.length;exact (show Qw names x < names.length by rw[e];exact hk));rw[qlz] at h1;simp only[decide_eq_true_eq] at h1;apply h;rw[h1];congr 1
theorem qxq(names:List ByteArray)(n v:Nat)(x:ByteArray)(h8:names.length<=8)(hn:n < 8 ^ v):qbe names n x < 8 ^ (v+1):=by
 unfold qbe;rw[Nat.pow_succ];split <;> omega
theorem q6u(vb vn:Vq)(b names:List ByteArray)(w:Wq)(hB:qu w vb b)(hNm:qu w vn names)(hbl:b.length<=8)(h8:names.length<=8)(hd:qh9 names) :
  Calls Tryz.prog 226 #[vb,vn] w λe w'=>e=.returned (.int .i64 (qha names b))/\Below w.heap.size w w':=by
 obtain⟨b1,b2,rfl⟩:=qd hB;obtain⟨n1,n2,rfl⟩:=qd hNm;have HB:Hid (qu w (.slice b1 b.length b2) b):=hB;have HN:Hid (qu w (.slice n1 names.length n2) names):=hNm;obtain⟨T,hT⟩:∃T,T=qha names b:=⟨_,rfl⟩;rw[<- hT];have HT:Hid (T=qha names b):=hT;clear hB hNm hT;have hp8:(8:Nat) ^ 8=16777216:=by decide
 go_enter Tryz.func226,Tryz.ntmps226;go_wp2
 go_loopw [5,6] (λx p wr=>∃(n v:Nat),x=.int .i64 n/\p=.int .i64 v/\v<=b.length/\(∃d,wr=w.drewN d)/\Hid (n < 8 ^ v)/\Hid (T=(b.drop v).foldl (qbe names) n)) (λ_ p _=>b.length - (intOf p).toNat)
 case atStart=>exact⟨0,0,rfl,rfl,Nat.zero_le _,⟨0,rfl⟩,by show (0:Nat) < 8 ^ 0;decide,HT⟩
 case round=>
  obtain⟨n,v,rfl,rfl,hle,⟨d,rfl⟩,hnv,hsp⟩:=hrel;by_cases hlt:v < b.length
  ·obtain⟨gb,cb,e1,hgb,cv⟩:=HB.out.cell v hlt;cases e1;rw[List.drop_eq_getElem_cons hlt] at hsp;simp only[List.foldl_cons] at hsp;have hat:=q42 names b[v] hd;have qa1:=qxq names n v b[v] h8 hnv.out;have hks:qbe names n b[v]=if Qw names b[v] < names.length then n*8+Qw names b[v] else n:=rfl;generalize b[v]=x at *
   have hnb:n < 16777216:=by
    have h1:=hnv.out;have h2:(8:Nat) ^ v<=8 ^ 8:=Nat.pow_le_pow_right (by decide) (by omega);omega
   generalize Qw names x=sx at *;have HAT:Hid (∀(k:Nat) (hk:k < names.length),Q2 x names[k]=decide (sx=k)):=hat;have HKS:Hid (qbe names n x=if sx < names.length then n*8+sx else n):=hks;have HST:Hid (qbe names n x < 8 ^ (v+1)):=qa1;clear hat hks qa1;go_wp2
   go_loopw [5,7] (λy p wr=>∃(m k:Nat),y=.int .i64 m/\p=.int .i64 k/\k<=names.length/\(∃d,wr=w.drewN d)/\Hid (m=if sx < k then n*8+sx else n)) (λ_ p _=>names.length - (intOf p).toNat)
   case atStart=>exact⟨n,0,rfl,rfl,Nat.zero_le _,⟨d,rfl⟩,by show n=_;rw[if_neg (by omega)]⟩
   case round=>
    obtain⟨m,k,rfl,rfl,qsz,⟨d2,rfl⟩,hmk⟩:=hrel
    have hmb:m<=16777216*8+8:=by
     have:=hmk.out;split at this <;> omega
    by_cases hkl:k < names.length
    ·obtain⟨gn,cn,e2,hgn,cn'⟩:=HN.out.cell k hkl;cases e2;have hak:=HAT.out k hkl;generalize names[k]=y at *;by_cases hs:sx=k
     ·subst hs;have hmn:m=n:=by have:=hmk.out;rw[if_neg (by omega)] at this;exact this
      subst hmn;have hxy:(y.toList == x.toList)=true:=by have:=hak;unfold Q2 at this;rw[this];simp
      have hyx:(x.toList == y.toList)=true:=by rw[qej] at hxy ⊢;simp at hxy ⊢;exact hxy.symm
      have hm2:Hid ((m*8+sx:Nat)=if sx < sx+1 then m*8+sx else m):=by show _=_;rw[if_pos (by omega)]
      clear hak hxy hmk;go_wp2;go_quiet (fail);go_wp2
      go_roundw
      case rel=>exact⟨m*8+sx,sx+1,by go_num,by go_num,by omega,⟨_,rfl⟩,hm2⟩
      case measure=>simp[intOf];omega
     ·have hxy:(y.toList == x.toList)=false:=by have:=hak;unfold Q2 at this;rw[this];simp[hs]
      have hyx:(x.toList == y.toList)=false:=by rw[qej] at hxy ⊢;simp at hxy ⊢;exact λe=>hxy e.symm
      have hm2:Hid (m=if sx < k+1 then n*8+sx else n):=by
       show _=_;rw[hmk.out];by_cases h:sx < k
       ·rw[if_pos h,if_pos (by omega)]
       ·rw[if_neg h,if_neg (by omega)]
      clear hak hxy hmk;go_wp2;go_quiet (fail);go_wp2
      go_roundw
      case rel=>exact⟨m,k+1,by go_num,by go_num,by omega,⟨_,rfl⟩,hm2⟩
      case measure=>simp[intOf];omega
    ·have hkn:k=names.length:=by omega
     have q9r:m=qbe names n x:=by rw[HKS.out,hmk.out,hkn]
     have hr1:Hid (m < 8 ^ (v+1)):=by rw[q9r];exact HST
     have hr2:Hid (T=(b.drop (v+1)).foldl (qbe names) m):=by rw[q9r];exact hsp
     clear hkn q9r hmk;go_wp2
     go_roundw
     case rel=>exact⟨m,v+1,by go_num,by go_num,by omega,⟨_,rfl⟩,hr1,hr2⟩
     case measure=>simp[intOf];omega
  ·rw[List.drop_eq_nil_of_le (by omega)] at hsp;have hTn:T=n:=hsp.out;subst hTn;clear hsp HT;go_wp2;go_ret;exact⟨rfl,qq (Below.refl _ _)⟩
def qb3(l:List (List ByteArray))(gs:List Gr):List (List ByteArray×Gr):=l.flatMap (λb=>gs.map (λg=>(b,g)))
def Qu(r:Rl)(i:Nat)(names:List ByteArray)(a:Am)(st:List Bool×List (List ByteArray))(p:List ByteArray×Gr):List Bool×List (List ByteArray):=
 match qd9 a p.2 p.1 with
 | none=>st
 | some c=>
  if qdn r i=true then
   (if st.1.getD (qha names (qa2 r i c)) false=true then st else (st.1.set (qha names (qa2 r i c)) true,st.2++[qa2 r i c]))
  else (st.1,st.2++[c])
def qcp(r:Rl)(names:List ByteArray)(gs:List Gr)(l:List (List ByteArray))(i:Nat):List (List ByteArray):=
 match r.body[i]? with
 | none=>l
 | some a=>((qb3 l gs).foldl (Qu r i names a) (List.replicate 4096 false,[])).2
def qkc(r:Rl)(gs:List Gr):List (List ByteArray):=(List.range r.body.length).foldl (qcp r (qa8 [] (qan gs)) gs) [qdb]
structure qbx(W:Wq)(v:Vq)(ps:List (List ByteArray×Vq)):Prop where
 row:W.ownsRow 0 239 1 v ps.length (ps.map (·.2))
 each:∀p∈ps,qu W p.2 p.1
theorem q1u(ps:List (List ByteArray×Vq)):ps.map (·.2)=ps.flatMap (λp=>[p.2]):=by
 induction ps with
 | nil=>rfl
 | cons x l ih=>simp[ih]
theorem qbx.cell{W:Wq}{v:Vq}{ps:List (List ByteArray×Vq)}(h:qbx W v ps)(k:Nat)(hk:k < ps.length) :
  ∃g cap,v=.slice (some ⟨g,0,none⟩) ps.length cap/\g < W.heap.size/\W.cell? ⟨g,k,none⟩=some ps[k].2/\(∃a c,ps[k].2=.slice a ps[k].1.length c)/\qu W ps[k].2 ps[k].1:=by
 have h2:=h.row;rw[q1u] at h2;obtain⟨g,cap,e1,e2,e3,e4,e5⟩:=qbq h2 (λ_=>rfl) (by omega);have hA:=h.each ps[k] (List.getElem_mem hk);have h3:=e5 k 0 hk ps[k].2 (by decide) rfl;rw[Nat.mul_one,Nat.add_zero] at h3;exact⟨g,cap,e1,e3,h3,qd hA,hA⟩
theorem qbx.below{W W':Wq}{v:Vq}{ps:List (List ByteArray×Vq)}(h:qbx W v ps)(hb:Below W.heap.size W W'):qbx W' v ps:=⟨qk h.row hb,λp hp=>(h.each p hp).below hb⟩
structure qf1(N S sb:Nat)(w X:Wq)(box:Array Vq)(lv:Vq)(lps:List (List ByteArray×Vq))(nv:Vq)(names:List ByteArray)(seen:List Bool)(vx:Vq)(nx:List (List ByteArray×Vq)):Prop where
 below:Below N w X
 bx:X.heap[N]?=some (Obj.cells box 148)
 l:qbx X lv lps
 lS:∀g,lv.ownBlock=some g->g < S
 nm:qu X nv names
 sn:X.heap[sb]?=some (Obj.cells (seen.map Value.bool).toArray 4)
 nS:N < sb/\sb < S/\S<=X.heap.size
 xown:X.ownsRow S 239 1 vx nx.length (nx.map (·.2))
 each:∀p∈nx,qu X p.2 p.1
variable {N S sb:Nat} {w X Y:Wq} {box:Array Vq} {lv nv vx vx':Vq} {lps nx:List (List ByteArray×Vq)} {names:List ByteArray} {seen:List Bool}
theorem qf1.grows(h:qf1 N S sb w X box lv lps nv names seen vx nx)(hb:Below X.heap.size X Y):qf1 N S sb w Y box lv lps nv names seen vx nx:=by
 have hs:=h.nS;have hz:=hb.size;exact⟨h.below.trans (hb.mono (by omega)),(hb.block _ (zg h.bx).1).trans h.bx,h.l.below hb,h.lS,h.nm.below hb,(hb.block _ (zg h.sn).1).trans h.sn,⟨hs.1,hs.2.1,by omega⟩,qk h.xown hb,λp hp=>(h.each p hp).below hb⟩
theorem qf1.mark(h:qf1 N S sb w X box lv lps nv names seen vx nx)(k:Nat):qf1 N S sb w (X.setCell ⟨sb,k,none⟩ (.bool true)) box lv lps nv names (seen.set k true) vx nx:=by
 have hs:=h.nS;have hk:∀g,g≠sb->(X.setCell ⟨sb,k,none⟩ (.bool true)).heap[g]?=X.heap[g]?:=λg hg=>Below.heap_setCell _ _ _ _ hg
 have qr:∀{B T m n:Nat} {v:Vq} {xs:List Vq},T≠4->X.ownsRow B T m v n xs->(X.setCell ⟨sb,k,none⟩ (.bool true)).ownsRow B T m v n xs:=by
  intro B T m n v xs hT ho;refine qm ho (λg hg _=>hk g (λe=>?_));obtain⟨c,hc⟩:=qi ho hg;rw[e,h.sn] at hc;cases hc;exact hT rfl
 refine⟨h.below.setCell (by simp;omega) _,(hk N (by omega)).trans h.bx,⟨qr (by decide) h.l.row,λp hp=>qr (by decide) (h.l.each p hp)⟩,h.lS,qr (by decide) h.nm,?_,⟨hs.1,hs.2.1,by simpa using hs.2.2⟩,qr (by decide) h.xown,λp hp=>qr (by decide) (h.each p hp)⟩;rw[Qb h.sn k (.bool true)];congr 2;rw[<- Array.toList_inj];simp[List.map_set]
theorem qf1.app(h:qf1 N S sb w X box lv lps nv names seen vx nx)(c:List ByteArray)(vc:Vq)(hc:qu X vc c){o:Obj}(hg:(X.alloc o).grownBy Y vx.ownBlock)(ho:Y.ownsRow S 239 1 vx' (nx.length+1) (nx.map (·.2)++[vc])):qf1 N S sb w Y box lv lps nv names seen vx' (nx++[(c,vc)]):=by
 have hs:=h.nS;have hz:=hg.size;simp at hz;have hlo:∀k,vx.ownBlock=some k->S<=k:=λk e=>(Qh h.xown k e).1;have hk:∀g,g < X.heap.size->vx.ownBlock≠some g->Y.heap[g]?=X.heap[g]?:=λg hlt hne=>(hg.block g (by simp;omega) (λe=>hne e.symm)).trans (Below.heap_alloc _ _ _ hlt)
 have qr:∀{B T m n:Nat} {v:Vq} {xs:List Vq},T≠239->X.ownsRow B T m v n xs->Y.ownsRow B T m v n xs:=by
  intro B T m n v xs hT ho';refine qm ho' (λg hg' hlt=>hk g hlt (λe=>?_));obtain⟨c1,hc1⟩:=qi ho' hg';obtain⟨c2,hc2⟩:=qi h.xown e;rw[hc1] at hc2;cases hc2;exact hT rfl
 have hsb:=(zg h.sn).1;have hN:=(zg h.bx).1;refine⟨(h.below.alloc (by omega) o).grown hg (by simp;omega) (λk e=>by have:=hlo k e;omega),(hk N hN (λe=>by have:=hlo N e;omega)).trans h.bx,⟨?_,λp hp=>qr (by decide) (h.l.each p hp)⟩,h.lS,qr (by decide) h.nm,(hk sb hsb (λe=>by have:=hlo sb e;omega)).trans h.sn,⟨hs.1,hs.2.1,by omega⟩,by simpa using ho,λp hp=>?_⟩
 ·exact qm h.l.row (λg hg' hlt=>hk g hlt (λe=>by have:=hlo g e;have:=h.lS g hg';omega))
 ·rcases List.mem_append.1 hp with hp | hp
  ·exact qr (by decide) (h.each p hp)
  ·simp at hp;subst hp;exact qr (by decide) hc
theorem qlc:∀(ts:List Tm) (xs b b':List ByteArray),qgo ts xs b=some b'->b'.length=b.length
 | [],xs,b,b',h=>by simp[qgo] at h;rw[h]
 | t::ts,[],b,b',h=>by simp[qgo] at h
 | t::ts,x::xs,b,b',h=>by
  unfold qgo at h;split at h
  ·split at h
   ·exact qlc ts xs b b' h
   ·cases h
  ·split at h
   ·have:=qlc ts xs _ b' h;rw[List.length_set] at this;exact this
   ·split at h
    ·exact qlc ts xs b b' h
    ·cases h
theorem q2v(a:Am)(g:Gr)(b b':List ByteArray)(h:qd9 a g b=some b'):b'.length=b.length:=by
 unfold qd9 at h;split at h
 ·exact qlc _ _ _ _ h
 ·cases h
theorem q0k(r:Rl)(i:Nat)(b:List ByteArray):(qa2 r i b).length=b.length:=by unfold qa2;simp
