/- A part -/
import Derived.Test.YtjajnhemgphefaaGreatDoorKMdN
set_option linter.all false
set_option maxRecDepth 100000
set_option maxHeartbeats 8000000
namespace Go.Proofs.YtjajnhemgphefaaGreatDoor
open Go renaming World->Wq,Value->Vq
open Go.RowKit Go.Shelf
def qf5(r:Rl)(at' v:Nat):Bool:=qy [r.head] v || qy (r.body.drop (at'+1)) v
def qa1(r:Rl)(at':Nat)(b:List By):List By:=(List.range b.length).map (λv=>if qf5 r at' v=true then b.getD v ⟨#[]⟩ else ⟨#[]⟩)
structure qd7(N:Nat)(w X:Wq)(box:Array Vq)(out:List By):Prop where
 below:Below N w X
 b1:X.heap[N]?=cC box 148
 row:X.heap[N+1]?=some (Obj.cells (out.map Value.string).toArray 9)
theorem qd7.alloc{N:Nat}{w X:Wq}{box:Array Vq}{out:List By}(h:qd7 N w X box out)(o:Obj):qd7 N w (X.alloc o) box out:=by
 have hs:N+2<=X.heap.size:=(zg h.row).1;exact⟨h.below.alloc (by omega) o,(Below.heap_alloc _ _ _ (by omega)).trans h.b1,(Below.heap_alloc _ _ _ (by omega)).trans h.row⟩
theorem qd7.set{N:Nat}{w X:Wq}{box:Array Vq}{out:List By}(h:qd7 N w X box out)(k:Nat)(x:By):qd7 N w (X.setCell (Ad (N+1) k) (St x)) box (out.set k x):=by
 refine⟨h.below.setCell (by simp) _,(Below.heap_setCell _ _ _ _ (by simp)).trans h.b1,?_⟩;rw[Qc h.row k (St x)];congr 2;rw[<- Array.toList_inj];simp[List.map_set]
theorem qd7.own{N:Nat}{w X:Wq}{box:Array Vq}{out:List By}(h:qd7 N w X box out)(hl:out.length<=1000):X.ownsRow N 9 1 (Sc (N+1) out.length out.length) out.length (out.map Value.string):=
 ⟨by simp,.inr ⟨N+1,out.length,(out.map Value.string).toArray,rfl,by omega,h.row,Nat.le_refl _,by unfold maxLen;omega,by simp,by rw[Nat.mul_one];exact List.take_of_length_le (by simp)⟩⟩
def qlj(f:Nat->By)(n k:Nat)(out:List By):Prop:=out.length=n/\∀j,j < n->out.getD j ⟨#[]⟩=if j < k then f j else ⟨#[]⟩
theorem qlj.start(f:Nat->By)(n:Nat):qlj f n 0 (List.replicate n ⟨#[]⟩):=by
 refine⟨by simp,λj hj=>?_⟩;rw[if_neg (by omega)];simp[hj]
theorem qlj.skip{f:Nat->By}{n k:Nat}{out:List By}(h:qlj f n k out)(hf:f k=⟨#[]⟩):qlj f n (k+1) out:=by
 refine⟨h.1,λj hj=>?_⟩;rw[h.2 j hj];by_cases e:j=k
 .subst e;rw[if_neg (by omega),if_pos (by omega),hf]
 .by_cases ad:j < k
  .rw[if_pos ad,if_pos (by omega)]
  .rw[if_neg ad,if_neg (by omega)]
theorem qlj.set{f:Nat->By}{n k:Nat}{out:List By}(h:qlj f n k out)(hk:k < n):qlj f n (k+1) (out.set k (f k)):=by
 refine⟨by rw[List.length_set];exact h.1,λj hj=>?_⟩;have h1:=h.1;by_cases e:j=k
 .subst e;rw[if_pos (by omega)];simp[List.getElem?_set,h1,hj]
 .have h2:=h.2 j hj
  have h3:(out.set k (f k)).getD j ⟨#[]⟩=out.getD j ⟨#[]⟩:=by
   simp only[List.getD_eq_getElem?_getD,List.getElem?_set];rw[if_neg (λh=>e h.symm)]
  rw[h3,h2];by_cases ad:j < k
  .rw[if_pos ad,if_pos (by omega)]
  .rw[if_neg ad,if_neg (by omega)]
theorem qlj.done{f:Nat->By}{n:Nat}{out:List By}(h:qlj f n n out):out=(List.range n).map f:=by
 apply List.ext_getElem
 .simp[h.1]
 .intro j h1 h2;have hj:j < n:=by rw[<- h.1];exact h1
  have:=h.2 j hj;rw[if_pos hj] at this;simp only[List.getD_eq_getElem?_getD,List.getElem?_eq_getElem h1,Option.getD_some] at this;simp[this]
theorem q5h(q:Rl×Vq×Vq)(g c:Nat)(ps:List (Am×Vq))(at':Nat)(vb:Vq)(b:List By)(w:Wq)(hR:qms w q g c ps)(hB:qt w vb b)(cm:0 < b.length)(cf:b.length<=1000)(a9:at' < ps.length)(hl:ps.length<=900)(hm:∀p∈(q.1.head,q.2.1)::ps,p.1.args.length<=1000000/\∀t∈p.1.args,t.num<=1000000) :
  Cs 225 #[vb,rlV q,Ii at'] w λe w'=>∃v',e=.returned v'/\w'.ownsRow w.heap.size 9 1 v' (qa1 q.1 at' b).length ((qa1 q.1 at' b).map Value.string)/\Below w.heap.size w w':=by
 obtain⟨i0,hi,bc,aw,au⟩:=info_parts Tryz.infoStr;unfold rlV;obtain⟨a1,a2,aq⟩:=qd hR.head;simp only at aq;have cc:=hR.val;have c5:=hR.cap;rw[aq,cc];obtain⟨gb,cb,e1,ce,_⟩:=hB.cell 0 cm;subst e1;obtain⟨N,hN⟩:∃N,N=w.heap.size:=⟨_,rfl⟩;have ay:=hN.symm;have Qa1:gb < N:=by rw[hN];exact ce
 have b4:q.1.body=ps.map (·.1):=hR.eq.symm
 have bu:∀v,qf5 q.1 at' v=(qy [q.1.head] v || qy ((ps.drop (at'+1)).map (·.1)) v):=by
  intro v;unfold qf5;rw[b4,List.map_drop]
 have HX:Hid (∀X,Below N w X->qal X (some ⟨g,0,none⟩) ps/\qa5 X (q.1.head,.slice a1 q.1.head.args.length a2)/\∀j,j < b.length->X.cell? (Ad gb j)=some (St (b.getD j ⟨#[]⟩))):=by
  intro X hX;have ch:Below w.heap.size w X:=by rw[ay];exact hX
  have b3:=hR.below ch;refine⟨b3.body,by have:=b3.head;rw[aq] at this;exact this,λj hj=>?_⟩;obtain⟨g',az,e',ap,c0⟩:=hB.cell j hj
  cases e'
  rw[(Below.cell hX Qa1),c0];simp[List.getElem?_eq_getElem hj]
 have cu:Hid (∀(X:Wq) (v:Nat),Below N w X->v<=1000->Cs 246 #[Sc X.heap.size 1 1,Ii v] (X.alloc (.cells #[St q.1.head.rel,.slice a1 q.1.head.args.length a2] 145)) λe w'=>e=.returned (.bool (qy [q.1.head] v))/\w'=X.alloc (.cells #[St q.1.head.rel,.slice a1 q.1.head.args.length a2] 145)):=by
  intro X v hX hv
  exact qi2 (some ⟨X.heap.size,0,none⟩) 1 [(q.1.head,.slice a1 q.1.head.args.length a2)] v _ (qal.single X q.1.head _ (HX.out X hX).2.1) (by simp) (by omega) (λp hp=>by
   simp at hp;subst hp
   exact hm (q.1.head,q.2.1) zs)
 have ci:Hid (∀(X:Wq) (v:Nat),Below N w X->v<=1000->Cs 246 #[.slice (if c=at'+1 then some ⟨g,0,none⟩ else some ⟨g,(at'+1)*2,none⟩) (ps.length - (at'+1)) (c - (at'+1)),Ii v] X λe w'=>e=.returned (.bool (qy ((ps.drop (at'+1)).map (·.1)) v))/\w'=X):=by
  intro X v hX hv;have a6:(ps.drop (at'+1)).length=ps.length - (at'+1):=List.length_drop
  have hA:qal X (if c=at'+1 then some ⟨g,0,none⟩ else some ⟨g,(at'+1)*2,none⟩) (ps.drop (at'+1)):=by
   split
   .rw[List.drop_eq_nil_of_le (by omega)];exact qal.nil
   .have:=(HX.out X hX).1.drop (at'+1);rw[Nat.zero_add] at this;exact this
  have h:=qi2 _ (c - (at'+1)) (ps.drop (at'+1)) v X hA (by omega) (by omega) (λp hp=>hm p (zt (List.mem_of_mem_drop hp)));rw[a6] at h;exact h
 obtain⟨f,hf⟩:∃f:Nat->By,f=λv=>if (qy [q.1.head] v || qy ((ps.drop (at'+1)).map (·.1)) v)=true then b.getD v ⟨#[]⟩ else ⟨#[]⟩:=⟨_,rfl⟩
 have hT:Hid (qa1 q.1 at' b=(List.range b.length).map f):=by
  show _=_;unfold qa1;rw[hf];congr 1;funext v;rw[bu v]
 have HF:Hid (∀v,f v=if (qy [q.1.head] v || qy ((ps.drop (at'+1)).map (·.1)) v)=true then b.getD v ⟨#[]⟩ else ⟨#[]⟩):=by intro v;rw[hf]
 generalize qa1 q.1 at' b=T at *;rw[<- hN];clear hR hB bu b4 hm hN aq cc hf;generalize q.1.head.rel=hrl at *;generalize q.1.head.args.length=hal at *;obtain⟨box,c3⟩:∃box:Array Vq,box=#[St hrl,.slice a1 hal a2,Sc g ps.length c]:=⟨_,rfl⟩;have Qav:i0.bytes*b.length<=281474976710656:=by rw[au];omega
 have cw:b.length<=maxLen:=by unfold maxLen;omega
 have HMk:Hid (∀w1,w1.ownsRow N 9 1 (Sc (N+1) b.length b.length) b.length (madeCells (Value.string ⟨#[]⟩).cells (b.length*1)).toList->(w.alloc (.cells #[St hrl,.slice a1 hal a2,Sc g ps.length c] 148)).grownBy w1 none->qd7 N w w1 #[St hrl,.slice a1 hal a2,Sc g ps.length c] (List.replicate b.length ⟨#[]⟩)):=by
  intro w1 ho hg;rw[qp3] at ho;refine⟨((Below.refl _ w).alloc (by omega) _).grown hg (by simp;omega) (λk e=>by cases e),(hg.block N (by simp;omega) (by simp)).trans (by rw[<- ay];exact zn w _),?_⟩;obtain⟨_,⟨hv,_⟩ | ⟨g',az,dd,hv,_,hh,h1,h2,h3,h4⟩⟩:=ho
  .cases hv
  .cases hv;rw[hh];congr 2;rw[<- Array.toList_inj];simp only[Nat.mul_one] at h3 h4;rw[<- h4,List.take_of_length_le (by simp[h3])]
 have bf:(w.alloc (.cells #[St hrl,.slice a1 hal a2,Sc g ps.length c] 148)).heap.size=N+1:=by simp[ay]
 have b9:Hid _:=bf;clear c3 bf;go_enter Tryz.func225,Tryz.ntmps225
 go_wp2_with (at_make;refine wpList_make_full _ rfl (.tmp 12) (.tmp 12) 22 rfl N 9 i0 (St ⟨#[]⟩) 1 Tryz.underlying22 hi bc aw .i64 .i64 _ _ b.length rfl rfl rfl rfl Qav cw (by rw[b9.out];omega) ?_;rw[b9.out];intro w1 ac aa;have bq:Hid _:=HMk.out w1 ac aa;clear ac aa)
 go_loopw [8] (λx wr=>∃(k:Nat) (out:List ByteArray),x=.int .i64 k/\k<=b.length/\qd7 N w wr #[.string hrl,.slice a1 hal a2,.slice (some ⟨g,0,none⟩) ps.length c] out/\Hid (qlj f b.length k out)) (λx _=>b.length - (intOf x).toNat)
 case atStart=>exact⟨0,_,rfl,zz,bq.out,qlj.start f _⟩
 case round=>
  clear bq HMk;obtain⟨k,out,rfl,co,hS,ah⟩:=hrel;by_cases ad:k < b.length
  .have dg:N+2<=wr.heap.size:=(zg hS.row).1;have x0:wr.cell? (Ad N 0)=some (St hrl):=by simp[World.cell?,hS.b1]
   have x1:wr.cell? (Ad N 1)=some (.slice a1 hal a2):=by simp[World.cell?,hS.b1]
   have b5:=cu.out wr k hS.below (by omega);have HS:Hid (qd7 N w wr #[St hrl,.slice a1 hal a2,Sc g ps.length c] out):=hS;have cd:=HF.out k;have bd:Hid _:=cd;clear hS cd;generalize qy [q.1.head] k=B2 at *;go_wp2_with fail;refine b5.mono ?_;rintro e w' ⟨rfl,al⟩;obtain⟨W3,a7⟩:∃W3,wr.alloc (.cells #[St hrl,.slice a1 hal a2] 145)=W3:=⟨_,rfl⟩;rw[a7] at al;obtain rfl:W3=w':=al.symm;have aj:qd7 N w W3 #[St hrl,.slice a1 hal a2,Sc g ps.length c] out:=by rw[<- a7];exact HS.out.alloc _
   have x2:W3.cell? (Ad N 2)=some (Sc g ps.length c):=by simp[World.cell?,aj.b1]
   have ag:=ci.out W3 k aj.below (by omega);have df:=(HX.out W3 aj.below).2.2 k ad;have am:out.length=b.length:=ah.out.1;have ck:W3.cell? (Ad (N+1) k)=some (St (out.getD k ⟨#[]⟩)):=by simp[World.cell?,aj.row,List.getElem?_eq_getElem (show k < out.length by omega)]
   have fk:W3.frozen? (Ad (N+1) k)=false:=by simp[World.frozen?,aj.row]
   have av:Hid (qd7 N w W3 #[St hrl,.slice a1 hal a2,Sc g ps.length c] out):=aj;generalize qy ((ps.drop (at'+1)).map (·.1)) k=B3 at *;generalize b.getD k ⟨#[]⟩=bk at *;clear b5 aj a7 HS am;have i3:at'+1<=ps.length:=by omega
   have i4:(at':Int)+1<=(ps.length:Int):=by omega
   have i5:(ps.length:Int)<=(c:Int):=by omega
   have i6:at'+1<=c:=by omega
   have b7:Hid (∀y,qd7 N w (W3.setCell (Ad (N+1) k) (St y)) #[St hrl,.slice a1 hal a2,Sc g ps.length c] (out.set k y)):=λy=>av.out.set k y
   have Qev:Hid ((B2 || B3)=true->qlj f b.length (k+1) (out.set k bk)):=by
    intro h;have h1:=bd.out;rw[if_pos h] at h1;rw[<- h1];exact ah.out.set ad
   have Qea:Hid ((B2 || B3)=false->qlj f b.length (k+1) out):=by
    intro h;have h1:=bd.out;rw[if_neg (by rw[h];simp)] at h1;exact ah.out.skip h1
   clear bd ah;by_cases be:c=at'+1
   .rw[if_pos be] at ag;have Qaw:c - (at'+1)=0:=by omega
    rw[Qaw] at ag;clear be;go_wp2_with fail;refine ag.mono ?_;rintro e w' ⟨rfl,al⟩;obtain rfl:W3=w':=al.symm;clear ag
    cases B2 <;> cases B3
    case false.false=>
     go_wp2
     go_roundw
     case rel=>exact⟨k+1,out,by go_num,by omega,av.out,Qea.out rfl⟩
     case measure=>simp[intOf];omega
    all_goals
     go_wp2
     go_roundw
     case rel=>exact⟨k+1,_,by go_num,by omega,b7.out bk,Qev.out rfl⟩
     case measure=>simp[intOf];omega
   .rw[if_neg be] at ag;go_wp2_with fail;refine ag.mono ?_;rintro e w' ⟨rfl,al⟩;obtain rfl:W3=w':=al.symm;clear ag
    cases B2 <;> cases B3
    case false.false=>
     go_wp2
     go_roundw
     case rel=>exact⟨k+1,out,by go_num,by omega,av.out,Qea.out rfl⟩
     case measure=>simp[intOf];omega
    all_goals
     go_wp2
     go_roundw
     case rel=>exact⟨k+1,_,by go_num,by omega,b7.out bk,Qev.out rfl⟩
     case measure=>simp[intOf];omega
  .have b8:k=b.length:=by omega
   have bo:out=(List.range b.length).map f:=by
    have:=ah.out;rw[b8] at this;exact this.done
   have am:out.length=b.length:=ah.out.1;have bb:=hS.own (by omega);rw[am] at bb;have cg:Hid _:=bb;have HB:Hid (Below N w wr):=hS.below;have cj:Hid (T=out):=by show _=_;rw[hT.out,bo]
   have c7:Hid (out.length=b.length):=am;clear hS bb bo b8 am ah;go_wp2;go_ret;rw[cj.out,c7.out];exact⟨_,rfl,cg.out,HB.out⟩
theorem Tryz.infoBool:(Tryz.prog.info? 4).map (λi=>(i.zero,i.size,i.bytes))=some (some (.bool false),1,1):=by kernel_rfl
theorem q49(w:Wq):Cs 224 #[] w λe w'=>e=.returned (Sc w.heap.size 4096 4096)/\w'.ownsRow w.heap.size 4 1 (Sc w.heap.size 4096 4096) 4096 (List.replicate 4096 (.bool false))/\Below w.heap.size w w':=by
 obtain⟨i0,hi,bc,aw,au⟩:=info_parts Tryz.infoBool;have hc:i0.bytes*4096<=281474976710656:=by rw[au];decide
 have hm:4096<=maxLen:=by unfold maxLen;decide
 have b6:(madeCells (Value.bool false).cells (4096*1)).toList=List.replicate 4096 (.bool false):=qvy (.bool false) 4096;have HMd:Hid _:=b6;clear b6;go_enter Tryz.func224,Tryz.ntmps224;go_wp2
 go_loopw [1,2] (λx p wr=>wr=w/\((x=.int .i64 1/\p=.int .i64 0)\/(x=.int .i64 8/\p=.int .i64 1)\/(x=.int .i64 64/\p=.int .i64 2)\/(x=.int .i64 512/\p=.int .i64 3)\/(x=.int .i64 4096/\p=.int .i64 4))) (λ_ p _=>4 - (intOf p).toNat)
 case atStart=>exact⟨rfl,.inl ⟨rfl,rfl⟩⟩
 case round=>
  obtain⟨cq,cy⟩:=hrel;obtain rfl:w=wr:=cq.symm;rcases cy with⟨rfl,rfl⟩ | ⟨rfl,rfl⟩ | ⟨rfl,rfl⟩ | ⟨rfl,rfl⟩ | ⟨rfl,rfl⟩
  case inr.inr.inr.inr=>
   go_wp2_with (at_make;refine wpList_make_full _ rfl (.tmp 9) (.tmp 9) 339 rfl w.heap.size 4 i0 (.bool false) 1 Tryz.underlying339 hi bc aw .i64 .i64 _ _ 4096 rfl rfl rfl rfl hc hm zl ?_;intro w1 ac aa)
   go_ret;rw[HMd.out] at ac;exact⟨rfl,ac,(Below.refl _ w).grown aa zl (λk hk=>by cases hk)⟩
  all_goals
   go_wp2
   go_roundw
   case rel=>simp
   case measure=>simp[intOf]
def qbe(names:List By)(n:Nat)(x:By):Nat:=if Qx names x < names.length then n*8+Qx names x else n
def qhg(names b:List By):Nat:=b.foldl (qbe names) 0
theorem qmf(x y:By):Q5 x y=decide (x=y):=by
 unfold Q5;rw[qeo];by_cases h:x=y
 .simp[h]
 .have:¬y=x:=λe=>h e.symm;simp[h,this]
def qii(l:List By):Prop:=∀(i j:Nat) (hi:i < l.length) (hj:j < l.length),l[i]=l[j]->i=j
theorem q54(names:List By)(x:By)(hn:qii names)(k:Nat)(hk:k < names.length):Q5 x names[k]=decide (Qx names x=k):=by
 rw[qmf];by_cases h:x=names[k]
 .have:Qx names x=k:=by
   refine qj2 names x k hk (by rw[qmf];simp[h]) (λj hj dk=>?_);rw[qmf];simp only[decide_eq_false_iff_not];intro e;rw[h] at e;have:=hn _ _ _ _ e;omega
  rw[decide_eq_true h,decide_eq_true this]
 .simp only[h,decide_false];symm;simp only[decide_eq_false_iff_not];intro e;have h1:Q5 x (names[Qx names x]'(by rw[e];exact hk))=true:=List.findIdx_getElem (p:=Q5 x) (xs:=names) (w:=by show names.findIdx (Q5 x) < names.length;exact (show Qx names x < names.length by rw[e];exact hk));rw[qmf] at h1;simp only[decide_eq_true_eq] at h1;apply h;rw[h1];congr 1
theorem qyd(names:List By)(n v:Nat)(x:By)(h8:names.length<=8)(hn:n < 8 ^ v):qbe names n x < 8 ^ (v+1):=by
 unfold qbe;rw[Nat.pow_succ];split <;> omega
theorem q73(vb vn:Vq)(b names:List By)(w:Wq)(hB:qt w vb b)(a8:qt w vn names)(cf:b.length<=8)(h8:names.length<=8)(hd:qii names) :
  Cs 226 #[vb,vn] w λe w'=>e=.returned (Ii (qhg names b))/\Below w.heap.size w w':=by
 obtain⟨b1,b2,rfl⟩:=qd hB;obtain⟨n1,n2,rfl⟩:=qd a8;have HB:Hid (qt w (.slice b1 b.length b2) b):=hB;have HN:Hid (qt w (.slice n1 names.length n2) names):=a8;obtain⟨T,hT⟩:∃T,T=qhg names b:=⟨_,rfl⟩;rw[<- hT];have HT:Hid (T=qhg names b):=hT;clear hB a8 hT;have dh:(8:Nat) ^ 8=16777216:=by decide
 go_enter Tryz.func226,Tryz.ntmps226;go_wp2
 go_loopw [5,6] (λx p wr=>∃(n v:Nat),x=.int .i64 n/\p=.int .i64 v/\v<=b.length/\(∃d,wr=w.drewN d)/\Hid (n < 8 ^ v)/\Hid (T=(b.drop v).foldl (qbe names) n)) (λ_ p _=>b.length - (intOf p).toNat)
 case atStart=>exact⟨0,0,rfl,rfl,zz,⟨0,rfl⟩,by show (0:Nat) < 8 ^ 0;decide,HT⟩
 case round=>
  obtain⟨n,v,rfl,rfl,co,⟨d,rfl⟩,bj,ak⟩:=hrel;by_cases ad:v < b.length
  .obtain⟨gb,cb,e1,ce,cv⟩:=HB.out.cell v ad;cases e1;rw[List.drop_eq_getElem_cons ad] at ak;simp only[List.foldl_cons] at ak;have a9:=q54 names b[v] hd;have bi:=qyd names n v b[v] h8 bj.out;have bv:qbe names n b[v]=if Qx names b[v] < names.length then n*8+Qx names b[v] else n:=rfl;generalize b[v]=x at *
   have db:n < 16777216:=by
    have h1:=bj.out;have h2:(8:Nat) ^ v<=8 ^ 8:=Nat.pow_le_pow_right (by decide) (by omega);omega
   generalize Qx names x=sx at *;have cp:Hid (∀(k:Nat) (hk:k < names.length),Q5 x names[k]=decide (sx=k)):=a9;have ct:Hid (qbe names n x=if sx < names.length then n*8+sx else n):=bv;have cl:Hid (qbe names n x < 8 ^ (v+1)):=bi;clear a9 bv bi;go_wp2
   go_loopw [5,7] (λy p wr=>∃(m k:Nat),y=.int .i64 m/\p=.int .i64 k/\k<=names.length/\(∃d,wr=w.drewN d)/\Hid (m=if sx < k then n*8+sx else n)) (λ_ p _=>names.length - (intOf p).toNat)
   case atStart=>exact⟨n,0,rfl,rfl,zz,⟨d,rfl⟩,by show n=_;rw[if_neg (by omega)]⟩
   case round=>
    obtain⟨m,k,rfl,rfl,dj,⟨d2,rfl⟩,ai⟩:=hrel
    have dc:m<=16777216*8+8:=by
     have:=ai.out;split at this <;> omega
    by_cases bn:k < names.length
    .obtain⟨gn,cn,e2,de,di⟩:=HN.out.cell k bn;cases e2;have an:=cp.out k bn;generalize names[k]=y at *;by_cases hs:sx=k
     .subst hs;have cr:m=n:=by have:=ai.out;rw[if_neg (by omega)] at this;exact this
      subst cr;have ae:(y.toList == x.toList)=true:=by have:=an;unfold Q5 at this;rw[this];simp
      have c4:(x.toList == y.toList)=true:=by rw[qeo] at ae ⊢;simp at ae ⊢;exact ae.symm
      have ax:Hid ((m*8+sx:Nat)=if sx < sx+1 then m*8+sx else m):=by show _=_;rw[if_pos (by omega)]
      clear an ae ai;go_wp2;go_quiet (fail);go_wp2
      go_roundw
      case rel=>exact⟨m*8+sx,sx+1,by go_num,by go_num,by omega,⟨_,rfl⟩,ax⟩
      case measure=>simp[intOf];omega
     .have ae:(y.toList == x.toList)=false:=by have:=an;unfold Q5 at this;rw[this];simp[hs]
      have c4:(x.toList == y.toList)=false:=by rw[qeo] at ae ⊢;simp at ae ⊢;exact λe=>ae e.symm
      have ax:Hid (m=if sx < k+1 then n*8+sx else n):=by
       show _=_;rw[ai.out];by_cases h:sx < k
       .rw[if_pos h,if_pos (by omega)]
       .rw[if_neg h,if_neg (by omega)]
      clear an ae ai;go_wp2;go_quiet (fail);go_wp2
      go_roundw
      case rel=>exact⟨m,k+1,by go_num,by go_num,by omega,⟨_,rfl⟩,ax⟩
      case measure=>simp[intOf];omega
    .have bt:k=names.length:=by omega
     have Qba:m=qbe names n x:=by rw[ct.out,ai.out,bt]
     have cx:Hid (m < 8 ^ (v+1)):=by rw[Qba];exact cl
     have cz:Hid (T=(b.drop (v+1)).foldl (qbe names) m):=by rw[Qba];exact ak
     clear bt Qba ai;go_wp2
     go_roundw
     case rel=>exact⟨m,v+1,by go_num,by go_num,by omega,⟨_,rfl⟩,cx,cz⟩
     case measure=>simp[intOf];omega
  .rw[List.drop_eq_nil_of_le (by omega)] at ak;have c9:T=n:=ak.out;subst c9;clear ak HT;go_wp2;go_ret;exact⟨rfl,qu zr⟩
def qb3(l:List (List By))(gs:List Gr):List (List By×Gr):=l.flatMap (λb=>gs.map (λg=>(b,g)))
def Qu(r:Rl)(i:Nat)(names:List By)(a:Am)(st:List Bool×List (List By))(p:List By×Gr):List Bool×List (List By):=
 match qcd a p.2 p.1 with
 | none=>st
 | some c=>
  if qds r i=true then
   (if st.1.getD (qhg names (qa1 r i c)) false=true then st else (st.1.set (qhg names (qa1 r i c)) true,st.2++[qa1 r i c]))
  else (st.1,st.2++[c])
def qcs(r:Rl)(names:List By)(gs:List Gr)(l:List (List By))(i:Nat):List (List By):=
 match r.body[i]? with
 | none=>l
 | some a=>((qb3 l gs).foldl (Qu r i names a) (List.replicate 4096 false,[])).2
def qkq(r:Rl)(gs:List Gr):List (List By):=(List.range r.body.length).foldl (qcs r (qa7 [] (qam gs)) gs) [qao]
structure qbw(W:Wq)(v:Vq)(ps:List (List By×Vq)):Prop where
 row:W.ownsRow 0 239 1 v ps.length (ps.map (·.2))
 each:∀p∈ps,qt W p.2 p.1
theorem q2o(ps:List (List By×Vq)):ps.map (·.2)=ps.flatMap (λp=>[p.2]):=by
 induction ps with
 | nil=>rfl
 | cons x l ih=>simp[ih]
theorem qbw.cell{W:Wq}{v:Vq}{ps:List (List By×Vq)}(h:qbw W v ps)(k:Nat)(hk:k < ps.length) :
  ∃g cap,v=Sc g ps.length cap/\g < W.heap.size/\W.cell? (Ad g k)=some ps[k].2/\(∃a c,ps[k].2=.slice a ps[k].1.length c)/\qt W ps[k].2 ps[k].1:=by
 have h2:=h.row;rw[q2o] at h2;obtain⟨g,cap,e1,e2,e3,e4,e5⟩:=qb0 h2 (λ_=>rfl) (by omega);have hA:=h.each ps[k] (zm hk);have h3:=e5 k 0 hk ps[k].2 (by decide) rfl;rw[Nat.mul_one,Nat.add_zero] at h3;exact⟨g,cap,e1,e3,h3,qd hA,hA⟩
theorem qbw.below{W W':Wq}{v:Vq}{ps:List (List By×Vq)}(h:qbw W v ps)(hb:Below W.heap.size W W'):qbw W' v ps:=⟨qk h.row hb,λp hp=>(h.each p hp).below hb⟩
structure qgd(N S sb:Nat)(w X:Wq)(box:Array Vq)(lv:Vq)(af:List (List By×Vq))(nv:Vq)(names:List By)(ab:List Bool)(vx:Vq)(nx:List (List By×Vq)):Prop where
 below:Below N w X
 bx:X.heap[N]?=cC box 148
 l:qbw X lv af
 lS:∀g,lv.ownBlock=some g->g < S
 nm:qt X nv names
 sn:X.heap[sb]?=some (Obj.cells (ab.map Value.bool).toArray 4)
 nS:N < sb/\sb < S/\S<=X.heap.size
 xown:X.ownsRow S 239 1 vx nx.length (nx.map (·.2))
 each:∀p∈nx,qt X p.2 p.1
variable {N S sb:Nat} {w X Y:Wq} {box:Array Vq} {lv nv vx b0:Vq} {af nx:List (List By×Vq)} {names:List By} {ab:List Bool}
theorem qgd.grows(h:qgd N S sb w X box lv af nv names ab vx nx)(hb:Below X.heap.size X Y):qgd N S sb w Y box lv af nv names ab vx nx:=by
 have hs:=h.nS;have hz:=hb.size;exact⟨h.below.trans (hb.mono (by omega)),(hb.block _ (zg h.bx).1).trans h.bx,h.l.below hb,h.lS,h.nm.below hb,(hb.block _ (zg h.sn).1).trans h.sn,⟨hs.1,hs.2.1,by omega⟩,qk h.xown hb,λp hp=>(h.each p hp).below hb⟩
theorem qgd.mark(h:qgd N S sb w X box lv af nv names ab vx nx)(k:Nat):qgd N S sb w (X.setCell (Ad sb k) (.bool true)) box lv af nv names (ab.set k true) vx nx:=by
 have hs:=h.nS;have hk:∀g,g≠sb->(X.setCell (Ad sb k) (.bool true)).heap[g]?=X.heap[g]?:=λg hg=>Below.heap_setCell _ _ _ _ hg
 have qq:∀{B T m n:Nat} {v:Vq} {xs:List Vq},T≠4->X.ownsRow B T m v n xs->(X.setCell (Ad sb k) (.bool true)).ownsRow B T m v n xs:=by
  intro B T m n v xs hT ho;refine qm ho (λg hg _=>hk g (λe=>?_));obtain⟨c,hc⟩:=qh ho hg;rw[e,h.sn] at hc;cases hc;exact hT rfl
 refine⟨h.below.setCell (by simp;omega) _,(hk N (by omega)).trans h.bx,⟨qq (by decide) h.l.row,λp hp=>qq (by decide) (h.l.each p hp)⟩,h.lS,qq (by decide) h.nm,?_,⟨hs.1,hs.2.1,by simpa using hs.2.2⟩,qq (by decide) h.xown,λp hp=>qq (by decide) (h.each p hp)⟩;rw[Qc h.sn k (.bool true)];congr 2;rw[<- Array.toList_inj];simp[List.map_set]
theorem qgd.app(h:qgd N S sb w X box lv af nv names ab vx nx)(c:List By)(vc:Vq)(hc:qt X vc c){o:Obj}(hg:(X.alloc o).grownBy Y vx.ownBlock)(ho:Y.ownsRow S 239 1 b0 (nx.length+1) (nx.map (·.2)++[vc])):qgd N S sb w Y box lv af nv names ab b0 (nx++[(c,vc)]):=by
 have hs:=h.nS;have hz:=hg.size;simp at hz;have ao:∀k,vx.ownBlock=some k->S<=k:=λk e=>(Qe h.xown k e).1;have hk:∀g,g < X.heap.size->vx.ownBlock≠some g->Y.heap[g]?=X.heap[g]?:=λg ad c6=>(hg.block g (by simp;omega) (λe=>c6 e.symm)).trans (Below.heap_alloc _ _ _ ad)
 have qq:∀{B T m n:Nat} {v:Vq} {xs:List Vq},T≠239->X.ownsRow B T m v n xs->Y.ownsRow B T m v n xs:=by
  intro B T m n v xs hT ca;refine qm ca (λg ap ad=>hk g ad (λe=>?_));obtain⟨c1,da⟩:=qh ca ap;obtain⟨c2,bh⟩:=qh h.xown e;rw[da] at bh;cases bh;exact hT rfl
 have c8:=(zg h.sn).1;have hN:=(zg h.bx).1;refine⟨(h.below.alloc (by omega) o).grown hg (by simp;omega) (λk e=>by have:=ao k e;omega),(hk N hN (λe=>by have:=ao N e;omega)).trans h.bx,⟨?_,λp hp=>qq (by decide) (h.l.each p hp)⟩,h.lS,qq (by decide) h.nm,(hk sb c8 (λe=>by have:=ao sb e;omega)).trans h.sn,⟨hs.1,hs.2.1,by omega⟩,by simpa using ho,λp hp=>?_⟩
 .exact qm h.l.row (λg ap ad=>hk g ad (λe=>by have:=ao g e;have:=h.lS g ap;omega))
 .rcases List.mem_append.1 hp with hp | hp
  .exact qq (by decide) (h.each p hp)
  .simp at hp;subst hp;exact qq (by decide) hc
theorem qls:∀(ts:List Tm) (xs b b':List By),qgv ts xs b=some b'->b'.length=b.length
 | [],xs,b,b',h=>by simp[qgv] at h;rw[h]
 | t::ts,[],b,b',h=>by simp[qgv] at h
 | t::ts,x::xs,b,b',h=>by
  unfold qgv at h;split at h
  .split at h
   .exact qls ts xs b b' h
   .cases h
  .split at h
   .have:=qls ts xs _ b' h;rw[List.length_set] at this;exact this
   .split at h
    .exact qls ts xs b b' h
    .cases h
theorem q3s(a:Am)(g:Gr)(b b':List By)(h:qcd a g b=some b'):b'.length=b.length:=by
 unfold qcd at h;split at h
 .exact qls _ _ _ _ h
 .cases h
theorem q1c(r:Rl)(i:Nat)(b:List By):(qa1 r i b).length=b.length:=by unfold qa1;simp
