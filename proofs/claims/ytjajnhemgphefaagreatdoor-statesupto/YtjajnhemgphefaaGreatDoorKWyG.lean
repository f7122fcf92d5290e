/- A part -/
import Derived.Test.YtjajnhemgphefaaGreatDoorKLea
import Derived.Test.YtjajnhemgphefaaGreatDoorKWyB
set_option linter.all false
set_option maxRecDepth 100000
set_option maxHeartbeats 4000000
namespace Go.Proofs.YtjajnhemgphefaaGreatDoor
open Go renaming World->Wq,Value->Vq
open Go.RowKit Go.Shelf Go.Maps
variable {W W':Wq} {b g i k be bm rb af ae:Nat} {L:List (Gd×Int)} {t:TypeId} {S:Nat->Prop} {vr vn vk vf:Vq} {ab:List Nat} {Sf:Nat->Nat->Prop}
def q6w(Bx:Nat)(p:Gd×Int->Bool)(ok:Gd×Int->Prop)(g:Nat)(w:Wq):Prop:=
 ∀W,Chg w W (λk=>k=g)->∀d,ok d->Cs 86 #[.agg #[St d.1.rel,St d.1.x,St d.1.y,Ii d.2],.pointer (some ⟨Bx,0,none⟩)] W λe w'=>e=.returned (.bool (p d))/\Below W.heap.size W w'
def Qfn(p:Gd×Int->Bool)(l:List (Gd×Int))(i:Int):Prop:=(i=-1/\∀d∈l,p d=false)\/∃k:Nat,i=k/\∃hk:k < l.length,p l[k]=true/\∀j,(hj:j < l.length)->j < k->p l[j]=false
theorem q40(v:Vq)(l:List (Gd×Int))(b g c Bx:Nat)(p:Gd×Int->Bool)(ok:Gd×Int->Prop)(w:Wq)(hv:v=.slice (some ⟨g,0,none⟩) l.length c)(hS:w.ownsRow b 161 4 v l.length (l.flatMap qr))(hl:l.length<=1000)(an:∀d∈l,ok d)(hF:q6w Bx p ok g w) :
  Cs 145 #[v,.func (.func 86) #[] #[.pointer (some ⟨Bx,0,none⟩)]] w λe w'=>∃i:Int,e=.returned (Ii i)/\Qfn p l i/\Below w.heap.size w w':=by
 have Qj:∀k (hk:k < l.length),w.cell? (Ad g (k*4))=some (St (l[k]).1.rel)/\w.cell? (Ad g (k*4+1))=some (St (l[k]).1.x)/\w.cell? (Ad g (k*4+2))=some (St (l[k]).1.y)/\w.cell? (Ad g (k*4+3))=some (Ii (l[k]).2)/\g < w.heap.size:=by
  intro k hk;obtain⟨g',c',h1,h2⟩:=qg9 hS hk;rw[hv] at h1;cases h1;exact h2
 subst hv;have HC:Hid _:=Qj;have HF:Hid (q6w Bx p ok g w):=hF;have a6:Hid _:=an;clear Qj hS hF an;go_enter Tryz.func145,Tryz.ntmps145;go_wp2
 go_loopw [8] (λi wr=>∃k:Nat,k<=l.length/\i=.int .i64 k/\Hid (∀j,(hj:j < l.length)->j < k->p l[j]=false)/\Below w.heap.size w wr) (λi _=>l.length - (intOf i).toNat)
 case atStart=>exact⟨0,zz,rfl,λj _ hj=>by omega,zr⟩
 case round=>
  obtain⟨k,hk,rfl,ai,hb⟩:=hrel;by_cases ac:k < l.length
  .obtain⟨q0,q1,q2,q3,hg⟩:=HC.out k ac;have cm:=(hb.cell (p:=⟨g,k*4,none⟩) hg).trans q0;have cd:=(hb.cell (p:=⟨g,k*4+1,none⟩) hg).trans q1;have ck:=(hb.cell (p:=⟨g,k*4+2,none⟩) hg).trans q2;have ci:=(hb.cell (p:=⟨g,k*4+3,none⟩) hg).trans q3;have ap:=HF.out wr ⟨hb.os,hb.tape,hb.output,hb.size,λk hk _=>hb.block k hk⟩ l[k] (a6.out _ (zm ac));have i1:(k:Int) < (l.length:Int):=by omega
   generalize hbb:p l[k]=bb at *;have bi:Hid (p l[k]=bb):=hbb;clear hbb q0 q1 q2 q3;generalize htk:l[k]=tk at *;have bf:Hid (l[k]=tk):=htk;clear htk
   cases bb with
   | true=>
    go_wp2_with fail;refine ap.mono ?_;rintro e w1 ⟨rfl,aa⟩;go_wp2;go_ret;exact⟨k,rfl,.inr ⟨k,rfl,ac,by rw[bf.out];exact bi.out,ai.out⟩,hb.trans (aa.mono hb.size)⟩
   | false=>
    go_wp2_with fail;refine ap.mono ?_;rintro e w1 ⟨rfl,aa⟩;go_wp2
    go_roundw
    case rel=>
     refine⟨k+1,by omega,by go_num,?_,hb.trans (aa.mono hb.size)⟩;intro j hj ch;by_cases e:j=k
     .subst e;rw[bf.out];exact bi.out
     .exact ai.out j hj (by omega)
    case measure=>simp[intOf];omega
  .go_wp2;go_ret;refine⟨-1,rfl,.inl ⟨rfl,λd hd=>?_⟩,hb⟩;obtain⟨j,hj,rfl⟩:=List.getElem_of_mem hd;exact ai.out j hj (by omega)
theorem qu8:∀(L:List (Gd×Int)) (q r:Nat),r < 4->(L.flatMap qr)[q*4+r]?=(L[q]?).bind (λd=>(qr d)[r]?)
 | [],q,r,_=>by simp
 | d::L,0,r,hr=>by
  rw[List.flatMap_cons,List.getElem?_append_left (by rw[qb7];omega)];simp
 | d::L,q+1,r,hr=>by
  rw[List.flatMap_cons,List.getElem?_append_right (by rw[qb7];omega),qb7,show (q+1)*4+r - 4=q*4+r by omega,qu8 L q r hr];simp
def Qb7(W:Wq)(g o:Nat)(d:Gd×Int):Wq:=(((W.setCell (Ad g o) (St d.1.rel)).setCell (Ad g (o+1)) (St d.1.x)).setCell (Ad g (o+2)) (St d.1.y)).setCell (Ad g (o+3)) (Ii d.2)
theorem qyt(W:Wq)(g o:Nat)(d:Gd×Int):Qb7 W g o d=W.setCells g o (qr d):=rfl
theorem q5r{c:Nat}(h:W.ownsRow b 161 4 (.slice (some ⟨g,0,none⟩) L.length c) L.length (L.flatMap qr)){i:Nat}(hi:i < L.length)(d:Gd×Int) :
  (Qb7 W g (i*4) d).ownsRow b 161 4 (.slice (some ⟨g,0,none⟩) L.length c) L.length ((L.set i d).flatMap qr)/\Chg W (Qb7 W g (i*4) d) (λk=>k=g):=by
 obtain⟨h0,⟨hv,_⟩ | ⟨g',c',am,hv,h1,h2,h3,h4,h5,h6⟩⟩:=h
 .cases hv
 cases hv;have bu:L.length*4<=c*4:=Nat.mul_le_mul_right 4 h3;have cn:i*4+4<=L.length*4:=by omega
 obtain⟨aj,k1,k2,k3,k4⟩:=qgy (b:=g) (qr d) (i*4) W am h2 (by rw[qb7,h5];omega);rw[qyt];refine⟨⟨by rw[qk3];simp,.inr ⟨g,c,aj,rfl,h1,k1,h3,h4,k2.trans h5,?_⟩⟩,qh6 _ _ _ (Chg.refl _ _)⟩;refine List.ext_getElem? (λm=>?_);obtain⟨q,r,hr,rfl⟩:∃q r,r < 4/\m=q*4+r:=⟨m / 4,m % 4,Nat.mod_lt _ (by decide),by omega⟩;rw[qu8 _ _ _ hr,List.getElem?_take];by_cases hq:q < L.length
 .rw[if_pos (by omega)]
  have hL:am[q*4+r]?=(L[q]?).bind (λd=>(qr d)[r]?):=by
   rw[<- qu8 L q r hr,<- h6,List.getElem?_take,if_pos (by omega)];simp
  by_cases bt:q=i
  .subst bt;have:=k3 r (by rw[qb7];exact hr);simp only[Array.getElem?_toList];rw[this,List.getElem?_set_self hq];rfl
  .have:=k4 (q*4+r) (by rw[qb7];omega);simp only[Array.getElem?_toList];rw[this,hL,List.getElem?_set_ne (by omega)]
 .rw[if_neg (by omega),List.getElem?_eq_none (by simp;omega)];rfl
theorem q6v{z:Array Vq}{n:Nat}{v:Vq}(h:v∈(Builtin.zeroCells z n).toList):v∈z.toList:=by
 unfold Builtin.zeroCells at h;rw[Array.mem_toList_iff,Array.mem_map] at h;obtain⟨i,hi,rfl⟩:=h;rw[Array.mem_range] at hi
 have hz:0 < z.size:=by
  rcases Nat.eq_zero_or_pos z.size with e | e
  .rw[e] at hi;simp at hi
  .exact e
 have:=Nat.mod_lt i hz;rw[getElem!_pos z _ this,Array.mem_toList_iff];exact Array.getElem_mem _
theorem qus(w:Wq)(b o m c:Nat)(hm:0 < m)(hc:∀j,j < m*4->(w.cell? (Ad b (o+j))).isSome=true)(hf:∀j,j < m*4->w.frozen? (Ad b (o+j))=false) :
  ∃zs:List Vq,zs.length=m*4/\(Builtin.clear_ #[96] 0 #[.slice (some ⟨b,o,none⟩) m c]).run Tryz.prog w=.ok (.tuple #[]) (w.setCells b o zs):=by
 have aw:(Builtin.zeroCells (Value.agg #[St ⟨#[]⟩,St ⟨#[]⟩,St ⟨#[]⟩,Ii 0]).cells m).toList.length=m*4:=by
  rw[Array.length_toList,qnr];rfl
 have aq:=run_storeCells_cells (P:=Tryz.prog) b o (Builtin.zeroCells (Value.agg #[St ⟨#[]⟩,St ⟨#[]⟩,St ⟨#[]⟩,Ii 0]).cells m).toList 0 w (by rw[aw];simpa using hc) (by rw[aw];simpa using hf) (by
  intro v hv;have:=q6v hv;have h4:(Value.agg #[St ⟨#[]⟩,St ⟨#[]⟩,St ⟨#[]⟩,Ii 0]).cells.toList=[St ⟨#[]⟩,St ⟨#[]⟩,St ⟨#[]⟩,Ii 0]:=rfl;rw[h4] at this;simp only[List.mem_cons,List.not_mem_nil,or_false] at this
  rcases this with rfl | rfl | rfl | rfl <;> rfl)
 simp only[Nat.add_zero] at aq;refine⟨_,aw,?_⟩;obtain⟨m,rfl⟩:∃m',m=m'+1:=⟨m - 1,by omega⟩;simp[Builtin.clear_,run_underlying Tryz.underlying96,Tryz.zeroValue161 w,aq]
theorem q8d{c n:Nat}{zs:List Vq}(h:W.ownsRow b 161 4 (.slice (some ⟨g,0,none⟩) n c) n (L.flatMap qr))(hL:L.length=n)(hi:i<=n)(hz:zs.length=(n - i)*4) :
  (W.setCells g (i*4) zs).ownsRow b 161 4 (.slice (some ⟨g,0,none⟩) i c) i ((L.take i).flatMap qr)/\Chg W (W.setCells g (i*4) zs) (λk=>k=g):=by
 obtain⟨h0,⟨hv,_⟩ | ⟨g',c',am,hv,h1,h2,h3,h4,h5,h6⟩⟩:=h
 .cases hv
 cases hv;have bu:n*4<=c*4:=Nat.mul_le_mul_right 4 h3;have ca:i*4+(n - i)*4=n*4:=by rw[<- Nat.add_mul];congr 1;omega
 obtain⟨aj,k1,k2,k3,k4⟩:=qgy (b:=g) zs (i*4) W am h2 (by rw[hz,h5];omega);refine⟨⟨by rw[qk3,List.length_take];congr 1;omega,.inr ⟨g,c,aj,rfl,h1,k1,by omega,h4,k2.trans h5,?_⟩⟩,qh6 _ _ _ (Chg.refl _ _)⟩;refine List.ext_getElem? (λm=>?_);obtain⟨q,r,hr,rfl⟩:∃q r,r < 4/\m=q*4+r:=⟨m / 4,m % 4,Nat.mod_lt _ (by decide),by omega⟩;rw[qu8 _ _ _ hr,List.getElem?_take];by_cases hq:q < i
 .rw[if_pos (by omega)]
  have b5:am[q*4+r]?=(L[q]?).bind (λd=>(qr d)[r]?):=by
   rw[<- qu8 L q r hr,<- h6,List.getElem?_take,if_pos (by omega)];simp
  have:=k4 (q*4+r) (.inl (by omega));simp only[Array.getElem?_toList];rw[this,b5,List.getElem?_take,if_pos hq]
 .rw[if_neg (by omega),List.getElem?_eq_none (by simp;omega)];rfl
theorem qu6{p:Gd×Int->Bool}{l:List (Gd×Int)}{j:Nat}(hj:j < l.length)(h1:L.take i=(l.take j).filter (λd=>!p d))(h2:L.drop j=l.drop j)(cg:L.length=l.length)(az:i<=j) :
  (p l[j]=true->L.take i=(l.take (j+1)).filter (λd=>!p d)/\L.drop (j+1)=l.drop (j+1))/\
  (p l[j]=false->(L.set i l[j]).take (i+1)=(l.take (j+1)).filter (λd=>!p d)/\(L.set i l[j]).drop (j+1)=l.drop (j+1)):=by
 have hd:L.drop (j+1)=l.drop (j+1):=by
  have:=congrArg (List.drop 1) h2;rw[List.drop_drop,List.drop_drop] at this
  first | exact this | (rw[Nat.add_comm] at this;exact this)
 have ht:(l.take (j+1)).filter (λd=>!p d)=(l.take j).filter (λd=>!p d)++(if p l[j] then [] else [l[j]]):=by
  rw[List.take_succ_eq_append_getElem hj,List.filter_append];congr 1
  cases hp:p l[j] <;> simp[hp]
 refine⟨λhp=>⟨by rw[ht,hp,h1];simp,hd⟩,λhp=>⟨?_,?_⟩⟩
 .rw[ht,hp,<- h1];have b7:i < (L.set i l[j]).length:=by simp;omega
  rw[List.take_succ_eq_append_getElem b7,List.getElem_set_self];simp only[Bool.false_eq_true,if_false];congr 1;rw[List.take_set_of_le (Nat.le_refl i)]
 .rw[List.drop_set_of_lt (by omega)];exact hd
theorem quv(v:Vq)(l:List (Gd×Int))(b g c Bx:Nat)(p:Gd×Int->Bool)(ok:Gd×Int->Prop)(w:Wq)(hv:v=.slice (some ⟨g,0,none⟩) l.length c)(hS:w.ownsRow b 161 4 v l.length (l.flatMap qr))(hl:l.length<=1000)(an:∀d∈l,ok d)(hF:q6w Bx p ok g w) :
  Cs 85 #[v,.func (.func 86) #[] #[.pointer (some ⟨Bx,0,none⟩)]] w λe w'=>e=.returned (.slice (some ⟨g,0,none⟩) (l.filter (λd=>!p d)).length c)/\w'.ownsRow b 161 4 (.slice (some ⟨g,0,none⟩) (l.filter (λd=>!p d)).length c) (l.filter (λd=>!p d)).length ((l.filter (λd=>!p d)).flatMap qr)/\Chg w w' (λk=>k=g):=by
 have hI:=q40 v l b g c Bx p ok w hv hS hl an hF;subst hv;have HI:Hid _:=hI;have HF:Hid (q6w Bx p ok g w):=hF;have a6:Hid _:=an;have HS:Hid _:=hS;clear hI hF an hS;go_enter Tryz.func85,Tryz.ntmps85;go_wp2_with fail;refine Calls.mono HI.out ?_;rintro e w1 ⟨i,rfl,⟨rfl,ai⟩ | ⟨k,rfl,hk,a9,ai⟩,aa⟩
 .have Qgh:Hid (l.filter (λd=>!p d)=l):=by
   show _=_;rw[List.filter_eq_self];intro d hd;rw[ai d hd];rfl
  clear ai;go_wp2;go_ret;rw[Qgh.out];exact⟨rfl,qk HS.out aa,⟨aa.os,aa.tape,aa.output,aa.size,λk hk _=>aa.block k hk⟩⟩
 .have bk:((k:Int) == -1)=false:=by simp
  have bv:¬(k:Int)=-1:=by omega
  have bd:Hid (l.take k=(l.take (k+1)).filter (λd=>!p d)):=by
   show _=_;rw[List.take_succ_eq_append_getElem hk,List.filter_append]
   have h1:(l.take k).filter (λd=>!p d)=l.take k:=by
    rw[List.filter_eq_self];intro d hd;obtain⟨j,hj,rfl⟩:=List.getElem_of_mem hd;rw[List.getElem_take,ai j (by simp at hj;omega) (by simp at hj;omega)];rfl
   rw[h1];simp[a9]
  have HK:Hid _:=hk;clear ai a9;go_wp2
  go_loopw [5,6] (λvi vj wr=>∃(i j:Nat) (L:List (Gd×Int)),vi=.int .i64 i/\vj=.int .i64 j/\i < j/\j<=l.length/\Hid (L.length=l.length/\L.take i=(l.take j).filter (λd=>!p d)/\L.drop j=l.drop j)/\wr.ownsRow b 161 4 (.slice (some ⟨g,0,none⟩) l.length c) l.length (L.flatMap qr)/\Chg w wr (λk=>k=g)) (λ_ vj _=>l.length - (intOf vj).toNat)
  case atStart=>exact⟨k,k+1,l,rfl,by go_num,by omega,by omega,⟨rfl,bd.out,rfl⟩,qk HS.out aa,⟨aa.os,aa.tape,aa.output,aa.size,λk hk _=>aa.block k hk⟩⟩
  case round=>
   obtain⟨i,j,L,rfl,rfl,az,hj,hL,qq,ad⟩:=hrel;clear bk bv bd hk;by_cases ac:j < l.length
   .have bj:L[j]'(by rw[hL.out.1];exact ac)=l[j]:=by
     have h1:=congrArg (λz=>z[0]?) hL.out.2.2;simp only[List.getElem?_drop,Nat.add_zero] at h1;rw[List.getElem?_eq_getElem (by rw[hL.out.1];exact ac),List.getElem?_eq_getElem ac] at h1;exact Option.some.inj h1
    have ay:wr.ownsRow b 161 4 (.slice (some ⟨g,0,none⟩) L.length c) L.length (L.flatMap qr):=by rw[hL.out.1];exact qq
    obtain⟨g',c',e0,q0,q1,q2,q3,hg⟩:=qg9 ay (k:=j) (by rw[hL.out.1];exact ac);cases e0;rw[bj] at q0 q1 q2 q3;have i1:(j:Int) < (l.length:Int):=by omega
    have ap:Hid (∀O,Cs 86 #[.agg #[St (l[j]).1.rel,St (l[j]).1.x,St (l[j]).1.y,Ii (l[j]).2],.pointer (some ⟨Bx,0,none⟩)] (wr.alloc O) λe w'=>e=.returned (.bool (p l[j]))/\Below (wr.alloc O).heap.size (wr.alloc O) w'):=λO=>HF.out _ (ad.alloc O) l[j] (a6.out _ (zm ac));have aq:=qu6 (p:=p) ac hL.out.2.1 hL.out.2.2 hL.out.1 (Nat.le_of_lt az);have bh:Hid (∀W2,Below (wr.alloc (.cells #[St (l[j]).1.rel,St (l[j]).1.x,St (l[j]).1.y,Ii (l[j]).2] 161)).heap.size (wr.alloc (.cells #[St (l[j]).1.rel,St (l[j]).1.x,St (l[j]).1.y,Ii (l[j]).2] 161)) W2->W2.heap[wr.heap.size]?=cC #[St (l[j]).1.rel,St (l[j]).1.x,St (l[j]).1.y,Ii (l[j]).2] 161/\W2.ownsRow b 161 4 (.slice (some ⟨g,0,none⟩) L.length c) L.length (L.flatMap qr)/\Chg w W2 (λk=>k=g)):=λW2 hb=>⟨(hb.block _ (by simp)).trans (zn wr _),qk (ay.alloc _) hb,⟨hb.os.trans ad.os,hb.tape.trans ad.tape,hb.output.trans ad.output,by have:=hb.size;have:=ad.size;simp at *;omega,λk hk hx=>(hb.block k (by have:=ad.size;simp;omega)).trans ((Below.heap_alloc _ _ _ (by have:=ad.size;omega)).trans (ad.block k hk hx))⟩⟩;have ak:Hid _:=ad;have cf:Hid _:=qq;have a8:Hid _:=aq;clear bj ay qq ad aq;generalize hpb:p l[j]=bb at *;have b8:Hid (p l[j]=bb):=hpb;clear hpb;generalize hlj:l[j]=d at *;have cj:Hid (l[j]=d):=hlj;clear hlj
    cases bb with
    | true=>
     go_wp2_with fail;refine (ap.out _).mono ?_;rintro e W2 ⟨rfl,av⟩;go_wp2
     go_roundw
     case rel=>
      obtain⟨x1,x2,x3⟩:=bh.out W2 av;obtain⟨z1,z2⟩:=a8.out.1 (by trivial);exact⟨i,j+1,L,rfl,by go_num,by omega,by omega,⟨hL.out.1,z1,z2⟩,by have:=x2;rw[hL.out.1] at this;exact this,x3⟩
     case measure=>simp[intOf];omega
    | false=>
     go_wp2_with fail;refine (ap.out _).mono ?_;rintro e W2 ⟨rfl,av⟩;obtain⟨x1,x2,x3⟩:=bh.out W2 av;have t0:W2.cell? (Ad wr.heap.size 0)=some (St d.1.rel):=zc x1
     have t1:W2.cell? (Ad wr.heap.size 1)=some (St d.1.x):=zc x1
     have t2:W2.cell? (Ad wr.heap.size 2)=some (St d.1.y):=zc x1
     have t3:W2.cell? (Ad wr.heap.size 3)=some (Ii d.2):=zc x1
     obtain⟨g',c',e0,s0,s1,s2,s3,cl⟩:=qg9 x2 (k:=i) (by rw[hL.out.1];omega);cases e0;obtain⟨_,cc,ah⟩:=qe x2 (g:=g) rfl;have y0:W2.frozen? (Ad g (i*4))=false:=by simp[World.frozen?,ah]
     have y1:W2.frozen? (Ad g (i*4+1))=false:=by simp[World.frozen?,ah]
     have y2:W2.frozen? (Ad g (i*4+2))=false:=by simp[World.frozen?,ah]
     have y3:W2.frozen? (Ad g (i*4+3))=false:=by simp[World.frozen?,ah]
     have i3:(i:Int) < (l.length:Int):=by omega
     have HX:Hid _:=And.intro x2 x3;clear x1 x2 x3 ah av;go_wp2
     go_roundw
     case rel=>
      obtain⟨z1,z2⟩:=a8.out.2 (by trivial);obtain⟨o1,o2⟩:=q5r HX.out.1 (i:=i) (by rw[hL.out.1];omega) d;refine⟨i+1,j+1,L.set i d,by go_num,by go_num,by omega,by omega,⟨by simp[hL.out.1],z1,z2⟩,?_,?_⟩
      .have:=o1;rw[hL.out.1] at this;exact this
      .exact⟨o2.os.trans HX.out.2.os,o2.tape.trans HX.out.2.tape,o2.output.trans HX.out.2.output,Nat.le_trans HX.out.2.size o2.size,λk hk hx=>(o2.block k (Nat.lt_of_lt_of_le hk HX.out.2.size) hx).trans (HX.out.2.block k hk hx)⟩
     case measure=>simp[intOf];omega
   .have b0:j=l.length:=by omega
    subst b0;have q7:Hid (L.take i=l.filter (λd=>!p d)):=by show _=_;rw[hL.out.2.1,List.take_length]
    have bn:Hid ((l.filter (λd=>!p d)).length=i):=by show _=_;rw[<- q7.out,List.length_take,hL.out.1];omega
    obtain⟨_,cc,ah⟩:=qe qq (g:=g) rfl
    have a7:cc.size=c*4/\l.length<=c:=by
     obtain⟨h0,⟨hv,_⟩ | ⟨g',c',am,hv,h1,h2,h3,h4,h5,h6⟩⟩:=qq
     .cases hv
     cases hv;rw[ah] at h2;cases h2;exact⟨h5,h3⟩
    have Qhv:l.length*4<=c*4:=Nat.mul_le_mul_right 4 a7.2
    obtain⟨zs,b3,b9⟩:=qus wr g (i*4) (l.length - i) (c - i) (by omega) (λj hj=>by
     have:i*4+j < cc.size:=by rw[a7.1];omega
     simp[World.cell?,ah,this]) (λj hj=>by simp[World.frozen?,ah])
    have au:=q8d (zs:=zs) qq hL.out.1 (Nat.le_of_lt az) b3;have ao:Hid _:=au;have ak:Hid _:=ad;have ce:¬(c:Int)=(i:Int):=by omega
    have Qh1:¬c=i:=by omega
    have i3:(i:Int)<=(l.length:Int):=by omega
    have i4:(l.length:Int)<=(c:Int):=by omega
    have i5:(i:Int)<=(c:Int):=by omega
    clear au qq ah a7 ad;go_wp2;go_ret;rw[bn.out,<- q7.out];refine⟨rfl,ao.out.1,?_⟩;exact⟨ao.out.2.os.trans ak.out.os,ao.out.2.tape.trans ak.out.tape,ao.out.2.output.trans ak.out.output,Nat.le_trans ak.out.size ao.out.2.size,λk hk hx=>(ao.out.2.block k (Nat.lt_of_lt_of_le hk ak.out.size) hx).trans (ak.out.block k hk hx)⟩
def v0T:Tm:=⟨eB,0⟩
def v1T:Tm:=⟨eB,1⟩
theorem qqv{l l':List (List UInt8)}(h:l.Perm l'):qdj l=qdj l':=by
 have hs:∀l:List (List UInt8),(qdj l).Pairwise (λa b=>decide (a<=b)=true):=λl=>
  List.pairwise_mergeSort (le:=λx y=>decide (x<=y)) (λa b c h1 h2=>by simp only[decide_eq_true_eq] at *;exact List.le_trans h1 h2) (λa b=>by simp only[Bool.or_eq_true,decide_eq_true_eq];exact List.le_total a b) l
 refine List.Perm.eq_of_pairwise (le:=λa b=>decide (a<=b)=true) (λa b _ _ h1 h2=>?_) (hs l) (hs l') (((List.mergeSort_perm l _).trans h).trans (List.mergeSort_perm l' _).symm);simp only[decide_eq_true_eq] at h1 h2;exact List.le_antisymm h1 h2
def v2T:Tm:=⟨eB,2⟩
def qzw(P E:By):List Rl:=[⟨⟨P,[v0T,v1T]⟩,[⟨E,[v0T,v1T]⟩]⟩,⟨⟨P,[v0T,v1T]⟩,[⟨P,[v0T,v2T]⟩,⟨E,[v2T,v1T]⟩]⟩]
structure Eg where
 rs:List Rl
 win:Int
 lat:Int
 que:Int
 mark:Int
 names:List By
 kept:List (Gd×Int)
 M:Gd->Option Int
 fds:List Fs
def WTy(W:Wq)(k:Nat):Prop:=∃c t,W.heap[k]?=cC c t/\(t=101\/t=161\/t=120\/t=198\/t=71\/t=9)
def FTy(W:Wq)(k:Nat):Prop:=∃c t,W.heap[k]?=cC c t/\(t=198\/t=71)
theorem FTy.w(h:FTy W k):WTy W k:=by
 obtain⟨c,t,h1,h2 | h2⟩:=h
 .exact⟨c,t,h1,by simp[h2]⟩
 .exact⟨c,t,h1,by simp[h2]⟩
theorem WTy.lt(h:WTy W k):k < W.heap.size:=by
 obtain⟨c,t,h1,_⟩:=h;exact (zg h1).1
theorem FTy.lt(h:FTy W k):k < W.heap.size:=h.w.lt
theorem WTy.same(h:WTy W k)(hk:W'.heap[k]?=W.heap[k]?):WTy W' k:=by
 obtain⟨c,t,h1,h2⟩:=h;exact⟨c,t,hk.trans h1,h2⟩
theorem FTy.same(h:FTy W k)(hk:W'.heap[k]?=W.heap[k]?):FTy W' k:=by
 obtain⟨c,t,h1,h2⟩:=h;exact⟨c,t,hk.trans h1,h2⟩
theorem WTy.not{c:Array Vq}(h:W.heap[k]?=cC c t)(ht:t≠101/\t≠161/\t≠120/\t≠198/\t≠71/\t≠9):¬WTy W k:=by
 rintro⟨c',t',h1,h2⟩;rw[h] at h1;cases h1;rcases h2 with h2 | h2 | h2 | h2 | h2 | h2
 .exact ht.1 h2
 .exact ht.2.1 h2
 .exact ht.2.2.1 h2
 .exact ht.2.2.2.1 h2
 .exact ht.2.2.2.2.1 h2
 .exact ht.2.2.2.2.2 h2
def q1x(b:Nat):Vq:=.pointer (some ⟨b,0,none⟩)
structure qe5(W:Wq)(S:Nat->Prop)(be:Nat)(e:Eg)(vr vn vk vf:Vq)(bm rb af ae:Nat)(ab:List Nat)(Sf:Nat->Nat->Prop):Prop where
 blk:W.heap[be]?=cC #[vr,Ii e.win,Ii e.lat,Ii e.que,Ii e.mark,vn,vk,.map (some bm),vf] 101
 rules:Qb W rb af ae vr e.rs
 names:W.ownsRow 0 9 1 vn e.names.length (e.names.map Value.string)
 kept:W.ownsRow 0 161 4 vk e.kept.length (e.kept.flatMap qr)
 md:qd4 W bm 5000 e.M
 len:ab.length=e.fds.length
 frow:W.ownsRow 0 120 1 vf ab.length (ab.map q1x)
 feed:∀i (h:i < ab.length) (h':i < e.fds.length),∃b,q6z W (Sf i) ab[i] b e.fds[i]
 sep:∀i j,i≠j->∀k,Sf i k->¬Sf j k
 sub:∀i,∀k,Sf i k->S k/\FTy W k
 own:S be/\(∀g,vk.ownBlock=some g->S g)/\(∀g,vf.ownBlock=some g->S g)/\∀g,vn.ownBlock=some g->S g
 typ:∀k,S k->WTy W k
def qb4(W:Wq)(S:Nat->Prop)(be:Nat)(e:Eg):Prop:=∃vr vn vk vf bm rb af ae ab Sf,qe5 W S be e vr vn vk vf bm rb af ae ab Sf
def NTy(W:Wq)(k:Nat):Prop:=∃c t,W.heap[k]?=cC c t/\t≠136/\t≠92/\t≠166
theorem WTy.n(h:WTy W k):NTy W k:=by
 obtain⟨c,t,h1,h2⟩:=h;exact⟨c,t,h1,by rcases h2 with rfl | rfl | rfl | rfl | rfl | rfl <;> decide⟩
theorem NTy.not{c:Array Vq}(h:W.heap[k]?=cC c t)(ht:t=136\/t=92\/t=166):¬NTy W k:=by
 rintro⟨c',t',h1,h2,h3,h4⟩;rw[h] at h1;cases h1;rcases ht with ht | ht | ht
 .exact h2 ht
 .exact h3 ht
 .exact h4 ht
theorem NTy.notMap{es:Array MapEntry}{c:Nat}(h:W.heap[k]?=some (Obj.map es c)):¬NTy W k:=by
 rintro⟨c',t',h1,_⟩;rw[h] at h1;cases h1
theorem qe5.keepN{e:Eg}(h:qe5 W S be e vr vn vk vf bm rb af ae ab Sf){ex:Nat->Prop}(hc:Chg W W' ex)(hS:∀k,S k->¬ex k)(hT:∀k,k < W.heap.size->ex k->NTy W k):qe5 W' S be e vr vn vk vf bm rb af ae ab Sf:=by
 have hk:∀k,k < W.heap.size->¬ex k->W'.heap[k]?=W.heap[k]?:=hc.block;have al:∀k,S k->W'.heap[k]?=W.heap[k]?:=λk hs=>hk k (h.typ k hs).lt (hS k hs);have bq:∀(k:Nat) (c:Array Vq) (t:TypeId),W.heap[k]?=cC c t->(t=136\/t=92\/t=166)->W'.heap[k]?=cC c t:=λk c t hc ht=>(hk k (zg hc).1 (λhe=>NTy.not hc ht (hT k (zg hc).1 he))).trans hc;have cb:=(zg h.blk).1;refine⟨(al be h.own.1).trans h.blk,h.rules.keep (λk c t ht hc=>bq k c t hc ht),qm h.names (λg hg ac=>al g (h.own.2.2.2 g hg)),qm h.kept (λg hg ac=>al g (h.own.2.1 g hg)),h.md.kept (λk es c hm=>(hk k (zg hm).1 (λhe=>NTy.notMap hm (hT k (zg hm).1 he))).trans hm),h.len,qm h.frow (λg hg ac=>al g (h.own.2.2.1 g hg)),λi hi bo=>?_,h.sep,λi k hs=>⟨(h.sub i k hs).1,(h.sub i k hs).2.same (al k (h.sub i k hs).1)⟩,h.own,λk hs=>(h.typ k hs).same (al k hs)⟩;obtain⟨b,hf⟩:=h.feed i hi bo;exact⟨b,hf.keep (ex:=ex) hk (λk hs=>hS k (h.sub i k hs).1) (λk c hc he=>NTy.not hc (.inr (.inr rfl)) (hT k (zg hc).1 he))⟩
theorem qe5.keep{e:Eg}(h:qe5 W S be e vr vn vk vf bm rb af ae ab Sf){ex:Nat->Prop}(hc:Chg W W' ex)(hS:∀k,S k->¬ex k)(hT:∀k,k < W.heap.size->ex k->WTy W k):qe5 W' S be e vr vn vk vf bm rb af ae ab Sf:=
 h.keepN hc hS (λk h1 h2=>(hT k h1 h2).n)
theorem qb4.keepN{e:Eg}(h:qb4 W S be e){ex:Nat->Prop}(hc:Chg W W' ex)(hS:∀k,S k->¬ex k)(hT:∀k,k < W.heap.size->ex k->NTy W k):qb4 W' S be e:=by
 obtain⟨vr,vn,vk,vf,bm,rb,af,ae,ab,Sf,hv⟩:=h;exact⟨vr,vn,vk,vf,bm,rb,af,ae,ab,Sf,hv.keepN hc hS hT⟩
theorem qb4.keep{e:Eg}(h:qb4 W S be e){ex:Nat->Prop}(hc:Chg W W' ex)(hS:∀k,S k->¬ex k)(hT:∀k,k < W.heap.size->ex k->WTy W k):qb4 W' S be e:=
 h.keepN hc hS (λk h1 h2=>(hT k h1 h2).n)
theorem qe5.below{e:Eg}(h:qe5 W S be e vr vn vk vf bm rb af ae ab Sf)(hb:Below W.heap.size W W'):qe5 W' S be e vr vn vk vf bm rb af ae ab Sf:=
 h.keep (Chg.ofBelow (λ_=>False) hb) (λ_ _=>id) (λ_ _=>False.elim)
theorem qb4.below{e:Eg}(h:qb4 W S be e)(hb:Below W.heap.size W W'):qb4 W' S be e:=
 h.keep (Chg.ofBelow (λ_=>False) hb) (λ_ _=>id) (λ_ _=>False.elim)
def qcz(rs:List Rl):List By:=(rs.flatMap qx).map (·.rel)
structure qim(rs:List Rl):Prop where
 r8:rs.length<=8
 rok:∀r∈rs,qch r
 arity:∀a∈rs.flatMap qx,a.args.length=arR rs a.rel/\(a.args.length=1\/a.args.length=2)
 nums:∀a∈rs.flatMap qx,∀t∈a.args,t.num < 6
 safe:∀r∈rs,∀t∈r.head.args,t.name=eB->∃a∈r.body,∃u∈a.args,u.name=eB/\u.num=t.num
structure qde(e:Eg):Prop where
 rs:qim e.rs
 win:1<=e.win/\e.win<=1000
 lat:0<=e.lat/\e.lat<=1000
 que:1<=e.que/\e.que<=50
 mark:0<=e.mark/\e.mark<=1000000
 n8:e.names.length<=8
 nsz:∀x∈e.names,x.size<=1200
 nrs:∀r∈e.rs,∀t∈r.head.args,t.name≠eB->t.name∈e.names
 k24:e.kept.length<=24
 kept:∀d∈e.kept,d.1∈uni (qcz e.rs) e.names/\qc6 (arR e.rs) d.1/\0<=d.2/\d.2<=1000000
 md:∀g,(e.M g).isSome=true->qc6 (arR e.rs) g/\g∈uni (qcz e.rs) e.names
 f3:e.fds.length<=3
 fds:∀f∈e.fds,q2u f.form/\f.snap.length<=1000/\f.que.length<=50
end Go.Proofs.YtjajnhemgphefaaGreatDoor
namespace Go.Proofs.YtjajnhemgphefaaGreatDoor
open Go renaming World->Wq,Value->Vq
open Go.RowKit Go.Shelf
variable {p:Nms} {s:Nat->By} {a:Am} {ar:By->Nat} {F:List (Gd×Int)} {e:Int} {G:List Gr}
def qbr(g:Gd):Gr:=⟨g.rel,if qg g.y=true then [g.x] else [g.x,g.y]⟩
theorem qjk{g h:Gd}(e:qbr g=qbr h):g=h:=by
 obtain⟨r,x,y⟩:=g;obtain⟨r',x',y'⟩:=h;unfold qbr at e;simp only[Gr.mk.injEq] at e;obtain⟨rfl,e⟩:=e;by_cases h1:qg y=true <;> by_cases h2:qg y'=true
 .rw[if_pos h1,if_pos h2] at e;simp only[List.cons.injEq,and_true] at e;rw[e,(qbo y).1 h1,(qbo y').1 h2]
 .rw[if_pos h1,if_neg h2] at e;simp at e
 .rw[if_neg h1,if_pos h2] at e;simp at e
 .rw[if_neg h1,if_neg h2] at e;simp only[List.cons.injEq,and_true] at e;rw[e.1,e.2]
def Qch(a:Am):Prop:=(a.args.length=1\/a.args.length=2)/\∀t∈a.args,t.num < 6
def q93(s:Nat->By)(a:Am):Prop:=∀t∈a.args,qg (inT s t)=false
theorem qyl{t:Tm}(h:qg t.name=true->p.get t.num=s t.num):ofT p t=inT s t:=by
 unfold ofT inT;by_cases he:qg t.name=true
 .rw[if_pos he,if_pos (by exact he),h he]
 .rw[if_neg he,if_neg (by exact he)]
theorem qd3(ha:a.args.length=1\/a.args.length=2)(hp:∀t∈a.args,qg t.name=true->p.get t.num=s t.num)(hf:q93 s a):qbr (qb p a)=qbz s a:=by
 obtain⟨rel,args⟩:=a;simp only at ha hp hf;unfold qbr qb qbz;simp only[Gr.mk.injEq,true_and]
 match args,ha,hp,hf with
 | [t],_,hp,hf=>
  show (if qg eBy=true then [ofT p t] else [ofT p t,eBy])=[inT s t];rw[if_pos qcn,qyl (hp t zs)]
 | [t,u],_,hp,hf=>
  show (if qg (ofT p u)=true then [ofT p t] else [ofT p t,ofT p u])=[inT s t,inT s u];have e1:=qyl (hp t zs);have e2:=qyl (hp u (zt zs));have h2:=hf u (zt zs);rw[e1,e2,if_neg (by rw[h2];decide)]
 | [],h,_,_=>simp at h
 | _::_::_::_,h,_,_=>simp at h
def qsp(s:Nat->By):Nms:=⟨s 0,s 1,s 2,s 3,s 4,s 5⟩
theorem qsq(s:Nat->By){n:Nat}(h:n < 6):(qsp s).get n=s n:=by
 match n,h with
 | 0,_=>rfl
 | 1,_=>rfl
 | 2,_=>rfl
 | 3,_=>rfl
 | 4,_=>rfl
 | 5,_=>rfl
theorem qjv(hs:∀v,qg (s v)=false)(t:Tm):qg (inT s t)=false:=by
 unfold inT;by_cases he:qg t.name=true
 .rw[if_pos he];exact hs _
 .rw[if_neg he];simpa using he
def ArE(ar:By->Nat)(g:Gd):Prop:=qg g.x=false/\((ar g.rel=1/\qg g.y=true)\/(ar g.rel=2/\qg g.y=false))
theorem qht(h2:a.args.length=1\/a.args.length=2)(hl:a.args.length=ar a.rel):ArE ar (qb p a)↔∀t∈a.args,qg (ofT p t)=false:=by
 obtain⟨rel,args⟩:=a;simp only at h2 hl
 match args,h2,hl with
 | [t],_,hl=>
  show (qg (ofT p t)=false/\((ar rel=1/\qg eBy=true)\/(ar rel=2/\qg eBy=false)))↔_;rw[qcn];have h1:ar rel=1:=hl.symm;simp[h1]
 | [t,u],_,hl=>
  show (qg (ofT p t)=false/\((ar rel=1/\qg (ofT p u)=true)\/(ar rel=2/\qg (ofT p u)=false)))↔_;have h1:ar rel=2:=hl.symm;simp[h1]
 | [],h,_=>simp at h
 | _::_::_::_,h,_=>simp at h
structure qlh(ar:By->Nat)(R:List Rl)(F:List (Gd×Int))(e:Int)(G:List Gr):Prop where
 to:∀x∈F,e < x.2->ArE ar x.1/\(qbr x.1∈G\/∃r∈R,r.body=[]/\x.1=qb Qm r.head)
 back:∀g∈G,∃x∈F,e < x.2/\qbr x.1=g
 given:∀r∈R,r.body=[]->∃x∈F,e < x.2/\x.1=qb Qm r.head
structure qd8(ar:By->Nat)(R:List Rl):Prop where
 two:∀r∈R,∀a∈r.head::r.body,Qch a/\a.args.length=ar a.rel
 safe:∀r∈R,∀v,qdo r.head v->∃a∈r.body,qdo a v
theorem qpp{r:Rl}(hs:∀v,qdo r.head v->∃a∈r.body,qdo a v)(hb:r.body=[]):∀t∈r.head.args,qg t.name=false:=λt ht=>by
 cases he:qg t.name with
 | false=>rfl
 | true=>
  obtain⟨a,ha,_⟩:=hs t.num ⟨t,ht,he,rfl⟩;rw[hb] at ha;cases ha
theorem quu{R:List Rl}(hR:qd8 ar R){r:Rl}(hr:r∈R)(hb:r.body=[])(p:Nms)(s:Nat->By)(hs:∀v,qg (s v)=false):qbr (qb p r.head)=qbz s r.head:=by
 have hc:=qpp (hR.safe r hr) hb;exact qd3 (hR.two r hr _ zs).1.1 (λt ht he=>by rw[hc t ht] at he;cases he) (λt ht=>qjv hs t)
theorem Qah{R:List Rl}(hR:qd8 ar R)(hF:qlh ar R F e G){g:Gd}(hd:Der R F e g):Dv R G (qbr g)/\ArE ar g:=by
 have ax:qg (⟨#[97]⟩:By)=false:=by decide +kernel
 refine hd (λg=>Dv R G (qbr g)/\ArE ar g) (λx hx he=>?_) (λr hr hb p hp=>?_)
 .obtain⟨h1,h2⟩:=hF.to x hx he;refine⟨?_,h1⟩;rcases h2 with h2 | ⟨r,hr,hb,e1⟩
  .exact λS s1 _=>s1 _ h2
  .rw[e1,quu hR hr hb _ (λ_=>⟨#[97]⟩) (λ_=>ax)];exact λS _ s2=>s2 r hr _ (λ_=>ax) (λa ha=>by rw[hb] at ha;cases ha)
 .have hv:∀v,(∃a∈r.body,qdo a v)->qg (p.get v)=false:=λv ⟨a,ha,t,ht,he,hn⟩=>by
   obtain⟨h2,h3⟩:=hR.two r hr a (zt ha);have:=(qht h2.1 h3).1 (hp a ha).2 t ht;unfold ofT at this;rw[if_pos (by exact he),hn] at this;exact this
  have hs:∀v,qg ((λv=>if qg (p.get v)=true then (⟨#[97]⟩:By) else p.get v) v)=false:=λv=>by
   show qg (if _ then _ else _)=false;split
   .exact ax
   .rename_i h;simpa using h
  have he:∀v,qg (p.get v)=false->p.get v=(λv=>if qg (p.get v)=true then (⟨#[97]⟩:By) else p.get v) v:=λv h=>by
   show _=if _ then _ else _;rw[if_neg (by rw[h];decide)]
  have b6:∀a∈r.body,qbr (qb p a)=qbz (λv=>if qg (p.get v)=true then (⟨#[97]⟩:By) else p.get v) a:=λa ha=>
   qd3 (hR.two r hr a (zt ha)).1.1 (λt ht ag=>he _ (hv _ ⟨a,ha,t,ht,ag,rfl⟩)) (λt ht=>qjv hs t)
  have bc:∀t∈r.head.args,qg t.name=true->qg (p.get t.num)=false:=λt ht ag=>hv _ (hR.safe r hr _ ⟨t,ht,ag,rfl⟩);obtain⟨h2,h3⟩:=hR.two r hr r.head zs;refine⟨?_,(qht h2.1 h3).2 (λt ht=>?_)⟩
  .rw[qd3 h2.1 (λt ht ag=>he _ (bc t ht ag)) (λt ht=>qjv hs t)];exact λS s1 s2=>s2 r hr _ hs (λa ha=>by rw[<- b6 a ha];exact (hp a ha).1 S s1 s2)
  .unfold ofT;by_cases ag:qg t.name=true
   .rw[if_pos (by exact ag)];exact bc t ht ag
   .rw[if_neg (by exact ag)];simpa using ag
theorem Qaj{R:List Rl}(hR:qd8 ar R)(hF:qlh ar R F e G){h:Gr}(hd:Dv R G h):∃g,qbr g=h/\Der R F e g:=by
 refine hd (λh=>∃g,qbr g=h/\Der R F e g) (λx hx=>?_) (λr hr s hs hb=>?_)
 .obtain⟨y,hy,he,e1⟩:=hF.back x hx;exact⟨y.1,e1,Der.fact hy he⟩
 .have hg:∀a∈r.head::r.body,qbr (qb (qsp s) a)=qbz s a:=λa ha=>
   qd3 (hR.two r hr a ha).1.1 (λt ht _=>qsq s ((hR.two r hr a ha).1.2 t ht)) (λt ht=>qjv hs t)
  by_cases h0:r.body=[]
  .obtain⟨x,hx,he,e1⟩:=hF.given r hr h0;refine⟨x.1,?_,Der.fact hx he⟩;rw[e1];exact quu hR hr h0 _ s hs
  .refine⟨qb (qsp s) r.head,hg _ zs,Der.rule hr h0 (λa ha=>?_)⟩;obtain⟨g,e1,b4⟩:=hb a ha;have:g=qb (qsp s) a:=qjk (e1.trans (hg a (zt ha)).symm);rw[<- this];exact b4
theorem q7d{R:List Rl}(hR:qd8 ar R)(hF:qlh ar R F e G)(g:Gd):Der R F e g↔Dv R G (qbr g):=by
 refine⟨λh=>(Qah hR hF h).1,λh=>?_⟩;obtain⟨g',e1,h'⟩:=Qaj hR hF h;rw[<- qjk e1];exact h'
