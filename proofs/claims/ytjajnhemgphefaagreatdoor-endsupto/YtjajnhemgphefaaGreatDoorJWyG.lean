/- What follows by the code's rules and what follows by the -/
import Derived.Test.YtjajnhemgphefaaGreatDoorJLea
import Derived.Test.YtjajnhemgphefaaGreatDoorJWyB
set_option linter.unusedVariables false
set_option linter.unusedSimpArgs false
set_option maxRecDepth 100000
set_option maxHeartbeats 4000000
namespace Go.Proofs.YtjajnhemgphefaaGreatDoor
open Go renaming World->Wq,Value->Vq
open Go.RowKit Go.Shelf Go.Maps
variable {W W':Wq} {b g i k b87 be bm rb b45:Nat} {L:List (Gd×Int)} {t:TypeId} {S:Nat->Prop} {vr vn vk vf:Vq} {bfs:List Nat} {Sf:Nat->Nat->Prop}
def q5r(Bx:Nat)(p:Gd×Int->Bool)(ok:Gd×Int->Prop)(g:Nat)(w:Wq):Prop:=
 ∀W,Chg w W (λk=>k=g)->∀d,ok d->Calls Tryz.prog 86 #[.agg #[.string d.1.rel,.string d.1.x,.string d.1.y,.int .i64 d.2],.pointer (some ⟨Bx,0,none⟩)] W λe w'=>e=.returned (.bool (p d))/\Below W.heap.size W w'
def Qeg(p:Gd×Int->Bool)(l:List (Gd×Int))(i:Int):Prop:=(i=-1/\∀d∈l,p d=false)\/∃k:Nat,i=k/\∃hk:k < l.length,p l[k]=true/\∀j,(hj:j < l.length)->j < k->p l[j]=false
theorem q30(v:Vq)(l:List (Gd×Int))(b g c Bx:Nat)(p:Gd×Int->Bool)(ok:Gd×Int->Prop)(w:Wq)(hv:v=.slice (some ⟨g,0,none⟩) l.length c)(hS:w.ownsRow b 161 4 v l.length (l.flatMap qo))(hl:l.length<=1000)(hok:∀d∈l,ok d)(hF:q5r Bx p ok g w) :
  Calls Tryz.prog 145 #[v,.func (.func 86) #[] #[.pointer (some ⟨Bx,0,none⟩)]] w λe w'=>∃i:Int,e=.returned (.int .i64 i)/\Qeg p l i/\Below w.heap.size w w':=by
 have Ql:∀k (hk:k < l.length),w.cell? ⟨g,k*4,none⟩=some (.string (l[k]).1.rel)/\w.cell? ⟨g,k*4+1,none⟩=some (.string (l[k]).1.x)/\w.cell? ⟨g,k*4+2,none⟩=some (.string (l[k]).1.y)/\w.cell? ⟨g,k*4+3,none⟩=some (.int .i64 (l[k]).2)/\g < w.heap.size:=by
  intro k hk;obtain⟨g',c',h1,h2⟩:=qg3 hS hk;rw[hv] at h1;cases h1;exact h2
 subst hv;have HC:Hid _:=Ql;have HF:Hid (q5r Bx p ok g w):=hF;have HOK:Hid _:=hok;clear Ql hS hF hok;go_enter Tryz.func145,Tryz.ntmps145;go_wp2
 go_loopw [8] (λi wr=>∃k:Nat,k<=l.length/\i=.int .i64 k/\Hid (∀j,(hj:j < l.length)->j < k->p l[j]=false)/\Below w.heap.size w wr) (λi _=>l.length - (intOf i).toNat)
 case atStart=>exact⟨0,Nat.zero_le _,rfl,λj _ hj=>by omega,Below.refl _ _⟩
 case round=>
  obtain⟨k,hk,rfl,hno,hb⟩:=hrel;by_cases hlt:k < l.length
  ·obtain⟨q0,q1,q2,q3,hg⟩:=HC.out k hlt;have q0':=(hb.cell (p:=⟨g,k*4,none⟩) hg).trans q0;have q1':=(hb.cell (p:=⟨g,k*4+1,none⟩) hg).trans q1;have q2':=(hb.cell (p:=⟨g,k*4+2,none⟩) hg).trans q2;have q3':=(hb.cell (p:=⟨g,k*4+3,none⟩) hg).trans q3;have qbb:=HF.out wr ⟨hb.os,hb.tape,hb.output,hb.size,λk hk _=>hb.block k hk⟩ l[k] (HOK.out _ (List.getElem_mem hlt));have i1:(k:Int) < (l.length:Int):=by omega
   generalize hbb:p l[k]=bb at *;have HBB:Hid (p l[k]=bb):=hbb;clear hbb q0 q1 q2 q3;generalize htk:l[k]=tk at *;have HTK:Hid (l[k]=tk):=htk;clear htk
   cases bb with
   | true=>
    go_wp2_with fail;refine qbb.mono ?_;rintro e w1 ⟨rfl,hb1⟩;go_wp2;go_ret;exact⟨k,rfl,.inr ⟨k,rfl,hlt,by rw[HTK.out];exact HBB.out,hno.out⟩,hb.trans (hb1.mono hb.size)⟩
   | false=>
    go_wp2_with fail;refine qbb.mono ?_;rintro e w1 ⟨rfl,hb1⟩;go_wp2
    go_roundw
    case rel=>
     refine⟨k+1,by omega,by go_num,?_,hb.trans (hb1.mono hb.size)⟩;intro j hj hjk;by_cases e:j=k
     ·subst e;rw[HTK.out];exact HBB.out
     ·exact hno.out j hj (by omega)
    case measure=>simp[intOf];omega
  ·go_wp2;go_ret;refine⟨-1,rfl,.inl ⟨rfl,λd hd=>?_⟩,hb⟩;obtain⟨j,hj,rfl⟩:=List.getElem_of_mem hd;exact hno.out j hj (by omega)
theorem quo:∀(L:List (Gd×Int)) (q r:Nat),r < 4->(L.flatMap qo)[q*4+r]?=(L[q]?).bind (λd=>(qo d)[r]?)
 | [],q,r,_=>by simp
 | d::L,0,r,hr=>by
  rw[List.flatMap_cons,List.getElem?_append_left (by rw[qb7];omega)];simp
 | d::L,q+1,r,hr=>by
  rw[List.flatMap_cons,List.getElem?_append_right (by rw[qb7];omega),qb7,show (q+1)*4+r - 4=q*4+r by omega,quo L q r hr];simp
def Qal(W:Wq)(g o:Nat)(d:Gd×Int):Wq:=(((W.setCell ⟨g,o,none⟩ (.string d.1.rel)).setCell ⟨g,o+1,none⟩ (.string d.1.x)).setCell ⟨g,o+2,none⟩ (.string d.1.y)).setCell ⟨g,o+3,none⟩ (.int .i64 d.2)
theorem qx7(W:Wq)(g o:Nat)(d:Gd×Int):Qal W g o d=W.setCells g o (qo d):=rfl
theorem q4q{c:Nat}(h:W.ownsRow b 161 4 (.slice (some ⟨g,0,none⟩) L.length c) L.length (L.flatMap qo)){i:Nat}(hi:i < L.length)(d:Gd×Int) :
  (Qal W g (i*4) d).ownsRow b 161 4 (.slice (some ⟨g,0,none⟩) L.length c) L.length ((L.set i d).flatMap qo)/\Chg W (Qal W g (i*4) d) (λk=>k=g):=by
 obtain⟨h0,⟨hv,_⟩ | ⟨g',c',cur,hv,h1,h2,h3,h4,h5,h6⟩⟩:=h
 ·cases hv
 cases hv;have hle:L.length*4<=c*4:=Nat.mul_le_mul_right 4 h3;have hi4:i*4+4<=L.length*4:=by omega
 obtain⟨cur',k1,k2,k3,k4⟩:=qgt (b:=g) (qo d) (i*4) W cur h2 (by rw[qb7,h5];omega);rw[qx7];refine⟨⟨by rw[qko];simp,.inr ⟨g,c,cur',rfl,h1,k1,h3,h4,k2.trans h5,?_⟩⟩,qhy _ _ _ (Chg.refl _ _)⟩;refine List.ext_getElem? (λm=>?_);obtain⟨q,r,hr,rfl⟩:∃q r,r < 4/\m=q*4+r:=⟨m / 4,m % 4,Nat.mod_lt _ (by decide),by omega⟩;rw[quo _ _ _ hr,List.getElem?_take];by_cases hq:q < L.length
 ·rw[if_pos (by omega)]
  have hL:cur[q*4+r]?=(L[q]?).bind (λd=>(qo d)[r]?):=by
   rw[<- quo L q r hr,<- h6,List.getElem?_take,if_pos (by omega)];simp
  by_cases hqi:q=i
  ·subst hqi;have:=k3 r (by rw[qb7];exact hr);simp only[Array.getElem?_toList];rw[this,List.getElem?_set_self hq];rfl
  ·have:=k4 (q*4+r) (by rw[qb7];omega);simp only[Array.getElem?_toList];rw[this,hL,List.getElem?_set_ne (by omega)]
 ·rw[if_neg (by omega),List.getElem?_eq_none (by simp;omega)];rfl
theorem q5q{z:Array Vq}{n:Nat}{v:Vq}(h:v∈(Builtin.zeroCells z n).toList):v∈z.toList:=by
 unfold Builtin.zeroCells at h;rw[Array.mem_toList_iff,Array.mem_map] at h;obtain⟨i,hi,rfl⟩:=h;rw[Array.mem_range] at hi
 have hz:0 < z.size:=by
  rcases Nat.eq_zero_or_pos z.size with e | e
  ·rw[e] at hi;simp at hi
  ·exact e
 have:=Nat.mod_lt i hz;rw[getElem!_pos z _ this,Array.mem_toList_iff];exact Array.getElem_mem _
theorem qt5(w:Wq)(b o m c:Nat)(hm:0 < m)(hc:∀j,j < m*4->(w.cell? ⟨b,o+j,none⟩).isSome=true)(hf:∀j,j < m*4->w.frozen? ⟨b,o+j,none⟩=false) :
  ∃zs:List Vq,zs.length=m*4/\(Builtin.clear_ #[96] 0 #[.slice (some ⟨b,o,none⟩) m c]).run Tryz.prog w=.ok (.tuple #[]) (w.setCells b o zs):=by
 have hzl:(Builtin.zeroCells (Value.agg #[.string ⟨#[]⟩,.string ⟨#[]⟩,.string ⟨#[]⟩,.int .i64 0]).cells m).toList.length=m*4:=by
  rw[Array.length_toList,qm6];rfl
 have hst:=run_storeCells_cells (P:=Tryz.prog) b o (Builtin.zeroCells (Value.agg #[.string ⟨#[]⟩,.string ⟨#[]⟩,.string ⟨#[]⟩,.int .i64 0]).cells m).toList 0 w (by rw[hzl];simpa using hc) (by rw[hzl];simpa using hf) (by
  intro v hv;have:=q5q hv;have h4:(Value.agg #[.string ⟨#[]⟩,.string ⟨#[]⟩,.string ⟨#[]⟩,.int .i64 0]).cells.toList=[.string ⟨#[]⟩,.string ⟨#[]⟩,.string ⟨#[]⟩,.int .i64 0]:=rfl;rw[h4] at this;simp only[List.mem_cons,List.not_mem_nil,or_false] at this
  rcases this with rfl | rfl | rfl | rfl <;> rfl)
 simp only[Nat.add_zero] at hst;refine⟨_,hzl,?_⟩;obtain⟨m,rfl⟩:∃m',m=m'+1:=⟨m - 1,by omega⟩;simp[Builtin.clear_,run_underlying Tryz.underlying96,Tryz.zeroValue161 w,hst]
theorem q61{c n:Nat}{zs:List Vq}(h:W.ownsRow b 161 4 (.slice (some ⟨g,0,none⟩) n c) n (L.flatMap qo))(hL:L.length=n)(hi:i<=n)(hz:zs.length=(n - i)*4) :
  (W.setCells g (i*4) zs).ownsRow b 161 4 (.slice (some ⟨g,0,none⟩) i c) i ((L.take i).flatMap qo)/\Chg W (W.setCells g (i*4) zs) (λk=>k=g):=by
 obtain⟨h0,⟨hv,_⟩ | ⟨g',c',cur,hv,h1,h2,h3,h4,h5,h6⟩⟩:=h
 ·cases hv
 cases hv;have hle:n*4<=c*4:=Nat.mul_le_mul_right 4 h3;have qo5:i*4+(n - i)*4=n*4:=by rw[<- Nat.add_mul];congr 1;omega
 obtain⟨cur',k1,k2,k3,k4⟩:=qgt (b:=g) zs (i*4) W cur h2 (by rw[hz,h5];omega);refine⟨⟨by rw[qko,List.length_take];congr 1;omega,.inr ⟨g,c,cur',rfl,h1,k1,by omega,h4,k2.trans h5,?_⟩⟩,qhy _ _ _ (Chg.refl _ _)⟩;refine List.ext_getElem? (λm=>?_);obtain⟨q,r,hr,rfl⟩:∃q r,r < 4/\m=q*4+r:=⟨m / 4,m % 4,Nat.mod_lt _ (by decide),by omega⟩;rw[quo _ _ _ hr,List.getElem?_take];by_cases hq:q < i
 ·rw[if_pos (by omega)]
  have hLq:cur[q*4+r]?=(L[q]?).bind (λd=>(qo d)[r]?):=by
   rw[<- quo L q r hr,<- h6,List.getElem?_take,if_pos (by omega)];simp
  have:=k4 (q*4+r) (.inl (by omega));simp only[Array.getElem?_toList];rw[this,hLq,List.getElem?_take,if_pos hq]
 ·rw[if_neg (by omega),List.getElem?_eq_none (by simp;omega)];rfl
theorem qum{p:Gd×Int->Bool}{l:List (Gd×Int)}{j:Nat}(hj:j < l.length)(h1:L.take i=(l.take j).filter (λd=>!p d))(h2:L.drop j=l.drop j)(hLl:L.length=l.length)(hij:i<=j) :
  (p l[j]=true->L.take i=(l.take (j+1)).filter (λd=>!p d)/\L.drop (j+1)=l.drop (j+1))/\
  (p l[j]=false->(L.set i l[j]).take (i+1)=(l.take (j+1)).filter (λd=>!p d)/\(L.set i l[j]).drop (j+1)=l.drop (j+1)):=by
 have hd:L.drop (j+1)=l.drop (j+1):=by
  have:=congrArg (List.drop 1) h2;rw[List.drop_drop,List.drop_drop] at this
  first | exact this | (rw[Nat.add_comm] at this;exact this)
 have ht:(l.take (j+1)).filter (λd=>!p d)=(l.take j).filter (λd=>!p d)++(if p l[j] then [] else [l[j]]):=by
  rw[List.take_succ_eq_append_getElem hj,List.filter_append];congr 1
  cases hp:p l[j] <;> simp[hp]
 refine⟨λhp=>⟨by rw[ht,hp,h1];simp,hd⟩,λhp=>⟨?_,?_⟩⟩
 ·rw[ht,hp,<- h1];have hiL:i < (L.set i l[j]).length:=by simp;omega
  rw[List.take_succ_eq_append_getElem hiL,List.getElem_set_self];simp only[Bool.false_eq_true,if_false];congr 1;rw[List.take_set_of_le (Nat.le_refl i)]
 ·rw[List.drop_set_of_lt (by omega)];exact hd
theorem qt8(v:Vq)(l:List (Gd×Int))(b g c Bx:Nat)(p:Gd×Int->Bool)(ok:Gd×Int->Prop)(w:Wq)(hv:v=.slice (some ⟨g,0,none⟩) l.length c)(hS:w.ownsRow b 161 4 v l.length (l.flatMap qo))(hl:l.length<=1000)(hok:∀d∈l,ok d)(hF:q5r Bx p ok g w) :
  Calls Tryz.prog 85 #[v,.func (.func 86) #[] #[.pointer (some ⟨Bx,0,none⟩)]] w λe w'=>e=.returned (.slice (some ⟨g,0,none⟩) (l.filter (λd=>!p d)).length c)/\w'.ownsRow b 161 4 (.slice (some ⟨g,0,none⟩) (l.filter (λd=>!p d)).length c) (l.filter (λd=>!p d)).length ((l.filter (λd=>!p d)).flatMap qo)/\Chg w w' (λk=>k=g):=by
 have hI:=q30 v l b g c Bx p ok w hv hS hl hok hF;subst hv;have HI:Hid _:=hI;have HF:Hid (q5r Bx p ok g w):=hF;have HOK:Hid _:=hok;have HS:Hid _:=hS;clear hI hF hok hS;go_enter Tryz.func85,Tryz.ntmps85;go_wp2_with fail;refine Calls.mono HI.out ?_;rintro e w1 ⟨i,rfl,⟨rfl,hno⟩ | ⟨k,rfl,hk,hpk,hno⟩,hb1⟩
 ·have Qfa:Hid (l.filter (λd=>!p d)=l):=by
   show _=_;rw[List.filter_eq_self];intro d hd;rw[hno d hd];rfl
  clear hno;go_wp2;go_ret;rw[Qfa.out];exact⟨rfl,qk HS.out hb1,⟨hb1.os,hb1.tape,hb1.output,hb1.size,λk hk _=>hb1.block k hk⟩⟩
 ·have hk1:((k:Int) == -1)=false:=by simp
  have hk2:¬(k:Int)=-1:=by omega
  have q3v:Hid (l.take k=(l.take (k+1)).filter (λd=>!p d)):=by
   show _=_;rw[List.take_succ_eq_append_getElem hk,List.filter_append]
   have h1:(l.take k).filter (λd=>!p d)=l.take k:=by
    rw[List.filter_eq_self];intro d hd;obtain⟨j,hj,rfl⟩:=List.getElem_of_mem hd;rw[List.getElem_take,hno j (by simp at hj;omega) (by simp at hj;omega)];rfl
   rw[h1];simp[hpk]
  have HK:Hid _:=hk;clear hno hpk;go_wp2
  go_loopw [5,6] (λvi vj wr=>∃(i j:Nat) (L:List (Gd×Int)),vi=.int .i64 i/\vj=.int .i64 j/\i < j/\j<=l.length/\Hid (L.length=l.length/\L.take i=(l.take j).filter (λd=>!p d)/\L.drop j=l.drop j)/\wr.ownsRow b 161 4 (.slice (some ⟨g,0,none⟩) l.length c) l.length (L.flatMap qo)/\Chg w wr (λk=>k=g)) (λ_ vj _=>l.length - (intOf vj).toNat)
  case atStart=>exact⟨k,k+1,l,rfl,by go_num,by omega,by omega,⟨rfl,q3v.out,rfl⟩,qk HS.out hb1,⟨hb1.os,hb1.tape,hb1.output,hb1.size,λk hk _=>hb1.block k hk⟩⟩
  case round=>
   obtain⟨i,j,L,rfl,rfl,hij,hj,hL,qr,hch⟩:=hrel;clear hk1 hk2 q3v hk;by_cases hlt:j < l.length
   ·have hdj:L[j]'(by rw[hL.out.1];exact hlt)=l[j]:=by
     have h1:=congrArg (λz=>z[0]?) hL.out.2.2;simp only[List.getElem?_drop,Nat.add_zero] at h1;rw[List.getElem?_eq_getElem (by rw[hL.out.1];exact hlt),List.getElem?_eq_getElem hlt] at h1;exact Option.some.inj h1
    have qo9:wr.ownsRow b 161 4 (.slice (some ⟨g,0,none⟩) L.length c) L.length (L.flatMap qo):=by rw[hL.out.1];exact qr
    obtain⟨g',c',e0,q0,q1,q2,q3,hg⟩:=qg3 qo9 (k:=j) (by rw[hL.out.1];exact hlt);cases e0;rw[hdj] at q0 q1 q2 q3;have i1:(j:Int) < (l.length:Int):=by omega
    have qbb:Hid (∀O,Calls Tryz.prog 86 #[.agg #[.string (l[j]).1.rel,.string (l[j]).1.x,.string (l[j]).1.y,.int .i64 (l[j]).2],.pointer (some ⟨Bx,0,none⟩)] (wr.alloc O) λe w'=>e=.returned (.bool (p l[j]))/\Below (wr.alloc O).heap.size (wr.alloc O) w'):=λO=>HF.out _ (hch.alloc O) l[j] (HOK.out _ (List.getElem_mem hlt));have hst:=qum (p:=p) hlt hL.out.2.1 hL.out.2.2 hL.out.1 (Nat.le_of_lt hij);have hbx:Hid (∀W2,Below (wr.alloc (.cells #[.string (l[j]).1.rel,.string (l[j]).1.x,.string (l[j]).1.y,.int .i64 (l[j]).2] 161)).heap.size (wr.alloc (.cells #[.string (l[j]).1.rel,.string (l[j]).1.x,.string (l[j]).1.y,.int .i64 (l[j]).2] 161)) W2->W2.heap[wr.heap.size]?=some (Obj.cells #[.string (l[j]).1.rel,.string (l[j]).1.x,.string (l[j]).1.y,.int .i64 (l[j]).2] 161)/\W2.ownsRow b 161 4 (.slice (some ⟨g,0,none⟩) L.length c) L.length (L.flatMap qo)/\Chg w W2 (λk=>k=g)):=λW2 hb=>⟨(hb.block _ (by simp)).trans (World.alloc_heap_new wr _),qk (qo9.alloc _) hb,⟨hb.os.trans hch.os,hb.tape.trans hch.tape,hb.output.trans hch.output,by have:=hb.size;have:=hch.size;simp at *;omega,λk hk hx=>(hb.block k (by have:=hch.size;simp;omega)).trans ((Below.heap_alloc _ _ _ (by have:=hch.size;omega)).trans (hch.block k hk hx))⟩⟩;have HCH:Hid _:=hch;have HOW:Hid _:=qr;have HST:Hid _:=hst;clear hdj qo9 qr hch hst;generalize hpb:p l[j]=bb at *;have HPB:Hid (p l[j]=bb):=hpb;clear hpb;generalize hlj:l[j]=d at *;have HLJ:Hid (l[j]=d):=hlj;clear hlj
    cases bb with
    | true=>
     go_wp2_with fail;refine (qbb.out _).mono ?_;rintro e W2 ⟨rfl,hb2⟩;go_wp2
     go_roundw
     case rel=>
      obtain⟨x1,x2,x3⟩:=hbx.out W2 hb2;obtain⟨z1,z2⟩:=HST.out.1 (by trivial);exact⟨i,j+1,L,rfl,by go_num,by omega,by omega,⟨hL.out.1,z1,z2⟩,by have:=x2;rw[hL.out.1] at this;exact this,x3⟩
     case measure=>simp[intOf];omega
    | false=>
     go_wp2_with fail;refine (qbb.out _).mono ?_;rintro e W2 ⟨rfl,hb2⟩;obtain⟨x1,x2,x3⟩:=hbx.out W2 hb2;have t0:W2.cell? ⟨wr.heap.size,0,none⟩=some (.string d.1.rel):=by simp[World.cell?,x1]
     have t1:W2.cell? ⟨wr.heap.size,1,none⟩=some (.string d.1.x):=by simp[World.cell?,x1]
     have t2:W2.cell? ⟨wr.heap.size,2,none⟩=some (.string d.1.y):=by simp[World.cell?,x1]
     have t3:W2.cell? ⟨wr.heap.size,3,none⟩=some (.int .i64 d.2):=by simp[World.cell?,x1]
     obtain⟨g',c',e0,s0,s1,s2,s3,hg2⟩:=qg3 x2 (k:=i) (by rw[hL.out.1];omega);cases e0;obtain⟨_,cc,hcc⟩:=qe x2 (g:=g) rfl;have y0:W2.frozen? ⟨g,i*4,none⟩=false:=by simp[World.frozen?,hcc]
     have y1:W2.frozen? ⟨g,i*4+1,none⟩=false:=by simp[World.frozen?,hcc]
     have y2:W2.frozen? ⟨g,i*4+2,none⟩=false:=by simp[World.frozen?,hcc]
     have y3:W2.frozen? ⟨g,i*4+3,none⟩=false:=by simp[World.frozen?,hcc]
     have i3:(i:Int) < (l.length:Int):=by omega
     have HX:Hid _:=And.intro x2 x3;clear x1 x2 x3 hcc hb2;go_wp2
     go_roundw
     case rel=>
      obtain⟨z1,z2⟩:=HST.out.2 (by trivial);obtain⟨o1,o2⟩:=q4q HX.out.1 (i:=i) (by rw[hL.out.1];omega) d;refine⟨i+1,j+1,L.set i d,by go_num,by go_num,by omega,by omega,⟨by simp[hL.out.1],z1,z2⟩,?_,?_⟩
      ·have:=o1;rw[hL.out.1] at this;exact this
      ·exact⟨o2.os.trans HX.out.2.os,o2.tape.trans HX.out.2.tape,o2.output.trans HX.out.2.output,Nat.le_trans HX.out.2.size o2.size,λk hk hx=>(o2.block k (Nat.lt_of_lt_of_le hk HX.out.2.size) hx).trans (HX.out.2.block k hk hx)⟩
     case measure=>simp[intOf];omega
   ·have hjl:j=l.length:=by omega
    subst hjl;have q9:Hid (L.take i=l.filter (λd=>!p d)):=by show _=_;rw[hL.out.2.1,List.take_length]
    have hfl:Hid ((l.filter (λd=>!p d)).length=i):=by show _=_;rw[<- q9.out,List.length_take,hL.out.1];omega
    obtain⟨_,cc,hcc⟩:=qe qr (g:=g) rfl
    have hsz:cc.size=c*4/\l.length<=c:=by
     obtain⟨h0,⟨hv,_⟩ | ⟨g',c',cur,hv,h1,h2,h3,h4,h5,h6⟩⟩:=qr
     ·cases hv
     cases hv;rw[hcc] at h2;cases h2;exact⟨h5,h3⟩
    have Qgs:l.length*4<=c*4:=Nat.mul_le_mul_right 4 hsz.2
    obtain⟨zs,hz1,hz2⟩:=qt5 wr g (i*4) (l.length - i) (c - i) (by omega) (λj hj=>by
     have:i*4+j < cc.size:=by rw[hsz.1];omega
     simp[World.cell?,hcc,this]) (λj hj=>by simp[World.frozen?,hcc])
    have q6g:=q61 (zs:=zs) qr hL.out.1 (Nat.le_of_lt hij) hz1;have qzi:Hid _:=q6g;have HCH:Hid _:=hch;have hic:¬(c:Int)=(i:Int):=by omega
    have Qgx:¬c=i:=by omega
    have i3:(i:Int)<=(l.length:Int):=by omega
    have i4:(l.length:Int)<=(c:Int):=by omega
    have i5:(i:Int)<=(c:Int):=by omega
    clear q6g qr hcc hsz hch;go_wp2;go_ret;rw[hfl.out,<- q9.out];refine⟨rfl,qzi.out.1,?_⟩;exact⟨qzi.out.2.os.trans HCH.out.os,qzi.out.2.tape.trans HCH.out.tape,qzi.out.2.output.trans HCH.out.output,Nat.le_trans HCH.out.size qzi.out.2.size,λk hk hx=>(qzi.out.2.block k (Nat.lt_of_lt_of_le hk HCH.out.size) hx).trans (HCH.out.block k hk hx)⟩
def v0T:Tm:=⟨eB,0⟩
def v1T:Tm:=⟨eB,1⟩
def v2T:Tm:=⟨eB,2⟩
def qy9(P E:ByteArray):List Rl:=[⟨⟨P,[v0T,v1T]⟩,[⟨E,[v0T,v1T]⟩]⟩,⟨⟨P,[v0T,v1T]⟩,[⟨P,[v0T,v2T]⟩,⟨E,[v2T,v1T]⟩]⟩]
structure Eg where
 rs:List Rl
 win:Int
 lat:Int
 que:Int
 mark:Int
 names:List ByteArray
 kept:List (Gd×Int)
 M:Gd->Option Int
 fds:List Fs
def WTy(W:Wq)(k:Nat):Prop:=∃c t,W.heap[k]?=some (Obj.cells c t (0,0))/\(t=101\/t=161\/t=120\/t=198\/t=71\/t=9)
def FTy(W:Wq)(k:Nat):Prop:=∃c t,W.heap[k]?=some (Obj.cells c t (0,0))/\(t=198\/t=71)
theorem FTy.w(h:FTy W k):WTy W k:=by
 obtain⟨c,t,h1,h2 | h2⟩:=h
 ·exact⟨c,t,h1,by simp[h2]⟩
 ·exact⟨c,t,h1,by simp[h2]⟩
theorem WTy.lt(h:WTy W k):k < W.heap.size:=by
 obtain⟨c,t,h1,_⟩:=h;exact (zg h1).1
theorem FTy.lt(h:FTy W k):k < W.heap.size:=h.w.lt
theorem WTy.same(h:WTy W k)(hk:W'.heap[k]?=W.heap[k]?):WTy W' k:=by
 obtain⟨c,t,h1,h2⟩:=h;exact⟨c,t,hk.trans h1,h2⟩
theorem FTy.same(h:FTy W k)(hk:W'.heap[k]?=W.heap[k]?):FTy W' k:=by
 obtain⟨c,t,h1,h2⟩:=h;exact⟨c,t,hk.trans h1,h2⟩
theorem WTy.not{c:Array Vq}(h:W.heap[k]?=some (Obj.cells c t (0,0)))(ht:t≠101/\t≠161/\t≠120/\t≠198/\t≠71/\t≠9):¬WTy W k:=by
 rintro⟨c',t',h1,h2⟩;rw[h] at h1;cases h1;rcases h2 with h2 | h2 | h2 | h2 | h2 | h2
 ·exact ht.1 h2
 ·exact ht.2.1 h2
 ·exact ht.2.2.1 h2
 ·exact ht.2.2.2.1 h2
 ·exact ht.2.2.2.2.1 h2
 ·exact ht.2.2.2.2.2 h2
def q04(b:Nat):Vq:=.pointer (some ⟨b,0,none⟩)
structure qev(W:Wq)(S:Nat->Prop)(be:Nat)(e:Eg)(vr vn vk vf:Vq)(bm rb b45 b87:Nat)(bfs:List Nat)(Sf:Nat->Nat->Prop):Prop where
 blk:W.heap[be]?=some (Obj.cells #[vr,.int .i64 e.win,.int .i64 e.lat,.int .i64 e.que,.int .i64 e.mark,vn,vk,.map (some bm),vf] 101)
 rules:Qa W rb b45 b87 vr e.rs
 names:W.ownsRow 0 9 1 vn e.names.length (e.names.map Value.string)
 kept:W.ownsRow 0 161 4 vk e.kept.length (e.kept.flatMap qo)
 md:qda W bm 5000 e.M
 len:bfs.length=e.fds.length
 frow:W.ownsRow 0 120 1 vf bfs.length (bfs.map q04)
 feed:∀i (h:i < bfs.length) (h':i < e.fds.length),∃b,qwd W (Sf i) bfs[i] b e.fds[i]
 sep:∀i j,i≠j->∀k,Sf i k->¬Sf j k
 sub:∀i,∀k,Sf i k->S k/\FTy W k
 own:S be/\(∀g,vk.ownBlock=some g->S g)/\(∀g,vf.ownBlock=some g->S g)/\∀g,vn.ownBlock=some g->S g
 typ:∀k,S k->WTy W k
def qb1(W:Wq)(S:Nat->Prop)(be:Nat)(e:Eg):Prop:=∃vr vn vk vf bm rb b45 b87 bfs Sf,qev W S be e vr vn vk vf bm rb b45 b87 bfs Sf
theorem qwd.narrow{bf:Nat}{f:Fs}(h:qwd W S bf b87 f):qwd W (λk=>S k/\FTy W k) bf b87 f:=by
 obtain⟨va,vs,vq,h1,h2,h3,h4,h5,h6,h7⟩:=h;refine⟨va,vs,vq,h1,h2,h3,h4,λg hg=>⟨⟨(h5 g hg).1,?_⟩,(h5 g hg).2⟩,λg hg=>⟨h6 g hg,?_⟩,h7,?_⟩
 ·obtain⟨_,c,hc⟩:=qe h3 hg;exact⟨c,_,hc,.inr rfl⟩
 ·obtain⟨_,c,hc⟩:=qe h4 hg;exact⟨c,_,hc,.inr rfl⟩
 ·exact⟨_,_,h1,.inl rfl⟩
def NTy(W:Wq)(k:Nat):Prop:=∃c t,W.heap[k]?=some (Obj.cells c t (0,0))/\t≠136/\t≠92/\t≠166
theorem WTy.n(h:WTy W k):NTy W k:=by
 obtain⟨c,t,h1,h2⟩:=h;exact⟨c,t,h1,by rcases h2 with rfl | rfl | rfl | rfl | rfl | rfl <;> decide⟩
theorem NTy.not{c:Array Vq}(h:W.heap[k]?=some (Obj.cells c t (0,0)))(ht:t=136\/t=92\/t=166):¬NTy W k:=by
 rintro⟨c',t',h1,h2,h3,h4⟩;rw[h] at h1;cases h1;rcases ht with ht | ht | ht
 ·exact h2 ht
 ·exact h3 ht
 ·exact h4 ht
theorem NTy.notMap{es:Array MapEntry}{c:Nat}(h:W.heap[k]?=some (Obj.map es c)):¬NTy W k:=by
 rintro⟨c',t',h1,_⟩;rw[h] at h1;cases h1
theorem qev.keepN{e:Eg}(h:qev W S be e vr vn vk vf bm rb b45 b87 bfs Sf){ex:Nat->Prop}(hc:Chg W W' ex)(hS:∀k,S k->¬ex k)(hT:∀k,k < W.heap.size->ex k->NTy W k):qev W' S be e vr vn vk vf bm rb b45 b87 bfs Sf:=by
 have hk:∀k,k < W.heap.size->¬ex k->W'.heap[k]?=W.heap[k]?:=hc.block;have hkS:∀k,S k->W'.heap[k]?=W.heap[k]?:=λk hs=>hk k (h.typ k hs).lt (hS k hs);have hkT:∀(k:Nat) (c:Array Vq) (t:TypeId),W.heap[k]?=some (Obj.cells c t (0,0))->(t=136\/t=92\/t=166)->W'.heap[k]?=some (Obj.cells c t (0,0)):=λk c t hc ht=>(hk k (zg hc).1 (λhe=>NTy.not hc ht (hT k (zg hc).1 he))).trans hc;have hbe:=(zg h.blk).1;refine⟨(hkS be h.own.1).trans h.blk,h.rules.keep (λk c t ht hc=>hkT k c t hc ht),qm h.names (λg hg hlt=>hkS g (h.own.2.2.2 g hg)),qm h.kept (λg hg hlt=>hkS g (h.own.2.1 g hg)),h.md.kept (λk es c hm=>(hk k (zg hm).1 (λhe=>NTy.notMap hm (hT k (zg hm).1 he))).trans hm),h.len,qm h.frow (λg hg hlt=>hkS g (h.own.2.2.1 g hg)),λi hi hi'=>?_,h.sep,λi k hs=>⟨(h.sub i k hs).1,(h.sub i k hs).2.same (hkS k (h.sub i k hs).1)⟩,h.own,λk hs=>(h.typ k hs).same (hkS k hs)⟩;obtain⟨b,hf⟩:=h.feed i hi hi';exact⟨b,hf.keep (ex:=ex) hk (λk hs=>hS k (h.sub i k hs).1) (λk c hc he=>NTy.not hc (.inr (.inr rfl)) (hT k (zg hc).1 he))⟩
theorem qev.keep{e:Eg}(h:qev W S be e vr vn vk vf bm rb b45 b87 bfs Sf){ex:Nat->Prop}(hc:Chg W W' ex)(hS:∀k,S k->¬ex k)(hT:∀k,k < W.heap.size->ex k->WTy W k):qev W' S be e vr vn vk vf bm rb b45 b87 bfs Sf:=
 h.keepN hc hS (λk h1 h2=>(hT k h1 h2).n)
theorem qb1.keepN{e:Eg}(h:qb1 W S be e){ex:Nat->Prop}(hc:Chg W W' ex)(hS:∀k,S k->¬ex k)(hT:∀k,k < W.heap.size->ex k->NTy W k):qb1 W' S be e:=by
 obtain⟨vr,vn,vk,vf,bm,rb,b45,b87,bfs,Sf,hv⟩:=h;exact⟨vr,vn,vk,vf,bm,rb,b45,b87,bfs,Sf,hv.keepN hc hS hT⟩
theorem qb1.keep{e:Eg}(h:qb1 W S be e){ex:Nat->Prop}(hc:Chg W W' ex)(hS:∀k,S k->¬ex k)(hT:∀k,k < W.heap.size->ex k->WTy W k):qb1 W' S be e:=
 h.keepN hc hS (λk h1 h2=>(hT k h1 h2).n)
theorem qev.below{e:Eg}(h:qev W S be e vr vn vk vf bm rb b45 b87 bfs Sf)(hb:Below W.heap.size W W'):qev W' S be e vr vn vk vf bm rb b45 b87 bfs Sf:=
 h.keep (Chg.ofBelow (λ_=>False) hb) (λ_ _=>id) (λ_ _=>False.elim)
theorem qb1.below{e:Eg}(h:qb1 W S be e)(hb:Below W.heap.size W W'):qb1 W' S be e:=
 h.keep (Chg.ofBelow (λ_=>False) hb) (λ_ _=>id) (λ_ _=>False.elim)
def qc9(rs:List Rl):List ByteArray:=(rs.flatMap qy).map (·.rel)
structure qic(rs:List Rl):Prop where
 r8:rs.length<=8
 rok:∀r∈rs,qcd r
 arity:∀a∈rs.flatMap qy,a.args.length=arR rs a.rel/\(a.args.length=1\/a.args.length=2)
 nums:∀a∈rs.flatMap qy,∀t∈a.args,t.num < 6
 safe:∀r∈rs,∀t∈r.head.args,t.name=eB->∃a∈r.body,∃u∈a.args,u.name=eB/\u.num=t.num
structure qci(e:Eg):Prop where
 rs:qic e.rs
 win:1<=e.win/\e.win<=1000
 lat:0<=e.lat/\e.lat<=1000
 que:1<=e.que/\e.que<=50
 mark:0<=e.mark/\e.mark<=1000000
 n8:e.names.length<=8
 nsz:∀x∈e.names,x.size<=1200
 nrs:∀r∈e.rs,∀t∈r.head.args,t.name≠eB->t.name∈e.names
 k24:e.kept.length<=24
 kept:∀d∈e.kept,d.1∈uni (qc9 e.rs) e.names/\qdy (arR e.rs) d.1/\0<=d.2/\d.2<=1000000
 md:∀g,(e.M g).isSome=true->qdy (arR e.rs) g/\g∈uni (qc9 e.rs) e.names
 f3:e.fds.length<=3
 fds:∀f∈e.fds,q1z f.form/\f.snap.length<=1000/\f.que.length<=50
end Go.Proofs.YtjajnhemgphefaaGreatDoor
namespace Go.Proofs.YtjajnhemgphefaaGreatDoor
open Go renaming World->Wq,Value->Vq
open Go.RowKit Go.Shelf
variable {p:Nms} {s:Nat->ByteArray} {a:Am} {ar:ByteArray->Nat} {F:List (Gd×Int)} {e:Int} {G:List Gr}
def qdh(g:Gd):Gr:=⟨g.rel,if qg g.y=true then [g.x] else [g.x,g.y]⟩
theorem qqc{g h:Gd}(e:qdh g=qdh h):g=h:=by
 obtain⟨r,x,y⟩:=g;obtain⟨r',x',y'⟩:=h;unfold qdh at e;simp only[Gr.mk.injEq] at e;obtain⟨rfl,e⟩:=e;by_cases h1:qg y=true <;> by_cases h2:qg y'=true
 ·rw[if_pos h1,if_pos h2] at e;simp only[List.cons.injEq,and_true] at e;rw[e,(qce y).1 h1,(qce y').1 h2]
 ·rw[if_pos h1,if_neg h2] at e;simp at e
 ·rw[if_neg h1,if_pos h2] at e;simp at e
 ·rw[if_neg h1,if_neg h2] at e;simp only[List.cons.injEq,and_true] at e;rw[e.1,e.2]
def Qav(a:Am):Prop:=(a.args.length=1\/a.args.length=2)/\∀t∈a.args,t.num < 6
def q8o(s:Nat->ByteArray)(a:Am):Prop:=∀t∈a.args,qg (inT s t)=false
theorem qxz{t:Tm}(h:qg t.name=true->p.get t.num=s t.num):ofT p t=inT s t:=by
 unfold ofT inT;by_cases he:qg t.name=true
 ·rw[if_pos he,if_pos (by exact he),h he]
 ·rw[if_neg he,if_neg (by exact he)]
theorem qgi(ha:a.args.length=1\/a.args.length=2)(hp:∀t∈a.args,qg t.name=true->p.get t.num=s t.num)(hf:q8o s a):qdh (qb p a)=qcm s a:=by
 obtain⟨rel,args⟩:=a;simp only at ha hp hf;unfold qdh qb qcm;simp only[Gr.mk.injEq,true_and]
 match args,ha,hp,hf with
 | [t],_,hp,hf=>
  show (if qg eBy=true then [ofT p t] else [ofT p t,eBy])=[inT s t];rw[if_pos qck,qxz (hp t List.mem_cons_self)]
 | [t,u],_,hp,hf=>
  show (if qg (ofT p u)=true then [ofT p t] else [ofT p t,ofT p u])=[inT s t,inT s u];have e1:=qxz (hp t List.mem_cons_self);have e2:=qxz (hp u (List.mem_cons_of_mem _ List.mem_cons_self));have h2:=hf u (List.mem_cons_of_mem _ List.mem_cons_self);rw[e1,e2,if_neg (by rw[h2];decide)]
 | [],h,_,_=>simp at h
 | _::_::_::_,h,_,_=>simp at h
def qy5(s:Nat->ByteArray):Nms:=⟨s 0,s 1,s 2,s 3,s 4,s 5⟩
theorem q0y(s:Nat->ByteArray){n:Nat}(h:n < 6):(qy5 s).get n=s n:=by
 match n,h with
 | 0,_=>rfl
 | 1,_=>rfl
 | 2,_=>rfl
 | 3,_=>rfl
 | 4,_=>rfl
 | 5,_=>rfl
theorem qn8(hs:∀v,qg (s v)=false)(t:Tm):qg (inT s t)=false:=by
 unfold inT;by_cases he:qg t.name=true
 ·rw[if_pos he];exact hs _
 ·rw[if_neg he];simpa using he
def ArE(ar:ByteArray->Nat)(g:Gd):Prop:=qg g.x=false/\((ar g.rel=1/\qg g.y=true)\/(ar g.rel=2/\qg g.y=false))
theorem qkg(h2:a.args.length=1\/a.args.length=2)(hl:a.args.length=ar a.rel):ArE ar (qb p a)↔∀t∈a.args,qg (ofT p t)=false:=by
 obtain⟨rel,args⟩:=a;simp only at h2 hl
 match args,h2,hl with
 | [t],_,hl=>
  show (qg (ofT p t)=false/\((ar rel=1/\qg eBy=true)\/(ar rel=2/\qg eBy=false)))↔_;rw[qck];have h1:ar rel=1:=hl.symm;simp[h1]
 | [t,u],_,hl=>
  show (qg (ofT p t)=false/\((ar rel=1/\qg (ofT p u)=true)\/(ar rel=2/\qg (ofT p u)=false)))↔_;have h1:ar rel=2:=hl.symm;simp[h1]
 | [],h,_=>simp at h
 | _::_::_::_,h,_=>simp at h
structure qk2(ar:ByteArray->Nat)(R:List Rl)(F:List (Gd×Int))(e:Int)(G:List Gr):Prop where
 to:∀x∈F,e < x.2->ArE ar x.1/\(qdh x.1∈G\/∃r∈R,r.body=[]/\x.1=qb Qg r.head)
 back:∀g∈G,∃x∈F,e < x.2/\qdh x.1=g
 given:∀r∈R,r.body=[]->∃x∈F,e < x.2/\x.1=qb Qg r.head
structure qdj(ar:ByteArray->Nat)(R:List Rl):Prop where
 two:∀r∈R,∀a∈r.head::r.body,Qav a/\a.args.length=ar a.rel
 safe:∀r∈R,∀v,qdk r.head v->∃a∈r.body,qdk a v
theorem qo4{r:Rl}(hs:∀v,qdk r.head v->∃a∈r.body,qdk a v)(hb:r.body=[]):∀t∈r.head.args,qg t.name=false:=λt ht=>by
 cases he:qg t.name with
 | false=>rfl
 | true=>
  obtain⟨a,ha,_⟩:=hs t.num ⟨t,ht,he,rfl⟩;rw[hb] at ha;cases ha
theorem qt7{R:List Rl}(hR:qdj ar R){r:Rl}(hr:r∈R)(hb:r.body=[])(p:Nms)(s:Nat->ByteArray)(hs:∀v,qg (s v)=false):qdh (qb p r.head)=qcm s r.head:=by
 have hc:=qo4 (hR.safe r hr) hb;exact qgi (hR.two r hr _ List.mem_cons_self).1.1 (λt ht he=>by rw[hc t ht] at he;cases he) (λt ht=>qn8 hs t)
theorem q82{R:List Rl}(hR:qdj ar R)(hF:qk2 ar R F e G){g:Gd}(hd:Der R F e g):Dv R G (qdh g)/\ArE ar g:=by
 have h97:qg (⟨#[97]⟩:ByteArray)=false:=by decide +kernel
 refine hd (λg=>Dv R G (qdh g)/\ArE ar g) (λx hx he=>?_) (λr hr hb p hp=>?_)
 ·obtain⟨h1,h2⟩:=hF.to x hx he;refine⟨?_,h1⟩;rcases h2 with h2 | ⟨r,hr,hb,e1⟩
  ·exact λS s1 _=>s1 _ h2
  ·rw[e1,qt7 hR hr hb _ (λ_=>⟨#[97]⟩) (λ_=>h97)];exact λS _ s2=>s2 r hr _ (λ_=>h97) (λa ha=>by rw[hb] at ha;cases ha)
 ·have hv:∀v,(∃a∈r.body,qdk a v)->qg (p.get v)=false:=λv ⟨a,ha,t,ht,he,hn⟩=>by
   obtain⟨h2,h3⟩:=hR.two r hr a (List.mem_cons_of_mem _ ha);have:=(qkg h2.1 h3).1 (hp a ha).2 t ht;unfold ofT at this;rw[if_pos (by exact he),hn] at this;exact this
  have hs:∀v,qg ((λv=>if qg (p.get v)=true then (⟨#[97]⟩:ByteArray) else p.get v) v)=false:=λv=>by
   show qg (if _ then _ else _)=false;split
   ·exact h97
   ·rename_i h;simpa using h
  have he:∀v,qg (p.get v)=false->p.get v=(λv=>if qg (p.get v)=true then (⟨#[97]⟩:ByteArray) else p.get v) v:=λv h=>by
   show _=if _ then _ else _;rw[if_neg (by rw[h];decide)]
  have qo1:∀a∈r.body,qdh (qb p a)=qcm (λv=>if qg (p.get v)=true then (⟨#[97]⟩:ByteArray) else p.get v) a:=λa ha=>
   qgi (hR.two r hr a (List.mem_cons_of_mem _ ha)).1.1 (λt ht hte=>he _ (hv _ ⟨a,ha,t,ht,hte,rfl⟩)) (λt ht=>qn8 hs t)
  have quy:∀t∈r.head.args,qg t.name=true->qg (p.get t.num)=false:=λt ht hte=>hv _ (hR.safe r hr _ ⟨t,ht,hte,rfl⟩);obtain⟨h2,h3⟩:=hR.two r hr r.head List.mem_cons_self;refine⟨?_,(qkg h2.1 h3).2 (λt ht=>?_)⟩
  ·rw[qgi h2.1 (λt ht hte=>he _ (quy t ht hte)) (λt ht=>qn8 hs t)];exact λS s1 s2=>s2 r hr _ hs (λa ha=>by rw[<- qo1 a ha];exact (hp a ha).1 S s1 s2)
  ·unfold ofT;by_cases hte:qg t.name=true
   ·rw[if_pos (by exact hte)];exact quy t ht hte
   ·rw[if_neg (by exact hte)];simpa using hte
theorem q83{R:List Rl}(hR:qdj ar R)(hF:qk2 ar R F e G){h:Gr}(hd:Dv R G h):∃g,qdh g=h/\Der R F e g:=by
 refine hd (λh=>∃g,qdh g=h/\Der R F e g) (λx hx=>?_) (λr hr s hs hb=>?_)
 ·obtain⟨y,hy,he,e1⟩:=hF.back x hx;exact⟨y.1,e1,Der.fact hy he⟩
 ·have hg:∀a∈r.head::r.body,qdh (qb (qy5 s) a)=qcm s a:=λa ha=>
   qgi (hR.two r hr a ha).1.1 (λt ht _=>q0y s ((hR.two r hr a ha).1.2 t ht)) (λt ht=>qn8 hs t)
  by_cases h0:r.body=[]
  ·obtain⟨x,hx,he,e1⟩:=hF.given r hr h0;refine⟨x.1,?_,Der.fact hx he⟩;rw[e1];exact qt7 hR hr h0 _ s hs
  ·refine⟨qb (qy5 s) r.head,hg _ List.mem_cons_self,Der.rule hr h0 (λa ha=>?_)⟩;obtain⟨g,e1,hd'⟩:=hb a ha;have:g=qb (qy5 s) a:=qqc (e1.trans (hg a (List.mem_cons_of_mem _ ha)).symm);rw[<- this];exact hd'
theorem q53{R:List Rl}(hR:qdj ar R)(hF:qk2 ar R F e G)(g:Gd):Der R F e g↔Dv R G (qdh g):=by
 refine⟨λh=>(q82 hR hF h).1,λh=>?_⟩;obtain⟨g',e1,h'⟩:=q83 hR hF h;rw[<- qqc e1];exact h'
