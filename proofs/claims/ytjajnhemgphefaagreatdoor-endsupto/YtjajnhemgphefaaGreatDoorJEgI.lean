/- The engine: isWithin, end, isOver; slices.DeleteFunc of -/
import Derived.Test.YtjajnhemgphefaaGreatDoorJMoG
import Derived.Shelf.Slices.In.SortNone
import Derived.Lib.SliceRun
import Derived.Test.YtjajnhemgphefaaGreatDoorJEgG
import Derived.ChangeKeysEq
set_option linter.unusedVariables false
set_option linter.unusedSimpArgs false
set_option maxRecDepth 100000
set_option maxHeartbeats 2000000
namespace Go.Proofs.YtjajnhemgphefaaGreatDoor
open Go renaming World->Wq,Value->Vq
open Go.RowKit Go.Shelf Go.Maps
attribute [local go_sem] Oper.semAt_some
def GdX:={g:Gd // qgw g}
def gdX(g:Gd)(h:qgw g):GdX:=⟨g,h⟩
theorem qrp{p:Nms}{a:Am}(hp:∀k,(p.get k).size<=maxLen)(hr:a.rel.size<=maxLen)(ht:∀t∈a.args,t.name.size<=maxLen):qgw (qb p a):=by
 have hof:∀t∈a.args,(ofT p t).size<=maxLen:=by
  intro t h;unfold ofT;split
  ·exact hp _
  ·exact ht t h
 have he:(⟨#[]⟩:ByteArray).size<=maxLen:=by show 0<=maxLen;exact Nat.zero_le _
 refine⟨hr,?_,?_⟩
 ·show (xOf p a.args).size<=maxLen;unfold xOf;split
  ·exact he
  ·rename_i t l h;exact hof t (by rw[h];simp)
 ·show (yOf p a.args).size<=maxLen;unfold yOf;split
  ·rename_i t u l h;exact hof u (by rw[h];simp)
  ·exact he
structure GdS(g:Gd):Prop where
 rel:g.rel.size<=2000
 x:g.x.size<=2000
 y:g.y.size<=2000
theorem GdS.ok{g:Gd}(h:GdS g):qgw g:=⟨Nat.le_trans h.rel (by unfold maxLen;decide),Nat.le_trans h.x (by unfold maxLen;decide),Nat.le_trans h.y (by unfold maxLen;decide)⟩
attribute [local go_sem] Oper.semAt_some
theorem qi3(a:Am)(va:Vq)(b:Nat)(w:Wq)(hS:Qd w b va a.args)(hl:a.args.length<=2)(hn:∀t∈a.args,t.num < 6) :
  Calls Tryz.prog 48 #[.agg #[.string a.rel,va]] w λe w'=>e=.returned (qb Qg a).v/\Below w.heap.size w w':=by
 obtain⟨ta,tc,htf⟩:=hS.form;subst htf
 have hg:Hid (∀W,Below w.heap.size w W->Calls Tryz.prog 89 #[.agg #[.string ⟨#[]⟩,.string ⟨#[]⟩,.string ⟨#[]⟩,.string ⟨#[]⟩,.string ⟨#[]⟩,.string ⟨#[]⟩],.agg #[.string a.rel,.slice ta a.args.length tc]] W λe w'=>e=.returned (.agg #[.string (qb Qg a).rel,.string (qb Qg a).x,.string (qb Qg a).y])/\Below W.heap.size W w'):=λW hk=>
  qoy Qg a _ b W (hS.kept (λk c _ hc=>(hk.block k (zg hc).1).trans hc)) hl hn
 clear hS hn;unfold Gd.v Gd.c;generalize hGr:(qb Qg a).rel=gr at *;generalize hGx:(qb Qg a).x=gx at *;generalize hGy:(qb Qg a).y=gy at *;clear hGr hGx hGy
 have hH:Hid (∀W1,Below ((w.alloc (.cells #[.string a.rel,.slice ta a.args.length tc] 92)).alloc (.cells #[.string ⟨#[]⟩,.string ⟨#[]⟩,.string ⟨#[]⟩] 111)).heap.size ((w.alloc (.cells #[.string a.rel,.slice ta a.args.length tc] 92)).alloc (.cells #[.string ⟨#[]⟩,.string ⟨#[]⟩,.string ⟨#[]⟩] 111)) W1->W1.heap[w.heap.size+1]?=some (Obj.cells #[.string ⟨#[]⟩,.string ⟨#[]⟩,.string ⟨#[]⟩] 111)):=by
  intro W1 hb;refine (hb.block _ (by simp)).trans ?_;have:=World.alloc_heap_new (w.alloc (.cells #[.string a.rel,.slice ta a.args.length tc] 92)) (.cells #[.string ⟨#[]⟩,.string ⟨#[]⟩,.string ⟨#[]⟩] 111);rw[World.size_alloc] at this;exact this
 go_enter Tryz.func48,Tryz.ntmps48
 go_wp2_with (go_at_call 89;refine (hg.out _ (((Below.refl _ w).alloc zl _).alloc (by simp) _)).mono ?_;rintro e W1 ⟨rfl,hb1⟩;have hh:=hH.out W1 hb1;have c0:W1.cell? ⟨w.heap.size+1,0,none⟩=some (.string ⟨#[]⟩):=(by simp[World.cell?,hh]);have c1:W1.cell? ⟨w.heap.size+1,1,none⟩=some (.string ⟨#[]⟩):=(by simp[World.cell?,hh]);have c2:W1.cell? ⟨w.heap.size+1,2,none⟩=some (.string ⟨#[]⟩):=(by simp[World.cell?,hh]);have f0:W1.frozen? ⟨w.heap.size+1,0,none⟩=false:=(by simp[World.frozen?,hh]);have f1:W1.frozen? ⟨w.heap.size+1,1,none⟩=false:=(by simp[World.frozen?,hh]);have f2:W1.frozen? ⟨w.heap.size+1,2,none⟩=false:=(by simp[World.frozen?,hh]))
 refine bodyPost_ret (v:=.agg #[.string gr,.string gx,.string gy]) (by simp[results,Tryz.results48,go_sem,c0,c1,c2]) rfl ?_;exact⟨rfl,((((((Below.refl _ w).alloc zl _).alloc (by simp) _).trans (hb1.mono (by simp;omega))).setCell (p:=⟨w.heap.size+1,0,none⟩) (by simp) _).setCell (p:=⟨w.heap.size+1,1,none⟩) (by simp) _).setCell (p:=⟨w.heap.size+1,2,none⟩) (by simp) _⟩
theorem q0a(v:Vq)(w:Wq)(ta:Option Addr)(tn tc:Nat)(hva:v=.slice ta tn tc) :
  Calls Tryz.prog 135 #[v] w λe w'=>e=.returned (.func (.func 188) #[] #[.pointer (some ⟨w.heap.size,0,none⟩)])/\w'=w.alloc (.cells #[v] 75):=by
 subst hva;go_enter Tryz.func135,Tryz.ntmps135;go_wp2;go_ret;exact⟨rfl,rfl⟩
def Qk(R:List Rl):List (Gd×Int):=R.filterMap (λr=>if r.body=[] then some (qb Qg r.head,2000000) else none)
theorem qur{R:List Rl}{k:Nat}(h:k < R.length):Qk (R.take (k+1))=Qk (R.take k)++(if (R[k]).body=[] then [(qb Qg (R[k]).head,2000000)] else []):=by
 unfold Qk;rw[List.take_succ_eq_append_getElem h,List.filterMap_append];congr 1;by_cases hb:(R[k]).body=[]
 ·simp[hb]
 ·simp[hb]
def q8t(r:Rl):Prop:=r.head.args.length<=2/\∀t∈r.head.args,t.num < 6
theorem q0b(base Bl rb b45 b87:Nat)(v:Vq)(R:List Rl)(w:Wq)(qae:w.heap[Bl]?=some (Obj.cells #[v] 75))(hR:Qa w rb b45 b87 v R)(hok:∀r∈R,q8t r)(h8:R.length<=8)(m n0:Nat) :
  qfg m n0 188 #[.pointer (some ⟨Bl,0,none⟩)] (λx:Gd×Int=>#[.agg (qo x).toArray]) (qcw w.heap.size base m) (λys=>ys=Qk R) (λ_=>True) R.length w:=by
 obtain⟨n,hn⟩:∃n,12<=n:=⟨12,Nat.le_refl _⟩;refine qfg.any (n:=n) ?_ n0;have n1:1<=n:=by omega
 intro l J Jx W hW hsz hJ hJx hY h0;have hbW:=(hW.block Bl (zg qae).1).trans qae;obtain⟨va,vc,rfl⟩:=hR.form;have c0:W.cell? ⟨Bl,0,none⟩=some (.slice va R.length vc):=by simp[World.cell?,hbW]
 have HY:Hid _:=hY;have HJ:Hid (OwnFrom W.heap.size J):=hJ;have HJx:Hid (OwnFrom W.heap.size Jx):=hJx;have HR:Hid _:=hR;have HW:Hid _:=hW;clear hY hJ hJx hR hW qae;refine callsIn_of_wp_marks Tryz.func188 rfl trivial ?_ rfl;simp only[Tryz.ntmps188,List.size_toArray,List.length_cons,List.length_nil,Nat.reduceAdd,Nat.reduceSub,Array.replicate_succ,Array.replicate_zero,List.push_toArray,List.append_toArray,List.nil_append,List.cons_append]
 gi_wp2
 refine wpIn_loop (λA V=>∃(k:Nat) (u4 u8 u9 u10 u11 u12 u13 u14 u15 u16 u17 u18 u19 u20 u21 u22 u23 u24:Vq),A={tmps:=#[.func (.yield l) #[] #[],.pointer (some ⟨Bl,0,none⟩),undef,undef,u4,.slice va R.length vc,.int .i64 R.length,.int .i64 k,u8,u9,u10,u11,u12,u13,u14,u15,u16,u17,u18,u19,u20,u21,u22,u23,u24],defers:=[]}/\k<=R.length/\J (Qk (R.take k)) V/\qcw w.heap.size base m W V) (λA _=>R.length - (intOf (A.tmps.getD 7 undef)).toNat) ⟨0,_,_,_,_,_,_,_,_,_,_,_,_,_,_,_,_,_,_,rfl,Nat.zero_le _,by simpa [Qk] using h0,qcw.ofBelow (Below.refl _ _)⟩ ?_;rintro A V ⟨k,u4,u8,u9,u10,u11,u12,u13,u14,u15,u16,u17,u18,u19,u20,u21,u22,u23,u24,rfl,hk,hJk,hLk⟩;by_cases hlt:k < R.length
 ·have hrk:qf w V:=λi c t ht hi=>by
   have hil:=(zg hi).1;refine hLk.block i _ hil ((HW.out.block i hil).trans hi) (.inr (λc' fz e=>?_));cases e;rcases ht with h | h | h <;> revert h <;> decide
  obtain⟨g,c,v0,vb,e0,x0,x1,x2,hv1,hv2⟩:=qc1 (Qa.rk HR.out hrk) hlt;cases e0;obtain⟨fa,fc,hf0⟩:=hv1.form;obtain⟨ga,gc,hfb⟩:=qas.form hv2;subst hf0 hfb;have hal:∀O,Below V.heap.size V (V.alloc O):=λO=>(Below.refl _ V).alloc zl O
  have hof:Hid (∀W1,Below V.heap.size V W1->Calls Tryz.prog 48 #[.agg #[.string (R[k]).head.rel,.slice fa (R[k]).head.args.length fc]] W1 λe w'=>e=.returned (.agg #[.string (qb Qg (R[k]).head).rel,.string (qb Qg (R[k]).head).x,.string (qb Qg (R[k]).head).y])/\Below W1.heap.size W1 w'):=λW1 hb=>
   qi3 (R[k]).head _ b87 W1 (hv1.kept (λi c _ hc=>(hb.block i (zg hc).1).trans hc)) (hok _ (List.getElem_mem hlt)).1 (hok _ (List.getElem_mem hlt)).2
  have hgl:=qur hlt
  have Q7:(Qk (R.take k)).length<=k:=by
   refine Nat.le_trans (List.length_filterMap_le _ _) ?_;simp;omega
  have hyl:Hid (∀W1,Below V.heap.size V W1->YieldAt Fence.wide (n - 1) Tryz.prog l #[.agg #[.string (qb Qg (R[k]).head).rel,.string (qb Qg (R[k]).head).x,.string (qb Qg (R[k]).head).y,.int .i64 2000000]] W1 λe W'=>∃b:Bool,e=.returned (.bool b)/\((b=true/\J (Qk (R.take k)++[(qb Qg (R[k]).head,2000000)]) W'/\qcw w.heap.size base m V W')\/(b=false/\Jx (Qk (R.take k)++[(qb Qg (R[k]).head,2000000)]) W'))):=by
   intro W1 hb;obtain⟨fn,tmps,assign,body,hy,hR⟩:=HY.out (Qk (R.take k)) (qb Qg (R[k]).head,2000000) W1 (HJ.out _ _ _ none hJk (qh hb) (λr e=>by cases e)) (by omega);refine⟨fn,tmps,assign,body,hy,hR.mono ?_⟩;rintro e W' (⟨rfl,k1,k2⟩ | ⟨rfl,k1,k2⟩)
   ·exact⟨true,rfl,.inl ⟨rfl,k1,(qcw.ofBelow hb).tr k2⟩⟩
   ·exact⟨false,rfl,.inr ⟨rfl,k1⟩⟩
  generalize hxk:R[k]=rk at *;have HLK:Hid _:=hLk;have HGL:Hid (Qk (R.take (k+1))=Qk (R.take k)++(if rk.body=[] then [(qb Qg rk.head,2000000)] else [])):=hgl;have HB:Hid _:=hal;clear hal hLk hxk hrk hv1 hv2 hgl
  cases hbd:rk.body with
  | nil=>
   have q8s:Hid (Qk (R.take (k+1))=Qk (R.take k)++[(qb Qg rk.head,2000000)]):=by show _=_;rw[HGL.out,if_pos hbd]
   rw[hbd] at x2;clear hbd HGL;generalize hGr:(qb Qg rk.head).rel=gr at *;generalize hGx:(qb Qg rk.head).x=gx at *;generalize hGy:(qb Qg rk.head).y=gy at *;clear hGr hGx hGy
   gi_wp2_with (first | (refine⟨trivial,?_⟩;gi_at_call 48;refine (callsIn_wide.2 (hof.out _ (HB.out _))).mono ?_;rintro e W1 ⟨rfl,hb1⟩;obtain⟨fn,tmps,assign,body,hy,hR⟩:=hyl.out W1 ((HB.out _).trans (hb1.mono (by simp)))))
   refine hR.mono ?_;rintro e W2 ⟨b,rfl,⟨rfl,hJ2,hk2⟩ | ⟨rfl,hJx2⟩⟩
   ·clear hy hR
    gi_wp2
    refine⟨⟨k+1,_,_,_,_,_,_,_,_,_,_,_,_,_,_,_,_,_,_,rfl,by omega,by rw[q8s.out];exact hJ2,HLK.out.tr hk2⟩,?_⟩;simp[intOf];omega
   ·clear hy hR
    gi_wp2
    exact⟨_,results_none rfl _ _ _,⟨_,rfl⟩,.inr ⟨_,trivial,hJx2⟩⟩
  | cons a0 at2=>
   have q8s:Hid (Qk (R.take (k+1))=Qk (R.take k)):=by show _=_;rw[HGL.out,if_neg (by rw[hbd];simp),List.append_nil]
   rw[hbd] at x2;clear hbd HGL;have hz:((at2.length:Int)+1 == 0)=false:=by simp;omega
   gi_wp2
   refine⟨trivial,?_⟩
   gi_wp2
   refine⟨λf h=>(by cases h),?_⟩
   gi_wp2
   refine⟨⟨k+1,_,_,_,_,_,_,_,_,_,_,_,_,_,_,_,_,_,_,rfl,by omega,by rw[q8s.out];exact HJ.out _ _ _ none hJk (qh (HB.out _)) (λr e=>by cases e),HLK.out.tr (qcw.ofBelow (HB.out _))⟩,?_⟩;simp[intOf];omega
 ·have hkl:k=R.length:=by omega
  subst hkl;rw[List.take_length] at hJk
  gi_wp2
  exact⟨_,results_none rfl _ _ _,⟨_,rfl⟩,.inl ⟨_,rfl,hJk⟩⟩
attribute [local go_sem] Oper.semAt_some
def Qdy(l:List (List UInt8)):List (List UInt8):=l.mergeSort λx y=>decide (x<=y)
end Go.Proofs.YtjajnhemgphefaaGreatDoor
namespace Go.Proofs.YtjajnhemgphefaaGreatDoor
open Go renaming World->Wq,Value->Vq
open Go.RowKit Go.Shelf
variable {W:Wq} {size b e:Nat} {xs:List Vq}
theorem qm6(z:Array Vq)(n:Nat):(Builtin.zeroCells z n).size=n*z.size:=by
 unfold Builtin.zeroCells
 induction n with
 | zero=>simp
 | succ n ih=>simp[Array.replicate_succ,Nat.succ_mul]
structure Sl where
 v:Vq
 n:Nat
 xs:List Vq
def qb8(l:List Sl):Nat:=(l.map (·.n)).sum
theorem qp8{l:List Sl}{k:Nat}(h:k < l.length):qb8 (l.take (k+1))=qb8 (l.take k)+(l[k]).n:=by
 unfold qb8;rw[List.take_succ_eq_append_getElem h,List.map_append,List.sum_append];rfl
theorem qvx(l:List Sl)(k:Nat):qb8 (l.take k)<=qb8 l:=by
 unfold qb8
 conv=>rhs;rw[<- List.take_append_drop k l]
 rw[List.map_append,List.sum_append];omega
def qj0(W:Wq)(size:Nat)(s:Sl):Prop:=
 (s.v=.slice none 0 0/\s.n=0/\s.xs=[])\/
 ∃a c,s.v=.slice (some a) s.n c/\s.xs.length=s.n*size/\(∀j u,s.xs[j]?=some u->W.cell? (a.add j)=some u)/\(s.n≠0->a.block < W.heap.size)/\∀u∈s.xs,u.oneCell'=true
theorem qj0.form{s:Sl}(h:qj0 W size s):∃a c,s.v=.slice a s.n c:=by
 rcases h with⟨h1,h2,_⟩ | ⟨a,c,h1,_⟩
 ·exact⟨none,0,by rw[h1,h2]⟩
 ·exact⟨some a,c,h1⟩
theorem qj0.later{W':Wq}{s:Sl}(h:qj0 W size s)(hb:Below W.heap.size W W'):qj0 W' size s:=by
 rcases h with h | ⟨a,c,h1,h2,h3,h4,h5⟩
 ·exact .inl h
 ·refine .inr ⟨a,c,h1,h2,λj u hj=>cell_later hb (h3 j u hj),λhn=>?_,h5⟩;have:=h4 hn;have:=hb.size;omega
theorem qgr{b' n:Nat}{v:Vq}(h:W.ownsRow b e size v n xs)(hb:b'<=b):W.ownsRow b' e size v n xs:=by
 obtain⟨h0,h1 | ⟨g,cap,cur,hv,hg,h2⟩⟩:=h
 ·exact⟨h0,.inl h1⟩
 ·exact⟨h0,.inr ⟨g,cap,cur,hv,Nat.le_trans hb hg,h2⟩⟩
theorem Qai{n:Nat}{v:Vq}(h:W.ownsRow b e size v n xs){g:Nat}(hg:v.ownBlock=some g):b<=g:=by
 obtain⟨h0,⟨h1,_⟩ | ⟨g',cap,cur,hv,hb,h2⟩⟩:=h
 ·rw[h1] at hg;cases hg
 ·rw[hv] at hg;cases hg;exact hb
theorem qw5(W:Wq)(r:Option Nat):W.grownBy W r:=⟨rfl,rfl,rfl,Nat.le_refl _,λ_ _ _=>rfl⟩
theorem qk1{P:Program}(w:Wq){ops:Array Oper}{rest:List Oper}{o:Oper}{a:Act}{Q:Exit->Act->Wq->Prop}(hgd:o.guard=none)(s x:Operand)(t:TypeId)(ho:o.op=.call {callee:=.builtin .append,args:=#[s,x],argTypes:=#[t,t]})(base:Nat)(e:TypeId)(i:TypeInfo)(size:Nat)(ht:P.underlying t=some (.slice e))(hi:P.info? e=some i)(v:Vq)(n:Nat)(xs:List Vq)(hs:a.eval s=v)(qr:w.ownsRow base e size v n xs)(hx:a.eval x=.slice none 0 0)(h:wpList P ops Q rest (a.put o.dst v) w):wpList P ops Q (o::rest) a w:=by
 refine wpList_plain hgd λK hK=>?_;have hr:=run_append_owned_none (P:=P) w base t o.type e i size ht hi v n xs qr;unfold Oper.wp execOp;simp only[ho,resolve,invoke,builtin,Sem.run_bind,Sem.run_pure,Result.andThen_ok,List.map_toArray,List.map_cons,List.map_nil,hs,hx,hr];exact hK _ _ h
theorem q0d(n:Nat)(hn:n<=1000)(w:Wq) :
  Calls Tryz.prog 259 #[.slice none 0 0,.int .i64 n] w λe w'=>∃v,e=.returned v/\w'.ownsRow w.heap.size 92 2 v 0 []/\Below w.heap.size w w':=by
 by_cases h0:n=0
 ·subst h0;refine (Any8.slices_Grow_room Tryz.growAtom none 0 0 0 w zl (by decide) (by decide) zl).mono ?_;rintro e w' ⟨rfl,rfl⟩;exact⟨_,rfl,World.ownsRow_nil _ _ _ _,Below.refl _ _⟩
 ·obtain⟨i0,hi,hz0,hz1,hz2⟩:=info_parts Tryz.info45;refine (Any8.slices_Grow_grow Tryz.growAtom i0 _ hi hz0 (by rw[hz1];decide) none 0 0 n [] w zl (by omega) (by rw[hz2];omega) (by omega) (by simp) (λ_=>rfl) (λa h=>by cases h)).mono ?_;rintro e w' ⟨rfl,rfl⟩;have hg:=grownCap_ge w (0+n) 0 92;have hm:=grownCap_le_maxLen w (0+n) 0 92 (by unfold maxLen;omega);refine⟨_,rfl,⟨rfl,.inr ⟨w.heap.size,_,_,rfl,Nat.le_refl _,World.alloc_heap_new w.drew _,Nat.zero_le _,hm,?_,by simp⟩⟩,(Below.refl w.heap.size w).drew.alloc zl _⟩;rw[Array.size_append,Array.size_append,qm6,qm6];show 0+_*2+_*2=_*2;have:∀g:Nat,0+n<=g->0+(0+n - 0)*2+(g - (0+n))*2=g*2:=λg h=>by omega
  exact this _ hg
theorem qt6(B:Nat)(ss:List Sl)(w:Wq)(hB:w.heap[B]?=some (Obj.cells (ss.map (·.v)).toArray 134))(hss:∀s∈ss,qj0 w 2 s)(hn:qb8 ss<=500)(hl:ss.length<=10) :
  Calls Tryz.prog 230 #[.slice (some ⟨B,0,none⟩) ss.length ss.length] w λe w'=>∃v,e=.returned v/\w'.ownsRow w.heap.size 92 2 v (qb8 ss) (ss.flatMap (·.xs))/\Below w.heap.size w w':=by
 have hBl:B < w.heap.size:=(zg hB).1;have hgr:Hid (∀W,Calls Tryz.prog 259 #[.slice none 0 0,.int .i64 (qb8 ss)] W λe w'=>∃v,e=.returned v/\w'.ownsRow W.heap.size 92 2 v 0 []/\Below W.heap.size W w'):=λW=>q0d _ (by omega) W
 have Ql:Hid (∀W,Below w.heap.size w W->∀k (hk:k < ss.length),W.cell? ⟨B,k,none⟩=some (ss[k]).v/\qj0 W 2 ss[k]):=by
  intro W hb k hk;refine⟨cell_later hb ?_,(hss _ (List.getElem_mem hk)).later hb⟩;simp[World.cell?,hB,hk]
 clear hss hB;obtain⟨i0,hi,hz0,hz1,hz2⟩:=info_parts Tryz.info45;go_enter Tryz.func230,Tryz.ntmps230;go_wp2
 go_loopw [3,11] (λx y wr=>∃k:Nat,k<=ss.length/\x=.int .i64 (qb8 (ss.take k))/\y=.int .i64 k/\Below w.heap.size w wr) (λx y _=>ss.length - (intOf y).toNat)
 case atStart=>exact⟨0,Nat.zero_le _,rfl,rfl,Below.refl _ _⟩
 case round=>
  obtain⟨k,hk,rfl,rfl,hb⟩:=hrel;by_cases hlt:k < ss.length
  ·obtain⟨hc,hs⟩:=Ql.out wr hb k hlt;obtain⟨a,c,hv⟩:=hs.form;have qxj:qb8 (ss.take (k+1))=qb8 (ss.take k)+(ss[k]).n:=qp8 hlt;have hle:=qvx ss (k+1);rw[hv] at hc;have i1:(k:Int) < (ss.length:Int):=by omega
   generalize (ss[k]).n=m at *;generalize hq:qb8 (ss.take k)=q at *;have i2:¬((q:Int)+m < 0):=by omega
   clear hs hv hq;go_wp2
   go_roundw
   case rel=>exact⟨k+1,by omega,by rw[qxj];go_num,by go_num,hb⟩
   case measure=>simp[intOf];omega
  ·have hkl:k=ss.length:=by omega
   subst hkl;rw[List.take_length] at *;generalize hq:qb8 ss=q at *;have hqs:Hid (qb8 ss=q):=hq;have hq5:q<=500:=hn;clear hq
   go_wp2_with (go_at_call 259;refine (hgr.out _).mono ?_;rintro e W1 ⟨v,rfl,qr,hb1⟩;obtain⟨va,vc,hvf⟩:=qd qr;subst hvf)
   have hbW:Below w.heap.size w W1:=hb.trans (hb1.mono hb.size);have qga:W1.ownsRow w.heap.size 92 2 (.slice va 0 vc) 0 []:=qgr qr hb.size;clear qr hgr hb1 hb
   go_loopw [6,27] (λx y wr=>∃k:Nat,k<=ss.length/\(∃vx,vx=x/\wr.ownsRow w.heap.size 92 2 vx (qb8 (ss.take k)) ((ss.take k).flatMap (·.xs)))/\y=.int .i64 k/\Below w.heap.size w wr) (λx y _=>ss.length - (intOf y).toNat)
   case atStart=>exact⟨0,Nat.zero_le _,⟨_,rfl,qga⟩,rfl,hbW⟩
   case round=>
    clear qga hbW;obtain⟨k,hk,⟨vx,rfl,qr⟩,rfl,hb⟩:=hrel;by_cases hlt:k < ss.length
    ·obtain⟨hc,hs⟩:=Ql.out _ hb k hlt;have qxj:qb8 (ss.take (k+1))=qb8 (ss.take k)+(ss[k]).n:=qp8 hlt;have hle:=qvx ss (k+1);have hxs:(ss.take (k+1)).flatMap (·.xs)=(ss.take k).flatMap (·.xs)++(ss[k]).xs:=by rw[List.take_succ_eq_append_getElem hlt,List.flatMap_append];simp
     have i1:(k:Int) < (ss.length:Int):=by omega
     have hsz:=hb.size
     have qo7:Hid (∀v' w1,w1.ownsRow w.heap.size 92 2 v' (qb8 (ss.take k)+(ss[k]).n) ((ss.take k).flatMap (·.xs)++(ss[k]).xs)->wr.grownBy w1 vx.ownBlock->w1.ownsRow w.heap.size 92 2 v' (qb8 (ss.take (k+1))) ((ss.take (k+1)).flatMap (·.xs))/\Below w.heap.size w w1):=by
      intro v' w1 h1 h2;rw[qxj,hxs];exact⟨h1,hb.grown h2 hsz (λg hg=>Qai qr hg)⟩
     rw[hqs.out] at hle;rcases hs with⟨s1,s2,s3⟩ | ⟨a,c,s1,s2,s3,s4,s5⟩
     ·rw[s1] at hc;have hl:=qo7.out vx wr (by rw[s2,s3];simpa using qr) (qw5 _ _);have HL:Hid _:=hl;have HO:Hid (wr.ownsRow w.heap.size 92 2 vx (qb8 (ss.take k)) ((ss.take k).flatMap (·.xs))):=qr;obtain⟨xa,xc,hxf⟩:=qd qr;clear qo7 hxs qxj hl;subst hxf
      go_wp2_with (at_builtin;refine qk1 _ rfl (.tmp 31) (.tmp 32) 134 rfl w.heap.size 92 i0 2 Tryz.underlying134 hi _ _ _ rfl HO.out rfl ?_)
      go_roundw
      case rel=>exact⟨k+1,by omega,⟨_,rfl,HL.out.1⟩,by go_num,HL.out.2⟩
      case measure=>simp[intOf];omega
     ·rw[s1] at hc;have hb1:qb8 (ss.take k)+(ss[k]).n<=maxLen:=by unfold maxLen;omega
      have hb2:(qb8 (ss.take k)+(ss[k]).n)*40<=140737488355328:=by omega
      have HO:Hid (wr.ownsRow w.heap.size 92 2 vx (qb8 (ss.take k)) ((ss.take k).flatMap (·.xs))):=qr;obtain⟨xa,xc,hxf⟩:=qd qr;have S3:Hid _:=s3;generalize (ss[k]).n=m at *;generalize (ss[k]).xs=news at *;clear hxs qxj hle s3 qr;subst hxf
      go_wp2_with (at_builtin;refine wpList_append_own _ rfl (.tmp 31) (.tmp 32) 134 rfl w.heap.size 92 i0 _ 2 40 Tryz.underlying134 hi hz0 hz1 hz2 rfl (by decide) _ _ _ rfl HO.out a m c news rfl s2 S3.out s5 hb1 hb2 hsz ?_;intro v' w1 hown1 hgrow1 _;obtain⟨xa',xc',Qf9⟩:=qd hown1;subst Qf9)
      obtain⟨t1,t2⟩:=qo7.out _ w1 hown1 hgrow1
      go_roundw
      case rel=>exact⟨k+1,by omega,⟨_,rfl,t1⟩,by go_num,t2⟩
      case measure=>simp[intOf];omega
    ·have hkl:k=ss.length:=by omega
     subst hkl;rw[List.take_length] at qr;rw[hqs.out] at qr;obtain⟨xa,xc,hxf⟩:=qd qr;subst hxf;go_wp2;go_ret;refine⟨_,rfl,?_,hb⟩;rw[hqs.out];exact qr
end Go.Proofs.YtjajnhemgphefaaGreatDoor
namespace Go.Proofs.YtjajnhemgphefaaGreatDoor
open Go renaming World->Wq,Value->Vq
open Go.RowKit Go.Shelf Go.Maps
attribute [local go_sem] Oper.semAt_some
variable {b87 b:Nat} {W W':Wq}
structure q8q(Bm Ba Bo B B2 nn n2 b87:Nat)(M M2:Gd->Option Int)(a:Am)(va:Vq)(W:Wq):Prop where
 bm:W.heap[Bm]?=some (Obj.cells #[.map (some B)] 98)
 ba:W.heap[Ba]?=some (Obj.cells #[.string a.rel,va] 92)
 bo:W.heap[Bo]?=some (Obj.cells #[.map (some B2)] 98)
 args:Qd W b87 va a.args
 md:qda W B nn M
 md2:qda W B2 n2 M2
theorem q8q.mk'{m Bm Ba Bo B B2 nn n2:Nat}{M M2:Gd->Option Int}{a:Am}{va:Vq}(h:q8q Bm Ba Bo B B2 nn n2 b87 M M2 a va W)(hk:qt m W W'):q8q Bm Ba Bo B B2 nn n2 b87 M M2 a va W':=
 ⟨hk.cells _ _ _ (by unfold qcj;decide) h.bm,hk.cells _ _ _ (by unfold qcj;decide) h.ba,hk.cells _ _ _ (by unfold qcj;decide) h.bo,h.args.mk hk,h.md.mk hk,h.md2.mk hk⟩
structure Rc where
 kind:Int
 seq:Int
 text:ByteArray
 time:Int
def Rc.c(r:Rc):List Vq:=[.int .i64 r.kind,.int .i64 r.seq,.string r.text,.int .i64 r.time]
def Rc.v(r:Rc):Vq:=.agg r.c.toArray
def Qdt(kind:Int)(l:List (List UInt8)):List Rc:=l.map (λt=>⟨kind,0,⟨t.toArray⟩,0⟩)
theorem qgt{t:TypeId}{fz:Nat×Nat}:∀(vs:List Vq) (o:Nat) (w:Wq) (cur:Array Vq),w.heap[b]?=some (Obj.cells cur t fz)->o+vs.length<=cur.size->
  ∃cur':Array Vq,(w.setCells b o vs).heap[b]?=some (Obj.cells cur' t fz)/\cur'.size=cur.size/\(∀j,j < vs.length->cur'[o+j]?=vs[j]?)/\∀j,(j < o\/o+vs.length<=j)->cur'[j]?=cur[j]?
 | [],o,w,cur,h,_=>⟨cur,h,rfl,λj hj=>by simp at hj,λ_ _=>rfl⟩
 | v::vs,o,w,cur,h,hl=>by
  have h1:=Qi h o v;obtain⟨cur',k1,k2,k3,k4⟩:=qgt vs (o+1) (w.setCell ⟨b,o,none⟩ v) _ h1 (by simp at hl ⊢;omega);refine⟨cur',k1,by simpa using k2,λj hj=>?_,λj hj=>?_⟩
  ·cases j with
   | zero=>
    rw[k4 (o+0) (.inl (by omega))];have ho:o < cur.size:=by simp at hl;omega
    simp[ho]
   | succ j=>
    have:=k3 j (by simpa using hj);rw[show o+(j+1)=o+1+j by omega,this];simp
  ·simp only[List.length_cons] at hj;rw[k4 j (by omega)];have:o≠j:=by omega
   simp[Array.getElem?_setIfInBounds,this]
theorem qhy{w0:Wq}:∀(vs:List Vq) (o:Nat) (w:Wq),Chg w0 w (λk=>k=b)->Chg w0 (w.setCells b o vs) (λk=>k=b)
 | [],_,_,h=>h
 | v::vs,o,w,h=>qhy vs (o+1) _ (h.setCell ⟨b,o,none⟩ v (λ_=>rfl))
structure Fs where
 form:Am
 behind:Bool
 snap:List Rc
 que:List Rc
 told:Nat
def qwd(W:Wq)(S:Nat->Prop)(bf b87:Nat)(f:Fs):Prop:=
 ∃va vs vq,W.heap[bf]?=some (Obj.cells #[.string f.form.rel,va,.bool f.behind,vs,vq,.int .i64 f.told] 198)/\Qd W b87 va f.form.args/\
  W.ownsRow 0 71 4 vs f.snap.length (f.snap.flatMap Rc.c)/\W.ownsRow 0 71 4 vq f.que.length (f.que.flatMap Rc.c)/\
  (∀g,vs.ownBlock=some g->S g/\vq.ownBlock≠some g)/\(∀g,vq.ownBlock=some g->S g)/\S bf
structure q1z(a:Am):Prop where
 args:a.args.length<=2
 nums:∀t∈a.args,t.num < 6
 rel:a.rel.size<=2000
 names:∀t∈a.args,t.name.size<=2000
theorem qwd.keep{S:Nat->Prop}{bf:Nat}{f:Fs}(h:qwd W S bf b87 f){ex:Nat->Prop}(hk:∀k,k < W.heap.size->¬ex k->W'.heap[k]?=W.heap[k]?)(hS:∀k,S k->¬ex k)(hT:∀k c,W.heap[k]?=some (Obj.cells c 166)->¬ex k):qwd W' S bf b87 f:=by
 obtain⟨va,vs,vq,h1,h2,h3,h4,h5,h6,h7⟩:=h;exact⟨va,vs,vq,(hk bf (zg h1).1 (hS bf h7)).trans h1,h2.kept (λk c _ hc=>(hk k (zg hc).1 (hT k c hc)).trans hc),qm h3 (λg hg hlt=>hk g hlt (hS g (h5 g hg).1)),qm h4 (λg hg hlt=>hk g hlt (hS g (h6 g hg))),h5,h6,h7⟩
def Qek(M:Gd->Option Int)(a:Am)(gs:List Gd):Prop:=∃ks:List (ByteArray×ByteArray),ks.Nodup/\(∀x y,(x,y)∈ks↔(x.size<=maxLen/\y.size<=maxLen/\(M ⟨a.rel,x,y⟩).isSome=true))/\gs=(ks.filterMap (λk=>qaj Qg a k.1 k.2)).map (λp=>qb p a)
def Qbc(M M2:Gd->Option Int)(a:Am)(gs:List Gd):Prop:=∃g0,Qek M a g0/\gs=g0.filter (λg=>(M2 g).isNone)
def qm3(kind:Int)(gs:List Gd):List Rc:=Qdt kind (Qdy (gs.map (λg=>(Qd3 g).data.toList)))
end Go.Proofs.YtjajnhemgphefaaGreatDoor
namespace Go.Proofs.YtjajnhemgphefaaGreatDoor
open Go renaming World->Wq,Value->Vq
open Go.RowKit Go.Shelf
theorem q56(n:Nat)(b c e f:ByteArray)(w:Wq):(Op.equalIn (n+2) 109 (.agg #[.string b,.string c]) (.agg #[.string e,.string f])).run Tryz.prog w=.ok ((b.toList == e.toList) && (c.toList == f.toList)) w:=by
 have u3:=Tryz.underlying9;have a3:=Tryz.isAgg9;have z3:=Tryz.sizeOf9;have hU2:Tryz.prog.underlying 109=some (.array 2 9):=by kernel_rfl
 obtain⟨i0,hi⟩:∃i0,Tryz.prog.info? 9=some i0:=by
  obtain⟨i0,hi,_⟩:=info_parts Tryz.info9;exact⟨i0,hi⟩
 have hc:Tryz.prog.cellsOf 9=1:=by kernel_rfl
 rw[run_equalIn_array w (n+1) _ _ hU2 hi,hc,show List.range 2=[0,1] from rfl];simp only[Op.eqItems]
 go_simp
 by_cases h1:b.toList=e.toList <;> by_cases h2:c.toList=f.toList <;> simp[h1,h2]
theorem q2r(n:Nat)(a b c d e f:ByteArray)(w:Wq):(Op.equalIn (n+3) 111 (.agg #[.string a,.string b,.string c]) (.agg #[.string d,.string e,.string f])).run Tryz.prog w=.ok ((a.toList == d.toList) && ((b.toList == e.toList) && (c.toList == f.toList))) w:=by
 have u3:=Tryz.underlying9;have a3:=Tryz.isAgg9;have z3:=Tryz.sizeOf9;have aT:=Tryz.isAgg109;have zT:=Tryz.sizeOf109;have hS1:Tryz.prog.underlying 111=some (.struct (Tryz.prog.fieldsOf 111)):=by kernel_rfl
 have hp1:Tryz.prog.stoodInHeld 111=false:=by kernel_rfl
 have ht:=q56 n b c e f;rw[run_equalIn_agg w (n+2) 111 _ _ hS1 hp1];simp only[Program.fieldsOf,Tryz.underlying111]
 go_simp
 by_cases h1:a.toList=d.toList <;> by_cases h2:b.toList=e.toList <;> by_cases h3:c.toList=f.toList <;> simp[h1,h2,h3]
theorem q55(a b c d e f:ByteArray)(s t:Int)(w:Wq):(binOp .eql 161 (.agg #[.string a,.string b,.string c,.int .i64 s]) (.agg #[.string d,.string e,.string f,.int .i64 t])).run Tryz.prog w=.ok (.bool (((a.toList == d.toList) && ((b.toList == e.toList) && (c.toList == f.toList))) && (s == t))) w:=by
 have u4:=Tryz.underlying3;have a4:=Tryz.isAgg3;have z4:=Tryz.sizeOf3;have hS:Tryz.prog.underlying 161=some (.struct (Tryz.prog.fieldsOf 161)):=by kernel_rfl
 have hp:Tryz.prog.stoodInHeld 161=false:=by kernel_rfl
 have aG:=Tryz.isAgg111;have zG:=Tryz.sizeOf111;obtain⟨n,hn⟩:∃n,10000=n+4:=⟨9996,rfl⟩;have hg:=q2r n a b c d e f;rw[run_eql_struct,hn,run_equalIn_agg w (n+3) 161 _ _ hS hp];simp only[Program.fieldsOf,Tryz.underlying161];clear hn
 go_simp
 by_cases h1:a.toList=d.toList <;> by_cases h2:b.toList=e.toList <;> by_cases h3:c.toList=f.toList <;> by_cases h4:s=t <;> simp[h1,h2,h3,h4]
def qvs(x y:Gd×Int):Bool:=((x.1.rel.toList == y.1.rel.toList) && ((x.1.x.toList == y.1.x.toList) && (x.1.y.toList == y.1.y.toList))) && (x.2 == y.2)
def qmn(l:List (Gd×Int))(x:Gd×Int):Bool:=l.any (qvs x)
theorem qg3{W:Wq}{b:Nat}{v:Vq}{l:List (Gd×Int)}(h:W.ownsRow b 161 4 v l.length (l.flatMap qo)){k:Nat}(hk:k < l.length) :
  ∃(g c:Nat),v=.slice (some ⟨g,0,none⟩) l.length c/\W.cell? ⟨g,k*4,none⟩=some (.string (l[k]).1.rel)/\W.cell? ⟨g,k*4+1,none⟩=some (.string (l[k]).1.x)/\W.cell? ⟨g,k*4+2,none⟩=some (.string (l[k]).1.y)/\W.cell? ⟨g,k*4+3,none⟩=some (.int .i64 (l[k]).2)/\g < W.heap.size:=by
 obtain⟨g,cap,hv,h1,h2,h3,hc⟩:=qbq h (λ_=>rfl) (by omega);exact⟨g,cap,hv,hc k 0 hk _ (by decide) rfl,hc k 1 hk _ (by decide) rfl,hc k 2 hk _ (by decide) rfl,hc k 3 hk _ (by decide) rfl,h2⟩
theorem qxn(v:Vq)(l:List (Gd×Int))(b:Nat)(x:Gd×Int)(w:Wq)(hS:w.ownsRow b 161 4 v l.length (l.flatMap qo))(hl:l.length<=1000) :
  Calls Tryz.prog 143 #[v,.agg #[.string x.1.rel,.string x.1.x,.string x.1.y,.int .i64 x.2]] w λe w'=>∃r:Int,e=.returned (.int .i64 r)/\decide (0<=r)=qmn l x/\Below w.heap.size w w':=by
 obtain⟨a,c,qbd⟩:=qn hS
 have Ql:∀k (hk:k < l.length),∃g,a=some ⟨g,0,none⟩/\w.cell? ⟨g,k*4,none⟩=some (.string (l[k]).1.rel)/\w.cell? ⟨g,k*4+1,none⟩=some (.string (l[k]).1.x)/\w.cell? ⟨g,k*4+2,none⟩=some (.string (l[k]).1.y)/\w.cell? ⟨g,k*4+3,none⟩=some (.int .i64 (l[k]).2)/\g < w.heap.size:=by
  intro k hk;obtain⟨g,c',h1,h2⟩:=qg3 hS hk;rw[qbd] at h1;cases h1;exact⟨g,rfl,h2⟩
 subst qbd;have HC:Hid _:=Ql;clear Ql hS;go_enter Tryz.func143,Tryz.ntmps143;go_wp2
 go_loopw [8] (λi wr=>∃k q:Nat,k<=l.length/\i=.int .i64 k/\Hid (∀j,(hj:j < l.length)->j < k->qvs x l[j]=false)/\wr=(w.alloc (.cells #[.string x.1.rel,.string x.1.x,.string x.1.y,.int .i64 x.2] 161)).drewN q) (λi _=>l.length - (intOf i).toNat)
 case atStart=>exact⟨0,0,Nat.zero_le _,rfl,λj _ hj=>by omega,rfl⟩
 case round=>
  obtain⟨k,q,hk,rfl,hno,rfl⟩:=hrel;by_cases hlt:k < l.length
  ·obtain⟨g,rfl,q0,q1,q2,q3,hg⟩:=HC.out k hlt;have hne:g≠w.heap.size:=by omega
   have he:=λW=>q55 x.1.rel x.1.x x.1.y (l[k]).1.rel (l[k]).1.x (l[k]).1.y x.2 (l[k]).2 W;have i1:(k:Int) < (l.length:Int):=by omega
   have i2:(0:Int)<=(k:Int):=by omega
   have qj7:Hid (qvs x l[k]=(((x.1.rel.toList == (l[k]).1.rel.toList) && ((x.1.x.toList == (l[k]).1.x.toList) && (x.1.y.toList == (l[k]).1.y.toList))) && (x.2 == (l[k]).2))):=rfl;generalize htk:l[k]=tk at *;have HTK:Hid (l[k]=tk):=htk;clear htk;generalize hb:(((x.1.rel.toList == tk.1.rel.toList) && ((x.1.x.toList == tk.1.x.toList) && (x.1.y.toList == tk.1.y.toList))) && (x.2 == tk.2))=bb at *;have HBB:Hid ((((x.1.rel.toList == tk.1.rel.toList) && ((x.1.x.toList == tk.1.x.toList) && (x.1.y.toList == tk.1.y.toList))) && (x.2 == tk.2))=bb):=hb;clear hb
   cases bb with
   | true=>
    go_wp2;go_quiet (fail);go_wp2;go_ret;refine⟨k,rfl,?_,?_⟩
    ·have h1:qmn l x=true:=by
      unfold qmn;rw[List.any_eq_true];exact⟨l[k],List.getElem_mem hlt,by rw[HTK.out,qj7.out]⟩
     rw[h1];simp
    ·exact⟨rfl,rfl,rfl,by show _<=(w.alloc _).heap.size;simp,λj hj=>Below.heap_alloc _ _ j hj⟩
   | false=>
    go_wp2;go_quiet (fail);go_wp2
    go_roundw
    case rel=>
     refine⟨k+1,q+nq,by omega,by go_num,?_,rfl⟩;intro j hj hjk;by_cases e:j=k
     ·subst e;rw[HTK.out];exact qj7.out
     ·exact hno.out j hj (by omega)
    case measure=>simp[intOf];omega
  ·go_wp2;go_ret;refine⟨-1,rfl,?_,?_⟩
   ·unfold qmn;rw[qg0 _ _ (λj hj=>hno.out j hj (by omega))];rfl
   ·exact⟨rfl,rfl,rfl,by show _<=(w.alloc _).heap.size;simp,λj hj=>Below.heap_alloc _ _ j hj⟩
theorem qqo(v:Vq)(l:List (Gd×Int))(b:Nat)(x:Gd×Int)(w:Wq)(hS:w.ownsRow b 161 4 v l.length (l.flatMap qo))(hl:l.length<=1000) :
  Calls Tryz.prog 82 #[v,.agg #[.string x.1.rel,.string x.1.x,.string x.1.y,.int .i64 x.2]] w λe w'=>e=.returned (.bool (qmn l x))/\Below w.heap.size w w':=by
 have hb0:∀O,Below w.heap.size w (w.alloc O):=λO=>(Below.refl _ w).alloc zl _;have hI:Hid (∀W,Below w.heap.size w W->Calls Tryz.prog 143 #[v,.agg #[.string x.1.rel,.string x.1.x,.string x.1.y,.int .i64 x.2]] W λe w'=>∃i:Int,e=.returned (.int .i64 i)/\decide (0<=i)=qmn l x/\Below W.heap.size W w'):=λW hb=>qxn v l b x W (qk hS hb) hl;obtain⟨xa,xc,rfl⟩:=qn hS;clear hS;go_enter Tryz.func82,Tryz.ntmps82;go_wp2_with fail;refine (hI.out _ (by first | exact hb0 _ | exact Below.refl _ _)).mono ?_;rintro e w1 ⟨i,rfl,hr,hb1⟩;have HR:Hid _:=hr;clear hr;go_wp2;go_ret;exact⟨qak (by rw[<- HR.out]),by first | exact hb1 | exact (hb0 _).trans (hb1.mono (by simp))⟩
end Go.Proofs.YtjajnhemgphefaaGreatDoor
namespace Go.Proofs.YtjajnhemgphefaaGreatDoor
open Go renaming World->Wq,Value->Vq
open Go.RowKit Go.Shelf Go.Maps
theorem qe6(n l m:Int)(w:Wq):Calls Tryz.prog 43 #[.int .i64 n,.int .i64 l,.int .i64 m] w λe w'=>e=.returned (.bool (decide (l<=n) && decide (n<=m)))/\w'=w:=by
 by_cases h1:l<=n
 ·go_enter Tryz.func43,Tryz.ntmps43;go_wp2;go_ret;exact⟨qak (by simp[h1]),rfl⟩
 ·go_enter Tryz.func43,Tryz.ntmps43;go_wp2;go_ret;exact⟨qak (by simp;intro h;omega),rfl⟩
theorem qh0(x:Int)(h0 : -4611686018427387904<=x)(h1:x<=4611686018427387904):IntKind.i64.wrap x=x:=by
 simp[IntKind.wrap,IntKind.bits,IntKind.signed];omega
theorem qud(be:Nat)(t win:Int)(w:Wq)(hc:w.cell? ⟨be,1,none⟩=some (.int .i64 win))(h0:0<=t/\t<=1000000)(h1:0<=win/\win<=1000) :
  Calls Tryz.prog 87 #[.pointer (some ⟨be,0,none⟩),.int .i64 t] w λe w'=>e=.returned (.int .i64 (t+win))/\w'=w:=by
 have hw:IntKind.i64.wrap (t+win)=t+win:=qh0 _ (by omega) (by omega);go_enter Tryz.func87,Tryz.ntmps87;go_wp2;go_ret;exact⟨rfl,rfl⟩
def qay(win mark:Int)(t:Int):Bool:=decide (t+win<=mark)
theorem qpc(be:Nat)(t win mark:Int)(w:Wq)(hc:w.cell? ⟨be,1,none⟩=some (.int .i64 win))(hm:w.cell? ⟨be,4,none⟩=some (.int .i64 mark))(h0:0<=t/\t<=1000000)(h1:0<=win/\win<=1000) :
  Calls Tryz.prog 81 #[.pointer (some ⟨be,0,none⟩),.int .i64 t] w λe w'=>e=.returned (.bool (qay win mark t))/\w'=w.drew:=by
 have HE:Hid (Calls Tryz.prog 87 #[.pointer (some ⟨be,0,none⟩),.int .i64 t] w.drew λe w'=>e=.returned (.int .i64 (t+win))/\w'=w.drew):=qud be t win w.drew hc h0 h1;have hm':w.drew.cell? ⟨be,4,none⟩=some (.int .i64 mark):=hm;go_enter Tryz.func81,Tryz.ntmps81;go_wp2_with fail;refine wp_mono (Q:=λe a' w'=>match e with | Exit.normal=>a'={tmps:=#[.pointer (some ⟨be,0,none⟩),.int .i64 t,undef,undef,.bool (decide (t+win<=mark)),.pointer (some ⟨be,0,none⟩),.int .i64 t,.int .i64 (t+win),.pointer (some ⟨be,0,none⟩),.pointer (some ⟨be,0,none⟩),.pointer (some ⟨be,4,none⟩),.int .i64 mark,.bool (decide (t+win<=mark))],defers:=[]}/\w'=w.drew | _=>False) ?reg ?rest
 case reg=>
  first | (go_region_with (go_at_call 87;refine Calls.mono HE.out ?_;rintro e w' ⟨rfl,hw'⟩;obtain rfl:w.drew=w':=hw'.symm)) | fail
  all_goals exact⟨rfl,rfl⟩
 case rest=>
  rintro (_ | _ | _ | _ | _ | _) a' w' hq
  all_goals first | exact hq.elim | skip
  obtain⟨rfl,rfl⟩:=hq;go_wp2;go_ret;exact⟨rfl,rfl⟩
theorem q0p(be Bx:Nat)(d:Gd×Int)(win mark:Int)(w:Wq)(hx:w.cell? ⟨Bx,0,none⟩=some (.pointer (some ⟨be,0,none⟩)))(hxl:Bx < w.heap.size)(hbl:be < w.heap.size)(hc:w.cell? ⟨be,1,none⟩=some (.int .i64 win))(hm:w.cell? ⟨be,4,none⟩=some (.int .i64 mark))(h0:0<=d.2/\d.2<=1000000)(h1:0<=win/\win<=1000) :
  Calls Tryz.prog 86 #[.agg #[.string d.1.rel,.string d.1.x,.string d.1.y,.int .i64 d.2],.pointer (some ⟨Bx,0,none⟩)] w λe w'=>e=.returned (.bool (qay win mark d.2))/\Below w.heap.size w w':=by
 have he:∀O,Calls Tryz.prog 81 #[.pointer (some ⟨be,0,none⟩),.int .i64 d.2] (w.alloc O) λe w'=>e=.returned (.bool (qay win mark d.2))/\w'=(w.alloc O).drew:=λO=>qpc be d.2 win mark _ ((Below.cell ((Below.refl _ w).alloc zl O) (p:=⟨be,1,none⟩) hbl).trans hc) ((Below.cell ((Below.refl _ w).alloc zl O) (p:=⟨be,4,none⟩) hbl).trans hm) h0 h1;have HE:Hid _:=he;have hne:Bx≠w.heap.size:=by omega
 clear he;go_enter Tryz.func86,Tryz.ntmps86
 go_wp2_with (go_at_call 81;refine (HE.out _).mono ?_;rintro e w' ⟨rfl,rfl⟩)
 go_ret;exact⟨rfl,((Below.refl _ w).alloc zl _).drew⟩
