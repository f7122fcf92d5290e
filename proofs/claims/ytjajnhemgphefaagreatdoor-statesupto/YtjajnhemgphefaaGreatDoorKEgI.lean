/- A part -/
import Derived.Test.YtjajnhemgphefaaGreatDoorKTxt2
import Derived.Lib.SliceRun
import Derived.Test.YtjajnhemgphefaaGreatDoorKEgG
import Derived.ChangeKeysEq
set_option linter.all false
set_option maxRecDepth 100000
set_option maxHeartbeats 2000000
namespace Go.Proofs.YtjajnhemgphefaaGreatDoor
open Go renaming World->Wq,Value->Vq
open Go.RowKit Go.Shelf
variable {W:Wq} {size b e:Nat} {xs:List Vq}
theorem qnr(z:Array Vq)(n:Nat):(Builtin.zeroCells z n).size=n*z.size:=by
 unfold Builtin.zeroCells
 induction n with
 | zero=>simp
 | succ n ih=>simp[Array.replicate_succ,Nat.succ_mul]
structure Sl where
 v:Vq
 n:Nat
 xs:List Vq
def qb8(l:List Sl):Nat:=(l.map (·.n)).sum
theorem qqt{l:List Sl}{k:Nat}(h:k < l.length):qb8 (l.take (k+1))=qb8 (l.take k)+(l[k]).n:=by
 unfold qb8;rw[List.take_succ_eq_append_getElem h,List.map_append,List.sum_append];rfl
theorem qwj(l:List Sl)(k:Nat):qb8 (l.take k)<=qb8 l:=by
 unfold qb8
 conv=>rhs;rw[<- List.take_append_drop k l]
 rw[List.map_append,List.sum_append];omega
def qkg(W:Wq)(size:Nat)(s:Sl):Prop:=
 (s.v=.slice none 0 0/\s.n=0/\s.xs=[])\/
 ∃a c,s.v=.slice (some a) s.n c/\s.xs.length=s.n*size/\(∀j u,s.xs[j]?=some u->W.cell? (a.add j)=some u)/\(s.n≠0->a.block < W.heap.size)/\∀u∈s.xs,u.oneCell'=true
theorem qkg.form{s:Sl}(h:qkg W size s):∃a c,s.v=.slice a s.n c:=by
 rcases h with⟨h1,h2,_⟩ | ⟨a,c,h1,_⟩
 .exact⟨none,0,by rw[h1,h2]⟩
 .exact⟨some a,c,h1⟩
theorem qkg.later{W':Wq}{s:Sl}(h:qkg W size s)(hb:Below W.heap.size W W'):qkg W' size s:=by
 rcases h with h | ⟨a,c,h1,h2,h3,h4,h5⟩
 .exact .inl h
 .refine .inr ⟨a,c,h1,h2,λj u hj=>cell_later hb (h3 j u hj),λhn=>?_,h5⟩;have:=h4 hn;have:=hb.size;omega
theorem qet{b' n:Nat}{v:Vq}(h:W.ownsRow b e size v n xs)(hb:b'<=b):W.ownsRow b' e size v n xs:=by
 obtain⟨h0,h1 | ⟨g,cap,ac,hv,hg,h2⟩⟩:=h
 .exact⟨h0,.inl h1⟩
 .exact⟨h0,.inr ⟨g,cap,ac,hv,Nat.le_trans hb hg,h2⟩⟩
theorem Qb4{n:Nat}{v:Vq}(h:W.ownsRow b e size v n xs){g:Nat}(hg:v.ownBlock=some g):b<=g:=by
 obtain⟨h0,⟨h1,_⟩ | ⟨g',cap,ac,hv,hb,h2⟩⟩:=h
 .rw[h1] at hg;cases hg
 .rw[hv] at hg;cases hg;exact hb
theorem qxq(W:Wq)(r:Option Nat):W.grownBy W r:=⟨rfl,rfl,rfl,Nat.le_refl _,λ_ _ _=>rfl⟩
theorem qlg{P:Program}(w:Wq){az:Array Oper}{rest:List Oper}{o:Oper}{a:Act}{Q:Exit->Act->Wq->Prop}(bq:o.guard=none)(s x:Operand)(t:TypeId)(ho:o.op=.call {callee:=.builtin .append,args:=#[s,x],argTypes:=#[t,t]})(ah:Nat)(e:TypeId)(i:TypeInfo)(size:Nat)(ht:P.underlying t=some (.slice e))(hi:P.info? e=some i)(v:Vq)(n:Nat)(xs:List Vq)(hs:a.eval s=v)(qq:w.ownsRow ah e size v n xs)(hx:a.eval x=.slice none 0 0)(h:wpList P az Q rest (a.put o.dst v) w):wpList P az Q (o::rest) a w:=by
 refine wpList_plain bq λK hK=>?_;have hr:=run_append_owned_none (P:=P) w ah t o.type e i size ht hi v n xs qq;unfold Oper.wp execOp;simp only[ho,resolve,invoke,builtin,Sem.run_bind,Sem.run_pure,Result.andThen_ok,List.map_toArray,List.map_cons,List.map_nil,hs,hx,hr];exact hK _ _ h
theorem q05(n:Nat)(hn:n<=1000)(w:Wq) :
  Cs 259 #[.slice none 0 0,Ii n] w λe w'=>∃v,e=.returned v/\w'.ownsRow w.heap.size 92 2 v 0 []/\Below w.heap.size w w':=by
 by_cases h0:n=0
 .subst h0;refine (Any8.slices_Grow_room Tryz.growAtom none 0 0 0 w zl (by decide) (by decide) zl).mono ?_;rintro e w' ⟨rfl,rfl⟩;exact⟨_,rfl,zo,zr⟩
 .obtain⟨i0,hi,au,ak,an⟩:=info_parts Tryz.info45;refine (Any8.slices_Grow_grow Tryz.growAtom i0 _ hi au (by rw[ak];decide) none 0 0 n [] w zl (by omega) (by rw[an];omega) (by omega) (by simp) (λ_=>rfl) (λa h=>by cases h)).mono ?_;rintro e w' ⟨rfl,rfl⟩;have hg:=grownCap_ge w (0+n) 0 92;have hm:=grownCap_le_maxLen w (0+n) 0 92 (by unfold maxLen;omega);refine⟨_,rfl,⟨rfl,.inr ⟨w.heap.size,_,_,rfl,Nat.le_refl _,zn w.drew _,zz,hm,?_,by simp⟩⟩,(Below.refl w.heap.size w).drew.alloc zl _⟩;rw[Array.size_append,Array.size_append,qnr,qnr];show 0+_*2+_*2=_*2;have:∀g:Nat,0+n<=g->0+(0+n - 0)*2+(g - (0+n))*2=g*2:=λg h=>by omega
  exact this _ hg
theorem qut(B:Nat)(ss:List Sl)(w:Wq)(hB:w.heap[B]?=some (Obj.cells (ss.map (·.v)).toArray 134))(bc:∀s∈ss,qkg w 2 s)(hn:qb8 ss<=500)(hl:ss.length<=10) :
  Cs 230 #[Sc B ss.length ss.length] w λe w'=>∃v,e=.returned v/\w'.ownsRow w.heap.size 92 2 v (qb8 ss) (ss.flatMap (·.xs))/\Below w.heap.size w w':=by
 have b5:B < w.heap.size:=(zg hB).1;have bh:Hid (∀W,Cs 259 #[.slice none 0 0,Ii (qb8 ss)] W λe w'=>∃v,e=.returned v/\w'.ownsRow W.heap.size 92 2 v 0 []/\Below W.heap.size W w'):=λW=>q05 _ (by omega) W
 have Qj:Hid (∀W,Below w.heap.size w W->∀k (hk:k < ss.length),W.cell? (Ad B k)=some (ss[k]).v/\qkg W 2 ss[k]):=by
  intro W hb k hk;refine⟨cell_later hb ?_,(bc _ (zm hk)).later hb⟩;simp[World.cell?,hB,hk]
 clear bc hB;obtain⟨i0,hi,au,ak,an⟩:=info_parts Tryz.info45;go_enter Tryz.func230,Tryz.ntmps230;go_wp2
 go_loopw [3,11] (λx y wr=>∃k:Nat,k<=ss.length/\x=.int .i64 (qb8 (ss.take k))/\y=.int .i64 k/\Below w.heap.size w wr) (λx y _=>ss.length - (intOf y).toNat)
 case atStart=>exact⟨0,zz,rfl,rfl,zr⟩
 case round=>
  obtain⟨k,hk,rfl,rfl,hb⟩:=hrel;by_cases aa:k < ss.length
  .obtain⟨hc,hs⟩:=Qj.out wr hb k aa;obtain⟨a,c,hv⟩:=hs.form;have ag:qb8 (ss.take (k+1))=qb8 (ss.take k)+(ss[k]).n:=qqt aa;have ap:=qwj ss (k+1);rw[hv] at hc;have i1:(k:Int) < (ss.length:Int):=by omega
   generalize (ss[k]).n=m at *;generalize hq:qb8 (ss.take k)=q at *;have i2:¬((q:Int)+m < 0):=by omega
   clear hs hv hq;go_wp2
   go_roundw
   case rel=>exact⟨k+1,by omega,by rw[ag];go_num,by go_num,hb⟩
   case measure=>simp[intOf];omega
  .have aq:k=ss.length:=by omega
   subst aq;rw[List.take_length] at *;generalize hq:qb8 ss=q at *;have ao:Hid (qb8 ss=q):=hq;have b3:q<=500:=hn;clear hq
   go_wp2_with (go_at_call 259;refine (bh.out _).mono ?_;rintro e W1 ⟨v,rfl,qq,ae⟩;obtain⟨va,vc,bu⟩:=qd qq;subst bu)
   have a6:Below w.heap.size w W1:=hb.trans (ae.mono hb.size);have av:W1.ownsRow w.heap.size 92 2 (.slice va 0 vc) 0 []:=qet qq hb.size;clear qq bh ae hb
   go_loopw [6,27] (λx y wr=>∃k:Nat,k<=ss.length/\(∃vx,vx=x/\wr.ownsRow w.heap.size 92 2 vx (qb8 (ss.take k)) ((ss.take k).flatMap (·.xs)))/\y=.int .i64 k/\Below w.heap.size w wr) (λx y _=>ss.length - (intOf y).toNat)
   case atStart=>exact⟨0,zz,⟨_,rfl,av⟩,rfl,a6⟩
   case round=>
    clear av a6;obtain⟨k,hk,⟨vx,rfl,qq⟩,rfl,hb⟩:=hrel;by_cases aa:k < ss.length
    .obtain⟨hc,hs⟩:=Qj.out _ hb k aa;have ag:qb8 (ss.take (k+1))=qb8 (ss.take k)+(ss[k]).n:=qqt aa;have ap:=qwj ss (k+1);have am:(ss.take (k+1)).flatMap (·.xs)=(ss.take k).flatMap (·.xs)++(ss[k]).xs:=by rw[List.take_succ_eq_append_getElem aa,List.flatMap_append];simp
     have i1:(k:Int) < (ss.length:Int):=by omega
     have aw:=hb.size
     have al:Hid (∀v' w1,w1.ownsRow w.heap.size 92 2 v' (qb8 (ss.take k)+(ss[k]).n) ((ss.take k).flatMap (·.xs)++(ss[k]).xs)->wr.grownBy w1 vx.ownBlock->w1.ownsRow w.heap.size 92 2 v' (qb8 (ss.take (k+1))) ((ss.take (k+1)).flatMap (·.xs))/\Below w.heap.size w w1):=by
      intro v' w1 h1 h2;rw[ag,am];exact⟨h1,hb.grown h2 aw (λg hg=>Qb4 qq hg)⟩
     rw[ao.out] at ap;rcases hs with⟨s1,s2,s3⟩ | ⟨a,c,s1,s2,s3,s4,s5⟩
     .rw[s1] at hc;have hl:=al.out vx wr (by rw[s2,s3];simpa using qq) (qxq _ _);have HL:Hid _:=hl;have HO:Hid (wr.ownsRow w.heap.size 92 2 vx (qb8 (ss.take k)) ((ss.take k).flatMap (·.xs))):=qq;obtain⟨xa,xc,ai⟩:=qd qq;clear al am ag hl;subst ai
      go_wp2_with (at_builtin;refine qlg _ rfl (.tmp 31) (.tmp 32) 134 rfl w.heap.size 92 i0 2 Tryz.underlying134 hi _ _ _ rfl HO.out rfl ?_)
      go_roundw
      case rel=>exact⟨k+1,by omega,⟨_,rfl,HL.out.1⟩,by go_num,HL.out.2⟩
      case measure=>simp[intOf];omega
     .rw[s1] at hc;have ae:qb8 (ss.take k)+(ss[k]).n<=maxLen:=by unfold maxLen;omega
      have bk:(qb8 (ss.take k)+(ss[k]).n)*40<=140737488355328:=by omega
      have HO:Hid (wr.ownsRow w.heap.size 92 2 vx (qb8 (ss.take k)) ((ss.take k).flatMap (·.xs))):=qq;obtain⟨xa,xc,ai⟩:=qd qq;have S3:Hid _:=s3;generalize (ss[k]).n=m at *;generalize (ss[k]).xs=news at *;clear am ag ap s3 qq;subst ai
      go_wp2_with (at_builtin;refine wpList_append_own _ rfl (.tmp 31) (.tmp 32) 134 rfl w.heap.size 92 i0 _ 2 40 Tryz.underlying134 hi au ak an rfl (by decide) _ _ _ rfl HO.out a m c news rfl s2 S3.out s5 ae bk aw ?_;intro v' w1 ad af _;obtain⟨b0,bv,Qhd⟩:=qd ad;subst Qhd)
      obtain⟨t1,t2⟩:=al.out _ w1 ad af
      go_roundw
      case rel=>exact⟨k+1,by omega,⟨_,rfl,t1⟩,by go_num,t2⟩
      case measure=>simp[intOf];omega
    .have aq:k=ss.length:=by omega
     subst aq;rw[List.take_length] at qq;rw[ao.out] at qq;obtain⟨xa,xc,ai⟩:=qd qq;subst ai;go_wp2;go_ret;refine⟨_,rfl,?_,hb⟩;rw[ao.out];exact qq
end Go.Proofs.YtjajnhemgphefaaGreatDoor
namespace Go.Proofs.YtjajnhemgphefaaGreatDoor
open Go renaming World->Wq,Value->Vq
open Go.RowKit Go.Shelf Go.Maps
attribute [local go_sem] Oper.semAt_some
structure Rc where
 kind:Int
 seq:Int
 text:By
 time:Int
def Rc.c(r:Rc):List Vq:=[Ii r.kind,Ii r.seq,St r.text,Ii r.time]
def Qe3(kind:Int)(l:List (List UInt8)):List Rc:=l.map (λt=>⟨kind,0,⟨t.toArray⟩,0⟩)
theorem qgy{b:Nat}{t:TypeId}{fz:Nat×Nat}:∀(vs:List Vq) (o:Nat) (w:Wq) (ac:Array Vq),w.heap[b]?=some (Obj.cells ac t fz)->o+vs.length<=ac.size->
  ∃ab:Array Vq,(w.setCells b o vs).heap[b]?=some (Obj.cells ab t fz)/\ab.size=ac.size/\(∀j,j < vs.length->ab[o+j]?=vs[j]?)/\∀j,(j < o\/o+vs.length<=j)->ab[j]?=ac[j]?
 | [],o,w,ac,h,_=>⟨ac,h,rfl,λj hj=>by simp at hj,λ_ _=>rfl⟩
 | v::vs,o,w,ac,h,hl=>by
  have h1:=Qd h o v;obtain⟨ab,k1,k2,k3,k4⟩:=qgy vs (o+1) (w.setCell (Ad b o) v) _ h1 (by simp at hl ⊢;omega);refine⟨ab,k1,by simpa using k2,λj hj=>?_,λj hj=>?_⟩
  .cases j with
   | zero=>
    rw[k4 (o+0) (.inl (by omega))];have ho:o < ac.size:=by simp at hl;omega
    simp[ho]
   | succ j=>
    have:=k3 j (by simpa using hj);rw[show o+(j+1)=o+1+j by omega,this];simp
  .simp only[List.length_cons] at hj;rw[k4 j (by omega)];have:o≠j:=by omega
   simp[Array.getElem?_setIfInBounds,this]
theorem qh6{w0:Wq}{b:Nat}:∀(vs:List Vq) (o:Nat) (w:Wq),Chg w0 w (λk=>k=b)->Chg w0 (w.setCells b o vs) (λk=>k=b)
 | [],_,_,h=>h
 | v::vs,o,w,h=>qh6 vs (o+1) _ (h.setCell (Ad b o) v (λ_=>rfl))
structure Fs where
 form:Am
 behind:Bool
 snap:List Rc
 que:List Rc
 told:Nat
def q6z(W:Wq)(S:Nat->Prop)(bf aj:Nat)(f:Fs):Prop:=
 ∃va vs vq,W.heap[bf]?=cC #[St f.form.rel,va,.bool f.behind,vs,vq,Ii f.told] 198/\Qi W aj va f.form.args/\
  W.ownsRow 0 71 4 vs f.snap.length (f.snap.flatMap Rc.c)/\W.ownsRow 0 71 4 vq f.que.length (f.que.flatMap Rc.c)/\
  (∀g,vs.ownBlock=some g->S g/\vq.ownBlock≠some g)/\(∀g,vq.ownBlock=some g->S g)/\S bf
structure q2u(a:Am):Prop where
 args:a.args.length<=2
 nums:∀t∈a.args,t.num < 6
 rel:a.rel.size<=2000
 names:∀t∈a.args,t.name.size<=2000
theorem q6z.keep{W W':Wq}{S:Nat->Prop}{bf aj:Nat}{f:Fs}(h:q6z W S bf aj f){ex:Nat->Prop}(hk:∀k,k < W.heap.size->¬ex k->W'.heap[k]?=W.heap[k]?)(hS:∀k,S k->¬ex k)(hT:∀k c,W.heap[k]?=cC c 166->¬ex k):q6z W' S bf aj f:=by
 obtain⟨va,vs,vq,h1,h2,h3,h4,h5,h6,h7⟩:=h;exact⟨va,vs,vq,(hk bf (zg h1).1 (hS bf h7)).trans h1,h2.kept (λk c _ hc=>(hk k (zg hc).1 (hT k c hc)).trans hc),qm h3 (λg hg aa=>hk g aa (hS g (h5 g hg).1)),qm h4 (λg hg aa=>hk g aa (hS g (h6 g hg))),h5,h6,h7⟩
def qxl(M:Gd->Option Int)(a:Am)(gs:List Gd):Prop:=∃ks:List (By×By),ks.Nodup/\(∀x y,(x,y)∈ks↔(x.size<=maxLen/\y.size<=maxLen/\(M ⟨a.rel,x,y⟩).isSome=true))/\gs=(ks.filterMap (λk=>Q3 Qm a k.1 k.2)).map (λp=>qb p a)
def Qcw(M M2:Gd->Option Int)(a:Am)(gs:List Gd):Prop:=∃g0,qxl M a g0/\gs=g0.filter (λg=>(M2 g).isNone)
def qno(kind:Int)(gs:List Gd):List Rc:=Qe3 kind (qdj (gs.map (λg=>(qcb g).data.toList)))
end Go.Proofs.YtjajnhemgphefaaGreatDoor
namespace Go.Proofs.YtjajnhemgphefaaGreatDoor
open Go renaming World->Wq,Value->Vq
open Go.RowKit Go.Shelf
theorem q7f(n:Nat)(b c e f:By)(w:Wq):(Op.equalIn (n+2) 109 (.agg #[St b,St c]) (.agg #[St e,St f])).run Tryz.prog w=.ok ((b.toList == e.toList) && (c.toList == f.toList)) w:=by
 have u3:=Tryz.underlying9;have a3:=Tryz.isAgg9;have z3:=Tryz.sizeOf9;have bj:Tryz.prog.underlying 109=some (.array 2 9):=by kernel_rfl
 obtain⟨i0,hi⟩:∃i0,Tryz.prog.info? 9=some i0:=by
  obtain⟨i0,hi,_⟩:=info_parts Tryz.info9;exact⟨i0,hi⟩
 have hc:Tryz.prog.cellsOf 9=1:=by kernel_rfl
 rw[run_equalIn_array w (n+1) _ _ bj hi,hc,show List.range 2=[0,1] from rfl];simp only[Op.eqItems]
 go_simp
 by_cases h1:b.toList=e.toList <;> by_cases h2:c.toList=f.toList <;> simp[h1,h2]
theorem q3o(n:Nat)(a b c d e f:By)(w:Wq):(Op.equalIn (n+3) 111 (.agg #[St a,St b,St c]) (.agg #[St d,St e,St f])).run Tryz.prog w=.ok ((a.toList == d.toList) && ((b.toList == e.toList) && (c.toList == f.toList))) w:=by
 have u3:=Tryz.underlying9;have a3:=Tryz.isAgg9;have z3:=Tryz.sizeOf9;have aT:=Tryz.isAgg109;have zT:=Tryz.sizeOf109;have bt:Tryz.prog.underlying 111=some (.struct (Tryz.prog.fieldsOf 111)):=by kernel_rfl
 have bn:Tryz.prog.stoodInHeld 111=false:=by kernel_rfl
 have ht:=q7f n b c e f;rw[run_equalIn_agg w (n+2) 111 _ _ bt bn];simp only[Program.fieldsOf,Tryz.underlying111]
 go_simp
 by_cases h1:a.toList=d.toList <;> by_cases h2:b.toList=e.toList <;> by_cases h3:c.toList=f.toList <;> simp[h1,h2,h3]
theorem q7e(a b c d e f:By)(s t:Int)(w:Wq):(binOp .eql 161 (.agg #[St a,St b,St c,Ii s]) (.agg #[St d,St e,St f,Ii t])).run Tryz.prog w=.ok (.bool (((a.toList == d.toList) && ((b.toList == e.toList) && (c.toList == f.toList))) && (s == t))) w:=by
 have u4:=Tryz.underlying3;have a4:=Tryz.isAgg3;have z4:=Tryz.sizeOf3;have hS:Tryz.prog.underlying 161=some (.struct (Tryz.prog.fieldsOf 161)):=by kernel_rfl
 have hp:Tryz.prog.stoodInHeld 161=false:=by kernel_rfl
 have aG:=Tryz.isAgg111;have zG:=Tryz.sizeOf111;obtain⟨n,hn⟩:∃n,10000=n+4:=⟨9996,rfl⟩;have hg:=q3o n a b c d e f;rw[run_eql_struct,hn,run_equalIn_agg w (n+3) 161 _ _ hS hp];simp only[Program.fieldsOf,Tryz.underlying161];clear hn
 go_simp
 by_cases h1:a.toList=d.toList <;> by_cases h2:b.toList=e.toList <;> by_cases h3:c.toList=f.toList <;> by_cases h4:s=t <;> simp[h1,h2,h3,h4]
def qwe(x y:Gd×Int):Bool:=((x.1.rel.toList == y.1.rel.toList) && ((x.1.x.toList == y.1.x.toList) && (x.1.y.toList == y.1.y.toList))) && (x.2 == y.2)
def qm4(l:List (Gd×Int))(x:Gd×Int):Bool:=l.any (qwe x)
theorem qg9{W:Wq}{b:Nat}{v:Vq}{l:List (Gd×Int)}(h:W.ownsRow b 161 4 v l.length (l.flatMap qr)){k:Nat}(hk:k < l.length) :
  ∃(g c:Nat),v=Sc g l.length c/\W.cell? (Ad g (k*4))=some (St (l[k]).1.rel)/\W.cell? (Ad g (k*4+1))=some (St (l[k]).1.x)/\W.cell? (Ad g (k*4+2))=some (St (l[k]).1.y)/\W.cell? (Ad g (k*4+3))=some (Ii (l[k]).2)/\g < W.heap.size:=by
 obtain⟨g,cap,hv,h1,h2,h3,hc⟩:=qb0 h (λ_=>rfl) (by omega);exact⟨g,cap,hv,hc k 0 hk _ (by decide) rfl,hc k 1 hk _ (by decide) rfl,hc k 2 hk _ (by decide) rfl,hc k 3 hk _ (by decide) rfl,h2⟩
theorem qya(v:Vq)(l:List (Gd×Int))(b:Nat)(x:Gd×Int)(w:Wq)(hS:w.ownsRow b 161 4 v l.length (l.flatMap qr))(hl:l.length<=1000) :
  Cs 143 #[v,.agg #[St x.1.rel,St x.1.x,St x.1.y,Ii x.2]] w λe w'=>∃r:Int,e=.returned (Ii r)/\decide (0<=r)=qm4 l x/\Below w.heap.size w w':=by
 obtain⟨a,c,a9⟩:=qo hS
 have Qj:∀k (hk:k < l.length),∃g,a=some ⟨g,0,none⟩/\w.cell? (Ad g (k*4))=some (St (l[k]).1.rel)/\w.cell? (Ad g (k*4+1))=some (St (l[k]).1.x)/\w.cell? (Ad g (k*4+2))=some (St (l[k]).1.y)/\w.cell? (Ad g (k*4+3))=some (Ii (l[k]).2)/\g < w.heap.size:=by
  intro k hk;obtain⟨g,c',h1,h2⟩:=qg9 hS hk;rw[a9] at h1;cases h1;exact⟨g,rfl,h2⟩
 subst a9;have HC:Hid _:=Qj;clear Qj hS;go_enter Tryz.func143,Tryz.ntmps143;go_wp2
 go_loopw [8] (λi wr=>∃k q:Nat,k<=l.length/\i=.int .i64 k/\Hid (∀j,(hj:j < l.length)->j < k->qwe x l[j]=false)/\wr=(w.alloc (.cells #[.string x.1.rel,.string x.1.x,.string x.1.y,.int .i64 x.2] 161)).drewN q) (λi _=>l.length - (intOf i).toNat)
 case atStart=>exact⟨0,0,zz,rfl,λj _ hj=>by omega,rfl⟩
 case round=>
  obtain⟨k,q,hk,rfl,a7,rfl⟩:=hrel;by_cases aa:k < l.length
  .obtain⟨g,rfl,q0,q1,q2,q3,hg⟩:=HC.out k aa;have bo:g≠w.heap.size:=by omega
   have he:=λW=>q7e x.1.rel x.1.x x.1.y (l[k]).1.rel (l[k]).1.x (l[k]).1.y x.2 (l[k]).2 W;have i1:(k:Int) < (l.length:Int):=by omega
   have i2:(0:Int)<=(k:Int):=by omega
   have ay:Hid (qwe x l[k]=(((x.1.rel.toList == (l[k]).1.rel.toList) && ((x.1.x.toList == (l[k]).1.x.toList) && (x.1.y.toList == (l[k]).1.y.toList))) && (x.2 == (l[k]).2))):=rfl;generalize htk:l[k]=tk at *;have a8:Hid (l[k]=tk):=htk;clear htk;generalize hb:(((x.1.rel.toList == tk.1.rel.toList) && ((x.1.x.toList == tk.1.x.toList) && (x.1.y.toList == tk.1.y.toList))) && (x.2 == tk.2))=bb at *;have b7:Hid ((((x.1.rel.toList == tk.1.rel.toList) && ((x.1.x.toList == tk.1.x.toList) && (x.1.y.toList == tk.1.y.toList))) && (x.2 == tk.2))=bb):=hb;clear hb
   cases bb with
   | true=>
    go_wp2;go_quiet (fail);go_wp2;go_ret;refine⟨k,rfl,?_,?_⟩
    .have h1:qm4 l x=true:=by
      unfold qm4;rw[List.any_eq_true];exact⟨l[k],List.getElem_mem aa,by rw[a8.out,ay.out]⟩
     rw[h1];simp
    .exact⟨rfl,rfl,rfl,by show _<=(w.alloc _).heap.size;simp,λj hj=>Below.heap_alloc _ _ j hj⟩
   | false=>
    go_wp2;go_quiet (fail);go_wp2
    go_roundw
    case rel=>
     refine⟨k+1,q+nq,by omega,by go_num,?_,rfl⟩;intro j hj b8;by_cases e:j=k
     .subst e;rw[a8.out];exact ay.out
     .exact a7.out j hj (by omega)
    case measure=>simp[intOf];omega
  .go_wp2;go_ret;refine⟨-1,rfl,?_,?_⟩
   .unfold qm4;rw[qg5 _ _ (λj hj=>a7.out j hj (by omega))];rfl
   .exact⟨rfl,rfl,rfl,by show _<=(w.alloc _).heap.size;simp,λj hj=>Below.heap_alloc _ _ j hj⟩
theorem qrc(v:Vq)(l:List (Gd×Int))(b:Nat)(x:Gd×Int)(w:Wq)(hS:w.ownsRow b 161 4 v l.length (l.flatMap qr))(hl:l.length<=1000) :
  Cs 82 #[v,.agg #[St x.1.rel,St x.1.x,St x.1.y,Ii x.2]] w λe w'=>e=.returned (.bool (qm4 l x))/\Below w.heap.size w w':=by
 have ax:∀O,Below w.heap.size w (w.alloc O):=λO=>(Below.refl _ w).alloc zl _;have hI:Hid (∀W,Below w.heap.size w W->Cs 143 #[v,.agg #[St x.1.rel,St x.1.x,St x.1.y,Ii x.2]] W λe w'=>∃i:Int,e=.returned (Ii i)/\decide (0<=i)=qm4 l x/\Below W.heap.size W w'):=λW hb=>qya v l b x W (qk hS hb) hl;obtain⟨xa,xc,rfl⟩:=qo hS;clear hS;go_enter Tryz.func82,Tryz.ntmps82;go_wp2_with fail;refine (hI.out _ (by first | exact ax _ | exact zr)).mono ?_;rintro e w1 ⟨i,rfl,hr,ae⟩;have HR:Hid _:=hr;clear hr;go_wp2;go_ret;exact⟨qaj (by rw[<- HR.out]),by first | exact ae | exact (ax _).trans (ae.mono (by simp))⟩
end Go.Proofs.YtjajnhemgphefaaGreatDoor
namespace Go.Proofs.YtjajnhemgphefaaGreatDoor
open Go renaming World->Wq,Value->Vq
open Go.RowKit Go.Shelf Go.Maps
theorem qfi(n l m:Int)(w:Wq):Cs 43 #[Ii n,Ii l,Ii m] w λe w'=>e=.returned (.bool (decide (l<=n) && decide (n<=m)))/\w'=w:=by
 by_cases h1:l<=n
 .go_enter Tryz.func43,Tryz.ntmps43;go_wp2;go_ret;exact⟨qaj (by simp[h1]),rfl⟩
 .go_enter Tryz.func43,Tryz.ntmps43;go_wp2;go_ret;exact⟨qaj (by simp;intro h;omega),rfl⟩
theorem qh8(x:Int)(h0 : -4611686018427387904<=x)(h1:x<=4611686018427387904):IntKind.i64.wrap x=x:=by
 simp[IntKind.wrap,IntKind.bits,IntKind.signed];omega
theorem qu0(be:Nat)(t win:Int)(w:Wq)(hc:w.cell? (Ad be 1)=some (Ii win))(h0:0<=t/\t<=1000000)(h1:0<=win/\win<=1000) :
  Cs 87 #[Pt be,Ii t] w λe w'=>e=.returned (Ii (t+win))/\w'=w:=by
 have hw:IntKind.i64.wrap (t+win)=t+win:=qh8 _ (by omega) (by omega);go_enter Tryz.func87,Tryz.ntmps87;go_wp2;go_ret;exact⟨rfl,rfl⟩
def qax(win mark:Int)(t:Int):Bool:=decide (t+win<=mark)
theorem qpx(be:Nat)(t win mark:Int)(w:Wq)(hc:w.cell? (Ad be 1)=some (Ii win))(hm:w.cell? (Ad be 4)=some (Ii mark))(h0:0<=t/\t<=1000000)(h1:0<=win/\win<=1000) :
  Cs 81 #[Pt be,Ii t] w λe w'=>e=.returned (.bool (qax win mark t))/\w'=w.drew:=by
 have HE:Hid (Cs 87 #[Pt be,Ii t] w.drew λe w'=>e=.returned (Ii (t+win))/\w'=w.drew):=qu0 be t win w.drew hc h0 h1;have b4:w.drew.cell? (Ad be 4)=some (Ii mark):=hm;go_enter Tryz.func81,Tryz.ntmps81;go_wp2_with fail;refine wp_mono (Q:=λe a' w'=>match e with | Exit.normal=>a'={tmps:=#[Pt be,Ii t,undef,undef,.bool (decide (t+win<=mark)),Pt be,Ii t,Ii (t+win),Pt be,Pt be,.pointer (some ⟨be,4,none⟩),Ii mark,.bool (decide (t+win<=mark))],defers:=[]}/\w'=w.drew | _=>False) ?reg ?rest
 case reg=>
  first | (go_region_with (go_at_call 87;refine Calls.mono HE.out ?_;rintro e w' ⟨rfl,bi⟩;obtain rfl:w.drew=w':=bi.symm)) | fail
  all_goals exact⟨rfl,rfl⟩
 case rest=>
  rintro (_ | _ | _ | _ | _ | _) a' w' hq
  all_goals first | exact hq.elim | skip
  obtain⟨rfl,rfl⟩:=hq;go_wp2;go_ret;exact⟨rfl,rfl⟩
theorem q1k(be Bx:Nat)(d:Gd×Int)(win mark:Int)(w:Wq)(hx:w.cell? (Ad Bx 0)=some (Pt be))(b6:Bx < w.heap.size)(bd:be < w.heap.size)(hc:w.cell? (Ad be 1)=some (Ii win))(hm:w.cell? (Ad be 4)=some (Ii mark))(h0:0<=d.2/\d.2<=1000000)(h1:0<=win/\win<=1000) :
  Cs 86 #[.agg #[St d.1.rel,St d.1.x,St d.1.y,Ii d.2],Pt Bx] w λe w'=>e=.returned (.bool (qax win mark d.2))/\Below w.heap.size w w':=by
 have he:∀O,Cs 81 #[Pt be,Ii d.2] (w.alloc O) λe w'=>e=.returned (.bool (qax win mark d.2))/\w'=(w.alloc O).drew:=λO=>qpx be d.2 win mark _ ((Below.cell ((Below.refl _ w).alloc zl O) (p:=⟨be,1,none⟩) bd).trans hc) ((Below.cell ((Below.refl _ w).alloc zl O) (p:=⟨be,4,none⟩) bd).trans hm) h0 h1;have HE:Hid _:=he;have bo:Bx≠w.heap.size:=by omega
 clear he;go_enter Tryz.func86,Tryz.ntmps86
 go_wp2_with (go_at_call 81;refine (HE.out _).mono ?_;rintro e w' ⟨rfl,rfl⟩)
 go_ret;exact⟨rfl,((Below.refl _ w).alloc zl _).drew⟩
