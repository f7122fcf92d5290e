/- A part -/
import Derived.Test.YtjajnhemgphefaaGreatDoorKRefJ
import Derived.Deep.RegionLawGrows
import Derived.Maps.AppendAt
import Derived.BigQuiet
import Derived.BigRegion
set_option linter.all false
set_option maxRecDepth 100000
set_option maxHeartbeats 2000000
namespace Go.Proofs.YtjajnhemgphefaaGreatDoor
open Go renaming World->Wq,Value->Vq
open Go.RowKit Go.Shelf
variable {W W':Wq} {b ac ah:Nat} {l:List Tm}
def qqy(l:List Tm):List Vq:=l.flatMap tmC
def qbb(p:Am×Vq):List Vq:=[.string p.1.rel,p.2]
def qoe(q:Rl×Vq×Vq):List Vq:=[.string q.1.head.rel,q.2.1,q.2.2]
theorem qki(l:List (Am×Vq)):(l.flatMap qbb).length=l.length*2:=by
 induction l with
 | nil=>rfl
 | cons t l ih=>simp[qbb] at ih ⊢;omega
def Qi(W:Wq)(b:Nat)(v:Vq)(l:List Tm):Prop:=
 (l=[]/\v=.slice none 0 0)\/
 ∃(g cap:Nat) (ab:Array Vq),v=Sc g l.length cap/\g < b/\W.heap[g]?=cC ab 166/\ab.toList.take (l.length*2)=qqy l
def qar(W:Wq)(ac ah:Nat)(v:Vq)(l:List Am):Prop:=
 ∃(ps:List (Am×Vq)) (a:Option Addr) (cap:Nat),ps.map (·.1)=l/\v=.slice a l.length cap/\((∀p∈ps,Qi W ah p.2 p.1.args)/\l.length<=cap)/\
  (l≠[]->∃(g ao:Nat) (ab:Array Vq),a=some ⟨g,ao,none⟩/\g < ac/\W.heap[g]?=cC ab 92/\(ab.toList.drop ao).take (l.length*2)=ps.flatMap qbb)
def q95(W:Wq)(ac ah:Nat)(v:Vq)(l:List Am):Prop:=
 ∃ps:List (Am×Vq),ps.map (·.1)=l/\W.ownsRow ac 92 2 v ps.length (ps.flatMap qbb)/\(∀p∈ps.dropLast,Qi W ah p.2 p.1.args)/\
  (∀p,ps.getLast?=some p->W.ownsRow ah 166 2 p.2 p.1.args.length (qqy p.1.args))
def Qb(W:Wq)(ag ac ah:Nat)(v:Vq)(l:List Rl):Prop:=
 ∃qs:List (Rl×Vq×Vq),qs.map (·.1)=l/\W.ownsRow ag 136 3 v qs.length (qs.flatMap qoe)/\∀q∈qs,Qi W ah q.2.1 q.1.head.args/\qar W ac ah q.2.2 q.1.body
def qh9(t:TypeId)(b:Nat)(W W':Wq):Prop:=∀(k:Nat) (c:Array Vq),k < b->W.heap[k]?=cC c t->W'.heap[k]?=cC c t
theorem Qi.kept{v:Vq}(h:Qi W b v l)(hk:qh9 166 b W W'):Qi W' b v l:=by
 rcases h with h | ⟨g,cap,ab,h1,h2,h3,h4⟩
 .exact .inl h
 .exact .inr ⟨g,cap,ab,h1,h2,hk g ab h2 h3,h4⟩
theorem Qi.mono{b':Nat}{v:Vq}(h:Qi W b v l)(hb:b<=b'):Qi W b' v l:=by
 rcases h with h | ⟨g,cap,ab,h1,h2,h3,h4⟩
 .exact .inl h
 .exact .inr ⟨g,cap,ab,h1,by omega,h3,h4⟩
theorem qar.kept{v:Vq}{l:List Am}(h:qar W ac ah v l)(hk:qh9 92 ac W W')(cg:qh9 166 ah W W'):qar W' ac ah v l:=by
 obtain⟨ps,a,cap,h1,h2,h3,h4⟩:=h;refine⟨ps,a,cap,h1,h2,⟨λp hp=>(h3.1 p hp).kept cg,h3.2⟩,λaj=>?_⟩;obtain⟨g,ao,ab,e1,e2,e3,e4⟩:=h4 aj;exact⟨g,ao,ab,e1,e2,hk g ab e2 e3,e4⟩
theorem qar.mono{bk bn:Nat}{v:Vq}{l:List Am}(h:qar W ac ah v l)(cw:ac<=bk)(b4:ah<=bn):qar W bk bn v l:=by
 obtain⟨ps,a,cap,h1,h2,h3,h4⟩:=h;refine⟨ps,a,cap,h1,h2,⟨λp hp=>(h3.1 p hp).mono b4,h3.2⟩,λaj=>?_⟩;obtain⟨g,ao,ab,e1,e2,e3,e4⟩:=h4 aj;exact⟨g,ao,ab,e1,by omega,e3,e4⟩
theorem Qi.ofOwns{v:Vq}(h:W.ownsRow b 166 2 v l.length (qqy l)):Qi W W.heap.size v l:=by
 obtain⟨_,⟨hv,hn⟩ | ⟨g,cap,ab,hv,hb,hh,h1,h2,h3,h4⟩⟩:=h
 .exact .inl ⟨List.eq_nil_of_length_eq_zero hn,hv⟩
 .exact .inr ⟨g,cap,ab,hv,(zg hh).1,hh,h4⟩
theorem q8{e size n:Nat}{v:Vq}{xs:List Vq}(h:W.ownsRow b e size v n xs)(hk:∀g c,v.ownBlock=some g->W.heap[g]?=cC c e->W'.heap[g]?=cC c e):W'.ownsRow b e size v n xs:=by
 obtain⟨h0,⟨hv,hn⟩ | ⟨g,cap,ab,hv,hb,hh,h1,h2,h3,h4⟩⟩:=h
 .exact⟨h0,.inl ⟨hv,hn⟩⟩
 .exact⟨h0,.inr ⟨g,cap,ab,hv,hb,hk g ab (by rw[hv];rfl) hh,h1,h2,h3,h4⟩⟩
theorem qbv{P:Program}{be:Array Oper}{o:Oper}{a:Act}{w:Wq}{K:Act->Wq->Prop}{Q:Exit->Act->Wq->Prop}{E:Prop}(hg:o.guard=none)(s x:Operand)(t:TypeId)(b6:o.op=Op.call {callee:=Callee.builtin Builtin.append,args:=#[s,x],argTypes:=#[t,t]})(ag:Nat)(e:TypeId)(i:TypeInfo)(z:Vq)(size bytes:Nat)(h1:P.underlying t=some (.slice e))(h2:P.info? e=some i)(h3:i.zero=some z)(h4:i.size=size)(h5:i.bytes=bytes)(h6:z.cells.size=size)(h7:0 < size)(v:Vq)(n:Nat)(xs:List Vq)(hs:a.eval s=v)(qq:w.ownsRow ag e size v n xs)(ad:Addr)(m c:Nat)(ai:List Vq)(hx:a.eval x=.slice (some ad) m c)(hn:ai.length=m*size)(hc:∀j u,ai[j]?=some u->w.cell? (ad.add j)=some u)(a6:∀u∈ai,u.oneCell'=true)(b1:n+m<=maxLen)(b2:(n+m)*bytes<=140737488355328)(ch:ag<=w.heap.size)(hK:∀v' w',w'.ownsRow ag e size v' (n+m) (xs++ai)->w.grownBy w' v.ownBlock->K (a.put o.dst v') w') :
  if Region.wanted o (yielded be a.tmps)=true then Oper.wp P o a w K Q else E:=by
 have hw:Region.wanted o (yielded be a.tmps)=true:=by simp[Region.wanted,hg]
 rw[if_pos hw];obtain⟨v',w',bt,r1,r2,_⟩:=run_append_own (P:=P) w ag t o.type e i z size bytes h1 h2 h3 h4 h5 h6 h7 v n xs qq ad m c ai hn hc a6 b1 b2 ch;unfold Oper.wp;simp[execOp,b6,resolve,invoke,builtin,hs,hx,bt,Result.andThen];exact hK v' w' r1 r2
end Go.Proofs.YtjajnhemgphefaaGreatDoor
namespace Go.Proofs.YtjajnhemgphefaaGreatDoor
open Go renaming World->Wq,Value->Vq
theorem qcy(x:By):x.toList=x.data.toList:=by
 cases x with
 | mk d=>simp[ByteArray.toList_eq]
theorem qst(x y:By):Q5 x y=true↔x=y:=by
 unfold Q5;constructor
 .intro h;have h':y.toList=x.toList:=by simpa using h
  rw[qcy,qcy] at h';have h2:=Array.toList_inj.1 h'
  cases x;cases y;simp at h2;rw[h2]
 .rintro rfl;simp
theorem qlb(x y:By):Q5 x y=(y.data.toList == x.data.toList):=by unfold Q5;rw[qcy,qcy]
structure PSt where
 st:Int
 rules:List Rl
 atoms:List Am
 vars:List By
def Qk(st k:Int):Bool:=
 if st=0\/st=1 then k == 1 else if st=2 then k == 3 else if st=3 then (k == 1 || k == 2) else if st=4 then (k == 5 || k == 4)
 else if st=5 then (k == 7 || k == 6) else if st=6 then (k == 5 || k == 6) else false
def qv(st runes:Int)(nr na m:Nat):Bool:=
 if 8 < runes then true else if st=0 then nr == 8 else if st=1 then na == 4 else if st=3 then m == 2 else false
def qco(l:List Am)(x:Tm):List Am:=
 match l.getLast? with
 | some a=>l.dropLast++[{a with args:=a.args++[x]}]
 | none=>l
def Ql(l:List Am):Nat:=match l.getLast? with | some a=>a.args.length | none=>0
def qca(vs:List By)(k:Int)(t:By):Tm:=if k=1 then ⟨t,0⟩ else ⟨⟨#[]⟩,Qx vs t⟩
def qbh(vs:List By)(k:Int)(t:By):List By:=if k=1 then vs else Qh vs t
def qbx(s:PSt)(k:Int)(t:By):PSt:=
 if s.st=3 then {s with st:=4,atoms:=qco s.atoms (qca s.vars k t),vars:=qbh s.vars k t}
 else {s with st:=2,atoms:=s.atoms++[⟨t,[]⟩]}
def qau(s:PSt):PSt:=
 match s.atoms with
 | a::l=>{st:=0,rules:=s.rules++[⟨a,l⟩],atoms:=[],vars:=[]}
 | []=>s
def qdq(s:PSt):PSt:={s with st:=if s.atoms.length=1 then 5 else 6}
def qat(s:PSt)(k:Int)(t:By):PSt:=
 if k=1\/k=2 then qbx s k t
 else if k=3 then {s with st:=3}
 else if k=4 then qdq s
 else if k=5 then {s with st:=if s.st=4 then 3 else 1}
 else if k=7 then {s with st:=1}
 else if k=6 then qau s
 else s
def qae(s:PSt)(k:Int)(t:By)(r:Int):Int×PSt:=
 if Qk s.st k=false then (2,s)
 else if qv s.st r s.rules.length s.atoms.length (Ql s.atoms)=true then (3,s)
 else (0,qat s k t)
def Q2:PSt->List Tok->PSt×Option (Int×Nat)
 | s,[]=>(s,none)
 | s,x::l=>if (qae s x.kind x.text x.runes).1=0 then Q2 (qae s x.kind x.text x.runes).2 l else (s,some ((qae s x.kind x.text x.runes).1,x.place))
def qb2:PSt:=⟨0,[],[],[]⟩
def qd0(s:By):Except (Int×Nat) (List Rl):=
 match Q2 qb2 (qcr s.size s 0) with
 | (_,some ep)=>.error ep
 | (st,none)=>if st.st=0 then .ok st.rules else .error (2,Lib.runeCount s)
theorem qjs:∀(l:List Tok) (s s':PSt) (c:Int) (p:Nat),Q2 s l=(s',some (c,p))->c≠0
 | [],s,s',c,p,h=>by simp[Q2] at h
 | x::l,s,s',c,p,h=>by
  unfold Q2 at h;split at h
  .exact qjs l _ _ _ _ h
  .rename_i hn;simp at h;rw[<- h.2.1];exact hn
structure qw5(t:Tm):Prop where
 name:t.name.size<=1200
 num:t.num<=50
structure qkr(a:Am):Prop where
 rel:a.rel.size<=1200
 args:a.args.length<=2
 tms:∀t∈a.args,qw5 t
structure qch(r:Rl):Prop where
 head:qkr r.head
 body:r.body.length<=3
 ams:∀a∈r.body,qkr a
structure qmp(s:PSt):Prop where
 rules:s.rules.length<=8
 atoms:s.atoms.length<=4
 ams:∀a∈s.atoms,qkr a
 zero:s.st=0->s.atoms=[]
 some:s.st≠0->s.atoms≠[]
 room:s.st≠0->s.rules.length < 8
 good:∀r∈s.rules,qch r
 vars:s.vars.length<=(s.atoms.map (·.args.length)).sum
theorem q6e(l:List Am)(h:∀a∈l,a.args.length<=2):(l.map (·.args.length)).sum<=2*l.length:=by
 induction l with
 | nil=>simp
 | cons a l ih=>
  have h1:=h a zs;have h2:=ih (λb hb=>h b (zt hb));simp only[List.map_cons,List.sum_cons,List.length_cons];omega
theorem qmp.few{s:PSt}(h:qmp s):s.vars.length<=8:=by
 have h1:=q6e s.atoms (λa ha=>(h.ams a ha).args);have h2:=h.vars;have h3:=h.atoms;omega
theorem qfy(l:List Am)(a:Am)(x:Tm):qco (l++[a]) x=l++[{a with args:=a.args++[x]}]:=by
 unfold qco;simp
theorem qib(l:List Am)(x:Tm):(qco l x).length=l.length:=by
 unfold qco;split
 .rename_i a h;have:l≠[]:=by intro e;rw[e] at h;simp at h
  have:=List.length_pos_iff.2 this;simp;omega
 .rfl
theorem qqw(l:List Am)(h:l≠[]):∃p a,l=p++[a]:=⟨l.dropLast,l.getLast h,(List.dropLast_concat_getLast h).symm⟩
theorem q55(vs:List By)(x:By):Qx vs x<=vs.length:=List.findIdx_le_length
theorem qwh(vs:List By)(x:By):(Qh vs x).length<=vs.length+1:=by
 unfold Qh;split <;> simp
theorem qsy(s:PSt)(k:Int)(t:By)(r:Int)(ht:t.size<=1200)(h:qmp s)(h0:(qae s k t r).1=0):qmp (qae s k t r).2:=by
 have cy:=h.few;obtain⟨i1,i2,i3,i4,i5,i6,i7,i8⟩:=h;unfold qae at h0 ⊢;by_cases hf:Qk s.st k=false
 .rw[if_pos hf] at h0;simp at h0
 rw[if_neg hf] at h0 ⊢;by_cases he:qv s.st r s.rules.length s.atoms.length (Ql s.atoms)=true
 .rw[if_pos he] at h0;simp at h0
 rw[if_neg he];clear h0;have ae:Qk s.st k=true:=by simpa using hf
 have an:qv s.st r s.rules.length s.atoms.length (Ql s.atoms)=false:=by simpa using he
 clear hf he;unfold qv at an;split at an
 .cases an
 show qmp (qat s k t);unfold Qk at ae
 have bc:s.st≠0->qmp (qau s):=by
  intro h0;have aj:=i5 h0;have hr:=i6 h0;unfold qau;split
  .rename_i a0 al bu;rw[bu] at i2 i3;refine⟨by simp;omega,by simp,by simp,λ_=>rfl,λe=>absurd rfl e,λe=>absurd rfl e,λq hq=>?_,by simp⟩;simp at hq;rcases hq with hq | rfl
   .exact i7 q hq
   .exact⟨i3 _ (by simp),by simp at i2;exact i2,λb hb=>i3 b (by simp[hb])⟩
  .rename_i e;exact absurd e aj
 have ap:s.st≠0->∀x:Int,x≠0->qmp {s with st:=x}:=λh0 x hx=>⟨i1,i2,i3,λe=>absurd e hx,λ_=>i5 h0,λ_=>i6 h0,i7,i8⟩;split at ae
 .rename_i af;obtain rfl:k=1:=by simpa using ae
  have:qat s 1 t={s with st:=2,atoms:=s.atoms++[⟨t,[]⟩]}:=by
   unfold qat qbx;rw[if_pos (.inl rfl),if_neg (by omega)]
  rw[this];refine⟨i1,?_,?_,λe=>by simp at e,λ_=>by simp,λ_=>?_,i7,by simpa using i8⟩
  .simp;rcases af with e | e
   .rw[i4 e];simp
   .simp[e] at an;omega
  .intro a ha;simp at ha;rcases ha with ha | rfl
   .exact i3 a ha
   .exact⟨ht,by simp,by simp⟩
  .simp;rcases af with e | e
   .simp[e] at an;omega
   .exact i6 (by omega)
 split at ae
 .rename_i _ af;obtain rfl:k=3:=by simpa using ae
  have:qat s 3 t={s with st:=3}:=by unfold qat;simp
  rw[this];exact ap (by omega) 3 (by decide)
 split at ae
 .rename_i _ _ af;have hk:k=1\/k=2:=by simpa using ae
  have:qat s k t={s with st:=4,atoms:=qco s.atoms (qca s.vars k t),vars:=qbh s.vars k t}:=by
   unfold qat qbx;rw[if_pos hk,if_pos af]
  rw[this];simp[af] at an;obtain⟨p,a,av⟩:=qqw s.atoms (i5 (by omega));have cl:Ql s.atoms=a.args.length:=by unfold Ql;rw[av];simp
  have ha:=i3 a (by rw[av];simp);have cx:=ha.args
  have b3:qw5 (qca s.vars k t):=by
   unfold qca;split
   .exact⟨ht,by simp⟩
   .exact⟨by simp[ByteArray.size],by have:=q55 s.vars t;simp only;omega⟩
  have cn:(qbh s.vars k t).length<=s.vars.length+1:=by
   unfold qbh;split
   .omega
   .exact qwh _ _
  rw[av,qfy];rw[av] at i2 i8;have cu:s.vars.length<=(p.map (·.args.length)).sum+a.args.length:=by simpa using i8
  refine⟨i1,by simpa using i2,?_,λe=>by simp at e,λ_=>by simp,λ_=>i6 (by omega),i7,?_⟩
  .intro b hb;simp at hb;rcases hb with hb | rfl
   .exact i3 b (by rw[av];simp[hb])
   .refine⟨ha.rel,by simp;omega,λx hx=>?_⟩;simp at hx;rcases hx with hx | rfl
    .exact ha.tms x hx
    .exact b3
  .simp;omega
 split at ae
 .rename_i _ _ _ af;have hk:k=5\/k=4:=by simpa using ae
  rcases hk with rfl | rfl
  .have:qat s 5 t={s with st:=3}:=by unfold qat;simp[af]
   rw[this];exact ap (by omega) 3 (by decide)
  .have:qat s 4 t=qdq s:=by unfold qat;simp
   rw[this];exact ap (by omega) _ (by split <;> decide)
 split at ae
 .rename_i _ _ _ _ af;have hk:k=7\/k=6:=by simpa using ae
  rcases hk with rfl | rfl
  .have:qat s 7 t={s with st:=1}:=by unfold qat;simp
   rw[this];exact ap (by omega) 1 (by decide)
  .have:qat s 6 t=qau s:=by unfold qat;simp
   rw[this];exact bc (by omega)
 split at ae
 .rename_i _ _ _ _ _ af;have hk:k=5\/k=6:=by simpa using ae
  rcases hk with rfl | rfl
  .have:qat s 5 t={s with st:=1}:=by unfold qat;simp[af]
   rw[this];exact ap (by omega) 1 (by decide)
  .have:qat s 6 t=qau s:=by unfold qat;simp
   rw[this];exact bc (by omega)
 .cases ae
theorem qlv(s:PSt)(pre l:List Tok)(s':PSt)(h:Q2 s pre=(s',none)):Q2 s (pre++l)=Q2 s' l:=by
 induction pre generalizing s with
 | nil=>simp[Q2] at h;rw[h];rfl
 | cons x pre ih=>
  simp only[List.cons_append,Q2] at h ⊢;split at h
  .rename_i h0;rw[if_pos h0];exact ih _ h
  .simp at h
end Go.Proofs.YtjajnhemgphefaaGreatDoor
namespace Go.Proofs.YtjajnhemgphefaaGreatDoor
open Go renaming World->Wq,Value->Vq
open Go.RowKit Go.Shelf
variable {W a:Wq} {b e size:Nat} {vs:List By} {ex:Nat->Prop} {xs ys:List Vq} {x y:Vq}
theorem q3t(bp:Nat)(st k:Int)(w:Wq)(hc:w.cell? (Ad bp 0)=some (.int .i64 st)) :
  Cs 195 #[Pt bp,.int .i64 k] w λe w'=>e=.returned (.bool (Qk st k))/\w'=w:=by
 go_enter Tryz.func195,Tryz.ntmps195;go_wp2
 all_goals
  go_ret;exact⟨qaj (by simp_all [Qk]),rfl⟩
theorem qu1(bp:Nat)(st:Int)(vr vv:Vq)(a:Option Addr)(n c:Nat)(w:Wq)(hh:w.heap[bp]?=cC #[.int .i64 st,vr,.slice a n c,vv] 179) :
  Cs 234 #[Pt bp] w λe w'=>e=.returned (.tuple #[])/\w'=w.setCell (Ad bp 0) (.int .i64 (if n=1 then 5 else 6)):=by
 have h0:w.cell? (Ad bp 0)=some (.int .i64 st):=zc hh
 have h2:w.cell? (Ad bp 2)=some (.slice a n c):=zc hh
 have hf:w.frozen? (Ad bp 0)=false:=by simp[World.frozen?,hh]
 clear hh;by_cases hn:n=1
 .subst hn;go_enter Tryz.func234,Tryz.ntmps234;go_wp2
  go_end0
  exact⟨rfl,rfl⟩
 .have e1:((n:Int) == 1)=false:=by simp;omega
  go_enter Tryz.func234,Tryz.ntmps234;go_wp2
  go_end0
  exact⟨rfl,rfl⟩
theorem qs7(bp:Nat)(st:Int)(vr va vv:Vq)(w:Wq)(hh:w.heap[bp]?=cC #[.int .i64 st,vr,va,vv] 179) :
  Cs 235 #[Pt bp] w λe w'=>e=.returned (.tuple #[])/\w'=w.setCell (Ad bp 0) (.int .i64 (if st=4 then 3 else 1)):=by
 have h0:w.cell? (Ad bp 0)=some (.int .i64 st):=zc hh
 have hf:w.frozen? (Ad bp 0)=false:=by simp[World.frozen?,hh]
 clear hh;by_cases hn:st=4
 .subst hn;go_enter Tryz.func235,Tryz.ntmps235;go_wp2
  go_end0
  exact⟨rfl,rfl⟩
 .have e1:(st == 4)=false:=by simp[hn]
  go_enter Tryz.func235,Tryz.ntmps235;go_wp2
  go_end0
  exact⟨rfl,rfl⟩
theorem ql7(bp:Nat)(st:Int)(vr vv:Vq)(g n c:Nat)(hn:1<=n)(hb:n<=1000)(w:Wq)(hh:w.heap[bp]?=cC #[.int .i64 st,vr,Sc g n c,vv] 179) :
  Cs 232 #[Pt bp] w λe w'=>e=.returned (.pointer (some ⟨g,(n - 1)*2,none⟩))/\∃q,w'=w.drewN q:=by
 have h2:w.cell? (Ad bp 2)=some (Sc g n c):=zc hh
 clear hh;have i1:(0:Int)<=(n:Int) - 1:=by omega
 have i2:(n:Int) - 1 < (n:Int):=by omega
 go_enter Tryz.func232,Tryz.ntmps232;go_wp2;go_quiet (fail);go_wp2;go_ret;exact⟨rfl,_,rfl⟩
theorem qnx(bp:Nat)(st:Int)(ar:Option Addr)(nr cr:Nat)(aa:Option Addr)(na ca:Nat)(vv:Vq)(at':Option Addr)(m cm:Nat)(k:Int)(t:By)(p r:Int)(hb:na<=1000)(w:Wq)(hh:w.heap[bp]?=cC #[.int .i64 st,.slice ar nr cr,.slice aa na ca,vv] 179)(bb:st=3->1<=na/\∃g,aa=some ⟨g,0,none⟩/\w.cell? (Ad g ((na - 1)*2+1))=some (.slice at' m cm)/\g < w.heap.size) :
  Cs 196 #[Pt bp,qbk k t p r] w λe w'=>e=.returned (.bool (qv st r nr na m))/\∃q,w'=(w.alloc (.cells (qeh k t p r) 191)).drewN q:=by
 have aw:bp < w.heap.size:=(zg hh).1;have h0:w.cell? (Ad bp 0)=some (.int .i64 st):=zc hh
 have h1:w.cell? (Ad bp 1)=some (.slice ar nr cr):=zc hh
 have h2:w.cell? (Ad bp 2)=some (.slice aa na ca):=zc hh
 unfold qbk qeh;by_cases hr:8 < r
 .clear bb hh;go_enter Tryz.func196,Tryz.ntmps196;go_wp2;go_ret;exact⟨qaj (by simp[qv,hr]),0,rfl⟩
 .by_cases h3:st=3
  .obtain⟨b8,g,rfl,bf,cv⟩:=bb h3;subst h3;have cj:(w.alloc (.cells #[.int .i64 k,.string t,.int .i64 p,.int .i64 r] 191)).heap[bp]?=cC #[.int .i64 3,.slice ar nr cr,Sc g na ca,vv] 179:=by rw[Below.heap_alloc _ _ _ aw];exact hh
   have aj:g≠w.heap.size:=by omega
   have Qht:(w.alloc (.cells #[.int .i64 k,.string t,.int .i64 p,.int .i64 r] 191)).cell? (Ad g ((na - 1)*2+1))=some (.slice at' m cm):=cell_later ((Below.refl w.heap.size w).alloc zl _) bf;clear hh bf;go_enter Tryz.func196,Tryz.ntmps196
   go_wp2_with (go_at_call 232;refine (ql7 _ _ _ _ _ _ _ b8 hb _ cj).mono ?_;rintro e w' ⟨rfl,q,rfl⟩)
   go_ret;exact⟨qaj (by rw[Bool.eq_iff_iff];simp[qv];omega),_,rfl⟩
  .have cp:(st == 3)=false:=by simp[h3]
   clear bb hh;go_enter Tryz.func196,Tryz.ntmps196;go_wp2
   all_goals
    go_ret;exact⟨qaj (by rw[Bool.eq_iff_iff];simp_all [qv] <;> omega),0,rfl⟩
theorem qfg{v:Vq}(h:W.ownsRow b 9 1 v vs.length (vs.map Value.string))(hl:vs.length<=1000)(x:By) :
  Cs 140 #[v,.string x] W λe w'=>e=.returned (.bool (Lib.containsS vs x))/\w'=W:=by
 obtain⟨_,⟨hv,hn⟩ | ⟨g,cap,ab,hv,hb,hw,h1,h2,h3,h4⟩⟩:=h
 .have:vs=[]:=List.eq_nil_of_length_eq_zero hn;subst this;rw[hv];exact Tryz.slices_Contains_string_empty none 0 x W
 .rw[hv]
  have:=Tryz.slices_Contains_string g 0 vs.length cap vs x W zl (by omega) (λj hj=>by
   simp only[World.cell?,hw,Nat.zero_add]
   have h5:(ab.toList.take (vs.length*1))[j]?=some (.string (vs.getD j ByteArray.empty)):=by
    rw[h4];simp[List.getElem?_eq_getElem hj]
   rw[List.getElem?_take,if_pos (by omega)] at h5
   simpa using h5)
  simpa using this
theorem q1b{v:Vq}(h:W.ownsRow b 9 1 v vs.length (vs.map Value.string))(hl:vs.length<=1000)(x:By) :
  Cs 191 #[v,.string x] W λe w'=>e=.returned (.int .i64 (Lib.idxOfS vs x))/\w'=W:=by
 obtain⟨_,⟨hv,hn⟩ | ⟨g,cap,ab,hv,hb,hw,h1,h2,h3,h4⟩⟩:=h
 .have:vs=[]:=List.eq_nil_of_length_eq_zero hn;subst this;rw[hv];exact Tryz.slices_Index_string_empty none 0 x W
 .rw[hv]
  have:=Tryz.slices_Index_string g 0 vs.length cap vs x W zl (by omega) (λj hj=>by
   simp only[World.cell?,hw,Nat.zero_add]
   have h5:(ab.toList.take (vs.length*1))[j]?=some (.string (vs.getD j ByteArray.empty)):=by
    rw[h4];simp[List.getElem?_eq_getElem hj]
   rw[List.getElem?_take,if_pos (by omega)] at h5
   simpa using h5)
  simpa using this
theorem Tryz.info9:(Tryz.prog.info? 9).map (λi=>(i.zero,i.size,i.bytes))=some (some (.string ⟨#[]⟩),1,16):=by kernel_rfl
structure Chg(w w':Wq)(ex:Nat->Prop):Prop where
 os:w'.os=w.os
 tape:w'.tape=w.tape
 output:w'.output=w.output
 size:w.heap.size<=w'.heap.size
 block:∀k,k < w.heap.size->¬ex k->w'.heap[k]?=w.heap[k]?
theorem Chg.refl(w:Wq)(ex:Nat->Prop):Chg w w ex:=⟨rfl,rfl,rfl,Nat.le_refl _,λ_ _ _=>rfl⟩
theorem Chg.trans{b c:Wq}(h:Chg a b ex)(k:Chg b c ex):Chg a c ex:=
 ⟨k.os.trans h.os,k.tape.trans h.tape,k.output.trans h.output,Nat.le_trans h.size k.size,λi hi hx=>(k.block i (Nat.lt_of_lt_of_le hi h.size) hx).trans (h.block i hi hx)⟩
theorem Chg.mono{b:Wq}{a9:Nat->Prop}(h:Chg a b ex)(hx:∀k,k < a.heap.size->ex k->a9 k):Chg a b a9:=
 ⟨h.os,h.tape,h.output,h.size,λi hi hn=>h.block i hi (λe=>hn (hx i hi e))⟩
theorem Chg.drew{b:Wq}(h:Chg a b ex):Chg a b.drew ex:=⟨h.os,h.tape,h.output,h.size,h.block⟩
theorem Chg.alloc{b:Wq}(h:Chg a b ex)(o:Obj):Chg a (b.alloc o) ex:=
 ⟨h.os,h.tape,h.output,by have:=h.size;simp;omega,λi hi hn=>(Below.heap_alloc b o i (Nat.lt_of_lt_of_le hi h.size)).trans (h.block i hi hn)⟩
theorem Chg.setCell{b:Wq}(h:Chg a b ex)(p:Addr)(v:Vq)(hp:p.block < a.heap.size->ex p.block):Chg a (b.setCell p v) ex:=
 ⟨h.os,h.tape,h.output,by have:=h.size;have e:(b.setCell p v).heap.size=b.heap.size:=(by simp);omega,λi hi hn=>(Below.heap_setCell b p v i (λe=>hn (by rw[e] at hi ⊢;exact hp hi))).trans (h.block i hi hn)⟩
theorem Chg.grown{b c:Wq}{row:Option Nat}(h:Chg a b ex)(hg:b.grownBy c row)(hr:∀k,row=some k->k < a.heap.size->ex k):Chg a c ex:=
 ⟨hg.os.trans h.os,hg.tape.trans h.tape,hg.output.trans h.output,Nat.le_trans h.size hg.size,
  λi hi hn=>(hg.block i (Nat.lt_of_lt_of_le hi h.size) (λe=>hn (hr i e.symm hi))).trans (h.block i hi hn)⟩
theorem Chg.below{b:Wq}{B:Nat}(h:Chg a b ex)(hB:B<=a.heap.size)(hx:∀k,ex k->B<=k):Below B a b:=
 ⟨h.os,h.tape,h.output,h.size,λk hk=>h.block k (Nat.lt_of_lt_of_le hk hB) (λe=>by have:=hx k e;omega)⟩
theorem Chg.ofBelow{b:Wq}(ex:Nat->Prop)(h:Below a.heap.size a b):Chg a b ex:=⟨h.os,h.tape,h.output,h.size,λk hk _=>h.block k hk⟩
theorem Tryz.info45:(Tryz.prog.info? 92).map (λi=>(i.zero,i.size,i.bytes))=some (some (.agg #[.string ⟨#[]⟩,.slice none 0 0]),2,40):=by kernel_rfl
theorem Tryz.info87:(Tryz.prog.info? 166).map (λi=>(i.zero,i.size,i.bytes))=some (some (.agg #[.string ⟨#[]⟩,.int .i64 0]),2,24):=by kernel_rfl
theorem Tryz.info48:(Tryz.prog.info? 136).map (λi=>(i.zero,i.size,i.bytes))=some (some (.agg #[.string ⟨#[]⟩,.slice none 0 0,.slice none 0 0]),3,64):=by kernel_rfl
theorem Qd{w:Wq}{c:Array Vq}{t:TypeId}{fz:Nat×Nat}(h:w.heap[b]?=some (Obj.cells c t fz))(o:Nat)(v:Vq):(w.setCell (Ad b o) v).heap[b]?=some (Obj.cells (c.setIfInBounds o v) t fz):=by
 simp[World.setCell,Array.getElem?_modify,h]
theorem Qf{w:Wq}{n:Nat}{v:Vq}(h:w.ownsRow b e size v n xs){k:Nat}{c:Array Vq}{u:TypeId}{fz:Nat×Nat}(hk:w.heap[k]?=some (Obj.cells c u fz))(aj:u≠e):∀g,v.ownBlock=some g->g≠k:=by
 intro g hg e';obtain⟨_,⟨hv,hn⟩ | ⟨g',cap,ab,hv,_,hw,_⟩⟩:=h
 .rw[hv] at hg;simp[Value.ownBlock] at hg
 .rw[hv] at hg;simp[Value.ownBlock] at hg;rw[hg,e',hk] at hw;simp at hw;exact aj hw.2.1
theorem Qg{w:Wq}{n:Nat}{v:Vq}(h:w.ownsRow b e size v n xs)(a:Addr)(u:Vq)(aj:∀g,v.ownBlock=some g->g≠a.block):(w.setCell a u).ownsRow b e size v n xs:=
 q8 h (λg c hg hc=>(Below.heap_setCell w a u g (aj g hg)).trans hc)
theorem q7h{w w1:Wq}{bp n:Nat}{ay:Int}{C Z:Array Vq}{v':Vq}{j:Nat}(he:179≠e)(hx:ex bp)(hh:w1.heap[bp]?=cC C 179)(hz:(C.setIfInBounds j v').setIfInBounds 0 (.int .i64 ay)=Z)(ho:w1.ownsRow b e size v' n xs)(hc:Chg w w1 ex) :
  ((w1.setCell (Ad bp j) v').setCell (Ad bp 0) (.int .i64 ay)).heap[bp]?=cC Z 179/\
  ((w1.setCell (Ad bp j) v').setCell (Ad bp 0) (.int .i64 ay)).ownsRow b e size v' n xs/\Chg w ((w1.setCell (Ad bp j) v').setCell (Ad bp 0) (.int .i64 ay)) ex:=by
 refine⟨by rw[<- hz];exact Qd (Qd hh j v') 0 _,?_,(hc.setCell _ _ (λ_=>hx)).setCell _ _ (λ_=>hx)⟩;exact Qg (Qg ho _ _ (Qf ho hh he)) _ _ (Qf ho hh he)
theorem qr4(s:By)(w:Wq)(hs:s.size<=1000000) :
  Cs 97 #[.string s] w λe w'=>e=.returned (.string s)/\Below w.heap.size w w':=by
 have h:=λW=>Tryz.stringslite_Clone s W (by omega);go_enter Tryz.func97,Tryz.ntmps97
 go_wp2_with (go_at_call 162;refine (h _).mono ?_;rintro e w' ⟨rfl,hb⟩)
 go_ret;exact⟨rfl,hb⟩
theorem qs9(bp:Nat)(st:Int)(vr va vv:Vq)(n ac:Nat)(xs:List Vq)(k:Int)(t:By)(p r:Int)(af:st≠3)(hn:n<=1000)(ht:t.size<=1000000)(w:Wq)(b0:ac<=w.heap.size)(hh:w.heap[bp]?=cC #[.int .i64 st,vr,va,vv] 179)(qq:w.ownsRow ac 92 2 va n xs) :
  Cs 233 #[Pt bp,qbk k t p r] w λe w'=>e=.returned (.tuple #[])/\
   ∃v',w'.heap[bp]?=cC #[.int .i64 2,vr,v',vv] 179/\w'.ownsRow ac 92 2 v' (n+1) (xs++[.string t,.slice none 0 0])/\Chg w w' (λj=>j=bp\/some j=va.ownBlock):=by
 have aw:bp < w.heap.size:=(zg hh).1;have h0:w.cell? (Ad bp 0)=some (.int .i64 st):=zc hh
 have h2:w.cell? (Ad bp 2)=some va:=zc hh
 have ct:(st == 3)=false:=by simp[af]
 obtain⟨i0,hi,ci,bo,bv⟩:=info_parts Tryz.info45;unfold qbk qeh
 obtain⟨a,c,rfl⟩:∃a c,va=.slice a n c:=by
  obtain⟨_,⟨hv,hn⟩ | ⟨g,cap,ab,hv,_⟩⟩:=qq
  .exact⟨none,0,by rw[hv,hn]⟩
  .exact⟨_,_,hv⟩
 have Qau:∀g,(Value.slice a n c).ownBlock=some g->g≠bp:=Qf qq hh (by decide);obtain⟨W0,a7⟩:∃W0,(w.alloc (.cells #[.int .i64 k,.string t,.int .i64 p,.int .i64 r] 191)).drew=W0:=⟨_,rfl⟩;have a8:Below w.heap.size w W0:=by rw[<- a7];exact ((Below.refl _ w).alloc zl _).drew
 have b7:W0.heap.size=w.heap.size+1:=by rw[<- a7];show (w.alloc _).heap.size=_;simp
 have cf:Hid (∀W,Cs 97 #[.string t] W λe w'=>e=.returned (.string t)/\Below W.heap.size W w'):=λW=>qr4 t W ht
 have hS:Hid (∀W1,Below W0.heap.size W0 W1->W1.cell? (Ad bp 0)=some (.int .i64 st)/\W1.cell? (Ad bp 2)=some (.slice a n c)/\W1.heap.size≠bp/\W1.ownsRow ac 92 2 (.slice a n c) n xs/\ac<=W1.heap.size):=by
  intro W1 h1;have hb:Below w.heap.size w W1:=a8.trans (h1.mono (by omega));have co:=hb.size;exact⟨(hb.cell (p:=⟨bp,0,none⟩) aw).trans h0,(hb.cell (p:=⟨bp,2,none⟩) aw).trans h2,by omega,qk qq hb,by omega⟩
 have hG:Hid (∀W1 O w1,Below W0.heap.size W0 W1->(W1.alloc O).grownBy w1 (Value.slice a n c).ownBlock->
   w1.heap[bp]?=cC #[.int .i64 st,vr,.slice a n c,vv] 179/\Chg w w1 (λj=>j=bp\/some j=(Value.slice a n c).ownBlock)):=by
  intro W1 O w1 h1 hg;have hb:Below w.heap.size w W1:=a8.trans (h1.mono (by omega));have hc:Chg w w1 (λj=>some j=(Value.slice a n c).ownBlock):=((Chg.ofBelow _ hb).alloc _).grown hg (λk e _=>e.symm);exact⟨(hc.block bp aw (λe=>Qau bp e.symm rfl)).trans hh,hc.mono (λ_ _ e=>.inr e)⟩
 have a6:∀u∈[Value.string t,.slice none 0 0],u.oneCell'=true:=by simp[Value.oneCell']
 have b5:n+1<=maxLen:=by unfold maxLen;omega
 have bi:(n+1)*40<=140737488355328:=by omega
 obtain⟨z0,z2,cc,_,_⟩:=hS.out W0 zr;have ck:=cc.symm;have zt:W0.cell? (Ad w.heap.size 1)=some (.string t):=by rw[<- a7];simp
 clear hh a8 b7 qq;go_enter Tryz.func233,Tryz.ntmps233;go_wp2
 go_region_law (first | (refine qbv rfl (.tmp 31) (.tmp 36) 134 rfl ac 92 i0 (.agg #[.string ⟨#[]⟩,.slice none 0 0]) 2 40 Tryz.underlying134 hi ci bo bv rfl (by decide) (.slice a n c) n xs (by simp[Act.eval,Act.put]) (World.ownsRow.alloc (hS.out W1 ax).2.2.2.1 _) ⟨W1.heap.size,0,none⟩ 1 1 [.string t,.slice none 0 0] (by simp[Act.eval,Act.put]) rfl (cell_two_new W1 (.string t) (.slice none 0 0) 92) a6 b5 bi (by have:=(hS.out W1 ax).2.2.2.2;simp;omega) ?_;intro v' w1 ak am;obtain⟨g',aq,az⟩:=ownsRow_succ ak;subst az;obtain⟨au,ce⟩:=hG.out W1 _ w1 ax am;have c0:w1.cell? (Ad bp 0)=some (.int .i64 st):=(by simp[World.cell?,au]);have c2:w1.cell? (Ad bp 2)=some (.slice a n c):=(by simp[World.cell?,au]);have f0:w1.frozen? (Ad bp 0)=false:=(by simp[World.frozen?,au]);have f2:w1.frozen? (Ad bp 2)=false:=(by simp[World.frozen?,au])) | (go_simp;go_wp2_with (go_at_call 97;refine (cf.out _).mono ?_;rintro e W1 ⟨rfl,ax⟩;obtain⟨k0,k2,cb,_,_⟩:=hS.out W1 ax;have bq:=cb.symm;have cq:∀O,(W1.alloc O).cell? (Ad bp 2)=some (.slice a n c):=λO=>cell_later ((Below.refl W1.heap.size W1).alloc zl O) k2)))
 all_goals
  go_wp2
  go_end0
  exact⟨rfl,Sc g' (n+1) aq,q7h (Z:=#[.int .i64 2,vr,Sc g' (n+1) aq,vv]) (by decide) (.inl rfl) au rfl ak ce⟩
theorem qqm{n:Nat}{v:Vq}(h:W.ownsRow b e 2 v n (ys++[x,y]))(hn:1<=n) :
  ∃g c ab,v=Sc g n c/\W.heap[g]?=cC ab e/\b<=g/\(n - 1)*2+1 < ab.size/\ab[(n - 1)*2+1]?=some y/\ab.toList.take (n*2)=ys++[x,y]/\ys.length=(n - 1)*2:=by
 obtain⟨hl,⟨_,h0⟩ | ⟨g,cap,ab,hv,hb,hw,h1,h2,h3,h4⟩⟩:=h
 .omega
 .simp at hl;have bd:(n - 1)*2+1 < ab.size:=by rw[h3];omega
  refine⟨g,cap,ab,hv,hw,hb,bd,?_,h4,by omega⟩
  have:(ab.toList.take (n*2))[(n - 1)*2+1]?=some y:=by
   rw[h4,List.getElem?_append_right (by omega)];rw[show (n - 1)*2+1 - ys.length=1 by omega];rfl
  rw[List.getElem?_take] at this;split at this
  .simpa using this
  .cases this
theorem qt5{n:Nat}{v:Vq}{z:Vq}(h:W.ownsRow b e 2 v n (ys++[x,y]))(hn:1<=n){g:Nat}(hg:v.ownBlock=some g) :
  (W.setCell (Ad g ((n - 1)*2+1)) z).ownsRow b e 2 v n (ys++[x,z]):=by
 obtain⟨g',c,ab,hv,hw,hb,bd,hy,ht,hl⟩:=qqm h hn;rw[hv] at hg;simp[Value.ownBlock] at hg;subst hg;obtain⟨h0,⟨az,_⟩ | ⟨g2,cd,b9,bj,bi,bh,h1,h2,h3,h4⟩⟩:=h
 .rw[hv] at az;cases az
 .rw[hv] at bj;cases bj;rw[hw] at bh;cases bh;refine⟨by simpa using h0,.inr ⟨g',c,ab.setIfInBounds ((n - 1)*2+1) z,hv,hb,Qd hw _ _,h1,h2,by simpa using h3,?_⟩⟩;rw[Array.toList_setIfInBounds,List.take_set,ht];rw[List.set_append_right _ _ (by omega),show (n - 1)*2+1 - ys.length=1 by omega];rfl
