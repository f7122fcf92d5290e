/- What a call may change: 'Chg w w' ex': every block of w -/
import Derived.Test.YtjajnhemgphefaaGreatDoorJRefJ
import Derived.Deep.RegionLawGrows
import Derived.Maps.AppendAt
import Derived.BigQuiet
import Derived.BigRegion
set_option linter.unusedVariables false
set_option linter.unusedSimpArgs false
set_option maxRecDepth 100000
set_option maxHeartbeats 2000000
namespace Go.Proofs.YtjajnhemgphefaaGreatDoor
open Go renaming World->Wq,Value->Vq
open Go.RowKit Go.Shelf
variable {b b45 b87:Nat} {W W':Wq} {l:List Tm}
def qqb(l:List Tm):List Vq:=l.flatMap tmC
def qbc(p:Am×Vq):List Vq:=[.string p.1.rel,p.2]
def qnq(q:Rl×Vq×Vq):List Vq:=[.string q.1.head.rel,q.2.1,q.2.2]
theorem qj3(l:List (Am×Vq)):(l.flatMap qbc).length=l.length*2:=by
 induction l with
 | nil=>rfl
 | cons t l ih=>simp[qbc] at ih ⊢;omega
def Qd(W:Wq)(b:Nat)(v:Vq)(l:List Tm):Prop:=
 (l=[]/\v=.slice none 0 0)\/
 ∃(g cap:Nat) (cur:Array Vq),v=.slice (some ⟨g,0,none⟩) l.length cap/\g < b/\W.heap[g]?=some (Obj.cells cur 166)/\cur.toList.take (l.length*2)=qqb l
def qas(W:Wq)(b45 b87:Nat)(v:Vq)(l:List Am):Prop:=
 ∃(ps:List (Am×Vq)) (a:Option Addr) (cap:Nat),ps.map (·.1)=l/\v=.slice a l.length cap/\((∀p∈ps,Qd W b87 p.2 p.1.args)/\l.length<=cap)/\
  (l≠[]->∃(g off:Nat) (cur:Array Vq),a=some ⟨g,off,none⟩/\g < b45/\W.heap[g]?=some (Obj.cells cur 92)/\(cur.toList.drop off).take (l.length*2)=ps.flatMap qbc)
def q8r(W:Wq)(b45 b87:Nat)(v:Vq)(l:List Am):Prop:=
 ∃ps:List (Am×Vq),ps.map (·.1)=l/\W.ownsRow b45 92 2 v ps.length (ps.flatMap qbc)/\(∀p∈ps.dropLast,Qd W b87 p.2 p.1.args)/\
  (∀p,ps.getLast?=some p->W.ownsRow b87 166 2 p.2 p.1.args.length (qqb p.1.args))
def Qa(W:Wq)(base b45 b87:Nat)(v:Vq)(l:List Rl):Prop:=
 ∃qs:List (Rl×Vq×Vq),qs.map (·.1)=l/\W.ownsRow base 136 3 v qs.length (qs.flatMap qnq)/\∀q∈qs,Qd W b87 q.2.1 q.1.head.args/\qas W b45 b87 q.2.2 q.1.body
def qf7(t:TypeId)(b:Nat)(W W':Wq):Prop:=∀(k:Nat) (c:Array Vq),k < b->W.heap[k]?=some (Obj.cells c t (0,0))->W'.heap[k]?=some (Obj.cells c t (0,0))
theorem qf7.above{t:TypeId}{g:Nat}(h:W.grownBy W' (some g))(hb:b<=g):qf7 t b W W':=λk d hk hh=>
 (h.block k (zg hh).1 (by intro e;cases e;omega)).trans hh
theorem Qd.kept{v:Vq}(h:Qd W b v l)(hk:qf7 166 b W W'):Qd W' b v l:=by
 rcases h with h | ⟨g,cap,cur,h1,h2,h3,h4⟩
 ·exact .inl h
 ·exact .inr ⟨g,cap,cur,h1,h2,hk g cur h2 h3,h4⟩
theorem Qd.mono{b':Nat}{v:Vq}(h:Qd W b v l)(hb:b<=b'):Qd W b' v l:=by
 rcases h with h | ⟨g,cap,cur,h1,h2,h3,h4⟩
 ·exact .inl h
 ·exact .inr ⟨g,cap,cur,h1,by omega,h3,h4⟩
theorem qas.kept{v:Vq}{l:List Am}(h:qas W b45 b87 v l)(hk:qf7 92 b45 W W')(hk':qf7 166 b87 W W'):qas W' b45 b87 v l:=by
 obtain⟨ps,a,cap,h1,h2,h3,h4⟩:=h;refine⟨ps,a,cap,h1,h2,⟨λp hp=>(h3.1 p hp).kept hk',h3.2⟩,λhne=>?_⟩;obtain⟨g,off,cur,e1,e2,e3,e4⟩:=h4 hne;exact⟨g,off,cur,e1,e2,hk g cur e2 e3,e4⟩
theorem qas.mono{c45 c87:Nat}{v:Vq}{l:List Am}(h:qas W b45 b87 v l)(h45:b45<=c45)(h87:b87<=c87):qas W c45 c87 v l:=by
 obtain⟨ps,a,cap,h1,h2,h3,h4⟩:=h;refine⟨ps,a,cap,h1,h2,⟨λp hp=>(h3.1 p hp).mono h87,h3.2⟩,λhne=>?_⟩;obtain⟨g,off,cur,e1,e2,e3,e4⟩:=h4 hne;exact⟨g,off,cur,e1,by omega,e3,e4⟩
theorem Qd.ofOwns{v:Vq}(h:W.ownsRow b 166 2 v l.length (qqb l)):Qd W W.heap.size v l:=by
 obtain⟨_,⟨hv,hn⟩ | ⟨g,cap,cur,hv,hb,hh,h1,h2,h3,h4⟩⟩:=h
 ·exact .inl ⟨List.eq_nil_of_length_eq_zero hn,hv⟩
 ·exact .inr ⟨g,cap,cur,hv,(zg hh).1,hh,h4⟩
theorem q8{e size n:Nat}{v:Vq}{xs:List Vq}(h:W.ownsRow b e size v n xs)(hk:∀g c,v.ownBlock=some g->W.heap[g]?=some (Obj.cells c e (0,0))->W'.heap[g]?=some (Obj.cells c e (0,0))):W'.ownsRow b e size v n xs:=by
 obtain⟨h0,⟨hv,hn⟩ | ⟨g,cap,cur,hv,hb,hh,h1,h2,h3,h4⟩⟩:=h
 ·exact⟨h0,.inl ⟨hv,hn⟩⟩
 ·exact⟨h0,.inr ⟨g,cap,cur,hv,hb,hk g cur (by rw[hv];rfl) hh,h1,h2,h3,h4⟩⟩
theorem qbw{P:Program}{ops:Array Oper}{o:Oper}{a:Act}{w:Wq}{K:Act->Wq->Prop}{Q:Exit->Act->Wq->Prop}{E:Prop}(hg:o.guard=none)(s x:Operand)(t:TypeId)(hop:o.op=Op.call {callee:=Callee.builtin Builtin.append,args:=#[s,x],argTypes:=#[t,t]})(base:Nat)(e:TypeId)(i:TypeInfo)(z:Vq)(size bytes:Nat)(h1:P.underlying t=some (.slice e))(h2:P.info? e=some i)(h3:i.zero=some z)(h4:i.size=size)(h5:i.bytes=bytes)(h6:z.cells.size=size)(h7:0 < size)(v:Vq)(n:Nat)(xs:List Vq)(hs:a.eval s=v)(qr:w.ownsRow base e size v n xs)(ad:Addr)(m c:Nat)(news:List Vq)(hx:a.eval x=.slice (some ad) m c)(hn:news.length=m*size)(hc:∀j u,news[j]?=some u->w.cell? (ad.add j)=some u)(h1c:∀u∈news,u.oneCell'=true)(b1:n+m<=maxLen)(b2:(n+m)*bytes<=140737488355328)(qg6:base<=w.heap.size)(hK:∀v' w',w'.ownsRow base e size v' (n+m) (xs++news)->w.grownBy w' v.ownBlock->K (a.put o.dst v') w') :
  if Region.wanted o (yielded ops a.tmps)=true then Oper.wp P o a w K Q else E:=by
 have hw:Region.wanted o (yielded ops a.tmps)=true:=by simp[Region.wanted,hg]
 rw[if_pos hw];obtain⟨v',w',qiv,r1,r2,_⟩:=run_append_own (P:=P) w base t o.type e i z size bytes h1 h2 h3 h4 h5 h6 h7 v n xs qr ad m c news hn hc h1c b1 b2 qg6;unfold Oper.wp;simp[execOp,hop,resolve,invoke,builtin,hs,hx,qiv,Result.andThen];exact hK v' w' r1 r2
end Go.Proofs.YtjajnhemgphefaaGreatDoor
namespace Go.Proofs.YtjajnhemgphefaaGreatDoor
open Go renaming World->Wq,Value->Vq
theorem qdq(x:ByteArray):x.toList=x.data.toList:=by
 cases x with
 | mk d=>simp[ByteArray.toList_eq]
theorem qr3(x y:ByteArray):Q2 x y=true↔x=y:=by
 unfold Q2;constructor
 ·intro h;have h':y.toList=x.toList:=by simpa using h
  rw[qdq,qdq] at h';have h2:=Array.toList_inj.1 h'
  cases x;cases y;simp at h2;rw[h2]
 ·rintro rfl;simp
theorem qkw(x y:ByteArray):Q2 x y=(y.data.toList == x.data.toList):=by unfold Q2;rw[qdq,qdq]
structure PSt where
 st:Int
 rules:List Rl
 atoms:List Am
 vars:List ByteArray
def Qe(st k:Int):Bool:=
 if st=0\/st=1 then k == 1 else if st=2 then k == 3 else if st=3 then (k == 1 || k == 2) else if st=4 then (k == 5 || k == 4)
 else if st=5 then (k == 7 || k == 6) else if st=6 then (k == 5 || k == 6) else false
def qv(st runes:Int)(nr na m:Nat):Bool:=
 if 8 < runes then true else if st=0 then nr == 8 else if st=1 then na == 4 else if st=3 then m == 2 else false
def qcl(l:List Am)(x:Tm):List Am:=
 match l.getLast? with
 | some a=>l.dropLast++[{a with args:=a.args++[x]}]
 | none=>l
def Qf(l:List Am):Nat:=match l.getLast? with | some a=>a.args.length | none=>0
def qca(vs:List ByteArray)(k:Int)(t:ByteArray):Tm:=if k=1 then ⟨t,0⟩ else ⟨⟨#[]⟩,Qw vs t⟩
def qbi(vs:List ByteArray)(k:Int)(t:ByteArray):List ByteArray:=if k=1 then vs else Qc vs t
def qby(s:PSt)(k:Int)(t:ByteArray):PSt:=
 if s.st=3 then {s with st:=4,atoms:=qcl s.atoms (qca s.vars k t),vars:=qbi s.vars k t}
 else {s with st:=2,atoms:=s.atoms++[⟨t,[]⟩]}
def qav(s:PSt):PSt:=
 match s.atoms with
 | a::l=>{st:=0,rules:=s.rules++[⟨a,l⟩],atoms:=[],vars:=[]}
 | []=>s
def qdm(s:PSt):PSt:={s with st:=if s.atoms.length=1 then 5 else 6}
def qau(s:PSt)(k:Int)(t:ByteArray):PSt:=
 if k=1\/k=2 then qby s k t
 else if k=3 then {s with st:=3}
 else if k=4 then qdm s
 else if k=5 then {s with st:=if s.st=4 then 3 else 1}
 else if k=7 then {s with st:=1}
 else if k=6 then qav s
 else s
def qaf(s:PSt)(k:Int)(t:ByteArray)(r:Int):Int×PSt:=
 if Qe s.st k=false then (2,s)
 else if qv s.st r s.rules.length s.atoms.length (Qf s.atoms)=true then (3,s)
 else (0,qau s k t)
def Q0:PSt->List Tok->PSt×Option (Int×Nat)
 | s,[]=>(s,none)
 | s,x::l=>if (qaf s x.kind x.text x.runes).1=0 then Q0 (qaf s x.kind x.text x.runes).2 l else (s,some ((qaf s x.kind x.text x.runes).1,x.place))
def qb0:PSt:=⟨0,[],[],[]⟩
def qdv(s:ByteArray):Except (Int×Nat) (List Rl):=
 match Q0 qb0 (qch s.size s 0) with
 | (_,some ep)=>.error ep
 | (st,none)=>if st.st=0 then .ok st.rules else .error (2,Lib.runeCount s)
theorem qje:∀(l:List Tok) (s s':PSt) (c:Int) (p:Nat),Q0 s l=(s',some (c,p))->c≠0
 | [],s,s',c,p,h=>by simp[Q0] at h
 | x::l,s,s',c,p,h=>by
  unfold Q0 at h;split at h
  ·exact qje l _ _ _ _ h
  ·rename_i hn;simp at h;rw[<- h.2.1];exact hn
structure qwj(t:Tm):Prop where
 name:t.name.size<=1200
 num:t.num<=50
structure qjs(a:Am):Prop where
 rel:a.rel.size<=1200
 args:a.args.length<=2
 tms:∀t∈a.args,qwj t
structure qcd(r:Rl):Prop where
 head:qjs r.head
 body:r.body.length<=3
 ams:∀a∈r.body,qjs a
structure ql9(s:PSt):Prop where
 rules:s.rules.length<=8
 atoms:s.atoms.length<=4
 ams:∀a∈s.atoms,qjs a
 zero:s.st=0->s.atoms=[]
 some:s.st≠0->s.atoms≠[]
 room:s.st≠0->s.rules.length < 8
 good:∀r∈s.rules,qcd r
 vars:s.vars.length<=(s.atoms.map (·.args.length)).sum
theorem q5c(l:List Am)(h:∀a∈l,a.args.length<=2):(l.map (·.args.length)).sum<=2*l.length:=by
 induction l with
 | nil=>simp
 | cons a l ih=>
  have h1:=h a List.mem_cons_self;have h2:=ih (λb hb=>h b (List.mem_cons_of_mem _ hb));simp only[List.map_cons,List.sum_cons,List.length_cons];omega
theorem ql9.few{s:PSt}(h:ql9 s):s.vars.length<=8:=by
 have h1:=q5c s.atoms (λa ha=>(h.ams a ha).args);have h2:=h.vars;have h3:=h.atoms;omega
theorem qfn(l:List Am)(a:Am)(x:Tm):qcl (l++[a]) x=l++[{a with args:=a.args++[x]}]:=by
 unfold qcl;simp
theorem qh2(l:List Am)(x:Tm):(qcl l x).length=l.length:=by
 unfold qcl;split
 ·rename_i a h;have:l≠[]:=by intro e;rw[e] at h;simp at h
  have:=List.length_pos_iff.2 this;simp;omega
 ·rfl
theorem qp9(l:List Am)(h:l≠[]):∃p a,l=p++[a]:=⟨l.dropLast,l.getLast h,(List.dropLast_concat_getLast h).symm⟩
theorem q43(vs:List ByteArray)(x:ByteArray):Qw vs x<=vs.length:=List.findIdx_le_length
theorem qvv(vs:List ByteArray)(x:ByteArray):(Qc vs x).length<=vs.length+1:=by
 unfold Qc;split <;> simp
theorem qr9(s:PSt)(k:Int)(t:ByteArray)(r:Int)(ht:t.size<=1200)(h:ql9 s)(h0:(qaf s k t r).1=0):ql9 (qaf s k t r).2:=by
 have qmq:=h.few;obtain⟨i1,i2,i3,i4,i5,i6,i7,i8⟩:=h;unfold qaf at h0 ⊢;by_cases hf:Qe s.st k=false
 ·rw[if_pos hf] at h0;simp at h0
 rw[if_neg hf] at h0 ⊢;by_cases he:qv s.st r s.rules.length s.atoms.length (Qf s.atoms)=true
 ·rw[if_pos he] at h0;simp at h0
 rw[if_neg he];clear h0;have hf':Qe s.st k=true:=by simpa using hf
 have he':qv s.st r s.rules.length s.atoms.length (Qf s.atoms)=false:=by simpa using he
 clear hf he;unfold qv at he';split at he'
 ·cases he'
 show ql9 (qau s k t);unfold Qe at hf'
 have qg7:s.st≠0->ql9 (qav s):=by
  intro h0;have hne:=i5 h0;have hr:=i6 h0;unfold qav;split
  ·rename_i a0 al hal;rw[hal] at i2 i3;refine⟨by simp;omega,by simp,by simp,λ_=>rfl,λe=>absurd rfl e,λe=>absurd rfl e,λq hq=>?_,by simp⟩;simp at hq;rcases hq with hq | rfl
   ·exact i7 q hq
   ·exact⟨i3 _ (by simp),by simp at i2;exact i2,λb hb=>i3 b (by simp[hb])⟩
  ·rename_i e;exact absurd e hne
 have qms:s.st≠0->∀x:Int,x≠0->ql9 {s with st:=x}:=λh0 x hx=>⟨i1,i2,i3,λe=>absurd e hx,λ_=>i5 h0,λ_=>i6 h0,i7,i8⟩;split at hf'
 ·rename_i hst;obtain rfl:k=1:=by simpa using hf'
  have:qau s 1 t={s with st:=2,atoms:=s.atoms++[⟨t,[]⟩]}:=by
   unfold qau qby;rw[if_pos (.inl rfl),if_neg (by omega)]
  rw[this];refine⟨i1,?_,?_,λe=>by simp at e,λ_=>by simp,λ_=>?_,i7,by simpa using i8⟩
  ·simp;rcases hst with e | e
   ·rw[i4 e];simp
   ·simp[e] at he';omega
  ·intro a ha;simp at ha;rcases ha with ha | rfl
   ·exact i3 a ha
   ·exact⟨ht,by simp,by simp⟩
  ·simp;rcases hst with e | e
   ·simp[e] at he';omega
   ·exact i6 (by omega)
 split at hf'
 ·rename_i _ hst;obtain rfl:k=3:=by simpa using hf'
  have:qau s 3 t={s with st:=3}:=by unfold qau;simp
  rw[this];exact qms (by omega) 3 (by decide)
 split at hf'
 ·rename_i _ _ hst;have hk:k=1\/k=2:=by simpa using hf'
  have:qau s k t={s with st:=4,atoms:=qcl s.atoms (qca s.vars k t),vars:=qbi s.vars k t}:=by
   unfold qau qby;rw[if_pos hk,if_pos hst]
  rw[this];simp[hst] at he';obtain⟨p,a,hpa⟩:=qp9 s.atoms (i5 (by omega));have hl2:Qf s.atoms=a.args.length:=by unfold Qf;rw[hpa];simp
  have ha:=i3 a (by rw[hpa];simp);have ha2:=ha.args
  have htm:qwj (qca s.vars k t):=by
   unfold qca;split
   ·exact⟨ht,by simp⟩
   ·exact⟨by simp[ByteArray.size],by have:=q43 s.vars t;simp only;omega⟩
  have hvs:(qbi s.vars k t).length<=s.vars.length+1:=by
   unfold qbi;split
   ·omega
   ·exact qvv _ _
  rw[hpa,qfn];rw[hpa] at i2 i8;have hi8:s.vars.length<=(p.map (·.args.length)).sum+a.args.length:=by simpa using i8
  refine⟨i1,by simpa using i2,?_,λe=>by simp at e,λ_=>by simp,λ_=>i6 (by omega),i7,?_⟩
  ·intro b hb;simp at hb;rcases hb with hb | rfl
   ·exact i3 b (by rw[hpa];simp[hb])
   ·refine⟨ha.rel,by simp;omega,λx hx=>?_⟩;simp at hx;rcases hx with hx | rfl
    ·exact ha.tms x hx
    ·exact htm
  ·simp;omega
 split at hf'
 ·rename_i _ _ _ hst;have hk:k=5\/k=4:=by simpa using hf'
  rcases hk with rfl | rfl
  ·have:qau s 5 t={s with st:=3}:=by unfold qau;simp[hst]
   rw[this];exact qms (by omega) 3 (by decide)
  ·have:qau s 4 t=qdm s:=by unfold qau;simp
   rw[this];exact qms (by omega) _ (by split <;> decide)
 split at hf'
 ·rename_i _ _ _ _ hst;have hk:k=7\/k=6:=by simpa using hf'
  rcases hk with rfl | rfl
  ·have:qau s 7 t={s with st:=1}:=by unfold qau;simp
   rw[this];exact qms (by omega) 1 (by decide)
  ·have:qau s 6 t=qav s:=by unfold qau;simp
   rw[this];exact qg7 (by omega)
 split at hf'
 ·rename_i _ _ _ _ _ hst;have hk:k=5\/k=6:=by simpa using hf'
  rcases hk with rfl | rfl
  ·have:qau s 5 t={s with st:=1}:=by unfold qau;simp[hst]
   rw[this];exact qms (by omega) 1 (by decide)
  ·have:qau s 6 t=qav s:=by unfold qau;simp
   rw[this];exact qg7 (by omega)
 ·cases hf'
theorem qlg(s:PSt)(pre l:List Tok)(s':PSt)(h:Q0 s pre=(s',none)):Q0 s (pre++l)=Q0 s' l:=by
 induction pre generalizing s with
 | nil=>simp[Q0] at h;rw[h];rfl
 | cons x pre ih=>
  simp only[List.cons_append,Q0] at h ⊢;split at h
  ·rename_i h0;rw[if_pos h0];exact ih _ h
  ·simp at h
end Go.Proofs.YtjajnhemgphefaaGreatDoor
namespace Go.Proofs.YtjajnhemgphefaaGreatDoor
open Go renaming World->Wq,Value->Vq
open Go.RowKit Go.Shelf
variable {W a:Wq} {b e size:Nat} {vs:List ByteArray} {ex:Nat->Prop} {xs ys:List Vq} {x y:Vq}
theorem q2w(bp:Nat)(st k:Int)(w:Wq)(hc:w.cell? ⟨bp,0,none⟩=some (.int .i64 st)) :
  Calls Tryz.prog 195 #[.pointer (some ⟨bp,0,none⟩),.int .i64 k] w λe w'=>e=.returned (.bool (Qe st k))/\w'=w:=by
 go_enter Tryz.func195,Tryz.ntmps195;go_wp2
 all_goals
  go_ret;exact⟨qak (by simp_all [Qe]),rfl⟩
theorem quf(bp:Nat)(st:Int)(vr vv:Vq)(a:Option Addr)(n c:Nat)(w:Wq)(hh:w.heap[bp]?=some (Obj.cells #[.int .i64 st,vr,.slice a n c,vv] 179)) :
  Calls Tryz.prog 234 #[.pointer (some ⟨bp,0,none⟩)] w λe w'=>e=.returned (.tuple #[])/\w'=w.setCell ⟨bp,0,none⟩ (.int .i64 (if n=1 then 5 else 6)):=by
 have h0:w.cell? ⟨bp,0,none⟩=some (.int .i64 st):=by simp[World.cell?,hh]
 have h2:w.cell? ⟨bp,2,none⟩=some (.slice a n c):=by simp[World.cell?,hh]
 have hf:w.frozen? ⟨bp,0,none⟩=false:=by simp[World.frozen?,hh]
 clear hh;by_cases hn:n=1
 ·subst hn;go_enter Tryz.func234,Tryz.ntmps234;go_wp2
  go_end0
  exact⟨rfl,rfl⟩
 ·have e1:((n:Int) == 1)=false:=by simp;omega
  go_enter Tryz.func234,Tryz.ntmps234;go_wp2
  go_end0
  exact⟨rfl,rfl⟩
theorem qsh(bp:Nat)(st:Int)(vr va vv:Vq)(w:Wq)(hh:w.heap[bp]?=some (Obj.cells #[.int .i64 st,vr,va,vv] 179)) :
  Calls Tryz.prog 235 #[.pointer (some ⟨bp,0,none⟩)] w λe w'=>e=.returned (.tuple #[])/\w'=w.setCell ⟨bp,0,none⟩ (.int .i64 (if st=4 then 3 else 1)):=by
 have h0:w.cell? ⟨bp,0,none⟩=some (.int .i64 st):=by simp[World.cell?,hh]
 have hf:w.frozen? ⟨bp,0,none⟩=false:=by simp[World.frozen?,hh]
 clear hh;by_cases hn:st=4
 ·subst hn;go_enter Tryz.func235,Tryz.ntmps235;go_wp2
  go_end0
  exact⟨rfl,rfl⟩
 ·have e1:(st == 4)=false:=by simp[hn]
  go_enter Tryz.func235,Tryz.ntmps235;go_wp2
  go_end0
  exact⟨rfl,rfl⟩
theorem qls(bp:Nat)(st:Int)(vr vv:Vq)(g n c:Nat)(hn:1<=n)(hb:n<=1000)(w:Wq)(hh:w.heap[bp]?=some (Obj.cells #[.int .i64 st,vr,.slice (some ⟨g,0,none⟩) n c,vv] 179)) :
  Calls Tryz.prog 232 #[.pointer (some ⟨bp,0,none⟩)] w λe w'=>e=.returned (.pointer (some ⟨g,(n - 1)*2,none⟩))/\∃q,w'=w.drewN q:=by
 have h2:w.cell? ⟨bp,2,none⟩=some (.slice (some ⟨g,0,none⟩) n c):=by simp[World.cell?,hh]
 clear hh;have i1:(0:Int)<=(n:Int) - 1:=by omega
 have i2:(n:Int) - 1 < (n:Int):=by omega
 go_enter Tryz.func232,Tryz.ntmps232;go_wp2;go_quiet (fail);go_wp2;go_ret;exact⟨rfl,_,rfl⟩
theorem qnc(bp:Nat)(st:Int)(ar:Option Addr)(nr cr:Nat)(aa:Option Addr)(na ca:Nat)(vv:Vq)(at':Option Addr)(m cm:Nat)(k:Int)(t:ByteArray)(p r:Int)(hb:na<=1000)(w:Wq)(hh:w.heap[bp]?=some (Obj.cells #[.int .i64 st,.slice ar nr cr,.slice aa na ca,vv] 179))(qln:st=3->1<=na/\∃g,aa=some ⟨g,0,none⟩/\w.cell? ⟨g,(na - 1)*2+1,none⟩=some (.slice at' m cm)/\g < w.heap.size) :
  Calls Tryz.prog 196 #[.pointer (some ⟨bp,0,none⟩),qbk k t p r] w λe w'=>e=.returned (.bool (qv st r nr na m))/\∃q,w'=(w.alloc (.cells (qec k t p r) 191)).drewN q:=by
 have hbp:bp < w.heap.size:=(zg hh).1;have h0:w.cell? ⟨bp,0,none⟩=some (.int .i64 st):=by simp[World.cell?,hh]
 have h1:w.cell? ⟨bp,1,none⟩=some (.slice ar nr cr):=by simp[World.cell?,hh]
 have h2:w.cell? ⟨bp,2,none⟩=some (.slice aa na ca):=by simp[World.cell?,hh]
 unfold qbk qec;by_cases hr:8 < r
 ·clear qln hh;go_enter Tryz.func196,Tryz.ntmps196;go_wp2;go_ret;exact⟨qak (by simp[qv,hr]),0,rfl⟩
 ·by_cases h3:st=3
  ·obtain⟨h1n,g,rfl,hcg,hgw⟩:=qln h3;subst h3;have hh':(w.alloc (.cells #[.int .i64 k,.string t,.int .i64 p,.int .i64 r] 191)).heap[bp]?=some (Obj.cells #[.int .i64 3,.slice ar nr cr,.slice (some ⟨g,0,none⟩) na ca,vv] 179):=by rw[Below.heap_alloc _ _ _ hbp];exact hh
   have hne:g≠w.heap.size:=by omega
   have Qgq:(w.alloc (.cells #[.int .i64 k,.string t,.int .i64 p,.int .i64 r] 191)).cell? ⟨g,(na - 1)*2+1,none⟩=some (.slice at' m cm):=cell_later ((Below.refl w.heap.size w).alloc zl _) hcg;clear hh hcg;go_enter Tryz.func196,Tryz.ntmps196
   go_wp2_with (go_at_call 232;refine (qls _ _ _ _ _ _ _ h1n hb _ hh').mono ?_;rintro e w' ⟨rfl,q,rfl⟩)
   go_ret;exact⟨qak (by rw[Bool.eq_iff_iff];simp[qv];omega),_,rfl⟩
  ·have h3':(st == 3)=false:=by simp[h3]
   clear qln hh;go_enter Tryz.func196,Tryz.ntmps196;go_wp2
   all_goals
    go_ret;exact⟨qak (by rw[Bool.eq_iff_iff];simp_all [qv] <;> omega),0,rfl⟩
theorem qe4{v:Vq}(h:W.ownsRow b 9 1 v vs.length (vs.map Value.string))(hl:vs.length<=1000)(x:ByteArray) :
  Calls Tryz.prog 140 #[v,.string x] W λe w'=>e=.returned (.bool (Lib.containsS vs x))/\w'=W:=by
 obtain⟨_,⟨hv,hn⟩ | ⟨g,cap,cur,hv,hb,hw,h1,h2,h3,h4⟩⟩:=h
 ·have:vs=[]:=List.eq_nil_of_length_eq_zero hn;subst this;rw[hv];exact Tryz.slices_Contains_string_empty none 0 x W
 ·rw[hv]
  have:=Tryz.slices_Contains_string g 0 vs.length cap vs x W zl (by omega) (λj hj=>by
   simp only[World.cell?,hw,Nat.zero_add]
   have h5:(cur.toList.take (vs.length*1))[j]?=some (.string (vs.getD j ByteArray.empty)):=by
    rw[h4];simp[List.getElem?_eq_getElem hj]
   rw[List.getElem?_take,if_pos (by omega)] at h5
   simpa using h5)
  simpa using this
theorem q0j{v:Vq}(h:W.ownsRow b 9 1 v vs.length (vs.map Value.string))(hl:vs.length<=1000)(x:ByteArray) :
  Calls Tryz.prog 191 #[v,.string x] W λe w'=>e=.returned (.int .i64 (Lib.idxOfS vs x))/\w'=W:=by
 obtain⟨_,⟨hv,hn⟩ | ⟨g,cap,cur,hv,hb,hw,h1,h2,h3,h4⟩⟩:=h
 ·have:vs=[]:=List.eq_nil_of_length_eq_zero hn;subst this;rw[hv];exact Tryz.slices_Index_string_empty none 0 x W
 ·rw[hv]
  have:=Tryz.slices_Index_string g 0 vs.length cap vs x W zl (by omega) (λj hj=>by
   simp only[World.cell?,hw,Nat.zero_add]
   have h5:(cur.toList.take (vs.length*1))[j]?=some (.string (vs.getD j ByteArray.empty)):=by
    rw[h4];simp[List.getElem?_eq_getElem hj]
   rw[List.getElem?_take,if_pos (by omega)] at h5
   simpa using h5)
  simpa using this
theorem Tryz.info9:(Tryz.prog.info? 9).map (λi=>(i.zero,i.size,i.bytes))=some (some (.string ⟨#[]⟩),1,16):=by kernel_rfl
structure Chg(w w':Wq)(ex:Nat->Prop):Prop where
 os:w'.os=w.os
 tape:w'.tape=w.tape
 output:w'.output=w.output
 size:w.heap.size<=w'.heap.size
 block:∀k,k < w.heap.size->¬ex k->w'.heap[k]?=w.heap[k]?
theorem Chg.refl(w:Wq)(ex:Nat->Prop):Chg w w ex:=⟨rfl,rfl,rfl,Nat.le_refl _,λ_ _ _=>rfl⟩
theorem Chg.trans{b c:Wq}(h:Chg a b ex)(k:Chg b c ex):Chg a c ex:=
 ⟨k.os.trans h.os,k.tape.trans h.tape,k.output.trans h.output,Nat.le_trans h.size k.size,λi hi hx=>(k.block i (Nat.lt_of_lt_of_le hi h.size) hx).trans (h.block i hi hx)⟩
theorem Chg.mono{b:Wq}{ex':Nat->Prop}(h:Chg a b ex)(hx:∀k,k < a.heap.size->ex k->ex' k):Chg a b ex':=
 ⟨h.os,h.tape,h.output,h.size,λi hi hn=>h.block i hi (λe=>hn (hx i hi e))⟩
theorem Chg.drew{b:Wq}(h:Chg a b ex):Chg a b.drew ex:=⟨h.os,h.tape,h.output,h.size,h.block⟩
theorem Chg.alloc{b:Wq}(h:Chg a b ex)(o:Obj):Chg a (b.alloc o) ex:=
 ⟨h.os,h.tape,h.output,by have:=h.size;simp;omega,λi hi hn=>(Below.heap_alloc b o i (Nat.lt_of_lt_of_le hi h.size)).trans (h.block i hi hn)⟩
theorem Chg.setCell{b:Wq}(h:Chg a b ex)(p:Addr)(v:Vq)(hp:p.block < a.heap.size->ex p.block):Chg a (b.setCell p v) ex:=
 ⟨h.os,h.tape,h.output,by have:=h.size;have e:(b.setCell p v).heap.size=b.heap.size:=(by simp);omega,λi hi hn=>(Below.heap_setCell b p v i (λe=>hn (by rw[e] at hi ⊢;exact hp hi))).trans (h.block i hi hn)⟩
theorem Chg.grown{b c:Wq}{row:Option Nat}(h:Chg a b ex)(hg:b.grownBy c row)(hr:∀k,row=some k->k < a.heap.size->ex k):Chg a c ex:=
 ⟨hg.os.trans h.os,hg.tape.trans h.tape,hg.output.trans h.output,Nat.le_trans h.size hg.size,
  λi hi hn=>(hg.block i (Nat.lt_of_lt_of_le hi h.size) (λe=>hn (hr i e.symm hi))).trans (h.block i hi hn)⟩
theorem Chg.below{b:Wq}{B:Nat}(h:Chg a b ex)(hB:B<=a.heap.size)(hx:∀k,ex k->B<=k):Below B a b:=
 ⟨h.os,h.tape,h.output,h.size,λk hk=>h.block k (Nat.lt_of_lt_of_le hk hB) (λe=>by have:=hx k e;omega)⟩
theorem Chg.ofBelow{b:Wq}(ex:Nat->Prop)(h:Below a.heap.size a b):Chg a b ex:=⟨h.os,h.tape,h.output,h.size,λk hk _=>h.block k hk⟩
theorem Tryz.info45:(Tryz.prog.info? 92).map (λi=>(i.zero,i.size,i.bytes))=some (some (.agg #[.string ⟨#[]⟩,.slice none 0 0]),2,40):=by kernel_rfl
theorem Tryz.info87:(Tryz.prog.info? 166).map (λi=>(i.zero,i.size,i.bytes))=some (some (.agg #[.string ⟨#[]⟩,.int .i64 0]),2,24):=by kernel_rfl
theorem Tryz.info48:(Tryz.prog.info? 136).map (λi=>(i.zero,i.size,i.bytes))=some (some (.agg #[.string ⟨#[]⟩,.slice none 0 0,.slice none 0 0]),3,64):=by kernel_rfl
theorem Qi{w:Wq}{c:Array Vq}{t:TypeId}{fz:Nat×Nat}(h:w.heap[b]?=some (Obj.cells c t fz))(o:Nat)(v:Vq):(w.setCell ⟨b,o,none⟩ v).heap[b]?=some (Obj.cells (c.setIfInBounds o v) t fz):=by
 simp[World.setCell,Array.getElem?_modify,h]
theorem Qj{w:Wq}{n:Nat}{v:Vq}(h:w.ownsRow b e size v n xs){k:Nat}{c:Array Vq}{u:TypeId}{fz:Nat×Nat}(hk:w.heap[k]?=some (Obj.cells c u fz))(hne:u≠e):∀g,v.ownBlock=some g->g≠k:=by
 intro g hg e';obtain⟨_,⟨hv,hn⟩ | ⟨g',cap,cur,hv,_,hw,_⟩⟩:=h
 ·rw[hv] at hg;simp[Value.ownBlock] at hg
 ·rw[hv] at hg;simp[Value.ownBlock] at hg;rw[hg,e',hk] at hw;simp at hw;exact hne hw.2.1
theorem Qn{w:Wq}{n:Nat}{v:Vq}(h:w.ownsRow b e size v n xs)(a:Addr)(u:Vq)(hne:∀g,v.ownBlock=some g->g≠a.block):(w.setCell a u).ownsRow b e size v n xs:=
 q8 h (λg c hg hc=>(Below.heap_setCell w a u g (hne g hg)).trans hc)
theorem q58{w w1:Wq}{bp n:Nat}{st':Int}{C Z:Array Vq}{v':Vq}{j:Nat}(he:179≠e)(hx:ex bp)(hh:w1.heap[bp]?=some (Obj.cells C 179))(hz:(C.setIfInBounds j v').setIfInBounds 0 (.int .i64 st')=Z)(ho:w1.ownsRow b e size v' n xs)(hc:Chg w w1 ex) :
  ((w1.setCell ⟨bp,j,none⟩ v').setCell ⟨bp,0,none⟩ (.int .i64 st')).heap[bp]?=some (Obj.cells Z 179)/\
  ((w1.setCell ⟨bp,j,none⟩ v').setCell ⟨bp,0,none⟩ (.int .i64 st')).ownsRow b e size v' n xs/\Chg w ((w1.setCell ⟨bp,j,none⟩ v').setCell ⟨bp,0,none⟩ (.int .i64 st')) ex:=by
 refine⟨by rw[<- hz];exact Qi (Qi hh j v') 0 _,?_,(hc.setCell _ _ (λ_=>hx)).setCell _ _ (λ_=>hx)⟩;exact Qn (Qn ho _ _ (Qj ho hh he)) _ _ (Qj ho hh he)
theorem qre(s:ByteArray)(w:Wq)(hs:s.size<=1000000) :
  Calls Tryz.prog 97 #[.string s] w λe w'=>e=.returned (.string s)/\Below w.heap.size w w':=by
 have h:=λW=>Tryz.stringslite_Clone s W (by omega);go_enter Tryz.func97,Tryz.ntmps97
 go_wp2_with (go_at_call 162;refine (h _).mono ?_;rintro e w' ⟨rfl,hb⟩)
 go_ret;exact⟨rfl,hb⟩
theorem qsj(bp:Nat)(st:Int)(vr va vv:Vq)(n b45:Nat)(xs:List Vq)(k:Int)(t:ByteArray)(p r:Int)(hst:st≠3)(hn:n<=1000)(ht:t.size<=1000000)(w:Wq)(hb45:b45<=w.heap.size)(hh:w.heap[bp]?=some (Obj.cells #[.int .i64 st,vr,va,vv] 179))(qr:w.ownsRow b45 92 2 va n xs) :
  Calls Tryz.prog 233 #[.pointer (some ⟨bp,0,none⟩),qbk k t p r] w λe w'=>e=.returned (.tuple #[])/\
   ∃v',w'.heap[bp]?=some (Obj.cells #[.int .i64 2,vr,v',vv] 179)/\w'.ownsRow b45 92 2 v' (n+1) (xs++[.string t,.slice none 0 0])/\Chg w w' (λj=>j=bp\/some j=va.ownBlock):=by
 have hbp:bp < w.heap.size:=(zg hh).1;have h0:w.cell? ⟨bp,0,none⟩=some (.int .i64 st):=by simp[World.cell?,hh]
 have h2:w.cell? ⟨bp,2,none⟩=some va:=by simp[World.cell?,hh]
 have qfr:(st == 3)=false:=by simp[hst]
 obtain⟨i0,hi,hz0,hz1,hz2⟩:=info_parts Tryz.info45;unfold qbk qec
 obtain⟨a,c,rfl⟩:∃a c,va=.slice a n c:=by
  obtain⟨_,⟨hv,hn⟩ | ⟨g,cap,cur,hv,_⟩⟩:=qr
  ·exact⟨none,0,by rw[hv,hn]⟩
  ·exact⟨_,_,hv⟩
 have q9d:∀g,(Value.slice a n c).ownBlock=some g->g≠bp:=Qj qr hh (by decide);obtain⟨W0,hW0⟩:∃W0,(w.alloc (.cells #[.int .i64 k,.string t,.int .i64 p,.int .i64 r] 191)).drew=W0:=⟨_,rfl⟩;have hb0:Below w.heap.size w W0:=by rw[<- hW0];exact ((Below.refl _ w).alloc zl _).drew
 have hs0:W0.heap.size=w.heap.size+1:=by rw[<- hW0];show (w.alloc _).heap.size=_;simp
 have hcl:Hid (∀W,Calls Tryz.prog 97 #[.string t] W λe w'=>e=.returned (.string t)/\Below W.heap.size W w'):=λW=>qre t W ht
 have hS:Hid (∀W1,Below W0.heap.size W0 W1->W1.cell? ⟨bp,0,none⟩=some (.int .i64 st)/\W1.cell? ⟨bp,2,none⟩=some (.slice a n c)/\W1.heap.size≠bp/\W1.ownsRow b45 92 2 (.slice a n c) n xs/\b45<=W1.heap.size):=by
  intro W1 h1;have hb:Below w.heap.size w W1:=hb0.trans (h1.mono (by omega));have hsz:=hb.size;exact⟨(hb.cell (p:=⟨bp,0,none⟩) hbp).trans h0,(hb.cell (p:=⟨bp,2,none⟩) hbp).trans h2,by omega,qk qr hb,by omega⟩
 have hG:Hid (∀W1 O w1,Below W0.heap.size W0 W1->(W1.alloc O).grownBy w1 (Value.slice a n c).ownBlock->
   w1.heap[bp]?=some (Obj.cells #[.int .i64 st,vr,.slice a n c,vv] 179)/\Chg w w1 (λj=>j=bp\/some j=(Value.slice a n c).ownBlock)):=by
  intro W1 O w1 h1 hg;have hb:Below w.heap.size w W1:=hb0.trans (h1.mono (by omega));have hc:Chg w w1 (λj=>some j=(Value.slice a n c).ownBlock):=((Chg.ofBelow _ hb).alloc _).grown hg (λk e _=>e.symm);exact⟨(hc.block bp hbp (λe=>q9d bp e.symm rfl)).trans hh,hc.mono (λ_ _ e=>.inr e)⟩
 have h1c:∀u∈[Value.string t,.slice none 0 0],u.oneCell'=true:=by simp[Value.oneCell']
 have hb1:n+1<=maxLen:=by unfold maxLen;omega
 have hb2:(n+1)*40<=140737488355328:=by omega
 obtain⟨z0,z2,zne,_,_⟩:=hS.out W0 (Below.refl _ _);have zne2:=zne.symm;have zt:W0.cell? ⟨w.heap.size,1,none⟩=some (.string t):=by rw[<- hW0];simp
 clear hh hb0 hs0 qr;go_enter Tryz.func233,Tryz.ntmps233;go_wp2
 go_region_law (first | (refine qbw rfl (.tmp 31) (.tmp 36) 134 rfl b45 92 i0 (.agg #[.string ⟨#[]⟩,.slice none 0 0]) 2 40 Tryz.underlying134 hi hz0 hz1 hz2 rfl (by decide) (.slice a n c) n xs (by simp[Act.eval,Act.put]) (World.ownsRow.alloc (hS.out W1 hbW).2.2.2.1 _) ⟨W1.heap.size,0,none⟩ 1 1 [.string t,.slice none 0 0] (by simp[Act.eval,Act.put]) rfl (cell_two_new W1 (.string t) (.slice none 0 0) 92) h1c hb1 hb2 (by have:=(hS.out W1 hbW).2.2.2.2;simp;omega) ?_;intro v' w1 hown1 hgrow1;obtain⟨g',cap',hv'⟩:=ownsRow_succ hown1;subst hv';obtain⟨hhw,hch⟩:=hG.out W1 _ w1 hbW hgrow1;have c0:w1.cell? ⟨bp,0,none⟩=some (.int .i64 st):=(by simp[World.cell?,hhw]);have c2:w1.cell? ⟨bp,2,none⟩=some (.slice a n c):=(by simp[World.cell?,hhw]);have f0:w1.frozen? ⟨bp,0,none⟩=false:=(by simp[World.frozen?,hhw]);have f2:w1.frozen? ⟨bp,2,none⟩=false:=(by simp[World.frozen?,hhw])) | (go_simp;go_wp2_with (go_at_call 97;refine (hcl.out _).mono ?_;rintro e W1 ⟨rfl,hbW⟩;obtain⟨k0,k2,kne,_,_⟩:=hS.out W1 hbW;have kne2:=kne.symm;have ka2:∀O,(W1.alloc O).cell? ⟨bp,2,none⟩=some (.slice a n c):=λO=>cell_later ((Below.refl W1.heap.size W1).alloc zl O) k2)))
 all_goals
  go_wp2
  go_end0
  exact⟨rfl,.slice (some ⟨g',0,none⟩) (n+1) cap',q58 (Z:=#[.int .i64 2,vr,.slice (some ⟨g',0,none⟩) (n+1) cap',vv]) (by decide) (.inl rfl) hhw rfl hown1 hch⟩
theorem qp1{n:Nat}{v:Vq}(h:W.ownsRow b e 2 v n (ys++[x,y]))(hn:1<=n) :
  ∃g c cur,v=.slice (some ⟨g,0,none⟩) n c/\W.heap[g]?=some (Obj.cells cur e (0,0))/\b<=g/\(n - 1)*2+1 < cur.size/\cur[(n - 1)*2+1]?=some y/\cur.toList.take (n*2)=ys++[x,y]/\ys.length=(n - 1)*2:=by
 obtain⟨hl,⟨_,h0⟩ | ⟨g,cap,cur,hv,hb,hw,h1,h2,h3,h4⟩⟩:=h
 ·omega
 ·simp at hl;have hlt:(n - 1)*2+1 < cur.size:=by rw[h3];omega
  refine⟨g,cap,cur,hv,hw,hb,hlt,?_,h4,by omega⟩
  have:(cur.toList.take (n*2))[(n - 1)*2+1]?=some y:=by
   rw[h4,List.getElem?_append_right (by omega)];rw[show (n - 1)*2+1 - ys.length=1 by omega];rfl
  rw[List.getElem?_take] at this;split at this
  ·simpa using this
  ·cases this
theorem qtk{n:Nat}{v:Vq}{z:Vq}(h:W.ownsRow b e 2 v n (ys++[x,y]))(hn:1<=n){g:Nat}(hg:v.ownBlock=some g) :
  (W.setCell ⟨g,(n - 1)*2+1,none⟩ z).ownsRow b e 2 v n (ys++[x,z]):=by
 obtain⟨g',c,cur,hv,hw,hb,hlt,hy,ht,hl⟩:=qp1 h hn;rw[hv] at hg;simp[Value.ownBlock] at hg;subst hg;obtain⟨h0,⟨hv',_⟩ | ⟨g2,cap2,cur2,hv2,hb2,hw2,h1,h2,h3,h4⟩⟩:=h
 ·rw[hv] at hv';cases hv'
 ·rw[hv] at hv2;cases hv2;rw[hw] at hw2;cases hw2;refine⟨by simpa using h0,.inr ⟨g',c,cur.setIfInBounds ((n - 1)*2+1) z,hv,hb,Qi hw _ _,h1,h2,by simpa using h3,?_⟩⟩;rw[Array.toList_setIfInBounds,List.take_set,ht];rw[List.set_append_right _ _ (by omega),show (n - 1)*2+1 - ys.length=1 by omega];rfl
