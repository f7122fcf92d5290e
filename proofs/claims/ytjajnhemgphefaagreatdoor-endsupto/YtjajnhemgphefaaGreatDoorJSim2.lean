/- The parser against the document's own answer: the first -/
import Derived.Test.YtjajnhemgphefaaGreatDoorJChg
import Derived.Test.YtjajnhemgphefaaGreatDoorJMdB
set_option linter.unusedVariables false
set_option linter.unusedSimpArgs false
namespace Go.Proofs.YtjajnhemgphefaaGreatDoor
open Go renaming World->Wq,Value->Vq
variable {s:PSt} {k r:Int} {t:ByteArray} {x:Tok}
theorem qjp(h:(qaf s k t r).1=0):Qe s.st k=true/\qv s.st r s.rules.length s.atoms.length (Qf s.atoms)=false/\(qaf s k t r).2=qau s k t:=by
 unfold qaf at h ⊢;by_cases hf:Qe s.st k=false
 ·rw[if_pos hf] at h;simp at h
 ·rw[if_neg hf] at h ⊢;by_cases he:qv s.st r s.rules.length s.atoms.length (Qf s.atoms)=true
  ·rw[if_pos he] at h;simp at h
  ·rw[if_neg he];exact⟨by simpa using hf,by simpa using he,rfl⟩
theorem qdw{sF:PSt}{l:List Tok}(h:Q0 s (x::l)=(sF,none)):(qaf s x.kind x.text x.runes).1=0/\Q0 (qau s x.kind x.text) l=(sF,none):=by
 unfold Q0 at h;by_cases h0:(qaf s x.kind x.text x.runes).1=0
 ·rw[if_pos h0,(qjp h0).2.2] at h;exact⟨h0,h⟩
 ·rw[if_neg h0] at h;simp at h
theorem t3(hs:s.st=3)(h:(qaf s k t r).1=0):(k=1\/k=2)/\qau s k t={s with st:=4,atoms:=qcl s.atoms (qca s.vars k t),vars:=qbi s.vars k t}:=by
 have hf:=(qjp h).1;have hk:k=1\/k=2:=by unfold Qe at hf;simp[hs] at hf;exact hf
 exact⟨hk,by unfold qau qby;rw[if_pos hk,if_pos hs]⟩
theorem t4(hs:s.st=4)(h:(qaf s k t r).1=0):(k=5/\qau s k t={s with st:=3})\/(k=4/\qau s k t=qdm s):=by
 have hf:=(qjp h).1;have hk:k=5\/k=4:=by unfold Qe at hf;simp[hs] at hf;exact hf
 rcases hk with rfl | rfl
 ·left;exact⟨rfl,by unfold qau;simp[hs]⟩
 ·right;exact⟨rfl,by unfold qau;simp⟩
theorem t2(hs:s.st=2)(h:(qaf s k t r).1=0):k=3/\qau s k t={s with st:=3}:=by
 have hf:=(qjp h).1;have hk:k=3:=by unfold Qe at hf;simp[hs] at hf;exact hf
 subst hk;exact⟨rfl,by unfold qau;simp⟩
theorem t01(hs:s.st=0\/s.st=1)(h:(qaf s k t r).1=0):k=1/\qau s k t={s with st:=2,atoms:=s.atoms++[⟨t,[]⟩]}:=by
 have hf:=(qjp h).1;have hk:k=1:=by unfold Qe at hf;rw[if_pos hs] at hf;simpa using hf
 subst hk;exact⟨rfl,by unfold qau qby;rw[if_pos (.inl rfl),if_neg (by omega)]⟩
theorem t56(hs:s.st=5\/s.st=6)(h:(qaf s k t r).1=0):(k=6/\qau s k t=qav s)\/((k=5\/k=7)/\qau s k t={s with st:=1}):=by
 have hf:=(qjp h).1;rcases hs with hs | hs
 ·have hk:k=7\/k=6:=by unfold Qe at hf;simp[hs] at hf;exact hf
  rcases hk with rfl | rfl
  ·right;exact⟨.inr rfl,by unfold qau;simp⟩
  ·left;exact⟨rfl,by unfold qau;simp⟩
 ·have hk:k=5\/k=6:=by unfold Qe at hf;simp[hs] at hf;exact hf
  rcases hk with rfl | rfl
  ·right;exact⟨.inl rfl,by unfold qau;simp[hs]⟩
  ·left;exact⟨rfl,by unfold qau;simp⟩
theorem qmd(vs:List ByteArray)(x:Tok)(h:x.kind=1\/x.kind=2):qf2 vs (Qo x)=qca vs x.kind x.text/\qdl vs (Qo x)=qbi vs x.kind x.text:=by
 unfold qf2 qdl qca qbi Qo;rcases h with h | h <;> simp[h,qc6]
def qyp(n:Nat):Int:=if n=1 then 5 else 6
theorem qme(E:RT):∀(n:Nat) (ts:List Tok) (s sF:PSt) (p:List Am) (a:Am),ts.length<=n->s.st=3->s.atoms=p++[a]->Q0 s ts=(sF,none)->sF.st=0->
  ∃L vsF k,qab s.vars (ts.map Qo++[E])=some (L,vsF,k)/\k<=ts.length/\2<=k/\Q0 {s with st:=qyp (p.length+1),atoms:=p++[{a with args:=a.args++L}],vars:=vsF} (ts.drop k)=(sF,none)
 | n,[],s,sF,p,a,hn,hs,ha,h,hF=>by simp[Q0] at h;subst h;omega
 | n,[x],s,sF,p,a,hn,hs,ha,h,hF=>by
  obtain⟨h1,h2⟩:=qdw h;obtain⟨hk,he⟩:=t3 hs h1;rw[he] at h2;simp[Q0] at h2;subst h2;simp at hF
 | 0,x::y::us,s,sF,p,a,hn,hs,ha,h,hF=>by simp at hn
 | n+1,x::y::us,s,sF,p,a,hn,hs,ha,h,hF=>by
  obtain⟨h1,h2⟩:=qdw h;obtain⟨hk,he⟩:=t3 hs h1;rw[he,ha,qfn] at h2;obtain⟨e1,e2⟩:=qmd s.vars x hk;obtain⟨h3,h4⟩:=qdw h2;rcases t4 rfl h3 with⟨hy,he2⟩ | ⟨hy,he2⟩
  ·rw[he2] at h4;obtain⟨L,vsF,k,q1,q2,q3,q4⟩:=qme E n us {s with st:=3,atoms:=p++[{a with args:=a.args++[qca s.vars x.kind x.text]}],vars:=qbi s.vars x.kind x.text} sF p {a with args:=a.args++[qca s.vars x.kind x.text]} (by simp at hn;omega) rfl rfl h4 hF;refine⟨qca s.vars x.kind x.text::L,vsF,k+2,?_,by simp;omega,by omega,?_⟩
   ·simp only[List.map_cons,List.cons_append];unfold qab;have hb:(Qo y).kind≠41:=by show qc6 y.kind≠41;rw[hy];decide
    rw[if_neg hb,e1,e2,q1]
   ·simp only[List.drop_succ_cons];simpa using q4
  ·rw[he2] at h4;refine⟨[qca s.vars x.kind x.text],qbi s.vars x.kind x.text,2,?_,by simp,by omega,?_⟩
   ·simp only[List.map_cons,List.cons_append];unfold qab;have hb:(Qo y).kind=41:=by unfold Qo;rw[hy];rfl
    rw[if_pos hb,e1,e2]
   ·simp only[List.drop_succ_cons,List.drop_zero];simpa [qdm,qyp] using h4
theorem qjq(h:x.kind=1):(Qo x).text=x.text:=by unfold Qo;simp[h]
theorem qq9(E:RT):∀(f:Nat) (ts:List Tok) (s sF:PSt) (a:Am) (l:List Am),ts.length < f->(s.st=5\/s.st=6)->s.atoms=a::l->Q0 s ts=(sF,none)->sF.st=0->
  ∃bs m,qd5 f s.vars (ts.map Qo++[E])=some (bs,m)/\m < ts.length/\Q0 ⟨0,s.rules++[⟨a,l++bs⟩],[],[]⟩ (ts.drop (m+1))=(sF,none)
 | 0,ts,s,sF,a,l,hn,_,_,_,_=>by omega
 | f+1,[],s,sF,a,l,hn,hs,ha,h,hF=>by simp[Q0] at h;subst h;omega
 | f+1,x::us,s,sF,a,l,hn,hs,ha,h,hF=>by
  obtain⟨h1,h2⟩:=qdw h;rcases t56 hs h1 with⟨hk,he⟩ | ⟨hk,he⟩
  ·rw[he] at h2;have her:qav s=⟨0,s.rules++[⟨a,l⟩],[],[]⟩:=by unfold qav;rw[ha]
   rw[her] at h2;refine⟨[],0,?_,by simp,by simpa using h2⟩;simp only[List.map_cons,List.cons_append];unfold qd5;have hb:(Qo x).kind=46:=by unfold Qo;rw[hk];rfl
   simp only[if_pos hb]
  ·rw[he] at h2;have hb:(Qo x).kind≠46:=by show qc6 x.kind≠46;rcases hk with hk | hk <;> rw[hk] <;> decide
   cases us with
   | nil=>simp[Q0] at h2;subst h2;simp at hF
   | cons r us=>
    obtain⟨h3,h4⟩:=qdw h2;obtain⟨hkr,he3⟩:=t01 (.inr rfl) h3;rw[he3] at h4
    cases us with
    | nil=>simp[Q0] at h4;subst h4;simp at hF
    | cons o us=>
     obtain⟨h5,h6⟩:=qdw h4;obtain⟨hko,he5⟩:=t2 rfl h5;rw[he5] at h6;simp only at h6;obtain⟨L,vsF,k,q1,q2,q3,q4⟩:=qme E us.length us _ sF s.atoms ⟨r.text,[]⟩ zl rfl rfl h6 hF;simp only[List.nil_append] at q4;have qne:1<=s.atoms.length:=by rw[ha];simp
     have qg7:qyp (s.atoms.length+1)=6:=by unfold qyp;rw[if_neg (by omega)]
     rw[qg7] at q4;obtain⟨bs,m,p1,p2,p3⟩:=qq9 E f (us.drop k) _ sF a (l++[⟨r.text,L⟩]) (by simp at hn ⊢;omega) (.inr rfl) (by simp[ha]) q4 hF;refine⟨⟨r.text,L⟩::bs,3+k+m,?_,?_,?_⟩
     ·simp only[List.map_cons,List.cons_append];unfold qd5;simp only[if_neg hb,q1]
      have hd:(us.map Qo++[E]).drop k=(us.drop k).map Qo++[E]:=by
       rw[List.drop_append_of_le_length (by simpa using q2),List.map_drop]
      rw[hd,p1,qjq hkr]
     ·simp at p2 ⊢;omega
     ·have e:3+k+m+1=(k+(m+1))+1+1+1:=by omega
      rw[e];simp only[List.drop_succ_cons];rw[<- List.drop_drop];simpa using p3
theorem qp4(E:RT)(hE:E.kind=4):∀(f:Nat) (ts:List Tok) (s sF:PSt),ts.length < f->s.st=0->s.atoms=[]->s.vars=[]->Q0 s ts=(sF,none)->sF.st=0->
  ∃rs,qef f (ts.map Qo++[E])=some rs/\sF.rules=s.rules++rs
 | 0,ts,s,sF,hn,_,_,_,_,_=>by omega
 | f+1,[],s,sF,hn,hs,ha,hv,h,hF=>by
  simp[Q0] at h;subst h;exact⟨[],by simp[qef,hE],by simp⟩
 | f+1,x::us,s,sF,hn,hs,ha,hv,h,hF=>by
  obtain⟨h1,h2⟩:=qdw h;obtain⟨hk,he⟩:=t01 (.inl hs) h1;rw[he,ha] at h2;have hk4:(Qo x).kind≠4:=by show qc6 x.kind≠4;rw[hk];decide
  cases us with
  | nil=>simp[Q0] at h2;subst h2;simp at hF
  | cons o us=>
   obtain⟨h3,h4⟩:=qdw h2;obtain⟨hko,he3⟩:=t2 rfl h3;rw[he3] at h4;obtain⟨L,vsF,k,q1,q2,q3,q4⟩:=qme E us.length us _ sF [] ⟨x.text,[]⟩ zl rfl rfl h4 hF;simp only[hv] at q1;simp only[List.nil_append,List.length_nil] at q4;obtain⟨bs,m,p1,p2,p3⟩:=qq9 E (us.map Qo++[E]).length (us.drop k) _ sF ⟨x.text,L⟩ [] (by simp;omega) (.inl rfl) rfl q4 hF;obtain⟨rs,r1,r2⟩:=qp4 E hE f ((us.drop k).drop (m+1)) _ sF (by simp at hn ⊢;omega) rfl rfl rfl p3 hF;refine⟨⟨⟨x.text,L⟩,bs⟩::rs,?_,by simpa using r2⟩;simp only[List.map_cons,List.cons_append];unfold qef
   have hd:(us.map Qo++[E]).drop k=(us.drop k).map Qo++[E]:=by
    rw[List.drop_append_of_le_length (by simpa using q2),List.map_drop]
   have hd2:((us.drop k).map Qo++[E]).drop (m+1)=((us.drop k).drop (m+1)).map Qo++[E]:=by
    rw[List.drop_append_of_le_length (by simp at p2 ⊢;omega)];simp[List.map_drop]
   simp only[if_neg hk4,q1,hd,p1,hd2,r1,qjq hk]
structure qyh(s:PSt)(l:Lk):Prop where
 e:l.e=0
 alone:l.alone=false
 want:l.want=if s.st=6 then 5 else s.st
 lo:0<=s.st
 hi:s.st<=6
 rules:l.rules=s.rules.length+if s.st=0 then 0 else 1
 body:s.st≠0->s.st≠1->(l.body=false↔s.atoms.length=1)
 atoms:s.st≠0->l.body=true->s.atoms.length=l.atoms+1
 one:s.st=1->l.body=true
 args:s.st=3\/s.st=4->l.args=Qf s.atoms
 fresh:s.st=2->Qf s.atoms=0
 five:s.st=5->s.atoms.length=1
 six:s.st=6->s.atoms.length≠1
theorem qiz(k:Int):qc6 k=1↔k=1:=by
 unfold qc6;repeat' split
 all_goals omega
theorem qxs(k:Int):qc6 k=2↔k=2:=by
 unfold qc6;repeat' split
 all_goals omega
theorem qxt(k:Int):qc6 k=3↔k=7:=by
 unfold qc6;repeat' split
 all_goals omega
theorem qtb(k:Int):qc6 k=40↔k=3:=by
 unfold qc6;repeat' split
 all_goals omega
theorem qjh(k:Int):qc6 k=41↔k=4:=by
 unfold qc6;repeat' split
 all_goals omega
theorem qhs(k:Int):qc6 k=44↔k=5:=by
 unfold qc6;repeat' split
 all_goals omega
theorem qji(k:Int):qc6 k=46↔k=6:=by
 unfold qc6;repeat' split
 all_goals omega
theorem q39(k:Int):qc6 k≠4:=by
 unfold qc6;repeat' split
 all_goals omega
theorem qb9(h:Qe s.st k=false):qaf s k t r=(2,s):=by unfold qaf;rw[if_pos h]
theorem qfy(h:Qe s.st k=true)(h2:qv s.st r s.rules.length s.atoms.length (Qf s.atoms)=true):qaf s k t r=(3,s):=by unfold qaf;rw[h,h2];rfl
theorem qbp(h:Qe s.st k=true)(h2:qv s.st r s.rules.length s.atoms.length (Qf s.atoms)=false):qaf s k t r=(0,qau s k t):=by unfold qaf;rw[h,h2];rfl
def qc5(x:Tok):Prop:=x.kind=1\/x.kind=2\/x.runes<=2
theorem q45(s:PSt)(l:Lk)(x:Tok)(h:qyh s l)(hI:ql9 s)(hx:qc5 x) :
  (qx l (Qo x)).e=(qaf s x.kind x.text x.runes).1/\((qaf s x.kind x.text x.runes).1=0->qyh (qaf s x.kind x.text x.runes).2 (qx l (Qo x))):=by
 obtain⟨h1,h2,h3,h4,h5,h6,h7,h8,h9,h10,h11,Qb6,q9z⟩:=h;obtain⟨i1,i2,i3,i4,i5,i6,i7,i8⟩:=hI;have hkk:(Qo x).kind=qc6 x.kind:=rfl;have hrr:(Qo x).runes=x.runes:=rfl;have qo2:s.st=0\/s.st=1\/s.st=2\/s.st=3\/s.st=4\/s.st=5\/s.st=6:=by omega
 rcases qo2 with hs | hs | hs | hs | hs | hs | hs
 ·-- a rule may begin
  have hw:l.want=0:=by rw[h3,hs];rfl
  have hr:l.rules=s.rules.length:=by rw[h6,hs];simp
  have qa1:qx l (Qo x)=Qq l (Qo x):=by unfold qx;simp[hw]
  rw[qa1];by_cases hk:x.kind=1
  ·have hf:Qe s.st x.kind=true:=by rw[hs,hk];rfl
   have hst:Qq l (Qo x)=if Q1 l=true\/8 < x.runes then {Qz l with e:=3} else {Qz l with want:=2}:=by
    unfold Qq;rw[if_neg (by rw[hkk];have:=(qiz x.kind).2 hk;omega)];simp[hw,hrr]
   by_cases he:qv s.st x.runes s.rules.length s.atoms.length (Qf s.atoms)=true
   ·have ho:Q1 l=true\/8 < x.runes:=by
     unfold qv at he;unfold Q1;simp[hs] at he;simp[hw];omega
    rw[qfy hf he,hst,if_pos ho];exact⟨rfl,λh=>by simp at h⟩
   ·have he':qv s.st x.runes s.rules.length s.atoms.length (Qf s.atoms)=false:=by simpa using he
    have ho:¬(Q1 l=true\/8 < x.runes):=by
     unfold qv at he';unfold Q1;simp[hs] at he';simp[hw];omega
    rw[qbp hf he',hst,if_neg ho];have qcv:=(t01 (.inl hs) (r:=x.runes) (by rw[qbp hf he']:(qaf s x.kind x.text x.runes).1=0)).2;rw[qcv];have hsl:Qz l={l with rules:=l.rules+1,body:=false}:=by unfold Qz;rw[if_pos hw]
    rw[hsl];refine⟨h1,λ_=>⟨h1,h2,rfl,by simp,by simp,by simp[hr],λ_ _=>by simp[i4 hs],λ_ h=>by simp at h,λh=>by simp at h,λh=>by simp at h,λ_=>by simp[Qf],λh=>by simp at h,λh=>by simp at h⟩⟩
  ·have hf:Qe s.st x.kind=false:=by rw[hs];unfold Qe;simp[hk]
   have hst:Qq l (Qo x)={Qz l with e:=2}:=by
    unfold Qq;rw[if_pos (by rw[hkk,hw];exact⟨λe=>hk ((qiz _).1 e),.inr (by decide)⟩)]
   rw[qb9 hf,hst];exact⟨rfl,λh=>by simp at h⟩
 ·-- an atom of a body
  have hw:l.want=1:=by rw[h3,hs];rfl
  have hr:l.rules=s.rules.length+1:=by rw[h6,hs];simp
  have hb:=h9 hs;have ha:=h8 (by omega) hb;have qa1:qx l (Qo x)=Qq l (Qo x):=by unfold qx;simp[hw]
  rw[qa1];by_cases hk:x.kind=1
  ·have hf:Qe s.st x.kind=true:=by rw[hs,hk];rfl
   have hst:Qq l (Qo x)=if Q1 l=true\/8 < x.runes then {Qz l with e:=3} else {Qz l with want:=2}:=by
    unfold Qq;rw[if_neg (by rw[hkk];have:=(qiz x.kind).2 hk;omega)];simp[hw,hrr]
   by_cases he:qv s.st x.runes s.rules.length s.atoms.length (Qf s.atoms)=true
   ·have ho:Q1 l=true\/8 < x.runes:=by
     unfold qv at he;unfold Q1;simp[hs] at he;simp[hw];omega
    rw[qfy hf he,hst,if_pos ho];exact⟨rfl,λh=>by simp at h⟩
   ·have he':qv s.st x.runes s.rules.length s.atoms.length (Qf s.atoms)=false:=by simpa using he
    have ho:¬(Q1 l=true\/8 < x.runes):=by
     unfold qv at he';unfold Q1;simp[hs] at he';simp[hw];omega
    rw[qbp hf he',hst,if_neg ho];have qcv:=(t01 (.inr hs) (r:=x.runes) (by rw[qbp hf he']:(qaf s x.kind x.text x.runes).1=0)).2;rw[qcv];have hsl:Qz l={l with atoms:=l.atoms+1}:=by unfold Qz;rw[if_neg (by omega),if_pos hw]
    rw[hsl];refine⟨h1,λ_=>⟨h1,h2,rfl,by simp,by simp,by simp[hr],λ_ _=>by simp[hb,i5 (by omega)],λ_ _=>by simp;omega,λh=>by simp at h,λh=>by simp at h,λ_=>by simp[Qf],λh=>by simp at h,λh=>by simp at h⟩⟩
  ·have hf:Qe s.st x.kind=false:=by rw[hs];unfold Qe;simp[hk]
   have hst:Qq l (Qo x)={Qz l with e:=2}:=by
    unfold Qq;rw[if_pos (by rw[hkk,hw];exact⟨λe=>hk ((qiz _).1 e),.inr (by decide)⟩)]
   rw[qb9 hf,hst];exact⟨rfl,λh=>by simp at h⟩
 ·-- a bracket
  have hw:l.want=2:=by rw[h3,hs];rfl
  have hr:l.rules=s.rules.length+1:=by rw[h6,hs];simp
  have qa1:qx l (Qo x)=Q9 l (Qo x):=by unfold qx;simp[hw]
  rw[qa1];by_cases hk:x.kind=3
  ·have hf:Qe s.st x.kind=true:=by rw[hs,hk];rfl
   have he':qv s.st x.runes s.rules.length s.atoms.length (Qf s.atoms)=false:=by
    have:¬(8:Int) < x.runes:=by unfold qc5 at hx;omega
    unfold qv;simp[hs,this]
   rw[qbp hf he'];have qcv:=(t2 hs (r:=x.runes) (by rw[qbp hf he']:(qaf s x.kind x.text x.runes).1=0)).2;rw[qcv];have hn:Q9 l (Qo x)={l with args:=0,want:=3}:=by unfold Q9;rw[if_pos ⟨hw,by rw[hkk,qtb];exact hk⟩]
   rw[hn];have Qe8:=h11 hs;have h7':=h7 (by omega) (by omega);have h8':=h8 (by omega);exact⟨h1,λ_=>⟨h1,h2,rfl,by simp,by simp,by simp[hr],λ_ _=>h7',λ_=>h8',λh=>by simp at h,λ_=>Qe8.symm,λh=>by simp at h,λh=>by simp at h,λh=>by simp at h⟩⟩
  ·have hf:Qe s.st x.kind=false:=by rw[hs];unfold Qe;simp[hk]
   have hn:Q9 l (Qo x)={l with e:=2}:=by
    unfold Q9;simp only[hw,hkk,qtb,hk];simp
   rw[qb9 hf,hn];exact⟨rfl,λh=>by simp at h⟩
 ·-- an argument
  have hw:l.want=3:=by rw[h3,hs];rfl
  have hr:l.rules=s.rules.length+1:=by rw[h6,hs];simp
  have hg:=h10 (.inl hs);have h7':=h7 (by omega) (by omega);have h8':=h8 (by omega);have qa1:qx l (Qo x)=Qq l (Qo x):=by unfold qx;simp[hw]
  obtain⟨p,a,hpa⟩:=qp9 s.atoms (i5 (by omega));have hl2:Qf s.atoms=a.args.length:=by unfold Qf;rw[hpa];simp
  have ha2:=(i3 a (by rw[hpa];simp)).args;rw[qa1];by_cases hk:x.kind=1\/x.kind=2
  ·have hf:Qe s.st x.kind=true:=by rw[hs];unfold Qe;simp[hk]
   have hst:Qq l (Qo x)=if Q1 l=true\/8 < x.runes then {Qz l with e:=3} else {Qz l with want:=4}:=by
    unfold Qq;rw[if_neg (by rw[hkk,hw];have:=qiz x.kind;have:=qxs x.kind;omega)];simp[hw,hrr]
   by_cases he:qv s.st x.runes s.rules.length s.atoms.length (Qf s.atoms)=true
   ·have ho:Q1 l=true\/8 < x.runes:=by
     unfold qv at he;unfold Q1;simp[hs] at he;simp[hw];omega
    rw[qfy hf he,hst,if_pos ho];exact⟨rfl,λh=>by simp at h⟩
   ·have he':qv s.st x.runes s.rules.length s.atoms.length (Qf s.atoms)=false:=by simpa using he
    have ho:¬(Q1 l=true\/8 < x.runes):=by
     unfold qv at he';unfold Q1;simp[hs] at he';simp[hw];omega
    rw[qbp hf he',hst,if_neg ho];have qcv:=(t3 hs (r:=x.runes) (by rw[qbp hf he']:(qaf s x.kind x.text x.runes).1=0)).2;rw[qcv];have hsl:Qz l={l with args:=l.args+1}:=by unfold Qz;rw[if_neg (by omega),if_neg (by omega)]
    rw[hsl];refine⟨h1,λ_=>⟨h1,h2,rfl,by simp,by simp,by simp[hr],λ_ _=>by rw[qh2];exact h7',λ_=>by rw[qh2];exact h8',λh=>by simp at h,λ_=>?_,λh=>by simp at h,λh=>by simp at h,λh=>by simp at h⟩⟩;rw[hpa,qfn];simp[Qf];omega
  ·have hf:Qe s.st x.kind=false:=by rw[hs];unfold Qe;simp;omega
   have hst:Qq l (Qo x)={Qz l with e:=2}:=by
    unfold Qq;rw[if_pos (by rw[hkk,hw];have:=qiz x.kind;have:=qxs x.kind;omega)]
   rw[qb9 hf,hst];exact⟨rfl,λh=>by simp at h⟩
 ·-- behind an argument
  have hw:l.want=4:=by rw[h3,hs];rfl
  have hr:l.rules=s.rules.length+1:=by rw[h6,hs];simp
  have hg:=h10 (.inr hs);have h7':=h7 (by omega) (by omega);have h8':=h8 (by omega);have qa1:qx l (Qo x)=Q9 l (Qo x):=by unfold qx;simp[hw]
  rw[qa1];by_cases hk:x.kind=5\/x.kind=4
  ·have hf:Qe s.st x.kind=true:=by rw[hs];unfold Qe;simp[hk]
   have he':qv s.st x.runes s.rules.length s.atoms.length (Qf s.atoms)=false:=by
    have:¬(8:Int) < x.runes:=by unfold qc5 at hx;omega
    unfold qv;simp[hs,this]
   rw[qbp hf he'];rcases t4 hs (r:=x.runes) (by rw[qbp hf he']:(qaf s x.kind x.text x.runes).1=0) with⟨hk5,qcv⟩ | ⟨hk4,qcv⟩
   ·rw[qcv];have hn:Q9 l (Qo x)={l with want:=3}:=by unfold Q9;simp[hw,hkk,qhs,hk5]
    rw[hn];exact⟨h1,λ_=>⟨h1,h2,rfl,by simp,by simp,by simp[hr],λ_ _=>h7',λ_=>h8',λh=>by simp at h,λ_=>hg,λh=>by simp at h,λh=>by simp at h,λh=>by simp at h⟩⟩
   ·rw[qcv];have hn:Q9 l (Qo x)={l with want:=5}:=by unfold Q9;simp[hw,hkk,qjh,qhs,hk4,h2]
    rw[hn];unfold qdm;by_cases h1l:s.atoms.length=1
    ·simp only[if_pos h1l];exact⟨h1,λ_=>⟨h1,h2,rfl,by simp,by simp,by simp[hr],λ_ _=>h7',λ_=>h8',λh=>by simp at h,λh=>by simp at h,λh=>by simp at h,λ_=>h1l,λh=>by simp at h⟩⟩
    ·simp only[if_neg h1l];exact⟨h1,λ_=>⟨h1,h2,rfl,by simp,by simp,by simp[hr],λ_ _=>h7',λ_=>h8',λh=>by simp at h,λh=>by simp at h,λh=>by simp at h,λh=>by simp at h,λ_=>h1l⟩⟩
  ·have hf:Qe s.st x.kind=false:=by rw[hs];unfold Qe;simp;omega
   have hn:Q9 l (Qo x)={l with e:=2}:=by
    have hk5:¬x.kind=5:=by omega
    have hk4:¬x.kind=4:=by omega
    unfold Q9;simp only[hw,hkk,qhs,qjh,hk5,hk4];simp
   rw[qb9 hf,hn];exact⟨rfl,λh=>by simp at h⟩
 ·-- behind a head
  have hw:l.want=5:=by rw[h3,hs];rfl
  have hr:l.rules=s.rules.length+1:=by rw[h6,hs];simp
  have h7':=h7 (by omega) (by omega);have h8':=h8 (by omega);have qqw:s.atoms.length=1:=Qb6 hs;have hb:l.body=false:=h7'.2 qqw;have qa1:qx l (Qo x)=Q9 l (Qo x):=by unfold qx;simp[hw]
  rw[qa1];by_cases hk:x.kind=7\/x.kind=6
  ·have hf:Qe s.st x.kind=true:=by rw[hs];unfold Qe;simp[hk]
   have he':qv s.st x.runes s.rules.length s.atoms.length (Qf s.atoms)=false:=by
    have:¬(8:Int) < x.runes:=by unfold qc5 at hx;omega
    unfold qv;simp[hs,this]
   rw[qbp hf he'];rcases t56 (.inl hs) (r:=x.runes) (by rw[qbp hf he']:(qaf s x.kind x.text x.runes).1=0) with⟨hk6,qcv⟩ | ⟨hk57,qcv⟩
   ·rw[qcv];have hn:Q9 l (Qo x)={l with want:=0}:=by unfold Q9;simp[hw,hkk,qji,hk6]
    rw[hn];obtain⟨a0,al,hal⟩:∃a0 al,s.atoms=a0::al:=List.exists_cons_of_ne_nil (i5 (by omega));have her:qav s=⟨0,s.rules++[⟨a0,al⟩],[],[]⟩:=by unfold qav;rw[hal]
    rw[her];exact⟨h1,λ_=>⟨h1,h2,rfl,by simp,by simp,by simp[hr],λh=>absurd rfl h,λh=>absurd rfl h,λh=>by simp at h,λh=>by simp at h,λh=>by simp at h,λh=>by simp at h,λh=>by simp at h⟩⟩
   ·rw[qcv];have hk7:x.kind=7:=by omega
    have hn:Q9 l (Qo x)={l with body:=true,atoms:=0,want:=1}:=by unfold Q9;simp[hw,hkk,qji,qhs,qxt,hk7,hb]
    rw[hn];exact⟨h1,λ_=>⟨h1,h2,rfl,by simp,by simp,by simp[hr],λ_ h=>absurd rfl h,λ_ _=>by simpa using qqw,λ_=>rfl,λh=>by simp at h,λh=>by simp at h,λh=>by simp at h,λh=>by simp at h⟩⟩
  ·have hf:Qe s.st x.kind=false:=by rw[hs];unfold Qe;simp;omega
   have hn:Q9 l (Qo x)={l with e:=2}:=by
    have hk6:¬x.kind=6:=by omega
    have hk7:¬x.kind=7:=by omega
    unfold Q9;simp only[hw,hkk,qji,qxt,hk6,hk7,hb];simp
   rw[qb9 hf,hn];exact⟨rfl,λh=>by simp at h⟩
 ·-- behind an atom of a body
  have hw:l.want=5:=by rw[h3,hs];rfl
  have hr:l.rules=s.rules.length+1:=by rw[h6,hs];simp
  have h7':=h7 (by omega) (by omega);have Qco:s.atoms.length≠1:=q9z hs
  have hb:l.body=true:=by
   cases hbb:l.body with
   | true=>rfl
   | false=>exact absurd (h7'.1 hbb) Qco
  have h8':=h8 (by omega) hb;have qa1:qx l (Qo x)=Q9 l (Qo x):=by unfold qx;simp[hw]
  rw[qa1];by_cases hk:x.kind=5\/x.kind=6
  ·have hf:Qe s.st x.kind=true:=by rw[hs];unfold Qe;simp[hk]
   have he':qv s.st x.runes s.rules.length s.atoms.length (Qf s.atoms)=false:=by
    have:¬(8:Int) < x.runes:=by unfold qc5 at hx;omega
    unfold qv;simp[hs,this]
   rw[qbp hf he'];rcases t56 (.inr hs) (r:=x.runes) (by rw[qbp hf he']:(qaf s x.kind x.text x.runes).1=0) with⟨hk6,qcv⟩ | ⟨hk57,qcv⟩
   ·rw[qcv];have hn:Q9 l (Qo x)={l with want:=0}:=by unfold Q9;simp[hw,hkk,qji,hk6]
    rw[hn];obtain⟨a0,al,hal⟩:∃a0 al,s.atoms=a0::al:=List.exists_cons_of_ne_nil (i5 (by omega));have her:qav s=⟨0,s.rules++[⟨a0,al⟩],[],[]⟩:=by unfold qav;rw[hal]
    rw[her];exact⟨h1,λ_=>⟨h1,h2,rfl,by simp,by simp,by simp[hr],λh=>absurd rfl h,λh=>absurd rfl h,λh=>by simp at h,λh=>by simp at h,λh=>by simp at h,λh=>by simp at h,λh=>by simp at h⟩⟩
   ·rw[qcv];have hk5:x.kind=5:=by omega
    have hn:Q9 l (Qo x)={l with want:=1}:=by unfold Q9;simp[hw,hkk,qji,qhs,hk5,hb]
    rw[hn];exact⟨h1,λ_=>⟨h1,h2,rfl,by simp,by simp,by simp[hr],λ_ h=>absurd rfl h,λ_ _=>h8',λ_=>hb,λh=>by simp at h,λh=>by simp at h,λh=>by simp at h,λh=>by simp at h⟩⟩
  ·have hf:Qe s.st x.kind=false:=by rw[hs];unfold Qe;simp;omega
   have hn:Q9 l (Qo x)={l with e:=2}:=by
    have hk6:¬x.kind=6:=by omega
    have hk5:¬x.kind=5:=by omega
    unfold Q9;simp only[hw,hkk,qji,qhs,qxt,hk6,hk5,hb];simp
   rw[qb9 hf,hn];exact⟨rfl,λh=>by simp at h⟩
theorem qvw(E:RT)(hE:E.kind=4):∀(ts:List Tok) (s:PSt) (l:Lk),qyh s l->ql9 s->(∀x∈ts,qc5 x)->
  match Q0 s ts with
  | (_,some ep)=>Qv l (ts.map Qo++[E])=ep/\ep.1≠0
  | (sF,none)=>Qv l (ts.map Qo++[E])=if sF.st=0 then (0,0) else (2,E.place)
 | [],s,l,h,hI,hx=>by
  have hw:=h.want;have h5:=h.hi;have h4:=h.lo;simp only[Q0,List.map_nil,List.nil_append];unfold Qv;by_cases h0:s.st=0
  ·have qfo:qat l E=true:=by unfold qat;simp[hE,hw,h0,h.alone]
   rw[if_pos qfo,if_pos h0]
  ·have hw0:l.want≠0:=by rw[hw];split <;> omega
   have hw6:l.want≠6:=by rw[hw];split <;> omega
   have he:(qx l E).e=2:=by
    unfold qx;split
    ·unfold Qq;rw[if_pos (by rw[hE];exact⟨by decide,.inl (by decide)⟩)]
    ·unfold Q9;simp[hE]
   rw[if_neg (by rw[qj8 hw0 hw6];simp),he,if_pos (by decide),if_neg h0]
 | x::ts,s,l,h,hI,hx=>by
  obtain⟨q1,q2⟩:=q45 s l x h hI (hx x List.mem_cons_self)
  have qfo:qat l (Qo x)=false:=by
   unfold qat;have:(Qo x).kind≠4:=q39 _;simp[this]
  simp only[List.map_cons,List.cons_append]
  have Qcv:Qv l (Qo x::(ts.map Qo++[E]))=if (qx l (Qo x)).e≠0 then ((qx l (Qo x)).e,(Qo x).place) else Qv (qx l (Qo x)) (ts.map Qo++[E]):=by
   rw[Qv,if_neg (by rw[qfo];simp)]
  rw[Qcv];by_cases h0:(qaf s x.kind x.text x.runes).1=0
  ·have hf:Q0 s (x::ts)=Q0 (qaf s x.kind x.text x.runes).2 ts:=by rw[Q0,if_pos h0]
   rw[hf,q1,if_neg (by rw[h0];simp)];exact qvw E hE ts _ _ (q2 h0) (qr9 s _ _ _ x.ok hI h0) (λy hy=>hx y (List.mem_cons_of_mem _ hy))
  ·have hf:Q0 s (x::ts)=(s,some ((qaf s x.kind x.text x.runes).1,x.place)):=by rw[Q0,if_neg h0]
   rw[hf,q1,if_pos h0];exact⟨rfl,h0⟩
