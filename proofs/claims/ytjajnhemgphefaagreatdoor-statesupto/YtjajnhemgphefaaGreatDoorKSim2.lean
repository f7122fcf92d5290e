/- A part -/
import Derived.Test.YtjajnhemgphefaaGreatDoorKChg
import Derived.Test.YtjajnhemgphefaaGreatDoorKMdD
set_option linter.all false
namespace Go.Proofs.YtjajnhemgphefaaGreatDoor
open Go renaming World->Wq,Value->Vq
variable {s:PSt} {k r:Int} {t:By} {x:Tok}
theorem qj4(h:(qae s k t r).1=0):Qk s.st k=true/\qv s.st r s.rules.length s.atoms.length (Ql s.atoms)=false/\(qae s k t r).2=qat s k t:=by
 unfold qae at h ⊢;by_cases hf:Qk s.st k=false
 .rw[if_pos hf] at h;simp at h
 .rw[if_neg hf] at h ⊢;by_cases he:qv s.st r s.rules.length s.atoms.length (Ql s.atoms)=true
  .rw[if_pos he] at h;simp at h
  .rw[if_neg he];exact⟨by simpa using hf,by simpa using he,rfl⟩
theorem qd2{sF:PSt}{l:List Tok}(h:Q2 s (x::l)=(sF,none)):(qae s x.kind x.text x.runes).1=0/\Q2 (qat s x.kind x.text) l=(sF,none):=by
 unfold Q2 at h;by_cases h0:(qae s x.kind x.text x.runes).1=0
 .rw[if_pos h0,(qj4 h0).2.2] at h;exact⟨h0,h⟩
 .rw[if_neg h0] at h;simp at h
theorem t3(hs:s.st=3)(h:(qae s k t r).1=0):(k=1\/k=2)/\qat s k t={s with st:=4,atoms:=qco s.atoms (qca s.vars k t),vars:=qbh s.vars k t}:=by
 have hf:=(qj4 h).1;have hk:k=1\/k=2:=by unfold Qk at hf;simp[hs] at hf;exact hf
 exact⟨hk,by unfold qat qbx;rw[if_pos hk,if_pos hs]⟩
theorem t4(hs:s.st=4)(h:(qae s k t r).1=0):(k=5/\qat s k t={s with st:=3})\/(k=4/\qat s k t=qdq s):=by
 have hf:=(qj4 h).1;have hk:k=5\/k=4:=by unfold Qk at hf;simp[hs] at hf;exact hf
 rcases hk with rfl | rfl
 .left;exact⟨rfl,by unfold qat;simp[hs]⟩
 .right;exact⟨rfl,by unfold qat;simp⟩
theorem t2(hs:s.st=2)(h:(qae s k t r).1=0):k=3/\qat s k t={s with st:=3}:=by
 have hf:=(qj4 h).1;have hk:k=3:=by unfold Qk at hf;simp[hs] at hf;exact hf
 subst hk;exact⟨rfl,by unfold qat;simp⟩
theorem t01(hs:s.st=0\/s.st=1)(h:(qae s k t r).1=0):k=1/\qat s k t={s with st:=2,atoms:=s.atoms++[⟨t,[]⟩]}:=by
 have hf:=(qj4 h).1;have hk:k=1:=by unfold Qk at hf;rw[if_pos hs] at hf;simpa using hf
 subst hk;exact⟨rfl,by unfold qat qbx;rw[if_pos (.inl rfl),if_neg (by omega)]⟩
theorem t56(hs:s.st=5\/s.st=6)(h:(qae s k t r).1=0):(k=6/\qat s k t=qau s)\/((k=5\/k=7)/\qat s k t={s with st:=1}):=by
 have hf:=(qj4 h).1;rcases hs with hs | hs
 .have hk:k=7\/k=6:=by unfold Qk at hf;simp[hs] at hf;exact hf
  rcases hk with rfl | rfl
  .right;exact⟨.inr rfl,by unfold qat;simp⟩
  .left;exact⟨rfl,by unfold qat;simp⟩
 .have hk:k=5\/k=6:=by unfold Qk at hf;simp[hs] at hf;exact hf
  rcases hk with rfl | rfl
  .right;exact⟨.inl rfl,by unfold qat;simp[hs]⟩
  .left;exact⟨rfl,by unfold qat;simp⟩
theorem qmu(vs:List By)(x:Tok)(h:x.kind=1\/x.kind=2):qge vs (Qn x)=qca vs x.kind x.text/\qdp vs (Qn x)=qbh vs x.kind x.text:=by
 unfold qge qdp qca qbh Qn;rcases h with h | h <;> simp[h,qdh]
def qzd(n:Nat):Int:=if n=1 then 5 else 6
theorem qmv(E:RT):∀(n:Nat) (ts:List Tok) (s sF:PSt) (p:List Am) (a:Am),ts.length<=n->s.st=3->s.atoms=p++[a]->Q2 s ts=(sF,none)->sF.st=0->
  ∃L aj k,qaf s.vars (ts.map Qn++[E])=some (L,aj,k)/\k<=ts.length/\2<=k/\Q2 {s with st:=qzd (p.length+1),atoms:=p++[{a with args:=a.args++L}],vars:=aj} (ts.drop k)=(sF,none)
 | n,[],s,sF,p,a,hn,hs,ha,h,hF=>by simp[Q2] at h;subst h;omega
 | n,[x],s,sF,p,a,hn,hs,ha,h,hF=>by
  obtain⟨h1,h2⟩:=qd2 h;obtain⟨hk,he⟩:=t3 hs h1;rw[he] at h2;simp[Q2] at h2;subst h2;simp at hF
 | 0,x::y::us,s,sF,p,a,hn,hs,ha,h,hF=>by simp at hn
 | n+1,x::y::us,s,sF,p,a,hn,hs,ha,h,hF=>by
  obtain⟨h1,h2⟩:=qd2 h;obtain⟨hk,he⟩:=t3 hs h1;rw[he,ha,qfy] at h2;obtain⟨e1,e2⟩:=qmu s.vars x hk;obtain⟨h3,h4⟩:=qd2 h2;rcases t4 rfl h3 with⟨hy,aq⟩ | ⟨hy,aq⟩
  .rw[aq] at h4;obtain⟨L,aj,k,q1,q2,q3,q4⟩:=qmv E n us {s with st:=3,atoms:=p++[{a with args:=a.args++[qca s.vars x.kind x.text]}],vars:=qbh s.vars x.kind x.text} sF p {a with args:=a.args++[qca s.vars x.kind x.text]} (by simp at hn;omega) rfl rfl h4 hF;refine⟨qca s.vars x.kind x.text::L,aj,k+2,?_,by simp;omega,by omega,?_⟩
   .simp only[List.map_cons,List.cons_append];unfold qaf;have hb:(Qn y).kind≠41:=by show qdh y.kind≠41;rw[hy];decide
    rw[if_neg hb,e1,e2,q1]
   .simp only[List.drop_succ_cons];simpa using q4
  .rw[aq] at h4;refine⟨[qca s.vars x.kind x.text],qbh s.vars x.kind x.text,2,?_,by simp,by omega,?_⟩
   .simp only[List.map_cons,List.cons_append];unfold qaf;have hb:(Qn y).kind=41:=by unfold Qn;rw[hy];rfl
    rw[if_pos hb,e1,e2]
   .simp only[List.drop_succ_cons,List.drop_zero];simpa [qdq,qzd] using h4
theorem qj5(h:x.kind=1):(Qn x).text=x.text:=by unfold Qn;simp[h]
theorem qrz(E:RT):∀(f:Nat) (ts:List Tok) (s sF:PSt) (a:Am) (l:List Am),ts.length < f->(s.st=5\/s.st=6)->s.atoms=a::l->Q2 s ts=(sF,none)->sF.st=0->
  ∃bs m,qea f s.vars (ts.map Qn++[E])=some (bs,m)/\m < ts.length/\Q2 ⟨0,s.rules++[⟨a,l++bs⟩],[],[]⟩ (ts.drop (m+1))=(sF,none)
 | 0,ts,s,sF,a,l,hn,_,_,_,_=>by omega
 | f+1,[],s,sF,a,l,hn,hs,ha,h,hF=>by simp[Q2] at h;subst h;omega
 | f+1,x::us,s,sF,a,l,hn,hs,ha,h,hF=>by
  obtain⟨h1,h2⟩:=qd2 h;rcases t56 hs h1 with⟨hk,he⟩ | ⟨hk,he⟩
  .rw[he] at h2;have ao:qau s=⟨0,s.rules++[⟨a,l⟩],[],[]⟩:=by unfold qau;rw[ha]
   rw[ao] at h2;refine⟨[],0,?_,by simp,by simpa using h2⟩;simp only[List.map_cons,List.cons_append];unfold qea;have hb:(Qn x).kind=46:=by unfold Qn;rw[hk];rfl
   simp only[if_pos hb]
  .rw[he] at h2;have hb:(Qn x).kind≠46:=by show qdh x.kind≠46;rcases hk with hk | hk <;> rw[hk] <;> decide
   cases us with
   | nil=>simp[Q2] at h2;subst h2;simp at hF
   | cons r us=>
    obtain⟨h3,h4⟩:=qd2 h2;obtain⟨bb,ax⟩:=t01 (.inr rfl) h3;rw[ax] at h4
    cases us with
    | nil=>simp[Q2] at h4;subst h4;simp at hF
    | cons o us=>
     obtain⟨h5,h6⟩:=qd2 h4;obtain⟨bi,a9⟩:=t2 rfl h5;rw[a9] at h6;simp only at h6;obtain⟨L,aj,k,q1,q2,q3,q4⟩:=qmv E us.length us _ sF s.atoms ⟨r.text,[]⟩ zl rfl rfl h6 hF;simp only[List.nil_append] at q4;have bn:1<=s.atoms.length:=by rw[ha];simp
     have bc:qzd (s.atoms.length+1)=6:=by unfold qzd;rw[if_neg (by omega)]
     rw[bc] at q4;obtain⟨bs,m,p1,p2,p3⟩:=qrz E f (us.drop k) _ sF a (l++[⟨r.text,L⟩]) (by simp at hn ⊢;omega) (.inr rfl) (by simp[ha]) q4 hF;refine⟨⟨r.text,L⟩::bs,3+k+m,?_,?_,?_⟩
     .simp only[List.map_cons,List.cons_append];unfold qea;simp only[if_neg hb,q1]
      have hd:(us.map Qn++[E]).drop k=(us.drop k).map Qn++[E]:=by
       rw[List.drop_append_of_le_length (by simpa using q2),List.map_drop]
      rw[hd,p1,qj5 bb]
     .simp at p2 ⊢;omega
     .have e:3+k+m+1=(k+(m+1))+1+1+1:=by omega
      rw[e];simp only[List.drop_succ_cons];rw[<- List.drop_drop];simpa using p3
theorem qqp(E:RT)(hE:E.kind=4):∀(f:Nat) (ts:List Tok) (s sF:PSt),ts.length < f->s.st=0->s.atoms=[]->s.vars=[]->Q2 s ts=(sF,none)->sF.st=0->
  ∃rs,qej f (ts.map Qn++[E])=some rs/\sF.rules=s.rules++rs
 | 0,ts,s,sF,hn,_,_,_,_,_=>by omega
 | f+1,[],s,sF,hn,hs,ha,hv,h,hF=>by
  simp[Q2] at h;subst h;exact⟨[],by simp[qej,hE],by simp⟩
 | f+1,x::us,s,sF,hn,hs,ha,hv,h,hF=>by
  obtain⟨h1,h2⟩:=qd2 h;obtain⟨hk,he⟩:=t01 (.inl hs) h1;rw[he,ha] at h2;have am:(Qn x).kind≠4:=by show qdh x.kind≠4;rw[hk];decide
  cases us with
  | nil=>simp[Q2] at h2;subst h2;simp at hF
  | cons o us=>
   obtain⟨h3,h4⟩:=qd2 h2;obtain⟨bi,ax⟩:=t2 rfl h3;rw[ax] at h4;obtain⟨L,aj,k,q1,q2,q3,q4⟩:=qmv E us.length us _ sF [] ⟨x.text,[]⟩ zl rfl rfl h4 hF;simp only[hv] at q1;simp only[List.nil_append,List.length_nil] at q4;obtain⟨bs,m,p1,p2,p3⟩:=qrz E (us.map Qn++[E]).length (us.drop k) _ sF ⟨x.text,L⟩ [] (by simp;omega) (.inl rfl) rfl q4 hF;obtain⟨rs,r1,r2⟩:=qqp E hE f ((us.drop k).drop (m+1)) _ sF (by simp at hn ⊢;omega) rfl rfl rfl p3 hF;refine⟨⟨⟨x.text,L⟩,bs⟩::rs,?_,by simpa using r2⟩;simp only[List.map_cons,List.cons_append];unfold qej
   have hd:(us.map Qn++[E]).drop k=(us.drop k).map Qn++[E]:=by
    rw[List.drop_append_of_le_length (by simpa using q2),List.map_drop]
   have bh:((us.drop k).map Qn++[E]).drop (m+1)=((us.drop k).drop (m+1)).map Qn++[E]:=by
    rw[List.drop_append_of_le_length (by simp at p2 ⊢;omega)];simp[List.map_drop]
   simp only[if_neg am,q1,hd,p1,bh,r1,qj5 hk]
structure qy5(s:PSt)(l:Lk):Prop where
 e:l.e=0
 alone:l.alone=false
 want:l.want=if s.st=6 then 5 else s.st
 lo:0<=s.st
 hi:s.st<=6
 rules:l.rules=s.rules.length+if s.st=0 then 0 else 1
 body:s.st≠0->s.st≠1->(l.body=false↔s.atoms.length=1)
 atoms:s.st≠0->l.body=true->s.atoms.length=l.atoms+1
 one:s.st=1->l.body=true
 args:s.st=3\/s.st=4->l.args=Ql s.atoms
 fresh:s.st=2->Ql s.atoms=0
 five:s.st=5->s.atoms.length=1
 six:s.st=6->s.atoms.length≠1
theorem qjc(k:Int):qdh k=1↔k=1:=by
 unfold qdh;repeat' split
 all_goals omega
theorem qyf(k:Int):qdh k=2↔k=2:=by
 unfold qdh;repeat' split
 all_goals omega
theorem qyg(k:Int):qdh k=3↔k=7:=by
 unfold qdh;repeat' split
 all_goals omega
theorem qtx(k:Int):qdh k=40↔k=3:=by
 unfold qdh;repeat' split
 all_goals omega
theorem qjw(k:Int):qdh k=41↔k=4:=by
 unfold qdh;repeat' split
 all_goals omega
theorem qh0(k:Int):qdh k=44↔k=5:=by
 unfold qdh;repeat' split
 all_goals omega
theorem qjx(k:Int):qdh k=46↔k=6:=by
 unfold qdh;repeat' split
 all_goals omega
theorem q5b(k:Int):qdh k≠4:=by
 unfold qdh;repeat' split
 all_goals omega
theorem qb9(h:Qk s.st k=false):qae s k t r=(2,s):=by unfold qae;rw[if_pos h]
theorem qf9(h:Qk s.st k=true)(h2:qv s.st r s.rules.length s.atoms.length (Ql s.atoms)=true):qae s k t r=(3,s):=by unfold qae;rw[h,h2];rfl
theorem qbq(h:Qk s.st k=true)(h2:qv s.st r s.rules.length s.atoms.length (Ql s.atoms)=false):qae s k t r=(0,qat s k t):=by unfold qae;rw[h,h2];rfl
def qdg(x:Tok):Prop:=x.kind=1\/x.kind=2\/x.runes<=2
theorem q57(s:PSt)(l:Lk)(x:Tok)(h:qy5 s l)(hI:qmp s)(hx:qdg x) :
  (qw l (Qn x)).e=(qae s x.kind x.text x.runes).1/\((qae s x.kind x.text x.runes).1=0->qy5 (qae s x.kind x.text x.runes).2 (qw l (Qn x))):=by
 obtain⟨h1,h2,h3,h4,h5,h6,h7,h8,h9,a7,bj,Qdn,Qbl⟩:=h;obtain⟨i1,i2,i3,i4,i5,i6,i7,i8⟩:=hI;have ac:(Qn x).kind=qdh x.kind:=rfl;have a6:(Qn x).runes=x.runes:=rfl;have be:s.st=0\/s.st=1\/s.st=2\/s.st=3\/s.st=4\/s.st=5\/s.st=6:=by omega
 rcases be with hs | hs | hs | hs | hs | hs | hs
 ·-- a rule may begin
  have hw:l.want=0:=by rw[h3,hs];rfl
  have hr:l.rules=s.rules.length:=by rw[h6,hs];simp
  have ae:qw l (Qn x)=Qq l (Qn x):=by unfold qw;simp[hw]
  rw[ae];by_cases hk:x.kind=1
  .have hf:Qk s.st x.kind=true:=by rw[hs,hk];rfl
   have ad:Qq l (Qn x)=if Q4 l=true\/8 < x.runes then {Q1 l with e:=3} else {Q1 l with want:=2}:=by
    unfold Qq;rw[if_neg (by rw[ac];have:=(qjc x.kind).2 hk;omega)];simp[hw,a6]
   by_cases he:qv s.st x.runes s.rules.length s.atoms.length (Ql s.atoms)=true
   .have ho:Q4 l=true\/8 < x.runes:=by
     unfold qv at he;unfold Q4;simp[hs] at he;simp[hw];omega
    rw[qf9 hf he,ad,if_pos ho];exact⟨rfl,λh=>by simp at h⟩
   .have aa:qv s.st x.runes s.rules.length s.atoms.length (Ql s.atoms)=false:=by simpa using he
    have ho:¬(Q4 l=true\/8 < x.runes):=by
     unfold qv at aa;unfold Q4;simp[hs] at aa;simp[hw];omega
    rw[qbq hf aa,ad,if_neg ho];have ab:=(t01 (.inl hs) (r:=x.runes) (by rw[qbq hf aa]:(qae s x.kind x.text x.runes).1=0)).2;rw[ab];have ak:Q1 l={l with rules:=l.rules+1,body:=false}:=by unfold Q1;rw[if_pos hw]
    rw[ak];refine⟨h1,λ_=>⟨h1,h2,rfl,by simp,by simp,by simp[hr],λ_ _=>by simp[i4 hs],λ_ h=>by simp at h,λh=>by simp at h,λh=>by simp at h,λ_=>by simp[Ql],λh=>by simp at h,λh=>by simp at h⟩⟩
  .have hf:Qk s.st x.kind=false:=by rw[hs];unfold Qk;simp[hk]
   have ad:Qq l (Qn x)={Q1 l with e:=2}:=by
    unfold Qq;rw[if_pos (by rw[ac,hw];exact⟨λe=>hk ((qjc _).1 e),.inr (by decide)⟩)]
   rw[qb9 hf,ad];exact⟨rfl,λh=>by simp at h⟩
 ·-- an atom of a body
  have hw:l.want=1:=by rw[h3,hs];rfl
  have hr:l.rules=s.rules.length+1:=by rw[h6,hs];simp
  have hb:=h9 hs;have ha:=h8 (by omega) hb;have ae:qw l (Qn x)=Qq l (Qn x):=by unfold qw;simp[hw]
  rw[ae];by_cases hk:x.kind=1
  .have hf:Qk s.st x.kind=true:=by rw[hs,hk];rfl
   have ad:Qq l (Qn x)=if Q4 l=true\/8 < x.runes then {Q1 l with e:=3} else {Q1 l with want:=2}:=by
    unfold Qq;rw[if_neg (by rw[ac];have:=(qjc x.kind).2 hk;omega)];simp[hw,a6]
   by_cases he:qv s.st x.runes s.rules.length s.atoms.length (Ql s.atoms)=true
   .have ho:Q4 l=true\/8 < x.runes:=by
     unfold qv at he;unfold Q4;simp[hs] at he;simp[hw];omega
    rw[qf9 hf he,ad,if_pos ho];exact⟨rfl,λh=>by simp at h⟩
   .have aa:qv s.st x.runes s.rules.length s.atoms.length (Ql s.atoms)=false:=by simpa using he
    have ho:¬(Q4 l=true\/8 < x.runes):=by
     unfold qv at aa;unfold Q4;simp[hs] at aa;simp[hw];omega
    rw[qbq hf aa,ad,if_neg ho];have ab:=(t01 (.inr hs) (r:=x.runes) (by rw[qbq hf aa]:(qae s x.kind x.text x.runes).1=0)).2;rw[ab];have ak:Q1 l={l with atoms:=l.atoms+1}:=by unfold Q1;rw[if_neg (by omega),if_pos hw]
    rw[ak];refine⟨h1,λ_=>⟨h1,h2,rfl,by simp,by simp,by simp[hr],λ_ _=>by simp[hb,i5 (by omega)],λ_ _=>by simp;omega,λh=>by simp at h,λh=>by simp at h,λ_=>by simp[Ql],λh=>by simp at h,λh=>by simp at h⟩⟩
  .have hf:Qk s.st x.kind=false:=by rw[hs];unfold Qk;simp[hk]
   have ad:Qq l (Qn x)={Q1 l with e:=2}:=by
    unfold Qq;rw[if_pos (by rw[ac,hw];exact⟨λe=>hk ((qjc _).1 e),.inr (by decide)⟩)]
   rw[qb9 hf,ad];exact⟨rfl,λh=>by simp at h⟩
 ·-- a bracket
  have hw:l.want=2:=by rw[h3,hs];rfl
  have hr:l.rules=s.rules.length+1:=by rw[h6,hs];simp
  have ae:qw l (Qn x)=qaa l (Qn x):=by unfold qw;simp[hw]
  rw[ae];by_cases hk:x.kind=3
  .have hf:Qk s.st x.kind=true:=by rw[hs,hk];rfl
   have aa:qv s.st x.runes s.rules.length s.atoms.length (Ql s.atoms)=false:=by
    have:¬(8:Int) < x.runes:=by unfold qdg at hx;omega
    unfold qv;simp[hs,this]
   rw[qbq hf aa];have ab:=(t2 hs (r:=x.runes) (by rw[qbq hf aa]:(qae s x.kind x.text x.runes).1=0)).2;rw[ab];have hn:qaa l (Qn x)={l with args:=0,want:=3}:=by unfold qaa;rw[if_pos ⟨hw,by rw[ac,qtx];exact hk⟩]
   rw[hn];have Qgg:=bj hs;have af:=h7 (by omega) (by omega);have ag:=h8 (by omega);exact⟨h1,λ_=>⟨h1,h2,rfl,by simp,by simp,by simp[hr],λ_ _=>af,λ_=>ag,λh=>by simp at h,λ_=>Qgg.symm,λh=>by simp at h,λh=>by simp at h,λh=>by simp at h⟩⟩
  .have hf:Qk s.st x.kind=false:=by rw[hs];unfold Qk;simp[hk]
   have hn:qaa l (Qn x)={l with e:=2}:=by
    unfold qaa;simp only[hw,ac,qtx,hk];simp
   rw[qb9 hf,hn];exact⟨rfl,λh=>by simp at h⟩
 ·-- an argument
  have hw:l.want=3:=by rw[h3,hs];rfl
  have hr:l.rules=s.rules.length+1:=by rw[h6,hs];simp
  have hg:=a7 (.inl hs);have af:=h7 (by omega) (by omega);have ag:=h8 (by omega);have ae:qw l (Qn x)=Qq l (Qn x):=by unfold qw;simp[hw]
  obtain⟨p,a,ay⟩:=qqw s.atoms (i5 (by omega));have bk:Ql s.atoms=a.args.length:=by unfold Ql;rw[ay];simp
  have bo:=(i3 a (by rw[ay];simp)).args;rw[ae];by_cases hk:x.kind=1\/x.kind=2
  .have hf:Qk s.st x.kind=true:=by rw[hs];unfold Qk;simp[hk]
   have ad:Qq l (Qn x)=if Q4 l=true\/8 < x.runes then {Q1 l with e:=3} else {Q1 l with want:=4}:=by
    unfold Qq;rw[if_neg (by rw[ac,hw];have:=qjc x.kind;have:=qyf x.kind;omega)];simp[hw,a6]
   by_cases he:qv s.st x.runes s.rules.length s.atoms.length (Ql s.atoms)=true
   .have ho:Q4 l=true\/8 < x.runes:=by
     unfold qv at he;unfold Q4;simp[hs] at he;simp[hw];omega
    rw[qf9 hf he,ad,if_pos ho];exact⟨rfl,λh=>by simp at h⟩
   .have aa:qv s.st x.runes s.rules.length s.atoms.length (Ql s.atoms)=false:=by simpa using he
    have ho:¬(Q4 l=true\/8 < x.runes):=by
     unfold qv at aa;unfold Q4;simp[hs] at aa;simp[hw];omega
    rw[qbq hf aa,ad,if_neg ho];have ab:=(t3 hs (r:=x.runes) (by rw[qbq hf aa]:(qae s x.kind x.text x.runes).1=0)).2;rw[ab];have ak:Q1 l={l with args:=l.args+1}:=by unfold Q1;rw[if_neg (by omega),if_neg (by omega)]
    rw[ak];refine⟨h1,λ_=>⟨h1,h2,rfl,by simp,by simp,by simp[hr],λ_ _=>by rw[qib];exact af,λ_=>by rw[qib];exact ag,λh=>by simp at h,λ_=>?_,λh=>by simp at h,λh=>by simp at h,λh=>by simp at h⟩⟩;rw[ay,qfy];simp[Ql];omega
  .have hf:Qk s.st x.kind=false:=by rw[hs];unfold Qk;simp;omega
   have ad:Qq l (Qn x)={Q1 l with e:=2}:=by
    unfold Qq;rw[if_pos (by rw[ac,hw];have:=qjc x.kind;have:=qyf x.kind;omega)]
   rw[qb9 hf,ad];exact⟨rfl,λh=>by simp at h⟩
 ·-- behind an argument
  have hw:l.want=4:=by rw[h3,hs];rfl
  have hr:l.rules=s.rules.length+1:=by rw[h6,hs];simp
  have hg:=a7 (.inr hs);have af:=h7 (by omega) (by omega);have ag:=h8 (by omega);have ae:qw l (Qn x)=qaa l (Qn x):=by unfold qw;simp[hw]
  rw[ae];by_cases hk:x.kind=5\/x.kind=4
  .have hf:Qk s.st x.kind=true:=by rw[hs];unfold Qk;simp[hk]
   have aa:qv s.st x.runes s.rules.length s.atoms.length (Ql s.atoms)=false:=by
    have:¬(8:Int) < x.runes:=by unfold qdg at hx;omega
    unfold qv;simp[hs,this]
   rw[qbq hf aa];rcases t4 hs (r:=x.runes) (by rw[qbq hf aa]:(qae s x.kind x.text x.runes).1=0) with⟨ah,ab⟩ | ⟨am,ab⟩
   .rw[ab];have hn:qaa l (Qn x)={l with want:=3}:=by unfold qaa;simp[hw,ac,qh0,ah]
    rw[hn];exact⟨h1,λ_=>⟨h1,h2,rfl,by simp,by simp,by simp[hr],λ_ _=>af,λ_=>ag,λh=>by simp at h,λ_=>hg,λh=>by simp at h,λh=>by simp at h,λh=>by simp at h⟩⟩
   .rw[ab];have hn:qaa l (Qn x)={l with want:=5}:=by unfold qaa;simp[hw,ac,qjw,qh0,am,h2]
    rw[hn];unfold qdq;by_cases ap:s.atoms.length=1
    .simp only[if_pos ap];exact⟨h1,λ_=>⟨h1,h2,rfl,by simp,by simp,by simp[hr],λ_ _=>af,λ_=>ag,λh=>by simp at h,λh=>by simp at h,λh=>by simp at h,λ_=>ap,λh=>by simp at h⟩⟩
    .simp only[if_neg ap];exact⟨h1,λ_=>⟨h1,h2,rfl,by simp,by simp,by simp[hr],λ_ _=>af,λ_=>ag,λh=>by simp at h,λh=>by simp at h,λh=>by simp at h,λh=>by simp at h,λ_=>ap⟩⟩
  .have hf:Qk s.st x.kind=false:=by rw[hs];unfold Qk;simp;omega
   have hn:qaa l (Qn x)={l with e:=2}:=by
    have ah:¬x.kind=5:=by omega
    have am:¬x.kind=4:=by omega
    unfold qaa;simp only[hw,ac,qh0,qjw,ah,am];simp
   rw[qb9 hf,hn];exact⟨rfl,λh=>by simp at h⟩
 ·-- behind a head
  have hw:l.want=5:=by rw[h3,hs];rfl
  have hr:l.rules=s.rules.length+1:=by rw[h6,hs];simp
  have af:=h7 (by omega) (by omega);have ag:=h8 (by omega);have a8:s.atoms.length=1:=Qdn hs;have hb:l.body=false:=af.2 a8;have ae:qw l (Qn x)=qaa l (Qn x):=by unfold qw;simp[hw]
  rw[ae];by_cases hk:x.kind=7\/x.kind=6
  .have hf:Qk s.st x.kind=true:=by rw[hs];unfold Qk;simp[hk]
   have aa:qv s.st x.runes s.rules.length s.atoms.length (Ql s.atoms)=false:=by
    have:¬(8:Int) < x.runes:=by unfold qdg at hx;omega
    unfold qv;simp[hs,this]
   rw[qbq hf aa];rcases t56 (.inl hs) (r:=x.runes) (by rw[qbq hf aa]:(qae s x.kind x.text x.runes).1=0) with⟨ai,ab⟩ | ⟨az,ab⟩
   .rw[ab];have hn:qaa l (Qn x)={l with want:=0}:=by unfold qaa;simp[hw,ac,qjx,ai]
    rw[hn];obtain⟨a0,al,au⟩:∃a0 al,s.atoms=a0::al:=List.exists_cons_of_ne_nil (i5 (by omega));have ao:qau s=⟨0,s.rules++[⟨a0,al⟩],[],[]⟩:=by unfold qau;rw[au]
    rw[ao];exact⟨h1,λ_=>⟨h1,h2,rfl,by simp,by simp,by simp[hr],λh=>absurd rfl h,λh=>absurd rfl h,λh=>by simp at h,λh=>by simp at h,λh=>by simp at h,λh=>by simp at h,λh=>by simp at h⟩⟩
   .rw[ab];have av:x.kind=7:=by omega
    have hn:qaa l (Qn x)={l with body:=true,atoms:=0,want:=1}:=by unfold qaa;simp[hw,ac,qjx,qh0,qyg,av,hb]
    rw[hn];exact⟨h1,λ_=>⟨h1,h2,rfl,by simp,by simp,by simp[hr],λ_ h=>absurd rfl h,λ_ _=>by simpa using a8,λ_=>rfl,λh=>by simp at h,λh=>by simp at h,λh=>by simp at h,λh=>by simp at h⟩⟩
  .have hf:Qk s.st x.kind=false:=by rw[hs];unfold Qk;simp;omega
   have hn:qaa l (Qn x)={l with e:=2}:=by
    have ai:¬x.kind=6:=by omega
    have av:¬x.kind=7:=by omega
    unfold qaa;simp only[hw,ac,qjx,qyg,ai,av,hb];simp
   rw[qb9 hf,hn];exact⟨rfl,λh=>by simp at h⟩
 ·-- behind an atom of a body
  have hw:l.want=5:=by rw[h3,hs];rfl
  have hr:l.rules=s.rules.length+1:=by rw[h6,hs];simp
  have af:=h7 (by omega) (by omega);have Qd2:s.atoms.length≠1:=Qbl hs
  have hb:l.body=true:=by
   cases hbb:l.body with
   | true=>rfl
   | false=>exact absurd (af.1 hbb) Qd2
  have ag:=h8 (by omega) hb;have ae:qw l (Qn x)=qaa l (Qn x):=by unfold qw;simp[hw]
  rw[ae];by_cases hk:x.kind=5\/x.kind=6
  .have hf:Qk s.st x.kind=true:=by rw[hs];unfold Qk;simp[hk]
   have aa:qv s.st x.runes s.rules.length s.atoms.length (Ql s.atoms)=false:=by
    have:¬(8:Int) < x.runes:=by unfold qdg at hx;omega
    unfold qv;simp[hs,this]
   rw[qbq hf aa];rcases t56 (.inr hs) (r:=x.runes) (by rw[qbq hf aa]:(qae s x.kind x.text x.runes).1=0) with⟨ai,ab⟩ | ⟨az,ab⟩
   .rw[ab];have hn:qaa l (Qn x)={l with want:=0}:=by unfold qaa;simp[hw,ac,qjx,ai]
    rw[hn];obtain⟨a0,al,au⟩:∃a0 al,s.atoms=a0::al:=List.exists_cons_of_ne_nil (i5 (by omega));have ao:qau s=⟨0,s.rules++[⟨a0,al⟩],[],[]⟩:=by unfold qau;rw[au]
    rw[ao];exact⟨h1,λ_=>⟨h1,h2,rfl,by simp,by simp,by simp[hr],λh=>absurd rfl h,λh=>absurd rfl h,λh=>by simp at h,λh=>by simp at h,λh=>by simp at h,λh=>by simp at h,λh=>by simp at h⟩⟩
   .rw[ab];have ah:x.kind=5:=by omega
    have hn:qaa l (Qn x)={l with want:=1}:=by unfold qaa;simp[hw,ac,qjx,qh0,ah,hb]
    rw[hn];exact⟨h1,λ_=>⟨h1,h2,rfl,by simp,by simp,by simp[hr],λ_ h=>absurd rfl h,λ_ _=>ag,λ_=>hb,λh=>by simp at h,λh=>by simp at h,λh=>by simp at h,λh=>by simp at h⟩⟩
  .have hf:Qk s.st x.kind=false:=by rw[hs];unfold Qk;simp;omega
   have hn:qaa l (Qn x)={l with e:=2}:=by
    have ai:¬x.kind=6:=by omega
    have ah:¬x.kind=5:=by omega
    unfold qaa;simp only[hw,ac,qjx,qh0,qyg,ai,ah,hb];simp
   rw[qb9 hf,hn];exact⟨rfl,λh=>by simp at h⟩
theorem qwi(E:RT)(hE:E.kind=4):∀(ts:List Tok) (s:PSt) (l:Lk),qy5 s l->qmp s->(∀x∈ts,qdg x)->
  match Q2 s ts with
  | (_,some ep)=>Qw l (ts.map Qn++[E])=ep/\ep.1≠0
  | (sF,none)=>Qw l (ts.map Qn++[E])=if sF.st=0 then (0,0) else (2,E.place)
 | [],s,l,h,hI,hx=>by
  have hw:=h.want;have h5:=h.hi;have h4:=h.lo;simp only[Q2,List.map_nil,List.nil_append];unfold Qw;by_cases h0:s.st=0
  .have aw:qas l E=true:=by unfold qas;simp[hE,hw,h0,h.alone]
   rw[if_pos aw,if_pos h0]
  .have bd:l.want≠0:=by rw[hw];split <;> omega
   have bf:l.want≠6:=by rw[hw];split <;> omega
   have he:(qw l E).e=2:=by
    unfold qw;split
    .unfold Qq;rw[if_pos (by rw[hE];exact⟨by decide,.inl (by decide)⟩)]
    .unfold qaa;simp[hE]
   rw[if_neg (by rw[qkm bd bf];simp),he,if_pos (by decide),if_neg h0]
 | x::ts,s,l,h,hI,hx=>by
  obtain⟨q1,q2⟩:=q57 s l x h hI (hx x zs)
  have aw:qas l (Qn x)=false:=by
   unfold qas;have:(Qn x).kind≠4:=q5b _;simp[this]
  simp only[List.map_cons,List.cons_append]
  have Qeb:Qw l (Qn x::(ts.map Qn++[E]))=if (qw l (Qn x)).e≠0 then ((qw l (Qn x)).e,(Qn x).place) else Qw (qw l (Qn x)) (ts.map Qn++[E]):=by
   rw[Qw,if_neg (by rw[aw];simp)]
  rw[Qeb];by_cases h0:(qae s x.kind x.text x.runes).1=0
  .have hf:Q2 s (x::ts)=Q2 (qae s x.kind x.text x.runes).2 ts:=by rw[Q2,if_pos h0]
   rw[hf,q1,if_neg (by rw[h0];simp)];exact qwi E hE ts _ _ (q2 h0) (qsy s _ _ _ x.ok hI h0) (λy hy=>hx y (zt hy))
  .have hf:Q2 s (x::ts)=(s,some ((qae s x.kind x.text x.runes).1,x.place)):=by rw[Q2,if_neg h0]
   rw[hf,q1,if_pos h0];exact⟨rfl,h0⟩
