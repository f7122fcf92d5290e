/- A text of one atom: the code and the document's own answer -/
import Derived.Test.YtjajnhemgphefaaGreatDoorJRules
import Derived.Test.YtjajnhemgphefaaGreatDoorJSim2
set_option linter.unusedVariables false
set_option linter.unusedSimpArgs false
namespace Go.Proofs.YtjajnhemgphefaaGreatDoor
open Go renaming World->Wq,Value->Vq
theorem qm9(a:Am)(rest:List Am):∀(seen:List Am),qac (seen++a::rest) a.rel=match qct seen a.rel.data.toList with | some n=>n | none=>a.args.length
 | []=>by simp[qac,qct,qkw]
 | b::seen=>by
  have ih:=qm9 a rest seen;simp only[List.cons_append,qac,qkw];by_cases h:(b.rel.data.toList == a.rel.data.toList)=true
  ·rw[if_pos h];simp only[qct,List.find?_cons,h];rfl
  ·rw[if_neg h,ih];have h':(b.rel.data.toList == a.rel.data.toList)=false:=by simpa using h
   simp only[qct,List.find?_cons,h']
theorem qwo(seen:List Am)(a:Am)(rest:List Am):qgz (seen++a::rest) a=!qg4 seen a:=by
 unfold qgz qg4;rw[qm9]
 cases qct seen a.rel.data.toList with
 | none=>simp
 | some n=>by_cases h:n=a.args.length <;> simp[h]
theorem qr4:∀(l seen rest:List Am),qdp seen l=if l.any (qgz (seen++l++rest))=true then none else some (seen++l)
 | [],seen,rest=>by simp[qdp]
 | a::l,seen,rest=>by
  have hb:=qwo seen a (l++rest);have e:seen++(a::l)++rest=seen++a::(l++rest):=by simp
  unfold qdp;rw[e];simp only[List.any_cons,hb];by_cases hf:qg4 seen a=true
  ·rw[if_pos hf,hf];have ih:=qr4 l (seen++[a]) rest;have e2:seen++[a]++l++rest=seen++a::(l++rest):=by simp
   rw[ih,e2];simp
  ·rw[if_neg hf];have hf':qg4 seen a=false:=by simpa using hf
   rw[hf'];simp
def qlv(o:Option Nat):Int:=match o with | some n=>n | none=>-1
theorem qj2:∀(rs:List Rl) (seen:List Am) (i:Nat),qah seen i rs=qlv (qba (qb4 (seen++qap rs)) rs i)
 | [],seen,i=>by simp[qah,qba,qlv]
 | r::rs,seen,i=>by
  have hs:=qr4 (qy r) seen (qap rs);have e:seen++qy r++qap rs=seen++qap (r::rs):=by simp[qap]
  rw[e] at hs;have hb:qb4 (seen++qap (r::rs)) r=(qy r).any (qgz (seen++qap (r::rs))):=rfl;unfold qah qba;rw[hb];show (match qdp seen (qy r) with | none=>(i:Int) | some s=>qah s (i+1) rs)=_;rw[hs];by_cases hx:(qy r).any (qgz (seen++qap (r::rs)))=true
  ·rw[if_pos hx,if_pos hx];rfl
  ·rw[if_neg hx,if_neg hx];have ih:=qj2 rs (seen++qy r) (i+1);have e3:seen++qy r++qap rs=seen++qap (r::rs):=e;rw[e3] at ih;exact ih
theorem q0l(r:Rl):qdg r=qdu r:=by
 unfold qdg qdu;congr 1;funext t;unfold qc3 qgh
 cases h:t.name.toList.isEmpty with
 | false=>rfl
 | true=>
  have h0:t.name.toList=[]:=by simpa using h
  have:qf8 r t.name t.num=qz r.body t.num:=by
   unfold qf8 qz qju;congr 1;funext a;congr 1;funext t';unfold qzb qhg;rw[h0]
   cases ht:t'.name.toList with
   | nil=>
    by_cases hn:t.num=t'.num
    ·simp[hn]
    ·have hn2:¬t'.num=t.num:=λe=>hn e.symm;simp[hn,hn2]
   | cons c cs=>simp
  rw[this]
theorem qnd(p:Rl->Bool):∀(rs:List Rl) (i:Nat),qcr p i rs=qlv (qba p rs i)
 | [],i=>rfl
 | r::rs,i=>by
  unfold qcr qba;by_cases h:p r=true
  ·rw[if_pos h,if_pos h];rfl
  ·rw[if_neg h,if_neg h];exact qnd p rs (i+1)
theorem qqr(rs:List Rl):qcf rs=qlv (qba qdu rs 0):=by
 unfold qcf;rw[qnd];have:qdg=qdu:=funext q0l;rw[this]
theorem qpj:∀(rs:List Rl) (ns:List ByteArray) (i:Nat),qa3 ns i rs=qlv (qa0 ns rs i)
 | [],ns,i=>rfl
 | r::rs,ns,i=>by
  unfold qa3 qa0;by_cases h:8 < (nmL ns (Qp (qy r))).length
  ·rw[if_pos h,if_pos h];rfl
  ·rw[if_neg h,if_neg h];exact qpj rs _ (i+1)
theorem qrd(rs:List Rl):qdc rs=((qbh rs).1,((qbh rs).2:Int)):=by
 unfold qdc qbh;rw[qj2,qqr,qpj];simp only[List.nil_append]
 cases qba (qb4 (qap rs)) rs 0 with
 | some i=>simp[qlv]
 | none=>
  cases qba qdu rs 0 with
  | some i=>simp[qlv]
  | none=>
   cases qa0 [] rs 0 with
   | some i=>simp[qlv]
   | none=>simp[qlv]
end Go.Proofs.YtjajnhemgphefaaGreatDoor
namespace Go.Proofs.YtjajnhemgphefaaGreatDoor
open Go renaming World->Wq,Value->Vq
open Go.RowKit Go.Shelf
variable {s:PSt} {x:Tok} {r:List Tok} {l:Lk} {E:RT}
theorem qyg(s:ByteArray):∀(f i:Nat),s.size<=i+f->Lib.runeCountFrom s f i=(R s i).length
 | 0,i,h=>by rw[qia s i (by omega)];rfl
 | f+1,i,h=>by
  unfold Lib.runeCountFrom;by_cases hi:i < s.size
  ·have h1:=Lib.decode_width_pos s i hi;rw[if_pos hi,qew s i hi,qyg s f _ (by omega)];simp;omega
  ·rw[if_neg hi,qia s i hi];rfl
theorem qcc(s:ByteArray):(R s 0).length=Lib.runeCount s:=(qyg s s.size 0 (by omega)).symm
theorem Qei(s:ByteArray):(R s 0).length<=s.size:=by rw[qcc];exact Lib.runeCount_le s
theorem qe8(s:ByteArray)(h:s.size<=1200):Q3 s=(qch s.size s 0).map Qo++[⟨4,⟨#[]⟩,(R s 0).length,0⟩]:=by
 unfold Q3;rw[qhi s.size s 0 zl h,qfb _ s.size _ _ zl (Qei s)]
theorem qjr:∀(f:Nat) (s:ByteArray) (p:Nat),∀x∈qch f s p,qc5 x
 | 0,s,p,x,hx=>by simp[qch] at hx
 | f+1,s,p,x,hx=>by
  unfold qch at hx;split at hx
  ·simp at hx
  split at hx
  ·exact qjr f _ _ x hx
  split at hx
  ·rcases List.mem_cons.1 hx with rfl | hx
   ·unfold qc5 Q6;simp only
    repeat' split
    all_goals simp
   ·exact qjr f _ _ x hx
  ·simp at hx
theorem q7b:qyh qb0 (lk0 false):=by
 refine⟨rfl,rfl,rfl,by decide,by decide,rfl,λh=>absurd rfl h,λh=>absurd rfl h,λh=>?_,λh=>?_,λh=>?_,λh=>?_,λh=>?_⟩
 all_goals (simp[qb0] at h)
theorem Qaj:ql9 qb0:=⟨by decide,by decide,by simp[qb0],λ_=>rfl,λh=>absurd rfl h,λh=>absurd rfl h,by simp[qb0],by simp[qb0]⟩
theorem qpu(s:ByteArray)(h:(R s 0).length<=300)(h2:s.size<=1200) :
  qaz s=match qdv s with | .error ep=>.error ep | .ok rs=>if (qbh rs).1≠0 then .error (qbh rs) else .ok rs:=by
 have hov:=qvw ⟨4,⟨#[]⟩,(R s 0).length,0⟩ rfl (qch s.size s 0) qb0 (lk0 false) q7b Qaj (qjr _ _ _);rw[<- qe8 s h2] at hov;unfold qaz qdv;rw[if_neg (by omega)]
 cases hf:Q0 qb0 (qch s.size s 0) with
 | mk sF o=>
  rw[hf] at hov
  cases o with
  | some ep=>
   simp only at hov ⊢;rw[hov.1,if_pos hov.2]
  | none=>
   simp only at hov ⊢;by_cases h0:sF.st=0
   ·rw[if_pos h0] at hov ⊢;rw[hov,if_neg (by simp)];obtain⟨rs,r1,r2⟩:=qp4 ⟨4,⟨#[]⟩,(R s 0).length,0⟩ rfl ((Q3 s).length+1) (qch s.size s 0) qb0 sF (by rw[qe8 s h2];simp;omega) rfl rfl rfl hf h0;rw[<- qe8 s h2] at r1;rw[r1];have:sF.rules=rs:=by rw[r2];rfl
    rw[this]
   ·rw[if_neg h0] at hov ⊢;rw[hov,if_pos (by simp),qcc]
def qa9(s:PSt)(r:List Tok):Option Am:=match Q0 s r with
 | (_,some _)=>none
 | (st,none)=>if st.st=5/\st.rules=[] then st.atoms.head? else none
def okR(E:RT)(l:Lk)(r:List Tok):Prop:=(Qv l (r.map Qo++[E])).1=0
theorem qd7(h:(qaf s x.kind x.text x.runes).1≠0):qa9 s (x::r)=none:=by
 unfold qa9 Q0;rw[if_neg h]
theorem qhm(h1:Qe s.st x.kind=true)(h2:qv s.st x.runes s.rules.length s.atoms.length (Qf s.atoms)=false):qa9 s (x::r)=qa9 (qau s x.kind x.text) r:=by
 have ht:=qbp (s:=s) (k:=x.kind) (t:=x.text) (r:=x.runes) h1 h2;unfold qa9
 conv=>lhs;unfold Q0
 rw[ht,if_pos rfl]
theorem q40(x:Tok):qat l (Qo x)=false:=by
 unfold qat;have:(Qo x).kind≠4:=q39 x.kind;simp[this]
theorem qly(h:(qx l (Qo x)).e≠0):¬okR E l (x::r):=by
 unfold okR;rw[List.map_cons,List.cons_append];unfold Qv;rw[q40];simp[h]
theorem qpz{l':Lk}(h:qx l (Qo x)=l')(h0:l'.e=0):okR E l (x::r)↔okR E l' r:=by
 unfold okR;rw[List.map_cons,List.cons_append]
 conv=>lhs;unfold Qv
 rw[q40,h];simp[h0]
def Left(s:PSt):Prop:=s.rules≠[]\/(s.st≠5/\s.st≠0/\1<=s.atoms.length/\(s.st≠1->2<=s.atoms.length))
theorem q2y(l:List Am)(x:Tm):(qcl l x).length=l.length:=by
 unfold qcl
 cases h:l.getLast? with
 | none=>rfl
 | some a=>
  have:l≠[]:=by rintro rfl;simp at h
  have:0 < l.length:=List.length_pos_iff.2 this;simp;omega
theorem q4e{k:Int}{t:ByteArray}(h:Left s)(hf:Qe s.st k=true):Left (qau s k t):=by
 rcases h with h | ⟨h5,h0,h1,h2⟩
 ·left;unfold qau qby qav qdm
  repeat' split
  all_goals simp_all
 ·by_cases k1:k=1\/k=2
  ·right;unfold qau qby;rw[if_pos k1];by_cases h3:s.st=3
   ·rw[if_pos h3];have:=h2 (by omega);refine⟨by simp,by simp,?_,λ_=>?_⟩ <;> simp only[q2y] <;> omega
   ·rw[if_neg h3];refine⟨by simp,by simp,?_,λ_=>?_⟩ <;> simp <;> omega
  ·unfold qau;rw[if_neg k1];by_cases k3:k=3
   ·rw[if_pos k3];have hs:s.st=2:=by unfold Qe at hf;subst k3;split at hf <;> simp_all
    have:=h2 (by omega);exact .inr ⟨by simp,by simp,h1,λ_=>this⟩
   ·rw[if_neg k3];by_cases k4:k=4
    ·rw[if_pos k4];have hs:s.st=4:=by unfold Qe at hf;subst k4;simp at hf;by_cases h4:s.st=4;exact h4;simp_all
     have:=h2 (by omega);right;unfold qdm;rw[if_neg (by omega)];exact⟨by simp,by simp,h1,λ_=>this⟩
    ·rw[if_neg k4];by_cases k5:k=5
     ·rw[if_pos k5];right;by_cases hs:s.st=4
      ·rw[if_pos hs];have:=h2 (by omega);exact⟨by simp,by simp,h1,λ_=>this⟩
      ·rw[if_neg hs];exact⟨by simp,by simp,h1,λh=>absurd rfl h⟩
     ·rw[if_neg k5];by_cases k7:k=7
      ·rw[if_pos k7];exact .inr ⟨by simp,by simp,h1,λh=>absurd rfl h⟩
      ·rw[if_neg k7];by_cases k6:k=6
       ·rw[if_pos k6];left;unfold qav
        cases ha:s.atoms with
        | nil=>rw[ha] at h1;simp at h1
        | cons a l=>simp
       ·rw[if_neg k6];exact .inr ⟨h5,h0,h1,h2⟩
theorem qrx:∀(r:List Tok) (s:PSt),Left s->qa9 s r=none
 | [],s,h=>by
  unfold qa9 Q0;simp only;rw[if_neg];rintro⟨a,b⟩;rcases h with h | h
  ·exact h b
  ·exact h.1 a
 | x::r,s,h=>by
  by_cases hf:Qe s.st x.kind=true
  ·by_cases he:qv s.st x.runes s.rules.length s.atoms.length (Qf s.atoms)=true
   ·exact qd7 (by rw[qfy hf he];simp)
   ·rw[Bool.not_eq_true] at he;rw[qhm hf he];exact qrx r _ (q4e h hf)
  ·rw[Bool.not_eq_true] at hf;exact qd7 (by rw[qb9 hf];simp)
theorem qrf(a:Am)(vs:List ByteArray)(r:List Tok):qa9 ⟨5,[],[a],vs⟩ r=if r=[] then some a else none:=by
 cases r with
 | nil=>unfold qa9 Q0;simp
 | cons x r=>
  rw[if_neg (by simp)];by_cases hf:Qe 5 x.kind=true
  ·by_cases he:qv 5 x.runes 0 1 (Qf [a])=true
   ·exact qd7 (s:=⟨5,[],[a],vs⟩) (by rw[qfy hf he];simp)
   ·rw[Bool.not_eq_true] at he;rw[qhm (s:=⟨5,[],[a],vs⟩) hf he];apply qrx;have hk:x.kind=7\/x.kind=6:=by unfold Qe at hf;simpa using hf
    rcases hk with hk | hk
    ·rw[hk];right;unfold qau;simp
    ·rw[hk];left;unfold qau qav;simp
  ·rw[Bool.not_eq_true] at hf;exact qd7 (s:=⟨5,[],[a],vs⟩) (by rw[qb9 hf];simp)
theorem qza(hE:E.kind=4){l:Lk}(hw:l.want=6)(r:List Tok):okR E l r↔r=[]:=by
 cases r with
 | nil=>simp only[iff_true];unfold okR Qv qat;simp[hE,hw]
 | cons x r=>
  simp only[reduceCtorEq,iff_false];apply qly;unfold qx Q9;simp[hw]
def qnu(x:Tok):Prop:=(x.kind=1\/x.kind=2)/\x.runes<=8
theorem qth(hw:l.want=3)(he:l.e=0)(x:Tok)(r:List Tok):(qnu x/\l.args+1<=2->(okR E l (x::r)↔okR E {l with args:=l.args+1,want:=4} r))/\(¬(qnu x/\l.args+1<=2)->¬okR E l (x::r)):=by
 constructor
 ·rintro⟨⟨hk,hr⟩,h2⟩;refine qpz ?_ he;have hk':qc6 x.kind=1\/qc6 x.kind=2:=by rcases hk with h | h <;> rw[h] <;> decide
  unfold qx Qq Qz Q1 Qo;simp[hw];rw[if_neg (by omega),if_neg (by omega)]
 ·intro h;apply qly;have hm1:=qiz x.kind;have hm2:=qxs x.kind;unfold qx Qq Qz Q1 Qo;unfold qnu at h;simp[hw];split
  ·simp
  ·rw[if_pos (by omega)];simp
theorem qor(rel:ByteArray)(l:List Tm)(vs:List ByteArray)(x:Tok)(r:List Tok):(qnu x/\l.length+1<=2->qa9 ⟨3,[],[⟨rel,l⟩],vs⟩ (x::r)=qa9 ⟨4,[],[⟨rel,l++[qca vs x.kind x.text]⟩],qbi vs x.kind x.text⟩ r)/\(l.length<=2->¬(qnu x/\l.length+1<=2)->qa9 ⟨3,[],[⟨rel,l⟩],vs⟩ (x::r)=none):=by
 constructor
 ·rintro⟨⟨hk,hr⟩,h2⟩;rw[qhm (s:=⟨3,[],[⟨rel,l⟩],vs⟩) (by unfold Qe;rcases hk with h | h <;> simp[h]) (by unfold qv Qf;simp;omega)];congr 1;unfold qau qby qcl;simp[hk]
 ·intro h2 h;by_cases hk:x.kind=1\/x.kind=2
  ·refine qd7 (s:=⟨3,[],[⟨rel,l⟩],vs⟩) ?_;rw[qfy (by unfold Qe;rcases hk with h | h <;> simp[h]) (by unfold qv Qf;unfold qnu at h;simp;omega)];simp
  ·refine qd7 (s:=⟨3,[],[⟨rel,l⟩],vs⟩) ?_;rw[qb9 (by unfold Qe;simp;omega)];simp
theorem qpy(hw:l.want=4)(ha:l.alone=true)(he:l.e=0)(x:Tok)(r:List Tok):(x.kind=5->(okR E l (x::r)↔okR E {l with want:=3} r))/\(x.kind=4->(okR E l (x::r)↔okR E {l with want:=6} r))/\(x.kind≠5->x.kind≠4->¬okR E l (x::r)):=by
 refine⟨λh=>qpz ?_ he,λh=>qpz ?_ he,λh h'=>qly ?_⟩
 ·unfold qx Q9 Qo qc6;simp[hw,h]
 ·unfold qx Q9 Qo qc6;simp[hw,h,ha]
 ·have hm:=qhs x.kind;have hm1:=qjh x.kind;unfold qx Q9 Qo;simp[hw];rw[if_neg (by omega),if_neg (by omega)];simp
theorem qnb(a:Am)(vs:List ByteArray)(x:Tok)(hf:qc5 x)(r:List Tok):(x.kind=5->qa9 ⟨4,[],[a],vs⟩ (x::r)=qa9 ⟨3,[],[a],vs⟩ r)/\(x.kind=4->qa9 ⟨4,[],[a],vs⟩ (x::r)=qa9 ⟨5,[],[a],vs⟩ r)/\(x.kind≠5->x.kind≠4->qa9 ⟨4,[],[a],vs⟩ (x::r)=none):=by
 refine⟨λh=>?_,λh=>?_,λh h'=>?_⟩
 ·unfold qc5 at hf;rw[qhm (s:=⟨4,[],[a],vs⟩) (by unfold Qe;simp[h]) (by unfold qv;simp;omega)];unfold qau;simp[h]
 ·unfold qc5 at hf;rw[qhm (s:=⟨4,[],[a],vs⟩) (by unfold Qe;simp[h]) (by unfold qv;simp;omega)];unfold qau qdm;simp[h]
 ·refine qd7 (s:=⟨4,[],[a],vs⟩) ?_;rw[qb9 (by unfold Qe;simp[h,h'])];simp
theorem qhe(hE:E.kind=4){l:Lk}(hw:l.want=3\/l.want=4\/l.want=2):¬okR E l []:=by
 show ¬(Qv l [E]).1=0;unfold Qv qat;rw[if_neg (by simp;omega)]
 have:(qx l E).e=2:=by
  unfold qx Qq Qz Q9;rcases hw with h | h | h <;> simp[h,hE]
 simp[this]
theorem qfj(h:s.st≠5):qa9 s []=none:=by unfold qa9 Q0;simp[h]
theorem qx1(E:RT)(hE:E.kind=4)(ts:List Tok)(hf:∀x∈ts,qc5 x):(okR E (lk0 true) ts->qa9 qb0 ts=qpr (ts.map Qo++[E]))/\(¬okR E (lk0 true) ts->qa9 qb0 ts=none):=by
 cases ts with
 | nil=>
  have hn:¬okR E (lk0 true) []:=by unfold okR Qv qat qx Qq Qz lk0;simp[hE]
  exact⟨λh=>absurd h hn,λ_=>qfj (by simp[qb0])⟩
 | cons x1 ts=>
  by_cases h1:x1.kind=1/\x1.runes<=8
  ·have r1:okR E (lk0 true) (x1::ts)↔okR E ⟨2,false,true,1,0,0,0⟩ ts:=qpz (by unfold qx Qq Qz Q1 Qo qc6 lk0;simp[h1.1];omega) rfl
   have c1:qa9 qb0 (x1::ts)=qa9 ⟨2,[],[⟨x1.text,[]⟩],[]⟩ ts:=by
    rw[qhm (s:=qb0) (by unfold Qe qb0;simp[h1.1]) (by unfold qv qb0;simp;omega)];unfold qau qby qb0;simp[h1.1]
   rw[r1,c1]
   cases ts with
   | nil=>exact⟨λh=>absurd h (qhe hE (.inr (.inr rfl))),λ_=>qfj (by simp[qb0])⟩
   | cons x2 ts=>
    have f2:=hf x2 (by simp);by_cases h2:x2.kind=3
    ·have r2:okR E ⟨2,false,true,1,0,0,0⟩ (x2::ts)↔okR E ⟨3,false,true,1,0,0,0⟩ ts:=qpz (by unfold qx Q9 Qo qc6;simp[h2]) rfl
     have c2:qa9 ⟨2,[],[⟨x1.text,[]⟩],[]⟩ (x2::ts)=qa9 ⟨3,[],[⟨x1.text,[]⟩],[]⟩ ts:=by
      rw[qhm (s:=⟨2,[],[⟨x1.text,[]⟩],[]⟩) (by unfold Qe;simp[h2]) (by unfold qv;unfold qc5 at f2;simp;omega)];unfold qau;simp[h2]
     rw[r2,c2]
     cases ts with
     | nil=>exact⟨λh=>absurd h (qhe hE (.inl rfl)),λ_=>qfj (by simp[qb0])⟩
     | cons x3 ts=>
      have ra:=qth (E:=E) (l:=⟨3,false,true,1,0,0,0⟩) rfl rfl x3 ts;have ca:=qor x1.text [] [] x3 ts;by_cases h3:qnu x3
      ·obtain⟨e1,e2⟩:=qmd [] x3 h3.1;rw[ra.1 ⟨h3,by simp⟩,ca.1 ⟨h3,by simp⟩]
       cases ts with
       | nil=>exact⟨λh=>absurd h (qhe hE (.inr (.inl rfl))),λ_=>qfj (by simp[qb0])⟩
       | cons x4 ts=>
        have rb:=qpy (E:=E) (l:=⟨4,false,true,1,0,0+1,0⟩) rfl rfl rfl x4 ts;have cb:=qnb ⟨x1.text,[]++[qca [] x3.kind x3.text]⟩ (qbi [] x3.kind x3.text) x4 (hf x4 (by simp)) ts;by_cases h4:x4.kind=4
        ·have e4:(Qo x4).kind=41:=(qjh _).2 h4;rw[rb.2.1 h4,cb.2.1 h4,qza hE rfl,qrf];refine⟨λh=>?_,λh=>by rw[if_neg h]⟩;rw[if_pos h];subst h;simp only[List.map_cons,List.map_nil,List.cons_append,List.nil_append];unfold qpr qab;simp only[if_pos e4,e1];rw[qjq h1.1]
        ·by_cases h5:x4.kind=5
         ·rw[rb.1 h5,cb.1 h5];have e4:(Qo x4).kind≠41:=λh=>h4 ((qjh _).1 h)
          cases ts with
          | nil=>exact⟨λh=>absurd h (qhe hE (.inl rfl)),λ_=>qfj (by simp[qb0])⟩
          | cons x5 ts=>
           have ra:=qth (E:=E) (l:=⟨3,false,true,1,0,0+1,0⟩) rfl rfl x5 ts;have ca:=qor x1.text ([]++[qca [] x3.kind x3.text]) (qbi [] x3.kind x3.text) x5 ts;by_cases h6:qnu x5
           ·obtain⟨e5,e6⟩:=qmd (qbi [] x3.kind x3.text) x5 h6.1;rw[ra.1 ⟨h6,by simp⟩,ca.1 ⟨h6,by simp⟩]
            cases ts with
            | nil=>exact⟨λh=>absurd h (qhe hE (.inr (.inl rfl))),λ_=>qfj (by simp[qb0])⟩
            | cons x6 ts=>
             have rb:=qpy (E:=E) (l:=⟨4,false,true,1,0,0+1+1,0⟩) rfl rfl rfl x6 ts;have cb:=qnb ⟨x1.text,[]++[qca [] x3.kind x3.text]++[qca (qbi [] x3.kind x3.text) x5.kind x5.text]⟩ (qbi (qbi [] x3.kind x3.text) x5.kind x5.text) x6 (hf x6 (by simp)) ts;by_cases h7:x6.kind=4
             ·have e7:(Qo x6).kind=41:=(qjh _).2 h7;rw[rb.2.1 h7,cb.2.1 h7,qza hE rfl,qrf];refine⟨λh=>?_,λh=>by rw[if_neg h]⟩;rw[if_pos h];subst h;simp only[List.map_cons,List.map_nil,List.cons_append,List.nil_append];unfold qpr qab;simp only[if_neg e4];unfold qab;simp only[if_pos e7,e1,e2,e5];rw[qjq h1.1]
             ·by_cases h8:x6.kind=5
              ·rw[rb.1 h8,cb.1 h8]
               cases ts with
               | nil=>exact⟨λh=>absurd h (qhe hE (.inl rfl)),λ_=>qfj (by simp[qb0])⟩
               | cons x7 ts=>
                have ra:=qth (E:=E) (l:=⟨3,false,true,1,0,0+1+1,0⟩) rfl rfl x7 ts;have ca:=qor x1.text ([]++[qca [] x3.kind x3.text]++[qca (qbi [] x3.kind x3.text) x5.kind x5.text]) (qbi (qbi [] x3.kind x3.text) x5.kind x5.text) x7 ts;exact⟨λh=>absurd h (ra.2 (by simp)),λ_=>ca.2 (by simp) (by simp)⟩
              ·exact⟨λh=>absurd h (rb.2.2 h8 h7),λ_=>cb.2.2 h8 h7⟩
           ·exact⟨λh=>absurd h (ra.2 (λh=>h6 h.1)),λ_=>ca.2 (by simp) (λh=>h6 h.1)⟩
         ·exact⟨λh=>absurd h (rb.2.2 h5 h4),λ_=>cb.2.2 h5 h4⟩
      ·exact⟨λh=>absurd h (ra.2 (λh=>h3 h.1)),λ_=>ca.2 (by simp) (λh=>h3 h.1)⟩
    ·refine⟨λh=>absurd h (qly ?_),λ_=>?_⟩
     ·have:=qtb x2.kind;unfold qx Q9 Qo;simp;rw[if_neg (by omega)];simp
     ·refine qd7 (s:=⟨2,[],[⟨x1.text,[]⟩],[]⟩) ?_;rw[qb9 (by unfold Qe;simp[h2])];simp
  ·refine⟨λh=>absurd h (qly ?_),λ_=>?_⟩
   ·have:=qiz x1.kind;by_cases hk:qc6 x1.kind=1
    ·have hr:8 < x1.runes:=by omega
     unfold qx Qq Qz Q1 Qo lk0;simp[hk,hr]
    ·unfold qx Qq Qz Q1 Qo lk0;simp[hk]
   ·refine qd7 (s:=qb0) ?_;by_cases hk:x1.kind=1
    ·rw[qfy (by unfold Qe qb0;simp[hk]) (by unfold qv;simp;omega)];simp
    ·rw[qb9 (by unfold Qe qb0;simp[hk])];simp
theorem qps(s:ByteArray):qgq s=qc7 s:=by
 have hz:(R s 0).length<=300->s.size<=1200:=λh=>by have:=qcs s;rw[<- qcc] at this;omega
 unfold qgq qc7;rw[<- qcc];by_cases h3:300 < (R s 0).length
 ·rw[if_pos h3,if_pos h3]
 ·rw[if_neg h3,if_neg h3];have hts:=qe8 s (hz (by omega));have h:=qx1 ⟨4,⟨#[]⟩,(R s 0).length,0⟩ rfl (qch s.size s 0) (qjr s.size s 0);rw[hts];unfold okR at h;unfold qa9 at h;by_cases ho:(Qv (lk0 true) ((qch s.size s 0).map Qo++[⟨4,⟨#[]⟩,(R s 0).length,0⟩])).1=0
  ·rw[if_neg (by simpa using ho),<- h.1 ho];split <;> simp_all
  ·rw[if_pos ho];have:=h.2 ho;split <;> simp_all
