/- A part -/
import Derived.Test.YtjajnhemgphefaaGreatDoorKRules
import Derived.Test.YtjajnhemgphefaaGreatDoorKSim2
set_option linter.all false
namespace Go.Proofs.YtjajnhemgphefaaGreatDoor
open Go renaming World->Wq,Value->Vq
theorem qnu(a:Am)(rest:List Am):∀(aa:List Am),qac (aa++a::rest) a.rel=match qcw aa a.rel.data.toList with | some n=>n | none=>a.args.length
 | []=>by simp[qac,qcw,qlb]
 | b::aa=>by
  have ih:=qnu a rest aa;simp only[List.cons_append,qac,qlb];by_cases h:(b.rel.data.toList == a.rel.data.toList)=true
  .rw[if_pos h];simp only[qcw,List.find?_cons,h];rfl
  .rw[if_neg h,ih];have h':(b.rel.data.toList == a.rel.data.toList)=false:=by simpa using h
   simp only[qcw,List.find?_cons,h']
theorem qxa(aa:List Am)(a:Am)(rest:List Am):qg4 (aa++a::rest) a=!qhb aa a:=by
 unfold qg4 qhb;rw[qnu]
 cases qcw aa a.rel.data.toList with
 | none=>simp
 | some n=>by_cases h:n=a.args.length <;> simp[h]
theorem qsu:∀(l aa rest:List Am),qdu aa l=if l.any (qg4 (aa++l++rest))=true then none else some (aa++l)
 | [],aa,rest=>by simp[qdu]
 | a::l,aa,rest=>by
  have hb:=qxa aa a (l++rest);have e:aa++(a::l)++rest=aa++a::(l++rest):=by simp
  unfold qdu;rw[e];simp only[List.any_cons,hb];by_cases hf:qhb aa a=true
  .rw[if_pos hf,hf];have ih:=qsu l (aa++[a]) rest;have e2:aa++[a]++l++rest=aa++a::(l++rest):=by simp
   rw[ih,e2];simp
  .rw[if_neg hf];have ac:qhb aa a=false:=by simpa using hf
   rw[ac];simp
def ql9(o:Option Nat):Int:=match o with | some n=>n | none=>-1
theorem qkh:∀(rs:List Rl) (aa:List Am) (i:Nat),qah aa i rs=ql9 (qa9 (qb5 (aa++qap rs)) rs i)
 | [],aa,i=>by simp[qah,qa9,ql9]
 | r::rs,aa,i=>by
  have hs:=qsu (qx r) aa (qap rs);have e:aa++qx r++qap rs=aa++qap (r::rs):=by simp[qap]
  rw[e] at hs;have hb:qb5 (aa++qap (r::rs)) r=(qx r).any (qg4 (aa++qap (r::rs))):=rfl;unfold qah qa9;rw[hb];show (match qdu aa (qx r) with | none=>(i:Int) | some s=>qah s (i+1) rs)=_;rw[hs];by_cases hx:(qx r).any (qg4 (aa++qap (r::rs)))=true
  .rw[if_pos hx,if_pos hx];rfl
  .rw[if_neg hx,if_neg hx];have ih:=qkh rs (aa++qx r) (i+1);have e3:aa++qx r++qap rs=aa++qap (r::rs):=e;rw[e3] at ih;exact ih
theorem q1e(r:Rl):qdm r=qdz r:=by
 unfold qdm qdz;congr 1;funext t;unfold qdd qgr
 cases h:t.name.toList.isEmpty with
 | false=>rfl
 | true=>
  have h0:t.name.toList=[]:=by simpa using h
  have:qgk r t.name t.num=qy r.body t.num:=by
   unfold qgk qy qka;congr 1;funext a;congr 1;funext t';unfold qzy qhm;rw[h0]
   cases ht:t'.name.toList with
   | nil=>
    by_cases hn:t.num=t'.num
    .simp[hn]
    .have ad:¬t'.num=t.num:=λe=>hn e.symm;simp[hn,ad]
   | cons c cs=>simp
  rw[this]
theorem qnz(p:Rl->Bool):∀(rs:List Rl) (i:Nat),qcu p i rs=ql9 (qa9 p rs i)
 | [],i=>rfl
 | r::rs,i=>by
  unfold qcu qa9;by_cases h:p r=true
  .rw[if_pos h,if_pos h];rfl
  .rw[if_neg h,if_neg h];exact qnz p rs (i+1)
theorem qrf(rs:List Rl):qci rs=ql9 (qa9 qdz rs 0):=by
 unfold qci;rw[qnz];have:qdm=qdz:=funext q1e;rw[this]
theorem qp4:∀(rs:List Rl) (ns:List By) (i:Nat),qa2 ns i rs=ql9 (qaz ns rs i)
 | [],ns,i=>rfl
 | r::rs,ns,i=>by
  unfold qa2 qaz;by_cases h:8 < (nmL ns (Qp (qx r))).length
  .rw[if_pos h,if_pos h];rfl
  .rw[if_neg h,if_neg h];exact qp4 rs _ (i+1)
theorem qr3(rs:List Rl):qdk rs=((qbg rs).1,((qbg rs).2:Int)):=by
 unfold qdk qbg;rw[qkh,qrf,qp4];simp only[List.nil_append]
 cases qa9 (qb5 (qap rs)) rs 0 with
 | some i=>simp[ql9]
 | none=>
  cases qa9 qdz rs 0 with
  | some i=>simp[ql9]
  | none=>
   cases qaz [] rs 0 with
   | some i=>simp[ql9]
   | none=>simp[ql9]
end Go.Proofs.YtjajnhemgphefaaGreatDoor
namespace Go.Proofs.YtjajnhemgphefaaGreatDoor
open Go renaming World->Wq,Value->Vq
open Go.RowKit Go.Shelf
variable {s:PSt} {x:Tok} {r:List Tok} {l:Lk} {E:RT}
theorem qy4(s:By):∀(f i:Nat),s.size<=i+f->Lib.runeCountFrom s f i=(R s i).length
 | 0,i,h=>by rw[qil s i (by omega)];rfl
 | f+1,i,h=>by
  unfold Lib.runeCountFrom;by_cases hi:i < s.size
  .have h1:=Lib.decode_width_pos s i hi;rw[if_pos hi,qe6 s i hi,qy4 s f _ (by omega)];simp;omega
  .rw[if_neg hi,qil s i hi];rfl
theorem qcf(s:By):(R s 0).length=Lib.runeCount s:=(qy4 s s.size 0 (by omega)).symm
theorem Qfp(s:By):(R s 0).length<=s.size:=by rw[qcf];exact Lib.runeCount_le s
theorem qfk(s:By)(h:s.size<=1200):Q6 s=(qcr s.size s 0).map Qn++[⟨4,⟨#[]⟩,(R s 0).length,0⟩]:=by
 unfold Q6;rw[qho s.size s 0 zl h,qfm _ s.size _ _ zl (Qfp s)]
theorem qj6:∀(f:Nat) (s:By) (p:Nat),∀x∈qcr f s p,qdg x
 | 0,s,p,x,hx=>by simp[qcr] at hx
 | f+1,s,p,x,hx=>by
  unfold qcr at hx;split at hx
  .simp at hx
  split at hx
  .exact qj6 f _ _ x hx
  split at hx
  .rcases List.mem_cons.1 hx with rfl | hx
   .unfold qdg Q8;simp only
    repeat' split
    all_goals simp
   .exact qj6 f _ _ x hx
  .simp at hx
theorem q8q:qy5 qb2 (lk0 false):=by
 refine⟨rfl,rfl,rfl,by decide,by decide,rfl,λh=>absurd rfl h,λh=>absurd rfl h,λh=>?_,λh=>?_,λh=>?_,λh=>?_,λh=>?_⟩
 all_goals (simp[qb2] at h)
theorem Qb5:qmp qb2:=⟨by decide,by decide,by simp[qb2],λ_=>rfl,λh=>absurd rfl h,λh=>absurd rfl h,by simp[qb2],by simp[qb2]⟩
theorem qqf(s:By)(h:(R s 0).length<=300)(h2:s.size<=1200) :
  qay s=match qd0 s with | .error ep=>.error ep | .ok rs=>if (qbg rs).1≠0 then .error (qbg rs) else .ok rs:=by
 have ab:=qwi ⟨4,⟨#[]⟩,(R s 0).length,0⟩ rfl (qcr s.size s 0) qb2 (lk0 false) q8q Qb5 (qj6 _ _ _);rw[<- qfk s h2] at ab;unfold qay qd0;rw[if_neg (by omega)]
 cases hf:Q2 qb2 (qcr s.size s 0) with
 | mk sF o=>
  rw[hf] at ab
  cases o with
  | some ep=>
   simp only at ab ⊢;rw[ab.1,if_pos ab.2]
  | none=>
   simp only at ab ⊢;by_cases h0:sF.st=0
   .rw[if_pos h0] at ab ⊢;rw[ab,if_neg (by simp)];obtain⟨rs,r1,r2⟩:=qqp ⟨4,⟨#[]⟩,(R s 0).length,0⟩ rfl ((Q6 s).length+1) (qcr s.size s 0) qb2 sF (by rw[qfk s h2];simp;omega) rfl rfl rfl hf h0;rw[<- qfk s h2] at r1;rw[r1];have:sF.rules=rs:=by rw[r2];rfl
    rw[this]
   .rw[if_neg h0] at ab ⊢;rw[ab,if_pos (by simp),qcf]
def qa8(s:PSt)(r:List Tok):Option Am:=match Q2 s r with
 | (_,some _)=>none
 | (st,none)=>if st.st=5/\st.rules=[] then st.atoms.head? else none
def okR(E:RT)(l:Lk)(r:List Tok):Prop:=(Qw l (r.map Qn++[E])).1=0
theorem qec(h:(qae s x.kind x.text x.runes).1≠0):qa8 s (x::r)=none:=by
 unfold qa8 Q2;rw[if_neg h]
theorem qhv(h1:Qk s.st x.kind=true)(h2:qv s.st x.runes s.rules.length s.atoms.length (Ql s.atoms)=false):qa8 s (x::r)=qa8 (qat s x.kind x.text) r:=by
 have ht:=qbq (s:=s) (k:=x.kind) (t:=x.text) (r:=x.runes) h1 h2;unfold qa8
 conv=>lhs;unfold Q2
 rw[ht,if_pos rfl]
theorem q52(x:Tok):qas l (Qn x)=false:=by
 unfold qas;have:(Qn x).kind≠4:=q5b x.kind;simp[this]
theorem qme(h:(qw l (Qn x)).e≠0):¬okR E l (x::r):=by
 unfold okR;rw[List.map_cons,List.cons_append];unfold Qw;rw[q52];simp[h]
theorem qqk{l':Lk}(h:qw l (Qn x)=l')(h0:l'.e=0):okR E l (x::r)↔okR E l' r:=by
 unfold okR;rw[List.map_cons,List.cons_append]
 conv=>lhs;unfold Qw
 rw[q52,h];simp[h0]
def Left(s:PSt):Prop:=s.rules≠[]\/(s.st≠5/\s.st≠0/\1<=s.atoms.length/\(s.st≠1->2<=s.atoms.length))
theorem q3w(l:List Am)(x:Tm):(qco l x).length=l.length:=by
 unfold qco
 cases h:l.getLast? with
 | none=>rfl
 | some a=>
  have:l≠[]:=by rintro rfl;simp at h
  have:0 < l.length:=List.length_pos_iff.2 this;simp;omega
theorem q5g{k:Int}{t:By}(h:Left s)(hf:Qk s.st k=true):Left (qat s k t):=by
 rcases h with h | ⟨h5,h0,h1,h2⟩
 .left;unfold qat qbx qau qdq
  repeat' split
  all_goals simp_all
 .by_cases k1:k=1\/k=2
  .right;unfold qat qbx;rw[if_pos k1];by_cases h3:s.st=3
   .rw[if_pos h3];have:=h2 (by omega);refine⟨by simp,by simp,?_,λ_=>?_⟩ <;> simp only[q3w] <;> omega
   .rw[if_neg h3];refine⟨by simp,by simp,?_,λ_=>?_⟩ <;> simp <;> omega
  .unfold qat;rw[if_neg k1];by_cases k3:k=3
   .rw[if_pos k3];have hs:s.st=2:=by unfold Qk at hf;subst k3;split at hf <;> simp_all
    have:=h2 (by omega);exact .inr ⟨by simp,by simp,h1,λ_=>this⟩
   .rw[if_neg k3];by_cases k4:k=4
    .rw[if_pos k4];have hs:s.st=4:=by unfold Qk at hf;subst k4;simp at hf;by_cases h4:s.st=4;exact h4;simp_all
     have:=h2 (by omega);right;unfold qdq;rw[if_neg (by omega)];exact⟨by simp,by simp,h1,λ_=>this⟩
    .rw[if_neg k4];by_cases k5:k=5
     .rw[if_pos k5];right;by_cases hs:s.st=4
      .rw[if_pos hs];have:=h2 (by omega);exact⟨by simp,by simp,h1,λ_=>this⟩
      .rw[if_neg hs];exact⟨by simp,by simp,h1,λh=>absurd rfl h⟩
     .rw[if_neg k5];by_cases k7:k=7
      .rw[if_pos k7];exact .inr ⟨by simp,by simp,h1,λh=>absurd rfl h⟩
      .rw[if_neg k7];by_cases k6:k=6
       .rw[if_pos k6];left;unfold qau
        cases ha:s.atoms with
        | nil=>rw[ha] at h1;simp at h1
        | cons a l=>simp
       .rw[if_neg k6];exact .inr ⟨h5,h0,h1,h2⟩
theorem qsj:∀(r:List Tok) (s:PSt),Left s->qa8 s r=none
 | [],s,h=>by
  unfold qa8 Q2;simp only;rw[if_neg];rintro⟨a,b⟩;rcases h with h | h
  .exact h b
  .exact h.1 a
 | x::r,s,h=>by
  by_cases hf:Qk s.st x.kind=true
  .by_cases he:qv s.st x.runes s.rules.length s.atoms.length (Ql s.atoms)=true
   .exact qec (by rw[qf9 hf he];simp)
   .rw[Bool.not_eq_true] at he;rw[qhv hf he];exact qsj r _ (q5g h hf)
  .rw[Bool.not_eq_true] at hf;exact qec (by rw[qb9 hf];simp)
theorem qr5(a:Am)(vs:List By)(r:List Tok):qa8 ⟨5,[],[a],vs⟩ r=if r=[] then some a else none:=by
 cases r with
 | nil=>unfold qa8 Q2;simp
 | cons x r=>
  rw[if_neg (by simp)];by_cases hf:Qk 5 x.kind=true
  .by_cases he:qv 5 x.runes 0 1 (Ql [a])=true
   .exact qec (s:=⟨5,[],[a],vs⟩) (by rw[qf9 hf he];simp)
   .rw[Bool.not_eq_true] at he;rw[qhv (s:=⟨5,[],[a],vs⟩) hf he];apply qsj;have hk:x.kind=7\/x.kind=6:=by unfold Qk at hf;simpa using hf
    rcases hk with hk | hk
    .rw[hk];right;unfold qat;simp
    .rw[hk];left;unfold qat qau;simp
  .rw[Bool.not_eq_true] at hf;exact qec (s:=⟨5,[],[a],vs⟩) (by rw[qb9 hf];simp)
theorem qzx(hE:E.kind=4){l:Lk}(hw:l.want=6)(r:List Tok):okR E l r↔r=[]:=by
 cases r with
 | nil=>simp only[iff_true];unfold okR Qw qas;simp[hE,hw]
 | cons x r=>
  simp only[reduceCtorEq,iff_false];apply qme;unfold qw qaa;simp[hw]
def qoj(x:Tok):Prop:=(x.kind=1\/x.kind=2)/\x.runes<=8
theorem qt2(hw:l.want=3)(he:l.e=0)(x:Tok)(r:List Tok):(qoj x/\l.args+1<=2->(okR E l (x::r)↔okR E {l with args:=l.args+1,want:=4} r))/\(¬(qoj x/\l.args+1<=2)->¬okR E l (x::r)):=by
 constructor
 .rintro⟨⟨hk,hr⟩,h2⟩;refine qqk ?_ he;have ah:qdh x.kind=1\/qdh x.kind=2:=by rcases hk with h | h <;> rw[h] <;> decide
  unfold qw Qq Q1 Q4 Qn;simp[hw];rw[if_neg (by omega),if_neg (by omega)]
 .intro h;apply qme;have ae:=qjc x.kind;have ag:=qyf x.kind;unfold qw Qq Q1 Q4 Qn;unfold qoj at h;simp[hw];split
  .simp
  .rw[if_pos (by omega)];simp
theorem qpb(rel:By)(l:List Tm)(vs:List By)(x:Tok)(r:List Tok):(qoj x/\l.length+1<=2->qa8 ⟨3,[],[⟨rel,l⟩],vs⟩ (x::r)=qa8 ⟨4,[],[⟨rel,l++[qca vs x.kind x.text]⟩],qbh vs x.kind x.text⟩ r)/\(l.length<=2->¬(qoj x/\l.length+1<=2)->qa8 ⟨3,[],[⟨rel,l⟩],vs⟩ (x::r)=none):=by
 constructor
 .rintro⟨⟨hk,hr⟩,h2⟩;rw[qhv (s:=⟨3,[],[⟨rel,l⟩],vs⟩) (by unfold Qk;rcases hk with h | h <;> simp[h]) (by unfold qv Ql;simp;omega)];congr 1;unfold qat qbx qco;simp[hk]
 .intro h2 h;by_cases hk:x.kind=1\/x.kind=2
  .refine qec (s:=⟨3,[],[⟨rel,l⟩],vs⟩) ?_;rw[qf9 (by unfold Qk;rcases hk with h | h <;> simp[h]) (by unfold qv Ql;unfold qoj at h;simp;omega)];simp
  .refine qec (s:=⟨3,[],[⟨rel,l⟩],vs⟩) ?_;rw[qb9 (by unfold Qk;simp;omega)];simp
theorem qqj(hw:l.want=4)(ha:l.alone=true)(he:l.e=0)(x:Tok)(r:List Tok):(x.kind=5->(okR E l (x::r)↔okR E {l with want:=3} r))/\(x.kind=4->(okR E l (x::r)↔okR E {l with want:=6} r))/\(x.kind≠5->x.kind≠4->¬okR E l (x::r)):=by
 refine⟨λh=>qqk ?_ he,λh=>qqk ?_ he,λh h'=>qme ?_⟩
 .unfold qw qaa Qn qdh;simp[hw,h]
 .unfold qw qaa Qn qdh;simp[hw,h,ha]
 .have hm:=qh0 x.kind;have ae:=qjw x.kind;unfold qw qaa Qn;simp[hw];rw[if_neg (by omega),if_neg (by omega)];simp
theorem qnw(a:Am)(vs:List By)(x:Tok)(hf:qdg x)(r:List Tok):(x.kind=5->qa8 ⟨4,[],[a],vs⟩ (x::r)=qa8 ⟨3,[],[a],vs⟩ r)/\(x.kind=4->qa8 ⟨4,[],[a],vs⟩ (x::r)=qa8 ⟨5,[],[a],vs⟩ r)/\(x.kind≠5->x.kind≠4->qa8 ⟨4,[],[a],vs⟩ (x::r)=none):=by
 refine⟨λh=>?_,λh=>?_,λh h'=>?_⟩
 .unfold qdg at hf;rw[qhv (s:=⟨4,[],[a],vs⟩) (by unfold Qk;simp[h]) (by unfold qv;simp;omega)];unfold qat;simp[h]
 .unfold qdg at hf;rw[qhv (s:=⟨4,[],[a],vs⟩) (by unfold Qk;simp[h]) (by unfold qv;simp;omega)];unfold qat qdq;simp[h]
 .refine qec (s:=⟨4,[],[a],vs⟩) ?_;rw[qb9 (by unfold Qk;simp[h,h'])];simp
theorem qhl(hE:E.kind=4){l:Lk}(hw:l.want=3\/l.want=4\/l.want=2):¬okR E l []:=by
 show ¬(Qw l [E]).1=0;unfold Qw qas;rw[if_neg (by simp;omega)]
 have:(qw l E).e=2:=by
  unfold qw Qq Q1 qaa;rcases hw with h | h | h <;> simp[h,hE]
 simp[this]
theorem qft(h:s.st≠5):qa8 s []=none:=by unfold qa8 Q2;simp[h]
theorem qyn(E:RT)(hE:E.kind=4)(ts:List Tok)(hf:∀x∈ts,qdg x):(okR E (lk0 true) ts->qa8 qb2 ts=qqc (ts.map Qn++[E]))/\(¬okR E (lk0 true) ts->qa8 qb2 ts=none):=by
 cases ts with
 | nil=>
  have hn:¬okR E (lk0 true) []:=by unfold okR Qw qas qw Qq Q1 lk0;simp[hE]
  exact⟨λh=>absurd h hn,λ_=>qft (by simp[qb2])⟩
 | cons x1 ts=>
  by_cases h1:x1.kind=1/\x1.runes<=8
  .have r1:okR E (lk0 true) (x1::ts)↔okR E ⟨2,false,true,1,0,0,0⟩ ts:=qqk (by unfold qw Qq Q1 Q4 Qn qdh lk0;simp[h1.1];omega) rfl
   have c1:qa8 qb2 (x1::ts)=qa8 ⟨2,[],[⟨x1.text,[]⟩],[]⟩ ts:=by
    rw[qhv (s:=qb2) (by unfold Qk qb2;simp[h1.1]) (by unfold qv qb2;simp;omega)];unfold qat qbx qb2;simp[h1.1]
   rw[r1,c1]
   cases ts with
   | nil=>exact⟨λh=>absurd h (qhl hE (.inr (.inr rfl))),λ_=>qft (by simp[qb2])⟩
   | cons x2 ts=>
    have f2:=hf x2 (by simp);by_cases h2:x2.kind=3
    .have r2:okR E ⟨2,false,true,1,0,0,0⟩ (x2::ts)↔okR E ⟨3,false,true,1,0,0,0⟩ ts:=qqk (by unfold qw qaa Qn qdh;simp[h2]) rfl
     have c2:qa8 ⟨2,[],[⟨x1.text,[]⟩],[]⟩ (x2::ts)=qa8 ⟨3,[],[⟨x1.text,[]⟩],[]⟩ ts:=by
      rw[qhv (s:=⟨2,[],[⟨x1.text,[]⟩],[]⟩) (by unfold Qk;simp[h2]) (by unfold qv;unfold qdg at f2;simp;omega)];unfold qat;simp[h2]
     rw[r2,c2]
     cases ts with
     | nil=>exact⟨λh=>absurd h (qhl hE (.inl rfl)),λ_=>qft (by simp[qb2])⟩
     | cons x3 ts=>
      have ra:=qt2 (E:=E) (l:=⟨3,false,true,1,0,0,0⟩) rfl rfl x3 ts;have ca:=qpb x1.text [] [] x3 ts;by_cases h3:qoj x3
      .obtain⟨e1,e2⟩:=qmu [] x3 h3.1;rw[ra.1 ⟨h3,by simp⟩,ca.1 ⟨h3,by simp⟩]
       cases ts with
       | nil=>exact⟨λh=>absurd h (qhl hE (.inr (.inl rfl))),λ_=>qft (by simp[qb2])⟩
       | cons x4 ts=>
        have rb:=qqj (E:=E) (l:=⟨4,false,true,1,0,0+1,0⟩) rfl rfl rfl x4 ts;have cb:=qnw ⟨x1.text,[]++[qca [] x3.kind x3.text]⟩ (qbh [] x3.kind x3.text) x4 (hf x4 (by simp)) ts;by_cases h4:x4.kind=4
        .have e4:(Qn x4).kind=41:=(qjw _).2 h4;rw[rb.2.1 h4,cb.2.1 h4,qzx hE rfl,qr5];refine⟨λh=>?_,λh=>by rw[if_neg h]⟩;rw[if_pos h];subst h;simp only[List.map_cons,List.map_nil,List.cons_append,List.nil_append];unfold qqc qaf;simp only[if_pos e4,e1];rw[qj5 h1.1]
        .by_cases h5:x4.kind=5
         .rw[rb.1 h5,cb.1 h5];have e4:(Qn x4).kind≠41:=λh=>h4 ((qjw _).1 h)
          cases ts with
          | nil=>exact⟨λh=>absurd h (qhl hE (.inl rfl)),λ_=>qft (by simp[qb2])⟩
          | cons x5 ts=>
           have ra:=qt2 (E:=E) (l:=⟨3,false,true,1,0,0+1,0⟩) rfl rfl x5 ts;have ca:=qpb x1.text ([]++[qca [] x3.kind x3.text]) (qbh [] x3.kind x3.text) x5 ts;by_cases h6:qoj x5
           .obtain⟨e5,e6⟩:=qmu (qbh [] x3.kind x3.text) x5 h6.1;rw[ra.1 ⟨h6,by simp⟩,ca.1 ⟨h6,by simp⟩]
            cases ts with
            | nil=>exact⟨λh=>absurd h (qhl hE (.inr (.inl rfl))),λ_=>qft (by simp[qb2])⟩
            | cons x6 ts=>
             have rb:=qqj (E:=E) (l:=⟨4,false,true,1,0,0+1+1,0⟩) rfl rfl rfl x6 ts;have cb:=qnw ⟨x1.text,[]++[qca [] x3.kind x3.text]++[qca (qbh [] x3.kind x3.text) x5.kind x5.text]⟩ (qbh (qbh [] x3.kind x3.text) x5.kind x5.text) x6 (hf x6 (by simp)) ts;by_cases h7:x6.kind=4
             .have e7:(Qn x6).kind=41:=(qjw _).2 h7;rw[rb.2.1 h7,cb.2.1 h7,qzx hE rfl,qr5];refine⟨λh=>?_,λh=>by rw[if_neg h]⟩;rw[if_pos h];subst h;simp only[List.map_cons,List.map_nil,List.cons_append,List.nil_append];unfold qqc qaf;simp only[if_neg e4];unfold qaf;simp only[if_pos e7,e1,e2,e5];rw[qj5 h1.1]
             .by_cases h8:x6.kind=5
              .rw[rb.1 h8,cb.1 h8]
               cases ts with
               | nil=>exact⟨λh=>absurd h (qhl hE (.inl rfl)),λ_=>qft (by simp[qb2])⟩
               | cons x7 ts=>
                have ra:=qt2 (E:=E) (l:=⟨3,false,true,1,0,0+1+1,0⟩) rfl rfl x7 ts;have ca:=qpb x1.text ([]++[qca [] x3.kind x3.text]++[qca (qbh [] x3.kind x3.text) x5.kind x5.text]) (qbh (qbh [] x3.kind x3.text) x5.kind x5.text) x7 ts;exact⟨λh=>absurd h (ra.2 (by simp)),λ_=>ca.2 (by simp) (by simp)⟩
              .exact⟨λh=>absurd h (rb.2.2 h8 h7),λ_=>cb.2.2 h8 h7⟩
           .exact⟨λh=>absurd h (ra.2 (λh=>h6 h.1)),λ_=>ca.2 (by simp) (λh=>h6 h.1)⟩
         .exact⟨λh=>absurd h (rb.2.2 h5 h4),λ_=>cb.2.2 h5 h4⟩
      .exact⟨λh=>absurd h (ra.2 (λh=>h3 h.1)),λ_=>ca.2 (by simp) (λh=>h3 h.1)⟩
    .refine⟨λh=>absurd h (qme ?_),λ_=>?_⟩
     .have:=qtx x2.kind;unfold qw qaa Qn;simp;rw[if_neg (by omega)];simp
     .refine qec (s:=⟨2,[],[⟨x1.text,[]⟩],[]⟩) ?_;rw[qb9 (by unfold Qk;simp[h2])];simp
  .refine⟨λh=>absurd h (qme ?_),λ_=>?_⟩
   .have:=qjc x1.kind;by_cases hk:qdh x1.kind=1
    .have hr:8 < x1.runes:=by omega
     unfold qw Qq Q1 Q4 Qn lk0;simp[hk,hr]
    .unfold qw Qq Q1 Q4 Qn lk0;simp[hk]
   .refine qec (s:=qb2) ?_;by_cases hk:x1.kind=1
    .rw[qf9 (by unfold Qk qb2;simp[hk]) (by unfold qv;simp;omega)];simp
    .rw[qb9 (by unfold Qk qb2;simp[hk])];simp
theorem qqd(s:By):qgh s=qcx s:=by
 have hz:(R s 0).length<=300->s.size<=1200:=λh=>by have:=qdv s;rw[<- qcf] at this;omega
 unfold qgh qcx;rw[<- qcf];by_cases h3:300 < (R s 0).length
 .rw[if_pos h3,if_pos h3]
 .rw[if_neg h3,if_neg h3];have af:=qfk s (hz (by omega));have h:=qyn ⟨4,⟨#[]⟩,(R s 0).length,0⟩ rfl (qcr s.size s 0) (qj6 s.size s 0);rw[af];unfold okR at h;unfold qa8 at h;by_cases ho:(Qw (lk0 true) ((qcr s.size s 0).map Qn++[⟨4,⟨#[]⟩,(R s 0).length,0⟩])).1=0
  .rw[if_neg (by simpa using ho),<- h.1 ho];split <;> simp_all
  .rw[if_pos ho];have:=h.2 ho;split <;> simp_all
