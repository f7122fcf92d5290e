/- The engine: Insert. -/
import Derived.Test.YtjajnhemgphefaaGreatDoorJEgO
import Derived.Maps.AppendAt
set_option linter.unusedVariables false
set_option linter.unusedSimpArgs false
set_option maxRecDepth 100000
set_option maxHeartbeats 4000000
namespace Go.Proofs.YtjajnhemgphefaaGreatDoor
open Go renaming World->Wq,Value->Vq
open Go.RowKit Go.Shelf Go.Maps
variable {e e':Eg} {a:Am} {rs:List Rl}
theorem q1e(vs:List ByteArray)(x y:ByteArray):y∈Qc vs x↔y∈vs\/y=x:=by
 unfold Qc Qw;by_cases h:vs.findIdx (Q2 x) < vs.length
 ·rw[if_pos h];have h1:=List.findIdx_getElem (w:=h);rw[qr3] at h1;constructor
  ·exact .inl
  ·rintro (h2 | rfl)
   ·exact h2
   ·rw[h1];exact List.getElem_mem h
 ·rw[if_neg h];simp
theorem qtd:∀(l:List Tm) (vs:List ByteArray) (y:ByteArray),y∈nmL vs l↔y∈vs\/∃t∈l,t.name≠eB/\y=t.name
 | [],vs,y=>by simp[nmL]
 | t::l,vs,y=>by
  have ih:=qtd l (qax vs t) y;have e1:nmL vs (t::l)=nmL (qax vs t) l:=rfl;rw[e1,ih];unfold qax;by_cases h:t.name.toList.isEmpty=true
  ·rw[if_pos h];rw[Q8] at h;constructor
   ·rintro (h1 | ⟨u,hu,h2⟩)
    ·exact .inl h1
    ·exact .inr ⟨u,by simp[hu],h2⟩
   ·rintro (h1 | ⟨u,hu,h2,h3⟩)
    ·exact .inl h1
    ·simp only[List.mem_cons] at hu;rcases hu with rfl | hu
     ·exact absurd h h2
     ·exact .inr ⟨u,hu,h2,h3⟩
  ·rw[if_neg h,q1e];have h':t.name≠eB:=λe=>h ((Q8 _).2 e);constructor
   ·rintro ((h1 | h1) | ⟨u,hu,h2⟩)
    ·exact .inl h1
    ·exact .inr ⟨t,by simp,h',h1⟩
    ·exact .inr ⟨u,by simp[hu],h2⟩
   ·rintro (h1 | ⟨u,hu,h2,h3⟩)
    ·exact .inl (.inl h1)
    ·simp only[List.mem_cons] at hu;rcases hu with rfl | hu
     ·exact .inl (.inr h3)
     ·exact .inr ⟨u,hu,h2,h3⟩
def qog(e:Eg)(a:Am)(t:Int):Int×Eg:=
 if qay e.win e.mark t=true then (8,e) else if qmn e.kept (qb Qg a,t)=true then (9,e)
 else if e.kept.length=24\/8 < (nmL e.names a.args).length then (10,e)
 else (0,{e with names:=nmL e.names a.args,kept:=e.kept++[(qb Qg a,t)]})
def qjx(e:Eg)(s:ByteArray)(t:Int):Int×Eg:=
 match qc7 s with
 | none=>(2,e)
 | some a=>if qaq a=false then (2,e) else if qmk e.rs a.rel=true then (7,e) else if ckR e.rs a≠0 then (ckR e.rs a,e) else if ¬(0<=t/\t<=1000000) then (6,e) else qog e a t
def Qd2(e:Eg)(s:ByteArray):Int×Int×Eg:=
 if q4j s=false then (0,2,e) else if arR e.rs s=0 then (0,7,e) else if e.fds.length=3 then (0,10,e)
 else (e.fds.length,0,{e with fds:=e.fds++[⟨qyu s (arR e.rs s),true,[],[],0⟩]})
def qho(e:Eg)(m:Int):List (Gd×Int):=((e.kept.filter (λd=>!qay e.win m d.2)).filter (λd=>decide (d.2<=m))).map (λd=>(d.1,d.2+e.win))
def q7o(M M':Gd->Option Int)(m q:Int)(f f':Fs):Prop:=
 (f.behind=true/\f'=f)\/(f.behind=false/\∃g1 g2,Qbc M M' f.form g1/\Qbc M' M f.form g2/\((q < ((f.que++qm3 3 g1++qm3 2 g2).length:Int)+1/\f'={f with behind:=true,snap:=[],que:=[]})\/(((f.que++qm3 3 g1++qm3 2 g2).length:Int)+1<=q/\f'={f with que:=f.que++qm3 3 g1++qm3 2 g2++[⟨4,0,⟨#[]⟩,m⟩]})))
def qtt(e:Eg)(m:Int)(e':Eg):Prop:=∃M' fds',qbf e.rs (qho e m++Qk e.rs) M'/\fds'.length=e.fds.length/\(∀i (h:i < e.fds.length) (h':i < fds'.length),q7o e.M M' m e.que e.fds[i] fds'[i])/\e'={e with mark:=m,kept:=e.kept.filter (λd=>!qay e.win m d.2),M:=M',fds:=fds'}
def qq4(e:Eg)(c:Int)(e':Eg)(r:Int×Int):Prop:=
 (¬(0<=c/\c<=1000000)/\e'=e/\r=(0,6))\/((0<=c/\c<=1000000)/\r=(e'.mark,0)/\((c - e.lat<=e.mark/\e'=e)\/(e.mark < c - e.lat/\qtt e (c - e.lat) e')))
theorem qci.mono(h:qci e)(h1:e'.rs=e.rs)(h2:e'.win=e.win)(h3:e'.lat=e.lat)(h4:e'.que=e.que)(h5:e'.mark=e.mark)(h6:e'.names=e.names)(h7:e'.kept=e.kept)(h8:e'.M=e.M)(f3:e'.fds.length<=3)(fds:∀f∈e'.fds,q1z f.form/\f.snap.length<=1000/\f.que.length<=50):qci e':=by
 obtain⟨rs,win,lat,que,mark,names,kept,M,fds'⟩:=e';simp only at *;subst h1 h2 h3 h4 h5 h6 h7 h8;exact⟨h.rs,h.win,h.lat,h.que,h.mark,h.n8,h.nsz,h.nrs,h.k24,h.kept,h.md,f3,fds⟩
theorem q0s{s:ByteArray}(h:q4j s=true):s.size<=32:=by
 unfold q4j at h;simp only[Bool.and_eq_true,Bool.not_eq_true',decide_eq_false_iff_not] at h;have:=qcs s;omega
theorem Qgh(h:qci e)(s:ByteArray):qci (Qd2 e s).2.2:=by
 unfold Qd2;split
 ·exact h
 rename_i hn;split
 ·exact h
 split
 ·exact h
 rename_i h3;have hs:=q0s (s:=s) (by simpa using hn);have hf:=h.f3;refine h.mono rfl rfl rfl rfl rfl rfl rfl rfl (by simp;omega) (λf hf=>?_);rcases List.mem_append.1 hf with hf | hf
 ·exact h.fds f hf
 ·simp only[List.mem_cons,List.not_mem_nil,or_false] at hf;subst hf;refine⟨⟨?_,?_,?_,?_⟩,by simp,by simp⟩
  ·show (qyu s _).args.length<=2;rw[qz9];rcases qfa h.rs s with e | e | e <;> omega
  ·intro t ht;obtain⟨k,hk,rfl⟩:=List.mem_map.1 ht;have:=List.mem_range.1 hk;rcases qfa h.rs s with e | e | e
   ·show k < 6;omega
   ·show k < 6;omega
   ·show k < 6;omega
  ·show s.size<=2000;omega
  ·intro t ht;obtain⟨k,hk,rfl⟩:=List.mem_map.1 ht;show (0:Nat)<=2000;decide
theorem qea(h:qaq a=true):∀t∈a.args,t.name≠eB:=by
 intro t ht e;unfold qaq at h;simp only[Bool.not_eq_true',List.any_eq_false] at h;exact h t ht ((Q8 _).2 e)
theorem qyo(h:ckR rs a=0):arR rs a.rel≠0/\arR rs a.rel=a.args.length:=by
 unfold ckR at h;split at h
 ·cases h
 ·rename_i h0;split at h
  ·rename_i h1;exact⟨h0,h1⟩
  ·cases h
theorem qti{x:ByteArray}(h:arR rs x≠0):x∈qc9 rs:=by
 unfold arR at h
 cases ha:qct (rs.flatMap qy) x.data.toList with
 | none=>rw[ha] at h;exact absurd rfl h
 | some n=>
  obtain⟨a,h1,h2,_⟩:=qtz ha;exact List.mem_map.2 ⟨a,h1,qik h2⟩
theorem q57(h:qic rs){a:Am}(hg:qaq a=true)(hc:ckR rs a=0){ns:List ByteArray}(hns:∀t∈a.args,t.name∈ns):qb Qg a∈uni (qc9 rs) ns/\qdy (arR rs) (qb Qg a):=by
 obtain⟨h0,h1⟩:=qyo hc;have hn:=qea hg;have hl:a.args.length=1\/a.args.length=2:=by rcases qfa h a.rel with e | e | e <;> omega
 rcases hl with hl | hl
 ·match ha:a.args,hl with
  | [t],_=>
   have ht:=hn t (by rw[ha];simp);have hg:qb Qg a=⟨a.rel,t.name,eB⟩:=by unfold qb;rw[ha];show (⟨a.rel,ofT Qg t,eB⟩:Gd)=_;rw[qcn ht]
   rw[hg];exact⟨qe7.2 ⟨qti h0,hns t (by rw[ha];simp),.inl rfl⟩,ht,.inl ⟨by show arR rs a.rel=1;rw[h1,ha];rfl,rfl⟩⟩
 ·match ha:a.args,hl with
  | [t,u],_=>
   have ht:=hn t (by rw[ha];simp);have hu:=hn u (by rw[ha];simp);have hg:qb Qg a=⟨a.rel,t.name,u.name⟩:=by unfold qb;rw[ha];show (⟨a.rel,ofT Qg t,ofT Qg u⟩:Gd)=_;rw[qcn ht,qcn hu]
   rw[hg];exact⟨qe7.2 ⟨qti h0,hns t (by rw[ha];simp),.inr (hns u (by rw[ha];simp))⟩,ht,.inr ⟨by show arR rs a.rel=2;rw[h1,ha];rfl,hu⟩⟩
theorem q8x(h:qci e){a:Am}(hak:qjs a)(hg:qaq a=true)(hc:ckR e.rs a=0){t:Int}(ht:0<=t/\t<=1000000):qci (qog e a t).2:=by
 unfold qog;split
 ·exact h
 split
 ·exact h
 split
 ·exact h
 rename_i hfull;have qde:=qtd a.args e.names;have qix:∀x∈e.names,x∈nmL e.names a.args:=λx hx=>(qde x).2 (.inl hx);have hnm:=qea hg;have h24:=h.k24;refine⟨h.rs,h.win,h.lat,h.que,h.mark,by show (nmL e.names a.args).length<=8;omega,λx hx=>?_,λr hr t ht hne=>qix _ (h.nrs r hr t ht hne),by show (e.kept++_).length<=24;simp;omega,λd hd=>?_,λg hg=>⟨(h.md g hg).1,qv1 qix (h.md g hg).2⟩,h.f3,h.fds⟩
 ·rcases (qde x).1 hx with hx | ⟨u,hu,_,rfl⟩
  ·exact h.nsz x hx
  ·exact (hak.tms u hu).name
 ·rcases List.mem_append.1 hd with hd | hd
  ·have:=h.kept d hd;exact⟨qv1 qix this.1,this.2⟩
  ·simp only[List.mem_cons,List.not_mem_nil,or_false] at hd;subst hd;have:=q57 h.rs hg hc (ns:=nmL e.names a.args) (λu hu=>(qde _).2 (.inr ⟨u,hu,hnm u hu,rfl⟩));exact⟨this.1,this.2,ht⟩
theorem Qab(h:qci e)(s:ByteArray)(hak:∀a,qc7 s=some a->qjs a)(t:Int):qci (qjx e s t).2:=by
 unfold qjx
 cases ha:qc7 s with
 | none=>exact h
 | some a=>
  simp only;split
  ·exact h
  rename_i hg;split
  ·exact h
  split
  ·exact h
  rename_i hc;split
  ·exact h
  rename_i ht;exact q8x h (hak a ha) (by simpa using hg) (by simpa using hc) (by simpa using ht)
theorem qos(h:qci e)(m:Int):q5t e.rs e.names (qho e m):=by
 unfold qho;refine⟨?_,λx hx=>?_⟩
 ·rw[List.length_map];have h1:=List.length_filter_le (λd:Gd×Int=>decide (d.2<=m)) (e.kept.filter (λd=>!qay e.win m d.2));have h2:=List.length_filter_le (λd:Gd×Int=>!qay e.win m d.2) e.kept;have:=h.k24;omega
 ·obtain⟨d,hd,rfl⟩:=List.mem_map.1 hx;have hk:=h.kept d ((List.mem_filter.1 (List.mem_filter.1 hd).1).1);have hw:=h.win;exact⟨hk.1,hk.2.1,by show 0<=d.2+e.win;omega,by show d.2+e.win<=2000000;omega⟩
theorem q6v(h:qci e){m:Int}(hm:0<=m/\m<=1000000)(hv:qtt e m e'):qci e':=by
 obtain⟨M',fds',h1,h2,h3,rfl⟩:=hv;have hf3:=h.f3;refine⟨h.rs,h.win,h.lat,h.que,hm,h.n8,h.nsz,h.nrs,Nat.le_trans (List.length_filter_le _ _) h.k24,λd hd=>h.kept d (List.mem_filter.1 hd).1,qpg h.rs h.nrs (qos h m) h1,by show fds'.length<=3;omega,λf hf=>?_⟩;obtain⟨i,hi,rfl⟩:=List.getElem_of_mem hf;have hi':i < e.fds.length:=by have:i < fds'.length:=hi;omega
 have hfo:=h.fds _ (List.getElem_mem hi');have hq:=h.que;rcases h3 i hi' hi with⟨_,h4⟩ | ⟨_,g1,g2,_,_,⟨_,h4⟩ | ⟨h5,h4⟩⟩
 ·rw[h4];exact hfo
 ·rw[h4];exact⟨hfo.1,by simp,by simp⟩
 ·rw[h4];refine⟨hfo.1,hfo.2.1,?_⟩;show (_++[_]).length<=50;rw[List.length_append];simp only[List.length_cons,List.length_nil];omega
theorem q7d(h:qci e){c:Int}{r:Int×Int}(ht:qq4 e c e' r):qci e':=by
 rcases ht with⟨_,rfl,_⟩ | ⟨hc,_,⟨_,rfl⟩ | ⟨h1,h2⟩⟩
 ·exact h
 ·exact h
 ·have hl:=h.lat;have hmk:=h.mark;exact q6v h ⟨by omega,by omega⟩ h2
theorem qwt(v:Vq)(ns:List ByteArray)(b:Nat)(w:Wq)(h:w.ownsRow b 9 1 v ns.length (ns.map Value.string))(hl:ns.length<=1000) :
  Calls Tryz.prog 83 #[v] w λe w'=>∃(oa:Option Addr) (oc:Nat),e=.returned (.slice oa ns.length oc)/\w'.ownsRow w.heap.size 9 1 (.slice oa ns.length oc) ns.length (ns.map Value.string)/\Below w.heap.size w w':=by
 obtain⟨h0,⟨hv,hn⟩ | ⟨g,cap,cur,hv,hb,hw,h1,h2,h3,h4⟩⟩:=h
 ·subst hv;have hz:ns=[]:=List.eq_nil_of_length_eq_zero hn;subst hz;refine (Tryz.slices_Clone_string_nil 0 0 w).mono ?_;rintro e w' ⟨rfl,rfl⟩;exact⟨none,0,rfl,⟨rfl,.inl ⟨rfl,rfl⟩⟩,Below.refl _ _⟩
 ·subst hv;refine (Tryz.slices_Clone_string g 0 ns.length cap ns w zl (by omega) (λj hj=>?_)).mono ?_
  ·have e1:(ns.map Value.string)[j]?=some (.string ns[j]):=by rw[List.getElem?_map,List.getElem?_eq_getElem hj];rfl
   rw[<- h4,List.getElem?_take,if_pos (by omega)] at e1;simp only[World.cell?,hw,Nat.zero_add];have e2:cur[j]?=some (.string ns[j]):=by simpa using e1
   rw[e2,List.getD_eq_getElem?_getD,List.getElem?_eq_getElem hj];rfl
  ·rintro e w' ⟨v',rfl,ho,_,hb'⟩;rw[List.take_length] at ho;obtain⟨oa,oc,hof⟩:=qn ho;subst hof;exact⟨oa,oc,rfl,ho,hb'⟩
theorem q31(f:Vq)(w:Wq):Calls Tryz.prog 145 #[.slice none 0 0,.func (.func 86) #[] #[f]] w λe w'=>e=.returned (.int .i64 (-1))/\Below w.heap.size w w':=by
 go_enter Tryz.func145,Tryz.ntmps145;go_wp2
 go_loopw [8] (λi wr=>i=.int .i64 0/\Below w.heap.size w wr) (λi _=>0)
 case atStart=>exact⟨rfl,Below.refl _ _⟩
 case round=>
  obtain⟨rfl,hb⟩:=hrel;go_wp2;go_ret;exact⟨rfl,hb⟩
theorem qt9(f:Vq)(w:Wq):Calls Tryz.prog 85 #[.slice none 0 0,.func (.func 86) #[] #[f]] w λe w'=>e=.returned (.slice none 0 0)/\Below w.heap.size w w':=by
 have hI:Hid (∀W,Calls Tryz.prog 145 #[.slice none 0 0,.func (.func 86) #[] #[f]] W λe w'=>e=.returned (.int .i64 (-1))/\Below W.heap.size W w'):=λW=>q31 f W;go_enter Tryz.func85,Tryz.ntmps85
 go_wp2_with (go_at_call 145;refine (hI.out _).mono ?_;rintro e W1 ⟨rfl,hb1⟩)
 go_ret;exact⟨rfl,hb1⟩
theorem qtx(v:Vq)(ns:List ByteArray)(base Bs b:Nat)(va:Vq)(ts:List Tm)(w:Wq)(qae:w.heap[Bs]?=some (Obj.cells #[va] 90))(hs:Qd w b va ts)(hl:ts.length<=2)(qr:w.ownsRow base 9 1 v ns.length (ns.map Value.string))(hbw:base<=w.heap.size)(hn:ns.length<=900) :
  Calls Tryz.prog 76 #[v,.func (.func 144) #[] #[.pointer (some ⟨Bs,0,none⟩)]] w λe w'=>∃(oa:Option Addr) (oc:Nat),e=.returned (.slice oa (nmL ns ts).length oc)/\w'.ownsRow base 9 1 (.slice oa (nmL ns ts).length oc) (nmL ns ts).length ((nmL ns ts).map Value.string)/\Below base w w':=by
 refine (qsi 144 #[.pointer (some ⟨Bs,0,none⟩)] ts (λ_=>True) ts.length v ns base w (enters_of Tryz.func144 (by kernel_rfl) rfl) (λO=>?_) (by omega) qr hbw hn).mono ?_
 ·have hb:Below w.heap.size w (w.alloc O):=(Below.refl _ w).alloc zl O;exact qv5 Bs b va ts (w.alloc O) ((hb.block _ (zg qae).1).trans qae) (hs.rk (qf.ofBelow hb)) (by omega)
 ·rintro e w' ⟨v',rfl,ho,hso⟩;obtain⟨oa,oc,hof⟩:=qn ho;subst hof;exact⟨oa,oc,rfl,ho,⟨hso.os,hso.tape,hso.output,hso.size,λk hk=>hso.block k (by omega) (.inl hk)⟩⟩
theorem q99:(Tryz.prog.info? 161).map (λi=>(i.zero,i.size,i.bytes))=some (some (.agg #[.string ⟨#[]⟩,.string ⟨#[]⟩,.string ⟨#[]⟩,.int .i64 0]),4,56):=by kernel_rfl
theorem qi8{P:Program}{ops:Array Oper}{o:Oper}{a:Act}{w:Wq}{K:Act->Wq->Prop}{Q:Exit->Act->Wq->Prop}{E:Prop}(hg:o.guard=none)(s x:Operand)(t:TypeId)(hop:o.op=Op.call {callee:=Callee.builtin Builtin.append,args:=#[s,x],argTypes:=#[t,t]})(base:Nat)(e:TypeId)(i:TypeInfo)(z:Vq)(size bytes:Nat)(h1:P.underlying t=some (.slice e))(h2:P.info? e=some i)(h3:i.zero=some z)(h4:i.size=size)(h5:i.bytes=bytes)(h6:z.cells.size=size)(h7:0 < size)(v:Vq)(n:Nat)(xs:List Vq)(hs:a.eval s=v)(qr:w.ownsRow base e size v n xs)(ad:Addr)(m c:Nat)(news:List Vq)(hx:a.eval x=.slice (some ad) m c)(hn:news.length=m*size)(hc:∀j u,news[j]?=some u->w.cell? (ad.add j)=some u)(h1c:∀u∈news,u.oneCell'=true)(b1:n+m<=maxLen)(b2:(n+m)*bytes<=140737488355328)(qg6:base<=w.heap.size)(hK:∀v' w',w'.ownsRow base e size v' (n+m) (xs++news)->w.grownBy w' v.ownBlock->(v'.ownBlock=v.ownBlock\/v'.ownBlock=some w.heap.size)->K (a.put o.dst v') w') :
  if Region.wanted o (yielded ops a.tmps)=true then Oper.wp P o a w K Q else E:=by
 have hw:Region.wanted o (yielded ops a.tmps)=true:=by simp[Region.wanted,hg]
 rw[if_pos hw];obtain⟨v',w',qiv,r1,r2,_,r3⟩:=run_append_own_at (P:=P) w base t o.type e i z size bytes h1 h2 h3 h4 h5 h6 h7 v n xs qr ad m c news hn hc h1c b1 b2 qg6;unfold Oper.wp;simp[execOp,hop,resolve,invoke,builtin,hs,hx,qiv,Result.andThen];exact hK v' w' r1 r2 r3
theorem qwl(S:Nat->Prop)(be:Nat)(e:Eg)(a:Am)(ta:Option Addr)(tc b:Nat)(t:Int)(w:Wq)(h:qb1 w S be e)(hok:qci e)(hak:qjs a)(hsl:Qd w b (.slice ta a.args.length tc) a.args)(hn:∀t∈a.args,t.num < 6)(ht:0<=t/\t<=1000000) :
  Calls Tryz.prog 44 #[.pointer (some ⟨be,0,none⟩),.agg #[.string a.rel,.slice ta a.args.length tc],.int .i64 t] w λen w'=>en=.returned (.int .i64 (qog e a t).1)/\Qs S be (qog e a t).2 w w':=by
 have HE:Hid (qb1 w S be e):=h;obtain⟨vr,vn,vk,vf,bm,rb,b45,b87,bfs,Sf,hv⟩:=h;obtain⟨N,hN⟩:∃N,w.heap.size=N:=⟨_,rfl⟩;have hbe:=hv.lt;obtain⟨na,nc,hnf⟩:=qn hv.names;subst hnf;obtain⟨ka,kc,hkf⟩:=qn hv.kept;subst hkf;obtain⟨fa,fc,hff⟩:=qn hv.frow;subst hff;have qh8:Hid (∀W,Below w.heap.size w W->W.heap[be]?=some (Obj.cells #[vr,.int .i64 e.win,.int .i64 e.lat,.int .i64 e.que,.int .i64 e.mark,.slice na e.names.length nc,.slice ka e.kept.length kc,.map (some bm),.slice fa bfs.length fc] 101)):=λW hb=>(hv.below hb).blk
 have qb5:Hid (∀W,Below w.heap.size w W->W.cell? ⟨be,5,none⟩=some (.slice na e.names.length nc)/\W.frozen? ⟨be,5,none⟩=false/\W.cell? ⟨be,6,none⟩=some (.slice ka e.kept.length kc)/\W.frozen? ⟨be,6,none⟩=false):=λW hb=>by
  have:=qh8.out W hb;refine⟨by simp[World.cell?,this],by simp[World.frozen?,this],by simp[World.cell?,this],by simp[World.frozen?,this]⟩
 have hov:Hid (∀W,Below w.heap.size w W->Calls Tryz.prog 81 #[.pointer (some ⟨be,0,none⟩),.int .i64 t] W λe' w'=>e'=.returned (.bool (qay e.win e.mark t))/\W.drew=w'):=λW hb=>by
  have:=qh8.out W hb;refine (qpc be t e.win e.mark W (by simp[World.cell?,this]) (by simp[World.cell?,this]) ht ⟨by have:=hok.win;omega,hok.win.2⟩).mono ?_;rintro e' w' ⟨h1,h2⟩;exact⟨h1,h2.symm⟩
 have hof:Hid (∀W,Below w.heap.size w W->Calls Tryz.prog 48 #[.agg #[.string a.rel,.slice ta a.args.length tc]] W λe' w'=>e'=.returned (.agg #[.string (qb Qg a).rel,.string (qb Qg a).x,.string (qb Qg a).y])/\Below W.heap.size W w'):=λW hb=>qi3 a _ b W (hsl.rk (qf.ofBelow hb)) hak.args hn;have hct:Hid (∀W,Below w.heap.size w W->Calls Tryz.prog 82 #[.slice ka e.kept.length kc,.agg #[.string (qb Qg a).rel,.string (qb Qg a).x,.string (qb Qg a).y,.int .i64 t]] W λe' w'=>e'=.returned (.bool (qmn e.kept (qb Qg a,t)))/\Below W.heap.size W w'):=λW hb=>qqo _ e.kept 0 (qb Qg a,t) W (qk hv.kept hb) (by have:=hok.k24;omega);have hcl:Hid (∀W,Below w.heap.size w W->Calls Tryz.prog 83 #[.slice na e.names.length nc] W λe' w'=>∃(oa:Option Addr) (oc:Nat),e'=.returned (.slice oa e.names.length oc)/\w'.ownsRow W.heap.size 9 1 (.slice oa e.names.length oc) e.names.length (e.names.map Value.string)/\Below W.heap.size W w'):=λW hb=>qwt _ e.names 0 W (qk hv.names hb) (by have:=hok.n8;omega)
 have hva:Hid (∀W,Calls Tryz.prog 84 #[.slice ta a.args.length tc] W λe' w'=>e'=.returned (.func (.func 144) #[] #[.pointer (some ⟨W.heap.size,0,none⟩)])/\W.alloc (.cells #[.slice ta a.args.length tc] 90)=w'):=λW=>by
  refine (qv4 _ W _ _ _ rfl).mono ?_;rintro e' w' ⟨h1,h2⟩;exact⟨h1,h2.symm⟩
 have qcv:Hid (∀W3 base (oa:Option Addr) (oc:Nat),Below w.heap.size w W3->base<=W3.heap.size->w.heap.size<=base->W3.ownsRow base 9 1 (.slice oa e.names.length oc) e.names.length (e.names.map Value.string)->Calls Tryz.prog 76 #[.slice oa e.names.length oc,.func (.func 144) #[] #[.pointer (some ⟨W3.heap.size,0,none⟩)]] (W3.alloc (.cells #[.slice ta a.args.length tc] 90)) λe' w'=>∃(oa:Option Addr) (oc:Nat),e'=.returned (.slice oa (nmL e.names a.args).length oc)/\w'.ownsRow base 9 1 (.slice oa (nmL e.names a.args).length oc) (nmL e.names a.args).length ((nmL e.names a.args).map Value.string)/\Below base W3 w'):=λW3 base oa oc hb h1 h2 ho=>by
  have hb3:Below W3.heap.size W3 (W3.alloc (.cells #[.slice ta a.args.length tc] 90)):=(Below.refl _ W3).alloc zl _;refine (qtx _ e.names base W3.heap.size b _ a.args _ (World.alloc_heap_new W3 _) ((hsl.rk (qf.ofBelow hb)).rk (qf.ofBelow hb3)) hak.args (qk ho hb3) (by simp;omega) (by have:=hok.n8;omega)).mono ?_;rintro e' w' ⟨oa,oc,k1,k2,k3⟩;exact⟨oa,oc,k1,k2,(hb3.mono h1).trans k3⟩
 have hV:Hid (qev w S be e vr (.slice na e.names.length nc) (.slice ka e.kept.length kc) (.slice fa bfs.length fc) bm rb b45 b87 bfs Sf):=hv;have h24:e.kept.length<=24:=hok.k24;have qnx:Hid (qog e a t=if qay e.win e.mark t=true then (8,e) else if qmn e.kept (qb Qg a,t)=true then (9,e) else if e.kept.length=24\/8 < (nmL e.names a.args).length then (10,e) else (0,{e with names:=nmL e.names a.args,kept:=e.kept++[(qb Qg a,t)]})):=rfl;have hb0:∀O,Below w.heap.size w (w.alloc O):=λO=>(Below.refl _ w).alloc zl O;have HB0:Hid _:=hb0;clear hv hok hsl hn hb0
 cases hob:qay e.win e.mark t with
 | true=>
  rw[hob,if_pos rfl] at qnx;rw[hob] at hov;rw[qnx.out];clear hob;go_enter Tryz.func44,Tryz.ntmps44
  go_wp2_with (go_at_call 81;refine (hov.out _ (HB0.out _)).mono ?_;rintro e' w' ⟨rfl,hw'⟩;subst hw')
  go_ret;exact⟨rfl,Qs.same HE.out (HB0.out _).drew⟩
 | false=>
  rw[hob,if_neg (by decide)] at qnx;rw[hob] at hov;clear hob;go_enter Tryz.func44,Tryz.ntmps44
  go_wp2_with (go_at_call 81;refine (hov.out _ (HB0.out _)).mono ?_;rintro e' w' ⟨rfl,hw'⟩;subst hw')
  have hbD:Hid (Below w.heap.size w (w.alloc (.cells #[.string a.rel,.slice ta a.args.length tc] 92)).drew):=(HB0.out _).drew
  have hbx:Hid (∀W,Below (w.alloc (.cells #[.string a.rel,.slice ta a.args.length tc] 92)).drew.heap.size (w.alloc (.cells #[.string a.rel,.slice ta a.args.length tc] 92)).drew W->Below w.heap.size w W/\W.cell? ⟨N,0,none⟩=some (.string a.rel)/\W.cell? ⟨N,1,none⟩=some (.slice ta a.args.length tc)/\N+1<=W.heap.size):=λW hb=>by
   have h1:=(hb.block w.heap.size (by show _ < (w.alloc _).heap.size;simp)).trans (World.alloc_heap_new w _);rw[hN] at h1;have h2:(w.alloc (.cells #[.string a.rel,.slice ta a.args.length tc] 92)).drew.heap.size=w.heap.size+1:=by show (w.alloc _).heap.size=_;simp
   have h3:=hb.size;exact⟨hbD.out.trans (hb.mono (by omega)),by simp[World.cell?,h1],by simp[World.cell?,h1],by omega⟩
  generalize (w.alloc (.cells #[.string a.rel,.slice ta a.args.length tc] 92)).drew=WD at *;refine (hof.out WD hbD.out).mono ?_;rintro e' W1 ⟨rfl,hb1⟩;obtain⟨q6f,c0,c1,hs1⟩:=hbx.out W1 hb1;obtain⟨c5,y5,c6,y6⟩:=qb5.out W1 q6f;obtain⟨gd,hgd⟩:∃gd,qb Qg a=gd:=⟨_,rfl⟩;rw[hgd] at hct qnx;simp only[hgd];obtain⟨W2,hW2⟩:∃W2,W1.alloc (.cells #[.string gd.rel,.string gd.x,.string gd.y,.int .i64 t] 161)=W2:=⟨_,rfl⟩;have hb2:Below W1.heap.size W1 W2:=by rw[<- hW2];exact (Below.refl _ W1).alloc zl _
  have qmp:Below w.heap.size w W2:=q6f.trans (hb2.mono q6f.size);have hs2:W2.heap.size=W1.heap.size+1:=by rw[<- hW2];simp
  obtain⟨N1,hN1⟩:∃N1,W1.heap.size=N1:=⟨_,rfl⟩
  have qae:Hid (∀W,Below W2.heap.size W2 W->Below w.heap.size w W/\W.cell? ⟨N,0,none⟩=some (.string a.rel)/\W.cell? ⟨N,1,none⟩=some (.slice ta a.args.length tc)/\W.cell? ⟨N1,0,none⟩=some (.string gd.rel)/\W.cell? ⟨N1,1,none⟩=some (.string gd.x)/\W.cell? ⟨N1,2,none⟩=some (.string gd.y)/\W.cell? ⟨N1,3,none⟩=some (.int .i64 t)):=λW hb=>by
   have h1:W.heap[N1]?=some (Obj.cells #[.string gd.rel,.string gd.x,.string gd.y,.int .i64 t] 161):=by
    refine (hb.block N1 (by omega)).trans ?_;rw[<- hW2,<- hN1];exact World.alloc_heap_new W1 _
   have h2:Below W1.heap.size W1 W:=hb2.trans (hb.mono (by omega));have h3:=hbx.out W (hb1.trans (h2.mono hb1.size));exact⟨h3.1,h3.2.1,h3.2.2.1,by simp[World.cell?,h1],by simp[World.cell?,h1],by simp[World.cell?,h1],by simp[World.cell?,h1]⟩
  obtain⟨_,d0,d1,q0,q1,q2,q3⟩:=qae.out W2 (Below.refl _ _);obtain⟨k5,z5,k6,z6⟩:=qb5.out W2 qmp;have hD2:Hid (Below w.heap.size w W2.drew):=qmp.drew;have HN1:Hid _:=hN1;have HS2:Hid _:=hs2;have HN:Hid _:=hN;clear hs2 hb2 hb1 hbx c0 c1 c5 y5 c6 y6 hof hov hgd
  cases hhd:qmn e.kept (gd,t) with
  | true=>
   rw[hhd,if_pos rfl] at qnx;rw[hhd] at hct;clear hhd;go_wp2_with fail
   first | (go_region_with (go_at_call 82;refine (hct.out _ hD2.out).mono ?_;rintro e' W3 ⟨rfl,hb3⟩)) | fail
   all_goals go_wp2
   all_goals go_ret
   all_goals (rw[qnx.out];exact⟨rfl,Qs.same HE.out (hD2.out.trans (hb3.mono hD2.out.size))⟩)
  | false=>
   rw[hhd,if_neg (by decide)] at qnx;rw[hhd] at hct;clear hhd
   have h3f:Hid (∀W3,Below W2.drew.heap.size W2.drew W3->Below w.heap.size w W3/\W3.cell? ⟨N,1,none⟩=some (.slice ta a.args.length tc)/\W3.cell? ⟨be,5,none⟩=some (.slice na e.names.length nc)/\W3.frozen? ⟨be,5,none⟩=false/\Hid (Below w.heap.size w W3.drew)):=λW3 hb3=>by
    have qf5:Below W2.heap.size W2 W3:=⟨hb3.os,hb3.tape,hb3.output,hb3.size,hb3.block⟩;have h1:=qae.out W3 qf5;have h2:=qb5.out W3 h1.1;exact⟨h1.1,h1.2.2.1,h2.1,h2.2.1,h1.1.drew⟩
   have h4f:Hid (∀W3,Below W2.drew.heap.size W2.drew W3->∀W4,Below W3.drew.heap.size W3.drew W4->W4.cell? ⟨N,1,none⟩=some (.slice ta a.args.length tc)/\Below w.heap.size w W4/\W3.drew.heap.size<=W4.heap.size/\w.heap.size<=W3.drew.heap.size):=λW3 hb3 W4 hb=>by
    have qf5:Below W2.heap.size W2 W3:=⟨hb3.os,hb3.tape,hb3.output,hb3.size,hb3.block⟩;have h1:Below W2.heap.size W2 W4:=qf5.trans ⟨hb.os,hb.tape,hb.output,hb.size,λk hk=>hb.block k (by have:=qf5.size;show k < W3.heap.size;omega)⟩;have h2:=qae.out W4 h1;exact⟨h2.2.2.1,h2.1,hb.size,(qae.out W3 qf5).1.size⟩
   have hne:be≠N1:=by have:=q6f.size;have:=HN1.out;omega
   have h5f:Hid (∀W3,Below W2.drew.heap.size W2.drew W3->∀W4 W5,Below W3.drew.heap.size W3.drew W4->Below W3.drew.heap.size W4 W5->Below w.heap.size w W5/\W5.cell? ⟨be,5,none⟩=some (.slice na e.names.length nc)/\W5.frozen? ⟨be,5,none⟩=false/\W5.cell? ⟨be,6,none⟩=some (.slice ka e.kept.length kc)/\W5.frozen? ⟨be,6,none⟩=false/\(∀v,(W5.setCell ⟨be,5,none⟩ v).cell? ⟨be,6,none⟩=some (.slice ka e.kept.length kc))/\(∀v,(W5.setCell ⟨be,5,none⟩ v).cell? ⟨N1,0,none⟩=some (.string gd.rel))/\(∀v,(W5.setCell ⟨be,5,none⟩ v).cell? ⟨N1,1,none⟩=some (.string gd.x))/\(∀v,(W5.setCell ⟨be,5,none⟩ v).cell? ⟨N1,2,none⟩=some (.string gd.y))/\(∀v,(W5.setCell ⟨be,5,none⟩ v).cell? ⟨N1,3,none⟩=some (.int .i64 t))):=λW3 hb3 W4 W5 h1 h2=>by
    have qf5:Below W2.heap.size W2 W3:=⟨hb3.os,hb3.tape,hb3.output,hb3.size,hb3.block⟩;have h3:=h1.trans h2;have h4:=qae.out W5 (qf5.trans ⟨h3.os,h3.tape,h3.output,h3.size,λk hk=>h3.block k (by have:=qf5.size;show k < W3.heap.size;omega)⟩);have h5:=qb5.out W5 h4.1;have h6:=qh8.out W5 h4.1
    have h7:∀v,(W5.setCell ⟨be,5,none⟩ v).cell? ⟨be,6,none⟩=some (.slice ka e.kept.length kc):=λv=>by
     have:=Qi h6 5 v;simp[World.cell?,this]
    exact⟨h4.1,h5.1,h5.2.1,h5.2.2.1,h5.2.2.2,h7,λv=>(qbn _ _ _ _ _ _ (Ne.symm hne)).trans h4.2.2.2.1,λv=>(qbn _ _ _ _ _ _ (Ne.symm hne)).trans h4.2.2.2.2.1,λv=>(qbn _ _ _ _ _ _ (Ne.symm hne)).trans h4.2.2.2.2.2.1,λv=>(qbn _ _ _ _ _ _ (Ne.symm hne)).trans h4.2.2.2.2.2.2⟩
   by_cases hf:e.kept.length=24\/8 < (nmL e.names a.args).length
   ·rw[if_pos hf] at qnx;by_cases hf1:e.kept.length=24
    ·have i2:((e.kept.length:Int) == 24)=true:=by simp[hf1]
     clear hf hf1;go_wp2_with fail
     first | (go_region_with (go_at_call 82;refine (hct.out _ hD2.out).mono ?_;rintro e' W3 ⟨rfl,hb3⟩)) | fail
     all_goals go_wp2_with fail
     all_goals (
      obtain⟨qw9,r1,m5,x5,q28⟩:=h3f.out W3 hb3;have qjv:Hid _:=h4f.out W3 hb3;have qqt:Hid _:=h5f.out W3 hb3;clear hb3
      first | (go_region_with (first | (go_at_call 83;refine (hcl.out _ q28.out).mono ?_;rintro e' W4 ⟨oa,oc,rfl,ho4,hb4⟩;obtain⟨s1,q29,hz4,hz3⟩:=qjv.out W4 hb4) | (go_at_call 84;refine (hva.out _).mono ?_;rintro e' w' ⟨rfl,hw'⟩;subst hw') | (go_at_call 76;refine (qcv.out W4 W3.drew.heap.size oa oc q29 hz4 hz3 ho4).mono ?_;rintro e' W5 ⟨pa,pc,rfl,ho5,hb5⟩;obtain⟨qxa,f5,y5,f6,y6,g6,g0,g1,g2,g3⟩:=qqt.out W4 W5 hb4 hb5;clear qjv))) | fail)
     all_goals go_wp2
     all_goals go_ret
     all_goals (rw[qnx.out];exact⟨rfl,Qs.same HE.out qxa⟩)
    ·have i1:¬(e.kept.length:Int)=24:=by omega
     have i2:((e.kept.length:Int) == 24)=false:=by simp[i1]
     have i3:(8:Int) < ((nmL e.names a.args).length:Int):=by omega
     clear hf;go_wp2_with fail
     first | (go_region_with (go_at_call 82;refine (hct.out _ hD2.out).mono ?_;rintro e' W3 ⟨rfl,hb3⟩)) | fail
     all_goals go_wp2_with fail
     all_goals (
      obtain⟨qw9,r1,m5,x5,q28⟩:=h3f.out W3 hb3;have qjv:Hid _:=h4f.out W3 hb3;have qqt:Hid _:=h5f.out W3 hb3;clear hb3
      first | (go_region_with (first | (go_at_call 83;refine (hcl.out _ q28.out).mono ?_;rintro e' W4 ⟨oa,oc,rfl,ho4,hb4⟩;obtain⟨s1,q29,hz4,hz3⟩:=qjv.out W4 hb4) | (go_at_call 84;refine (hva.out _).mono ?_;rintro e' w' ⟨rfl,hw'⟩;subst hw') | (go_at_call 76;refine (qcv.out W4 W3.drew.heap.size oa oc q29 hz4 hz3 ho4).mono ?_;rintro e' W5 ⟨pa,pc,rfl,ho5,hb5⟩;obtain⟨qxa,f5,y5,f6,y6,g6,g0,g1,g2,g3⟩:=qqt.out W4 W5 hb4 hb5;clear qjv))) | fail)
     all_goals go_wp2
     all_goals go_ret
     all_goals (rw[qnx.out];exact⟨rfl,Qs.same HE.out qxa⟩)
   ·rw[if_neg hf] at qnx;have i1:¬(e.kept.length:Int)=24:=by omega
    have i2:((e.kept.length:Int) == 24)=false:=by simp[i1]
    have i3:¬(8:Int) < ((nmL e.names a.args).length:Int):=by omega
    clear hf;obtain⟨j0,hi,hz0,hz1,hz2⟩:=info_parts q99;have qhq:e.kept.length+1<=maxLen:=by unfold maxLen;omega
    have qdz:(e.kept.length+1)*56<=140737488355328:=by omega
    have qc8:Hid (∀W5,Below w.heap.size w W5->∀v,(W5.setCell ⟨be,5,none⟩ v).drew.ownsRow 0 161 4 (.slice ka e.kept.length kc) e.kept.length (e.kept.flatMap qo)):=λW5 hb v=>by
     have h5:=hV.out.below hb;have:=Qn h5.kept ⟨be,5,none⟩ v (Qj h5.kept h5.blk (by decide));exact⟨this.1,this.2⟩
    have q9p:Hid (∀W5,Below w.heap.size w W5->∀v,be < (W5.setCell ⟨be,5,none⟩ v).drew.heap.size):=λW5 hb v=>by
     have:=hb.size;show be < (W5.setCell ⟨be,5,none⟩ v).heap.size;simp;omega
    have qg7:Hid (∀W5 nb (pa:Option Addr) (pc:Nat),w.heap.size<=nb->Below w.heap.size w W5->W5.ownsRow nb 9 1 (.slice pa (nmL e.names a.args).length pc) (nmL e.names a.args).length ((nmL e.names a.args).map Value.string)->∀(O:Obj) (w1:Wq) (v':Vq),w1.ownsRow 0 161 4 v' (e.kept.length+1) (e.kept.flatMap qo++[.string gd.rel,.string gd.x,.string gd.y,.int .i64 t])->((W5.setCell ⟨be,5,none⟩ (.slice pa (nmL e.names a.args).length pc)).drew.alloc O).grownBy w1 (Value.slice ka e.kept.length kc).ownBlock->(v'.ownBlock=(Value.slice ka e.kept.length kc).ownBlock\/v'.ownBlock=some ((W5.setCell ⟨be,5,none⟩ (.slice pa (nmL e.names a.args).length pc)).drew.alloc O).heap.size)->w1.cell? ⟨be,6,none⟩=some (.slice ka e.kept.length kc)/\w1.frozen? ⟨be,6,none⟩=false/\Qs S be {e with names:=nmL e.names a.args,kept:=e.kept++[(gd,t)]} w (w1.setCell ⟨be,6,none⟩ v')):=λW5 nb pa pc hnb hb ho O w1 v' h1 h2 h3=>
     q5x hV.out hb (d:=(gd,t)) hnb ho O h1 ⟨h2.os,h2.tape,h2.output,h2.size,h2.block⟩ h3
    go_wp2_with fail
    first | (go_region_with (go_at_call 82;refine (hct.out _ hD2.out).mono ?_;rintro e' W3 ⟨rfl,hb3⟩)) | fail
    all_goals go_wp2_with fail
    all_goals (
     obtain⟨qw9,r1,m5,x5,q28⟩:=h3f.out W3 hb3;have qjv:Hid _:=h4f.out W3 hb3;have qqt:Hid _:=h5f.out W3 hb3;clear hb3
     first | (go_region_with (first | (go_at_call 83;refine (hcl.out _ q28.out).mono ?_;rintro e' W4 ⟨oa,oc,rfl,ho4,hb4⟩;obtain⟨s1,q29,hz4,hz3⟩:=qjv.out W4 hb4) | (go_at_call 84;refine (hva.out _).mono ?_;rintro e' w' ⟨rfl,hw'⟩;subst hw') | (go_at_call 76;refine (qcv.out W4 W3.drew.heap.size oa oc q29 hz4 hz3 ho4).mono ?_;rintro e' W5 ⟨pa,pc,rfl,ho5,hb5⟩;obtain⟨qxa,f5,y5,f6,y6,g6,g0,g1,g2,g3⟩:=qqt.out W4 W5 hb4 hb5;clear qjv))) | fail)
    all_goals go_wp2_with fail
    all_goals (
     have hk5:(W5.setCell ⟨be,5,none⟩ (.slice pa (nmL e.names a.args).length pc)).drew.ownsRow 0 161 4 (.slice ka e.kept.length kc) e.kept.length (e.kept.flatMap qo):=qc8.out W5 qxa _;have q9:Hid _:=qg7.out W5 _ pa pc hz3 qxa ho5;have hs5:be < (W5.setCell ⟨be,5,none⟩ (.slice pa (nmL e.names a.args).length pc)).drew.heap.size:=q9p.out W5 qxa _;have v0:(W5.setCell ⟨be,5,none⟩ (.slice pa (nmL e.names a.args).length pc)).drew.cell? ⟨N1,0,none⟩=some (.string gd.rel):=g0 _;have v1:(W5.setCell ⟨be,5,none⟩ (.slice pa (nmL e.names a.args).length pc)).drew.cell? ⟨N1,1,none⟩=some (.string gd.x):=g1 _;have v2:(W5.setCell ⟨be,5,none⟩ (.slice pa (nmL e.names a.args).length pc)).drew.cell? ⟨N1,2,none⟩=some (.string gd.y):=g2 _;have v3:(W5.setCell ⟨be,5,none⟩ (.slice pa (nmL e.names a.args).length pc)).drew.cell? ⟨N1,3,none⟩=some (.int .i64 t):=g3 _;have v6:(W5.setCell ⟨be,5,none⟩ (.slice pa (nmL e.names a.args).length pc)).drew.cell? ⟨be,6,none⟩=some (.slice ka e.kept.length kc):=g6 _;clear g0 g1 g2 g3 g6 f5 y5 f6 y6 ho5 hb5 qqt;generalize hV5:(W5.setCell ⟨be,5,none⟩ (.slice pa (nmL e.names a.args).length pc)).drew=V5 at *;have v6':∀O,(V5.alloc O).cell? ⟨be,6,none⟩=some (.slice ka e.kept.length kc):=λO=>cell_later ((Below.refl V5.heap.size V5).alloc zl O) v6
     go_region_law (first | (refine qi8 rfl (.tmp 50) (.tmp 52) 96 rfl 0 161 j0 (.agg #[.string ⟨#[]⟩,.string ⟨#[]⟩,.string ⟨#[]⟩,.int .i64 0]) 4 56 Tryz.underlying96 hi hz0 hz1 hz2 rfl (by decide) (.slice ka e.kept.length kc) e.kept.length (e.kept.flatMap qo) (by simp[Act.eval,Act.put]) (World.ownsRow.alloc hk5 _) ⟨V5.heap.size,0,none⟩ 1 1 [.string gd.rel,.string gd.x,.string gd.y,.int .i64 t] (by simp[Act.eval,Act.put]) rfl (qbz _ _ _ _ _ _) (by simp[Value.oneCell']) qhq qdz (Nat.zero_le _) ?_;intro v' w1 hown1 hgrow1 hat1;obtain⟨g',cap',hv'⟩:=ownsRow_succ hown1;subst hv';obtain⟨s6,t6,q3p⟩:=q9.out _ w1 _ hown1 hgrow1 hat1) | go_simp))
    all_goals (
     go_wp2;go_ret;rw[qnx.out]
     exact⟨rfl,q3p⟩)
theorem Qs.after{w w1 w2:Wq}{S:Nat->Prop}{be:Nat}(hb:Below w.heap.size w w1)(h:Qs S be e w1 w2):Qs S be e w w2:=by
 obtain⟨S',h1,h2,h3⟩:=h;refine⟨S',h1,λk hk=>(h2 k hk).imp id (λh=>Nat.le_trans hb.size h),h3.os.trans hb.os,h3.tape.trans hb.tape,h3.output.trans hb.output,Nat.le_trans hb.size h3.size,λj hj hs=>(h3.block j (Nat.lt_of_lt_of_le hj hb.size) hs).trans (hb.block j hj)⟩
theorem qxp(S:Nat->Prop)(be:Nat)(e:Eg)(s:ByteArray)(t:Int)(w:Wq)(h:qb1 w S be e)(hok:qci e)(hs:s.size<=4611686018427387904)(hT:Lib.Utf8Tabs 0 1 w)(hn:∀a,qc7 s=some a->∀t∈a.args,t.num < 6) :
  Calls Tryz.prog 20 #[.pointer (some ⟨be,0,none⟩),.string s,.int .i64 t] w λen w'=>en=.returned (.int .i64 (qjx e s t).1)/\Qs S be (qjx e s t).2 w w':=by
 have hrg:=qi5 s w hs hT;unfold qfe at hrg;have HE:Hid (qb1 w S be e):=h
 cases ha:qc7 s with
 | none=>
  rw[ha] at hrg;have hu:Hid (qjx e s t=(2,e)):=by show _=_;unfold qjx;rw[ha]
  have HR:Hid _:=hrg;clear hrg ha h hok;rw[hu.out];go_enter Tryz.func20,Tryz.ntmps20
  go_wp2_with (go_at_call 40;refine Calls.mono HR.out ?_;rintro e' W1 ⟨hb1,rfl⟩)
  go_ret;exact⟨rfl,Qs.same HE.out (hb1.alloc hb1.size _)⟩
 | some a=>
  rw[ha] at hrg;have hn':=hn a ha;have hu:Hid (qjx e s t=if qaq a=false then (2,e) else if qmk e.rs a.rel=true then (7,e) else if ckR e.rs a≠0 then (ckR e.rs a,e) else if ¬(0<=t/\t<=1000000) then (6,e) else qog e a t):=by show _=_;unfold qjx;rw[ha]
  obtain⟨gb,hgb⟩:∃gb,qaq a=gb:=⟨_,rfl⟩
  have HR:Hid (Calls Tryz.prog 40 #[.string s] w λe' w'=>Below w.heap.size w w'/\∃va,e'=.returned (.tuple #[.agg #[.string a.rel,va],.bool gb])/\qjs a/\Qd w' w'.heap.size va a.args):=by
   show Calls _ _ _ _ _;rw[<- hgb];exact hrg
  rw[hgb] at hu;obtain⟨vr,vn,vk,vf,bm,rb,b45,b87,bfs,Sf,hv⟩:=h;obtain⟨ra,rc,hrf⟩:=hv.rules.form;subst hrf;have hbe:=hv.lt
  have qh8:Hid (∀W,Below w.heap.size w W->W.cell? ⟨be,0,none⟩=some (.slice ra e.rs.length rc)):=λW hb=>by
   have:=(hv.below hb).blk;simp[World.cell?,this]
  have hde:Hid (∀W,Below w.heap.size w W->Calls Tryz.prog 41 #[.slice ra e.rs.length rc,.string a.rel] W λe' w'=>e'=.returned (.bool (qmk e.rs a.rel))/\Below W.heap.size W w'):=λW hb=>by
   have hv':=hv.below hb;exact qqz _ e.rs a.rel rb b45 b87 _ hv'.rules (qmy hv'.rules) hok.rs.r8
  have hwi:Hid (∀W,Calls Tryz.prog 43 #[.int .i64 t,.int .i64 0,.int .i64 1000000] W λe' w'=>e'=.returned (.bool (decide (0<=t) && decide (t<=1000000)))/\W=w'):=λW=>by
   refine (qe6 t 0 1000000 W).mono ?_;rintro e' w' ⟨h1,h2⟩;exact⟨h1,h2.symm⟩
  have HOK:Hid (qci e):=hok;clear hrg ha hv hok hT hn;clear hgb
  cases gb with
  | false=>
   rw[if_pos rfl] at hu;rw[hu.out];clear hu;go_enter Tryz.func20,Tryz.ntmps20
   go_wp2_with (go_at_call 40;refine Calls.mono HR.out ?_;rintro e' W1 ⟨hb1,va,rfl,hak,hsl⟩;obtain⟨xa,xc,hxf⟩:=hsl.form;subst hxf;have HAK:Hid _:=hak;have HSL:Hid _:=hsl;clear hak hsl)
   go_ret;exact⟨rfl,Qs.same HE.out (hb1.alloc hb1.size _)⟩
  | true=>
   rw[if_neg (by decide)] at hu;go_enter Tryz.func20,Tryz.ntmps20;go_wp2_with fail;refine Calls.mono HR.out ?_;rintro e' W1 ⟨hb1,va,rfl,hak,hsl⟩;obtain⟨xa,xc,hxf⟩:=hsl.form;subst hxf;have qxc:Hid (∀W,Below w.heap.size w W->Calls Tryz.prog 42 #[.pointer (some ⟨be,0,none⟩),.agg #[.string a.rel,.slice xa a.args.length xc]] W λen w'=>en=.returned (.int .i64 (ckR e.rs a))/\Below W.heap.size W w'):=λW hb=>qk9 S be e W (HE.out.below hb) HOK.out.rs a _ _ _ rfl hak.args
   have qfo:Hid (∀W,Below w.heap.size w W->Below W1.heap.size W1 W->0<=t/\t<=1000000->Calls Tryz.prog 44 #[.pointer (some ⟨be,0,none⟩),.agg #[.string a.rel,.slice xa a.args.length xc],.int .i64 t] W λen w'=>en=.returned (.int .i64 (qog e a t).1)/\Qs S be (qog e a t).2 w w'):=λW hb qhq ht=>by
    refine (qwl S be e a xa xc W1.heap.size t W (HE.out.below hb) HOK.out hak (hsl.rk (qf.ofBelow qhq)) hn' ht).mono ?_;rintro en w' ⟨h1,h2⟩;exact⟨h1,Qs.after hb h2⟩
   have hW1:w.heap.size<=W1.heap.size:=hb1.size;have hbA:Hid (Below w.heap.size w (W1.alloc (.cells #[.string a.rel,.slice xa a.args.length xc] 92))/\Below W1.heap.size W1 (W1.alloc (.cells #[.string a.rel,.slice xa a.args.length xc] 92))):=⟨hb1.alloc hb1.size _,(Below.refl _ W1).alloc zl _⟩
   have qae:Hid (∀W2,Below (W1.alloc (.cells #[.string a.rel,.slice xa a.args.length xc] 92)).heap.size (W1.alloc (.cells #[.string a.rel,.slice xa a.args.length xc] 92)) W2->W2.cell? ⟨W1.heap.size,0,none⟩=some (.string a.rel)/\W2.cell? ⟨W1.heap.size,1,none⟩=some (.slice xa a.args.length xc)/\Below w.heap.size w W2/\Below W1.heap.size W1 W2/\W2.cell? ⟨be,0,none⟩=some (.slice ra e.rs.length rc)):=λW2 hb=>by
    have h1:=(hb.block _ (by simp)).trans (World.alloc_heap_new W1 _);have h2:=hbA.out.1.trans (hb.mono (by simp;omega));exact⟨by simp[World.cell?,h1],by simp[World.cell?,h1],h2,hbA.out.2.trans (hb.mono (by simp)),qh8.out W2 h2⟩
   obtain⟨r0,r1,r2,r3,r4⟩:=qae.out _ (Below.refl _ _);have hbW:Hid (Below w.heap.size w (W1.alloc (.cells #[.string a.rel,.slice xa a.args.length xc] 92)).drew):=hbA.out.1.drew;clear hak hsl
   cases hdb:qmk e.rs a.rel with
   | true=>
    rw[hdb,if_pos rfl] at hu;rw[hdb] at hde;clear hdb;go_wp2_with fail
    first | (go_region_with (go_at_call 41;refine (hde.out _ hbW.out).mono ?_;rintro e' W2 ⟨rfl,hb2⟩)) | fail
    all_goals go_wp2
    all_goals go_ret
    all_goals (rw[hu.out];exact⟨rfl,Qs.same HE.out (hbW.out.trans (hb2.mono hbW.out.size))⟩)
   | false=>
    rw[hdb,if_neg (by decide)] at hu;rw[hdb] at hde;clear hdb;go_wp2_with fail;refine wp_mono (Q:=λe' a' w'=>match e' with | Exit.normal=>(Below (W1.alloc (.cells #[.string a.rel,.slice xa a.args.length xc] 92)).heap.size (W1.alloc (.cells #[.string a.rel,.slice xa a.args.length xc] 92)) w'/\a'={tmps:=#[.pointer (some ⟨be,0,none⟩),.string s,.int .i64 t,undef,undef,undef,.int .i64 0,.pointer (some ⟨W1.heap.size,0,none⟩),.bool true,undef,.tuple #[.agg #[.string a.rel,.slice xa a.args.length xc],.bool true],.string s,.tuple #[.agg #[.string a.rel,.slice xa a.args.length xc],.bool true],.agg #[.string a.rel,.slice xa a.args.length xc],.bool true,.bool true,.bool false,.pointer (some ⟨be,0,none⟩),.pointer (some ⟨be,0,none⟩),.pointer (some ⟨be,0,none⟩),.slice ra e.rs.length rc,.pointer (some ⟨W1.heap.size,0,none⟩),.string a.rel,.bool false,undef,undef,undef,undef,undef,undef,undef,undef,undef,undef,undef,undef,undef],defers:=[]}) | _=>False) ?reg ?rest
    case reg=>
     first | (go_region_with (go_at_call 41;refine (hde.out _ hbW.out).mono ?_;rintro e' W2 ⟨rfl,hb2⟩)) | fail
     all_goals exact⟨⟨hb2.os,hb2.tape,hb2.output,hb2.size,hb2.block⟩,rfl⟩
    case rest=>
     rintro (_ | _ | _ | _ | _ | _) a' W2 hq
     all_goals first | exact hq.elim | skip
     obtain⟨hb2,rfl⟩:=hq;obtain⟨d0,d1,hb3,hb4,d4⟩:=qae.out W2 hb2;by_cases hck:ckR e.rs a=0
     ·have Qe4:Hid (¬ckR e.rs a≠0):=λh=>h hck;rw[if_neg Qe4.out] at hu;rw[hck] at qxc;clear hck;go_wp2_with fail;refine (qxc.out W2 hb3).mono ?_;rintro e' W3 ⟨rfl,hb5⟩;have hb6:Below (W1.alloc (.cells #[.string a.rel,.slice xa a.args.length xc] 92)).heap.size (W1.alloc (.cells #[.string a.rel,.slice xa a.args.length xc] 92)) W3:=hb2.trans (hb5.mono hb2.size);obtain⟨g0,g1,hb7,hb8,g4⟩:=qae.out W3 hb6;clear hb6 hb5 hb2;by_cases ht:0<=t/\t<=1000000
      ·have hwt:(decide (0<=t) && decide (t<=1000000))=true:=by simp[ht.1,ht.2]
       rw[hwt] at hwi;rw[if_neg (λh=>h ht)] at hu;have HT:Hid (0<=t/\t<=1000000):=ht;clear ht hwt
       go_wp2_with (first | (go_at_call 43;refine (hwi.out _).mono ?_;rintro e' w' ⟨rfl,hw'⟩;subst hw') | (go_at_call 44;refine (qfo.out W3 hb7 hb8 HT.out).mono ?_;rintro e' W4 ⟨rfl,hp⟩))
       go_ret;rw[hu.out];exact⟨rfl,hp⟩
      ·have hwt:(decide (0<=t) && decide (t<=1000000))=false:=by
        rw[Bool.and_eq_false_iff];simp only[decide_eq_false_iff_not];omega
       rw[hwt] at hwi;rw[if_pos ht] at hu;clear ht hwt
       go_wp2_with (go_at_call 43;refine (hwi.out _).mono ?_;rintro e' w' ⟨rfl,hw'⟩;subst hw')
       go_ret;rw[hu.out];exact⟨rfl,Qs.same HE.out hb7⟩
     ·rw[if_pos hck] at hu;have Qe3:(ckR e.rs a == 0)=false:=by simp[hck]
      generalize ckR e.rs a=ck at *
      go_wp2_with (go_at_call 42;refine (qxc.out W2 hb3).mono ?_;rintro e' W3 ⟨rfl,hb5⟩)
      go_ret;rw[hu.out];exact⟨rfl,Qs.same HE.out (hb3.trans (hb5.mono hb3.size))⟩
