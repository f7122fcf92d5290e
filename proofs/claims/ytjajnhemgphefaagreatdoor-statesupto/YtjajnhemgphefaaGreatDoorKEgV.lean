/- A part -/
import Derived.Test.YtjajnhemgphefaaGreatDoorKEgO
import Derived.Maps.AppendAt
set_option linter.all false
set_option maxRecDepth 100000
set_option maxHeartbeats 4000000
namespace Go.Proofs.YtjajnhemgphefaaGreatDoor
open Go renaming World->Wq,Value->Vq
open Go.RowKit Go.Shelf Go.Maps
variable {a:Am} {rs:List Rl} {e e':Eg}
theorem q16(vs:List By)(x y:By):y∈Qh vs x↔y∈vs\/y=x:=by
 unfold Qh Qx;by_cases h:vs.findIdx (Q5 x) < vs.length
 .rw[if_pos h];have h1:=List.findIdx_getElem (w:=h);rw[qst] at h1;constructor
  .exact .inl
  .rintro (h2 | rfl)
   .exact h2
   .rw[h1];exact List.getElem_mem h
 .rw[if_neg h];simp
theorem qtz:∀(l:List Tm) (vs:List By) (y:By),y∈nmL vs l↔y∈vs\/∃t∈l,t.name≠eB/\y=t.name
 | [],vs,y=>by simp[nmL]
 | t::l,vs,y=>by
  have ih:=qtz l (qaw vs t) y;have e1:nmL vs (t::l)=nmL (qaw vs t) l:=rfl;rw[e1,ih];unfold qaw;by_cases h:t.name.toList.isEmpty=true
  .rw[if_pos h];rw[Q9] at h;constructor
   .rintro (h1 | ⟨u,hu,h2⟩)
    .exact .inl h1
    .exact .inr ⟨u,by simp[hu],h2⟩
   .rintro (h1 | ⟨u,hu,h2,h3⟩)
    .exact .inl h1
    .simp only[List.mem_cons] at hu;rcases hu with rfl | hu
     .exact absurd h h2
     .exact .inr ⟨u,hu,h2,h3⟩
  .rw[if_neg h,q16];have h':t.name≠eB:=λe=>h ((Q9 _).2 e);constructor
   .rintro ((h1 | h1) | ⟨u,hu,h2⟩)
    .exact .inl h1
    .exact .inr ⟨t,by simp,h',h1⟩
    .exact .inr ⟨u,by simp[hu],h2⟩
   .rintro (h1 | ⟨u,hu,h2,h3⟩)
    .exact .inl (.inl h1)
    .simp only[List.mem_cons] at hu;rcases hu with rfl | hu
     .exact .inl (.inr h3)
     .exact .inr ⟨u,hu,h2,h3⟩
def qo2(e:Eg)(a:Am)(t:Int):Int×Eg:=
 if qax e.win e.mark t=true then (8,e) else if qm4 e.kept (qb Qm a,t)=true then (9,e)
 else if e.kept.length=24\/8 < (nmL e.names a.args).length then (10,e)
 else (0,{e with names:=nmL e.names a.args,kept:=e.kept++[(qb Qm a,t)]})
def qkd(e:Eg)(s:By)(t:Int):Int×Eg:=
 match qcx s with
 | none=>(2,e)
 | some a=>if qbc a=false then (2,e) else if qm1 e.rs a.rel=true then (7,e) else if ckR e.rs a≠0 then (ckR e.rs a,e) else if ¬(0<=t/\t<=1000000) then (6,e) else qo2 e a t
def qhy(e:Eg)(m:Int):List (Gd×Int):=((e.kept.filter (λd=>!qax e.win m d.2)).filter (λd=>decide (d.2<=m))).map (λd=>(d.1,d.2+e.win))
def q84(M M':Gd->Option Int)(m q:Int)(f f':Fs):Prop:=
 (f.behind=true/\f'=f)\/(f.behind=false/\∃g1 g2,Qcw M M' f.form g1/\Qcw M' M f.form g2/\((q < ((f.que++qno 3 g1++qno 2 g2).length:Int)+1/\f'={f with behind:=true,snap:=[],que:=[]})\/(((f.que++qno 3 g1++qno 2 g2).length:Int)+1<=q/\f'={f with que:=f.que++qno 3 g1++qno 2 g2++[⟨4,0,⟨#[]⟩,m⟩]})))
def quf(e:Eg)(m:Int)(e':Eg):Prop:=∃M' ag,qcv e.rs (qhy e m++Qo e.rs) M'/\ag.length=e.fds.length/\(∀i (h:i < e.fds.length) (h':i < ag.length),q84 e.M M' m e.que e.fds[i] ag[i])/\e'={e with mark:=m,kept:=e.kept.filter (λd=>!qax e.win m d.2),M:=M',fds:=ag}
def qru(e:Eg)(c:Int)(e':Eg)(r:Int×Int):Prop:=
 (¬(0<=c/\c<=1000000)/\e'=e/\r=(0,6))\/((0<=c/\c<=1000000)/\r=(e'.mark,0)/\((c - e.lat<=e.mark/\e'=e)\/(e.mark < c - e.lat/\quf e (c - e.lat) e')))
theorem qee(h:qbc a=true):∀t∈a.args,t.name≠eB:=by
 intro t ht e;unfold qbc at h;simp only[Bool.not_eq_true',List.any_eq_false] at h;exact h t ht ((Q9 _).2 e)
theorem qtd(h:ckR rs a=0):arR rs a.rel≠0/\arR rs a.rel=a.args.length:=by
 unfold ckR at h;split at h
 .cases h
 .rename_i h0;split at h
  .rename_i h1;exact⟨h0,h1⟩
  .cases h
theorem qt3{x:By}(h:arR rs x≠0):x∈qcz rs:=by
 unfold arR at h
 cases ha:qcw (rs.flatMap qx) x.data.toList with
 | none=>rw[ha] at h;exact absurd rfl h
 | some n=>
  obtain⟨a,h1,h2,_⟩:=qul ha;exact List.mem_map.2 ⟨a,h1,qiw h2⟩
theorem q7g(h:qim rs){a:Am}(hg:qbc a=true)(hc:ckR rs a=0){ns:List By}(cm:∀t∈a.args,t.name∈ns):qb Qm a∈uni (qcz rs) ns/\qc6 (arR rs) (qb Qm a):=by
 obtain⟨h0,h1⟩:=qtd hc;have hn:=qee hg;have hl:a.args.length=1\/a.args.length=2:=by rcases qjo h a.rel with e | e | e <;> omega
 rcases hl with hl | hl
 .match ha:a.args,hl with
  | [t],_=>
   have ht:=hn t (by rw[ha];simp);have hg:qb Qm a=⟨a.rel,t.name,eB⟩:=by unfold qb;rw[ha];show (⟨a.rel,ofT Qm t,eB⟩:Gd)=_;rw[qcp ht]
   rw[hg];exact⟨qes.2 ⟨qt3 h0,cm t (by rw[ha];simp),.inl rfl⟩,ht,.inl ⟨by show arR rs a.rel=1;rw[h1,ha];rfl,rfl⟩⟩
 .match ha:a.args,hl with
  | [t,u],_=>
   have ht:=hn t (by rw[ha];simp);have hu:=hn u (by rw[ha];simp);have hg:qb Qm a=⟨a.rel,t.name,u.name⟩:=by unfold qb;rw[ha];show (⟨a.rel,ofT Qm t,ofT Qm u⟩:Gd)=_;rw[qcp ht,qcp hu]
   rw[hg];exact⟨qes.2 ⟨qt3 h0,cm t (by rw[ha];simp),.inr (cm u (by rw[ha];simp))⟩,ht,.inr ⟨by show arR rs a.rel=2;rw[h1,ha];rfl,hu⟩⟩
theorem Qaa(h:qde e){a:Am}(ai:qkr a)(hg:qbc a=true)(hc:ckR e.rs a=0){t:Int}(ht:0<=t/\t<=1000000):qde (qo2 e a t).2:=by
 unfold qo2;split
 .exact h
 split
 .exact h
 split
 .exact h
 rename_i ee;have ca:=qtz a.args e.names;have b8:∀x∈e.names,x∈nmL e.names a.args:=λx hx=>(ca x).2 (.inl hx);have df:=qee hg;have dr:=h.k24;refine⟨h.rs,h.win,h.lat,h.que,h.mark,by show (nmL e.names a.args).length<=8;omega,λx hx=>?_,λr hr t ht bb=>b8 _ (h.nrs r hr t ht bb),by show (e.kept++_).length<=24;simp;omega,λd hd=>?_,λg hg=>⟨(h.md g hg).1,qwo b8 (h.md g hg).2⟩,h.f3,h.fds⟩
 .rcases (ca x).1 hx with hx | ⟨u,hu,_,rfl⟩
  .exact h.nsz x hx
  .exact (ai.tms u hu).name
 .rcases List.mem_append.1 hd with hd | hd
  .have:=h.kept d hd;exact⟨qwo b8 this.1,this.2⟩
  .simp only[List.mem_cons,List.not_mem_nil,or_false] at hd;subst hd;have:=q7g h.rs hg hc (ns:=nmL e.names a.args) (λu hu=>(ca _).2 (.inr ⟨u,hu,df u hu,rfl⟩));exact⟨this.1,this.2,ht⟩
theorem Qby(h:qde e)(s:By)(ai:∀a,qcx s=some a->qkr a)(t:Int):qde (qkd e s t).2:=by
 unfold qkd
 cases ha:qcx s with
 | none=>exact h
 | some a=>
  simp only;split
  .exact h
  rename_i hg;split
  .exact h
  split
  .exact h
  rename_i hc;split
  .exact h
  rename_i ht;exact Qaa h (ai a ha) (by simpa using hg) (by simpa using hc) (by simpa using ht)
theorem qpe(h:qde e)(m:Int):q6y e.rs e.names (qhy e m):=by
 unfold qhy;refine⟨?_,λx hx=>?_⟩
 .rw[List.length_map];have h1:=List.length_filter_le (λd:Gd×Int=>decide (d.2<=m)) (e.kept.filter (λd=>!qax e.win m d.2));have h2:=List.length_filter_le (λd:Gd×Int=>!qax e.win m d.2) e.kept;have:=h.k24;omega
 .obtain⟨d,hd,rfl⟩:=List.mem_map.1 hx;have hk:=h.kept d ((List.mem_filter.1 (List.mem_filter.1 hd).1).1);have hw:=h.win;exact⟨hk.1,hk.2.1,by show 0<=d.2+e.win;omega,by show d.2+e.win<=2000000;omega⟩
theorem q76(h:qde e){m:Int}(hm:0<=m/\m<=1000000)(hv:quf e m e'):qde e':=by
 obtain⟨M',ag,h1,h2,h3,rfl⟩:=hv;have ea:=h.f3;refine⟨h.rs,h.win,h.lat,h.que,hm,h.n8,h.nsz,h.nrs,Nat.le_trans (List.length_filter_le _ _) h.k24,λd hd=>h.kept d (List.mem_filter.1 hd).1,qp2 h.rs h.nrs (qpe h m) h1,by show ag.length<=3;omega,λf hf=>?_⟩;obtain⟨i,hi,rfl⟩:=List.getElem_of_mem hf;have cz:i < e.fds.length:=by have:i < ag.length:=hi;omega
 have bo:=h.fds _ (zm cz);have hq:=h.que;rcases h3 i cz hi with⟨_,h4⟩ | ⟨_,g1,g2,_,_,⟨_,h4⟩ | ⟨h5,h4⟩⟩
 .rw[h4];exact bo
 .rw[h4];exact⟨bo.1,by simp,by simp⟩
 .rw[h4];refine⟨bo.1,bo.2.1,?_⟩;show (_++[_]).length<=50;rw[List.length_append];simp only[List.length_cons,List.length_nil];omega
theorem q8s(h:qde e){c:Int}{r:Int×Int}(ht:qru e c e' r):qde e':=by
 rcases ht with⟨_,rfl,_⟩ | ⟨hc,_,⟨_,rfl⟩ | ⟨h1,h2⟩⟩
 .exact h
 .exact h
 .have hl:=h.lat;have ed:=h.mark;exact q76 h ⟨by omega,by omega⟩ h2
theorem qxf(v:Vq)(ns:List By)(b:Nat)(w:Wq)(h:w.ownsRow b 9 1 v ns.length (ns.map Value.string))(hl:ns.length<=1000) :
  Cs 83 #[v] w λe w'=>∃(oa:Option Addr) (oc:Nat),e=.returned (.slice oa ns.length oc)/\w'.ownsRow w.heap.size 9 1 (.slice oa ns.length oc) ns.length (ns.map Value.string)/\Below w.heap.size w w':=by
 obtain⟨h0,⟨hv,hn⟩ | ⟨g,cap,dl,hv,hb,hw,h1,h2,h3,h4⟩⟩:=h
 .subst hv;have hz:ns=[]:=List.eq_nil_of_length_eq_zero hn;subst hz;refine (Tryz.slices_Clone_string_nil 0 0 w).mono ?_;rintro e w' ⟨rfl,rfl⟩;exact⟨none,0,rfl,⟨rfl,.inl ⟨rfl,rfl⟩⟩,zr⟩
 .subst hv;refine (Tryz.slices_Clone_string g 0 ns.length cap ns w zl (by omega) (λj hj=>?_)).mono ?_
  .have e1:(ns.map Value.string)[j]?=some (.string ns[j]):=by rw[List.getElem?_map,List.getElem?_eq_getElem hj];rfl
   rw[<- h4,List.getElem?_take,if_pos (by omega)] at e1;simp only[World.cell?,hw,Nat.zero_add];have e2:dl[j]?=some (.string ns[j]):=by simpa using e1
   rw[e2,List.getD_eq_getElem?_getD,List.getElem?_eq_getElem hj];rfl
  .rintro e w' ⟨v',rfl,ho,_,d2⟩;rw[List.take_length] at ho;obtain⟨oa,oc,a8⟩:=qo ho;subst a8;exact⟨oa,oc,rfl,ho,d2⟩
theorem q41(f:Vq)(w:Wq):Cs 145 #[.slice none 0 0,.func (.func 86) #[] #[f]] w λe w'=>e=.returned (.int .i64 (-1))/\Below w.heap.size w w':=by
 go_enter Tryz.func145,Tryz.ntmps145;go_wp2
 go_loopw [8] (λi wr=>i=.int .i64 0/\Below w.heap.size w wr) (λi _=>0)
 case atStart=>exact⟨rfl,zr⟩
 case round=>
  obtain⟨rfl,hb⟩:=hrel;go_wp2;go_ret;exact⟨rfl,hb⟩
theorem quw(f:Vq)(w:Wq):Cs 85 #[.slice none 0 0,.func (.func 86) #[] #[f]] w λe w'=>e=.returned (.slice none 0 0)/\Below w.heap.size w w':=by
 have hI:Hid (∀W,Cs 145 #[.slice none 0 0,.func (.func 86) #[] #[f]] W λe w'=>e=.returned (.int .i64 (-1))/\Below W.heap.size W w'):=λW=>q41 f W;go_enter Tryz.func85,Tryz.ntmps85
 go_wp2_with (go_at_call 145;refine (hI.out _).mono ?_;rintro e W1 ⟨rfl,af⟩)
 go_ret;exact⟨rfl,af⟩
theorem quj(v:Vq)(ns:List By)(ab Bs b:Nat)(va:Vq)(ts:List Tm)(w:Wq)(Qs:w.heap[Bs]?=cC #[va] 90)(hs:Qi w b va ts)(hl:ts.length<=2)(qq:w.ownsRow ab 9 1 v ns.length (ns.map Value.string))(dc:ab<=w.heap.size)(hn:ns.length<=900) :
  Cs 76 #[v,.func (.func 144) #[] #[Pt Bs]] w λe w'=>∃(oa:Option Addr) (oc:Nat),e=.returned (.slice oa (nmL ns ts).length oc)/\w'.ownsRow ab 9 1 (.slice oa (nmL ns ts).length oc) (nmL ns ts).length ((nmL ns ts).map Value.string)/\Below ab w w':=by
 refine (qs8 144 #[Pt Bs] ts (λ_=>True) ts.length v ns ab w (enters_of Tryz.func144 (by kernel_rfl) rfl) (λO=>?_) (by omega) qq dc hn).mono ?_
 .have hb:Below w.heap.size w (w.alloc O):=(Below.refl _ w).alloc zl O;exact qws Bs b va ts (w.alloc O) ((hb.block _ (zg Qs).1).trans Qs) (hs.rk (qf.ofBelow hb)) (by omega)
 .rintro e w' ⟨v',rfl,ho,bi⟩;obtain⟨oa,oc,a8⟩:=qo ho;subst a8;exact⟨oa,oc,rfl,ho,⟨bi.os,bi.tape,bi.output,bi.size,λk hk=>bi.block k (by omega) (.inl hk)⟩⟩
theorem Qbw:(Tryz.prog.info? 161).map (λi=>(i.zero,i.size,i.bytes))=some (some (.agg #[.string ⟨#[]⟩,.string ⟨#[]⟩,.string ⟨#[]⟩,.int .i64 0]),4,56):=by kernel_rfl
theorem qji{P:Program}{c2:Array Oper}{o:Oper}{a:Act}{w:Wq}{K:Act->Wq->Prop}{Q:Exit->Act->Wq->Prop}{E:Prop}(hg:o.guard=none)(s x:Operand)(t:TypeId)(du:o.op=Op.call {callee:=Callee.builtin Builtin.append,args:=#[s,x],argTypes:=#[t,t]})(ab:Nat)(e:TypeId)(i:TypeInfo)(z:Vq)(size bytes:Nat)(h1:P.underlying t=some (.slice e))(h2:P.info? e=some i)(h3:i.zero=some z)(h4:i.size=size)(h5:i.bytes=bytes)(h6:z.cells.size=size)(h7:0 < size)(v:Vq)(n:Nat)(xs:List Vq)(hs:a.eval s=v)(qq:w.ownsRow ab e size v n xs)(ad:Addr)(m c:Nat)(al:List Vq)(hx:a.eval x=.slice (some ad) m c)(hn:al.length=m*size)(hc:∀j u,al[j]?=some u->w.cell? (ad.add j)=some u)(dq:∀u∈al,u.oneCell'=true)(b1:n+m<=maxLen)(b2:(n+m)*bytes<=140737488355328)(dd:ab<=w.heap.size)(hK:∀v' w',w'.ownsRow ab e size v' (n+m) (xs++al)->w.grownBy w' v.ownBlock->(v'.ownBlock=v.ownBlock\/v'.ownBlock=some w.heap.size)->K (a.put o.dst v') w') :
  if Region.wanted o (yielded c2 a.tmps)=true then Oper.wp P o a w K Q else E:=by
 have hw:Region.wanted o (yielded c2 a.tmps)=true:=by simp[Region.wanted,hg]
 rw[if_pos hw];obtain⟨v',w',dp,r1,r2,_,r3⟩:=run_append_own_at (P:=P) w ab t o.type e i z size bytes h1 h2 h3 h4 h5 h6 h7 v n xs qq ad m c al hn hc dq b1 b2 dd;unfold Oper.wp;simp[execOp,du,resolve,invoke,builtin,hs,hx,dp,Result.andThen];exact hK v' w' r1 r2 r3
theorem qw7(S:Nat->Prop)(be:Nat)(e:Eg)(a:Am)(ta:Option Addr)(tc b:Nat)(t:Int)(w:Wq)(h:qb4 w S be e)(aj:qde e)(ai:qkr a)(am:Qi w b (.slice ta a.args.length tc) a.args)(hn:∀t∈a.args,t.num < 6)(ht:0<=t/\t<=1000000) :
  Cs 44 #[Pt be,.agg #[.string a.rel,.slice ta a.args.length tc],.int .i64 t] w λen w'=>en=.returned (.int .i64 (qo2 e a t).1)/\Q0 S be (qo2 e a t).2 w w':=by
 have HE:Hid (qb4 w S be e):=h;obtain⟨vr,vn,vk,vf,bm,rb,b6,cc,bt,Sf,hv⟩:=h;obtain⟨N,hN⟩:∃N,w.heap.size=N:=⟨_,rfl⟩;have dg:=hv.lt;obtain⟨na,nc,d3⟩:=qo hv.names;subst d3;obtain⟨ka,kc,dy⟩:=qo hv.kept;subst dy;obtain⟨fa,fc,dv⟩:=qo hv.frow;subst dv;have ao:Hid (∀W,Below w.heap.size w W->W.heap[be]?=cC #[vr,.int .i64 e.win,.int .i64 e.lat,.int .i64 e.que,.int .i64 e.mark,.slice na e.names.length nc,.slice ka e.kept.length kc,.map (some bm),.slice fa bt.length fc] 101):=λW hb=>(hv.below hb).blk
 have ac:Hid (∀W,Below w.heap.size w W->W.cell? (Ad be 5)=some (.slice na e.names.length nc)/\W.frozen? (Ad be 5)=false/\W.cell? (Ad be 6)=some (.slice ka e.kept.length kc)/\W.frozen? (Ad be 6)=false):=λW hb=>by
  have:=ao.out W hb;refine⟨zc this,by simp[World.frozen?,this],zc this,by simp[World.frozen?,this]⟩
 have bf:Hid (∀W,Below w.heap.size w W->Cs 81 #[Pt be,.int .i64 t] W λe' w'=>e'=.returned (.bool (qax e.win e.mark t))/\W.drew=w'):=λW hb=>by
  have:=ao.out W hb;refine (qpx be t e.win e.mark W (by simp[World.cell?,this]) (by simp[World.cell?,this]) ht ⟨by have:=aj.win;omega,aj.win.2⟩).mono ?_;rintro e' w' ⟨h1,h2⟩;exact⟨h1,h2.symm⟩
 have a8:Hid (∀W,Below w.heap.size w W->Cs 48 #[.agg #[.string a.rel,.slice ta a.args.length tc]] W λe' w'=>e'=.returned (.agg #[.string (qb Qm a).rel,.string (qb Qm a).x,.string (qb Qm a).y])/\Below W.heap.size W w'):=λW hb=>qn9 a _ b W (am.rk (qf.ofBelow hb)) ai.args hn;have aw:Hid (∀W,Below w.heap.size w W->Cs 82 #[.slice ka e.kept.length kc,.agg #[.string (qb Qm a).rel,.string (qb Qm a).x,.string (qb Qm a).y,.int .i64 t]] W λe' w'=>e'=.returned (.bool (qm4 e.kept (qb Qm a,t)))/\Below W.heap.size W w'):=λW hb=>qrc _ e.kept 0 (qb Qm a,t) W (qk hv.kept hb) (by have:=aj.k24;omega);have cp:Hid (∀W,Below w.heap.size w W->Cs 83 #[.slice na e.names.length nc] W λe' w'=>∃(oa:Option Addr) (oc:Nat),e'=.returned (.slice oa e.names.length oc)/\w'.ownsRow W.heap.size 9 1 (.slice oa e.names.length oc) e.names.length (e.names.map Value.string)/\Below W.heap.size W w'):=λW hb=>qxf _ e.names 0 W (qk hv.names hb) (by have:=aj.n8;omega)
 have cj:Hid (∀W,Cs 84 #[.slice ta a.args.length tc] W λe' w'=>e'=.returned (.func (.func 144) #[] #[Pt W.heap.size])/\W.alloc (.cells #[.slice ta a.args.length tc] 90)=w'):=λW=>by
  refine (qwr _ W _ _ _ rfl).mono ?_;rintro e' w' ⟨h1,h2⟩;exact⟨h1,h2.symm⟩
 have b9:Hid (∀W3 ab (oa:Option Addr) (oc:Nat),Below w.heap.size w W3->ab<=W3.heap.size->w.heap.size<=ab->W3.ownsRow ab 9 1 (.slice oa e.names.length oc) e.names.length (e.names.map Value.string)->Cs 76 #[.slice oa e.names.length oc,.func (.func 144) #[] #[Pt W3.heap.size]] (W3.alloc (.cells #[.slice ta a.args.length tc] 90)) λe' w'=>∃(oa:Option Addr) (oc:Nat),e'=.returned (.slice oa (nmL e.names a.args).length oc)/\w'.ownsRow ab 9 1 (.slice oa (nmL e.names a.args).length oc) (nmL e.names a.args).length ((nmL e.names a.args).map Value.string)/\Below ab W3 w'):=λW3 ab oa oc hb h1 h2 ho=>by
  have aa:Below W3.heap.size W3 (W3.alloc (.cells #[.slice ta a.args.length tc] 90)):=(Below.refl _ W3).alloc zl _;refine (quj _ e.names ab W3.heap.size b _ a.args _ (zn W3 _) ((am.rk (qf.ofBelow hb)).rk (qf.ofBelow aa)) ai.args (qk ho aa) (by simp;omega) (by have:=aj.n8;omega)).mono ?_;rintro e' w' ⟨oa,oc,k1,k2,k3⟩;exact⟨oa,oc,k1,k2,(aa.mono h1).trans k3⟩
 have hV:Hid (qe5 w S be e vr (.slice na e.names.length nc) (.slice ka e.kept.length kc) (.slice fa bt.length fc) bm rb b6 cc bt Sf):=hv;have dr:e.kept.length<=24:=aj.k24;have ak:Hid (qo2 e a t=if qax e.win e.mark t=true then (8,e) else if qm4 e.kept (qb Qm a,t)=true then (9,e) else if e.kept.length=24\/8 < (nmL e.names a.args).length then (10,e) else (0,{e with names:=nmL e.names a.args,kept:=e.kept++[(qb Qm a,t)]})):=rfl;have cw:∀O,Below w.heap.size w (w.alloc O):=λO=>(Below.refl _ w).alloc zl O;have bq:Hid _:=cw;clear hv aj am hn cw
 cases hob:qax e.win e.mark t with
 | true=>
  rw[hob,if_pos rfl] at ak;rw[hob] at bf;rw[ak.out];clear hob;go_enter Tryz.func44,Tryz.ntmps44
  go_wp2_with (go_at_call 81;refine (bf.out _ (bq.out _)).mono ?_;rintro e' w' ⟨rfl,ah⟩;subst ah)
  go_ret;exact⟨rfl,Q0.same HE.out (bq.out _).drew⟩
 | false=>
  rw[hob,if_neg (by decide)] at ak;rw[hob] at bf;clear hob;go_enter Tryz.func44,Tryz.ntmps44
  go_wp2_with (go_at_call 81;refine (bf.out _ (bq.out _)).mono ?_;rintro e' w' ⟨rfl,ah⟩;subst ah)
  have cu:Hid (Below w.heap.size w (w.alloc (.cells #[.string a.rel,.slice ta a.args.length tc] 92)).drew):=(bq.out _).drew
  have cg:Hid (∀W,Below (w.alloc (.cells #[.string a.rel,.slice ta a.args.length tc] 92)).drew.heap.size (w.alloc (.cells #[.string a.rel,.slice ta a.args.length tc] 92)).drew W->Below w.heap.size w W/\W.cell? (Ad N 0)=some (.string a.rel)/\W.cell? (Ad N 1)=some (.slice ta a.args.length tc)/\N+1<=W.heap.size):=λW hb=>by
   have h1:=(hb.block w.heap.size (by show _ < (w.alloc _).heap.size;simp)).trans (zn w _);rw[hN] at h1;have h2:(w.alloc (.cells #[.string a.rel,.slice ta a.args.length tc] 92)).drew.heap.size=w.heap.size+1:=by show (w.alloc _).heap.size=_;simp
   have h3:=hb.size;exact⟨cu.out.trans (hb.mono (by omega)),zc h1,zc h1,by omega⟩
  generalize (w.alloc (.cells #[.string a.rel,.slice ta a.args.length tc] 92)).drew=WD at *;refine (a8.out WD cu.out).mono ?_;rintro e' W1 ⟨rfl,af⟩;obtain⟨b4,c0,c1,d6⟩:=cg.out W1 af;obtain⟨c5,y5,c6,y6⟩:=ac.out W1 b4;obtain⟨gd,ce⟩:∃gd,qb Qm a=gd:=⟨_,rfl⟩;rw[ce] at aw ak;simp only[ce];obtain⟨W2,cb⟩:∃W2,W1.alloc (.cells #[.string gd.rel,.string gd.x,.string gd.y,.int .i64 t] 161)=W2:=⟨_,rfl⟩;have ae:Below W1.heap.size W1 W2:=by rw[<- cb];exact (Below.refl _ W1).alloc zl _
  have c4:Below w.heap.size w W2:=b4.trans (ae.mono b4.size);have c7:W2.heap.size=W1.heap.size+1:=by rw[<- cb];simp
  obtain⟨N1,cr⟩:∃N1,W1.heap.size=N1:=⟨_,rfl⟩
  have Qs:Hid (∀W,Below W2.heap.size W2 W->Below w.heap.size w W/\W.cell? (Ad N 0)=some (.string a.rel)/\W.cell? (Ad N 1)=some (.slice ta a.args.length tc)/\W.cell? (Ad N1 0)=some (.string gd.rel)/\W.cell? (Ad N1 1)=some (.string gd.x)/\W.cell? (Ad N1 2)=some (.string gd.y)/\W.cell? (Ad N1 3)=some (.int .i64 t)):=λW hb=>by
   have h1:W.heap[N1]?=cC #[.string gd.rel,.string gd.x,.string gd.y,.int .i64 t] 161:=by
    refine (hb.block N1 (by omega)).trans ?_;rw[<- cb,<- cr];exact zn W1 _
   have h2:Below W1.heap.size W1 W:=ae.trans (hb.mono (by omega));have h3:=cg.out W (af.trans (h2.mono af.size));exact⟨h3.1,h3.2.1,h3.2.2.1,zc h1,zc h1,zc h1,zc h1⟩
  obtain⟨_,d0,d1,q0,q1,q2,q3⟩:=Qs.out W2 zr;obtain⟨k5,z5,k6,z6⟩:=ac.out W2 c4;have a6:Hid (Below w.heap.size w W2.drew):=c4.drew;have dm:Hid _:=cr;have ec:Hid _:=c7;have HN:Hid _:=hN;clear c7 ae af cg c0 c1 c5 y5 c6 y6 a8 bf ce
  cases hhd:qm4 e.kept (gd,t) with
  | true=>
   rw[hhd,if_pos rfl] at ak;rw[hhd] at aw;clear hhd;go_wp2_with fail
   first | (go_region_with (go_at_call 82;refine (aw.out _ a6.out).mono ?_;rintro e' W3 ⟨rfl,aa⟩)) | fail
   all_goals go_wp2
   all_goals go_ret
   all_goals (rw[ak.out];exact⟨rfl,Q0.same HE.out (a6.out.trans (aa.mono a6.out.size))⟩)
  | false=>
   rw[hhd,if_neg (by decide)] at ak;rw[hhd] at aw;clear hhd
   have ch:Hid (∀W3,Below W2.drew.heap.size W2.drew W3->Below w.heap.size w W3/\W3.cell? (Ad N 1)=some (.slice ta a.args.length tc)/\W3.cell? (Ad be 5)=some (.slice na e.names.length nc)/\W3.frozen? (Ad be 5)=false/\Hid (Below w.heap.size w W3.drew)):=λW3 aa=>by
    have au:Below W2.heap.size W2 W3:=⟨aa.os,aa.tape,aa.output,aa.size,aa.block⟩;have h1:=Qs.out W3 au;have h2:=ac.out W3 h1.1;exact⟨h1.1,h1.2.2.1,h2.1,h2.2.1,h1.1.drew⟩
   have cl:Hid (∀W3,Below W2.drew.heap.size W2.drew W3->∀W4,Below W3.drew.heap.size W3.drew W4->W4.cell? (Ad N 1)=some (.slice ta a.args.length tc)/\Below w.heap.size w W4/\W3.drew.heap.size<=W4.heap.size/\w.heap.size<=W3.drew.heap.size):=λW3 aa W4 hb=>by
    have au:Below W2.heap.size W2 W3:=⟨aa.os,aa.tape,aa.output,aa.size,aa.block⟩;have h1:Below W2.heap.size W2 W4:=au.trans ⟨hb.os,hb.tape,hb.output,hb.size,λk hk=>hb.block k (by have:=au.size;show k < W3.heap.size;omega)⟩;have h2:=Qs.out W4 h1;exact⟨h2.2.2.1,h2.1,hb.size,(Qs.out W3 au).1.size⟩
   have bb:be≠N1:=by have:=b4.size;have:=dm.out;omega
   have cn:Hid (∀W3,Below W2.drew.heap.size W2.drew W3->∀W4 W5,Below W3.drew.heap.size W3.drew W4->Below W3.drew.heap.size W4 W5->Below w.heap.size w W5/\W5.cell? (Ad be 5)=some (.slice na e.names.length nc)/\W5.frozen? (Ad be 5)=false/\W5.cell? (Ad be 6)=some (.slice ka e.kept.length kc)/\W5.frozen? (Ad be 6)=false/\(∀v,(W5.setCell (Ad be 5) v).cell? (Ad be 6)=some (.slice ka e.kept.length kc))/\(∀v,(W5.setCell (Ad be 5) v).cell? (Ad N1 0)=some (.string gd.rel))/\(∀v,(W5.setCell (Ad be 5) v).cell? (Ad N1 1)=some (.string gd.x))/\(∀v,(W5.setCell (Ad be 5) v).cell? (Ad N1 2)=some (.string gd.y))/\(∀v,(W5.setCell (Ad be 5) v).cell? (Ad N1 3)=some (.int .i64 t))):=λW3 aa W4 W5 h1 h2=>by
    have au:Below W2.heap.size W2 W3:=⟨aa.os,aa.tape,aa.output,aa.size,aa.block⟩;have h3:=h1.trans h2;have h4:=Qs.out W5 (au.trans ⟨h3.os,h3.tape,h3.output,h3.size,λk hk=>h3.block k (by have:=au.size;show k < W3.heap.size;omega)⟩);have h5:=ac.out W5 h4.1;have h6:=ao.out W5 h4.1
    have h7:∀v,(W5.setCell (Ad be 5) v).cell? (Ad be 6)=some (.slice ka e.kept.length kc):=λv=>by
     have:=Qd h6 5 v;simp[World.cell?,this]
    exact⟨h4.1,h5.1,h5.2.1,h5.2.2.1,h5.2.2.2,h7,λv=>(qbn _ _ _ _ _ _ (Ne.symm bb)).trans h4.2.2.2.1,λv=>(qbn _ _ _ _ _ _ (Ne.symm bb)).trans h4.2.2.2.2.1,λv=>(qbn _ _ _ _ _ _ (Ne.symm bb)).trans h4.2.2.2.2.2.1,λv=>(qbn _ _ _ _ _ _ (Ne.symm bb)).trans h4.2.2.2.2.2.2⟩
   by_cases hf:e.kept.length=24\/8 < (nmL e.names a.args).length
   .rw[if_pos hf] at ak;by_cases c3:e.kept.length=24
    .have i2:((e.kept.length:Int) == 24)=true:=by simp[c3]
     clear hf c3;go_wp2_with fail
     first | (go_region_with (go_at_call 82;refine (aw.out _ a6.out).mono ?_;rintro e' W3 ⟨rfl,aa⟩)) | fail
     all_goals go_wp2_with fail
     all_goals (
      obtain⟨ct,r1,m5,x5,bh⟩:=ch.out W3 aa;have av:Hid _:=cl.out W3 aa;have a7:Hid _:=cn.out W3 aa;clear aa
      first | (go_region_with (first | (go_at_call 83;refine (cp.out _ bh.out).mono ?_;rintro e' W4 ⟨oa,oc,rfl,bn,ap⟩;obtain⟨s1,bj,bd,a9⟩:=av.out W4 ap) | (go_at_call 84;refine (cj.out _).mono ?_;rintro e' w' ⟨rfl,ah⟩;subst ah) | (go_at_call 76;refine (b9.out W4 W3.drew.heap.size oa oc bj bd a9 bn).mono ?_;rintro e' W5 ⟨pa,pc,rfl,b5,an⟩;obtain⟨ay,f5,y5,f6,y6,g6,g0,g1,g2,g3⟩:=a7.out W4 W5 ap an;clear av))) | fail)
     all_goals go_wp2
     all_goals go_ret
     all_goals (rw[ak.out];exact⟨rfl,Q0.same HE.out ay⟩)
    .have i1:¬(e.kept.length:Int)=24:=by omega
     have i2:((e.kept.length:Int) == 24)=false:=by simp[i1]
     have i3:(8:Int) < ((nmL e.names a.args).length:Int):=by omega
     clear hf;go_wp2_with fail
     first | (go_region_with (go_at_call 82;refine (aw.out _ a6.out).mono ?_;rintro e' W3 ⟨rfl,aa⟩)) | fail
     all_goals go_wp2_with fail
     all_goals (
      obtain⟨ct,r1,m5,x5,bh⟩:=ch.out W3 aa;have av:Hid _:=cl.out W3 aa;have a7:Hid _:=cn.out W3 aa;clear aa
      first | (go_region_with (first | (go_at_call 83;refine (cp.out _ bh.out).mono ?_;rintro e' W4 ⟨oa,oc,rfl,bn,ap⟩;obtain⟨s1,bj,bd,a9⟩:=av.out W4 ap) | (go_at_call 84;refine (cj.out _).mono ?_;rintro e' w' ⟨rfl,ah⟩;subst ah) | (go_at_call 76;refine (b9.out W4 W3.drew.heap.size oa oc bj bd a9 bn).mono ?_;rintro e' W5 ⟨pa,pc,rfl,b5,an⟩;obtain⟨ay,f5,y5,f6,y6,g6,g0,g1,g2,g3⟩:=a7.out W4 W5 ap an;clear av))) | fail)
     all_goals go_wp2
     all_goals go_ret
     all_goals (rw[ak.out];exact⟨rfl,Q0.same HE.out ay⟩)
   .rw[if_neg hf] at ak;have i1:¬(e.kept.length:Int)=24:=by omega
    have i2:((e.kept.length:Int) == 24)=false:=by simp[i1]
    have i3:¬(8:Int) < ((nmL e.names a.args).length:Int):=by omega
    clear hf;obtain⟨j0,hi,dx,de,c8⟩:=info_parts Qbw;have co:e.kept.length+1<=maxLen:=by unfold maxLen;omega
    have dh:(e.kept.length+1)*56<=140737488355328:=by omega
    have dt:Hid (∀W5,Below w.heap.size w W5->∀v,(W5.setCell (Ad be 5) v).drew.ownsRow 0 161 4 (.slice ka e.kept.length kc) e.kept.length (e.kept.flatMap qr)):=λW5 hb v=>by
     have h5:=hV.out.below hb;have:=Qg h5.kept ⟨be,5,none⟩ v (Qf h5.kept h5.blk (by decide));exact⟨this.1,this.2⟩
    have Qa8:Hid (∀W5,Below w.heap.size w W5->∀v,be < (W5.setCell (Ad be 5) v).drew.heap.size):=λW5 hb v=>by
     have:=hb.size;show be < (W5.setCell (Ad be 5) v).heap.size;simp;omega
    have c9:Hid (∀W5 nb (pa:Option Addr) (pc:Nat),w.heap.size<=nb->Below w.heap.size w W5->W5.ownsRow nb 9 1 (.slice pa (nmL e.names a.args).length pc) (nmL e.names a.args).length ((nmL e.names a.args).map Value.string)->∀(O:Obj) (w1:Wq) (v':Vq),w1.ownsRow 0 161 4 v' (e.kept.length+1) (e.kept.flatMap qr++[.string gd.rel,.string gd.x,.string gd.y,.int .i64 t])->((W5.setCell (Ad be 5) (.slice pa (nmL e.names a.args).length pc)).drew.alloc O).grownBy w1 (Value.slice ka e.kept.length kc).ownBlock->(v'.ownBlock=(Value.slice ka e.kept.length kc).ownBlock\/v'.ownBlock=some ((W5.setCell (Ad be 5) (.slice pa (nmL e.names a.args).length pc)).drew.alloc O).heap.size)->w1.cell? (Ad be 6)=some (.slice ka e.kept.length kc)/\w1.frozen? (Ad be 6)=false/\Q0 S be {e with names:=nmL e.names a.args,kept:=e.kept++[(gd,t)]} w (w1.setCell (Ad be 6) v')):=λW5 nb pa pc dk hb ho O w1 v' h1 h2 h3=>
     q65 hV.out hb (d:=(gd,t)) dk ho O h1 ⟨h2.os,h2.tape,h2.output,h2.size,h2.block⟩ h3
    go_wp2_with fail
    first | (go_region_with (go_at_call 82;refine (aw.out _ a6.out).mono ?_;rintro e' W3 ⟨rfl,aa⟩)) | fail
    all_goals go_wp2_with fail
    all_goals (
     obtain⟨ct,r1,m5,x5,bh⟩:=ch.out W3 aa;have av:Hid _:=cl.out W3 aa;have a7:Hid _:=cn.out W3 aa;clear aa
     first | (go_region_with (first | (go_at_call 83;refine (cp.out _ bh.out).mono ?_;rintro e' W4 ⟨oa,oc,rfl,bn,ap⟩;obtain⟨s1,bj,bd,a9⟩:=av.out W4 ap) | (go_at_call 84;refine (cj.out _).mono ?_;rintro e' w' ⟨rfl,ah⟩;subst ah) | (go_at_call 76;refine (b9.out W4 W3.drew.heap.size oa oc bj bd a9 bn).mono ?_;rintro e' W5 ⟨pa,pc,rfl,b5,an⟩;obtain⟨ay,f5,y5,f6,y6,g6,g0,g1,g2,g3⟩:=a7.out W4 W5 ap an;clear av))) | fail)
    all_goals go_wp2_with fail
    all_goals (
     have da:(W5.setCell (Ad be 5) (.slice pa (nmL e.names a.args).length pc)).drew.ownsRow 0 161 4 (.slice ka e.kept.length kc) e.kept.length (e.kept.flatMap qr):=dt.out W5 ay _;have q7:Hid _:=c9.out W5 _ pa pc a9 ay b5;have d9:be < (W5.setCell (Ad be 5) (.slice pa (nmL e.names a.args).length pc)).drew.heap.size:=Qa8.out W5 ay _;have v0:(W5.setCell (Ad be 5) (.slice pa (nmL e.names a.args).length pc)).drew.cell? (Ad N1 0)=some (.string gd.rel):=g0 _;have v1:(W5.setCell (Ad be 5) (.slice pa (nmL e.names a.args).length pc)).drew.cell? (Ad N1 1)=some (.string gd.x):=g1 _;have v2:(W5.setCell (Ad be 5) (.slice pa (nmL e.names a.args).length pc)).drew.cell? (Ad N1 2)=some (.string gd.y):=g2 _;have v3:(W5.setCell (Ad be 5) (.slice pa (nmL e.names a.args).length pc)).drew.cell? (Ad N1 3)=some (.int .i64 t):=g3 _;have v6:(W5.setCell (Ad be 5) (.slice pa (nmL e.names a.args).length pc)).drew.cell? (Ad be 6)=some (.slice ka e.kept.length kc):=g6 _;clear g0 g1 g2 g3 g6 f5 y5 f6 y6 b5 an a7;generalize hV5:(W5.setCell (Ad be 5) (.slice pa (nmL e.names a.args).length pc)).drew=V5 at *;have d7:∀O,(V5.alloc O).cell? (Ad be 6)=some (.slice ka e.kept.length kc):=λO=>cell_later ((Below.refl V5.heap.size V5).alloc zl O) v6
     go_region_law (first | (refine qji rfl (.tmp 50) (.tmp 52) 96 rfl 0 161 j0 (.agg #[.string ⟨#[]⟩,.string ⟨#[]⟩,.string ⟨#[]⟩,.int .i64 0]) 4 56 Tryz.underlying96 hi dx de c8 rfl (by decide) (.slice ka e.kept.length kc) e.kept.length (e.kept.flatMap qr) (by simp[Act.eval,Act.put]) (World.ownsRow.alloc da _) ⟨V5.heap.size,0,none⟩ 1 1 [.string gd.rel,.string gd.x,.string gd.y,.int .i64 t] (by simp[Act.eval,Act.put]) rfl (qb1 _ _ _ _ _ _) (by simp[Value.oneCell']) co dh zz ?_;intro v' w1 aq az b7;obtain⟨g',di,bu⟩:=ownsRow_succ aq;subst bu;obtain⟨s6,t6,db⟩:=q7.out _ w1 _ aq az b7) | go_simp))
    all_goals (
     go_wp2;go_ret;rw[ak.out]
     exact⟨rfl,db⟩)
theorem Q0.after{w w1 w2:Wq}{S:Nat->Prop}{be:Nat}(hb:Below w.heap.size w w1)(h:Q0 S be e w1 w2):Q0 S be e w w2:=by
 obtain⟨S',h1,h2,h3⟩:=h;refine⟨S',h1,λk hk=>(h2 k hk).imp id (λh=>Nat.le_trans hb.size h),h3.os.trans hb.os,h3.tape.trans hb.tape,h3.output.trans hb.output,Nat.le_trans hb.size h3.size,λj hj hs=>(h3.block j (Nat.lt_of_lt_of_le hj hb.size) hs).trans (hb.block j hj)⟩
theorem qyc(S:Nat->Prop)(be:Nat)(e:Eg)(s:By)(t:Int)(w:Wq)(h:qb4 w S be e)(aj:qde e)(hs:s.size<=4611686018427387904)(hT:Lib.Utf8Tabs 0 1 w)(hn:∀a,qcx s=some a->∀t∈a.args,t.num < 6) :
  Cs 20 #[Pt be,.string s,.int .i64 t] w λen w'=>en=.returned (.int .i64 (qkd e s t).1)/\Q0 S be (qkd e s t).2 w w':=by
 have ax:=qqi s w hs hT;unfold qhp at ax;have HE:Hid (qb4 w S be e):=h
 cases ha:qcx s with
 | none=>
  rw[ha] at ax;have hu:Hid (qkd e s t=(2,e)):=by show _=_;unfold qkd;rw[ha]
  have HR:Hid _:=ax;clear ax ha h aj;rw[hu.out];go_enter Tryz.func20,Tryz.ntmps20
  go_wp2_with (go_at_call 40;refine Calls.mono HR.out ?_;rintro e' W1 ⟨af,rfl⟩)
  go_ret;exact⟨rfl,Q0.same HE.out (af.alloc af.size _)⟩
 | some a=>
  rw[ha] at ax;have dz:=hn a ha;have hu:Hid (qkd e s t=if qbc a=false then (2,e) else if qm1 e.rs a.rel=true then (7,e) else if ckR e.rs a≠0 then (ckR e.rs a,e) else if ¬(0<=t/\t<=1000000) then (6,e) else qo2 e a t):=by show _=_;unfold qkd;rw[ha]
  obtain⟨gb,cq⟩:∃gb,qbc a=gb:=⟨_,rfl⟩
  have HR:Hid (Cs 40 #[.string s] w λe' w'=>Below w.heap.size w w'/\∃va,e'=.returned (.tuple #[.agg #[.string a.rel,va],.bool gb])/\qkr a/\Qi w' w'.heap.size va a.args):=by
   show Calls _ _ _ _ _;rw[<- cq];exact ax
  rw[cq] at hu;obtain⟨vr,vn,vk,vf,bm,rb,b6,cc,bt,Sf,hv⟩:=h;obtain⟨ra,rc,dw⟩:=hv.rules.form;subst dw;have dg:=hv.lt
  have ao:Hid (∀W,Below w.heap.size w W->W.cell? (Ad be 0)=some (.slice ra e.rs.length rc)):=λW hb=>by
   have:=(hv.below hb).blk;simp[World.cell?,this]
  have bv:Hid (∀W,Below w.heap.size w W->Cs 41 #[.slice ra e.rs.length rc,.string a.rel] W λe' w'=>e'=.returned (.bool (qm1 e.rs a.rel))/\Below W.heap.size W w'):=λW hb=>by
   have bu:=hv.below hb;exact qrp _ e.rs a.rel rb b6 cc _ bu.rules (qni bu.rules) aj.rs.r8
  have b3:Hid (∀W,Cs 43 #[.int .i64 t,.int .i64 0,.int .i64 1000000] W λe' w'=>e'=.returned (.bool (decide (0<=t) && decide (t<=1000000)))/\W=w'):=λW=>by
   refine (qfi t 0 1000000 W).mono ?_;rintro e' w' ⟨h1,h2⟩;exact⟨h1,h2.symm⟩
  have cy:Hid (qde e):=aj;clear ax ha hv aj hT hn;clear cq
  cases gb with
  | false=>
   rw[if_pos rfl] at hu;rw[hu.out];clear hu;go_enter Tryz.func20,Tryz.ntmps20
   go_wp2_with (go_at_call 40;refine Calls.mono HR.out ?_;rintro e' W1 ⟨af,va,rfl,ai,am⟩;obtain⟨xa,xc,cf⟩:=am.form;subst cf;have d5:Hid _:=ai;have eb:Hid _:=am;clear ai am)
   go_ret;exact⟨rfl,Q0.same HE.out (af.alloc af.size _)⟩
  | true=>
   rw[if_neg (by decide)] at hu;go_enter Tryz.func20,Tryz.ntmps20;go_wp2_with fail;refine Calls.mono HR.out ?_;rintro e' W1 ⟨af,va,rfl,ai,am⟩;obtain⟨xa,xc,cf⟩:=am.form;subst cf;have ci:Hid (∀W,Below w.heap.size w W->Cs 42 #[Pt be,.agg #[.string a.rel,.slice xa a.args.length xc]] W λen w'=>en=.returned (.int .i64 (ckR e.rs a))/\Below W.heap.size W w'):=λW hb=>qlp S be e W (HE.out.below hb) cy.out.rs a _ _ _ rfl ai.args
   have dj:Hid (∀W,Below w.heap.size w W->Below W1.heap.size W1 W->0<=t/\t<=1000000->Cs 44 #[Pt be,.agg #[.string a.rel,.slice xa a.args.length xc],.int .i64 t] W λen w'=>en=.returned (.int .i64 (qo2 e a t).1)/\Q0 S be (qo2 e a t).2 w w'):=λW hb co ht=>by
    refine (qw7 S be e a xa xc W1.heap.size t W (HE.out.below hb) cy.out ai (am.rk (qf.ofBelow co)) dz ht).mono ?_;rintro en w' ⟨h1,h2⟩;exact⟨h1,Q0.after hb h2⟩
   have d8:w.heap.size<=W1.heap.size:=af.size;have cd:Hid (Below w.heap.size w (W1.alloc (.cells #[.string a.rel,.slice xa a.args.length xc] 92))/\Below W1.heap.size W1 (W1.alloc (.cells #[.string a.rel,.slice xa a.args.length xc] 92))):=⟨af.alloc af.size _,(Below.refl _ W1).alloc zl _⟩
   have Qs:Hid (∀W2,Below (W1.alloc (.cells #[.string a.rel,.slice xa a.args.length xc] 92)).heap.size (W1.alloc (.cells #[.string a.rel,.slice xa a.args.length xc] 92)) W2->W2.cell? (Ad W1.heap.size 0)=some (.string a.rel)/\W2.cell? (Ad W1.heap.size 1)=some (.slice xa a.args.length xc)/\Below w.heap.size w W2/\Below W1.heap.size W1 W2/\W2.cell? (Ad be 0)=some (.slice ra e.rs.length rc)):=λW2 hb=>by
    have h1:=(hb.block _ (by simp)).trans (zn W1 _);have h2:=cd.out.1.trans (hb.mono (by simp;omega));exact⟨zc h1,zc h1,h2,cd.out.2.trans (hb.mono (by simp)),ao.out W2 h2⟩
   obtain⟨r0,r1,r2,r3,r4⟩:=Qs.out _ zr;have b0:Hid (Below w.heap.size w (W1.alloc (.cells #[.string a.rel,.slice xa a.args.length xc] 92)).drew):=cd.out.1.drew;clear ai am
   cases hdb:qm1 e.rs a.rel with
   | true=>
    rw[hdb,if_pos rfl] at hu;rw[hdb] at bv;clear hdb;go_wp2_with fail
    first | (go_region_with (go_at_call 41;refine (bv.out _ b0.out).mono ?_;rintro e' W2 ⟨rfl,ae⟩)) | fail
    all_goals go_wp2
    all_goals go_ret
    all_goals (rw[hu.out];exact⟨rfl,Q0.same HE.out (b0.out.trans (ae.mono b0.out.size))⟩)
   | false=>
    rw[hdb,if_neg (by decide)] at hu;rw[hdb] at bv;clear hdb;go_wp2_with fail;refine wp_mono (Q:=λe' a' w'=>match e' with | Exit.normal=>(Below (W1.alloc (.cells #[.string a.rel,.slice xa a.args.length xc] 92)).heap.size (W1.alloc (.cells #[.string a.rel,.slice xa a.args.length xc] 92)) w'/\a'={tmps:=#[Pt be,.string s,.int .i64 t,undef,undef,undef,.int .i64 0,Pt W1.heap.size,.bool true,undef,.tuple #[.agg #[.string a.rel,.slice xa a.args.length xc],.bool true],.string s,.tuple #[.agg #[.string a.rel,.slice xa a.args.length xc],.bool true],.agg #[.string a.rel,.slice xa a.args.length xc],.bool true,.bool true,.bool false,Pt be,Pt be,Pt be,.slice ra e.rs.length rc,Pt W1.heap.size,.string a.rel,.bool false,undef,undef,undef,undef,undef,undef,undef,undef,undef,undef,undef,undef,undef],defers:=[]}) | _=>False) ?reg ?rest
    case reg=>
     first | (go_region_with (go_at_call 41;refine (bv.out _ b0.out).mono ?_;rintro e' W2 ⟨rfl,ae⟩)) | fail
     all_goals exact⟨⟨ae.os,ae.tape,ae.output,ae.size,ae.block⟩,rfl⟩
    case rest=>
     rintro (_ | _ | _ | _ | _ | _) a' W2 hq
     all_goals first | exact hq.elim | skip
     obtain⟨ae,rfl⟩:=hq;obtain⟨d0,d1,aa,ap,d4⟩:=Qs.out W2 ae;by_cases bk:ckR e.rs a=0
     .have Qgc:Hid (¬ckR e.rs a≠0):=λh=>h bk;rw[if_neg Qgc.out] at hu;rw[bk] at ci;clear bk;go_wp2_with fail;refine (ci.out W2 aa).mono ?_;rintro e' W3 ⟨rfl,an⟩;have cx:Below (W1.alloc (.cells #[.string a.rel,.slice xa a.args.length xc] 92)).heap.size (W1.alloc (.cells #[.string a.rel,.slice xa a.args.length xc] 92)) W3:=ae.trans (an.mono ae.size);obtain⟨g0,g1,cv,dn,g4⟩:=Qs.out W3 cx;clear cx an ae;by_cases ht:0<=t/\t<=1000000
      .have bc:(decide (0<=t) && decide (t<=1000000))=true:=by simp[ht.1,ht.2]
       rw[bc] at b3;rw[if_neg (λh=>h ht)] at hu;have HT:Hid (0<=t/\t<=1000000):=ht;clear ht bc
       go_wp2_with (first | (go_at_call 43;refine (b3.out _).mono ?_;rintro e' w' ⟨rfl,ah⟩;subst ah) | (go_at_call 44;refine (dj.out W3 cv dn HT.out).mono ?_;rintro e' W4 ⟨rfl,hp⟩))
       go_ret;rw[hu.out];exact⟨rfl,hp⟩
      .have bc:(decide (0<=t) && decide (t<=1000000))=false:=by
        rw[Bool.and_eq_false_iff];simp only[decide_eq_false_iff_not];omega
       rw[bc] at b3;rw[if_pos ht] at hu;clear ht bc
       go_wp2_with (go_at_call 43;refine (b3.out _).mono ?_;rintro e' w' ⟨rfl,ah⟩;subst ah)
       go_ret;rw[hu.out];exact⟨rfl,Q0.same HE.out cv⟩
     .rw[if_pos bk] at hu;have Qgb:(ckR e.rs a == 0)=false:=by simp[bk]
      generalize ckR e.rs a=ck at *
      go_wp2_with (go_at_call 42;refine (ci.out W2 aa).mono ?_;rintro e' W3 ⟨rfl,an⟩)
      go_ret;rw[hu.out];exact⟨rfl,Q0.same HE.out (aa.trans (an.mono aa.size))⟩
