/- A part -/
import Derived.Test.YtjajnhemgphefaaGreatDoorKRefJ
set_option linter.all false
set_option maxRecDepth 100000
set_option maxHeartbeats 8000000
namespace Go.Proofs.YtjajnhemgphefaaGreatDoor
open Go renaming World->Wq,Value->Vq
open Go.RowKit Go.Shelf
theorem q3n{α:Type}{ts:List α}{j:Nat}{a b:α}{us:List α}(h:ts.drop j=a::b::us):∃h1:j+1 < ts.length,ts[j]=a/\ts[j+1]=b/\ts.drop (j+2)=us:=by
 have hl:=congrArg List.length h;rw[List.length_drop] at hl;simp only[List.length_cons] at hl;have h1:j+1 < ts.length:=by omega
 have e1:=List.drop_eq_getElem_cons (show j < ts.length by omega);have e2:=List.drop_eq_getElem_cons h1;rw[e1,e2] at h;injection h with h2 h3;injection h3 with h3 h4;exact⟨h1,h2,h3,h4⟩
theorem qjp(vs:List By)(t:RT):(qdp vs t).length<=vs.length+1:=by
 unfold qdp Qh;split
 .split <;> simp
 .omega
theorem ArSt.step{vs:List By}{a b:RT}{us:List RT}{ag L:List Tm}{am:List By}{k M:Nat}(hs:∃l n,qaf vs (a::b::us)=some (l,am,n)/\ag++l=L/\k+n=M) :
  (b.kind=41->ag++[qge vs a]=L/\qdp vs a=am/\k+2=M)/\(b.kind≠41->∃l n,qaf (qdp vs a) us=some (l,am,n)/\(ag++[qge vs a])++l=L/\(k+2)+n=M):=by
 obtain⟨l,n,h1,h2,h3⟩:=hs;unfold qaf at h1;refine⟨λhb=>?_,λhb=>?_⟩
 .rw[if_pos hb] at h1;simp only[Option.some.injEq,Prod.mk.injEq] at h1;obtain⟨rfl,rfl,rfl⟩:=h1;exact⟨h2,rfl,h3⟩
 .rw[if_neg hb] at h1
  cases hr:qaf (qdp vs a) us with
  | none=>rw[hr] at h1;simp at h1
  | some r=>
   obtain⟨l',v',n'⟩:=r;rw[hr] at h1;simp only[Option.some.injEq,Prod.mk.injEq] at h1;obtain⟨rfl,rfl,rfl⟩:=h1;exact⟨l',n',rfl,by rw[<- h2];simp,by omega⟩
theorem qo6(g cap:Nat)(ts:List RT)(at':Nat)(B:Nat)(v:Vq)(vs:List By)(L:List Tm)(am:List By)(M:Nat)(w:Wq)(ay:qg3 w g ts)(hl:ts.length<=400)(aj:at' < ts.length)(hB:B<=w.heap.size)(ew:vs.length<=400)(hv:w.ownsRow B 9 1 v vs.length (vs.map Value.string))(al:qaf vs (ts.drop (at'+2))=some (L,am,M)) :
  Cs 177 #[.slice (some ⟨g,0,none⟩) ts.length cap,.int .i64 at',v] w λe w'=>∃va v',e=.returned (.tuple #[.agg #[.string ts[at'].text,va],.int .i64 (at'+2+M:Nat),v'])/\
   w'.ownsRow w.heap.size 215 2 va L.length (L.flatMap tmC)/\w'.ownsRow B 9 1 v' am.length (am.map Value.string)/\qz B w w':=by
 obtain⟨i0,hi,bn,bu,bt⟩:=info_parts Tryz.infoArg;obtain⟨N,hN⟩:∃N,N=w.heap.size:=⟨_,rfl⟩;have ao:=hN.symm;have cj:g < N:=by rw[hN];exact ay.1.1
 obtain⟨t0,t1,t2,t3⟩:=ay.1.2 at' aj;have d7:∀O,(w.alloc O).cell? (Ad g (at'*4+1))=some (.string ts[at'].text):=λO=>(Below.cell ((Below.refl w.heap.size w).alloc zl O) ay.1.1).trans t1;rw[<- hN] at hB ⊢;clear hN t0 t2 t3;have be:Hid (qg3 w g ts):=ay;have HV:Hid (w.ownsRow B 9 1 v vs.length (vs.map Value.string)):=hv;have d0:Hid _:=al;clear ay hv al;generalize ts[at'].text=rel at *;go_enter Tryz.func177,Tryz.ntmps177;go_wp2
 go_loopw [1,2] (λp q wr=>∃(j k:Nat) (vk va:Vq) (af:List ByteArray) (ag:List Tm),vk=q/\p=.int .i64 j/\Hid (j=at'+2+k)/\ArW B N w wr rel af vk va ag/\Hid (∃l n,qaf af (ts.drop j)=some (l,am,n)/\ag++l=L/\k+n=M)/\ag.length<=k/\af.length<=400+k) (λp _ _=>ts.length - (intOf p).toNat)
 case atStart=>
  refine⟨at'+2,0,v,_,vs,[],rfl,by go_num,rfl,⟨((qz.refl B w).alloc _).alloc _,?_,?_,zo,(HV.out.alloc _).alloc _⟩,⟨L,M,d0.out,rfl,by omega⟩,Nat.le_refl _,by omega⟩
  .rw[Below.heap_alloc _ _ _ (by simp;omega),<- ao];exact zn w _
  .have:=zn (w.alloc (.cells #[.string ⟨#[]⟩,.slice none 0 0] 145)) (.cells #[.string rel,.slice none 0 0] 145);rw[World.size_alloc,ao] at this;exact this
 case round=>
  obtain⟨j,k,vk,va,af,ag,rfl,rfl,bf,hW,al,d8,d6⟩:=hrel;obtain⟨l',n',de,_⟩:=al.out;obtain⟨a,b,us,cn⟩:=q0f de;obtain⟨b8,ha,hb,a6⟩:=q3n cn;obtain⟨a0,a1,a2,a3⟩:=(be.out.kept hW.str).1.2 j (by omega);obtain⟨b0,b1,b2,b3⟩:=(be.out.kept hW.str).1.2 (j+1) b8;rw[cn] at al;have c5:=ArSt.step al.out;rw[ha] at a0 a1;rw[hb] at b0;have cf:Hid _:=c5;have cz:Hid (ts.drop (j+2)=us):=a6;have Qdy:j < ts.length:=by omega
  have a8:ag.length+1<=maxLen:=by have:=bf.out;unfold maxLen;omega
  have bb:(ag.length+1)*24<=140737488355328:=by have:=bf.out;omega
  have eh:=qjp af a;clear c5 al de cn ha hb a6 a2 a3 b1 b2 b3;obtain⟨ak,ah,ap,ar⟩:=a;obtain⟨bk,ef,bp,br⟩:=b;simp only at a0 a1 b0;have Qdt:g≠N+1:=by omega
  have Qhm:g≠N:=by omega
  have HF:Hid (∀(X w1:Wq) (vq:Vq) (c9:List By),ArW B N w X rel c9 vq va ag->X.grownBy w1 va.ownBlock->w1.cell? (Ad (N+1) 0)=some (.string rel)/\w1.cell? (Ad (N+1) 1)=some va/\(∀o,w1.frozen? (Ad (N+1) o)=false)/\w1.cell? (Ad g ((j+1)*4))=some (.int .i64 bk)/\(∀o,w1.frozen? (Ad N o)=false)/\w1.cell? (Ad N 0)=some (.string ⟨#[]⟩)/\w1.cell? (Ad N 1)=some (.slice none 0 0)):=by
   intro X w1 vq c9 hX hg;have bd:∀k,va.ownBlock=some k->N+2<=k:=λk e=>(Qe hX.own k e).1;have h1:w1.heap[N+1]?=cC #[.string rel,va] 145:=(hg.block (N+1) (zg hX.atm).1 (λe=>by have:=bd _ e.symm;omega)).trans hX.atm;have h0:w1.heap[N]?=cC #[.string ⟨#[]⟩,.slice none 0 0] 145:=(hg.block N (zg hX.res).1 (λe=>by have:=bd _ e.symm;omega)).trans hX.res;have ht:=be.out.kept hX.str;have h2:w1.heap[g]?=X.heap[g]?:=hg.block g ht.1.1 (λe=>by have:=bd _ e.symm;omega);have h3:w1.cell? (Ad g ((j+1)*4))=X.cell? (Ad g ((j+1)*4)):=World.cell?_of_block (w:=X) h2;have h4:=(ht.1.2 (j+1) b8).1;have h5:=((be.out.kept hW.str).1.2 (j+1) b8).1;rw[b0] at h5;rw[<- h5] at h4;exact⟨zc h1,zc h1,λo=>by simp[World.frozen?,h1],h3.trans h4,λo=>by simp[World.frozen?,h0],zc h0,zc h0⟩
  have b4:N+2<=wr.heap.size:=(zg hW.atm).1;have HW:Hid (ArW B N w wr rel af vk va ag):=hW;have bq:Hid (∀O O',N+2<=((wr.alloc O).alloc O').heap.size):=λO O'=>by simp;omega
  have d1:wr.cell? (Ad (N+1) 1)=some va:=by simp[World.cell?,hW.atm]
  have cp:Hid (∀(O:Obj) (x y:Vq) (t:TypeId) (i:Nat) (q:Vq),[x,y][i]?=some q->((wr.alloc O).alloc (.cells #[x,y] t)).cell? ((⟨wr.heap.size+1,0,none⟩:Addr).add i)=some q):=by
   intro O x y t i q hq;have:=qei (wr.alloc O) x y t i q hq;rw[World.size_alloc] at this;exact this
  have c1:g < wr.heap.size:=by omega
  have ev:∀O,(wr.alloc O).cell? (Ad (N+1) 1)=some va:=λO=>(Below.cell ((Below.refl wr.heap.size wr).alloc zl O) (by simp;omega)).trans d1;have ec:∀O,(wr.alloc O).cell? (Ad g (j*4))=some (.int .i64 ak):=λO=>(Below.cell ((Below.refl wr.heap.size wr).alloc zl O) c1).trans a0;have eg:∀O,(wr.alloc O).cell? (Ad g (j*4+1))=some (.string ah):=λO=>(Below.cell ((Below.refl wr.heap.size wr).alloc zl O) c1).trans a1;clear hW;by_cases k2:ak=2
  .subst k2
   have aj:Hid (qge af ⟨2,ah,ap,ar⟩=⟨⟨#[]⟩,Qx af ah⟩/\qdp af ⟨2,ah,ap,ar⟩=Qh af ah):=by
    show _/\_;unfold qge qdp;simp
   have eu:(Qh af ah).length<=af.length+1:=by unfold Qh;split <;> simp
   have es:Qx af ah<=af.length:=List.findIdx_le_length;have c6:=λO=>q56 B vk af ah (wr.alloc O) (by simp;omega) (by have:=bf.out;omega) (HW.out.vars.alloc O);generalize Qx af ah=sn at *;generalize Qh af ah=svs at *;have a7:∀u∈[Value.string ⟨#[]⟩,.int .i64 sn],u.oneCell'=true:=by simp[Value.oneCell']
   go_wp2_with fail;refine (c6 _).mono ?_;rintro e w2 ⟨v2,rfl,bv,bj⟩;have cc:=(HW.out.alloc _).grow bj bv
   have bo:w2.heap[wr.heap.size]?=cC #[.string ah,.int .i64 0] 215:=by
    rw[bj.block wr.heap.size (by simp) (λe=>?_),World.alloc_heap_new];have:=(Qe HW.out.vars _ e.symm).2.1;omega
   have c8:va.ownBlock≠some wr.heap.size:=λe=>by have:=(Qe HW.out.own _ e).2.1;omega
   have db:=Qc bo 0 (.string ⟨#[]⟩);have hZ:=(cc.setP ao b4 bo c8 0 (.string ⟨#[]⟩)).setP ao b4 db c8 1 (.int .i64 sn);have HZ:Hid _:=hZ;have p0:w2.cell? (Ad wr.heap.size 0)=some (.string ah):=zc bo
   have p1:w2.cell? (Ad wr.heap.size 1)=some (.int .i64 0):=zc bo
   have pf:∀o,w2.frozen? (Ad wr.heap.size o)=false:=λo=>by simp[World.frozen?,bo]
   have dz:w2.cell? (Ad (N+1) 1)=some va:=by simp[World.cell?,cc.atm]
   have eb:wr.heap.size≠N+1:=by omega
   have d9:N+2<=w2.heap.size:=(zg cc.atm).1;have dd:Hid (∀O,N+2<=(((w2.setCell (Ad wr.heap.size 0) (.string ⟨#[]⟩)).setCell (Ad wr.heap.size 1) (.int .i64 sn)).alloc O).heap.size):=λO=>by simp;omega
   have c3:Hid (∀(x y:Vq) (t:TypeId) (i:Nat) (q:Vq),[x,y][i]?=some q->(((w2.setCell (Ad wr.heap.size 0) (.string ⟨#[]⟩)).setCell (Ad wr.heap.size 1) (.int .i64 sn)).alloc (.cells #[x,y] t)).cell? ((⟨w2.heap.size,0,none⟩:Addr).add i)=some q):=by
    intro x y t i q hq;have:=qei ((w2.setCell (Ad wr.heap.size 0) (.string ⟨#[]⟩)).setCell (Ad wr.heap.size 1) (.int .i64 sn)) x y t i q hq;simpa using this
   clear cc bo db hZ bj bv c6;by_cases kb:bk=41
   .subst kb
    go_wp2_with (at_builtin;refine wpList_append_own _ rfl (.tmp 49) (.tmp 51) 143 rfl (N+2) 215 i0 (.agg #[.string ⟨#[]⟩,.int .i64 0]) 2 24 Tryz.underlying143 hi bn bu bt rfl (by decide) _ _ _ rfl (HZ.out.own.alloc _) ⟨w2.heap.size,0,none⟩ 1 1 [.string ⟨#[]⟩,.int .i64 sn] rfl rfl (c3.out _ _ _) a7 a8 bb (dd.out _) ?_;intro av w1 ad ab _;obtain⟨g1,g2,g3,g4,g5,g6,g7⟩:=HF.out _ w1 _ _ (HZ.out.alloc _) ab;have HA:Hid (ArW B N w (w1.setCell (Ad (N+1) 1) av) rel svs v2 av (ag++[⟨⟨#[]⟩,sn⟩])):=(HZ.out.alloc _).app ao ab ⟨⟨#[]⟩,sn⟩ ad;obtain⟨ga,ca,an⟩:=ownsRow_succ ad;subst an)
    obtain⟨e1,e2,e3⟩:=cf.out.1 (by trivial);have cm:((w1.setCell (Ad (N+1) 1) (.slice (some ⟨ga,0,none⟩) (ag.length+1) ca)).setCell (Ad N 0) (.string rel)).cell? (Ad N 0)=some (.string rel):=by simp[World.cell?,Qc HA.out.res 0 (.string rel)]
    have cu:(((w1.setCell (Ad (N+1) 1) (.slice (some ⟨ga,0,none⟩) (ag.length+1) ca)).setCell (Ad N 0) (.string rel)).setCell (Ad N 1) (.slice (some ⟨ga,0,none⟩) (ag.length+1) ca)).cell? (Ad N 1)=some (.slice (some ⟨ga,0,none⟩) (ag.length+1) ca):=by simp[World.cell?,Qc (Qc HA.out.res 0 (.string rel)) 1 (.slice (some ⟨ga,0,none⟩) (ag.length+1) ca)]
    have hf:=HA.out.fin ao (.string rel) (.slice (some ⟨ga,0,none⟩) (ag.length+1) ca);refine bodyPost_ret (v:=.tuple #[.agg #[.string rel,.slice (some ⟨ga,0,none⟩) (ag.length+1) ca],.int .i64 ((j:Int)+2),v2]) (by simp[results,Tryz.results177,go_sem,cm,cu]) rfl ?_;have ej:(j:Int)+2=((at'+2+M:Nat):Int):=by have:=bf.out;omega
    rw[aj.out.1] at e1;rw[aj.out.2] at e2;rw[ej,<- e1,<- e2];exact⟨_,_,rfl,hf⟩
   .have mb:(bk == 41)=false:=by simpa using kb
    go_wp2_with (at_builtin;refine wpList_append_own _ rfl (.tmp 49) (.tmp 51) 143 rfl (N+2) 215 i0 (.agg #[.string ⟨#[]⟩,.int .i64 0]) 2 24 Tryz.underlying143 hi bn bu bt rfl (by decide) _ _ _ rfl (HZ.out.own.alloc _) ⟨w2.heap.size,0,none⟩ 1 1 [.string ⟨#[]⟩,.int .i64 sn] rfl rfl (c3.out _ _ _) a7 a8 bb (dd.out _) ?_;intro av w1 ad ab _;obtain⟨g1,g2,g3,g4,g5,g6,g7⟩:=HF.out _ w1 _ _ (HZ.out.alloc _) ab;have HA:Hid (ArW B N w (w1.setCell (Ad (N+1) 1) av) rel svs v2 av (ag++[⟨⟨#[]⟩,sn⟩])):=(HZ.out.alloc _).app ao ab ⟨⟨#[]⟩,sn⟩ ad;obtain⟨ga,ca,an⟩:=ownsRow_succ ad;subst an)
    go_roundw
    case rel=>
     obtain⟨l2,n2,q1,q2,q3⟩:=cf.out.2 kb;rw[aj.out.1] at q2;rw[aj.out.2] at q1;refine⟨j+2,k+2,v2,_,svs,_,rfl,by go_num,by show _=_;have:=bf.out;omega,HA.out,⟨l2,n2,?_,q2,q3⟩,by simp;omega,by omega⟩;rw[cz.out];exact q1
    case measure=>simp[intOf];omega
  .have m2:(ak == 2)=false:=by simpa using k2
   have aj:Hid (qge af ⟨ak,ah,ap,ar⟩=⟨ah,0⟩/\qdp af ⟨ak,ah,ap,ar⟩=af):=by
    show _/\_;unfold qge qdp;simp[k2]
   have a7:∀u∈[Value.string ah,.int .i64 0],u.oneCell'=true:=by simp[Value.oneCell']
   by_cases kb:bk=41
   .subst kb
    go_wp2_with (at_builtin;refine wpList_append_own _ rfl (.tmp 49) (.tmp 51) 143 rfl (N+2) 215 i0 (.agg #[.string ⟨#[]⟩,.int .i64 0]) 2 24 Tryz.underlying143 hi bn bu bt rfl (by decide) _ _ _ rfl ((HW.out.own.alloc _).alloc _) ⟨wr.heap.size+1,0,none⟩ 1 1 [.string ah,.int .i64 0] rfl rfl (cp.out _ _ _ _) a7 a8 bb (bq.out _ _) ?_;intro av w1 ad ab _;obtain⟨g1,g2,g3,g4,g5,g6,g7⟩:=HF.out _ w1 _ _ ((HW.out.alloc _).alloc _) ab;have HA:Hid (ArW B N w (w1.setCell (Ad (N+1) 1) av) rel af vk av (ag++[⟨ah,0⟩])):=((HW.out.alloc _).alloc _).app ao ab ⟨ah,0⟩ ad;obtain⟨ga,ca,an⟩:=ownsRow_succ ad;subst an)
    obtain⟨e1,e2,e3⟩:=cf.out.1 (by trivial);have cm:((w1.setCell (Ad (N+1) 1) (.slice (some ⟨ga,0,none⟩) (ag.length+1) ca)).setCell (Ad N 0) (.string rel)).cell? (Ad N 0)=some (.string rel):=by simp[World.cell?,Qc HA.out.res 0 (.string rel)]
    have cu:(((w1.setCell (Ad (N+1) 1) (.slice (some ⟨ga,0,none⟩) (ag.length+1) ca)).setCell (Ad N 0) (.string rel)).setCell (Ad N 1) (.slice (some ⟨ga,0,none⟩) (ag.length+1) ca)).cell? (Ad N 1)=some (.slice (some ⟨ga,0,none⟩) (ag.length+1) ca):=by simp[World.cell?,Qc (Qc HA.out.res 0 (.string rel)) 1 (.slice (some ⟨ga,0,none⟩) (ag.length+1) ca)]
    have hf:=HA.out.fin ao (.string rel) (.slice (some ⟨ga,0,none⟩) (ag.length+1) ca);refine bodyPost_ret (v:=.tuple #[.agg #[.string rel,.slice (some ⟨ga,0,none⟩) (ag.length+1) ca],.int .i64 ((j:Int)+2),vk]) (by simp[results,Tryz.results177,go_sem,cm,cu]) rfl ?_;have ej:(j:Int)+2=((at'+2+M:Nat):Int):=by have:=bf.out;omega
    rw[aj.out.1] at e1;rw[aj.out.2] at e2;rw[ej,<- e1,<- e2];exact⟨_,_,rfl,hf⟩
   .have mb:(bk == 41)=false:=by simpa using kb
    go_wp2_with (at_builtin;refine wpList_append_own _ rfl (.tmp 49) (.tmp 51) 143 rfl (N+2) 215 i0 (.agg #[.string ⟨#[]⟩,.int .i64 0]) 2 24 Tryz.underlying143 hi bn bu bt rfl (by decide) _ _ _ rfl ((HW.out.own.alloc _).alloc _) ⟨wr.heap.size+1,0,none⟩ 1 1 [.string ah,.int .i64 0] rfl rfl (cp.out _ _ _ _) a7 a8 bb (bq.out _ _) ?_;intro av w1 ad ab _;obtain⟨g1,g2,g3,g4,g5,g6,g7⟩:=HF.out _ w1 _ _ ((HW.out.alloc _).alloc _) ab;have HA:Hid (ArW B N w (w1.setCell (Ad (N+1) 1) av) rel af vk av (ag++[⟨ah,0⟩])):=((HW.out.alloc _).alloc _).app ao ab ⟨ah,0⟩ ad;obtain⟨ga,ca,an⟩:=ownsRow_succ ad;subst an)
    go_roundw
    case rel=>
     obtain⟨l2,n2,q1,q2,q3⟩:=cf.out.2 kb;rw[aj.out.1] at q2;rw[aj.out.2] at q1;refine⟨j+2,k+2,vk,_,af,_,rfl,by go_num,by show _=_;have:=bf.out;omega,HA.out,⟨l2,n2,?_,q2,q3⟩,by simp;omega,by omega⟩;rw[cz.out];exact q1
    case measure=>simp[intOf];omega
def qea:Nat->List By->List RT->Option (List Am×Nat)
 | 0,_,_=>none
 | f+1,vs,us=>
  match us with
  | []=>none
  | t::ai=>
   if t.kind=46 then some ([],0) else
   match ai with
   | r::p::ae=>
    match qaf vs ae with
    | some (l,au,n)=>
     match qea f au (ae.drop n) with
     | some (bs,m)=>some (⟨r.text,l⟩::bs,3+n+m)
     | none=>none
    | none=>none
   | _=>none
def qej:Nat->List RT->Option (List Rl)
 | 0,_=>none
 | f+1,us=>
  match us with
  | []=>none
  | t::ai=>
   if t.kind=4 then some [] else
   match ai with
   | []=>none
   | p::ae=>
    match qaf [] ae with
    | some (l,vs,n)=>
     match qea ae.length vs (ae.drop n) with
     | some (bs,m)=>
      match qej f ((ae.drop n).drop (m+1)) with
      | some rs=>some (⟨⟨t.text,l⟩,bs⟩::rs)
      | none=>none
     | none=>none
    | none=>none
def amC(p:Am×Vq):List Vq:=[.string p.1.rel,p.2]
def rlC(q:Rl×Vq×Vq):List Vq:=[.string q.1.head.rel,q.2.1,q.2.2]
theorem qy7(p:Am×Vq):(amC p).length=2:=rfl
theorem qt4(q:Rl×Vq×Vq):(rlC q).length=3:=rfl
def qa5(W:Wq)(p:Am×Vq):Prop:=W.ownsRow 0 215 2 p.2 p.1.args.length (p.1.args.flatMap tmC)
def qo0(W:Wq)(S:Nat)(v:Vq)(l:List Am):Prop:=
 ∃ps:List (Am×Vq),ps.map (·.1)=l/\W.ownsRow 0 145 2 v ps.length (ps.flatMap amC)/\(∀g,v.ownBlock=some g->g < S)/\∀p∈ps,qa5 W p
def qin(W:Wq)(S:Nat)(q:Rl×Vq×Vq):Prop:=qa5 W (q.1.head,q.2.1)/\qo0 W S q.2.2 q.1.body
structure Kp(S:Nat)(X Y:Wq):Prop where
 arg:∀(k:Nat) (c:Array Vq),X.heap[k]?=cC c 215->Y.heap[k]?=X.heap[k]?
 atom:∀(k:Nat) (c:Array Vq),k < S->X.heap[k]?=cC c 145->Y.heap[k]?=X.heap[k]?
theorem qh{W:Wq}{B T k n:Nat}{v:Vq}{xs:List Vq}(h:W.ownsRow B T k v n xs){g:Nat}(hg:v.ownBlock=some g):∃c,W.heap[g]?=cC c T:=by
 obtain⟨_,⟨hv,hn⟩ | ⟨g',cap,d3,hv,hb,hh,_⟩⟩:=h
 .rw[hv] at hg;cases hg
 .rw[hv] at hg;cases hg;exact⟨d3,hh⟩
theorem qa5.kept{S:Nat}{X Y:Wq}{p:Am×Vq}(h:qa5 X p)(hk:Kp S X Y):qa5 Y p:=
 qm h (λg hg _=>by obtain⟨c,hc⟩:=qh h hg;exact hk.arg g c hc)
theorem qo0.kept{S:Nat}{X Y:Wq}{v:Vq}{l:List Am}(h:qo0 X S v l)(hk:Kp S X Y):qo0 Y S v l:=by
 obtain⟨ps,h1,h2,h3,h4⟩:=h;exact⟨ps,h1,qm h2 (λg hg _=>by obtain⟨c,hc⟩:=qh h2 hg;exact hk.atom g c (h3 g hg) hc),h3,λp hp=>(h4 p hp).kept hk⟩
theorem qin.kept{S:Nat}{X Y:Wq}{q:Rl×Vq×Vq}(h:qin X S q)(hk:Kp S X Y):qin Y S q:=⟨h.1.kept hk,h.2.kept hk⟩
theorem qo0.mono{S S':Nat}{X:Wq}{v:Vq}{l:List Am}(h:qo0 X S v l)(hs:S<=S'):qo0 X S' v l:=by
 obtain⟨ps,h1,h2,h3,h4⟩:=h;exact⟨ps,h1,h2,λg hg=>by have:=h3 g hg;omega,h4⟩
theorem qin.mono{S S':Nat}{X:Wq}{q:Rl×Vq×Vq}(h:qin X S q)(hs:S<=S'):qin X S' q:=⟨h.1,h.2.mono hs⟩
theorem Kp.ofStr{B S:Nat}{X Y:Wq}(h:qz B X Y):Kp S X Y:=
 ⟨λk c hc=>h.block k (zg hc).1 (.inr λc' fz e=>by rw[hc] at e;cases e),
  λk c _ hc=>h.block k (zg hc).1 (.inr λc' fz e=>by rw[hc] at e;cases e)⟩
theorem Kp.alloc{S:Nat}(X:Wq)(o:Obj):Kp S X (X.alloc o):=
 ⟨λk c hc=>Below.heap_alloc _ _ _ (zg hc).1,λk c _ hc=>Below.heap_alloc _ _ _ (zg hc).1⟩
theorem Kp.trans{S:Nat}{X Y Z:Wq}(h:Kp S X Y)(k:Kp S Y Z):Kp S X Z:=
 ⟨λi c hc=>by have h1:=h.arg i c hc;rw[k.arg i c (h1.trans hc),h1],λi c hi hc=>by have h1:=h.atom i c hi hc;rw[k.atom i c hi (h1.trans hc),h1]⟩
theorem Kp.grownAtom{S B n:Nat}{X Y:Wq}{v:Vq}{xs:List Vq}(ho:X.ownsRow B 145 2 v n xs)(hB:S<=B)(hg:X.grownBy Y v.ownBlock):Kp S X Y:=by
 refine⟨λk c hc=>hg.block k (zg hc).1 (λe=>?_),λk c hk hc=>hg.block k (zg hc).1 (λe=>?_)⟩
 .obtain⟨c',aq⟩:=qh ho e.symm;rw[hc] at aq;cases aq
 .have:=(Qe ho k e.symm).1;omega
theorem Kp.grownRule{S B n:Nat}{X Y:Wq}{v:Vq}{xs:List Vq}(ho:X.ownsRow B 148 3 v n xs)(hg:X.grownBy Y v.ownBlock):Kp S X Y:=by
 refine⟨λk c hc=>hg.block k (zg hc).1 (λe=>?_),λk c hk hc=>hg.block k (zg hc).1 (λe=>?_)⟩
 .obtain⟨c',aq⟩:=qh ho e.symm;rw[hc] at aq;cases aq
 .obtain⟨c',aq⟩:=qh ho e.symm;rw[hc] at aq;cases aq
theorem Kp.setRule{S:Nat}{X:Wq}{b:Nat}{c:Array Vq}(hb:X.heap[b]?=cC c 148)(o:Nat)(u:Vq):Kp S X (X.setCell (Ad b o) u):=by
 refine⟨λk c' hc=>Below.heap_setCell _ _ _ _ (λe=>?_),λk c' _ hc=>Below.heap_setCell _ _ _ _ (λe=>?_)⟩
 .simp at e;subst e;rw[hb] at hc;cases hc
 .simp at e;subst e;rw[hb] at hc;cases hc
structure qig(N S:Nat)(w X:Wq)(vl:Vq)(qs:List (Rl×Vq×Vq))(hd:Am)(va vb:Vq)(ps:List (Am×Vq))(v:Vq)(vs:List By):Prop where
 ns:N<=S
 below:Below N w X
 rows:X.ownsRow N 148 3 vl qs.length (qs.flatMap rlC)
 vlS:∀g,vl.ownBlock=some g->g < S
 each:∀q∈qs,qin X S q
 xb:X.heap[S+1]?=cC #[.string hd.rel,va,vb] 148
 head:qa5 X (hd,va)
 brow:X.ownsRow (S+2) 145 2 vb ps.length (ps.flatMap amC)
 beach:∀p∈ps,qa5 X p
 vars:X.ownsRow N 9 1 v vs.length (vs.map Value.string)
variable {N S:Nat} {w X Y:Wq} {vl:Vq} {qs:List (Rl×Vq×Vq)} {hd:Am} {va vb aw:Vq} {ps:List (Am×Vq)} {v v':Vq} {vs au:List By}
theorem qig.alloc(h:qig N S w X vl qs hd va vb ps v vs)(o:Obj):qig N S w (X.alloc o) vl qs hd va vb ps v vs:=by
 have hs:N<=X.heap.size:=by have:=(zg h.xb).1;have:=h.ns;omega
 exact⟨h.ns,h.below.alloc hs o,h.rows.alloc o,h.vlS,λq hq=>(h.each q hq).kept (Kp.alloc X o),(Below.heap_alloc _ _ _ (zg h.xb).1).trans h.xb,h.head.kept (Kp.alloc (S:=S) X o),h.brow.alloc o,λp hp=>(h.beach p hp).kept (Kp.alloc (S:=S) X o),h.vars.alloc o⟩
theorem qm0{B:Nat}{X Y:Wq}(h:qz B X Y)(hB:B<=X.heap.size):Below B X Y:=⟨h.os,h.tape,h.output,h.size,λk hk=>h.block k (by omega) (.inl hk)⟩
theorem qig.atom(h:qig N S w X vl qs hd va vb ps v vs)(hs:qz N X Y)(hv:Y.ownsRow N 9 1 v' au.length (au.map Value.string)):qig N S w Y vl qs hd va vb ps v' au:=by
 have hk:Kp S X Y:=Kp.ofStr hs;have hN:N<=X.heap.size:=by have:=(zg h.xb).1;have:=h.ns;omega
 exact⟨h.ns,h.below.trans (qm0 hs hN),hs.own (by decide) h.rows,h.vlS,λq hq=>(h.each q hq).kept hk,(hs.block _ (zg h.xb).1 (.inr λc fz e=>by rw[h.xb] at e;cases e)).trans h.xb,h.head.kept hk,hs.own (by decide) h.brow,λp hp=>(h.beach p hp).kept hk,hv⟩
theorem qig.app(h:qig N S w X vl qs hd va vb ps v vs)(hw:w.heap.size=N)(p:Am×Vq)(hp:qa5 X p)(hg:X.grownBy Y vb.ownBlock)(ho:Y.ownsRow (S+2) 145 2 aw (ps.length+1) (ps.flatMap amC++amC p)):qig N S w (Y.setCell (Ad (S+1) 2) aw) vl qs hd va aw (ps++[p]) v vs:=by
 have hN:N<=X.heap.size:=by have:=(zg h.xb).1;have:=h.ns;omega
 have d2:=h.ns;have bd:∀k,vb.ownBlock=some k->S+2<=k:=λk e=>(Qe h.brow k e).1;have k1:Kp S X Y:=Kp.grownAtom h.brow (by omega) hg;have hx:Y.heap[S+1]?=cC #[.string hd.rel,va,vb] 148:=(hg.block _ (zg h.xb).1 (λe=>by have:=bd _ e.symm;omega)).trans h.xb;have k2:Kp S Y (Y.setCell (Ad (S+1) 2) aw):=Kp.setRule hx 2 aw;have kk:=k1.trans k2;refine⟨h.ns,(h.below.grown hg hN (λk e=>by have:=bd k e;omega)).setCell (by simp;omega) _,?_,h.vlS,λq hq=>(h.each q hq).kept kk,Qc hx 2 aw,h.head.kept kk,?_,?_,?_⟩
 .refine qm h.rows (λg ax cw=>?_);have h1:=h.vlS g ax;rw[Below.heap_setCell _ _ _ _ (by simp;omega)];exact hg.block g cw (λe=>by have:=bd g e.symm;omega)
 .have h2:Y.ownsRow (S+2) 145 2 aw (ps++[p]).length ((ps++[p]).flatMap amC):=by simpa using ho
  exact qm h2 (λg ax _=>Below.heap_setCell _ _ _ _ (λe=>by have:=(Qe ho g ax).1;simp at e;omega))
 .intro q hq;rcases List.mem_append.1 hq with hq | hq
  .exact (h.beach q hq).kept kk
  .simp at hq;subst hq;exact hp.kept kk
 .refine qm h.vars (λg ax cw=>?_);rw[Below.heap_setCell _ _ _ _ (λe=>?_)]
  .refine hg.block g cw (λe=>?_);obtain⟨c,hc⟩:=qh h.vars ax;obtain⟨c',aq⟩:=qh h.brow e.symm;rw[hc] at aq;cases aq
  .simp at e;subst e;obtain⟨c,hc⟩:=qh h.vars ax;rw[h.xb] at hc;cases hc
structure qll(N:Nat)(w X:Wq)(vl:Vq)(qs:List (Rl×Vq×Vq)):Prop where
 below:Below N w X
 size:N<=X.heap.size
 rows:X.ownsRow N 148 3 vl qs.length (qs.flatMap rlC)
 each:∀q∈qs,qin X X.heap.size q
theorem qig.done(h:qig N S w X vl qs hd va vb ps v vs){ce:Vq}{o:Obj}(hg:(X.alloc o).grownBy Y vl.ownBlock)(ho:Y.ownsRow N 148 3 ce (qs.length+1) (qs.flatMap rlC++[.string hd.rel,va,vb])) :
  qll N w Y ce (qs++[(⟨hd,ps.map (·.1)⟩,va,vb)]):=by
 have hx:=(zg h.xb).1;have d2:=h.ns;have h2:=h.alloc o;have b4:=hg.size;have k1:Kp X.heap.size X (X.alloc o):=Kp.alloc X o;have k2:Kp X.heap.size (X.alloc o) Y:=Kp.grownRule h2.rows hg;have kk:=k1.trans k2;simp at b4;refine⟨h2.below.grown hg (by simp;omega) (λk e=>(Qe h.rows k e).1),by omega,by simpa [rlC] using ho,λq hq=>?_⟩;rcases List.mem_append.1 hq with hq | hq
 .exact (((h.each q hq).mono (by omega:S<=X.heap.size)).kept kk).mono (by omega)
 .simp at hq;subst hq;refine⟨h.head.kept kk,⟨ps,rfl,?_,?_,λp hp=>(h.beach p hp).kept kk⟩⟩
  .refine qm (Qa h.brow zz) (λg ax _=>?_);obtain⟨c,hc⟩:=qh h.brow ax;exact kk.atom g c (zg hc).1 hc
  .intro g ax;have:=(Qe h.brow g ax).2.1;omega
theorem qg6:∀(us:List RT) (vs:List By) (l:List Tm) (am:List By) (n:Nat),qaf vs us=some (l,am,n)->am.length<=vs.length+n/\n<=us.length/\2<=n/\l.length<=n
 | [],vs,l,am,n,h=>by simp[qaf] at h
 | [a],vs,l,am,n,h=>by simp[qaf] at h
 | a::b::us,vs,l,am,n,h=>by
  have hv:=qjp vs a;unfold qaf at h;split at h
  .simp only[Option.some.injEq,Prod.mk.injEq] at h;obtain⟨rfl,rfl,rfl⟩:=h;simp;omega
  .cases hr:qaf (qdp vs a) us with
   | none=>rw[hr] at h;simp at h
   | some r=>
    obtain⟨l',v',n'⟩:=r;rw[hr] at h;simp only[Option.some.injEq,Prod.mk.injEq] at h;obtain⟨rfl,rfl,rfl⟩:=h;have:=qg6 us _ _ _ _ hr;simp;omega
theorem qg3.below{B:Nat}{a b:Wq}{g:Nat}{ts:List RT}(h:qg3 a g ts)(hb:Below B a b)(hg:g < B):qg3 b g ts:=
 ⟨h.1.below hb hg,by obtain⟨c,hc⟩:=h.2;exact⟨c,(hb.block g hg).trans hc⟩⟩
theorem qk9{f:Nat}{us:List RT}{rs:List Rl}(h:qej f us=some rs) :
  ∃t ai,us=t::ai/\((t.kind=4/\rs=[])\/(t.kind≠4/\∃p ae l vs n bs m f' b9,ai=p::ae/\qaf [] ae=some (l,vs,n)/\qea ae.length vs (ae.drop n)=some (bs,m)/\qej f' ((ae.drop n).drop (m+1))=some b9/\rs=⟨⟨t.text,l⟩,bs⟩::b9)):=by
 cases f with
 | zero=>simp[qej] at h
 | succ f=>
  unfold qej at h
  match us,h with
  | [],h=>simp at h
  | t::ai,h=>
   refine⟨t,ai,rfl,?_⟩;simp only at h;split at h
   .rename_i hk;exact .inl ⟨hk,by simpa using h.symm⟩
   .rename_i hk;refine .inr ⟨hk,?_⟩
    match ai,h with
    | [],h=>simp at h
    | p::ae,h=>
     simp only at h
     cases h1:qaf [] ae with
     | none=>rw[h1] at h;simp at h
     | some r1=>
      obtain⟨l,vs,n⟩:=r1;rw[h1] at h;simp only at h
      cases h2:qea ae.length vs (ae.drop n) with
      | none=>rw[h2] at h;simp at h
      | some r2=>
       obtain⟨bs,m⟩:=r2;rw[h2] at h;simp only at h
       cases h3:qej f ((ae.drop n).drop (m+1)) with
       | none=>rw[h3] at h;simp at h
       | some r3=>
        rw[h3] at h;simp only[Option.some.injEq] at h;exact⟨p,ae,l,vs,n,bs,m,f,r3,rfl,h1,h2,h3,h.symm⟩
theorem qkt{f:Nat}{vs:List By}{us:List RT}{bs:List Am}{m:Nat}(h:qea f vs us=some (bs,m)) :
  ∃t ai,us=t::ai/\((t.kind=46/\bs=[]/\m=0)\/(t.kind≠46/\∃r p ae l au n f' cg m',ai=r::p::ae/\qaf vs ae=some (l,au,n)/\qea f' au (ae.drop n)=some (cg,m')/\bs=⟨r.text,l⟩::cg/\m=3+n+m')):=by
 cases f with
 | zero=>simp[qea] at h
 | succ f=>
  unfold qea at h
  match us,h with
  | [],h=>simp at h
  | t::ai,h=>
   refine⟨t,ai,rfl,?_⟩;simp only at h;split at h
   .rename_i hk;simp only[Option.some.injEq,Prod.mk.injEq] at h;exact .inl ⟨hk,h.1.symm,h.2.symm⟩
   .rename_i hk;refine .inr ⟨hk,?_⟩
    match ai,h with
    | [],h=>simp at h
    | [r],h=>simp at h
    | r::p::ae,h=>
     simp only at h
     cases h1:qaf vs ae with
     | none=>rw[h1] at h;simp at h
     | some r1=>
      obtain⟨l,au,n⟩:=r1;rw[h1] at h;simp only at h
      cases h2:qea f au (ae.drop n) with
      | none=>rw[h2] at h;simp at h
      | some r2=>
       obtain⟨cg,m'⟩:=r2;rw[h2] at h;simp only[Option.some.injEq,Prod.mk.injEq] at h;exact⟨r,p,ae,l,au,n,f,cg,m',rfl,h1,h2,h.1.symm,h.2.symm⟩
theorem qiy{α:Type}{ts:List α}{j:Nat}{a:α}{us:List α}(h:ts.drop j=a::us):∃h1:j < ts.length,ts[j]=a/\ts.drop (j+1)=us:=by
 have hl:=congrArg List.length h;rw[List.length_drop] at hl;simp only[List.length_cons] at hl;have h1:j < ts.length:=by omega
 rw[List.drop_eq_getElem_cons h1] at h;injection h with h2 h3;exact⟨h1,h2,h3⟩
theorem Tryz.infoAm:(Tryz.prog.info? 145).map (λi=>(i.zero,i.size,i.bytes))=some (some (.agg #[.string ⟨#[]⟩,.slice none 0 0]),2,40):=by kernel_rfl
theorem Tryz.infoRl:(Tryz.prog.info? 148).map (λi=>(i.zero,i.size,i.bytes))=some (some (.agg #[.string ⟨#[]⟩,.slice none 0 0,.slice none 0 0]),3,64):=by kernel_rfl
theorem q2h(w:Wq)(x y z:Vq)(t:TypeId):∀j u,[x,y,z][j]?=some u->(w.alloc (.cells #[x,y,z] t)).cell? ((⟨w.heap.size,0,none⟩:Addr).add j)=some u:=by
 intro j u hj
 match j,hj with
 | 0,hj=>simp at hj;subst hj;simp[Addr.add]
 | 1,hj=>simp at hj;subst hj;simp[Addr.add]
 | 2,hj=>simp at hj;subst hj;simp[Addr.add]
 | j+3,hj=>simp at hj
theorem qll.start{N:Nat}{w X W1:Wq}{vl:Vq}{qs:List (Rl×Vq×Vq)}(h:qll N w X vl qs)(hs:qz N X W1){hd:Am}{va v1:Vq}{vs:List By}(an:W1.ownsRow X.heap.size 215 2 va hd.args.length (hd.args.flatMap tmC))(hv:W1.ownsRow N 9 1 v1 vs.length (vs.map Value.string))(a:Array Vq) :
  qig N W1.heap.size w ((W1.alloc (.cells a 145)).alloc (.cells #[.string hd.rel,va,.slice none 0 0] 148)) vl qs hd va (.slice none 0 0) [] v1 vs:=by
 have b4:=hs.size;have hN:=h.size;have hb:Below N w W1:=h.below.trans (qm0 hs hN);have k1:Kp W1.heap.size X W1:=Kp.ofStr hs;have k2:Kp W1.heap.size W1 ((W1.alloc (.cells a 145)).alloc (.cells #[.string hd.rel,va,.slice none 0 0] 148)):=(Kp.alloc _ _).trans (Kp.alloc _ _);have c0:=hs.own (by decide) h.rows;refine⟨by omega,(hb.alloc (by omega) _).alloc (by simp;omega) _,(c0.alloc _).alloc _,λg hg=>by have:=(Qe c0 g hg).2.1;omega,λq hq=>(((h.each q hq).mono (by omega)).kept k1).kept k2,?_,?_,zo,(λp hp=>by cases hp),(hv.alloc _).alloc _⟩
 .have:=zn (W1.alloc (.cells a 145)) (.cells #[.string hd.rel,va,.slice none 0 0] 148);rw[World.size_alloc] at this;exact this
 .have h1:qa5 W1 (hd,va):=Qa an zz;exact h1.kept k2
theorem q5z(g cap:Nat)(ts:List RT)(f:Nat)(rs:List Rl)(w:Wq)(ay:qg3 w g ts)(hl:ts.length<=400)(dh:qej f ts=some rs) :
  Cs 109 #[.slice (some ⟨g,0,none⟩) ts.length cap] w λe w'=>∃v qs,e=.returned v/\qll w.heap.size w w' v qs/\qs.map (·.1)=rs:=by
 obtain⟨i0,hi,bn,bu,bt⟩:=info_parts Tryz.infoAm;obtain⟨j0,hj,dl,dt,dn⟩:=info_parts Tryz.infoRl;obtain⟨N,hN⟩:∃N,N=w.heap.size:=⟨_,rfl⟩;have ao:=hN.symm;have cj:g < N:=by rw[hN];exact ay.1.1
 rw[<- hN];have be:Hid (qg3 w g ts):=ay;clear hN ay;go_enter Tryz.func109,Tryz.ntmps109;go_wp2
 go_loopw [3,4] (λp q wr=>∃(i f':Nat) (vl:Vq) (qs:List (Rl×Vq×Vq)) (rest:List Rl),vl=p/\q=.int .i64 i/\qll N w wr vl qs/\Hid (qej f' (ts.drop i)=some rest/\qs.map (·.1)++rest=rs)/\qs.length<=i) (λ_ q _=>ts.length - (intOf q).toNat)
 case atStart=>exact⟨0,f,_,[],rs,rfl,rfl,⟨zr,by omega,zo,λq hq=>by cases hq⟩,⟨dh,rfl⟩,Nat.le_refl _⟩
 case round=>
  obtain⟨i,f',vl,qs,rest,rfl,rfl,hO,al,ek⟩:=hrel;obtain⟨ck,ch⟩:=al.out;obtain⟨t,ai,a6,hc⟩:=qk9 ck;obtain⟨Qdv,c7,Qbt⟩:=qiy a6;have a9:=be.out.below hO.below cj;have k0:=(a9.1.2 i Qdv).1;rw[c7] at k0;rcases hc with⟨hk,rfl⟩ | ⟨hk,p,ae,l,vs,n,bs,m,f2,b9,rfl,ha,cv,az,rfl⟩
  .rw[hk] at k0;have HO:Hid (qll N w wr vl qs):=hO;have HR:Hid _:=ch;clear ck ch hO al Qbt;go_wp2;go_ret;exact⟨vl,qs,rfl,HO.out,by have:=HR.out;simpa using this⟩
  .have mk:(t.kind == 4)=false:=by simpa using hk
   have mk':(t.kind != 4)=true:=by simpa using hk
   obtain⟨ed,_,Qem⟩:=qiy Qbt;have di:=qg6 _ _ _ _ _ ha;have b6:ts.drop (i+2)=ae:=Qem;have b5:qaf [] (ts.drop (i+2))=some (l,vs,n):=by rw[b6];exact ha
   have aj:=qo6 g cap ts i N (.slice none 0 0) [] l vs n wr a9 hl Qdv hO.size (by simp) zo b5;rw[c7] at aj;have HO:Hid (qll N w wr vl qs):=hO;have HR:Hid _:=ch;have ep:ae.length<=400:=by rw[<- b6,List.length_drop];omega
   have b7:ae.drop n=ts.drop (i+2+n):=by rw[<- b6,List.drop_drop]
   rw[b7] at cv az;rw[List.drop_drop] at az;have dx:Hid _:=cv;have du:Hid _:=az;have cp:i+2+n<=ts.length:=by have:=congrArg List.length b6;rw[List.length_drop] at this;omega
   clear ck ch hO al Qbt Qem cv az ha b5 b6 b7 a9 a6;generalize t.kind=tk at *;generalize t.text=tx at *;go_wp2_with fail;refine aj.mono ?_;rintro e W1 ⟨va,v1,rfl,an,df,da⟩;have cx:qig N W1.heap.size w ((W1.alloc (.cells #[.string tx,va] 145)).alloc (.cells #[.string tx,va,.slice none 0 0] 148)) vl qs ⟨tx,l⟩ va (.slice none 0 0) [] v1 vs:=HO.out.start (hd:=⟨tx,l⟩) da an df _;obtain⟨S,hS⟩:∃S,S=W1.heap.size:=⟨_,rfl⟩;have em:=hS.symm;rw[<- hS] at cx;obtain⟨aa,ac,rfl⟩:=qd an;have HIn:Hid _:=cx;clear cx hS aj an df da HO;go_wp2
   go_loopw [6,7] (λp q wr=>∃(j fb m':Nat) (vk vb:Vq) (af:List ByteArray) (ps:List (Am×Vq)) (rb:List Am),vk=q/\p=.int .i64 j/\qig N S w wr vl qs ⟨tx,l⟩ (.slice aa l.length ac) vb ps vk af/\Hid (qea fb af (ts.drop j)=some (rb,m')/\ps.map (·.1)++rb=bs/\j+m'=i+2+n+m)/\ps.length<=j/\af.length<=j/\i+2<=j) (λp _ _=>ts.length - (intOf p).toNat)
   case atStart=>exact⟨i+2+n,ae.length,m,v1,_,vs,[],bs,rfl,by go_num,HIn.out,⟨dx.out,rfl,rfl⟩,by simp,by have:=di.1;simp at this;omega,by omega⟩
   case round=>
    obtain⟨j,fb,m',vk,vb,af,ps,rb,rfl,rfl,hI,al,ey,eo,en⟩:=hrel;obtain⟨b1,b2,b3⟩:=al.out;obtain⟨t2,el,a6,hc⟩:=qkt b1;obtain⟨Qdy,dw,cq⟩:=qiy a6;have a9:=be.out.below hI.below cj;have kj:=(a9.1.2 j Qdy).1;rw[dw] at kj;rcases hc with⟨ci,rfl,rfl⟩ | ⟨ci,r,p,cl,l2,bh,n2,dm,dj,m2,rfl,co,cy,rfl,rfl⟩
    .rw[ci] at kj;have ee:S+2<=wr.heap.size:=(zg hI.xb).1;have x0:wr.cell? (Ad (S+1) 0)=some (.string tx):=by simp[World.cell?,hI.xb]
     have x1:wr.cell? (Ad (S+1) 1)=some (.slice aa l.length ac):=by simp[World.cell?,hI.xb]
     have x2:wr.cell? (Ad (S+1) 2)=some vb:=by simp[World.cell?,hI.xb]
     obtain⟨ba,bc,rfl⟩:=qd hI.brow;have HI:Hid (qig N S w wr vl qs ⟨tx,l⟩ (.slice aa l.length ac) (.slice ba ps.length bc) ps vk af):=hI;have a8:qs.length+1<=maxLen:=by unfold maxLen;omega
     have bb:(qs.length+1)*64<=140737488355328:=by omega
     have bq:Hid (∀O,N<=(wr.alloc O).heap.size):=λO=>by have:=hI.ns;simp;omega
     have a7:∀u∈[Value.string tx,.slice aa l.length ac,.slice ba ps.length bc],u.oneCell'=true:=by simp[Value.oneCell']
     have cr:Hid _:=b2;clear hI b1 b2 al a6 cq a9 HIn
     go_wp2_with (at_builtin;refine wpList_append_own _ rfl (.tmp 50) (.tmp 52) 139 rfl N 148 j0 (.agg #[.string ⟨#[]⟩,.slice none 0 0,.slice none 0 0]) 3 64 Tryz.underlying139 hj dl dt dn rfl (by decide) _ _ _ rfl (HI.out.rows.alloc _) ⟨wr.heap.size,0,none⟩ 1 1 [.string tx,.slice aa l.length ac,.slice ba ps.length bc] rfl rfl (q2h _ _ _ _ _) a7 a8 bb (bq.out _) ?_;intro ce w1 ad ab _)
     have hD:=HI.out.done ab ad;clear ad ab
     go_roundw
     case rel=>
      refine⟨j+1,f2,ce,_,b9,rfl,by go_num,hD,⟨?_,?_⟩,by simp;omega⟩
      .rw[<- du.out];congr 2;omega
      .rw[<- HR.out,<- cr.out];simp
     case measure=>simp[intOf];omega
    .have et:(t2.kind == 46)=false:=by simpa using ci
     have dv:(t2.kind != 46)=true:=by simpa using ci
     obtain⟨b8,dy,Qen⟩:=qiy cq;obtain⟨d5,_,Qeo⟩:=qiy Qen;have Qf0:=qg6 _ _ _ _ _ co;have cd:ts.drop (j+1+2)=cl:=Qeo;have b5:qaf af (ts.drop (j+1+2))=some (l2,bh,n2):=by rw[cd];exact co
     have dk:N<=wr.heap.size:=by have:=(zg hI.xb).1;have:=hI.ns;omega
     have ct:Cs 177 #[.slice (some ⟨g,0,none⟩) ts.length cap,.int .i64 ((j:Int)+1),vk] wr λe w'=>∃va v',e=.returned (.tuple #[.agg #[.string ts[j+1].text,va],.int .i64 (j+1+2+n2:Nat),v'])/\
       w'.ownsRow wr.heap.size 215 2 va l2.length (l2.flatMap tmC)/\w'.ownsRow N 9 1 v' bh.length (bh.map Value.string)/\qz N wr w':=qo6 g cap ts (j+1) N vk af l2 bh n2 wr a9 hl b8 dk (by omega) hI.vars b5
     rw[dy] at ct;have ei:cl.length+(j+3)=ts.length:=by have:=congrArg List.length cd;rw[List.length_drop] at this;omega
     have b7:cl.drop n2=ts.drop (j+1+2+n2):=by rw[<- cd,List.drop_drop]
     rw[b7] at cy;have dg:Hid _:=cy;have cr:Hid _:=b2;have HI:Hid (qig N S w wr vl qs ⟨tx,l⟩ (.slice aa l.length ac) vb ps vk af):=hI;have a8:ps.length+1<=maxLen:=by unfold maxLen;omega
     have bb:(ps.length+1)*40<=140737488355328:=by omega
     clear hI b1 b2 al a6 cq Qen Qeo a9 HIn b5 cd b7 co cy;generalize t2.kind=tk2 at *;generalize r.text=tx2 at *;go_wp2_with fail;refine ct.mono ?_;rintro e w2 ⟨d4,v2,rfl,bi,bv,dc⟩;have hJ:=HI.out.atom dc bv;have c4:qa5 w2 (⟨tx2,l2⟩,d4):=Qa bi zz;obtain⟨a2,c2,rfl⟩:=qd bi;have x2:w2.cell? (Ad (S+1) 2)=some vb:=by simp[World.cell?,hJ.xb]
     have ea:S+2<=w2.heap.size:=(zg hJ.xb).1;have xq:∀O,(w2.alloc O).cell? (Ad (S+1) 2)=some vb:=λO=>(Below.cell ((Below.refl w2.heap.size w2).alloc zl O) (by simp;omega)).trans x2;have HJ:Hid (qig N S w w2 vl qs ⟨tx,l⟩ (.slice aa l.length ac) vb ps v2 bh):=hJ;have dp:Hid (qa5 w2 (⟨tx2,l2⟩,.slice a2 l2.length c2)):=c4;have bq:Hid (∀O O',S+2<=((w2.alloc O).alloc O').heap.size):=λO O'=>by simp;omega
     have a7:∀u∈[Value.string tx2,.slice a2 l2.length c2],u.oneCell'=true:=by simp[Value.oneCell']
     have Qgw:Hid (∀(O:Obj) (x y:Vq) (t:TypeId) (i:Nat) (q:Vq),[x,y][i]?=some q->((w2.alloc O).alloc (.cells #[x,y] t)).cell? ((⟨w2.heap.size+1,0,none⟩:Addr).add i)=some q):=by
      intro O x y t i q hq;have:=qei (w2.alloc O) x y t i q hq;rw[World.size_alloc] at this;exact this
     have dq:Hid (∀(O O':Obj) (w1:Wq),((w2.alloc O).alloc O').grownBy w1 vb.ownBlock->w1.cell? (Ad (S+1) 2)=some vb/\(∀o,w1.frozen? (Ad (S+1) o)=false)):=by
      intro O O' w1 hg;have h2:=(HJ.out.alloc O).alloc O';have h1:w1.heap[S+1]?=_:=(hg.block (S+1) (zg h2.xb).1 (λe=>by have:=(Qe h2.brow _ e.symm).1;omega)).trans h2.xb;exact⟨zc h1,λo=>by simp[World.frozen?,h1]⟩
     clear hJ c4 bi bv dc ct
     go_wp2_with (at_builtin;refine wpList_append_own _ rfl (.tmp 43) (.tmp 45) 146 rfl (S+2) 145 i0 (.agg #[.string ⟨#[]⟩,.slice none 0 0]) 2 40 Tryz.underlying146 hi bn bu bt rfl (by decide) _ _ _ rfl ((HJ.out.brow.alloc _).alloc _) ⟨w2.heap.size+1,0,none⟩ 1 1 [.string tx2,.slice a2 l2.length c2] rfl rfl (Qgw.out _ _ _ _) a7 a8 bb (bq.out _ _) ?_;intro aw w1 ad ab _;obtain⟨xc,xf⟩:=dq.out _ _ w1 ab;have HA:Hid (qig N S w (w1.setCell (Ad (S+1) 2) aw) vl qs ⟨tx,l⟩ (.slice aa l.length ac) aw (ps++[(⟨tx2,l2⟩,.slice a2 l2.length c2)]) v2 bh):=((HJ.out.alloc _).alloc _).app ao _ (((dp.out.kept (Kp.alloc (S:=S) _ _))).kept (Kp.alloc (S:=S) _ _)) ab ad;obtain⟨gb,cb,dr⟩:=ownsRow_succ ad;subst dr)
     go_roundw
     case rel=>
      refine⟨j+1+2+n2,dm,m2,v2,_,bh,_,dj,rfl,by go_num,HA.out,⟨dg.out,?_,by omega⟩,by simp;omega,by have:=Qf0.1;omega,by omega⟩;rw[<- cr.out];simp
     case measure=>simp[intOf];omega
