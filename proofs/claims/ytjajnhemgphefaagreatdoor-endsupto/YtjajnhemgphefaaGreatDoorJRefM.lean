/- The document's own answer: rules, read off tokens. -/
import Derived.Test.YtjajnhemgphefaaGreatDoorJRefJ
set_option linter.unusedVariables false
set_option linter.unusedSimpArgs false
set_option maxRecDepth 100000
set_option maxHeartbeats 8000000
namespace Go.Proofs.YtjajnhemgphefaaGreatDoor
open Go renaming World->Wq,Value->Vq
open Go.RowKit Go.Shelf
theorem q2p{α:Type}{ts:List α}{j:Nat}{a b:α}{us:List α}(h:ts.drop j=a::b::us):∃h1:j+1 < ts.length,ts[j]=a/\ts[j+1]=b/\ts.drop (j+2)=us:=by
 have hl:=congrArg List.length h;rw[List.length_drop] at hl;simp only[List.length_cons] at hl;have h1:j+1 < ts.length:=by omega
 have e1:=List.drop_eq_getElem_cons (show j < ts.length by omega);have e2:=List.drop_eq_getElem_cons h1;rw[e1,e2] at h;injection h with h2 h3;injection h3 with h3 h4;exact⟨h1,h2,h3,h4⟩
theorem qja(vs:List ByteArray)(t:RT):(qdl vs t).length<=vs.length+1:=by
 unfold qdl Qc;split
 ·split <;> simp
 ·omega
theorem Qaw.step{vs:List ByteArray}{a b:RT}{us:List RT}{acc L:List Tm}{vsF:List ByteArray}{k M:Nat}(hs:∃l n,qab vs (a::b::us)=some (l,vsF,n)/\acc++l=L/\k+n=M) :
  (b.kind=41->acc++[qf2 vs a]=L/\qdl vs a=vsF/\k+2=M)/\(b.kind≠41->∃l n,qab (qdl vs a) us=some (l,vsF,n)/\(acc++[qf2 vs a])++l=L/\(k+2)+n=M):=by
 obtain⟨l,n,h1,h2,h3⟩:=hs;unfold qab at h1;refine⟨λhb=>?_,λhb=>?_⟩
 ·rw[if_pos hb] at h1;simp only[Option.some.injEq,Prod.mk.injEq] at h1;obtain⟨rfl,rfl,rfl⟩:=h1;exact⟨h2,rfl,h3⟩
 ·rw[if_neg hb] at h1
  cases hr:qab (qdl vs a) us with
  | none=>rw[hr] at h1;simp at h1
  | some r=>
   obtain⟨l',v',n'⟩:=r;rw[hr] at h1;simp only[Option.some.injEq,Prod.mk.injEq] at h1;obtain⟨rfl,rfl,rfl⟩:=h1;exact⟨l',n',rfl,by rw[<- h2];simp,by omega⟩
theorem qok(g cap:Nat)(ts:List RT)(at':Nat)(B:Nat)(v:Vq)(vs:List ByteArray)(L:List Tm)(vsF:List ByteArray)(M:Nat)(w:Wq)(hts:qgy w g ts)(hl:ts.length<=400)(hat:at' < ts.length)(hB:B<=w.heap.size)(hvl:vs.length<=400)(hv:w.ownsRow B 9 1 v vs.length (vs.map Value.string))(hsp:qab vs (ts.drop (at'+2))=some (L,vsF,M)) :
  Calls Tryz.prog 177 #[.slice (some ⟨g,0,none⟩) ts.length cap,.int .i64 at',v] w λe w'=>∃va v',e=.returned (.tuple #[.agg #[.string ts[at'].text,va],.int .i64 (at'+2+M:Nat),v'])/\
   w'.ownsRow w.heap.size 215 2 va L.length (L.flatMap tmC)/\w'.ownsRow B 9 1 v' vsF.length (vsF.map Value.string)/\qw B w w':=by
 obtain⟨i0,hi,hz0,hz1,hz2⟩:=info_parts Tryz.infoArg;obtain⟨N,hN⟩:∃N,N=w.heap.size:=⟨_,rfl⟩;have hNr:=hN.symm;have hgN:g < N:=by rw[hN];exact hts.1.1
 obtain⟨t0,t1,t2,t3⟩:=hts.1.2 at' hat;have t1':∀O,(w.alloc O).cell? ⟨g,at'*4+1,none⟩=some (.string ts[at'].text):=λO=>(Below.cell ((Below.refl w.heap.size w).alloc zl O) hts.1.1).trans t1;rw[<- hN] at hB ⊢;clear hN t0 t2 t3;have HTS:Hid (qgy w g ts):=hts;have HV:Hid (w.ownsRow B 9 1 v vs.length (vs.map Value.string)):=hv;have HSP:Hid _:=hsp;clear hts hv hsp;generalize ts[at'].text=rel at *;go_enter Tryz.func177,Tryz.ntmps177;go_wp2
 go_loopw [1,2] (λp q wr=>∃(j k:Nat) (vk va:Vq) (vsk:List ByteArray) (acc:List Tm),vk=q/\p=.int .i64 j/\Hid (j=at'+2+k)/\ArW B N w wr rel vsk vk va acc/\Hid (∃l n,qab vsk (ts.drop j)=some (l,vsF,n)/\acc++l=L/\k+n=M)/\acc.length<=k/\vsk.length<=400+k) (λp _ _=>ts.length - (intOf p).toNat)
 case atStart=>
  refine⟨at'+2,0,v,_,vs,[],rfl,by go_num,rfl,⟨((qw.refl B w).alloc _).alloc _,?_,?_,World.ownsRow_nil _ _ _ _,(HV.out.alloc _).alloc _⟩,⟨L,M,HSP.out,rfl,by omega⟩,Nat.le_refl _,by omega⟩
  ·rw[Below.heap_alloc _ _ _ (by simp;omega),<- hNr];exact World.alloc_heap_new w _
  ·have:=World.alloc_heap_new (w.alloc (.cells #[.string ⟨#[]⟩,.slice none 0 0] 145)) (.cells #[.string rel,.slice none 0 0] 145);rw[World.size_alloc,hNr] at this;exact this
 case round=>
  obtain⟨j,k,vk,va,vsk,acc,rfl,rfl,hjk,hW,hsp,qmq,hvk⟩:=hrel;obtain⟨l',n',hr',_⟩:=hsp.out;obtain⟨a,b,us,hdr⟩:=qzr hr';obtain⟨hj1,ha,hb,hus⟩:=q2p hdr;obtain⟨a0,a1,a2,a3⟩:=(HTS.out.kept hW.str).1.2 j (by omega);obtain⟨b0,b1,b2,b3⟩:=(HTS.out.kept hW.str).1.2 (j+1) hj1;rw[hdr] at hsp;have hst:=Qaw.step hsp.out;rw[ha] at a0 a1;rw[hb] at b0;have HST:Hid _:=hst;have HUS:Hid (ts.drop (j+2)=us):=hus;have Qcj:j < ts.length:=by omega
  have hc3:acc.length+1<=maxLen:=by have:=hjk.out;unfold maxLen;omega
  have hc4:(acc.length+1)*24<=140737488355328:=by have:=hjk.out;omega
  have q0i:=qja vsk a;clear hst hsp hr' hdr ha hb hus a2 a3 b1 b2 b3;obtain⟨ak,atx,ap,ar⟩:=a;obtain⟨bk,btx,bp,br⟩:=b;simp only at a0 a1 b0;have Qcc:g≠N+1:=by omega
  have Qgj:g≠N:=by omega
  have HF:Hid (∀(X w1:Wq) (vq:Vq) (vsq:List ByteArray),ArW B N w X rel vsq vq va acc->X.grownBy w1 va.ownBlock->w1.cell? ⟨N+1,0,none⟩=some (.string rel)/\w1.cell? ⟨N+1,1,none⟩=some va/\(∀o,w1.frozen? ⟨N+1,o,none⟩=false)/\w1.cell? ⟨g,(j+1)*4,none⟩=some (.int .i64 bk)/\(∀o,w1.frozen? ⟨N,o,none⟩=false)/\w1.cell? ⟨N,0,none⟩=some (.string ⟨#[]⟩)/\w1.cell? ⟨N,1,none⟩=some (.slice none 0 0)):=by
   intro X w1 vq vsq hX hg;have hlo:∀k,va.ownBlock=some k->N+2<=k:=λk e=>(Qh hX.own k e).1;have h1:w1.heap[N+1]?=some (Obj.cells #[.string rel,va] 145):=(hg.block (N+1) (zg hX.atm).1 (λe=>by have:=hlo _ e.symm;omega)).trans hX.atm;have h0:w1.heap[N]?=some (Obj.cells #[.string ⟨#[]⟩,.slice none 0 0] 145):=(hg.block N (zg hX.res).1 (λe=>by have:=hlo _ e.symm;omega)).trans hX.res;have ht:=HTS.out.kept hX.str;have h2:w1.heap[g]?=X.heap[g]?:=hg.block g ht.1.1 (λe=>by have:=hlo _ e.symm;omega);have h3:w1.cell? ⟨g,(j+1)*4,none⟩=X.cell? ⟨g,(j+1)*4,none⟩:=World.cell?_of_block (w:=X) h2;have h4:=(ht.1.2 (j+1) hj1).1;have h5:=((HTS.out.kept hW.str).1.2 (j+1) hj1).1;rw[b0] at h5;rw[<- h5] at h4;exact⟨by simp[World.cell?,h1],by simp[World.cell?,h1],λo=>by simp[World.frozen?,h1],h3.trans h4,λo=>by simp[World.frozen?,h0],by simp[World.cell?,h0],by simp[World.cell?,h0]⟩
  have hsz:N+2<=wr.heap.size:=(zg hW.atm).1;have HW:Hid (ArW B N w wr rel vsk vk va acc):=hW;have hc5:Hid (∀O O',N+2<=((wr.alloc O).alloc O').heap.size):=λO O'=>by simp;omega
  have d1:wr.cell? ⟨N+1,1,none⟩=some va:=by simp[World.cell?,hW.atm]
  have hn2:Hid (∀(O:Obj) (x y:Vq) (t:TypeId) (i:Nat) (q:Vq),[x,y][i]?=some q->((wr.alloc O).alloc (.cells #[x,y] t)).cell? ((⟨wr.heap.size+1,0,none⟩:Addr).add i)=some q):=by
   intro O x y t i q hq;have:=qed (wr.alloc O) x y t i q hq;rw[World.size_alloc] at this;exact this
  have hg2:g < wr.heap.size:=by omega
  have dAl:∀O,(wr.alloc O).cell? ⟨N+1,1,none⟩=some va:=λO=>(Below.cell ((Below.refl wr.heap.size wr).alloc zl O) (by simp;omega)).trans d1;have dAk:∀O,(wr.alloc O).cell? ⟨g,j*4,none⟩=some (.int .i64 ak):=λO=>(Below.cell ((Below.refl wr.heap.size wr).alloc zl O) hg2).trans a0;have dAt:∀O,(wr.alloc O).cell? ⟨g,j*4+1,none⟩=some (.string atx):=λO=>(Below.cell ((Below.refl wr.heap.size wr).alloc zl O) hg2).trans a1;clear hW;by_cases k2:ak=2
  ·subst k2
   have hat:Hid (qf2 vsk ⟨2,atx,ap,ar⟩=⟨⟨#[]⟩,Qw vsk atx⟩/\qdl vsk ⟨2,atx,ap,ar⟩=Qc vsk atx):=by
    show _/\_;unfold qf2 qdl;simp
   have hsl:(Qc vsk atx).length<=vsk.length+1:=by unfold Qc;split <;> simp
   have hsn:Qw vsk atx<=vsk.length:=List.findIdx_le_length;have hse:=λO=>q44 B vk vsk atx (wr.alloc O) (by simp;omega) (by have:=hjk.out;omega) (HW.out.vars.alloc O);generalize Qw vsk atx=sn at *;generalize Qc vsk atx=svs at *;have h1c:∀u∈[Value.string ⟨#[]⟩,.int .i64 sn],u.oneCell'=true:=by simp[Value.oneCell']
   go_wp2_with fail;refine (hse _).mono ?_;rintro e w2 ⟨v2,rfl,hv2,hgr2⟩;have hA2:=(HW.out.alloc _).grow hgr2 hv2
   have hP2:w2.heap[wr.heap.size]?=some (Obj.cells #[.string atx,.int .i64 0] 215):=by
    rw[hgr2.block wr.heap.size (by simp) (λe=>?_),World.alloc_heap_new];have:=(Qh HW.out.vars _ e.symm).2.1;omega
   have q8d:va.ownBlock≠some wr.heap.size:=λe=>by have:=(Qh HW.out.own _ e).2.1;omega
   have hP3:=Qb hP2 0 (.string ⟨#[]⟩);have hZ:=(hA2.setP hNr hsz hP2 q8d 0 (.string ⟨#[]⟩)).setP hNr hsz hP3 q8d 1 (.int .i64 sn);have HZ:Hid _:=hZ;have p0:w2.cell? ⟨wr.heap.size,0,none⟩=some (.string atx):=by simp[World.cell?,hP2]
   have p1:w2.cell? ⟨wr.heap.size,1,none⟩=some (.int .i64 0):=by simp[World.cell?,hP2]
   have pf:∀o,w2.frozen? ⟨wr.heap.size,o,none⟩=false:=λo=>by simp[World.frozen?,hP2]
   have dz:w2.cell? ⟨N+1,1,none⟩=some va:=by simp[World.cell?,hA2.atm]
   have hPn:wr.heap.size≠N+1:=by omega
   have hws:N+2<=w2.heap.size:=(zg hA2.atm).1;have hc6:Hid (∀O,N+2<=(((w2.setCell ⟨wr.heap.size,0,none⟩ (.string ⟨#[]⟩)).setCell ⟨wr.heap.size,1,none⟩ (.int .i64 sn)).alloc O).heap.size):=λO=>by simp;omega
   have hn3:Hid (∀(x y:Vq) (t:TypeId) (i:Nat) (q:Vq),[x,y][i]?=some q->(((w2.setCell ⟨wr.heap.size,0,none⟩ (.string ⟨#[]⟩)).setCell ⟨wr.heap.size,1,none⟩ (.int .i64 sn)).alloc (.cells #[x,y] t)).cell? ((⟨w2.heap.size,0,none⟩:Addr).add i)=some q):=by
    intro x y t i q hq;have:=qed ((w2.setCell ⟨wr.heap.size,0,none⟩ (.string ⟨#[]⟩)).setCell ⟨wr.heap.size,1,none⟩ (.int .i64 sn)) x y t i q hq;simpa using this
   clear hA2 hP2 hP3 hZ hgr2 hv2 hse;by_cases kb:bk=41
   ·subst kb
    go_wp2_with (at_builtin;refine wpList_append_own _ rfl (.tmp 49) (.tmp 51) 143 rfl (N+2) 215 i0 (.agg #[.string ⟨#[]⟩,.int .i64 0]) 2 24 Tryz.underlying143 hi hz0 hz1 hz2 rfl (by decide) _ _ _ rfl (HZ.out.own.alloc _) ⟨w2.heap.size,0,none⟩ 1 1 [.string ⟨#[]⟩,.int .i64 sn] rfl rfl (hn3.out _ _ _) h1c hc3 hc4 (hc6.out _) ?_;intro va' w1 hown1 hgrow1 _;obtain⟨g1,g2,g3,g4,g5,g6,g7⟩:=HF.out _ w1 _ _ (HZ.out.alloc _) hgrow1;have HA:Hid (ArW B N w (w1.setCell ⟨N+1,1,none⟩ va') rel svs v2 va' (acc++[⟨⟨#[]⟩,sn⟩])):=(HZ.out.alloc _).app hNr hgrow1 ⟨⟨#[]⟩,sn⟩ hown1;obtain⟨ga,ca,hva⟩:=ownsRow_succ hown1;subst hva)
    obtain⟨e1,e2,e3⟩:=HST.out.1 (by trivial);have c00:((w1.setCell ⟨N+1,1,none⟩ (.slice (some ⟨ga,0,none⟩) (acc.length+1) ca)).setCell ⟨N,0,none⟩ (.string rel)).cell? ⟨N,0,none⟩=some (.string rel):=by simp[World.cell?,Qb HA.out.res 0 (.string rel)]
    have c11:(((w1.setCell ⟨N+1,1,none⟩ (.slice (some ⟨ga,0,none⟩) (acc.length+1) ca)).setCell ⟨N,0,none⟩ (.string rel)).setCell ⟨N,1,none⟩ (.slice (some ⟨ga,0,none⟩) (acc.length+1) ca)).cell? ⟨N,1,none⟩=some (.slice (some ⟨ga,0,none⟩) (acc.length+1) ca):=by simp[World.cell?,Qb (Qb HA.out.res 0 (.string rel)) 1 (.slice (some ⟨ga,0,none⟩) (acc.length+1) ca)]
    have hf:=HA.out.fin hNr (.string rel) (.slice (some ⟨ga,0,none⟩) (acc.length+1) ca);refine bodyPost_ret (v:=.tuple #[.agg #[.string rel,.slice (some ⟨ga,0,none⟩) (acc.length+1) ca],.int .i64 ((j:Int)+2),v2]) (by simp[results,Tryz.results177,go_sem,c00,c11]) rfl ?_;have ej:(j:Int)+2=((at'+2+M:Nat):Int):=by have:=hjk.out;omega
    rw[hat.out.1] at e1;rw[hat.out.2] at e2;rw[ej,<- e1,<- e2];exact⟨_,_,rfl,hf⟩
   ·have mb:(bk == 41)=false:=by simpa using kb
    go_wp2_with (at_builtin;refine wpList_append_own _ rfl (.tmp 49) (.tmp 51) 143 rfl (N+2) 215 i0 (.agg #[.string ⟨#[]⟩,.int .i64 0]) 2 24 Tryz.underlying143 hi hz0 hz1 hz2 rfl (by decide) _ _ _ rfl (HZ.out.own.alloc _) ⟨w2.heap.size,0,none⟩ 1 1 [.string ⟨#[]⟩,.int .i64 sn] rfl rfl (hn3.out _ _ _) h1c hc3 hc4 (hc6.out _) ?_;intro va' w1 hown1 hgrow1 _;obtain⟨g1,g2,g3,g4,g5,g6,g7⟩:=HF.out _ w1 _ _ (HZ.out.alloc _) hgrow1;have HA:Hid (ArW B N w (w1.setCell ⟨N+1,1,none⟩ va') rel svs v2 va' (acc++[⟨⟨#[]⟩,sn⟩])):=(HZ.out.alloc _).app hNr hgrow1 ⟨⟨#[]⟩,sn⟩ hown1;obtain⟨ga,ca,hva⟩:=ownsRow_succ hown1;subst hva)
    go_roundw
    case rel=>
     obtain⟨l2,n2,q1,q2,q3⟩:=HST.out.2 kb;rw[hat.out.1] at q2;rw[hat.out.2] at q1;refine⟨j+2,k+2,v2,_,svs,_,rfl,by go_num,by show _=_;have:=hjk.out;omega,HA.out,⟨l2,n2,?_,q2,q3⟩,by simp;omega,by omega⟩;rw[HUS.out];exact q1
    case measure=>simp[intOf];omega
  ·have m2:(ak == 2)=false:=by simpa using k2
   have hat:Hid (qf2 vsk ⟨ak,atx,ap,ar⟩=⟨atx,0⟩/\qdl vsk ⟨ak,atx,ap,ar⟩=vsk):=by
    show _/\_;unfold qf2 qdl;simp[k2]
   have h1c:∀u∈[Value.string atx,.int .i64 0],u.oneCell'=true:=by simp[Value.oneCell']
   by_cases kb:bk=41
   ·subst kb
    go_wp2_with (at_builtin;refine wpList_append_own _ rfl (.tmp 49) (.tmp 51) 143 rfl (N+2) 215 i0 (.agg #[.string ⟨#[]⟩,.int .i64 0]) 2 24 Tryz.underlying143 hi hz0 hz1 hz2 rfl (by decide) _ _ _ rfl ((HW.out.own.alloc _).alloc _) ⟨wr.heap.size+1,0,none⟩ 1 1 [.string atx,.int .i64 0] rfl rfl (hn2.out _ _ _ _) h1c hc3 hc4 (hc5.out _ _) ?_;intro va' w1 hown1 hgrow1 _;obtain⟨g1,g2,g3,g4,g5,g6,g7⟩:=HF.out _ w1 _ _ ((HW.out.alloc _).alloc _) hgrow1;have HA:Hid (ArW B N w (w1.setCell ⟨N+1,1,none⟩ va') rel vsk vk va' (acc++[⟨atx,0⟩])):=((HW.out.alloc _).alloc _).app hNr hgrow1 ⟨atx,0⟩ hown1;obtain⟨ga,ca,hva⟩:=ownsRow_succ hown1;subst hva)
    obtain⟨e1,e2,e3⟩:=HST.out.1 (by trivial);have c00:((w1.setCell ⟨N+1,1,none⟩ (.slice (some ⟨ga,0,none⟩) (acc.length+1) ca)).setCell ⟨N,0,none⟩ (.string rel)).cell? ⟨N,0,none⟩=some (.string rel):=by simp[World.cell?,Qb HA.out.res 0 (.string rel)]
    have c11:(((w1.setCell ⟨N+1,1,none⟩ (.slice (some ⟨ga,0,none⟩) (acc.length+1) ca)).setCell ⟨N,0,none⟩ (.string rel)).setCell ⟨N,1,none⟩ (.slice (some ⟨ga,0,none⟩) (acc.length+1) ca)).cell? ⟨N,1,none⟩=some (.slice (some ⟨ga,0,none⟩) (acc.length+1) ca):=by simp[World.cell?,Qb (Qb HA.out.res 0 (.string rel)) 1 (.slice (some ⟨ga,0,none⟩) (acc.length+1) ca)]
    have hf:=HA.out.fin hNr (.string rel) (.slice (some ⟨ga,0,none⟩) (acc.length+1) ca);refine bodyPost_ret (v:=.tuple #[.agg #[.string rel,.slice (some ⟨ga,0,none⟩) (acc.length+1) ca],.int .i64 ((j:Int)+2),vk]) (by simp[results,Tryz.results177,go_sem,c00,c11]) rfl ?_;have ej:(j:Int)+2=((at'+2+M:Nat):Int):=by have:=hjk.out;omega
    rw[hat.out.1] at e1;rw[hat.out.2] at e2;rw[ej,<- e1,<- e2];exact⟨_,_,rfl,hf⟩
   ·have mb:(bk == 41)=false:=by simpa using kb
    go_wp2_with (at_builtin;refine wpList_append_own _ rfl (.tmp 49) (.tmp 51) 143 rfl (N+2) 215 i0 (.agg #[.string ⟨#[]⟩,.int .i64 0]) 2 24 Tryz.underlying143 hi hz0 hz1 hz2 rfl (by decide) _ _ _ rfl ((HW.out.own.alloc _).alloc _) ⟨wr.heap.size+1,0,none⟩ 1 1 [.string atx,.int .i64 0] rfl rfl (hn2.out _ _ _ _) h1c hc3 hc4 (hc5.out _ _) ?_;intro va' w1 hown1 hgrow1 _;obtain⟨g1,g2,g3,g4,g5,g6,g7⟩:=HF.out _ w1 _ _ ((HW.out.alloc _).alloc _) hgrow1;have HA:Hid (ArW B N w (w1.setCell ⟨N+1,1,none⟩ va') rel vsk vk va' (acc++[⟨atx,0⟩])):=((HW.out.alloc _).alloc _).app hNr hgrow1 ⟨atx,0⟩ hown1;obtain⟨ga,ca,hva⟩:=ownsRow_succ hown1;subst hva)
    go_roundw
    case rel=>
     obtain⟨l2,n2,q1,q2,q3⟩:=HST.out.2 kb;rw[hat.out.1] at q2;rw[hat.out.2] at q1;refine⟨j+2,k+2,vk,_,vsk,_,rfl,by go_num,by show _=_;have:=hjk.out;omega,HA.out,⟨l2,n2,?_,q2,q3⟩,by simp;omega,by omega⟩;rw[HUS.out];exact q1
    case measure=>simp[intOf];omega
def qd5:Nat->List ByteArray->List RT->Option (List Am×Nat)
 | 0,_,_=>none
 | f+1,vs,us=>
  match us with
  | []=>none
  | t::us1=>
   if t.kind=46 then some ([],0) else
   match us1 with
   | r::p::us2=>
    match qab vs us2 with
    | some (l,vs',n)=>
     match qd5 f vs' (us2.drop n) with
     | some (bs,m)=>some (⟨r.text,l⟩::bs,3+n+m)
     | none=>none
    | none=>none
   | _=>none
def qef:Nat->List RT->Option (List Rl)
 | 0,_=>none
 | f+1,us=>
  match us with
  | []=>none
  | t::us1=>
   if t.kind=4 then some [] else
   match us1 with
   | []=>none
   | p::us2=>
    match qab [] us2 with
    | some (l,vs,n)=>
     match qd5 us2.length vs (us2.drop n) with
     | some (bs,m)=>
      match qef f ((us2.drop n).drop (m+1)) with
      | some rs=>some (⟨⟨t.text,l⟩,bs⟩::rs)
      | none=>none
     | none=>none
    | none=>none
def amC(p:Am×Vq):List Vq:=[.string p.1.rel,p.2]
def rlC(q:Rl×Vq×Vq):List Vq:=[.string q.1.head.rel,q.2.1,q.2.2]
theorem qyi(p:Am×Vq):(amC p).length=2:=rfl
theorem qtj(q:Rl×Vq×Vq):(rlC q).length=3:=rfl
def qa7(W:Wq)(p:Am×Vq):Prop:=W.ownsRow 0 215 2 p.2 p.1.args.length (p.1.args.flatMap tmC)
def qob(W:Wq)(S:Nat)(v:Vq)(l:List Am):Prop:=
 ∃ps:List (Am×Vq),ps.map (·.1)=l/\W.ownsRow 0 145 2 v ps.length (ps.flatMap amC)/\(∀g,v.ownBlock=some g->g < S)/\∀p∈ps,qa7 W p
def qid(W:Wq)(S:Nat)(q:Rl×Vq×Vq):Prop:=qa7 W (q.1.head,q.2.1)/\qob W S q.2.2 q.1.body
structure Kp(S:Nat)(X Y:Wq):Prop where
 arg:∀(k:Nat) (c:Array Vq),X.heap[k]?=some (Obj.cells c 215)->Y.heap[k]?=X.heap[k]?
 atom:∀(k:Nat) (c:Array Vq),k < S->X.heap[k]?=some (Obj.cells c 145)->Y.heap[k]?=X.heap[k]?
theorem qi{W:Wq}{B T k n:Nat}{v:Vq}{xs:List Vq}(h:W.ownsRow B T k v n xs){g:Nat}(hg:v.ownBlock=some g):∃c,W.heap[g]?=some (Obj.cells c T (0,0)):=by
 obtain⟨_,⟨hv,hn⟩ | ⟨g',cap,cur,hv,hb,hh,_⟩⟩:=h
 ·rw[hv] at hg;cases hg
 ·rw[hv] at hg;cases hg;exact⟨cur,hh⟩
theorem qa7.kept{S:Nat}{X Y:Wq}{p:Am×Vq}(h:qa7 X p)(hk:Kp S X Y):qa7 Y p:=
 qm h (λg hg _=>by obtain⟨c,hc⟩:=qi h hg;exact hk.arg g c hc)
theorem qob.kept{S:Nat}{X Y:Wq}{v:Vq}{l:List Am}(h:qob X S v l)(hk:Kp S X Y):qob Y S v l:=by
 obtain⟨ps,h1,h2,h3,h4⟩:=h;exact⟨ps,h1,qm h2 (λg hg _=>by obtain⟨c,hc⟩:=qi h2 hg;exact hk.atom g c (h3 g hg) hc),h3,λp hp=>(h4 p hp).kept hk⟩
theorem qid.kept{S:Nat}{X Y:Wq}{q:Rl×Vq×Vq}(h:qid X S q)(hk:Kp S X Y):qid Y S q:=⟨h.1.kept hk,h.2.kept hk⟩
theorem qob.mono{S S':Nat}{X:Wq}{v:Vq}{l:List Am}(h:qob X S v l)(hs:S<=S'):qob X S' v l:=by
 obtain⟨ps,h1,h2,h3,h4⟩:=h;exact⟨ps,h1,h2,λg hg=>by have:=h3 g hg;omega,h4⟩
theorem qid.mono{S S':Nat}{X:Wq}{q:Rl×Vq×Vq}(h:qid X S q)(hs:S<=S'):qid X S' q:=⟨h.1,h.2.mono hs⟩
theorem Kp.ofStr{B S:Nat}{X Y:Wq}(h:qw B X Y):Kp S X Y:=
 ⟨λk c hc=>h.block k (zg hc).1 (.inr λc' fz e=>by rw[hc] at e;cases e),
  λk c _ hc=>h.block k (zg hc).1 (.inr λc' fz e=>by rw[hc] at e;cases e)⟩
theorem Kp.alloc{S:Nat}(X:Wq)(o:Obj):Kp S X (X.alloc o):=
 ⟨λk c hc=>Below.heap_alloc _ _ _ (zg hc).1,λk c _ hc=>Below.heap_alloc _ _ _ (zg hc).1⟩
theorem Kp.trans{S:Nat}{X Y Z:Wq}(h:Kp S X Y)(k:Kp S Y Z):Kp S X Z:=
 ⟨λi c hc=>by have h1:=h.arg i c hc;rw[k.arg i c (h1.trans hc),h1],λi c hi hc=>by have h1:=h.atom i c hi hc;rw[k.atom i c hi (h1.trans hc),h1]⟩
theorem Kp.grownAtom{S B n:Nat}{X Y:Wq}{v:Vq}{xs:List Vq}(ho:X.ownsRow B 145 2 v n xs)(hB:S<=B)(hg:X.grownBy Y v.ownBlock):Kp S X Y:=by
 refine⟨λk c hc=>hg.block k (zg hc).1 (λe=>?_),λk c hk hc=>hg.block k (zg hc).1 (λe=>?_)⟩
 ·obtain⟨c',hc'⟩:=qi ho e.symm;rw[hc] at hc';cases hc'
 ·have:=(Qh ho k e.symm).1;omega
theorem Kp.grownRule{S B n:Nat}{X Y:Wq}{v:Vq}{xs:List Vq}(ho:X.ownsRow B 148 3 v n xs)(hg:X.grownBy Y v.ownBlock):Kp S X Y:=by
 refine⟨λk c hc=>hg.block k (zg hc).1 (λe=>?_),λk c hk hc=>hg.block k (zg hc).1 (λe=>?_)⟩
 ·obtain⟨c',hc'⟩:=qi ho e.symm;rw[hc] at hc';cases hc'
 ·obtain⟨c',hc'⟩:=qi ho e.symm;rw[hc] at hc';cases hc'
theorem Kp.setRule{S:Nat}{X:Wq}{b:Nat}{c:Array Vq}(hb:X.heap[b]?=some (Obj.cells c 148))(o:Nat)(u:Vq):Kp S X (X.setCell ⟨b,o,none⟩ u):=by
 refine⟨λk c' hc=>Below.heap_setCell _ _ _ _ (λe=>?_),λk c' _ hc=>Below.heap_setCell _ _ _ _ (λe=>?_)⟩
 ·simp at e;subst e;rw[hb] at hc;cases hc
 ·simp at e;subst e;rw[hb] at hc;cases hc
structure qh7(N S:Nat)(w X:Wq)(vl:Vq)(qs:List (Rl×Vq×Vq))(hd:Am)(va vb:Vq)(ps:List (Am×Vq))(v:Vq)(vs:List ByteArray):Prop where
 ns:N<=S
 below:Below N w X
 rows:X.ownsRow N 148 3 vl qs.length (qs.flatMap rlC)
 vlS:∀g,vl.ownBlock=some g->g < S
 each:∀q∈qs,qid X S q
 xb:X.heap[S+1]?=some (Obj.cells #[.string hd.rel,va,vb] 148)
 head:qa7 X (hd,va)
 brow:X.ownsRow (S+2) 145 2 vb ps.length (ps.flatMap amC)
 beach:∀p∈ps,qa7 X p
 vars:X.ownsRow N 9 1 v vs.length (vs.map Value.string)
variable {N S:Nat} {w X Y:Wq} {vl:Vq} {qs:List (Rl×Vq×Vq)} {hd:Am} {va vb vb':Vq} {ps:List (Am×Vq)} {v v':Vq} {vs vs':List ByteArray}
theorem qh7.alloc(h:qh7 N S w X vl qs hd va vb ps v vs)(o:Obj):qh7 N S w (X.alloc o) vl qs hd va vb ps v vs:=by
 have hs:N<=X.heap.size:=by have:=(zg h.xb).1;have:=h.ns;omega
 exact⟨h.ns,h.below.alloc hs o,h.rows.alloc o,h.vlS,λq hq=>(h.each q hq).kept (Kp.alloc X o),(Below.heap_alloc _ _ _ (zg h.xb).1).trans h.xb,h.head.kept (Kp.alloc (S:=S) X o),h.brow.alloc o,λp hp=>(h.beach p hp).kept (Kp.alloc (S:=S) X o),h.vars.alloc o⟩
theorem qmj{B:Nat}{X Y:Wq}(h:qw B X Y)(hB:B<=X.heap.size):Below B X Y:=⟨h.os,h.tape,h.output,h.size,λk hk=>h.block k (by omega) (.inl hk)⟩
theorem qh7.atom(h:qh7 N S w X vl qs hd va vb ps v vs)(hs:qw N X Y)(hv:Y.ownsRow N 9 1 v' vs'.length (vs'.map Value.string)):qh7 N S w Y vl qs hd va vb ps v' vs':=by
 have hk:Kp S X Y:=Kp.ofStr hs;have hN:N<=X.heap.size:=by have:=(zg h.xb).1;have:=h.ns;omega
 exact⟨h.ns,h.below.trans (qmj hs hN),hs.own (by decide) h.rows,h.vlS,λq hq=>(h.each q hq).kept hk,(hs.block _ (zg h.xb).1 (.inr λc fz e=>by rw[h.xb] at e;cases e)).trans h.xb,h.head.kept hk,hs.own (by decide) h.brow,λp hp=>(h.beach p hp).kept hk,hv⟩
theorem qh7.app(h:qh7 N S w X vl qs hd va vb ps v vs)(hw:w.heap.size=N)(p:Am×Vq)(hp:qa7 X p)(hg:X.grownBy Y vb.ownBlock)(ho:Y.ownsRow (S+2) 145 2 vb' (ps.length+1) (ps.flatMap amC++amC p)):qh7 N S w (Y.setCell ⟨S+1,2,none⟩ vb') vl qs hd va vb' (ps++[p]) v vs:=by
 have hN:N<=X.heap.size:=by have:=(zg h.xb).1;have:=h.ns;omega
 have hns:=h.ns;have hlo:∀k,vb.ownBlock=some k->S+2<=k:=λk e=>(Qh h.brow k e).1;have k1:Kp S X Y:=Kp.grownAtom h.brow (by omega) hg;have hx:Y.heap[S+1]?=some (Obj.cells #[.string hd.rel,va,vb] 148):=(hg.block _ (zg h.xb).1 (λe=>by have:=hlo _ e.symm;omega)).trans h.xb;have k2:Kp S Y (Y.setCell ⟨S+1,2,none⟩ vb'):=Kp.setRule hx 2 vb';have kk:=k1.trans k2;refine⟨h.ns,(h.below.grown hg hN (λk e=>by have:=hlo k e;omega)).setCell (by simp;omega) _,?_,h.vlS,λq hq=>(h.each q hq).kept kk,Qb hx 2 vb',h.head.kept kk,?_,?_,?_⟩
 ·refine qm h.rows (λg hg' hlt=>?_);have h1:=h.vlS g hg';rw[Below.heap_setCell _ _ _ _ (by simp;omega)];exact hg.block g hlt (λe=>by have:=hlo g e.symm;omega)
 ·have h2:Y.ownsRow (S+2) 145 2 vb' (ps++[p]).length ((ps++[p]).flatMap amC):=by simpa using ho
  exact qm h2 (λg hg' _=>Below.heap_setCell _ _ _ _ (λe=>by have:=(Qh ho g hg').1;simp at e;omega))
 ·intro q hq;rcases List.mem_append.1 hq with hq | hq
  ·exact (h.beach q hq).kept kk
  ·simp at hq;subst hq;exact hp.kept kk
 ·refine qm h.vars (λg hg' hlt=>?_);rw[Below.heap_setCell _ _ _ _ (λe=>?_)]
  ·refine hg.block g hlt (λe=>?_);obtain⟨c,hc⟩:=qi h.vars hg';obtain⟨c',hc'⟩:=qi h.brow e.symm;rw[hc] at hc';cases hc'
  ·simp at e;subst e;obtain⟨c,hc⟩:=qi h.vars hg';rw[h.xb] at hc;cases hc
structure qk6(N:Nat)(w X:Wq)(vl:Vq)(qs:List (Rl×Vq×Vq)):Prop where
 below:Below N w X
 size:N<=X.heap.size
 rows:X.ownsRow N 148 3 vl qs.length (qs.flatMap rlC)
 each:∀q∈qs,qid X X.heap.size q
theorem qh7.done(h:qh7 N S w X vl qs hd va vb ps v vs){vl':Vq}{o:Obj}(hg:(X.alloc o).grownBy Y vl.ownBlock)(ho:Y.ownsRow N 148 3 vl' (qs.length+1) (qs.flatMap rlC++[.string hd.rel,va,vb])) :
  qk6 N w Y vl' (qs++[(⟨hd,ps.map (·.1)⟩,va,vb)]):=by
 have hx:=(zg h.xb).1;have hns:=h.ns;have h2:=h.alloc o;have hsz:=hg.size;have k1:Kp X.heap.size X (X.alloc o):=Kp.alloc X o;have k2:Kp X.heap.size (X.alloc o) Y:=Kp.grownRule h2.rows hg;have kk:=k1.trans k2;simp at hsz;refine⟨h2.below.grown hg (by simp;omega) (λk e=>(Qh h.rows k e).1),by omega,by simpa [rlC] using ho,λq hq=>?_⟩;rcases List.mem_append.1 hq with hq | hq
 ·exact (((h.each q hq).mono (by omega:S<=X.heap.size)).kept kk).mono (by omega)
 ·simp at hq;subst hq;refine⟨h.head.kept kk,⟨ps,rfl,?_,?_,λp hp=>(h.beach p hp).kept kk⟩⟩
  ·refine qm (Qm h.brow (Nat.zero_le _)) (λg hg' _=>?_);obtain⟨c,hc⟩:=qi h.brow hg';exact kk.atom g c (zg hc).1 hc
  ·intro g hg';have:=(Qh h.brow g hg').2.1;omega
theorem qg1:∀(us:List RT) (vs:List ByteArray) (l:List Tm) (vsF:List ByteArray) (n:Nat),qab vs us=some (l,vsF,n)->vsF.length<=vs.length+n/\n<=us.length/\2<=n/\l.length<=n
 | [],vs,l,vsF,n,h=>by simp[qab] at h
 | [a],vs,l,vsF,n,h=>by simp[qab] at h
 | a::b::us,vs,l,vsF,n,h=>by
  have hv:=qja vs a;unfold qab at h;split at h
  ·simp only[Option.some.injEq,Prod.mk.injEq] at h;obtain⟨rfl,rfl,rfl⟩:=h;simp;omega
  ·cases hr:qab (qdl vs a) us with
   | none=>rw[hr] at h;simp at h
   | some r=>
    obtain⟨l',v',n'⟩:=r;rw[hr] at h;simp only[Option.some.injEq,Prod.mk.injEq] at h;obtain⟨rfl,rfl,rfl⟩:=h;have:=qg1 us _ _ _ _ hr;simp;omega
theorem qgy.below{B:Nat}{a b:Wq}{g:Nat}{ts:List RT}(h:qgy a g ts)(hb:Below B a b)(hg:g < B):qgy b g ts:=
 ⟨h.1.below hb hg,by obtain⟨c,hc⟩:=h.2;exact⟨c,(hb.block g hg).trans hc⟩⟩
theorem qku{f:Nat}{us:List RT}{rs:List Rl}(h:qef f us=some rs) :
  ∃t us1,us=t::us1/\((t.kind=4/\rs=[])\/(t.kind≠4/\∃p us2 l vs n bs m f' rs',us1=p::us2/\qab [] us2=some (l,vs,n)/\qd5 us2.length vs (us2.drop n)=some (bs,m)/\qef f' ((us2.drop n).drop (m+1))=some rs'/\rs=⟨⟨t.text,l⟩,bs⟩::rs')):=by
 cases f with
 | zero=>simp[qef] at h
 | succ f=>
  unfold qef at h
  match us,h with
  | [],h=>simp at h
  | t::us1,h=>
   refine⟨t,us1,rfl,?_⟩;simp only at h;split at h
   ·rename_i hk;exact .inl ⟨hk,by simpa using h.symm⟩
   ·rename_i hk;refine .inr ⟨hk,?_⟩
    match us1,h with
    | [],h=>simp at h
    | p::us2,h=>
     simp only at h
     cases h1:qab [] us2 with
     | none=>rw[h1] at h;simp at h
     | some r1=>
      obtain⟨l,vs,n⟩:=r1;rw[h1] at h;simp only at h
      cases h2:qd5 us2.length vs (us2.drop n) with
      | none=>rw[h2] at h;simp at h
      | some r2=>
       obtain⟨bs,m⟩:=r2;rw[h2] at h;simp only at h
       cases h3:qef f ((us2.drop n).drop (m+1)) with
       | none=>rw[h3] at h;simp at h
       | some r3=>
        rw[h3] at h;simp only[Option.some.injEq] at h;exact⟨p,us2,l,vs,n,bs,m,f,r3,rfl,h1,h2,h3,h.symm⟩
theorem qkh{f:Nat}{vs:List ByteArray}{us:List RT}{bs:List Am}{m:Nat}(h:qd5 f vs us=some (bs,m)) :
  ∃t us1,us=t::us1/\((t.kind=46/\bs=[]/\m=0)\/(t.kind≠46/\∃r p us2 l vs' n f' bs' m',us1=r::p::us2/\qab vs us2=some (l,vs',n)/\qd5 f' vs' (us2.drop n)=some (bs',m')/\bs=⟨r.text,l⟩::bs'/\m=3+n+m')):=by
 cases f with
 | zero=>simp[qd5] at h
 | succ f=>
  unfold qd5 at h
  match us,h with
  | [],h=>simp at h
  | t::us1,h=>
   refine⟨t,us1,rfl,?_⟩;simp only at h;split at h
   ·rename_i hk;simp only[Option.some.injEq,Prod.mk.injEq] at h;exact .inl ⟨hk,h.1.symm,h.2.symm⟩
   ·rename_i hk;refine .inr ⟨hk,?_⟩
    match us1,h with
    | [],h=>simp at h
    | [r],h=>simp at h
    | r::p::us2,h=>
     simp only at h
     cases h1:qab vs us2 with
     | none=>rw[h1] at h;simp at h
     | some r1=>
      obtain⟨l,vs',n⟩:=r1;rw[h1] at h;simp only at h
      cases h2:qd5 f vs' (us2.drop n) with
      | none=>rw[h2] at h;simp at h
      | some r2=>
       obtain⟨bs',m'⟩:=r2;rw[h2] at h;simp only[Option.some.injEq,Prod.mk.injEq] at h;exact⟨r,p,us2,l,vs',n,f,bs',m',rfl,h1,h2,h.1.symm,h.2.symm⟩
theorem qim{α:Type}{ts:List α}{j:Nat}{a:α}{us:List α}(h:ts.drop j=a::us):∃h1:j < ts.length,ts[j]=a/\ts.drop (j+1)=us:=by
 have hl:=congrArg List.length h;rw[List.length_drop] at hl;simp only[List.length_cons] at hl;have h1:j < ts.length:=by omega
 rw[List.drop_eq_getElem_cons h1] at h;injection h with h2 h3;exact⟨h1,h2,h3⟩
theorem Tryz.infoAm:(Tryz.prog.info? 145).map (λi=>(i.zero,i.size,i.bytes))=some (some (.agg #[.string ⟨#[]⟩,.slice none 0 0]),2,40):=by kernel_rfl
theorem Tryz.infoRl:(Tryz.prog.info? 148).map (λi=>(i.zero,i.size,i.bytes))=some (some (.agg #[.string ⟨#[]⟩,.slice none 0 0,.slice none 0 0]),3,64):=by kernel_rfl
theorem q1l(w:Wq)(x y z:Vq)(t:TypeId):∀j u,[x,y,z][j]?=some u->(w.alloc (.cells #[x,y,z] t)).cell? ((⟨w.heap.size,0,none⟩:Addr).add j)=some u:=by
 intro j u hj
 match j,hj with
 | 0,hj=>simp at hj;subst hj;simp[Addr.add]
 | 1,hj=>simp at hj;subst hj;simp[Addr.add]
 | 2,hj=>simp at hj;subst hj;simp[Addr.add]
 | j+3,hj=>simp at hj
theorem qk6.start{N:Nat}{w X W1:Wq}{vl:Vq}{qs:List (Rl×Vq×Vq)}(h:qk6 N w X vl qs)(hs:qw N X W1){hd:Am}{va v1:Vq}{vs:List ByteArray}(hva:W1.ownsRow X.heap.size 215 2 va hd.args.length (hd.args.flatMap tmC))(hv:W1.ownsRow N 9 1 v1 vs.length (vs.map Value.string))(a:Array Vq) :
  qh7 N W1.heap.size w ((W1.alloc (.cells a 145)).alloc (.cells #[.string hd.rel,va,.slice none 0 0] 148)) vl qs hd va (.slice none 0 0) [] v1 vs:=by
 have hsz:=hs.size;have hN:=h.size;have hb:Below N w W1:=h.below.trans (qmj hs hN);have k1:Kp W1.heap.size X W1:=Kp.ofStr hs;have k2:Kp W1.heap.size W1 ((W1.alloc (.cells a 145)).alloc (.cells #[.string hd.rel,va,.slice none 0 0] 148)):=(Kp.alloc _ _).trans (Kp.alloc _ _);have q78:=hs.own (by decide) h.rows;refine⟨by omega,(hb.alloc (by omega) _).alloc (by simp;omega) _,(q78.alloc _).alloc _,λg hg=>by have:=(Qh q78 g hg).2.1;omega,λq hq=>(((h.each q hq).mono (by omega)).kept k1).kept k2,?_,?_,World.ownsRow_nil _ _ _ _,(λp hp=>by cases hp),(hv.alloc _).alloc _⟩
 ·have:=World.alloc_heap_new (W1.alloc (.cells a 145)) (.cells #[.string hd.rel,va,.slice none 0 0] 148);rw[World.size_alloc] at this;exact this
 ·have h1:qa7 W1 (hd,va):=Qm hva (Nat.zero_le _);exact h1.kept k2
theorem q4x(g cap:Nat)(ts:List RT)(f:Nat)(rs:List Rl)(w:Wq)(hts:qgy w g ts)(hl:ts.length<=400)(hrd:qef f ts=some rs) :
  Calls Tryz.prog 109 #[.slice (some ⟨g,0,none⟩) ts.length cap] w λe w'=>∃v qs,e=.returned v/\qk6 w.heap.size w w' v qs/\qs.map (·.1)=rs:=by
 obtain⟨i0,hi,hz0,hz1,hz2⟩:=info_parts Tryz.infoAm;obtain⟨j0,hj,jz0,jz1,jz2⟩:=info_parts Tryz.infoRl;obtain⟨N,hN⟩:∃N,N=w.heap.size:=⟨_,rfl⟩;have hNr:=hN.symm;have hgN:g < N:=by rw[hN];exact hts.1.1
 rw[<- hN];have HTS:Hid (qgy w g ts):=hts;clear hN hts;go_enter Tryz.func109,Tryz.ntmps109;go_wp2
 go_loopw [3,4] (λp q wr=>∃(i f':Nat) (vl:Vq) (qs:List (Rl×Vq×Vq)) (rest:List Rl),vl=p/\q=.int .i64 i/\qk6 N w wr vl qs/\Hid (qef f' (ts.drop i)=some rest/\qs.map (·.1)++rest=rs)/\qs.length<=i) (λ_ q _=>ts.length - (intOf q).toNat)
 case atStart=>exact⟨0,f,_,[],rs,rfl,rfl,⟨Below.refl _ _,by omega,World.ownsRow_nil _ _ _ _,λq hq=>by cases hq⟩,⟨hrd,rfl⟩,Nat.le_refl _⟩
 case round=>
  obtain⟨i,f',vl,qs,rest,rfl,rfl,hO,hsp,hqi⟩:=hrel;obtain⟨hr1,hr2⟩:=hsp.out;obtain⟨t,us1,hus,hc⟩:=qku hr1;obtain⟨Qce,hti,q96⟩:=qim hus;have qkm:=HTS.out.below hO.below hgN;have k0:=(qkm.1.2 i Qce).1;rw[hti] at k0;rcases hc with⟨hk,rfl⟩ | ⟨hk,p,us2,l,vs,n,bs,m,f2,rs',rfl,ha,hbd,hrd',rfl⟩
  ·rw[hk] at k0;have HO:Hid (qk6 N w wr vl qs):=hO;have HR:Hid _:=hr2;clear hr1 hr2 hO hsp q96;go_wp2;go_ret;exact⟨vl,qs,rfl,HO.out,by have:=HR.out;simpa using this⟩
  ·have mk:(t.kind == 4)=false:=by simpa using hk
   have mk':(t.kind != 4)=true:=by simpa using hk
   obtain⟨hi1,_,Qc8⟩:=qim q96;have hal:=qg1 _ _ _ _ _ ha;have hd2:ts.drop (i+2)=us2:=Qc8;have hau:qab [] (ts.drop (i+2))=some (l,vs,n):=by rw[hd2];exact ha
   have hat:=qok g cap ts i N (.slice none 0 0) [] l vs n wr qkm hl Qce hO.size (by simp) (World.ownsRow_nil _ _ _ _) hau;rw[hti] at hat;have HO:Hid (qk6 N w wr vl qs):=hO;have HR:Hid _:=hr2;have hul:us2.length<=400:=by rw[<- hd2,List.length_drop];omega
   have hdn:us2.drop n=ts.drop (i+2+n):=by rw[<- hd2,List.drop_drop]
   rw[hdn] at hbd hrd';rw[List.drop_drop] at hrd';have HBD:Hid _:=hbd;have HRD:Hid _:=hrd';have hn2:i+2+n<=ts.length:=by have:=congrArg List.length hd2;rw[List.length_drop] at this;omega
   clear hr1 hr2 hO hsp q96 Qc8 hbd hrd' ha hau hd2 hdn qkm hus;generalize t.kind=tk at *;generalize t.text=tx at *;go_wp2_with fail;refine hat.mono ?_;rintro e W1 ⟨va,v1,rfl,hva,hv1,hs1⟩;have hIn:qh7 N W1.heap.size w ((W1.alloc (.cells #[.string tx,va] 145)).alloc (.cells #[.string tx,va,.slice none 0 0] 148)) vl qs ⟨tx,l⟩ va (.slice none 0 0) [] v1 vs:=HO.out.start (hd:=⟨tx,l⟩) hs1 hva hv1 _;obtain⟨S,hS⟩:∃S,S=W1.heap.size:=⟨_,rfl⟩;have hSr:=hS.symm;rw[<- hS] at hIn;obtain⟨aa,ac,rfl⟩:=qd hva;have HIn:Hid _:=hIn;clear hIn hS hat hva hv1 hs1 HO;go_wp2
   go_loopw [6,7] (λp q wr=>∃(j fb m':Nat) (vk vb:Vq) (vsk:List ByteArray) (ps:List (Am×Vq)) (rb:List Am),vk=q/\p=.int .i64 j/\qh7 N S w wr vl qs ⟨tx,l⟩ (.slice aa l.length ac) vb ps vk vsk/\Hid (qd5 fb vsk (ts.drop j)=some (rb,m')/\ps.map (·.1)++rb=bs/\j+m'=i+2+n+m)/\ps.length<=j/\vsk.length<=j/\i+2<=j) (λp _ _=>ts.length - (intOf p).toNat)
   case atStart=>exact⟨i+2+n,us2.length,m,v1,_,vs,[],bs,rfl,by go_num,HIn.out,⟨HBD.out,rfl,rfl⟩,by simp,by have:=hal.1;simp at this;omega,by omega⟩
   case round=>
    obtain⟨j,fb,m',vk,vb,vsk,ps,rb,rfl,rfl,hI,hsp,hpj,hvj,hij⟩:=hrel;obtain⟨b1,b2,b3⟩:=hsp.out;obtain⟨t2,us3,hus,hc⟩:=qkh b1;obtain⟨Qcj,htj,q6o⟩:=qim hus;have qkm:=HTS.out.below hI.below hgN;have kj:=(qkm.1.2 j Qcj).1;rw[htj] at kj;rcases hc with⟨hk2,rfl,rfl⟩ | ⟨hk2,r,p,us4,l2,vs2,n2,fb2,bs2,m2,rfl,ha2,hb2,rfl,rfl⟩
    ·rw[hk2] at kj;have hS1:S+2<=wr.heap.size:=(zg hI.xb).1;have x0:wr.cell? ⟨S+1,0,none⟩=some (.string tx):=by simp[World.cell?,hI.xb]
     have x1:wr.cell? ⟨S+1,1,none⟩=some (.slice aa l.length ac):=by simp[World.cell?,hI.xb]
     have x2:wr.cell? ⟨S+1,2,none⟩=some vb:=by simp[World.cell?,hI.xb]
     obtain⟨ba,bc,rfl⟩:=qd hI.brow;have HI:Hid (qh7 N S w wr vl qs ⟨tx,l⟩ (.slice aa l.length ac) (.slice ba ps.length bc) ps vk vsk):=hI;have hc3:qs.length+1<=maxLen:=by unfold maxLen;omega
     have hc4:(qs.length+1)*64<=140737488355328:=by omega
     have hc5:Hid (∀O,N<=(wr.alloc O).heap.size):=λO=>by have:=hI.ns;simp;omega
     have h1c:∀u∈[Value.string tx,.slice aa l.length ac,.slice ba ps.length bc],u.oneCell'=true:=by simp[Value.oneCell']
     have HB2:Hid _:=b2;clear hI b1 b2 hsp hus q6o qkm HIn
     go_wp2_with (at_builtin;refine wpList_append_own _ rfl (.tmp 50) (.tmp 52) 139 rfl N 148 j0 (.agg #[.string ⟨#[]⟩,.slice none 0 0,.slice none 0 0]) 3 64 Tryz.underlying139 hj jz0 jz1 jz2 rfl (by decide) _ _ _ rfl (HI.out.rows.alloc _) ⟨wr.heap.size,0,none⟩ 1 1 [.string tx,.slice aa l.length ac,.slice ba ps.length bc] rfl rfl (q1l _ _ _ _ _) h1c hc3 hc4 (hc5.out _) ?_;intro vl' w1 hown1 hgrow1 _)
     have hD:=HI.out.done hgrow1 hown1;clear hown1 hgrow1
     go_roundw
     case rel=>
      refine⟨j+1,f2,vl',_,rs',rfl,by go_num,hD,⟨?_,?_⟩,by simp;omega⟩
      ·rw[<- HRD.out];congr 2;omega
      ·rw[<- HR.out,<- HB2.out];simp
     case measure=>simp[intOf];omega
    ·have mk2:(t2.kind == 46)=false:=by simpa using hk2
     have mk2':(t2.kind != 46)=true:=by simpa using hk2
     obtain⟨hj1,hrj,Qc9⟩:=qim q6o;obtain⟨hj2,_,Qda⟩:=qim Qc9;have Qeu:=qg1 _ _ _ _ _ ha2;have hd3:ts.drop (j+1+2)=us4:=Qda;have hau:qab vsk (ts.drop (j+1+2))=some (l2,vs2,n2):=by rw[hd3];exact ha2
     have hNw:N<=wr.heap.size:=by have:=(zg hI.xb).1;have:=hI.ns;omega
     have qo0:Calls Tryz.prog 177 #[.slice (some ⟨g,0,none⟩) ts.length cap,.int .i64 ((j:Int)+1),vk] wr λe w'=>∃va v',e=.returned (.tuple #[.agg #[.string ts[j+1].text,va],.int .i64 (j+1+2+n2:Nat),v'])/\
       w'.ownsRow wr.heap.size 215 2 va l2.length (l2.flatMap tmC)/\w'.ownsRow N 9 1 v' vs2.length (vs2.map Value.string)/\qw N wr w':=qok g cap ts (j+1) N vk vsk l2 vs2 n2 wr qkm hl hj1 hNw (by omega) hI.vars hau
     rw[hrj] at qo0;have hun:us4.length+(j+3)=ts.length:=by have:=congrArg List.length hd3;rw[List.length_drop] at this;omega
     have hdn:us4.drop n2=ts.drop (j+1+2+n2):=by rw[<- hd3,List.drop_drop]
     rw[hdn] at hb2;have HB1:Hid _:=hb2;have HB2:Hid _:=b2;have HI:Hid (qh7 N S w wr vl qs ⟨tx,l⟩ (.slice aa l.length ac) vb ps vk vsk):=hI;have hc3:ps.length+1<=maxLen:=by unfold maxLen;omega
     have hc4:(ps.length+1)*40<=140737488355328:=by omega
     clear hI b1 b2 hsp hus q6o Qc9 Qda qkm HIn hau hd3 hdn ha2 hb2;generalize t2.kind=tk2 at *;generalize r.text=tx2 at *;go_wp2_with fail;refine qo0.mono ?_;rintro e w2 ⟨va2,v2,rfl,hva2,hv2,hs2⟩;have hJ:=HI.out.atom hs2 hv2;have hAV:qa7 w2 (⟨tx2,l2⟩,va2):=Qm hva2 (Nat.zero_le _);obtain⟨a2,c2,rfl⟩:=qd hva2;have x2:w2.cell? ⟨S+1,2,none⟩=some vb:=by simp[World.cell?,hJ.xb]
     have hS2:S+2<=w2.heap.size:=(zg hJ.xb).1;have xq:∀O,(w2.alloc O).cell? ⟨S+1,2,none⟩=some vb:=λO=>(Below.cell ((Below.refl w2.heap.size w2).alloc zl O) (by simp;omega)).trans x2;have HJ:Hid (qh7 N S w w2 vl qs ⟨tx,l⟩ (.slice aa l.length ac) vb ps v2 vs2):=hJ;have HAV:Hid (qa7 w2 (⟨tx2,l2⟩,.slice a2 l2.length c2)):=hAV;have hc5:Hid (∀O O',S+2<=((w2.alloc O).alloc O').heap.size):=λO O'=>by simp;omega
     have h1c:∀u∈[Value.string tx2,.slice a2 l2.length c2],u.oneCell'=true:=by simp[Value.oneCell']
     have Qfp:Hid (∀(O:Obj) (x y:Vq) (t:TypeId) (i:Nat) (q:Vq),[x,y][i]?=some q->((w2.alloc O).alloc (.cells #[x,y] t)).cell? ((⟨w2.heap.size+1,0,none⟩:Addr).add i)=some q):=by
      intro O x y t i q hq;have:=qed (w2.alloc O) x y t i q hq;rw[World.size_alloc] at this;exact this
     have hxw:Hid (∀(O O':Obj) (w1:Wq),((w2.alloc O).alloc O').grownBy w1 vb.ownBlock->w1.cell? ⟨S+1,2,none⟩=some vb/\(∀o,w1.frozen? ⟨S+1,o,none⟩=false)):=by
      intro O O' w1 hg;have h2:=(HJ.out.alloc O).alloc O';have h1:w1.heap[S+1]?=_:=(hg.block (S+1) (zg h2.xb).1 (λe=>by have:=(Qh h2.brow _ e.symm).1;omega)).trans h2.xb;exact⟨by simp[World.cell?,h1],λo=>by simp[World.frozen?,h1]⟩
     clear hJ hAV hva2 hv2 hs2 qo0
     go_wp2_with (at_builtin;refine wpList_append_own _ rfl (.tmp 43) (.tmp 45) 146 rfl (S+2) 145 i0 (.agg #[.string ⟨#[]⟩,.slice none 0 0]) 2 40 Tryz.underlying146 hi hz0 hz1 hz2 rfl (by decide) _ _ _ rfl ((HJ.out.brow.alloc _).alloc _) ⟨w2.heap.size+1,0,none⟩ 1 1 [.string tx2,.slice a2 l2.length c2] rfl rfl (Qfp.out _ _ _ _) h1c hc3 hc4 (hc5.out _ _) ?_;intro vb' w1 hown1 hgrow1 _;obtain⟨xc,xf⟩:=hxw.out _ _ w1 hgrow1;have HA:Hid (qh7 N S w (w1.setCell ⟨S+1,2,none⟩ vb') vl qs ⟨tx,l⟩ (.slice aa l.length ac) vb' (ps++[(⟨tx2,l2⟩,.slice a2 l2.length c2)]) v2 vs2):=((HJ.out.alloc _).alloc _).app hNr _ (((HAV.out.kept (Kp.alloc (S:=S) _ _))).kept (Kp.alloc (S:=S) _ _)) hgrow1 hown1;obtain⟨gb,cb,hvb⟩:=ownsRow_succ hown1;subst hvb)
     go_roundw
     case rel=>
      refine⟨j+1+2+n2,fb2,m2,v2,_,vs2,_,bs2,rfl,by go_num,HA.out,⟨HB1.out,?_,by omega⟩,by simp;omega,by have:=Qeu.1;omega,by omega⟩;rw[<- HB2.out];simp
     case measure=>simp[intOf];omega
