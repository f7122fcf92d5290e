/- The document's own answer: the least model. -/
import Derived.Test.YtjajnhemgphefaaGreatDoorJMdR
import Derived.Deep.CutRange
import Derived.Deep.RegionHeld3
set_option linter.unusedVariables false
set_option linter.unusedSimpArgs false
set_option maxRecDepth 100000
set_option maxHeartbeats 8000000
namespace Go.Proofs.YtjajnhemgphefaaGreatDoor
open Go renaming World->Wq,Value->Vq
open Go.RowKit Go.Shelf
theorem Tryz.infoGround:(Tryz.prog.info? 226).map (λi=>(i.zero,i.size,i.bytes))=some (some (.agg #[.string ⟨#[]⟩,.slice none 0 0]),2,40):=by kernel_rfl
structure qe1(fv:List Vq)(N:Nat)(w X:Wq)(vh:Vq)(hs:List (Gr×Vq)):Prop where
 below:Below N w X
 size:N<=X.heap.size
 row:X.ownsRow N 226 2 vh hs.length (hs.flatMap gdC)
 each:∀p∈hs,qu X p.2 p.1.args
 loc:∀p∈hs,p.2∈fv\/∀g,p.2.ownBlock=some g->N<=g
section
variable {fv:List Vq} {N:Nat} {w X Y:Wq} {vh v':Vq} {hs:List (Gr×Vq)}
theorem qe1.gds(h:qe1 fv N w X vh hs):qcu X vh hs:=⟨Qm h.row (Nat.zero_le _),h.each⟩
theorem qe1.grows(h:qe1 fv N w X vh hs)(hb:Below X.heap.size X Y):qe1 fv N w Y vh hs:=by
 have:=hb.size;have:=h.size;exact⟨h.below.trans (hb.mono h.size),by omega,qk h.row hb,λp hp=>(h.each p hp).below hb,h.loc⟩
theorem qe1.app(h:qe1 fv N w X vh hs)(p:Gr×Vq)(hp:qu X p.2 p.1.args)(hl:p.2∈fv\/∀g,p.2.ownBlock=some g->N<=g){o:Obj}(hg:(X.alloc o).grownBy Y vh.ownBlock)(ho:Y.ownsRow N 226 2 v' (hs.length+1) (hs.flatMap gdC++gdC p)):qe1 fv N w Y v' (hs++[p]):=by
 have hz:=hg.size;simp at hz;have hsz:=h.size;have hlo:∀k,vh.ownBlock=some k->N<=k:=λk e=>(Qh h.row k e).1;have hk:∀g,g < X.heap.size->vh.ownBlock≠some g->Y.heap[g]?=X.heap[g]?:=λg hlt hne=>(hg.block g (by simp;omega) (λe=>hne e.symm)).trans (Below.heap_alloc _ _ _ hlt)
 have qr:∀{B T m n:Nat} {v:Vq} {xs:List Vq},T≠226->X.ownsRow B T m v n xs->Y.ownsRow B T m v n xs:=by
  intro B T m n v xs hT ho';refine qm ho' (λg hg' hlt=>hk g hlt (λe=>?_));obtain⟨c1,hc1⟩:=qi ho' hg';obtain⟨c2,hc2⟩:=qi h.row e;rw[hc1] at hc2;cases hc2;exact hT rfl
 refine⟨(h.below.alloc (by omega) o).grown hg (by simp;omega) (λk e=>hlo k e),by omega,?_,λq hq=>?_,λq hq=>?_⟩
 ·rw[List.flatMap_append];simpa using ho
 ·rcases List.mem_append.1 hq with hq | hq
  ·exact qr (by decide) (h.each q hq)
  ·simp at hq;subst hq;exact qr (by decide) hp
 ·rcases List.mem_append.1 hq with hq | hq
  ·exact h.loc q hq
  ·simp at hq;subst hq;exact hl
end
theorem qe1.keep{fv:List Vq}{N:Nat}{w X Y:Wq}{vh:Vq}{hs:List (Gr×Vq)}(h:qe1 fv N w X vh hs){o:Obj}(hg:(X.alloc o).grownBy Y vh.ownBlock){B T m n:Nat}{v:Vq}{xs:List Vq}(hT:T≠226)(ho':X.ownsRow B T m v n xs):Y.ownsRow B T m v n xs:=by
 refine qm ho' (λg hg' hlt=>(hg.block g (by simp;omega) (λe=>?_)).trans (Below.heap_alloc _ _ _ hlt));obtain⟨c1,hc1⟩:=qi ho' hg';obtain⟨c2,hc2⟩:=qi h.row e.symm;rw[hc1] at hc2;cases hc2;exact hT rfl
theorem qym{W:Wq}{B T:Nat}{x y:Vq}(h:W.heap[B]?=some (Obj.cells #[x,y] T (0,0)))(a b:Vq):((W.setCell ⟨B,0,none⟩ a).setCell ⟨B,1,none⟩ b).heap[B]?=some (Obj.cells #[a,b] T (0,0)):=by
 have h1:=Qb h 0 a;have h2:=Qb h1 1 b;rw[h2];rfl
theorem qvz{W:Wq}{B:Nat}{c:Array Vq}{v:Vq}{l:List ByteArray}(h:qu W v l)(hb:W.heap[B]?=some (Obj.cells c 226))(j:Nat)(x:Vq):qu (W.setCell ⟨B,j,none⟩ x) v l:=by
 refine qm h (λg hg _=>Below.heap_setCell _ _ _ _ (λe=>?_));obtain⟨c1,hc1⟩:=qi h hg;simp at e;subst e;rw[hb] at hc1;cases hc1
def Qdm:Vq->Nat
 | .slice _ n _=>n
 | _=>0
theorem qlp(l:List Gr)(g:Gr):inG l g=true↔g∈l:=by
 unfold inG;rw[List.any_eq_true];constructor
 ·rintro⟨x,hx,hs⟩;rw[qhf] at hs;rw[<- hs];exact hx
 ·intro h;exact⟨g,h,(qhf g g).2 rfl⟩
def qe0(R:List Rl)(F:List Gr)(Nm:List ByteArray)(hs:List Gr):Prop:=LsI R F Nm hs/\∀g,g∈hs↔Dv R F g
theorem qkp(qs:List (Rl×Vq×Vq))(fs:List (Gr×Vq))(Nm:List ByteArray)(v vf:Vq)(w:Wq)(hR:qag w v qs)(hF:qcu w vf fs)(hql:qs.length<=1000)(hfl:fs.length<=1000)(hok:qds (qs.map (·.1)) Nm)(hfo:∀p∈fs,qjt (qs.map (·.1)) Nm p.1) :
  Calls Tryz.prog 113 #[v,vf] w λe w'=>∃v' hs,e=.returned v'/\qe1 (fs.map (·.2)) w.heap.size w w' v' hs/\qe0 (qs.map (·.1)) (fs.map (·.1)) Nm (hs.map (·.1)):=by
 obtain⟨i0,hi,hz0,hz1,hz2⟩:=info_parts Tryz.infoGround;obtain⟨fv,hfv⟩:∃fv,fs.map (·.2)=fv:=⟨_,rfl⟩;rw[hfv];have HFV:Hid (∀f∈fs,f.2∈fv):=λf hf=>by rw[<- hfv];exact List.mem_map.2 ⟨f,hf,rfl⟩
 obtain⟨va,vc,rfl⟩:=qd hR.row;obtain⟨fa,fc,rfl⟩:=qd hF.row;obtain⟨N,hN⟩:∃N,N=w.heap.size:=⟨_,rfl⟩;have hNr:=hN.symm;rw[<- hN]
 have HRN:Hid (∀X,Below N w X->qag X (.slice va qs.length vc) qs/\qcu X (.slice fa fs.length fc) fs):=λX hX=>by
  have hX':Below w.heap.size w X:=by rw[hNr];exact hX
  exact⟨hR.below hX',hF.below hX'⟩
 have HOK:Hid _:=hok;have HFO:Hid _:=hfo;have h0:Hid (qe1 fv N w w (.slice none 0 0) []):=⟨Below.refl _ _,by omega,World.ownsRow_nil _ _ _ _,λp hp=>(by cases hp),λp hp=>(by cases hp)⟩;clear hR hF hok hfo hN hfv;go_enter Tryz.func113,Tryz.ntmps113;go_wp2_with fail
 go_loopw [5,6] (λo p wr=>∃(i:Nat) (vh:Vq) (hs:List (Gr×Vq)),vh=o/\p=.int .i64 i/\i<=fs.length/\hs.length<=i/\Hid (qe1 fv N w wr vh hs)/\Hid (LsI (qs.map (·.1)) (fs.map (·.1)) Nm (hs.map (·.1))/\∀k,k < i->∀f,fs[k]?=some f->f.1∈hs.map (·.1))) (λ_ p _=>fs.length - (intOf p).toNat)
 case atStart=>exact⟨0,_,[],rfl,rfl,Nat.zero_le _,Nat.le_refl _,h0,LsI.start,λk hk=>by omega⟩
 case round=>
  clear h0;obtain⟨i,vh,hs,rfl,rfl,hil,hsl,hst,hli⟩:=hrel;obtain⟨ha,hc,hvh⟩:=qd hst.out.row;subst hvh;by_cases hlt:i < fs.length
  ·have i1:(i:Int) < (fs.length:Int):=by omega
   obtain⟨gg,cap',e1,q6j,s0,s1,⟨t1,t2,ht⟩,hSt⟩:=(HRN.out wr hst.out.below).2.cell i hlt;cases e1
   have hcl:Hid (∀X,Below N w X->X.cell? ⟨gg,i*2,none⟩=some (.string fs[i].1.rel)/\X.cell? ⟨gg,i*2+1,none⟩=some (.slice t1 fs[i].1.args.length t2)/\qu X (.slice t1 fs[i].1.args.length t2) fs[i].1.args):=λX hX=>by
    obtain⟨gg',cap'',e1,_,s0,s1,_,hSt⟩:=(HRN.out X hX).2.cell i hlt;cases e1;rw[ht] at s1 hSt;exact⟨s0,s1,hSt⟩
   have hin:Hid (Calls Tryz.prog 122 #[.slice ha hs.length hc,.agg #[.string fs[i].1.rel,.slice t1 fs[i].1.args.length t2]] wr λe w'=>e=.returned (.bool (inG (hs.map (·.1)) fs[i].1))/\Below wr.heap.size wr w'):=by
    have h:=qs9 (.slice ha hs.length hc) hs (fs[i].1,.slice t1 fs[i].1.args.length t2) wr hst.out.gds (hcl.out wr hst.out.below).2.2 (by omega) (λp hp=>?_)
    ·exact h
    ·obtain⟨⟨a,ha',_,hl⟩,_⟩:=hli.out.1.ok p.1 (List.mem_map.2 ⟨p,hp,rfl⟩);obtain⟨r,hr,har⟩:=List.mem_flatMap.1 ha';have:=((HOK.out.each r hr).args a har).1;omega
   have Qb7:Value.slice t1 fs[i].1.args.length t2∈fv:=by rw[<- ht];exact HFV.out _ (List.getElem_mem hlt)
   have HFL:Hid _:=Qb7;clear Qb7;have hFi:=HFO.out fs[i] (List.getElem_mem hlt);have HFi:Hid _:=hFi;have hfe:fs[i]?=some fs[i]:=List.getElem?_eq_getElem hlt;have HFE:Hid (fs[i]?=some fs[i]):=hfe;rw[ht] at s1;clear hFi hSt q6j ht hfe;have qde:Hid (fs[i].1∈fs.map (·.1)):=List.mem_map.2 ⟨fs[i],List.getElem_mem hlt,rfl⟩;generalize fs[i]=f at *;go_wp2_with fail;refine Calls.mono hin.out ?_;rintro e' W1 ⟨rfl,hb1⟩;have hs1:Hid (qe1 fv N w W1 (.slice ha hs.length hc) hs):=hst.out.grows hb1;clear hin hb1 hst s0 s1;obtain⟨s0,s1,hS1⟩:=hcl.out W1 hs1.out.below;have HS1:Hid (qu W1 (.slice t1 f.1.args.length t2) f.1.args):=hS1;clear hS1 hcl
   cases hb:inG (hs.map (·.1)) f.1 with
   | true=>
    have hl2:Hid (LsI (qs.map (·.1)) (fs.map (·.1)) Nm (hs.map (·.1))/\∀k,k < i+1->∀f,fs[k]?=some f->f.1∈hs.map (·.1)):=⟨hli.out.1,λk hk f' hf'=>by
     by_cases e:k=i
     ·subst e;rw[HFE.out] at hf';cases hf';exact (qlp _ _).1 hb
     ·exact hli.out.2 k (by omega) f' hf'⟩
    clear hli;go_wp2;refine⟨⟨i+1,_,hs,rfl,by go_num,by omega,by omega,hs1,hl2⟩,by simp[intOf];omega⟩
   | false=>
    have hnm:f.1∉hs.map (·.1):=λhm=>by rw[(qlp _ _).2 hm] at hb;cases hb
    have hl2:Hid (LsI (qs.map (·.1)) (fs.map (·.1)) Nm ((hs++[(f.1,Value.slice t1 f.1.args.length t2)]).map (·.1))/\∀k,k < i+1->∀f',fs[k]?=some f'->f'.1∈(hs++[(f.1,Value.slice t1 f.1.args.length t2)]).map (·.1)):=by
     rw[List.map_append];refine⟨hli.out.1.fact qde.out hnm HFi.out,λk hk f' hf'=>?_⟩;by_cases e:k=i
     ·subst e;rw[HFE.out] at hf';cases hf';exact List.mem_append_right _ List.mem_cons_self
     ·exact List.mem_append_left _ (hli.out.2 k (by omega) f' hf')
    have hcz:Hid (∀O,N<=(W1.alloc O).heap.size):=λO=>by have:=hs1.out.size;simp;omega
    have hkr:Hid (W1.ownsRow N 226 2 (.slice ha hs.length hc) hs.length (hs.flatMap gdC)):=hs1.out.row;clear hli hnm
    go_wp2_with (at_builtin;refine wpList_append_own _ rfl _ _ 217 rfl N 226 i0 _ 2 40 Tryz.underlying217 hi hz0 hz1 hz2 rfl (by decide) _ hs.length (hs.flatMap gdC) rfl (hkr.out.alloc _) ⟨W1.heap.size,0,none⟩ 1 _ [.string f.1.rel,.slice t1 f.1.args.length t2] rfl rfl (qed _ _ _ _) (by simp[Value.oneCell']) (by unfold maxLen;omega) (by omega) (hcz.out _) ?_;intro vx' w1 ho1 hg1 _;have HW1:Hid _:=hs1.out.app (f.1,.slice t1 f.1.args.length t2) HS1.out (.inl HFL.out) hg1 ho1;clear ho1 hg1)
    refine⟨⟨i+1,vx',_,rfl,by go_num,by omega,by simp;omega,HW1,hl2⟩,by simp[intOf];omega⟩
  ·have hie:i=fs.length:=by omega
   have hl2:Hid (LsI (qs.map (·.1)) (fs.map (·.1)) Nm (hs.map (·.1))/\∀f∈fs.map (·.1),f∈hs.map (·.1)):=⟨hli.out.1,λf hf=>by
    obtain⟨p,hp,rfl⟩:=List.mem_map.1 hf;obtain⟨k,hk,e⟩:=List.mem_iff_getElem.1 hp
    exact hli.out.2 k (by omega) p (by rw[<- e];exact List.getElem?_eq_getElem hk)⟩
   clear hli hie;have qmq:hs.length<=2048:=by have:=hl2.out.1.few HOK.out;rwa [List.length_map] at this
   go_wp2_with fail
   go_loopw [5] (λo wr=>∃(vh:Vq) (hs:List (Gr×Vq)),vh=o/\hs.length<=2048/\Hid (qe1 fv N w wr vh hs)/\Hid (LsI (qs.map (·.1)) (fs.map (·.1)) Nm (hs.map (·.1))/\∀f∈fs.map (·.1),f∈hs.map (·.1))) (λo _=>2049 - Qdm o)
   case atStart=>exact⟨_,hs,rfl,qmq,hst,hl2⟩
   case round=>
    clear hst hl2 qmq hsl hil hlt;obtain⟨vh,hs0,rfl,h0l,hst,hl0⟩:=hrel;obtain⟨ha,hc,hvh⟩:=qd hst.out.row;subst hvh;have HL0:Hid (∀f∈fs.map (·.1),f∈hs0.map (·.1)):=hl0.out.2;have hls:Hid (LsI (qs.map (·.1)) (fs.map (·.1)) Nm (hs0.map (·.1))):=hl0.out.1;clear hl0;go_wp2_with fail
    go_loopw [5,9] (λo p wr=>∃(i:Nat) (vh:Vq) (new:List (Gr×Vq)),vh=o/\p=.int .i64 i/\i<=qs.length/\hs0.length+new.length<=2048/\Hid (qe1 fv N w wr vh (hs0++new))/\Hid (LsI (qs.map (·.1)) (fs.map (·.1)) Nm ((hs0++new).map (·.1))/\(new=[]->∀j,j < i->∀q,qs[j]?=some q->∀b∈qkc q.1 (hs0.map (·.1)),qdo q.1.head b∈hs0.map (·.1)))) (λ_ p _=>qs.length - (intOf p).toNat)
    case atStart=>exact⟨0,_,[],rfl,rfl,Nat.zero_le _,h0l,by rw[List.append_nil];exact hst,by rw[List.append_nil];exact hls.out,λ_ j hj=>by omega⟩
    case round=>
     clear hst hls;obtain⟨i,vh,new,rfl,rfl,hil,hnl,hst,hli⟩:=hrel;obtain⟨ha,hc,hvh⟩:=qd hst.out.row;rw[List.length_append] at hvh;subst hvh;by_cases hlt:i < qs.length
     ·have i1:(i:Int) < (qs.length:Int):=by omega
      obtain⟨gg,cap',e1,q6j,s0,s1,s2,hAV,ps,hps,hAs⟩:=(HRN.out wr hst.out.below).1.cell i hlt;cases e1;obtain⟨a1,a2,hq1⟩:=qd hAV;simp only at hq1;obtain⟨b1,b2,hq2⟩:=qd hAs.row
      have hcl:Hid (∀X,Below N w X->X.cell? ⟨gg,i*3,none⟩=some (.string qs[i].1.head.rel)/\X.cell? ⟨gg,i*3+1,none⟩=some (.slice a1 qs[i].1.head.args.length a2)/\X.cell? ⟨gg,i*3+2,none⟩=some (.slice b1 ps.length b2)/\qa7 X (qs[i].1.head,.slice a1 qs[i].1.head.args.length a2)):=λX hX=>by
       obtain⟨gg',cap'',e1,_,s0,s1,s2,hAV,_⟩:=(HRN.out X hX).1.cell i hlt;cases e1;rw[hq1] at s1 hAV;rw[hq2] at s2;exact⟨s0,s1,s2,hAV⟩
      have hqm:qs[i].1∈qs.map (·.1):=List.mem_map.2 ⟨qs[i],List.getElem_mem hlt,rfl⟩;have hrf:=HOK.out.each _ hqm;obtain⟨nms,hnms⟩:∃nms,qa8 [] (qan ((hs0++new).map (·.1)))=nms:=⟨_,rfl⟩;have Qcb:(hs0++new).length<=2048:=by rw[List.length_append];exact hnl
      have hwy:Hid (Calls Tryz.prog 180 #[.agg #[.string qs[i].1.head.rel,.slice a1 qs[i].1.head.args.length a2,.slice b1 ps.length b2],.slice ha (hs0.length+new.length) hc] wr λe w'=>∃v' bs,e=.returned v'/\qbx w' v' bs/\Below wr.heap.size wr w'/\bs.length<=2048 ^ 3/\Hid (bs.map (·.1)=qkc qs[i].1 ((hs0++new).map (·.1))/\∀p∈bs,qwf qs[i].1 nms ((hs0++new).map (·.1)) qs[i].1.body.length p.1/\p.1.length=8)):=by
       have hs2:=qpl HOK.out hli.out.1.ok
       have hw:=q5l (qs[i].1,.slice a1 qs[i].1.head.args.length a2,.slice b1 ps.length b2) ps (.slice ha (hs0.length+new.length) hc) (hs0++new) (qwf qs[i].1 nms ((hs0++new).map (·.1))) wr (by have:=hAV;rw[hq1] at this;exact this) (by rw[<- hq2];exact hAs) hps hst.out.gds (by
        have h3:=hrf.three
        rw[<- hps,List.length_map] at h3;exact h3) Qcb (λp hp=>by
        obtain⟨⟨a,ha',_,hl⟩,_⟩:=hli.out.1.ok p.1 (List.mem_map.2 ⟨p,hp,rfl⟩);obtain⟨r,hr,har⟩:=List.mem_flatMap.1 ha';have:=((HOK.out.each r hr).args a har).1
        omega) (λp hp=>by
        have hpm:p.1∈qs[i].1.head::qs[i].1.body:=by
         rcases List.mem_cons.1 hp with rfl | hp
         ·exact List.mem_cons_self
         ·rw[<- hps];exact List.mem_cons_of_mem _ (List.mem_map.2 ⟨p,hp,rfl⟩)
        have h4:=hrf.args p.1 hpm
        exact⟨by have:=h4.1;omega,h4.2⟩) hs2.1 hs2.2.1 (by rw[hnms];have:=hli.out.1.inv HOK.out hqm;rw[hnms] at this;exact this)
       refine hw.mono ?_;rintro e w' ⟨v',bs,k1,k2,k3,k4,k5,k6⟩;exact⟨v',bs,k1,k2,k6,k5,k3,k4⟩
      have Qf7:Hid (∀b,qwf qs[i].1 nms ((hs0++new).map (·.1)) qs[i].1.body.length b->qjt (qs.map (·.1)) Nm (qdo qs[i].1.head b)/\Dv (qs.map (·.1)) (fs.map (·.1)) (qdo qs[i].1.head b)):=λb hb=>hli.out.1.way HOK.out hqm hb;have hqe:Hid (qs[i]?=some qs[i]):=List.getElem?_eq_getElem hlt;have qd0:Hid (qs[i].1.head.args.length<=2/\∀t∈qs[i].1.head.args,t.num < 8):=hrf.args _ List.mem_cons_self;rw[hq1] at s1;rw[hq2] at s2;clear hAV hAs hps hqm hrf q6j hq1 hq2;generalize qs[i]=q at *;go_wp2_with fail;refine Calls.mono hwy.out ?_;rintro e' W2 ⟨vb,bs,rfl,hbs,hb2,hbl,hbw⟩;obtain⟨ba,bc,hvb⟩:=qd hbs.row;subst hvb;have hs2:Hid (qe1 fv N w W2 (.slice ha (hs0.length+new.length) hc) (hs0++new)):=hst.out.grows hb2;have HBS:Hid (qbx W2 (.slice ba bs.length bc) bs):=hbs;clear hwy hbs hb2 hst s0 s1 s2;go_wp2_with fail
      go_loopw [5,11] (λo p wr=>∃(k:Nat) (vh:Vq) (n2:List (Gr×Vq)),vh=o/\p=.int .i64 k/\k<=bs.length/\hs0.length+n2.length<=2048/\Hid (qe1 fv N w wr vh (hs0++n2))/\Hid (qbx wr (.slice ba bs.length bc) bs)/\Hid (LsI (qs.map (·.1)) (fs.map (·.1)) Nm ((hs0++n2).map (·.1))/\(∃x,n2=new++x)/\∀j,j < k->∀p,bs[j]?=some p->qdo q.1.head p.1∈(hs0++n2).map (·.1))) (λ_ p _=>bs.length - (intOf p).toNat)
      case atStart=>exact⟨0,_,new,rfl,rfl,Nat.zero_le _,hnl,hs2,HBS,hli.out.1,⟨[],by simp⟩,λj hj=>by omega⟩
      case round=>
       clear hs2 HBS hnl Qcb;obtain⟨k,vh,n2,rfl,rfl,hkl,hnl,hst,hbi,hin⟩:=hrel;obtain⟨ha,hc,hvh⟩:=qd hst.out.row;rw[List.length_append] at hvh;subst hvh;by_cases hkt:k < bs.length
       ·have k1:(k:Int) < (bs.length:Int):=by omega
        obtain⟨gb,cap',e1,q6i,u0,⟨u1,u2,hu⟩,hSb⟩:=hbi.out.cell k hkt;cases e1;rw[hu] at u0 hSb;obtain⟨s0,s1,s2,hAV⟩:=hcl.out wr hst.out.below;have hPk:=hbw.out.2 bs[k] (List.getElem_mem hkt);have hgo:=Qf7.out _ hPk.1;have HGO:Hid _:=hgo;have hbe:Hid (bs[k]?=some bs[k]):=List.getElem?_eq_getElem hkt
        have qd1:Hid (∀X,Below wr.heap.size wr X->Calls Tryz.prog 181 #[.agg #[.string q.1.head.rel,.slice a1 q.1.head.args.length a2],.slice u1 bs[k].1.length u2] X λe w'=>∃ga gc,e=.returned (.agg #[.string q.1.head.rel,.slice ga (qdo q.1.head bs[k].1).args.length gc])/\Below X.heap.size X w'/\(w'.cell? ⟨gg,i*3,none⟩=some (.string q.1.head.rel)/\w'.cell? ⟨gg,i*3+1,none⟩=some (.slice a1 q.1.head.args.length a2)/\w'.cell? ⟨gb,k,none⟩=some (.slice u1 bs[k].1.length u2))/\Hid (Below wr.heap.size wr w'/\qu w' (.slice ga (qdo q.1.head bs[k].1).args.length gc) (qdo q.1.head bs[k].1).args/\∀g,(Value.slice ga (qdo q.1.head bs[k].1).args.length gc).ownBlock=some g->N<=g)):=λX hX=>by
         have Qcy:=hPk.2;refine (q64 (q.1.head,.slice a1 q.1.head.args.length a2) (.slice u1 bs[k].1.length u2) bs[k].1 X (hcl.out X (hst.out.below.trans (hX.mono hst.out.size))).2.2.2 (hSb.below hX) (by have:=qd0.out.1;show q.1.head.args.length<=1000;omega) (λt ht _=>by rw[Qcy];exact qd0.out.2 t ht) (by rw[Qcy];decide)).mono ?_;rintro e w' ⟨vg,k1,k2,k3⟩;obtain⟨ga,gc,hvg⟩:=qd k2;subst hvg;have qmo:Below wr.heap.size wr w':=hX.trans (k3.mono hX.size);obtain⟨c0,c1,_,_⟩:=hcl.out w' (hst.out.below.trans (qmo.mono hst.out.size));exact⟨ga,gc,k1,k3,⟨c0,c1,(qmo.cell (p:=⟨gb,k,none⟩) q6i).trans u0⟩,qmo,Qm k2 (Nat.zero_le _),λg hg=>Nat.le_trans hst.out.size (Nat.le_trans hX.size (Qh k2 g hg).1)⟩
        clear hAV hSb q6i hgo hPk hu;generalize bs[k]=bk at *;have q9:Hid (∀X,Below wr.heap.size wr X->qe1 fv N w X (.slice ha (hs0.length+n2.length) hc) (hs0++n2)/\qbx X (.slice (some ⟨gb,0,none⟩) bs.length bc) bs):=λX hX=>⟨hst.out.grows hX,hbi.out.below hX⟩
        have x0:Hid (∀X,Below wr.heap.size wr X->X.cell? ⟨gg,i*3,none⟩=some (.string q.1.head.rel)/\X.cell? ⟨gg,i*3+1,none⟩=some (.slice a1 q.1.head.args.length a2)/\X.cell? ⟨gb,k,none⟩=some (.slice u1 bk.1.length u2)):=λX hX=>by
         obtain⟨c0,c1,_,_⟩:=hcl.out X (hst.out.below.trans (hX.mono hst.out.size));obtain⟨gb',cap'',e1,q6i,_⟩:=hbi.out.cell k hkt;cases e1;exact⟨c0,c1,(hX.cell (p:=⟨gb,k,none⟩) q6i).trans u0⟩
        have hbd:Hid (Below wr.heap.size wr wr.drew/\∀O,Below wr.heap.size wr (wr.alloc O).drew):=⟨(Below.refl _ wr).drew,λO=>((Below.refl _ wr).alloc zl O).drew⟩;clear s0 s1 s2 hst hbi
        go_upto_region 16 with fail
        go_cut [12] from 55 to 64 (λs12 wx=>∃Bx ga gc,s12=.pointer (some ⟨Bx,0,none⟩)/\wx.heap[Bx]?=some (Obj.cells #[.string q.1.head.rel,.slice ga (qdo q.1.head bk.1).args.length gc] 226)/\Hid (Below wr.heap.size wr wx/\qu wx (.slice ga (qdo q.1.head bk.1).args.length gc) (qdo q.1.head bk.1).args/\∀g,(Value.slice ga (qdo q.1.head bk.1).args.length gc).ownBlock=some g->N<=g))
        case first=>
         go_region_held3 (λw'=>w'.cell? ⟨gg,i*3,none⟩=some (.string q.1.head.rel)/\w'.cell? ⟨gg,i*3+1,none⟩=some (.slice a1 q.1.head.args.length a2)/\w'.cell? ⟨gb,k,none⟩=some (.slice u1 bk.1.length u2)) (first | with_reducible exact x0.out _ hbd.out.1 | with_reducible exact x0.out _ (hbd.out.2 _) | with_reducible assumption | with_reducible exact x0.out _ (hsp.out.1.alloc hsp.out.1.size _) | with_reducible exact x0.out _ ((hsp.out.1.setCell (p:=⟨wr.heap.size,0,none⟩) zl _).setCell (p:=⟨wr.heap.size,1,none⟩) zl _) | (trace_state;fail)) (first | (go_at_call 181;refine Calls.mono (qd1.out _ (by first | with_reducible exact hbd.out.1 | with_reducible exact hbd.out.2 _)) ?_;rintro e' w' ⟨ga,gc,rfl,hbp,hcs,hsp⟩;first | (have hbx:w'.heap[wr.heap.size]?=some (Obj.cells #[.string ⟨#[]⟩,.slice none 0 0] 226):=(hbp.block wr.heap.size (by simp)).trans (World.alloc_heap_new wr _);have z0:w'.cell? ⟨wr.heap.size,0,none⟩=some (.string ⟨#[]⟩):=(by simp[World.cell?,hbx]);have z1:w'.cell? ⟨wr.heap.size,1,none⟩=some (.slice none 0 0):=(by simp[World.cell?,hbx]);have y0:w'.frozen? ⟨wr.heap.size,0,none⟩=false:=(by simp[World.frozen?,hbx]);have y1:w'.frozen? ⟨wr.heap.size,1,none⟩=false:=(by simp[World.frozen?,hbx])) | skip) | go_simp)
         ·go_wp2_with fail
          go_meet
          case rel=>exact⟨_,ga,gc,rfl,World.alloc_heap_new w' _,hsp.out.1.alloc hsp.out.1.size _,qu.below hsp.out.2.1 ((Below.refl _ w').alloc zl _),hsp.out.2.2⟩
         ·go_wp2_with fail
          go_meet
          case rel=>exact⟨_,ga,gc,rfl,qym hbx _ _,(hsp.out.1.setCell (p:=⟨wr.heap.size,0,none⟩) zl _).setCell (p:=⟨wr.heap.size,1,none⟩) zl _,qvz (qvz hsp.out.2.1 hbx 0 _) (Qb hbx 0 _) 1 _,hsp.out.2.2⟩
        case rest=>
         obtain⟨Bx,ga,gc,rfl,qae,hcu⟩:=hcut;have hs3:Hid (qe1 fv N w wc (.slice ha (hs0.length+n2.length) hc) (hs0++n2)):=(q9.out wc hcu.out.1).1;have hb3:Hid (qbx wc (.slice (some ⟨gb,0,none⟩) bs.length bc) bs):=(q9.out wc hcu.out.1).2;have qn2:Hid (qu wc (.slice ga (qdo q.1.head bk.1).args.length gc) (qdo q.1.head bk.1).args):=hcu.out.2.1;have q71:Hid (∀g,(Value.slice ga (qdo q.1.head bk.1).args.length gc).ownBlock=some g->N<=g):=hcu.out.2.2;have HRL:Hid ((qdo q.1.head bk.1).rel=q.1.head.rel):=rfl;obtain⟨gx,hgx⟩:∃gx,qdo q.1.head bk.1=gx:=⟨_,rfl⟩;have HGX:Hid (qdo q.1.head bk.1=gx):=hgx;rw[hgx] at qae qn2 HRL q71;have HGO:Hid (qjt (qs.map (·.1)) Nm gx/\Dv (qs.map (·.1)) (fs.map (·.1)) gx):=by rw[<- hgx];exact HGO.out
         clear hcu q9 x0 hbd qd1 hgx;have y0:wc.cell? ⟨Bx,0,none⟩=some (.string q.1.head.rel):=by simp[World.cell?,qae]
         have y1:wc.cell? ⟨Bx,1,none⟩=some (.slice ga gx.args.length gc):=by simp[World.cell?,qae]
         have hBz:Bx < wc.heap.size:=(zg qae).1;have hrel:gx.rel=q.1.head.rel:=HRL.out
         have Qch:Hid (Calls Tryz.prog 122 #[.slice ha (hs0.length+n2.length) hc,.agg #[.string q.1.head.rel,.slice ga gx.args.length gc]] wc λe w'=>e=.returned (.bool (inG ((hs0++n2).map (·.1)) gx))/\Below wc.heap.size wc w'):=by
          have h:=qs9 (.slice ha (hs0.length+n2.length) hc) (hs0++n2) (gx,.slice ga gx.args.length gc) wc hs3.out.gds qn2.out (by rw[List.length_append];omega) (λp hp=>?_)
          ·unfold gdV at h;simp only at h;rw[hrel] at h;exact h
          ·obtain⟨⟨a,ha',_,hl⟩,_⟩:=hin.out.1.ok p.1 (List.mem_map.2 ⟨p,hp,rfl⟩);obtain⟨r,hr,har⟩:=List.mem_flatMap.1 ha';have:=((HOK.out.each r hr).args a har).1;omega
         have Qed:Hid (gx.rel=q.1.head.rel):=hrel;clear hrel qae HRL;go_wp2_with fail;refine Calls.mono Qch.out ?_;rintro e' W5 ⟨rfl,hb5⟩;have hs5:Hid (qe1 fv N w W5 (.slice ha (hs0.length+n2.length) hc) (hs0++n2)):=hs3.out.grows hb5;have hb6:Hid (qbx W5 (.slice (some ⟨gb,0,none⟩) bs.length bc) bs):=hb3.out.below hb5;have qn3:Hid (qu W5 (.slice ga gx.args.length gc) gx.args):=qn2.out.below hb5;have z0:W5.cell? ⟨Bx,0,none⟩=some (.string q.1.head.rel):=(hb5.cell (p:=⟨Bx,0,none⟩) hBz).trans y0;have z1:W5.cell? ⟨Bx,1,none⟩=some (.slice ga gx.args.length gc):=(hb5.cell (p:=⟨Bx,1,none⟩) hBz).trans y1;clear Qch hs3 hb3 qn2 y0 y1 hb5 hBz
         cases hbb:inG ((hs0++n2).map (·.1)) gx with
         | true=>
          have hl3:Hid (LsI (qs.map (·.1)) (fs.map (·.1)) Nm ((hs0++n2).map (·.1))/\(∃x,n2=new++x)/\∀j,j < k+1->∀p,bs[j]?=some p->qdo q.1.head p.1∈(hs0++n2).map (·.1)):=by
           refine⟨hin.out.1,hin.out.2.1,λj hj p hp=>?_⟩;by_cases e:j=k
           ·subst e;rw[hbe.out] at hp;cases hp;rw[HGX.out];exact (qlp _ _).1 hbb
           ·exact hin.out.2.2 j (by omega) p hp
          clear hin;go_wp2;refine⟨⟨k+1,_,n2,rfl,by go_num,by omega,hnl,hs5,hb6,hl3⟩,by simp[intOf];omega⟩
         | false=>
          have hnm:gx∉(hs0++n2).map (·.1):=λhm=>by rw[(qlp _ _).2 hm] at hbb;cases hbb
          have q9o:LsI (qs.map (·.1)) (fs.map (·.1)) Nm ((hs0++(n2++[(gx,Value.slice ga gx.args.length gc)])).map (·.1)):=by
           rw[<- List.append_assoc,List.map_append];exact hin.out.1.add hnm HGO.out.1 HGO.out.2
          have hl3:Hid (LsI (qs.map (·.1)) (fs.map (·.1)) Nm ((hs0++(n2++[(gx,Value.slice ga gx.args.length gc)])).map (·.1))/\(∃x,n2++[(gx,Value.slice ga gx.args.length gc)]=new++x)/\∀j,j < k+1->∀p,bs[j]?=some p->qdo q.1.head p.1∈(hs0++(n2++[(gx,Value.slice ga gx.args.length gc)])).map (·.1)):=by
           obtain⟨x1,⟨x,hx⟩,x3⟩:=hin.out;refine⟨q9o,⟨x++[(gx,Value.slice ga gx.args.length gc)],by rw[hx,List.append_assoc]⟩,λj hj p hp=>?_⟩;rw[<- List.append_assoc,List.map_append];by_cases e:j=k
           ·subst e;rw[hbe.out] at hp;cases hp;rw[HGX.out];exact List.mem_append_right _ List.mem_cons_self
           ·exact List.mem_append_left _ (x3 j (by omega) p hp)
          have Qfq:hs0.length+(n2++[(gx,Value.slice ga gx.args.length gc)]).length<=2048:=by
           have:=q9o.few HOK.out;rw[List.length_map,List.length_append] at this;exact this
          have hcz:Hid (∀O,N<=(W5.alloc O).heap.size):=λO=>by have:=hs5.out.size;simp;omega
          have hkr:Hid (W5.ownsRow N 226 2 (.slice ha (hs0.length+n2.length) hc) (hs0.length+n2.length) ((hs0++n2).flatMap gdC)):=by have:=hs5.out.row;rw[List.length_append] at this;exact this
          have qdt:Hid (∀(Y:Wq) (v':Vq) (o:Obj),(W5.alloc o).grownBy Y (Value.slice ha (hs0.length+n2.length) hc).ownBlock->Y.ownsRow N 226 2 v' (hs0.length+n2.length+1) ((hs0++n2).flatMap gdC++[.string q.1.head.rel,.slice ga gx.args.length gc])->qe1 fv N w Y v' (hs0++(n2++[(gx,Value.slice ga gx.args.length gc)]))/\qbx Y (.slice (some ⟨gb,0,none⟩) bs.length bc) bs):=λY v' o hg ho=>by
           rw[<- List.append_assoc];refine⟨hs5.out.app (gx,.slice ga gx.args.length gc) qn3.out (.inr q71.out) hg ?_,⟨hs5.out.keep hg (by decide) hb6.out.row,λp hp=>hs5.out.keep hg (by decide) (hb6.out.each p hp)⟩⟩;rw[List.length_append];unfold gdC;simp only;rw[Qed.out];exact ho
          clear hin hnm q9o hs5 hb6 qn3
          go_wp2_with (at_builtin;refine wpList_append_own _ rfl _ _ 217 rfl N 226 i0 _ 2 40 Tryz.underlying217 hi hz0 hz1 hz2 rfl (by decide) _ (hs0.length+n2.length) ((hs0++n2).flatMap gdC) rfl (hkr.out.alloc _) ⟨W5.heap.size,0,none⟩ 1 _ [.string q.1.head.rel,.slice ga gx.args.length gc] rfl rfl (qed _ _ _ _) (by simp[Value.oneCell']) (by unfold maxLen;omega) (by omega) (hcz.out _) ?_;intro vx' w1 ho1 hg1 _;have HW1:Hid _:=qdt.out _ _ _ hg1 ho1;clear ho1 hg1)
          refine⟨⟨k+1,vx',n2++[(gx,Value.slice ga gx.args.length gc)],rfl,by go_num,by omega,Qfq,HW1.out.1,HW1.out.2,hl3⟩,by simp[intOf];omega⟩
       ·have k1:¬(k:Int) < (bs.length:Int):=by omega
        have hke:k=bs.length:=by omega
        have hl3:Hid (LsI (qs.map (·.1)) (fs.map (·.1)) Nm ((hs0++n2).map (·.1))/\(n2=[]->∀j,j < i+1->∀q,qs[j]?=some q->∀b∈qkc q.1 (hs0.map (·.1)),qdo q.1.head b∈hs0.map (·.1))):=by
         obtain⟨x1,⟨x,hx⟩,x3⟩:=hin.out;refine⟨x1,λhn j hj q' hq' b hb=>?_⟩;rw[hn] at hx x3;have hnn:new=[]:=(List.append_eq_nil_iff.1 hx.symm).1;by_cases e:j=i
         ·subst e;rw[hqe.out] at hq';cases hq';have h5:=hbw.out.1;rw[hnn,List.append_nil] at h5;rw[<- h5] at hb;obtain⟨p,hp,rfl⟩:=List.mem_map.1 hb;obtain⟨m,hm,e⟩:=List.mem_iff_getElem.1 hp;have:=x3 m (by omega) p (by rw[<- e];exact List.getElem?_eq_getElem hm)
          rwa [List.append_nil] at this
         ·exact hli.out.2 hnn j (by omega) q' hq' b hb
        clear hin hli;go_wp2;refine⟨⟨i+1,_,n2,rfl,by go_num,by omega,hnl,hst,hl3⟩,by simp[intOf];omega⟩
     ·have i1:¬(i:Int) < (qs.length:Int):=by omega
      have hie:i=qs.length:=by omega
      by_cases qdt:new=[]
      ·subst qdt
       have qlj:Hid (LsI (qs.map (·.1)) (fs.map (·.1)) Nm (hs0.map (·.1))/\(∀g,g∈hs0.map (·.1)↔Dv (qs.map (·.1)) (fs.map (·.1)) g)/\qe1 fv N w wr (.slice ha (hs0.length+0) hc) hs0):=by
        have h1:=hli.out.1;have h2:=hst.out;rw[List.append_nil] at h1 h2;refine⟨h1,λg=>h1.done HOK.out HL0.out (λr hr b hb=>?_) g,h2⟩;obtain⟨q,hq,rfl⟩:=List.mem_map.1 hr;obtain⟨k,hk,e⟩:=List.mem_iff_getElem.1 hq;exact hli.out.2 rfl k (by omega) q (by rw[<- e];exact List.getElem?_eq_getElem hk) b hb
       clear hli hst hie;simp only[List.length_nil] at *;go_wp2;go_ret;exact⟨_,rfl,hs0,qlj.out.2.2,⟨qlj.out.1,qlj.out.2.1⟩⟩
      ·have hnp:0 < new.length:=List.length_pos_iff.2 qdt;have hne:(((hs0.length+new.length:Nat):Int) == (hs0.length:Int))=false:=by simp;omega
       have hl2:Hid (LsI (qs.map (·.1)) (fs.map (·.1)) Nm ((hs0++new).map (·.1))/\∀f∈fs.map (·.1),f∈(hs0++new).map (·.1)):=⟨hli.out.1,λf hf=>by rw[List.map_append];exact List.mem_append_left _ (HL0.out f hf)⟩;clear hli;go_wp2;refine⟨⟨_,hs0++new,rfl,by rw[List.length_append];exact hnl,hst,hl2⟩,?_⟩;simp only[Qdm];omega
