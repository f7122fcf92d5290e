/- A part -/
import Derived.Test.YtjajnhemgphefaaGreatDoorKMdR
import Derived.Deep.CutRange
import Derived.Deep.RegionHeld3
set_option linter.all false
set_option maxRecDepth 100000
set_option maxHeartbeats 8000000
namespace Go.Proofs.YtjajnhemgphefaaGreatDoor
open Go renaming World->Wq,Value->Vq
open Go.RowKit Go.Shelf
theorem Tryz.infoGround:(Tryz.prog.info? 226).map (λi=>(i.zero,i.size,i.bytes))=some (some (.agg #[St ⟨#[]⟩,.slice none 0 0]),2,40):=by kernel_rfl
structure qfd(fv:List Vq)(N:Nat)(w X:Wq)(vh:Vq)(hs:List (Gr×Vq)):Prop where
 below:Below N w X
 size:N<=X.heap.size
 row:X.ownsRow N 226 2 vh hs.length (hs.flatMap gdC)
 each:∀p∈hs,qt X p.2 p.1.args
 loc:∀p∈hs,p.2∈fv\/∀g,p.2.ownBlock=some g->N<=g
section
variable {fv:List Vq} {N:Nat} {w X Y:Wq} {vh v':Vq} {hs:List (Gr×Vq)}
theorem qfd.gds(h:qfd fv N w X vh hs):qc3 X vh hs:=⟨Qa h.row zz,h.each⟩
theorem qfd.grows(h:qfd fv N w X vh hs)(hb:Below X.heap.size X Y):qfd fv N w Y vh hs:=by
 have:=hb.size;have:=h.size;exact⟨h.below.trans (hb.mono h.size),by omega,qk h.row hb,λp hp=>(h.each p hp).below hb,h.loc⟩
theorem qfd.app(h:qfd fv N w X vh hs)(p:Gr×Vq)(hp:qt X p.2 p.1.args)(hl:p.2∈fv\/∀g,p.2.ownBlock=some g->N<=g){o:Obj}(hg:(X.alloc o).grownBy Y vh.ownBlock)(ho:Y.ownsRow N 226 2 v' (hs.length+1) (hs.flatMap gdC++gdC p)):qfd fv N w Y v' (hs++[p]):=by
 have hz:=hg.size;simp at hz;have d8:=h.size;have d0:∀k,vh.ownBlock=some k->N<=k:=λk e=>(Qe h.row k e).1;have hk:∀g,g < X.heap.size->vh.ownBlock≠some g->Y.heap[g]?=X.heap[g]?:=λg ad dl=>(hg.block g (by simp;omega) (λe=>dl e.symm)).trans (Below.heap_alloc _ _ _ ad)
 have qq:∀{B T m n:Nat} {v:Vq} {xs:List Vq},T≠226->X.ownsRow B T m v n xs->Y.ownsRow B T m v n xs:=by
  intro B T m n v xs hT bh;refine qm bh (λg ck ad=>hk g ad (λe=>?_));obtain⟨c1,au⟩:=qh bh ck;obtain⟨c2,av⟩:=qh h.row e;rw[au] at av;cases av;exact hT rfl
 refine⟨(h.below.alloc (by omega) o).grown hg (by simp;omega) (λk e=>d0 k e),by omega,?_,λq hq=>?_,λq hq=>?_⟩
 .rw[List.flatMap_append];simpa using ho
 .rcases List.mem_append.1 hq with hq | hq
  .exact qq (by decide) (h.each q hq)
  .simp at hq;subst hq;exact qq (by decide) hp
 .rcases List.mem_append.1 hq with hq | hq
  .exact h.loc q hq
  .simp at hq;subst hq;exact hl
end
theorem qfd.keep{fv:List Vq}{N:Nat}{w X Y:Wq}{vh:Vq}{hs:List (Gr×Vq)}(h:qfd fv N w X vh hs){o:Obj}(hg:(X.alloc o).grownBy Y vh.ownBlock){B T m n:Nat}{v:Vq}{xs:List Vq}(hT:T≠226)(bh:X.ownsRow B T m v n xs):Y.ownsRow B T m v n xs:=by
 refine qm bh (λg ck ad=>(hg.block g (by simp;omega) (λe=>?_)).trans (Below.heap_alloc _ _ _ ad));obtain⟨c1,au⟩:=qh bh ck;obtain⟨c2,av⟩:=qh h.row e.symm;rw[au] at av;cases av;exact hT rfl
theorem qzb{W:Wq}{B T:Nat}{x y:Vq}(h:W.heap[B]?=cC #[x,y] T)(a b:Vq):((W.setCell (Ad B 0) a).setCell (Ad B 1) b).heap[B]?=cC #[a,b] T:=by
 have h1:=Qc h 0 a;have h2:=Qc h1 1 b;rw[h2];rfl
theorem qwl{W:Wq}{B:Nat}{c:Array Vq}{v:Vq}{l:List By}(h:qt W v l)(hb:W.heap[B]?=cC c 226)(j:Nat)(x:Vq):qt (W.setCell (Ad B j) x) v l:=by
 refine qm h (λg hg _=>Below.heap_setCell _ _ _ _ (λe=>?_));obtain⟨c1,au⟩:=qh h hg;simp at e;subst e;rw[hb] at au;cases au
def Qey:Vq->Nat
 | .slice _ n _=>n
 | _=>0
theorem ql4(l:List Gr)(g:Gr):inG l g=true↔g∈l:=by
 unfold inG;rw[List.any_eq_true];constructor
 .rintro⟨x,hx,hs⟩;rw[qnk] at hs;rw[<- hs];exact hx
 .intro h;exact⟨g,h,(qnk g g).2 rfl⟩
def qfc(R:List Rl)(F:List Gr)(Nm:List By)(hs:List Gr):Prop:=LsI R F Nm hs/\∀g,g∈hs↔Dv R F g
theorem qp1(qs:List (Rl×Vq×Vq))(fs:List (Gr×Vq))(Nm:List By)(v vf:Vq)(w:Wq)(hR:qag w v qs)(hF:qc3 w vf fs)(ed:qs.length<=1000)(d9:fs.length<=1000)(cv:qdy (qs.map (·.1)) Nm)(cz:∀p∈fs,qj7 (qs.map (·.1)) Nm p.1) :
  Cs 113 #[v,vf] w λe w'=>∃v' hs,e=.returned v'/\qfd (fs.map (·.2)) w.heap.size w w' v' hs/\qfc (qs.map (·.1)) (fs.map (·.1)) Nm (hs.map (·.1)):=by
 obtain⟨i0,hi,dj,c7,cu⟩:=info_parts Tryz.infoGround;obtain⟨fv,cq⟩:∃fv,fs.map (·.2)=fv:=⟨_,rfl⟩;rw[cq];have dx:Hid (∀f∈fs,f.2∈fv):=λf hf=>by rw[<- cq];exact List.mem_map.2 ⟨f,hf,rfl⟩
 obtain⟨va,vc,rfl⟩:=qd hR.row;obtain⟨fa,fc,rfl⟩:=qd hF.row;obtain⟨N,hN⟩:∃N,N=w.heap.size:=⟨_,rfl⟩;have dw:=hN.symm;rw[<- hN]
 have b6:Hid (∀X,Below N w X->qag X (.slice va qs.length vc) qs/\qc3 X (.slice fa fs.length fc) fs):=λX hX=>by
  have c5:Below w.heap.size w X:=by rw[dw];exact hX
  exact⟨hR.below c5,hF.below c5⟩
 have ag:Hid _:=cv;have d6:Hid _:=cz;have h0:Hid (qfd fv N w w (.slice none 0 0) []):=⟨zr,by omega,zo,λp hp=>(by cases hp),λp hp=>(by cases hp)⟩;clear hR hF cv cz hN cq;go_enter Tryz.func113,Tryz.ntmps113;go_wp2_with fail
 go_loopw [5,6] (λo p wr=>∃(i:Nat) (vh:Vq) (hs:List (Gr×Vq)),vh=o/\p=.int .i64 i/\i<=fs.length/\hs.length<=i/\Hid (qfd fv N w wr vh hs)/\Hid (LsI (qs.map (·.1)) (fs.map (·.1)) Nm (hs.map (·.1))/\∀k,k < i->∀f,fs[k]?=some f->f.1∈hs.map (·.1))) (λ_ p _=>fs.length - (intOf p).toNat)
 case atStart=>exact⟨0,_,[],rfl,rfl,zz,Nat.le_refl _,h0,LsI.start,λk hk=>by omega⟩
 case round=>
  clear h0;obtain⟨i,vh,hs,rfl,rfl,dp,d4,ab,ac⟩:=hrel;obtain⟨ha,hc,ah⟩:=qd ab.out.row;subst ah;by_cases ad:i < fs.length
  .have i1:(i:Int) < (fs.length:Int):=by omega
   obtain⟨gg,az,e1,cf,s0,s1,⟨t1,t2,ht⟩,bv⟩:=(b6.out wr ab.out.below).2.cell i ad;cases e1
   have al:Hid (∀X,Below N w X->X.cell? (Ad gg (i*2))=some (St fs[i].1.rel)/\X.cell? (Ad gg (i*2+1))=some (.slice t1 fs[i].1.args.length t2)/\qt X (.slice t1 fs[i].1.args.length t2) fs[i].1.args):=λX hX=>by
    obtain⟨d7,aj,e1,_,s0,s1,_,bv⟩:=(b6.out X hX).2.cell i ad;cases e1;rw[ht] at s1 bv;exact⟨s0,s1,bv⟩
   have ae:Hid (Cs 122 #[.slice ha hs.length hc,.agg #[St fs[i].1.rel,.slice t1 fs[i].1.args.length t2]] wr λe w'=>e=.returned (.bool (inG (hs.map (·.1)) fs[i].1))/\Below wr.heap.size wr w'):=by
    have h:=q42 (.slice ha hs.length hc) hs (fs[i].1,.slice t1 fs[i].1.args.length t2) wr ab.out.gds (al.out wr ab.out.below).2.2 (by omega) (λp hp=>?_)
    .exact h
    .obtain⟨⟨a,be,_,hl⟩,_⟩:=ac.out.1.ok p.1 (List.mem_map.2 ⟨p,hp,rfl⟩);obtain⟨r,hr,bd⟩:=List.mem_flatMap.1 be;have:=((ag.out.each r hr).args a bd).1;omega
   have Qdo:Value.slice t1 fs[i].1.args.length t2∈fv:=by rw[<- ht];exact dx.out _ (zm ad)
   have d2:Hid _:=Qdo;clear Qdo;have c9:=d6.out fs[i] (zm ad);have HFi:Hid _:=c9;have da:fs[i]?=some fs[i]:=List.getElem?_eq_getElem ad;have cw:Hid (fs[i]?=some fs[i]):=da;rw[ht] at s1;clear c9 bv cf ht da;have dv:Hid (fs[i].1∈fs.map (·.1)):=List.mem_map.2 ⟨fs[i],List.getElem_mem ad,rfl⟩;generalize fs[i]=f at *;go_wp2_with fail;refine Calls.mono ae.out ?_;rintro e' W1 ⟨rfl,dc⟩;have aw:Hid (qfd fv N w W1 (.slice ha hs.length hc) hs):=ab.out.grows dc;clear ae dc ab s0 s1;obtain⟨s0,s1,dn⟩:=al.out W1 aw.out.below;have dr:Hid (qt W1 (.slice t1 f.1.args.length t2) f.1.args):=dn;clear dn al
   cases hb:inG (hs.map (·.1)) f.1 with
   | true=>
    have ai:Hid (LsI (qs.map (·.1)) (fs.map (·.1)) Nm (hs.map (·.1))/\∀k,k < i+1->∀f,fs[k]?=some f->f.1∈hs.map (·.1)):=⟨ac.out.1,λk hk f' ap=>by
     by_cases e:k=i
     .subst e;rw[cw.out] at ap;cases ap;exact (ql4 _ _).1 hb
     .exact ac.out.2 k (by omega) f' ap⟩
    clear ac;go_wp2;refine⟨⟨i+1,_,hs,rfl,by go_num,by omega,by omega,aw,ai⟩,by simp[intOf];omega⟩
   | false=>
    have ay:f.1∉hs.map (·.1):=λhm=>by rw[(ql4 _ _).2 hm] at hb;cases hb
    have ai:Hid (LsI (qs.map (·.1)) (fs.map (·.1)) Nm ((hs++[(f.1,Value.slice t1 f.1.args.length t2)]).map (·.1))/\∀k,k < i+1->∀f',fs[k]?=some f'->f'.1∈(hs++[(f.1,Value.slice t1 f.1.args.length t2)]).map (·.1)):=by
     rw[List.map_append];refine⟨ac.out.1.fact dv.out ay HFi.out,λk hk f' ap=>?_⟩;by_cases e:k=i
     .subst e;rw[cw.out] at ap;cases ap;exact List.mem_append_right _ zs
     .exact List.mem_append_left _ (ac.out.2 k (by omega) f' ap)
    have cj:Hid (∀O,N<=(W1.alloc O).heap.size):=λO=>by have:=aw.out.size;simp;omega
    have cc:Hid (W1.ownsRow N 226 2 (.slice ha hs.length hc) hs.length (hs.flatMap gdC)):=aw.out.row;clear ac ay
    go_wp2_with (at_builtin;refine wpList_append_own _ rfl _ _ 217 rfl N 226 i0 _ 2 40 Tryz.underlying217 hi dj c7 cu rfl (by decide) _ hs.length (hs.flatMap gdC) rfl (cc.out.alloc _) ⟨W1.heap.size,0,none⟩ 1 _ [St f.1.rel,.slice t1 f.1.args.length t2] rfl rfl (qei _ _ _ _) (by simp[Value.oneCell']) (by unfold maxLen;omega) (by omega) (cj.out _) ?_;intro ci w1 ax a9 _;have bq:Hid _:=aw.out.app (f.1,.slice t1 f.1.args.length t2) dr.out (.inl d2.out) a9 ax;clear ax a9)
    refine⟨⟨i+1,ci,_,rfl,by go_num,by omega,by simp;omega,bq,ai⟩,by simp[intOf];omega⟩
  .have cg:i=fs.length:=by omega
   have ai:Hid (LsI (qs.map (·.1)) (fs.map (·.1)) Nm (hs.map (·.1))/\∀f∈fs.map (·.1),f∈hs.map (·.1)):=⟨ac.out.1,λf hf=>by
    obtain⟨p,hp,rfl⟩:=List.mem_map.1 hf;obtain⟨k,hk,e⟩:=List.mem_iff_getElem.1 hp
    exact ac.out.2 k (by omega) p (by rw[<- e];exact List.getElem?_eq_getElem hk)⟩
   clear ac cg;have dq:hs.length<=2048:=by have:=ai.out.1.few ag.out;rwa [List.length_map] at this
   go_wp2_with fail
   go_loopw [5] (λo wr=>∃(vh:Vq) (hs:List (Gr×Vq)),vh=o/\hs.length<=2048/\Hid (qfd fv N w wr vh hs)/\Hid (LsI (qs.map (·.1)) (fs.map (·.1)) Nm (hs.map (·.1))/\∀f∈fs.map (·.1),f∈hs.map (·.1))) (λo _=>2049 - Qey o)
   case atStart=>exact⟨_,hs,rfl,dq,ab,ai⟩
   case round=>
    clear ab ai dq d4 dp ad;obtain⟨vh,aa,rfl,du,ab,ct⟩:=hrel;obtain⟨ha,hc,ah⟩:=qd ab.out.row;subst ah;have dd:Hid (∀f∈fs.map (·.1),f∈aa.map (·.1)):=ct.out.2;have dk:Hid (LsI (qs.map (·.1)) (fs.map (·.1)) Nm (aa.map (·.1))):=ct.out.1;clear ct;go_wp2_with fail
    go_loopw [5,9] (λo p wr=>∃(i:Nat) (vh:Vq) (new:List (Gr×Vq)),vh=o/\p=.int .i64 i/\i<=qs.length/\aa.length+new.length<=2048/\Hid (qfd fv N w wr vh (aa++new))/\Hid (LsI (qs.map (·.1)) (fs.map (·.1)) Nm ((aa++new).map (·.1))/\(new=[]->∀j,j < i->∀q,qs[j]?=some q->∀b∈qkq q.1 (aa.map (·.1)),qdt q.1.head b∈aa.map (·.1)))) (λ_ p _=>qs.length - (intOf p).toNat)
    case atStart=>exact⟨0,_,[],rfl,rfl,zz,du,by rw[List.append_nil];exact ab,by rw[List.append_nil];exact dk.out,λ_ j hj=>by omega⟩
    case round=>
     clear ab dk;obtain⟨i,vh,new,rfl,rfl,dp,an,ab,ac⟩:=hrel;obtain⟨ha,hc,ah⟩:=qd ab.out.row;rw[List.length_append] at ah;subst ah;by_cases ad:i < qs.length
     .have i1:(i:Int) < (qs.length:Int):=by omega
      obtain⟨gg,az,e1,cf,s0,s1,s2,ak,ps,b9,ce⟩:=(b6.out wr ab.out.below).1.cell i ad;cases e1;obtain⟨a1,a2,a8⟩:=qd ak;simp only at a8;obtain⟨b1,b2,bn⟩:=qd ce.row
      have al:Hid (∀X,Below N w X->X.cell? (Ad gg (i*3))=some (St qs[i].1.head.rel)/\X.cell? (Ad gg (i*3+1))=some (.slice a1 qs[i].1.head.args.length a2)/\X.cell? (Ad gg (i*3+2))=some (.slice b1 ps.length b2)/\qa5 X (qs[i].1.head,.slice a1 qs[i].1.head.args.length a2)):=λX hX=>by
       obtain⟨d7,aj,e1,_,s0,s1,s2,ak,_⟩:=(b6.out X hX).1.cell i ad;cases e1;rw[a8] at s1 ak;rw[bn] at s2;exact⟨s0,s1,s2,ak⟩
      have ca:qs[i].1∈qs.map (·.1):=List.mem_map.2 ⟨qs[i],List.getElem_mem ad,rfl⟩;have b8:=ag.out.each _ ca;obtain⟨a6,bf⟩:∃a6,qa7 [] (qam ((aa++new).map (·.1)))=a6:=⟨_,rfl⟩;have Qds:(aa++new).length<=2048:=by rw[List.length_append];exact an
      have cy:Hid (Cs 180 #[.agg #[St qs[i].1.head.rel,.slice a1 qs[i].1.head.args.length a2,.slice b1 ps.length b2],.slice ha (aa.length+new.length) hc] wr λe w'=>∃v' bs,e=.returned v'/\qbw w' v' bs/\Below wr.heap.size wr w'/\bs.length<=2048 ^ 3/\Hid (bs.map (·.1)=qkq qs[i].1 ((aa++new).map (·.1))/\∀p∈bs,qw1 qs[i].1 a6 ((aa++new).map (·.1)) qs[i].1.body.length p.1/\p.1.length=8)):=by
       have bj:=qp6 ag.out ac.out.1.ok
       have hw:=q6q (qs[i].1,.slice a1 qs[i].1.head.args.length a2,.slice b1 ps.length b2) ps (.slice ha (aa.length+new.length) hc) (aa++new) (qw1 qs[i].1 a6 ((aa++new).map (·.1))) wr (by have:=ak;rw[a8] at this;exact this) (by rw[<- bn];exact ce) b9 ab.out.gds (by
        have h3:=b8.three
        rw[<- b9,List.length_map] at h3;exact h3) Qds (λp hp=>by
        obtain⟨⟨a,be,_,hl⟩,_⟩:=ac.out.1.ok p.1 (List.mem_map.2 ⟨p,hp,rfl⟩);obtain⟨r,hr,bd⟩:=List.mem_flatMap.1 be;have:=((ag.out.each r hr).args a bd).1
        omega) (λp hp=>by
        have dt:p.1∈qs[i].1.head::qs[i].1.body:=by
         rcases List.mem_cons.1 hp with rfl | hp
         .exact zs
         .rw[<- b9];exact List.mem_cons_of_mem _ (List.mem_map.2 ⟨p,hp,rfl⟩)
        have h4:=b8.args p.1 dt
        exact⟨by have:=h4.1;omega,h4.2⟩) bj.1 bj.2.1 (by rw[bf];have:=ac.out.1.inv ag.out ca;rw[bf] at this;exact this)
       refine hw.mono ?_;rintro e w' ⟨v',bs,k1,k2,k3,k4,k5,k6⟩;exact⟨v',bs,k1,k2,k6,k5,k3,k4⟩
      have Qhc:Hid (∀b,qw1 qs[i].1 a6 ((aa++new).map (·.1)) qs[i].1.body.length b->qj7 (qs.map (·.1)) Nm (qdt qs[i].1.head b)/\Dv (qs.map (·.1)) (fs.map (·.1)) (qdt qs[i].1.head b)):=λb hb=>ac.out.1.way ag.out ca hb;have dy:Hid (qs[i]?=some qs[i]):=List.getElem?_eq_getElem ad;have c4:Hid (qs[i].1.head.args.length<=2/\∀t∈qs[i].1.head.args,t.num < 8):=b8.args _ zs;rw[a8] at s1;rw[bn] at s2;clear ak ce b9 ca b8 cf a8 bn;generalize qs[i]=q at *;go_wp2_with fail;refine Calls.mono cy.out ?_;rintro e' W2 ⟨vb,bs,rfl,co,cx,ea,c3⟩;obtain⟨ba,bc,d3⟩:=qd co.row;subst d3;have bj:Hid (qfd fv N w W2 (.slice ha (aa.length+new.length) hc) (aa++new)):=ab.out.grows cx;have di:Hid (qbw W2 (.slice ba bs.length bc) bs):=co;clear cy co cx ab s0 s1 s2;go_wp2_with fail
      go_loopw [5,11] (λo p wr=>∃(k:Nat) (vh:Vq) (n2:List (Gr×Vq)),vh=o/\p=.int .i64 k/\k<=bs.length/\aa.length+n2.length<=2048/\Hid (qfd fv N w wr vh (aa++n2))/\Hid (qbw wr (.slice ba bs.length bc) bs)/\Hid (LsI (qs.map (·.1)) (fs.map (·.1)) Nm ((aa++n2).map (·.1))/\(∃x,n2=new++x)/\∀j,j < k->∀p,bs[j]?=some p->qdt q.1.head p.1∈(aa++n2).map (·.1))) (λ_ p _=>bs.length - (intOf p).toNat)
      case atStart=>exact⟨0,_,new,rfl,rfl,zz,an,bj,di,ac.out.1,⟨[],by simp⟩,λj hj=>by omega⟩
      case round=>
       clear bj di an Qds;obtain⟨k,vh,n2,rfl,rfl,ec,an,ab,bt,ae⟩:=hrel;obtain⟨ha,hc,ah⟩:=qd ab.out.row;rw[List.length_append] at ah;subst ah;by_cases b4:k < bs.length
       .have k1:(k:Int) < (bs.length:Int):=by omega
        obtain⟨gb,az,e1,b5,u0,⟨u1,u2,hu⟩,cp⟩:=bt.out.cell k b4;cases e1;rw[hu] at u0 cp;obtain⟨s0,s1,s2,ak⟩:=al.out wr ab.out.below;have cr:=c3.out.2 bs[k] (zm b4);have dg:=Qhc.out _ cr.1;have b7:Hid _:=dg;have c8:Hid (bs[k]?=some bs[k]):=List.getElem?_eq_getElem b4
        have dh:Hid (∀X,Below wr.heap.size wr X->Cs 181 #[.agg #[St q.1.head.rel,.slice a1 q.1.head.args.length a2],.slice u1 bs[k].1.length u2] X λe w'=>∃ga gc,e=.returned (.agg #[St q.1.head.rel,.slice ga (qdt q.1.head bs[k].1).args.length gc])/\Below X.heap.size X w'/\(w'.cell? (Ad gg (i*3))=some (St q.1.head.rel)/\w'.cell? (Ad gg (i*3+1))=some (.slice a1 q.1.head.args.length a2)/\w'.cell? (Ad gb k)=some (.slice u1 bs[k].1.length u2))/\Hid (Below wr.heap.size wr w'/\qt w' (.slice ga (qdt q.1.head bs[k].1).args.length gc) (qdt q.1.head bs[k].1).args/\∀g,(Value.slice ga (qdt q.1.head bs[k].1).args.length gc).ownBlock=some g->N<=g)):=λX hX=>by
         have Qee:=cr.2;refine (q8i (q.1.head,.slice a1 q.1.head.args.length a2) (.slice u1 bs[k].1.length u2) bs[k].1 X (al.out X (ab.out.below.trans (hX.mono ab.out.size))).2.2.2 (cp.below hX) (by have:=c4.out.1;show q.1.head.args.length<=1000;omega) (λt ht _=>by rw[Qee];exact c4.out.2 t ht) (by rw[Qee];decide)).mono ?_;rintro e w' ⟨vg,k1,k2,k3⟩;obtain⟨ga,gc,d5⟩:=qd k2;subst d5;have cb:Below wr.heap.size wr w':=hX.trans (k3.mono hX.size);obtain⟨c0,c1,_,_⟩:=al.out w' (ab.out.below.trans (cb.mono ab.out.size));exact⟨ga,gc,k1,k3,⟨c0,c1,(cb.cell (p:=⟨gb,k,none⟩) b5).trans u0⟩,cb,Qa k2 zz,λg hg=>Nat.le_trans ab.out.size (Nat.le_trans hX.size (Qe k2 g hg).1)⟩
        clear ak cp b5 dg cr hu;generalize bs[k]=bk at *;have q7:Hid (∀X,Below wr.heap.size wr X->qfd fv N w X (.slice ha (aa.length+n2.length) hc) (aa++n2)/\qbw X (Sc gb bs.length bc) bs):=λX hX=>⟨ab.out.grows hX,bt.out.below hX⟩
        have x0:Hid (∀X,Below wr.heap.size wr X->X.cell? (Ad gg (i*3))=some (St q.1.head.rel)/\X.cell? (Ad gg (i*3+1))=some (.slice a1 q.1.head.args.length a2)/\X.cell? (Ad gb k)=some (.slice u1 bk.1.length u2)):=λX hX=>by
         obtain⟨c0,c1,_,_⟩:=al.out X (ab.out.below.trans (hX.mono ab.out.size));obtain⟨ee,aj,e1,b5,_⟩:=bt.out.cell k b4;cases e1;exact⟨c0,c1,(hX.cell (p:=⟨gb,k,none⟩) b5).trans u0⟩
        have bb:Hid (Below wr.heap.size wr wr.drew/\∀O,Below wr.heap.size wr (wr.alloc O).drew):=⟨(Below.refl _ wr).drew,λO=>((Below.refl _ wr).alloc zl O).drew⟩;clear s0 s1 s2 ab bt
        go_upto_region 16 with fail
        go_cut [12] from 55 to 64 (λd1 wx=>∃Bx ga gc,d1=.pointer (some ⟨Bx,0,none⟩)/\wx.heap[Bx]?=some (Obj.cells #[.string q.1.head.rel,.slice ga (qdt q.1.head bk.1).args.length gc] 226)/\Hid (Below wr.heap.size wr wx/\qt wx (.slice ga (qdt q.1.head bk.1).args.length gc) (qdt q.1.head bk.1).args/\∀g,(Value.slice ga (qdt q.1.head bk.1).args.length gc).ownBlock=some g->N<=g))
        case first=>
         go_region_held3 (λw'=>w'.cell? (Ad gg (i*3))=some (St q.1.head.rel)/\w'.cell? (Ad gg (i*3+1))=some (.slice a1 q.1.head.args.length a2)/\w'.cell? (Ad gb k)=some (.slice u1 bk.1.length u2)) (first | with_reducible exact x0.out _ bb.out.1 | with_reducible exact x0.out _ (bb.out.2 _) | with_reducible assumption | with_reducible exact x0.out _ (af.out.1.alloc af.out.1.size _) | with_reducible exact x0.out _ ((af.out.1.setCell (p:=⟨wr.heap.size,0,none⟩) zl _).setCell (p:=⟨wr.heap.size,1,none⟩) zl _) | (trace_state;fail)) (first | (go_at_call 181;refine Calls.mono (dh.out _ (by first | with_reducible exact bb.out.1 | with_reducible exact bb.out.2 _)) ?_;rintro e' w' ⟨ga,gc,rfl,dz,ef,af⟩;first | (have ao:w'.heap[wr.heap.size]?=cC #[St ⟨#[]⟩,.slice none 0 0] 226:=(dz.block wr.heap.size (by simp)).trans (zn wr _);have z0:w'.cell? (Ad wr.heap.size 0)=some (St ⟨#[]⟩):=(by simp[World.cell?,ao]);have z1:w'.cell? (Ad wr.heap.size 1)=some (.slice none 0 0):=(by simp[World.cell?,ao]);have y0:w'.frozen? (Ad wr.heap.size 0)=false:=(by simp[World.frozen?,ao]);have y1:w'.frozen? (Ad wr.heap.size 1)=false:=(by simp[World.frozen?,ao])) | skip) | go_simp)
         .go_wp2_with fail
          go_meet
          case rel=>exact⟨_,ga,gc,rfl,zn w' _,af.out.1.alloc af.out.1.size _,qt.below af.out.2.1 ((Below.refl _ w').alloc zl _),af.out.2.2⟩
         .go_wp2_with fail
          go_meet
          case rel=>exact⟨_,ga,gc,rfl,qzb ao _ _,(af.out.1.setCell (p:=⟨wr.heap.size,0,none⟩) zl _).setCell (p:=⟨wr.heap.size,1,none⟩) zl _,qwl (qwl af.out.2.1 ao 0 _) (Qc ao 0 _) 1 _,af.out.2.2⟩
        case rest=>
         obtain⟨Bx,ga,gc,rfl,Qs,bi⟩:=hcut;have ch:Hid (qfd fv N w wc (.slice ha (aa.length+n2.length) hc) (aa++n2)):=(q7.out wc bi.out.1).1;have dm:Hid (qbw wc (Sc gb bs.length bc) bs):=(q7.out wc bi.out.1).2;have bo:Hid (qt wc (.slice ga (qdt q.1.head bk.1).args.length gc) (qdt q.1.head bk.1).args):=bi.out.2.1;have de:Hid (∀g,(Value.slice ga (qdt q.1.head bk.1).args.length gc).ownBlock=some g->N<=g):=bi.out.2.2;have cn:Hid ((qdt q.1.head bk.1).rel=q.1.head.rel):=rfl;obtain⟨gx,b3⟩:∃gx,qdt q.1.head bk.1=gx:=⟨_,rfl⟩;have c6:Hid (qdt q.1.head bk.1=gx):=b3;rw[b3] at Qs bo cn de;have b7:Hid (qj7 (qs.map (·.1)) Nm gx/\Dv (qs.map (·.1)) (fs.map (·.1)) gx):=by rw[<- b3];exact b7.out
         clear bi q7 x0 bb dh b3;have y0:wc.cell? (Ad Bx 0)=some (St q.1.head.rel):=zc Qs
         have y1:wc.cell? (Ad Bx 1)=some (.slice ga gx.args.length gc):=zc Qs
         have cd:Bx < wc.heap.size:=(zg Qs).1;have hrel:gx.rel=q.1.head.rel:=cn.out
         have Qdw:Hid (Cs 122 #[.slice ha (aa.length+n2.length) hc,.agg #[St q.1.head.rel,.slice ga gx.args.length gc]] wc λe w'=>e=.returned (.bool (inG ((aa++n2).map (·.1)) gx))/\Below wc.heap.size wc w'):=by
          have h:=q42 (.slice ha (aa.length+n2.length) hc) (aa++n2) (gx,.slice ga gx.args.length gc) wc ch.out.gds bo.out (by rw[List.length_append];omega) (λp hp=>?_)
          .unfold gdV at h;simp only at h;rw[hrel] at h;exact h
          .obtain⟨⟨a,be,_,hl⟩,_⟩:=ae.out.1.ok p.1 (List.mem_map.2 ⟨p,hp,rfl⟩);obtain⟨r,hr,bd⟩:=List.mem_flatMap.1 be;have:=((ag.out.each r hr).args a bd).1;omega
         have Qfk:Hid (gx.rel=q.1.head.rel):=hrel;clear hrel Qs cn;go_wp2_with fail;refine Calls.mono Qdw.out ?_;rintro e' W5 ⟨rfl,aq⟩;have am:Hid (qfd fv N w W5 (.slice ha (aa.length+n2.length) hc) (aa++n2)):=ch.out.grows aq;have b0:Hid (qbw W5 (Sc gb bs.length bc) bs):=dm.out.below aq;have db:Hid (qt W5 (.slice ga gx.args.length gc) gx.args):=bo.out.below aq;have z0:W5.cell? (Ad Bx 0)=some (St q.1.head.rel):=(aq.cell (p:=⟨Bx,0,none⟩) cd).trans y0;have z1:W5.cell? (Ad Bx 1)=some (.slice ga gx.args.length gc):=(aq.cell (p:=⟨Bx,1,none⟩) cd).trans y1;clear Qdw ch dm bo y0 y1 aq cd
         cases hbb:inG ((aa++n2).map (·.1)) gx with
         | true=>
          have a7:Hid (LsI (qs.map (·.1)) (fs.map (·.1)) Nm ((aa++n2).map (·.1))/\(∃x,n2=new++x)/\∀j,j < k+1->∀p,bs[j]?=some p->qdt q.1.head p.1∈(aa++n2).map (·.1)):=by
           refine⟨ae.out.1,ae.out.2.1,λj hj p hp=>?_⟩;by_cases e:j=k
           .subst e;rw[c8.out] at hp;cases hp;rw[c6.out];exact (ql4 _ _).1 hbb
           .exact ae.out.2.2 j (by omega) p hp
          clear ae;go_wp2;refine⟨⟨k+1,_,n2,rfl,by go_num,by omega,an,am,b0,a7⟩,by simp[intOf];omega⟩
         | false=>
          have ay:gx∉(aa++n2).map (·.1):=λhm=>by rw[(ql4 _ _).2 hm] at hbb;cases hbb
          have Qa7:LsI (qs.map (·.1)) (fs.map (·.1)) Nm ((aa++(n2++[(gx,Value.slice ga gx.args.length gc)])).map (·.1)):=by
           rw[<- List.append_assoc,List.map_append];exact ae.out.1.add ay b7.out.1 b7.out.2
          have a7:Hid (LsI (qs.map (·.1)) (fs.map (·.1)) Nm ((aa++(n2++[(gx,Value.slice ga gx.args.length gc)])).map (·.1))/\(∃x,n2++[(gx,Value.slice ga gx.args.length gc)]=new++x)/\∀j,j < k+1->∀p,bs[j]?=some p->qdt q.1.head p.1∈(aa++(n2++[(gx,Value.slice ga gx.args.length gc)])).map (·.1)):=by
           obtain⟨x1,⟨x,hx⟩,x3⟩:=ae.out;refine⟨Qa7,⟨x++[(gx,Value.slice ga gx.args.length gc)],by rw[hx,List.append_assoc]⟩,λj hj p hp=>?_⟩;rw[<- List.append_assoc,List.map_append];by_cases e:j=k
           .subst e;rw[c8.out] at hp;cases hp;rw[c6.out];exact List.mem_append_right _ zs
           .exact List.mem_append_left _ (x3 j (by omega) p hp)
          have Qgx:aa.length+(n2++[(gx,Value.slice ga gx.args.length gc)]).length<=2048:=by
           have:=Qa7.few ag.out;rw[List.length_map,List.length_append] at this;exact this
          have cj:Hid (∀O,N<=(W5.alloc O).heap.size):=λO=>by have:=am.out.size;simp;omega
          have cc:Hid (W5.ownsRow N 226 2 (.slice ha (aa.length+n2.length) hc) (aa.length+n2.length) ((aa++n2).flatMap gdC)):=by have:=am.out.row;rw[List.length_append] at this;exact this
          have bu:Hid (∀(Y:Wq) (v':Vq) (o:Obj),(W5.alloc o).grownBy Y (Value.slice ha (aa.length+n2.length) hc).ownBlock->Y.ownsRow N 226 2 v' (aa.length+n2.length+1) ((aa++n2).flatMap gdC++[St q.1.head.rel,.slice ga gx.args.length gc])->qfd fv N w Y v' (aa++(n2++[(gx,Value.slice ga gx.args.length gc)]))/\qbw Y (Sc gb bs.length bc) bs):=λY v' o hg ho=>by
           rw[<- List.append_assoc];refine⟨am.out.app (gx,.slice ga gx.args.length gc) db.out (.inr de.out) hg ?_,⟨am.out.keep hg (by decide) b0.out.row,λp hp=>am.out.keep hg (by decide) (b0.out.each p hp)⟩⟩;rw[List.length_append];unfold gdC;simp only;rw[Qfk.out];exact ho
          clear ae ay Qa7 am b0 db
          go_wp2_with (at_builtin;refine wpList_append_own _ rfl _ _ 217 rfl N 226 i0 _ 2 40 Tryz.underlying217 hi dj c7 cu rfl (by decide) _ (aa.length+n2.length) ((aa++n2).flatMap gdC) rfl (cc.out.alloc _) ⟨W5.heap.size,0,none⟩ 1 _ [St q.1.head.rel,.slice ga gx.args.length gc] rfl rfl (qei _ _ _ _) (by simp[Value.oneCell']) (by unfold maxLen;omega) (by omega) (cj.out _) ?_;intro ci w1 ax a9 _;have bq:Hid _:=bu.out _ _ _ a9 ax;clear ax a9)
          refine⟨⟨k+1,ci,n2++[(gx,Value.slice ga gx.args.length gc)],rfl,by go_num,by omega,Qgx,bq.out.1,bq.out.2,a7⟩,by simp[intOf];omega⟩
       .have k1:¬(k:Int) < (bs.length:Int):=by omega
        have eb:k=bs.length:=by omega
        have a7:Hid (LsI (qs.map (·.1)) (fs.map (·.1)) Nm ((aa++n2).map (·.1))/\(n2=[]->∀j,j < i+1->∀q,qs[j]?=some q->∀b∈qkq q.1 (aa.map (·.1)),qdt q.1.head b∈aa.map (·.1))):=by
         obtain⟨x1,⟨x,hx⟩,x3⟩:=ae.out;refine⟨x1,λhn j hj q' cl b hb=>?_⟩;rw[hn] at hx x3;have df:new=[]:=(List.append_eq_nil_iff.1 hx.symm).1;by_cases e:j=i
         .subst e;rw[dy.out] at cl;cases cl;have h5:=c3.out.1;rw[df,List.append_nil] at h5;rw[<- h5] at hb;obtain⟨p,hp,rfl⟩:=List.mem_map.1 hb;obtain⟨m,hm,e⟩:=List.mem_iff_getElem.1 hp;have:=x3 m (by omega) p (by rw[<- e];exact List.getElem?_eq_getElem hm)
          rwa [List.append_nil] at this
         .exact ac.out.2 df j (by omega) q' cl b hb
        clear ae ac;go_wp2;refine⟨⟨i+1,_,n2,rfl,by go_num,by omega,an,ab,a7⟩,by simp[intOf];omega⟩
     .have i1:¬(i:Int) < (qs.length:Int):=by omega
      have cg:i=qs.length:=by omega
      by_cases bu:new=[]
      .subst bu
       have cm:Hid (LsI (qs.map (·.1)) (fs.map (·.1)) Nm (aa.map (·.1))/\(∀g,g∈aa.map (·.1)↔Dv (qs.map (·.1)) (fs.map (·.1)) g)/\qfd fv N w wr (.slice ha (aa.length+0) hc) aa):=by
        have h1:=ac.out.1;have h2:=ab.out;rw[List.append_nil] at h1 h2;refine⟨h1,λg=>h1.done ag.out dd.out (λr hr b hb=>?_) g,h2⟩;obtain⟨q,hq,rfl⟩:=List.mem_map.1 hr;obtain⟨k,hk,e⟩:=List.mem_iff_getElem.1 hq;exact ac.out.2 rfl k (by omega) q (by rw[<- e];exact List.getElem?_eq_getElem hk) b hb
       clear ac ab cg;simp only[List.length_nil] at *;go_wp2;go_ret;exact⟨_,rfl,aa,cm.out.2.2,⟨cm.out.1,cm.out.2.1⟩⟩
      .have eg:0 < new.length:=List.length_pos_iff.2 bu;have dl:(((aa.length+new.length:Nat):Int) == (aa.length:Int))=false:=by simp;omega
       have ai:Hid (LsI (qs.map (·.1)) (fs.map (·.1)) Nm ((aa++new).map (·.1))/\∀f∈fs.map (·.1),f∈(aa++new).map (·.1)):=⟨ac.out.1,λf hf=>by rw[List.map_append];exact List.mem_append_left _ (dd.out f hf)⟩;clear ac;go_wp2;refine⟨⟨_,aa++new,rfl,by rw[List.length_append];exact an,ab,ai⟩,?_⟩;simp only[Qey];omega
