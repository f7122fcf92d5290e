/- The document's own answer: an atom without variables. -/
import Derived.Test.YtjajnhemgphefaaGreatDoorJMdB
import Derived.Deep.RegionLawGrows
import Derived.Maps.AppendAt
import Derived.BigRegion
set_option linter.unusedVariables false
set_option linter.unusedSimpArgs false
set_option maxRecDepth 100000
set_option maxHeartbeats 8000000
namespace Go.Proofs.YtjajnhemgphefaaGreatDoor
open Go renaming World->Wq,Value->Vq
open Go.RowKit Go.Shelf
variable {N:Nat} {X:Wq} {rel:ByteArray} {va vg:Vq} {acc:List ByteArray}
def qi2(b:List ByteArray)(t:Tm):ByteArray:=if t.name.toList.isEmpty=true then b.getD t.num ⟨#[]⟩ else t.name
def qdo(a:Am)(b:List ByteArray):Gr:=⟨a.rel,a.args.map (qi2 b)⟩
structure qma(N:Nat)(w X:Wq)(rel:ByteArray)(va vg:Vq)(acc:List ByteArray):Prop where
 below:Below N w X
 box:X.heap[N]?=some (Obj.cells #[.string rel,va] 145)
 res:X.heap[N+1]?=some (Obj.cells #[.string ⟨#[]⟩,.slice none 0 0] 226)
 gd:X.heap[N+2]?=some (Obj.cells #[.string rel,vg] 226)
 own:X.ownsRow (N+3) 9 1 vg acc.length (acc.map Value.string)
theorem qma.app{w Y:Wq}{x:ByteArray}{vg':Vq}{o:Obj}(h:qma N w X rel va vg acc)(hw:w.heap.size=N)(hg:(X.alloc o).grownBy Y vg.ownBlock)(ho:Y.ownsRow (N+3) 9 1 vg' (acc.length+1) (acc.map Value.string++[.string x])) :
  qma N w (Y.setCell ⟨N+2,1,none⟩ vg') rel va vg' (acc++[x]):=by
 have hsz:N+3<=X.heap.size:=(zg h.gd).1;have hlo:∀k,vg.ownBlock=some k->N+3<=k:=λk e=>(Qh h.own k e).1;have hk:∀k,k < N+3->Y.heap[k]?=X.heap[k]?:=λk hk=>(hg.block k (by simp;omega) (λe=>by have:=hlo k e.symm;omega)).trans (Below.heap_alloc _ _ _ (by omega));refine⟨((h.below.alloc (by omega) o).grown hg (by simp;omega) (λk e=>by have:=hlo k e;omega)).setCell (by simp) _,(Below.heap_setCell _ _ _ _ (by simp)).trans ((hk N (by omega)).trans h.box),(Below.heap_setCell _ _ _ _ (by simp)).trans ((hk (N+1) (by omega)).trans h.res),Qb ((hk (N+2) (by omega)).trans h.gd) 1 vg',?_⟩;have h2:Y.ownsRow (N+3) 9 1 vg' (acc++[x]).length ((acc++[x]).map Value.string):=by simpa using ho
 exact qm h2 (λg hg' _=>Below.heap_setCell _ _ _ _ (λe=>by have:=(Qh ho g hg').1;simp at e;omega))
theorem qma.fin{w:Wq}(h:qma N w X rel va vg acc)(hw:w.heap.size=N)(a b:Vq) :
  ((X.setCell ⟨N+1,0,none⟩ a).setCell ⟨N+1,1,none⟩ b).ownsRow N 9 1 vg acc.length (acc.map Value.string)/\Below N w ((X.setCell ⟨N+1,0,none⟩ a).setCell ⟨N+1,1,none⟩ b):=by
 have hk:∀g,g≠N+1->((X.setCell ⟨N+1,0,none⟩ a).setCell ⟨N+1,1,none⟩ b).heap[g]?=X.heap[g]?:=λg hg=>(Below.heap_setCell _ _ _ _ hg).trans (Below.heap_setCell _ _ _ _ hg);exact⟨Qm (qm h.own (λg hg _=>hk g (by have:=(Qh h.own g hg).1;omega))) (by omega),(h.below.setCell (by simp) _).setCell (by simp) _⟩
theorem q64(p:Am×Vq)(vb:Vq)(b:List ByteArray)(w:Wq)(hA:qa7 w p)(hb:qu w vb b)(hl:p.1.args.length<=1000)(hn:∀t∈p.1.args,t.name.toList.isEmpty=true->t.num < b.length)(hbl:b.length<=1000000) :
  Calls Tryz.prog 181 #[.agg #[.string p.1.rel,p.2],vb] w λe w'=>∃vg,e=.returned (.agg #[.string p.1.rel,vg])/\w'.ownsRow w.heap.size 9 1 vg (qdo p.1 b).args.length ((qdo p.1 b).args.map Value.string)/\Below w.heap.size w w':=by
 obtain⟨i0,hi,hz0,hz1,hz2⟩:=info_parts Tryz.infoStr;obtain⟨⟨rel,args⟩,va⟩:=p;simp only at hl hn ⊢;obtain⟨a1,a2,hq⟩:=qd hA;simp only at hq;subst hq;obtain⟨b1,b2,rfl⟩:=qd hb;obtain⟨N,hN⟩:∃N,N=w.heap.size:=⟨_,rfl⟩;have hNr:=hN.symm
 have HC:Hid (∀(X:Wq),Below N w X->∀(j:Nat) (hj:j < args.length),∃g,a1=some ⟨g,0,none⟩/\g < N/\X.cell? ⟨g,j*2,none⟩=some (.string args[j].name)/\X.cell? ⟨g,j*2+1,none⟩=some (.int .i64 args[j].num)):=by
  intro X hX j hj;obtain⟨g,cap,e1,hg,c0,c1⟩:=hA.cell j hj;cases e1;have hgN:g < N:=by rw[hN];exact hg
  exact⟨g,rfl,hgN,(Below.cell hX hgN).trans c0,(Below.cell hX hgN).trans c1⟩
 have HBC:Hid (∀(X:Wq),Below N w X->∀(j:Nat) (hj:j < b.length),∃g,b1=some ⟨g,0,none⟩/\g < N/\X.cell? ⟨g,j,none⟩=some (.string b[j])):=by
  intro X hX j hj;obtain⟨g,cap,e1,hg,c0⟩:=hb.cell j hj;cases e1;have hgN:g < N:=by rw[hN];exact hg
  exact⟨g,rfl,hgN,(Below.cell hX hgN).trans c0⟩
 have HT:Hid ((qdo ⟨rel,args⟩ b).args=args.map (qi2 b)):=rfl;generalize (qdo ⟨rel,args⟩ b).args=T at *;rw[<- hN];clear hA hb hN;go_enter Tryz.func181,Tryz.ntmps181;go_wp2
 go_loopw [6] (λx wr=>∃(k:Nat) (vg:Vq) (acc:List ByteArray),x=.int .i64 k/\k<=args.length/\qma N w wr rel (.slice a1 args.length a2) vg acc/\acc.length<=k/\Hid (acc++(args.drop k).map (qi2 b)=T)) (λx _=>args.length - (intOf x).toNat)
 case atStart=>
  refine⟨0,_,[],rfl,Nat.zero_le _,⟨(((Below.refl _ w).alloc (by omega) _).alloc (by simp;omega) _).alloc (by simp;omega) _,?_,?_,?_,World.ownsRow_nil _ _ _ _⟩,Nat.le_refl _,HT.out.symm⟩
  ·rw[Below.heap_alloc _ _ _ (by simp;omega),Below.heap_alloc _ _ _ (by simp;omega),<- hNr];exact World.alloc_heap_new w _
  ·rw[Below.heap_alloc _ _ _ (by simp;omega)];have:=World.alloc_heap_new (w.alloc (.cells #[.string rel,.slice a1 args.length a2] 145)) (.cells #[.string ⟨#[]⟩,.slice none 0 0] 226);rw[World.size_alloc,hNr] at this;exact this
  ·have:=World.alloc_heap_new ((w.alloc (.cells #[.string rel,.slice a1 args.length a2] 145)).alloc (.cells #[.string ⟨#[]⟩,.slice none 0 0] 226)) (.cells #[.string rel,.slice none 0 0] 226);rw[World.size_alloc,World.size_alloc,hNr] at this;exact this
 case round=>
  obtain⟨k,vg,acc,rfl,hle,hP,hak,hsp⟩:=hrel;have b0:wr.cell? ⟨N,0,none⟩=some (.string rel):=by simp[World.cell?,hP.box]
  have b1':wr.cell? ⟨N,1,none⟩=some (.slice a1 args.length a2):=by simp[World.cell?,hP.box]
  have g0:wr.cell? ⟨N+2,0,none⟩=some (.string rel):=by simp[World.cell?,hP.gd]
  have g1:wr.cell? ⟨N+2,1,none⟩=some vg:=by simp[World.cell?,hP.gd]
  by_cases hlt:k < args.length
  ·obtain⟨g,rfl,hgN,c0,c1⟩:=HC.out wr hP.below k hlt;have hnk:=hn args[k] (List.getElem_mem hlt);rw[List.drop_eq_getElem_cons hlt,List.map_cons] at hsp;generalize args[k]=tm at *;obtain⟨nm,nu⟩:=tm;simp only at c0 c1 hnk;obtain⟨y,hy⟩:∃y,qi2 b ⟨nm,nu⟩=y:=⟨_,rfl⟩;rw[hy] at hsp;have Qf3:N+3<=wr.heap.size:=(zg hP.gd).1;have hc3:acc.length+1<=maxLen:=by unfold maxLen;omega
   have hc4:(acc.length+1)*16<=140737488355328:=by omega
   have hc5:Hid (∀O,N+3<=(wr.alloc O).heap.size):=λO=>by simp;omega
   have h1c:∀u∈[Value.string y],u.oneCell'=true:=by simp[Value.oneCell']
   have HP:Hid (qma N w wr rel (.slice (some ⟨g,0,none⟩) args.length a2) vg acc):=hP
   have hF:Hid (∀(O:Obj) (w1:Wq),(wr.alloc O).grownBy w1 vg.ownBlock->w1.cell? ⟨N+2,1,none⟩=some vg/\∀o,w1.frozen? ⟨N+2,o,none⟩=false):=by
    intro O w1 hg;have h1:w1.heap[N+2]?=some (Obj.cells #[.string rel,vg] 226):=(hg.block (N+2) (by simp;omega) (λe=>by have:=(Qh HP.out.own _ e.symm).1;omega)).trans ((Below.heap_alloc _ _ _ (by omega)).trans HP.out.gd);exact⟨by simp[World.cell?,h1],λo=>by simp[World.frozen?,h1]⟩
   have qmr:Hid ((acc++[y])++(args.drop (k+1)).map (qi2 b)=T):=by
    show _=_;rw[<- hsp.out];simp
   by_cases h1:nm.toList.isEmpty=true
   ·have hnu:=hnk h1;obtain⟨g2,e2,Qb8,d0⟩:=HBC.out wr hP.below nu hnu
    have hyb:y=b[nu]:=by
     rw[<- hy];unfold qi2;rw[if_pos h1];simp[List.getD,List.getElem?_eq_getElem hnu]
    rw[<- hyb] at d0;subst e2;clear hP hsp hy hyb
    go_wp2_with (at_builtin;refine wpList_append_own _ rfl (.tmp 36) (.tmp 38) 22 rfl (N+3) 9 i0 (.string ⟨#[]⟩) 1 16 Tryz.underlying22 hi hz0 hz1 hz2 rfl (by decide) _ _ _ rfl (HP.out.own.alloc _) ⟨wr.heap.size,0,none⟩ 1 1 [.string y] rfl rfl (qgd _ _ _) h1c hc3 hc4 (hc5.out _) ?_;intro vg' w1 hown1 hgrow1 _;obtain⟨f1,f2⟩:=hF.out _ w1 hgrow1;have HA:Hid (qma N w (w1.setCell ⟨N+2,1,none⟩ vg') rel (.slice (some ⟨g,0,none⟩) args.length a2) vg' (acc++[y])):=HP.out.app hNr hgrow1 hown1;obtain⟨gg,gc,hgv⟩:=ownsRow_succ hown1;subst hgv)
    go_roundw
    case rel=>exact⟨k+1,_,acc++[y],by go_num,by omega,HA.out,by simp;omega,qmr⟩
    case measure=>simp[intOf];omega
   ·have h1':nm.toList.isEmpty=false:=by simpa using h1
    have hyb:y=nm:=by rw[<- hy];unfold qi2;rw[if_neg h1]
    subst hyb;clear hP hsp hy h1
    go_wp2_with (at_builtin;refine wpList_append_own _ rfl (.tmp 36) (.tmp 38) 22 rfl (N+3) 9 i0 (.string ⟨#[]⟩) 1 16 Tryz.underlying22 hi hz0 hz1 hz2 rfl (by decide) _ _ _ rfl (HP.out.own.alloc _) ⟨wr.heap.size,0,none⟩ 1 1 [.string y] rfl rfl (qgd _ _ _) h1c hc3 hc4 (hc5.out _) ?_;intro vg' w1 hown1 hgrow1 _;obtain⟨f1,f2⟩:=hF.out _ w1 hgrow1;have HA:Hid (qma N w (w1.setCell ⟨N+2,1,none⟩ vg') rel (.slice (some ⟨g,0,none⟩) args.length a2) vg' (acc++[y])):=HP.out.app hNr hgrow1 hown1;obtain⟨gg,gc,hgv⟩:=ownsRow_succ hown1;subst hgv)
    go_roundw
    case rel=>exact⟨k+1,_,acc++[y],by go_num,by omega,HA.out,by simp;omega,qmr⟩
    case measure=>simp[intOf];omega
  ·rw[List.drop_eq_nil_of_le (by omega)] at hsp;simp only[List.map_nil,List.append_nil] at hsp;have hf:=hP.fin hNr (.string rel) vg;have qbr:=hP.res;obtain⟨vga,vgc,rfl⟩:=qd hP.own;have r0:wr.cell? ⟨N+1,0,none⟩=some (.string ⟨#[]⟩):=by simp[World.cell?,qbr]
   have r1:wr.cell? ⟨N+1,1,none⟩=some (.slice none 0 0):=by simp[World.cell?,qbr]
   have rf:∀o,wr.frozen? ⟨N+1,o,none⟩=false:=λo=>by simp[World.frozen?,qbr]
   have c00:(wr.setCell ⟨N+1,0,none⟩ (.string rel)).cell? ⟨N+1,0,none⟩=some (.string rel):=by simp[World.cell?,Qb qbr 0 (.string rel)]
   have c11:((wr.setCell ⟨N+1,0,none⟩ (.string rel)).setCell ⟨N+1,1,none⟩ (.slice vga acc.length vgc)).cell? ⟨N+1,1,none⟩=some (.slice vga acc.length vgc):=by simp[World.cell?,Qb (Qb qbr 0 (.string rel)) 1 (.slice vga acc.length vgc)]
   have HF:Hid _:=hf;have q11:Hid _:=c00;have q12:Hid _:=c11;clear hP hf c00 c11;go_wp2;have c00:=q11.out;have c11:=q12.out;refine bodyPost_ret (v:=.agg #[.string rel,.slice vga acc.length vgc]) (by simp[results,Tryz.results181,go_sem,c00,c11]) rfl ?_;rw[<- hsp.out];exact⟨_,rfl,HF.out⟩
theorem qtn{P:Program}{ops:Array Oper}{o:Oper}{a:Act}{w:Wq}{K:Act->Wq->Prop}{Q:Exit->Act->Wq->Prop}{E:Prop}(hg:o.guard=none)(s x:Operand)(t:TypeId)(hop:o.op=Op.call {callee:=Callee.builtin Builtin.append,args:=#[s,x],argTypes:=#[t,t]})(base:Nat)(e:TypeId)(i:TypeInfo)(z:Vq)(size bytes:Nat)(h1:P.underlying t=some (.slice e))(h2:P.info? e=some i)(h3:i.zero=some z)(h4:i.size=size)(h5:i.bytes=bytes)(h6:z.cells.size=size)(h7:0 < size)(v:Vq)(n:Nat)(xs:List Vq)(hs:a.eval s=v)(qr:w.ownsRow base e size v n xs)(ad:Addr)(m c:Nat)(news:List Vq)(hx:a.eval x=.slice (some ad) m c)(hn:news.length=m*size)(hc:∀j u,news[j]?=some u->w.cell? (ad.add j)=some u)(h1c:∀u∈news,u.oneCell'=true)(b1:n+m<=maxLen)(b2:(n+m)*bytes<=140737488355328)(qg6:base<=w.heap.size)(hK:∀v' w',w'.ownsRow base e size v' (n+m) (xs++news)->w.grownBy w' v.ownBlock->K (a.put o.dst v') w') :
  if Region.wanted o (yielded ops a.tmps)=true then Oper.wp P o a w K Q else E:=by
 have hw:Region.wanted o (yielded ops a.tmps)=true:=by simp[Region.wanted,hg]
 rw[if_pos hw];obtain⟨v',w',qiv,r1,r2,_⟩:=run_append_own (P:=P) w base t o.type e i z size bytes h1 h2 h3 h4 h5 h6 h7 v n xs qr ad m c news hn hc h1c b1 b2 qg6;unfold Oper.wp;simp[execOp,hop,resolve,invoke,builtin,hs,hx,qiv,Result.andThen];exact hK v' w' r1 r2
def qfw(t:Tm):Bool:=t.name.toList.isEmpty
def qdd(a:Am):Option Gr:=if a.args.any qfw=true then none else some ⟨a.rel,a.args.map (·.name)⟩
def qeo(a:Am)(N:Nat)(e:Ending)(w':Wq):Prop:=
 match qdd a with
 | none=>e=.returned (.tuple #[.agg #[.string ⟨#[]⟩,.slice none 0 0],.bool false])
 | some g=>∃vg,e=.returned (.tuple #[.agg #[.string g.rel,vg],.bool true])/\w'.ownsRow N 9 1 vg g.args.length (g.args.map Value.string)
theorem qri(p:Am×Vq)(w:Wq)(hA:qa7 w p)(hl:p.1.args.length<=1000) :
  Calls Tryz.prog 115 #[.agg #[.string p.1.rel,p.2]] w λe w'=>qeo p.1 w.heap.size e w'/\Below w.heap.size w w':=by
 obtain⟨i0,hi,hz0,hz1,hz2⟩:=info_parts Tryz.infoStr;obtain⟨⟨rel,args⟩,va⟩:=p;simp only at hl ⊢;obtain⟨a1,a2,hq⟩:=qd hA;simp only at hq;subst hq;obtain⟨N,hN⟩:∃N,N=w.heap.size:=⟨_,rfl⟩;have hNr:=hN.symm
 have HC:Hid (∀(X:Wq),Below N w X->∀(j:Nat) (hj:j < args.length),∃g,a1=some ⟨g,0,none⟩/\g < N/\X.cell? ⟨g,j*2,none⟩=some (.string args[j].name)):=by
  intro X hX j hj;obtain⟨g,cap,e1,hg,c0,c1⟩:=hA.cell j hj;cases e1;have hgN:g < N:=by rw[hN];exact hg
  exact⟨g,rfl,hgN,(Below.cell hX hgN).trans c0⟩
 have HF0:Hid (args.any qfw=true->∀(e:Ending) (w':Wq),e=.returned (.tuple #[.agg #[.string ⟨#[]⟩,.slice none 0 0],.bool false])->qeo ⟨rel,args⟩ N e w'):=by
  intro h e w' he;unfold qeo qdd;rw[if_pos h];exact he
 have HF1:Hid (args.any qfw=false->∀(e:Ending) (w':Wq),(∃vg,e=.returned (.tuple #[.agg #[.string rel,vg],.bool true])/\w'.ownsRow N 9 1 vg (args.map (·.name)).length ((args.map (·.name)).map Value.string))->qeo ⟨rel,args⟩ N e w'):=by
  intro h e w' he;unfold qeo qdd;rw[if_neg (by rw[h];simp)];exact he
 rw[<- hN];clear hA hN;go_enter Tryz.func115,Tryz.ntmps115;go_wp2
 go_loopw [5] (λx wr=>∃(k:Nat) (vg:Vq) (acc:List ByteArray),x=.int .i64 k/\k<=args.length/\qma N w wr rel (.slice a1 args.length a2) vg acc/\acc.length<=k/\Hid ((args.drop k).any qfw=args.any qfw)/\Hid (acc++(args.drop k).map (·.name)=args.map (·.name))) (λx _=>args.length - (intOf x).toNat)
 case atStart=>
  refine⟨0,_,[],rfl,Nat.zero_le _,⟨(((Below.refl _ w).alloc (by omega) _).alloc (by simp;omega) _).alloc (by simp;omega) _,?_,?_,?_,World.ownsRow_nil _ _ _ _⟩,Nat.le_refl _,rfl,rfl⟩
  ·rw[Below.heap_alloc _ _ _ (by simp;omega),Below.heap_alloc _ _ _ (by simp;omega),<- hNr];exact World.alloc_heap_new w _
  ·rw[Below.heap_alloc _ _ _ (by simp;omega)];have:=World.alloc_heap_new (w.alloc (.cells #[.string rel,.slice a1 args.length a2] 145)) (.cells #[.string ⟨#[]⟩,.slice none 0 0] 226);rw[World.size_alloc,hNr] at this;exact this
  ·have:=World.alloc_heap_new ((w.alloc (.cells #[.string rel,.slice a1 args.length a2] 145)).alloc (.cells #[.string ⟨#[]⟩,.slice none 0 0] 226)) (.cells #[.string rel,.slice none 0 0] 226);rw[World.size_alloc,World.size_alloc,hNr] at this;exact this
 case round=>
  obtain⟨k,vg,acc,rfl,hle,hP,hak,qio,hsp⟩:=hrel;have b1':wr.cell? ⟨N,1,none⟩=some (.slice a1 args.length a2):=by simp[World.cell?,hP.box]
  have g0:wr.cell? ⟨N+2,0,none⟩=some (.string rel):=by simp[World.cell?,hP.gd]
  have g1:wr.cell? ⟨N+2,1,none⟩=some vg:=by simp[World.cell?,hP.gd]
  have qbr:=hP.res;have r0:wr.cell? ⟨N+1,0,none⟩=some (.string ⟨#[]⟩):=by simp[World.cell?,qbr]
  have r1:wr.cell? ⟨N+1,1,none⟩=some (.slice none 0 0):=by simp[World.cell?,qbr]
  have rf:∀o,wr.frozen? ⟨N+1,o,none⟩=false:=λo=>by simp[World.frozen?,qbr]
  by_cases hlt:k < args.length
  ·obtain⟨g,rfl,hgN,c0⟩:=HC.out wr hP.below k hlt;rw[List.drop_eq_getElem_cons hlt] at hsp qio;simp only[List.map_cons,List.any_cons] at hsp qio;generalize args[k]=tm at *;obtain⟨nm,nu⟩:=tm;simp only[qfw] at c0 hsp qio;have Qf3:N+3<=wr.heap.size:=(zg hP.gd).1;by_cases h1:nm.toList.isEmpty=true
   ·rw[h1] at qio;have hA1:args.any qfw=true:=by rw[<- qio.out];simp
    have q9:Hid (∀(e:Ending) (w':Wq),e=.returned (.tuple #[.agg #[.string ⟨#[]⟩,.slice none 0 0],.bool false])->qeo ⟨rel,args⟩ N e w'):=HF0.out hA1;have hf:=hP.fin hNr (.string ⟨#[]⟩) (.slice none 0 0);have c00:(wr.setCell ⟨N+1,0,none⟩ (.string ⟨#[]⟩)).cell? ⟨N+1,0,none⟩=some (.string ⟨#[]⟩):=by simp[World.cell?,Qb qbr 0 (.string ⟨#[]⟩)]
    have c11:((wr.setCell ⟨N+1,0,none⟩ (.string ⟨#[]⟩)).setCell ⟨N+1,1,none⟩ (.slice none 0 0)).cell? ⟨N+1,1,none⟩=some (.slice none 0 0):=by simp[World.cell?,Qb (Qb qbr 0 (.string ⟨#[]⟩)) 1 (.slice none 0 0)]
    have HFF:Hid _:=hf;have q11:Hid _:=c00;have q12:Hid _:=c11;clear hP hsp qio hA1 hf c00 c11 qbr;go_wp2;have c00:=q11.out;have c11:=q12.out;refine bodyPost_ret (v:=.tuple #[.agg #[.string ⟨#[]⟩,.slice none 0 0],.bool false]) (by simp[results,Tryz.results115,go_sem,c00,c11]) rfl ?_;exact⟨q9.out _ _ rfl,HFF.out.2⟩
   ·have h1':nm.toList.isEmpty=false:=by simpa using h1
    rw[h1'] at qio;simp only[Bool.false_or] at qio;have g1A:∀O,(wr.alloc O).cell? ⟨N+1+1,1,none⟩=some vg:=λO=>(Below.cell ((Below.refl wr.heap.size wr).alloc zl O) (by show N+2 < wr.heap.size;omega)).trans g1;have hc3:acc.length+1<=maxLen:=by unfold maxLen;omega
    have hc4:(acc.length+1)*16<=140737488355328:=by omega
    have h1c:∀u∈[Value.string nm],u.oneCell'=true:=by simp[Value.oneCell']
    have HP:Hid (qma N w wr rel (.slice (some ⟨g,0,none⟩) args.length a2) vg acc):=hP;have hA:Hid ((wr.alloc (.cells #[.string nm] 9)).ownsRow (N+3) 9 1 vg acc.length (acc.map Value.string)):=hP.own.alloc _;have hNw:Hid (∀j u,[Value.string nm][j]?=some u->(wr.alloc (.cells #[.string nm] 9)).cell? ((⟨wr.heap.size,0,none⟩:Addr).add j)=some u):=qgd wr _ _
    have hc5:Hid (N+3<=(wr.alloc (.cells #[.string nm] 9)).drew.heap.size):=by
     show N+3<=(wr.alloc _).heap.size;simp;omega
    have hF:Hid (∀(w1:Wq),(wr.alloc (.cells #[.string nm] 9)).drew.grownBy w1 vg.ownBlock->w1.cell? ⟨N+2,1,none⟩=some vg/\∀o,w1.frozen? ⟨N+2,o,none⟩=false):=by
     intro w1 hg;have h1:w1.heap[N+2]?=some (Obj.cells #[.string rel,vg] 226):=(hg.block (N+2) (by show N+2 < (wr.alloc _).heap.size;simp;omega) (λe=>by have:=(Qh HP.out.own _ e.symm).1;omega)).trans ((Below.heap_alloc _ _ _ (by omega)).trans HP.out.gd);exact⟨by simp[World.cell?,h1],λo=>by simp[World.frozen?,h1]⟩
    have hAp:Hid (∀(w1:Wq) (vg':Vq),(wr.alloc (.cells #[.string nm] 9)).drew.grownBy w1 vg.ownBlock->w1.ownsRow (N+3) 9 1 vg' (acc.length+1) (acc.map Value.string++[.string nm])->qma N w (w1.setCell ⟨N+2,1,none⟩ vg') rel (.slice (some ⟨g,0,none⟩) args.length a2) vg' (acc++[nm])):=by
     intro w1 vg' hg ho;exact HP.out.app hNr (o:=.cells #[.string nm] 9) ⟨hg.os,hg.tape,hg.output,hg.size,hg.block⟩ ho
    have qmr:Hid ((acc++[nm])++(args.drop (k+1)).map (·.name)=args.map (·.name)):=by
     show _=_;rw[<- hsp.out];simp
    clear hP hsp h1 qbr;go_wp2
    go_region_law (refine qtn rfl (.tmp 25) (.tmp 32) 22 rfl (N+3) 9 i0 (.string ⟨#[]⟩) 1 16 Tryz.underlying22 hi hz0 hz1 hz2 rfl (by decide) vg acc.length (acc.map Value.string) (by simp[Act.eval,Act.put]) hA.out ⟨wr.heap.size,0,none⟩ 1 1 [.string nm] (by simp[Act.eval,Act.put]) rfl hNw.out h1c hc3 hc4 hc5.out ?_;intro vg' w1 hown1 hgrow1;obtain⟨f1,f2⟩:=hF.out w1 hgrow1;have HA:Hid (qma N w (w1.setCell ⟨N+2,1,none⟩ vg') rel (.slice (some ⟨g,0,none⟩) args.length a2) vg' (acc++[nm])):=hAp.out w1 vg' hgrow1 hown1;obtain⟨gg,gc,hgv⟩:=ownsRow_succ hown1;subst hgv)
    all_goals
     go_wp2
     go_roundw
     case rel=>exact⟨k+1,_,acc++[nm],by go_num,by omega,HA.out,by simp;omega,qio,qmr⟩
     case measure=>simp[intOf];omega
  ·rw[List.drop_eq_nil_of_le (by omega)] at hsp qio;simp only[List.map_nil,List.append_nil,List.any_nil] at hsp qio;have q9:=HF1.out qio.out.symm;have hf:=hP.fin hNr (.string rel) vg;obtain⟨vga,vgc,rfl⟩:=qd hP.own;have c00:(wr.setCell ⟨N+1,0,none⟩ (.string rel)).cell? ⟨N+1,0,none⟩=some (.string rel):=by simp[World.cell?,Qb qbr 0 (.string rel)]
   have c11:((wr.setCell ⟨N+1,0,none⟩ (.string rel)).setCell ⟨N+1,1,none⟩ (.slice vga acc.length vgc)).cell? ⟨N+1,1,none⟩=some (.slice vga acc.length vgc):=by simp[World.cell?,Qb (Qb qbr 0 (.string rel)) 1 (.slice vga acc.length vgc)]
   have HFF:Hid _:=hf;have HFN:Hid _:=q9;have q11:Hid _:=c00;have q12:Hid _:=c11;clear hP hf c00 c11 qbr q9 qio;go_wp2;have c00:=q11.out;have c11:=q12.out;refine bodyPost_ret (v:=.tuple #[.agg #[.string rel,.slice vga acc.length vgc],.bool true]) (by simp[results,Tryz.results115,go_sem,c00,c11]) rfl ?_;refine⟨HFN.out _ _ ⟨_,rfl,?_⟩,HFF.out.2⟩;rw[<- hsp.out];exact HFF.out.1
