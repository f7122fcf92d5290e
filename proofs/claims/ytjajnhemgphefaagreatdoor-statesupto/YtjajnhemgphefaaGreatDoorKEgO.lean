/- A part -/
import Derived.Test.YtjajnhemgphefaaGreatDoorKWyG
import Derived.Lib.ItoaNum
set_option linter.all false
set_option maxRecDepth 100000
set_option maxHeartbeats 4000000
namespace Go.Proofs.YtjajnhemgphefaaGreatDoor
open Go renaming World->Wq,Value->Vq
open Go.RowKit Go.Shelf Go.Maps
variable {rs:List Rl} {r:Rl}
theorem qul{l:List Am}{x:List UInt8}{n:Nat}(h:qcw l x=some n):∃a∈l,a.rel.data.toList=x/\a.args.length=n:=by
 unfold qcw at h
 cases hf:l.find? (λa=>a.rel.data.toList == x) with
 | none=>rw[hf] at h;cases h
 | some a=>
  rw[hf] at h;simp only[Option.map_some,Option.some.injEq] at h;exact⟨a,List.mem_of_find?_eq_some hf,by simpa using List.find?_some hf,h⟩
theorem qjo(h:qim rs)(x:ByteArray):arR rs x=1\/arR rs x=2\/arR rs x=0:=by
 unfold arR
 cases ha:qcw (rs.flatMap qx) x.data.toList with
 | none=>exact .inr (.inr rfl)
 | some n=>
  obtain⟨a,h1,_,h3⟩:=qul ha;rcases (h.arity a h1).2 with e | e
  .left;show n=1;omega
  .right;left;show n=2;omega
theorem qf0(hr:r∈rs):r.head∈rs.flatMap qx:=List.mem_flatMap.2 ⟨r,hr,by simp[qx]⟩
theorem qo8(hr:r∈rs){a:Am}(ha:a∈r.body):a∈rs.flatMap qx:=List.mem_flatMap.2 ⟨r,hr,by simp[qx,ha]⟩
theorem qnh(h:qim rs):∀r∈rs,qw3 (arR rs) r/\r.head.args≠[]:=λr hr=>
 ⟨⟨⟨(h.arity _ (qf0 hr)).1,h.nums _ (qf0 hr)⟩,λa ha=>⟨(h.arity _ (qo8 hr ha)).1,h.nums _ (qo8 hr ha)⟩,h.safe r hr⟩,λe=>by
  have:=(h.arity _ (qf0 hr)).2
  rw[e] at this;simp at this⟩
theorem big{n:Nat}(h:n<=1200):n<=maxLen:=Nat.le_trans h (by unfold maxLen;decide)
theorem Qce(h:qim rs):∀r∈rs,q26 r:=λr hr=>
 have hk:=h.rok r hr
 ⟨⟨λa ha=>(hk.ams a ha).args,λa ha=>h.nums _ (qo8 hr ha),λa ha=>big (hk.ams a ha).rel⟩,hk.body,hk.head.args,h.nums _ (qf0 hr),big hk.head.rel,λt ht=>big (hk.head.tms t ht).name⟩
theorem qng(h:qim rs):∀x∈qcz rs,x.size<=1200:=by
 intro x hx;obtain⟨a,ha,rfl⟩:=List.mem_map.1 hx;obtain⟨r,hr,har⟩:=List.mem_flatMap.1 ha;have hk:=h.rok r hr;simp only[qx,List.mem_cons] at har;rcases har with rfl | har
 .exact hk.head.rel
 .exact (hk.ams a har).rel
theorem q68(h:qim rs):(rs.flatMap qx).length<=32:=by
 have h1:∀l:List Rl,(∀r∈l,qch r)->(l.flatMap qx).length<=l.length*4:=by
  intro l
  induction l with
  | nil=>intro _;simp
  | cons r l ih=>
   intro hk;have:=(hk r (by simp)).body;have:=ih (λq hq=>hk q (by simp[hq]));rw[List.flatMap_cons,List.length_append,List.length_cons];simp only[qx,List.length_cons];omega
 have:=h1 rs h.rok;have:=h.r8;omega
theorem q2m(h:qim rs){ns:List ByteArray}(h8:ns.length<=8):(uni (qcz rs) ns).length<=2400:=by
 rw[q8y];have h1:(qcz rs).length<=32:=by unfold qcz;rw[List.length_map];exact q68 h
 have h2:ns.length*(ns.length+1)<=8*9:=Nat.mul_le_mul h8 (by omega);have:=Nat.mul_le_mul h1 h2;omega
theorem q6n(h:qim rs){ns:List ByteArray}(hn:∀x∈ns,x.size<=1200){g:Gd}(hg:g∈uni (qcz rs) ns):g.rel.size<=1200/\g.x.size<=1200/\g.y.size<=1200:=by
 obtain⟨h1,h2,h3⟩:=qes.1 hg;refine⟨qng h _ h1,hn _ h2,?_⟩;rcases h3 with h3 | h3
 .rw[h3];decide
 .exact hn _ h3
def q6y(rs:List Rl)(ns:List ByteArray)(F:List (Gd×Int)):Prop:=F.length<=1000/\∀x∈F,x.1∈uni (qcz rs) ns/\qc6 (arR rs) x.1/\0<=x.2/\x.2<=2000000
theorem qpj(h:qim rs){ns:List ByteArray}(hnr:∀r∈rs,∀t∈r.head.args,t.name≠eB->t.name∈ns):∀x∈Qo rs,x.1∈uni (qcz rs) ns/\qc6 (arR rs) x.1:=by
 intro x hx;unfold Qo at hx;obtain⟨r,hr,hx⟩:=List.mem_filterMap.1 hx;split at hx
 .rename_i hb;cases hx;have hro:=qnh h r hr;have hao:=qto (qjo h) hro.1 hro.2 (p:=Qm) (by rw[hb];simp)
  have hnm:∀t∈r.head.args,ofT Qm t∈ns:=by
   intro t ht;by_cases he:t.name=eB
   .obtain⟨a,ha,_⟩:=h.safe r hr t ht he;rw[hb] at ha;simp at ha
   .rw[qcp he];exact hnr r hr t ht he
  refine⟨qes.2 ⟨List.mem_map.2 ⟨r.head,qf0 hr,rfl⟩,?_,?_⟩,hao⟩
  .show xOf Qm r.head.args∈ns
   match ha:r.head.args,hro.2 with
   | t::l,_=>exact hnm t (by rw[ha];simp)
  .show yOf Qm r.head.args=eB\/yOf Qm r.head.args∈ns
   match ha:r.head.args,hro.2 with
   | [t],_=>exact .inl rfl
   | t::u::l,_=>exact .inr (hnm u (by rw[ha];simp))
 .cases hx
theorem q9v(h:qim rs){ns:List ByteArray}(h8:ns.length<=8)(hn:∀x∈ns,x.size<=1200)(hnr:∀r∈rs,∀t∈r.head.args,t.name≠eB->t.name∈ns){F:List (Gd×Int)}(hF:q6y rs ns F):Qcs (arR rs) rs F (uni (qcz rs) ns):=by
 have qon:∀x∈F++Qo rs,x.1∈uni (qcz rs) ns/\qc6 (arR rs) x.1:=by
  intro x hx;rcases List.mem_append.1 hx with hx | hx
  .exact⟨(hF.2 x hx).1,(hF.2 x hx).2.1⟩
  .exact qpj h hnr x hx
 have hok:=Qcd (rels:=qcz rs) (NS:=ns) (λx hx=>big (qng h x hx)) (λx hx=>big (hn x hx));exact⟨qjo h,qnh h,Qce h,h.r8,λx hx=>⟨(qon x hx).2,hok _ (qon x hx).1⟩,λx hx=>(qon x hx).1,λx hx=>(hF.2 x hx).2.2,qq2 (qnh h) (λr hr=>List.mem_map.2 ⟨r.head,qf0 hr,rfl⟩) hnr,hok,q2m h h8,hF.1⟩
theorem qp2(h:qim rs){ns:List ByteArray}(hnr:∀r∈rs,∀t∈r.head.args,t.name≠eB->t.name∈ns){F:List (Gd×Int)}(hF:q6y rs ns F){M:Gd->Option Int}(hM:qcv rs (F++Qo rs) M):∀g,(M g).isSome=true->qc6 (arR rs) g/\g∈uni (qcz rs) ns:=by
 intro g hg;obtain⟨t,ht⟩:=Option.isSome_iff_exists.1 hg;refine hM.sound g t ht (t - 1) (by omega) (λg=>qc6 (arR rs) g/\g∈uni (qcz rs) ns) (λx hx _=>?_) (λr hr h0 p hb=>?_)
 .rcases List.mem_append.1 hx with hx | hx
  .exact⟨(hF.2 x hx).2.1,(hF.2 x hx).1⟩
  .exact⟨(qpj h hnr x hx).2,(qpj h hnr x hx).1⟩
 .exact⟨qto (qjo h) (qnh h r hr).1 (qnh h r hr).2 (λa ha=>(hb a ha).1),qq2 (qnh h) (λr hr=>List.mem_map.2 ⟨r.head,qf0 hr,rfl⟩) hnr r hr h0 p (λa ha=>⟨(hb a ha).2,(hb a ha).1⟩)⟩
theorem qwo{rels ns ns':List ByteArray}(h:∀x∈ns,x∈ns'){g:Gd}(hg:g∈uni rels ns):g∈uni rels ns':=by
 obtain⟨h1,h2,h3⟩:=qes.1 hg;exact qes.2 ⟨h1,h _ h2,h3.imp id (h _)⟩
end Go.Proofs.YtjajnhemgphefaaGreatDoor
namespace Go.Proofs.YtjajnhemgphefaaGreatDoor
open Go renaming World->Wq,Value->Vq
open Go.RowKit Go.Shelf
def q8r(t:Tm):List UInt8:=if t.name.toList.isEmpty=true then 88::Lib.decDigits t.num else t.name.data.toList
def qy8:Nat->List Tm->List UInt8
 | _,[]=>[]
 | i,t::l=>(if i=0 then [] else [44])++q8r t++qy8 (i+1) l
def qy9(a:Am):List UInt8:=a.rel.data.toList++40::qy8 0 a.args++[41]
def qza:Nat->List Am->List UInt8
 | _,[]=>[]
 | i,a::l=>(if i=0 then [32,58,45,32] else [44,32])++qy9 a++qza (i+1) l
def q8p(r:Rl):List UInt8:=qy9 r.head++qza 0 r.body++[46,10]
def qqo(rs:List Rl):List UInt8:=rs.flatMap q8p
theorem q0q(v:Vq)(rs:List Rl)(base b45 b87:Nat)(w:Wq)(hR:Qb w base b45 b87 v rs)(Qv:∀g,v.ownBlock=some g->g < w.heap.size)(h8:rs.length<=8)(hok:∀r∈rs,qch r) :
  Calls Tryz.prog 61 #[v] w λe w'=>e=.returned (.tuple #[.int .i64 (qdk rs).1,.int .i64 (qdk rs).2])/\Below w.heap.size w w':=by
 have h1:=qre v rs base b45 b87 w hR Qv h8 hok
 have h2:∀W,Below w.heap.size w W->Calls Tryz.prog 101 #[v,.func (.func 102) #[] #[]] W λe w'=>e=.returned (.int .i64 (qci rs))/\Below w.heap.size w w':=λW hb=>
  (qtu v rs base b45 b87 W (hR.rk (qf.ofBelow hb)) (λg hg=>Nat.lt_of_lt_of_le (Qv g hg) hb.size) h8 hok).mono (λe w' h=>⟨h.1,hb.trans (h.2.mono hb.size)⟩)
 have h3:∀W,Below w.heap.size w W->Calls Tryz.prog 103 #[v] W λe w'=>e=.returned (.int .i64 (qa2 [] 0 rs))/\Below w.heap.size w w':=λW hb=>
  (qlr v rs base b45 b87 W (hR.rk (qf.ofBelow hb)) (λg hg=>Nat.lt_of_lt_of_le (Qv g hg) hb.size) h8 hok).mono (λe w' h=>⟨h.1,hb.trans (h.2.mono hb.size)⟩)
 obtain⟨a,c,rfl⟩:=hR.form;have hcs:Hid (qdk rs=if 0<=qah [] 0 rs then (4,qah [] 0 rs) else if 0<=qci rs then (5,qci rs) else if 0<=qa2 [] 0 rs then (3,qa2 [] 0 rs) else (0,0)):=rfl;have H1:Hid _:=h1;have H2:Hid _:=h2;have H3:Hid _:=h3;clear h1 h2 h3 hR Qv hok;generalize qah [] 0 rs=ar at *;generalize qci rs=fu at *;generalize qa2 [] 0 rs=mn at *;generalize qdk rs=cs at *;by_cases ha:0<=ar
 .have q7:Hid (cs=(4,ar)):=by show _=_;rw[hcs.out,if_pos ha]
  go_enter Tryz.func61,Tryz.ntmps61;go_wp2_with fail;refine Calls.mono H1.out ?_;rintro e w1 ⟨rfl,hb1⟩;go_wp2;go_ret2;rw[q7.out];exact⟨rfl,hb1⟩
 have ha':¬(0<=ar):=ha;by_cases hu:0<=fu
 .have q7:Hid (cs=(5,fu)):=by show _=_;rw[hcs.out,if_neg ha,if_pos hu]
  go_enter Tryz.func61,Tryz.ntmps61;go_wp2_with fail;refine Calls.mono H1.out ?_;rintro e w1 ⟨rfl,hb1⟩;go_wp2_with fail;refine Calls.mono (H2.out w1 hb1) ?_;rintro e w2 ⟨rfl,hb2⟩;go_wp2;go_ret2;rw[q7.out];exact⟨rfl,hb2⟩
 by_cases hm:0<=mn
 .have q7:Hid (cs=(3,mn)):=by show _=_;rw[hcs.out,if_neg ha,if_neg hu,if_pos hm]
  go_enter Tryz.func61,Tryz.ntmps61;go_wp2_with fail;refine Calls.mono H1.out ?_;rintro e w1 ⟨rfl,hb1⟩;go_wp2_with fail;refine Calls.mono (H2.out w1 hb1) ?_;rintro e w2 ⟨rfl,hb2⟩;go_wp2_with fail;refine Calls.mono (H3.out w2 hb2) ?_;rintro e w3 ⟨rfl,hb3⟩;go_wp2;go_ret2;rw[q7.out];exact⟨rfl,hb3⟩
 .have q7:Hid (cs=(0,0)):=by show _=_;rw[hcs.out,if_neg ha,if_neg hu,if_neg hm]
  go_enter Tryz.func61,Tryz.ntmps61;go_wp2_with fail;refine Calls.mono H1.out ?_;rintro e w1 ⟨rfl,hb1⟩;go_wp2_with fail;refine Calls.mono (H2.out w1 hb1) ?_;rintro e w2 ⟨rfl,hb2⟩;go_wp2_with fail;refine Calls.mono (H3.out w2 hb2) ?_;rintro e w3 ⟨rfl,hb3⟩;go_wp2;go_ret2;rw[q7.out];exact⟨rfl,hb3⟩
def qeq(s:ByteArray):List UInt8×Int×Int:=
 if 300 < Lib.runeCount s then ([],1,0)
 else match qd0 s with
  | .error (c,p)=>([],c,p)
  | .ok rs=>if (qdk rs).1=0 then (qqo rs,0,0) else ([],(qdk rs).1,(qdk rs).2)
theorem qyr(s:ByteArray)(c:Int)(p:Nat)(h:qd0 s=.error (c,p)):c≠0:=by
 unfold qd0 at h;split at h
 .rename_i st ep hf;cases h;exact qjs _ _ _ _ _ hf
 .split at h
  .cases h
  .cases h;decide
def q99(s:ByteArray)(w:Wq)(e:Ending)(w':Wq):Prop:=
 Below w.heap.size w w'/\((∃c p:Int,e=.returned (.tuple #[.slice none 0 0,.int .i64 c,.int .i64 p])/\c≠0/\qeq s=([],c,p))\/
  (∃rs v b45 b87,e=.returned (.tuple #[v,.int .i64 0,.int .i64 0])/\Qb w' w.heap.size b45 b87 v rs/\rs.length<=8/\(∀r∈rs,qch r)/\qeq s=(if (qdk rs).1=0 then (qqo rs,0,0) else ([],(qdk rs).1,(qdk rs).2))/\qd0 s=.ok rs))
theorem q1u(s:ByteArray)(w:Wq)(hs:s.size<=4611686018427387904)(hT:Lib.Utf8Tabs 0 1 w) :
  Calls Tryz.prog 60 #[.string s] w (q99 s w):=by
 by_cases hl:300 < Lib.runeCount s
 .refine (qys s w hs hl).mono ?_;rintro e w' ⟨rfl,hb⟩;exact⟨hb,.inl ⟨1,0,rfl,by decide,by unfold qeq;rw[if_pos hl]⟩⟩
 .refine (qwb s w (by omega) hT).mono ?_;rintro e w' ⟨hb,h⟩;refine⟨hb,?_⟩
  cases hp:qd0 s with
  | error cp=>
   obtain⟨c,p⟩:=cp;rw[hp] at h;exact .inl ⟨c,p,h,qyr s c p hp,by unfold qeq;rw[if_neg hl,hp]⟩
  | ok rs=>
   rw[hp] at h;obtain⟨v,b45,b87,h1,_,_,h2,h3,h4⟩:=h;exact .inr ⟨rs,v,b45,b87,h1,h2,h3,h4,by unfold qeq;rw[if_neg hl,hp],rfl⟩
theorem qni{W:Wq}{base b45 b87:Nat}{v:Vq}{rs:List Rl}(h:Qb W base b45 b87 v rs):∀g,v.ownBlock=some g->g < W.heap.size:=by
 intro g hg;obtain⟨qs,r1,r2,r3⟩:=h;obtain⟨_,c,hc⟩:=qe r2 hg;exact (zg hc).1
def qz9(s:ByteArray)(w:Wq)(e:Ending)(w':Wq):Prop:=
 Below w.heap.size w w'/\((∃c p:Int,e=.returned (.tuple #[.slice none 0 0,.int .i64 c,.int .i64 p])/\c≠0/\qeq s=([],c,p))\/
  (∃rs v b45 b87,e=.returned (.tuple #[v,.int .i64 0,.int .i64 0])/\Qb w' w.heap.size b45 b87 v rs/\rs.length<=8/\(∀r∈rs,qch r)/\qeq s=(qqo rs,0,0)/\qd0 s=.ok rs/\(qdk rs).1=0))
theorem qoc(s:ByteArray)(w:Wq)(hs:s.size<=4611686018427387904)(hT:Lib.Utf8Tabs 0 1 w) :
  Calls Tryz.prog 30 #[.string s] w (qz9 s w):=by
 have h1:=q1u s w hs hT;have H1:Hid _:=h1;clear h1;go_enter Tryz.func30,Tryz.ntmps30;go_wp2_with fail;refine Calls.mono H1.out ?_;rintro e w1 ⟨hb1,⟨c,p,rfl,hc,hr⟩ | ⟨rs,v,b45,b87,rfl,hR,h8,hok,hr,hpr⟩⟩
 .have hc':(c == 0)=false:=by simp[hc]
  have HR:Hid _:=hr;have HCC:Hid _:=hc;clear hr hc;go_wp2
  go_ret3
  exact⟨hb1,.inl ⟨c,p,rfl,HCC.out,HR.out⟩⟩
 .obtain⟨va,vc,rfl⟩:=hR.form;have hck:=q0q _ rs _ b45 b87 w1 hR (qni hR) h8 hok;have HCK:Hid _:=hck;have HR:Hid _:=hr;have HRA:Hid _:=hR;have HOK:Hid _:=hok;have HPR:Hid _:=hpr;clear hck hr hR hok hpr;generalize hcs:qdk rs=cs at *;obtain⟨ce,cn⟩:=cs;have HCS:Hid (qdk rs=(ce,cn)):=hcs;clear hcs;go_wp2_with fail;refine Calls.mono HCK.out ?_;rintro e w2 ⟨rfl,hb2⟩;simp only;by_cases hce:ce=0
  .subst hce;go_wp2
   go_ret3
   refine⟨hb1.trans (hb2.mono hb1.size),.inr ⟨rs,_,b45,b87,rfl,Qb.rk HRA.out (qf.ofBelow hb2),h8,HOK.out,?_,HPR.out,by rw[HCS.out]⟩⟩;exact HR.out
  .have Qhs:(ce == 0)=false:=by simp[hce]
   have HN:Hid _:=hce;clear hce;go_wp2
   go_ret3
   refine⟨hb1.trans (hb2.mono hb1.size),.inl ⟨ce,cn,rfl,HN.out,?_⟩⟩;have:=HR.out;rw[if_neg HN.out] at this;exact this
end Go.Proofs.YtjajnhemgphefaaGreatDoor
namespace Go.Proofs.YtjajnhemgphefaaGreatDoor
open Go renaming World->Wq,Value->Vq
open Go.RowKit Go.Shelf Go.Maps
variable {W w1:Wq} {S:Nat->Prop} {be bm rb b45 b87:Nat} {e:Eg} {vr vn vk vf vn':Vq} {bfs:List Nat} {Sf:Nat->Nat->Prop}
def ckR(rs:List Rl)(a:Am):Int:=if arR rs a.rel=0 then 7 else if arR rs a.rel=a.args.length then 0 else 4
theorem qe5.lt(h:qe5 W S be e vr vn vk vf bm rb b45 b87 bfs Sf):be < W.heap.size:=(zg h.blk).1
theorem qlp(S:Nat->Prop)(be:Nat)(e:Eg)(w:Wq)(h:qb4 w S be e)(hr:qim e.rs)(a:Am)(va:Vq)(ta:Option Addr)(tc:Nat)(hva:va=.slice ta a.args.length tc)(hl:a.args.length<=2) :
  Calls Tryz.prog 42 #[.pointer (some ⟨be,0,none⟩),.agg #[.string a.rel,va]] w λen w'=>en=.returned (.int .i64 (ckR e.rs a))/\Below w.heap.size w w':=by
 obtain⟨vr,vn,vk,vf,bm,rb,b45,b87,bfs,Sf,hv⟩:=h;subst hva;have hbe:=hv.lt;have hb0:∀O,Below w.heap.size w (w.alloc O):=λO=>(Below.refl _ w).alloc zl O
 have har:Hid (∀W,Below w.heap.size w W->Calls Tryz.prog 53 #[vr,.string a.rel] W λe' w'=>e'=.returned (.int .i64 (arR e.rs a.rel))/\Below W.heap.size W w'):=λW hb=>by
  have hv':=hv.below hb;exact q0g vr e.rs a.rel rb b45 b87 _ hv'.rules (qni hv'.rules) hr.r8 hr.rok
 obtain⟨ra,rc,hrf⟩:=hv.rules.form;subst hrf;have hblk:=hv.blk;have c0:∀O,(w.alloc O).cell? ⟨be,0,none⟩=some (.slice ra e.rs.length rc):=λO=>cell_later (hb0 O) (by simp[World.cell?,hblk]);have hck:Hid (ckR e.rs a=if arR e.rs a.rel=0 then 7 else if arR e.rs a.rel=a.args.length then 0 else 4):=rfl
 have hbx:Hid (∀W1,Below (w.alloc (.cells #[.string a.rel,.slice ta a.args.length tc] 92)).drew.heap.size (w.alloc (.cells #[.string a.rel,.slice ta a.args.length tc] 92)).drew W1->W1.cell? ⟨w.heap.size,1,none⟩=some (.slice ta a.args.length tc)/\Below w.heap.size w W1):=λW1 hb=>by
  have:=(hb.block w.heap.size (by show _ < (w.alloc _).heap.size;simp)).trans (zn w _);exact⟨by simp[World.cell?,this],((hb0 _).drew).trans (hb.mono (by show _<=(w.alloc _).heap.size;simp))⟩
 clear hv hblk;generalize hn:arR e.rs a.rel=n at *;clear hn;by_cases h0:n=0
 .subst h0;rw[if_pos rfl] at hck;rw[hck.out];go_enter Tryz.func42,Tryz.ntmps42;go_wp2_with fail
  go_region_with (go_at_call 53;refine (har.out _ ((hb0 _).drew)).mono ?_;rintro e' W1 ⟨rfl,hb1⟩;obtain⟨d1,hbf⟩:=hbx.out W1 hb1)
  all_goals go_wp2
  all_goals go_ret
  all_goals exact⟨rfl,hbf⟩
 .rw[if_neg h0] at hck;have h0':((n:Int) == 0)=false:=by simp[h0]
  have Qho:¬(n:Int)=0:=by omega
  by_cases h1:n=a.args.length
  .rw[if_pos h1] at hck;rw[hck.out];subst h1;clear hck;go_enter Tryz.func42,Tryz.ntmps42;go_wp2_with fail
   go_region_with (go_at_call 53;refine (har.out _ ((hb0 _).drew)).mono ?_;rintro e' W1 ⟨rfl,hb1⟩;obtain⟨d1,hbf⟩:=hbx.out W1 hb1)
   all_goals go_wp2
   all_goals go_ret
   all_goals exact⟨rfl,hbf⟩
  .rw[if_neg h1] at hck;rw[hck.out];have h1':((n:Int) == (a.args.length:Int))=false:=by simp;omega
   have Qhp:¬(n:Int)=(a.args.length:Int):=by omega
   clear hck;go_enter Tryz.func42,Tryz.ntmps42;go_wp2_with fail
   go_region_with (go_at_call 53;refine (har.out _ ((hb0 _).drew)).mono ?_;rintro e' W1 ⟨rfl,hb1⟩;obtain⟨d1,hbf⟩:=hbx.out W1 hb1)
   all_goals go_wp2
   all_goals go_ret
   all_goals exact⟨rfl,hbf⟩
def qdw(gs:List Gd):List (List UInt8):=qdj (gs.map (λg=>(qcb g).data.toList))
def qot(e:Eg)(s:ByteArray)(w:Wq)(en:Ending)(w':Wq):Prop:=
 Below w.heap.size w w'/\match qcx s with
  | none=>en=.returned (.tuple #[.slice none 0 0,.int .i64 2])
  | some a=>(ckR e.rs a≠0/\en=.returned (.tuple #[.slice none 0 0,.int .i64 (ckR e.rs a)]))\/
   (ckR e.rs a=0/\∃v gs,qxl e.M a gs/\en=.returned (.tuple #[v,.int .i64 0])/\w'.ownsRow w.heap.size 9 1 v (qdw gs).length ((qdw gs).map qjj))
theorem qwn(gs:List Gd):(qdw gs).length=gs.length:=((List.mergeSort_perm _ _).length_eq).trans (by simp)
theorem qzr(h:qde e)(rel x y:ByteArray)(hx:(e.M ⟨rel,x,y⟩).isSome=true):x.size<=2000/\y.size<=2000:=by
 have:=q6n h.rs h.nsz (h.md _ hx).2;exact⟨Nat.le_trans this.2.1 (by decide),Nat.le_trans this.2.2 (by decide)⟩
theorem q0h(bm nn b87:Nat)(M:Gd->Option Int)(a:Am)(va:Vq)(ta:Option Addr)(tn tc:Nat)(hva:va=.slice ta tn tc)(w:Wq)(hM:qd4 w bm nn M)(hnn:nn<=1000000)(hS:Qi w b87 va a.args)(hfo:q2u a)(hMs:∀x y,(M ⟨a.rel,x,y⟩).isSome=true->x.size<=2000/\y.size<=2000) :
  Calls Tryz.prog 51 #[.map (some bm),.agg #[.string a.rel,va]] w λen w'=>∃Bm Ba,en=.returned (.func (.func 93) #[] #[.pointer (some ⟨Bm,0,none⟩),.pointer (some ⟨Ba,0,none⟩)])/\Below w.heap.size w w'/\
   ∀W,Below w'.heap.size w' W->Calls Tryz.prog 50 #[.func (.func 93) #[] #[.pointer (some ⟨Bm,0,none⟩),.pointer (some ⟨Ba,0,none⟩)]] W λe2 W'=>∃v gs,qxl M a gs/\e2=.returned v/\W'.ownsRow W.heap.size 9 1 v (qdw gs).length ((qdw gs).map qjj)/\Below W.heap.size W W':=by
 refine (q1i bm a va w ta tn tc hva).mono ?_;rintro en w' ⟨rfl,rfl⟩;have hb:Below w.heap.size w ((w.alloc (.cells #[.map (some bm)] 98)).alloc (.cells #[.string a.rel,va] 92)):=((Below.refl _ w).alloc zl _).alloc (by simp) _;refine⟨_,_,rfl,hb,λW hW=>?_⟩;have hbW:Below w.heap.size w W:=hb.trans (hW.mono hb.size);have x1:W.heap[w.heap.size]?=some (Obj.cells #[.map (some bm)] 98):=(hW.block _ (by simp;omega)).trans ((Below.heap_alloc _ _ _ (by simp)).trans (zn w _))
 have x2:W.heap[w.heap.size+1]?=some (Obj.cells #[.string a.rel,va] 92):=by
  refine (hW.block _ (by simp)).trans ?_;have:=zn (w.alloc (.cells #[.map (some bm)] 98)) (.cells #[.string a.rel,va] 92);rw[World.size_alloc] at this;exact this
 refine (q2g (N:=nn) W hnn (enters_of Tryz.func93 (by kernel_rfl) rfl) (λm n=>q3u n w.heap.size (w.heap.size+1) bm nn b87 M a _ W x1 x2 (hM.mk (qn.ofBelow (m:=m) hbW)) (hS.mk (qn.ofBelow (m:=m) hbW)) hfo.args hfo.nums hfo.rel hfo.names hMs m)).mono ?_;rintro e2 W' ⟨v,gs,rfl,⟨ks,k1,k2,k3,k4⟩,ho,hbW',hl⟩;have hgl:(gs.map (·.1)).map (λg=>(qcb g).data.toList)=gs.map (λg=>(qcb g.1).data.toList):=by rw[List.map_map];rfl
 refine⟨v,gs.map (·.1),⟨ks,k1,k2,k4⟩,rfl,?_,hbW'⟩;rw[qwn];unfold qdw;rw[hgl,List.length_map];exact ho
theorem q7a(S:Nat->Prop)(be:Nat)(e:Eg)(s:ByteArray)(w:Wq)(h:qb4 w S be e)(hok:qde e)(hs:s.size<=4611686018427387904)(hT:Lib.Utf8Tabs 0 1 w)(hn:∀a,qcx s=some a->∀t∈a.args,t.num < 6) :
  Calls Tryz.prog 25 #[.pointer (some ⟨be,0,none⟩),.string s] w (qot e s w):=by
 have hrg:=qmc s w hs hT;unfold qfp at hrg
 cases ha:qcx s with
 | none=>
  rw[ha] at hrg;have HA:Hid (qcx s=none):=ha;have HR:Hid _:=hrg;clear hrg ha h hok hn;go_enter Tryz.func25,Tryz.ntmps25
  go_wp2_with (go_at_call 49;refine Calls.mono HR.out ?_;rintro e' W1 ⟨hb1,rfl⟩)
  go_ret2;exact⟨hb1.alloc hb1.size _,by rw[HA.out];rfl⟩
 | some a=>
  rw[ha] at hrg;have hn':=hn a ha;have HA:Hid (qcx s=some a):=ha;have HR:Hid (Calls Tryz.prog 49 #[.string s] w λe' w'=>Below w.heap.size w w'/\∃va,e'=.returned (.tuple #[.agg #[.string a.rel,va],.bool true])/\qkr a/\Qi w' w'.heap.size va a.args):=hrg;have hEW:Hid (∀W,Below w.heap.size w W->qb4 W S be e):=λW hb=>h.below hb;obtain⟨vr,vn,vk,vf,bm,rb,b45,b87,bfs,Sf,hv⟩:=h;have hblk:Hid (∀W,Below w.heap.size w W->W.heap[be]?=some (Obj.cells #[vr,.int .i64 e.win,.int .i64 e.lat,.int .i64 e.que,.int .i64 e.mark,vn,vk,.map (some bm),vf] 101)/\qd4 W bm 5000 e.M):=λW hb=>⟨(hv.below hb).blk,(hv.below hb).md⟩;have HRS:Hid (qde e):=hok;clear hrg ha hv hok hT hn;go_enter Tryz.func25,Tryz.ntmps25;go_wp2_with fail;refine Calls.mono HR.out ?_;rintro e' W1 ⟨hb1,va,rfl,hak,hsl⟩;obtain⟨xa,xc,hxf⟩:=hsl.form;subst hxf;have qxw:Hid (∀W,Below w.heap.size w W->Calls Tryz.prog 42 #[.pointer (some ⟨be,0,none⟩),.agg #[.string a.rel,.slice xa a.args.length xc]] W λen w'=>en=.returned (.int .i64 (ckR e.rs a))/\Below W.heap.size W w'):=λW hb=>qlp S be e W (hEW.out W hb) HRS.out.rs a _ _ _ rfl hak.args
  have qvi:Hid (∀W,Below W1.heap.size W1 W->Below w.heap.size w W->Calls Tryz.prog 51 #[.map (some bm),.agg #[.string a.rel,.slice xa a.args.length xc]] W λen w'=>∃Bm Ba,en=.returned (.func (.func 93) #[] #[.pointer (some ⟨Bm,0,none⟩),.pointer (some ⟨Ba,0,none⟩)])/\Below W.heap.size W w'/\
   Hid (∀V,Below w'.heap.size w' V->Calls Tryz.prog 50 #[.func (.func 93) #[] #[.pointer (some ⟨Bm,0,none⟩),.pointer (some ⟨Ba,0,none⟩)]] V λe2 V'=>∃v gs,qxl e.M a gs/\e2=.returned v/\V'.ownsRow V.heap.size 9 1 v (qdw gs).length ((qdw gs).map qjj)/\Below V.heap.size V V')):=λW hb hbw=>
   q0h bm 5000 W1.heap.size e.M a _ _ _ _ rfl W (hblk.out W hbw).2 (by decide) (hsl.rk (qf.ofBelow hb)) ⟨hak.args,hn',Nat.le_trans hak.rel (by decide),λt ht=>Nat.le_trans (hak.tms t ht).name (by decide)⟩ (λx y hx=>qzr HRS.out a.rel x y hx)
  have hW1:w.heap.size<=W1.heap.size:=hb1.size;have hbA:Hid (Below w.heap.size w (W1.alloc (.cells #[.string a.rel,.slice xa a.args.length xc] 92))/\Below W1.heap.size W1 (W1.alloc (.cells #[.string a.rel,.slice xa a.args.length xc] 92))):=⟨hb1.alloc hb1.size _,(Below.refl _ W1).alloc zl _⟩
  have Qs:Hid (∀W2,Below (W1.alloc (.cells #[.string a.rel,.slice xa a.args.length xc] 92)).heap.size (W1.alloc (.cells #[.string a.rel,.slice xa a.args.length xc] 92)) W2->W2.heap[W1.heap.size]?=some (Obj.cells #[.string a.rel,.slice xa a.args.length xc] 92)/\Below w.heap.size w W2/\Below W1.heap.size W1 W2):=λW2 hb=>
   ⟨(hb.block _ (by simp)).trans (zn W1 _),hbA.out.1.trans (hb.mono (by simp;omega)),hbA.out.2.trans (hb.mono (by simp))⟩
  clear hak hsl hEW;by_cases hck:ckR e.rs a=0
  .have HCK:Hid (ckR e.rs a=0):=hck;rw[hck] at qxw;clear hck;go_wp2_with fail;refine (qxw.out _ hbA.out.1).mono ?_;rintro e' W2 ⟨rfl,hb2⟩;obtain⟨p1,hb3,hb4⟩:=Qs.out W2 hb2;have t0:W2.cell? ⟨W1.heap.size,0,none⟩=some (.string a.rel):=by simp[World.cell?,p1]
   have t1:W2.cell? ⟨W1.heap.size,1,none⟩=some (.slice xa a.args.length xc):=by simp[World.cell?,p1]
   have q1:=(hblk.out W2 hb3).1;have t7:W2.cell? ⟨be,7,none⟩=some (.map (some bm)):=by simp[World.cell?,q1]
   clear p1 q1 hb2;have hD2:Hid (Below W1.heap.size W1 W2.drew/\Below w.heap.size w W2.drew):=⟨hb4.drew,hb3.drew⟩
   have q7:Hid (∀W3 W4 v gs,Below W2.drew.heap.size W2.drew W3->Below W3.heap.size W3 W4->qxl e.M a gs->W4.ownsRow W3.heap.size 9 1 v (qdw gs).length ((qdw gs).map qjj)->∀en,en=.returned (.tuple #[v,.int .i64 0])->qot e s w en W4):=λW3 W4 v gs h1 h2 h3 h4 en hen=>by
    have hx:Below w.heap.size w W3:=hb3.drew.trans (h1.mono (by show _<=W2.heap.size;exact hb3.size));exact⟨hx.trans (h2.mono hx.size),by rw[HA.out];exact .inr ⟨HCK.out,v,gs,h3,hen,qet h4 hx.size⟩⟩
   go_wp2_with fail
   first | (go_region_with (first | (go_at_call 51;refine (qvi.out _ hD2.out.1 hD2.out.2).mono ?_;rintro e' W3 ⟨Bm,Ba,rfl,hb5,htx⟩) | (go_at_call 50;refine (htx.out W3 zr).mono ?_;rintro e' W4 ⟨tv,gs,hgs,rfl,htv,hb6⟩;obtain⟨oa,oc,hof⟩:=qo htv;subst hof))) | fail
   all_goals go_wp2
   all_goals go_ret2
   all_goals exact q7.out W3 W4 _ gs hb5 hb6 hgs htv _ rfl
  .have HCK:Hid (¬ckR e.rs a=0):=hck;have Qgb:(ckR e.rs a == 0)=false:=by simp[hck]
   have hu:Hid (∀(v:Vq) en w',Below w.heap.size w w'->en=.returned (.tuple #[.slice none 0 0,.int .i64 (ckR e.rs a)])->qot e s w en w'):=λv en w' hb hen=>⟨hb,by rw[HA.out];exact .inl ⟨HCK.out,hen⟩⟩;generalize ckR e.rs a=ck at *
   go_wp2_with (go_at_call 42;refine (qxw.out _ hbA.out.1).mono ?_;rintro e' W2 ⟨rfl,hb2⟩;obtain⟨p1,hb3,hb4⟩:=Qs.out W2 hb2)
   go_ret2;exact hu.out undef _ _ hb3 rfl
theorem qe5.put{W':Wq}{e':Eg}{vk':Vq}{bm':Nat}(h:qe5 W S be e vr vn vk vf bm rb b45 b87 bfs Sf)(hc:Chg W W' (λk=>k=be\/vk.ownBlock=some k))(hrs:e'.rs=e.rs)(hfds:e'.fds=e.fds)(blk:W'.heap[be]?=some (Obj.cells #[vr,.int .i64 e'.win,.int .i64 e'.lat,.int .i64 e'.que,.int .i64 e'.mark,vn',vk',.map (some bm'),vf] 101))(names:W'.ownsRow 0 9 1 vn' e'.names.length (e'.names.map Value.string))(kept:W'.ownsRow 0 161 4 vk' e'.kept.length (e'.kept.flatMap qr))(md:qd4 W' bm' 5000 e'.M) :
  qe5 W' (λk=>(S k/\vk.ownBlock≠some k)\/vk'.ownBlock=some k\/vn'.ownBlock=some k) be e' vr vn' vk' vf bm' rb b45 b87 bfs Sf:=by
 have hex:∀(j:Nat) (c:Array Vq) (t:TypeId),W.heap[j]?=some (Obj.cells c t (0,0))->t≠101->t≠161->¬(j=be\/vk.ownBlock=some j):=by
  rintro j c t hj h1 h2 (rfl | hs)
  .rw[h.blk] at hj;cases hj;exact h1 rfl
  .obtain⟨_,c',hcc⟩:=qe h.kept hs;rw[hj] at hcc;cases hcc;exact h2 rfl
 have hkT:∀(j:Nat) (c:Array Vq) (t:TypeId),W.heap[j]?=some (Obj.cells c t (0,0))->t≠101->t≠161->W'.heap[j]?=some (Obj.cells c t (0,0)):=λj c t hj h1 h2=>(hc.block j (zg hj).1 (hex j c t hj h1 h2)).trans hj
 have hF:∀j,FTy W j->¬(j=be\/vk.ownBlock=some j):=by
  rintro j ⟨c,t,h1,h2⟩;exact hex j c t h1 (by rcases h2 with rfl | rfl <;> decide) (by rcases h2 with rfl | rfl <;> decide)
 have hv:∀g,vf.ownBlock=some g->¬(g=be\/vk.ownBlock=some g):=by
  intro g hg;obtain⟨_,c,hcc⟩:=qe h.frow hg;exact hex g c _ hcc (by decide) (by decide)
 have hbk:vk.ownBlock≠some be:=λhs=>by
  obtain⟨_,c,hcc⟩:=qe h.kept hs;rw[h.blk] at hcc;cases hcc
 refine⟨blk,?_,names,kept,md,by rw[hfds];exact h.len,qm h.frow (λg hg hlt=>hc.block g hlt (hv g hg)),λi hi hi'=>?_,h.sep,λi k hk=>⟨.inl ⟨(h.sub i k hk).1,λe=>hF k (h.sub i k hk).2 (.inr e)⟩,(h.sub i k hk).2.same (hc.block k (h.sub i k hk).2.lt (hF k (h.sub i k hk).2))⟩,⟨.inl ⟨h.own.1,hbk⟩,λg hg=>.inr (.inl hg),λg hg=>.inl ⟨h.own.2.2.1 g hg,λe=>hv g hg (.inr e)⟩,λg hg=>.inr (.inr hg)⟩,λk hk=>?_⟩
 .rw[hrs];exact h.rules.keep (λj c t ht hj=>hkT j c t hj (by rcases ht with rfl | rfl | rfl <;> decide) (by rcases ht with rfl | rfl | rfl <;> decide))
 .obtain⟨b,hf⟩:=h.feed i hi (by rw[<- hfds];exact hi');refine⟨b,?_⟩;have he:e'.fds[i]'hi'=e.fds[i]'(by rw[<- hfds];exact hi'):=by simp only[hfds]
  rw[he];exact hf.keep (ex:=λk=>k=be\/vk.ownBlock=some k) hc.block (λk hs=>hF k (h.sub i k hs).2) (λk c hj=>hex k c _ hj (by decide) (by decide))
 .rcases hk with⟨h1,h2⟩ | hk | hk
  .by_cases hke:k=be
   .subst hke;exact⟨_,_,blk,.inl rfl⟩
   .exact (h.typ k h1).same (hc.block k (h.typ k h1).lt (λe=>e.elim hke h2))
  .obtain⟨_,c,hcc⟩:=qe kept hk;exact⟨_,_,hcc,.inr (.inl rfl)⟩
  .obtain⟨_,c,hcc⟩:=qe names hk;exact⟨_,_,hcc,.inr (.inr (.inr (.inr (.inr rfl))))⟩
def Q0(S:Nat->Prop)(be:Nat)(e':Eg)(w w':Wq):Prop:=∃S',qb4 w' S' be e'/\(∀k,S' k->S k\/w.heap.size<=k)/\Chg w w' S
theorem Q0.same{w w':Wq}(h:qb4 w S be e)(hb:Below w.heap.size w w'):Q0 S be e w w':=⟨S,h.below hb,λ_ hk=>.inl hk,Chg.ofBelow _ hb⟩
theorem Q0.trans{w w2:Wq}{e1 e2:Eg}(h:Q0 S be e1 w w1)(k:∀S1,qb4 w1 S1 be e1->Q0 S1 be e2 w1 w2):Q0 S be e2 w w2:=by
 obtain⟨S1,h1,h2,h3⟩:=h;obtain⟨S2,k1,k2,k3⟩:=k S1 h1;refine⟨S2,k1,λj hj=>?_,k3.os.trans h3.os,k3.tape.trans h3.tape,k3.output.trans h3.output,Nat.le_trans h3.size k3.size,λj hj hs=>(k3.block j (Nat.lt_of_lt_of_le hj h3.size) (λe=>?_)).trans (h3.block j hj hs)⟩
 .rcases k2 j hj with e | e
  .exact h2 j e
  .exact .inr (Nat.le_trans h3.size e)
 .rcases h2 j e with e | e
  .exact hs e
  .omega
theorem q65{w W5:Wq}{v':Vq}{nb:Nat}(hv:qe5 w S be e vr vn vk vf bm rb b45 b87 bfs Sf)(hb:Below w.heap.size w W5){ns:List ByteArray}(hnb:w.heap.size<=nb)(hnm:W5.ownsRow nb 9 1 vn' ns.length (ns.map Value.string)){d:Gd×Int}(O:Obj)(hown1:w1.ownsRow 0 161 4 v' (e.kept.length+1) (e.kept.flatMap qr++qr d))(hgrow:((W5.setCell ⟨be,5,none⟩ vn').alloc O).grownBy w1 vk.ownBlock)(hat:v'.ownBlock=vk.ownBlock\/v'.ownBlock=some ((W5.setCell ⟨be,5,none⟩ vn').alloc O).heap.size) :
  w1.cell? ⟨be,6,none⟩=some vk/\w1.frozen? ⟨be,6,none⟩=false/\Q0 S be {e with names:=ns,kept:=e.kept++[d]} w (w1.setCell ⟨be,6,none⟩ v'):=by
 have h5:=hv.below hb;have hbe:=(zg h5.blk).1
 have hbk:vk.ownBlock≠some be:=λhs=>by
  obtain⟨_,c,hcc⟩:=qe h5.kept hs;rw[h5.blk] at hcc;cases hcc
 have hsz:((W5.setCell ⟨be,5,none⟩ vn').alloc O).heap.size=W5.heap.size+1:=by simp
 have b1:w1.heap[be]?=some (Obj.cells #[vr,.int .i64 e.win,.int .i64 e.lat,.int .i64 e.que,.int .i64 e.mark,vn',vk,.map (some bm),vf] 101):=by
  refine (hgrow.block be (by rw[hsz];omega) (λe=>hbk e.symm)).trans ?_;exact (Below.heap_alloc _ _ _ (by simpa using hbe)).trans (Qd h5.blk 5 vn')
 have hc1:Chg W5 w1 (λk=>k=be\/vk.ownBlock=some k):=(((Chg.refl W5 _).setCell ⟨be,5,none⟩ vn' (λ_=>.inl rfl)).alloc O).grown hgrow (λk hk _=>.inr hk);have hc2:Chg W5 (w1.setCell ⟨be,6,none⟩ v') (λk=>k=be\/vk.ownBlock=some k):=hc1.setCell ⟨be,6,none⟩ v' (λ_=>.inl rfl)
 have hty:∀(k:Nat) (c:Array Vq) (t:TypeId),W5.heap[k]?=some (Obj.cells c t (0,0))->t≠101->t≠161->¬(k=be\/vk.ownBlock=some k):=by
  rintro j c t hj h1 h2 (rfl | hs)
  .rw[h5.blk] at hj;cases hj;exact h1 rfl
  .obtain⟨_,c',hcc⟩:=qe h5.kept hs;rw[hj] at hcc;cases hcc;exact h2 rfl
 have qdr:=h5.put (W':=w1.setCell ⟨be,6,none⟩ v') (e':={e with names:=ns,kept:=e.kept++[d]}) (vn':=vn') (vk':=v') (bm':=bm) hc2 rfl rfl (Qd b1 6 v')
  (qm (qet hnm zz) (λg hg hlt=>by
   obtain⟨_,c,hcc⟩:=qe hnm hg
   exact hc2.block g hlt (hty g c _ hcc (by decide) (by decide))))
  (by
   show World.ownsRow _ 0 161 4 v' (e.kept++[d]).length ((e.kept++[d]).flatMap qr);rw[List.length_append,List.flatMap_append];simp only[List.length_cons,List.length_nil,Nat.zero_add,List.flatMap_cons,List.flatMap_nil,List.append_nil]
   exact Qg hown1 ⟨be,6,none⟩ v' (Qf hown1 b1 (by decide)))
  (h5.md.kept (λj es c hm=>(hc2.block j (zg hm).1 (by
   rintro (rfl | hs)
   .rw[h5.blk] at hm;cases hm
   .obtain⟨_,c',hcc⟩:=qe h5.kept hs
    rw[hm] at hcc;cases hcc)).trans hm))
 refine⟨by simp[World.cell?,b1],by simp[World.frozen?,b1],_,⟨_,_,_,_,_,_,_,_,_,_,qdr⟩,λk hk=>?_,?_⟩
 .rcases hk with⟨h1,_⟩ | h1 | h1
  .exact .inl h1
  .rcases hat with e1 | e1
   .exact .inl (hv.own.2.1 k (e1.symm.trans h1))
   .right;rw[e1,hsz] at h1;cases h1;have:=hb.size;omega
  .obtain⟨hk1,_⟩:=qe hnm h1;exact .inr (Nat.le_trans hnb hk1)
 .refine⟨hc2.os.trans hb.os,hc2.tape.trans hb.tape,hc2.output.trans hb.output,Nat.le_trans hb.size hc2.size,λk hk hs=>(hc2.block k (Nat.lt_of_lt_of_le hk hb.size) (λe=>hs ?_)).trans (hb.block k hk)⟩;rcases e with rfl | e
  .exact hv.own.1
  .exact hv.own.2.1 k e
theorem q5x{b T:Nat}{v:Vq}{l:List Nat}(h:W.ownsRow b T 1 v l.length (l.map q1x)){k:Nat}(hk:k < l.length) :
  ∃(g c:Nat),v=.slice (some ⟨g,0,none⟩) l.length c/\W.cell? ⟨g,k,none⟩=some (.pointer (some ⟨l[k],0,none⟩))/\g < W.heap.size:=by
 obtain⟨_,⟨_,hz⟩ | ⟨g,c,cur,hv,_,hw,_,_,_,htk⟩⟩:=h
 .omega
 refine⟨g,c,hv,?_,(zg hw).1⟩;have e1:(l.map q1x)[k]?=some (q1x l[k]):=by rw[List.getElem?_map,List.getElem?_eq_getElem hk];rfl
 rw[<- htk,List.getElem?_take,if_pos (by omega)] at e1;simp only[World.cell?,hw];have e2:cur[k]?=some (q1x l[k]):=by simpa using e1
 exact e2
