/- A part -/
import Derived.Test.YtjajnhemgphefaaGreatDoorKWxF
import Derived.Lib.AppendIntMem
set_option linter.all false
set_option maxRecDepth 100000
set_option maxHeartbeats 4000000
namespace Go.Proofs.YtjajnhemgphefaaGreatDoor
open Go renaming World->Wq,Value->Vq
open Go.RowKit Go.Shelf
variable {y:Er} {ds:List Dk} {e:Eg} {F:Nat->Eg->Er->Prop}
def qq7(y:Er)(s:By)(r:List By×Int):Prop:=
 match qgh s with
 | none=>r=([],2)
 | some a=>if qfr y.rs a≠0 then r=([],qfr y.rs a) else r=(qel [] ((y.state.filter (λh=>(qcd a h qao).isSome)).map qga),0)
def qcg(a:Am)(l:List (Gr×Vq)):List By:=((l.map (·.1)).filter (λh=>(qcd a h qao).isSome)).map qga
theorem qsz(a:Am)(l:List (Gr×Vq)):(qcg a l).length<=l.length:=by
 unfold qcg;rw[List.length_map];exact Nat.le_trans (List.length_filter_le _ _) (by simp)
theorem qy0(a:Am)(l:List (Gr×Vq)){k:Nat}(h:k < l.length):qcg a (l.take (k+1))=qcg a (l.take k)++(if (qcd a l[k].1 qao).isSome=true then [qga l[k].1] else []):=by
 unfold qcg;rw[List.take_succ_eq_append_getElem h,List.map_append,List.filter_append,List.map_append];congr 1;by_cases hb:(qcd a l[k].1 qao).isSome=true
 .rw[if_pos hb,List.map_cons,List.filter_cons_of_pos (by simpa using hb)];rfl
 .rw[if_neg hb,List.map_cons,List.filter_cons_of_neg (by simpa using hb)];rfl
theorem q3a{W:Wq}{T:Nat->Prop}{b:Nat}{vr vf vn vs vd:Vq}{qs:List (Rl×Vq×Vq)}{fs:List ((Gr×Int×Bool)×Vq)}{ss:List (Gr×Vq)}{ds:List (Fr×Vq×Vq)}(h:qcm W T b y vr vf vn vs vd qs fs ss ds)(hz:qz4 y)(bu:∀g∈y.state,g.args.length<=1000/\g.rel.size<=2000/\∀t∈g.args,t.size<=2000)(s:By)(hs:s.size<=1048576) :
  Cs 70 #[Pt b,St s] W λe w'=>(∃r v,qq7 y s r/\e=.returned (.tuple #[v,Ii r.2])/\w'.ownsRow W.heap.size 9 1 v r.1.length (r.1.map Value.string))/\Below W.heap.size W w':=by
 obtain⟨i0,hi,dt,db,cz⟩:=info_parts Tryz.infoStr;obtain⟨sa,sc,cx⟩:=qd h.state.row;subst cx;have dy:b < W.heap.size:=h.lt b h.own;have hq:qs.length<=1000:=by have:=hz.r8;rw[<- h.rsm,List.length_map] at this;omega
 have ck:∀q∈qs,q.1.body.length<=900:=λq hq=>by have:=hz.body q.1 (by rw[<- h.rsm];exact List.mem_map.2 ⟨q,hq,rfl⟩);omega
 have cq:Hid _:=qxc h hq ck s hs;go_enter Tryz.func70,Tryz.ntmps70;go_wp2_with fail;refine Calls.mono cq.out ?_;rintro e' W1 ⟨h1,ac⟩
 obtain⟨a,oa,oc,cc,he,cn,eh,b6,bt,aq⟩:∃(a:Am) (oa:Option Addr) (oc:Nat) (cc:Int),e'=.returned (.tuple #[.agg #[St a.rel,.slice oa a.args.length oc],Ii cc])/\W1.ownsRow W.heap.size 215 2 (.slice oa a.args.length oc) a.args.length (a.args.flatMap tmC)/\a.args.length<=2/\(∀t∈a.args,t.num<=2)/\(cc≠2->qgh s=some a/\cc=qfr y.rs a)/\(cc=2->qgh s=none):=by
  unfold qgz at h1
  cases ho:qgh s with
  | none=>
   rw[ho] at h1;exact⟨⟨⟨#[]⟩,[]⟩,none,0,2,h1,zo,by simp,by simp,λh=>absurd rfl h,λ_=>rfl⟩
  | some a=>
   rw[ho] at h1;obtain⟨ec,k1,k2,k3,k4,k5,k6⟩:=h1;obtain⟨oa,oc,rfl⟩:=qd k2;refine⟨a,oa,oc,_,k1,k2,k3,k5,λ_=>⟨rfl,rfl⟩,λh=>?_⟩;unfold qfr at h;split at h
   .cases h
   .split at h <;> cases h
 subst he;obtain⟨N,hN⟩:∃N,W.heap.size=N:=⟨_,rfl⟩;obtain⟨V,hV⟩:∃V,W1.alloc (.cells #[St a.rel,.slice oa a.args.length oc] 145)=V:=⟨_,rfl⟩;have am:Below N W V:=by rw[<- hV,<- hN];exact ac.alloc ac.size _
 have au:V.heap[W1.heap.size]?=cC #[St a.rel,.slice oa a.args.length oc] 145:=by rw[<- hV];exact zn W1 _
 have ci:V.ownsRow N 215 2 (.slice oa a.args.length oc) a.args.length (a.args.flatMap tmC):=by rw[<- hV,<- hN];exact cn.alloc _
 obtain⟨M,hM⟩:∃M,W1.heap.size=M:=⟨_,rfl⟩;rw[hM] at au
 have HX:Hid (∀Y,Below V.heap.size V Y->Below N W Y/\qcm Y T b y vr vf vn (.slice sa ss.length sc) vd qs fs ss ds/\Y.cell? (Ad M 0)=some (St a.rel)/\Y.cell? (Ad M 1)=some (.slice oa a.args.length oc)/\qa5 Y (a,.slice oa a.args.length oc)):=λY hY=>by
  have h1:Below N W Y:=am.trans (hY.mono (by have:=am.size;omega));have h2:=(hY.block _ (zg au).1).trans au;exact⟨h1,h.below (hN ▸ h1),zc h2,zc h2,Qa (qk ci hY) zz⟩
 have aa:ss.length<=2048:=by have:=hz.st;rw[<- h.statem,List.length_map] at this;exact this
 have df:Hid (∀p∈ss,p.1.args.length<=1000/\p.1.rel.size<=2000/\∀t∈p.1.args,t.size<=2000):=λp hp=>bu p.1 (by rw[<- h.statem];exact List.mem_map.2 ⟨p,hp,rfl⟩)
 have q7:Hid (cc=0->qq7 y s (qel [] (qcg a ss),0)):=λhc=>by
  obtain⟨k1,k2⟩:=bt (by omega);unfold qq7 qcg;rw[k1,<- h.statem];simp only;rw[if_neg (by rw[<- k2,hc];decide)];trivial
 have b0:Hid (cc≠0->qq7 y s ([],cc)):=λhc=>by
  unfold qq7;by_cases h2:cc=2
  .rw[aq h2,h2]
  .obtain⟨k1,k2⟩:=bt h2;rw[k1];simp only;rw[if_pos (by rw[<- k2];exact hc),k2]
 have ei:Hid (Below N W V):=am;have Qfg:Hid (∀t∈a.args,t.num<=2):=b6;have dk:Hid (N<=V.heap.size):=by have:=am.size;show N<=_;omega
 have HN:Hid (W.heap.size=N):=hN;clear cq h1 ac cn ci am au h hz bu bt aq b6 ck hq dy hN;by_cases bf:cc=0
 .subst bf;have dg:Hid (qq7 y s (qel [] (qcg a ss),0)):=q7.out rfl;clear b0 q7;have an:Hid (Below V.heap.size V V/\V.ownsRow V.heap.size 9 1 (.slice none 0 0) (qcg a (ss.take 0)).length ((qcg a (ss.take 0)).map Value.string)):=⟨zr,zo⟩;go_wp2_with fail
  go_loopw [8,9] (λo p wr=>∃(i:Nat) (vo:Vq),vo=o/\p=.int .i64 i/\i<=ss.length/\Hid (Below V.heap.size V wr/\wr.ownsRow V.heap.size 9 1 vo (qcg a (ss.take i)).length ((qcg a (ss.take i)).map Value.string))) (λ_ p _=>ss.length - (intOf p).toNat)
  case atStart=>exact⟨0,_,rfl,rfl,zz,an⟩
  case round=>
   clear an;obtain⟨i,vo,rfl,rfl,dc,aa⟩:=hrel;obtain⟨ta,tc,dx⟩:=qd aa.out.2;subst dx;obtain⟨_,k2,m0,m1,kA⟩:=HX.out wr aa.out.1;have c8:wr.cell? (Ad b 8)=some (.slice sa ss.length sc):=by simp[World.cell?,k2.box]
   by_cases ad:i < ss.length
   .have i1:(i:Int) < (ss.length:Int):=by omega
    obtain⟨gs,cap,e1,_,q0,q1,⟨u1,u2,e2⟩,q3⟩:=k2.state.cell i ad;simp only[Value.slice.injEq,true_and] at e1;obtain⟨e1,_⟩:=e1;subst e1;obtain⟨g,hg⟩:∃g,ss[i].1=g:=⟨_,rfl⟩;obtain⟨Qbi,Qbj,Qbk⟩:=df.out ss[i] (zm ad);have al:=qy0 a ss ad;have cl:=qsz a (ss.take i);rw[List.length_take] at cl;rw[hg] at Qbi Qbj Qbk al q0 q3 e2;rw[e2] at q1 q3;obtain⟨fo,ai⟩:∃fo,(qcd a g qao).isSome=fo:=⟨_,rfl⟩;rw[ai] at al
    have HS:Hid (∀Y,Below wr.heap.size wr Y->Y.cell? (Ad M 0)=some (St a.rel)/\Y.cell? (Ad M 1)=some (.slice oa a.args.length oc)/\Y.cell? (Ad b 8)=some (Sc gs ss.length sc)/\Y.cell? (Ad gs (i*2))=some (St g.rel)/\Y.cell? (Ad gs (i*2+1))=some (.slice u1 g.args.length u2)):=λY hY=>by
     obtain⟨_,l2,l3,l4,_⟩:=HX.out Y (aa.out.1.trans (hY.mono aa.out.1.size));obtain⟨d8,dd,a7,_,cg,bv,_,_⟩:=l2.state.cell i ad;simp only[Value.slice.injEq,Option.some.injEq,Addr.mk.injEq,and_true,true_and] at a7;obtain⟨a7,_⟩:=a7;subst a7;rw[hg] at cg;rw[e2] at bv;exact⟨l3,l4,by simp[World.cell?,l2.box],cg,bv⟩
    have ap:Hid (Cs 124 #[] wr.drew λe w'=>∃pa pc,e=.returned (.slice pa 8 pc)/\(w'.cell? (Ad M 0)=some (St a.rel)/\w'.cell? (Ad M 1)=some (.slice oa a.args.length oc)/\w'.cell? (Ad b 8)=some (Sc gs ss.length sc)/\w'.cell? (Ad gs (i*2))=some (St g.rel)/\w'.cell? (Ad gs (i*2+1))=some (.slice u1 g.args.length u2))/\Hid (qt w' (.slice pa 8 pc) qao/\Below wr.heap.size wr w')):=by
     refine (qk6 wr.drew).mono ?_;rintro e w' ⟨v,l1,l2,l3⟩;obtain⟨pa,pc,rfl⟩:=qd l2;have l4:Below wr.heap.size wr w':=(Below.refl _ wr).drew.trans l3;exact⟨pa,pc,l1,HS.out w' l4,Qa l2 zz,l4⟩
    have ct:Hid (∀Y pa pc,qt Y (.slice pa 8 pc) qao/\Below wr.heap.size wr Y->Cs 123 #[.agg #[St a.rel,.slice oa a.args.length oc],.agg #[St g.rel,.slice u1 g.args.length u2],.slice pa 8 pc] Y λe w'=>∃v',e=.returned (.tuple #[v',.bool fo])/\(w'.cell? (Ad M 0)=some (St a.rel)/\w'.cell? (Ad M 1)=some (.slice oa a.args.length oc)/\w'.cell? (Ad b 8)=some (Sc gs ss.length sc)/\w'.cell? (Ad gs (i*2))=some (St g.rel)/\w'.cell? (Ad gs (i*2+1))=some (.slice u1 g.args.length u2))/\Hid (Below wr.heap.size wr w')):=λY pa pc hY=>by
     obtain⟨_,l2,_,_,l5⟩:=HX.out Y (aa.out.1.trans (hY.2.mono aa.out.1.size));refine (qzg (a,.slice oa a.args.length oc) (g,.slice u1 g.args.length u2) _ qao Y l5 (qk q3 hY.2) hY.1 (by show a.args.length<=1000;omega) (by decide) (by decide) (λt ht=>by have:=Qfg.out t ht;show t.num < 8;omega)).mono ?_;rintro e w' ⟨l6,l7⟩;have l8:Below wr.heap.size wr w':=hY.2.trans (l7.mono hY.2.size);unfold qij at l6
     cases hf:qcd a g qao with
     | none=>simp only[hf] at l6;rw[hf] at ai;subst ai;exact⟨_,l6,HS.out w' l8,l8⟩
     | some b'=>simp only[hf] at l6;rw[hf] at ai;subst ai;obtain⟨v',l9,_⟩:=l6;exact⟨v',l9,HS.out w' l8,l8⟩
    have bk:Hid (∀Y,Below wr.heap.size wr Y->Cs 125 #[.agg #[St g.rel,.slice u1 g.args.length u2]] Y λe w'=>e=.returned (St (qga g))/\Hid (Below wr.heap.size wr w')):=λY hY=>by
     refine (q6j (g,.slice u1 g.args.length u2) Y (qk q3 hY) Qbj Qbi Qbk).mono ?_;rintro e w' ⟨l1,l2⟩;exact⟨l1,hY.trans (l2.mono hY.size)⟩
    have cy:=HS.out wr.drew zr.drew;obtain⟨d0,d1,d2,d3,d4⟩:=cy;obtain⟨tw,cv⟩:∃tw,qga g=tw:=⟨_,rfl⟩;rw[cv] at al bk;have b3:Hid (fo=true->qcg a (ss.take (i+1))=qcg a (ss.take i)++[tw]):=λe=>by rw[al,if_pos e]
    have ca:Hid (fo=false->qcg a (ss.take (i+1))=qcg a (ss.take i)):=λe=>by rw[al,if_neg (by rw[e];decide),List.append_nil]
    clear hg e2 q3 ai al Qbi Qbj Qbk cv k2 kA;go_wp2_with fail
    first | (go_region_held3 (λw'=>w'.cell? (Ad M 0)=some (St a.rel)/\w'.cell? (Ad M 1)=some (.slice oa a.args.length oc)/\w'.cell? (Ad b 8)=some (Sc gs ss.length sc)/\w'.cell? (Ad gs (i*2))=some (St g.rel)/\w'.cell? (Ad gs (i*2+1))=some (.slice u1 g.args.length u2)) (first | with_reducible exact⟨d0,d1,d2,d3,d4⟩ | with_reducible assumption) (first | (go_at_call 124;refine Calls.mono ap.out ?_;rintro e' W3 ⟨pa,pc,rfl,c6,ak⟩) | (go_at_call 123;refine Calls.mono (ct.out _ _ _ ak.out) ?_;rintro e' W4 ⟨v',rfl,c4,aw⟩) | go_simp)) | fail
    obtain⟨n0,n1,n2,n3,n4⟩:=c4;clear c6 ak ap ct d0 d1 d2 d3 d4 m0 m1 c8 q0 q1
    cases fo with
    | false=>
     have du:Hid (Below V.heap.size V W4/\W4.ownsRow V.heap.size 9 1 (.slice ta (qcg a (ss.take i)).length tc) (qcg a (ss.take (i+1))).length ((qcg a (ss.take (i+1))).map Value.string)):=by
      rw[ca.out (by first | rfl | trivial)];exact⟨aa.out.1.trans (aw.out.mono aa.out.1.size),qk aa.out.2 aw.out⟩
     go_wp2;refine⟨⟨i+1,_,rfl,by go_num,by omega,du⟩,by simp[intOf];omega⟩
    | true=>
     go_wp2_with fail;refine Calls.mono (bk.out W4 aw.out) ?_;rintro e' W5 ⟨rfl,bo⟩;clear bk HS n0 n1 n2 n3 n4 aw;have dl:Hid (qcg a (ss.take (i+1))=qcg a (ss.take i)++[tw]):=b3.out (by first | rfl | trivial);clear ca b3;generalize qcg a (ss.take i)=acc at *;have ay:Hid (Below V.heap.size V W5):=aa.out.1.trans (bo.out.mono aa.out.1.size);have b9:Hid (W5.ownsRow V.heap.size 9 1 (.slice ta acc.length tc) acc.length (acc.map Value.string)):=qk aa.out.2 bo.out;have dp:Hid (∀O,V.heap.size<=(W5.alloc O).heap.size):=λO=>by have:=ay.out.size;simp;omega
     have c9:Hid (∀(Y:Wq) (v':Vq) (o:Obj),(W5.alloc o).grownBy Y (Value.slice ta acc.length tc).ownBlock->Y.ownsRow V.heap.size 9 1 v' (acc.length+1) (acc.map Value.string++[St tw])->Below V.heap.size V Y/\Y.ownsRow V.heap.size 9 1 v' (qcg a (ss.take (i+1))).length ((qcg a (ss.take (i+1))).map Value.string)):=λY v' o d5 ho=>by
      refine⟨(ay.out.alloc ay.out.size o).grown d5 (by have:=ay.out.size;simp;omega) (λk e=>(qe b9.out e).1),?_⟩;rw[dl.out,List.length_append,List.map_append];exact ho
     clear aa bo
     go_wp2_with (at_builtin;refine wpList_append_own _ rfl _ _ 22 rfl V.heap.size 9 i0 _ 1 16 Tryz.underlying22 hi dt db cz rfl (by decide) _ acc.length (acc.map Value.string) rfl (b9.out.alloc _) ⟨W5.heap.size,0,none⟩ 1 _ [St tw] rfl rfl (qcl _ _ _) (by simp[Value.oneCell']) (by unfold maxLen;omega) (by omega) (dp.out _) ?_;intro dn w1 b4 cm _;have c5:Hid _:=c9.out _ _ _ cm b4;clear b4 cm)
     refine⟨⟨i+1,dn,rfl,by go_num,by omega,c5⟩,by simp[intOf];omega⟩
   .have i1:¬(i:Int) < (ss.length:Int):=by omega
    have dh:ss.take i=ss:=List.take_of_length_le (by omega);rw[dh] at aa ⊢;have cl:=qsz a ss;have di:Hid _:=qyv (.slice ta (qcg a ss).length tc) (qcg a ss) wr (Qa aa.out.2 zz) (by omega);go_wp2_with fail;refine Calls.mono di.out ?_;rintro e' w' ⟨v',rfl,k3,k4⟩;go_wp2;go_ret2;have l1:Below V.heap.size V w':=aa.out.1.trans (k4.mono aa.out.1.size);have l2:=(HX.out w' l1).1;rw[HN.out];exact⟨⟨_,v',dg.out,rfl,Qa k3 (by have:=aa.out.1.size;have:=dk.out;omega)⟩,l2⟩
 .have hn:=b0.out bf;have cu:(cc != 0)=true:=by simpa using bf
  have dw:Hid (Below N W V):=(HX.out V zr).1;go_wp2;go_ret2;rw[HN.out];exact⟨⟨([],cc),.slice none 0 0,hn,rfl,zo⟩,dw.out⟩
theorem qhq.to(h:qhq e y ds)(ab:qde e):∀g∈y.state,(∃g0,qbr g0=g)/\g.args.length<=1000/\g.rel.size<=2000/\∀t∈g.args,t.size<=2000:=by
 intro g hg;obtain⟨⟨a,ha,hrel,ae⟩,b8⟩:=h.sok g hg;rw[<- h.rs] at ha;have Qd5:∀x∈g.args,x∈e.names:=λx hx=>by rw[h.names];exact b8 x hx
 have h2:=(ab.rs.arity a ha).2
 have cp:∀x∈g.args,qg x=false:=λx hx=>by
  cases he:qg x with
  | false=>rfl
  | true=>
   have hm:=b8 x hx;rw[(qbo x).1 he] at hm;exact absurd hm h.ne
 refine⟨?_,by omega,?_,λt ht=>Nat.le_trans (ab.nsz t (Qd5 t ht)) (by decide)⟩
 .obtain⟨rel,args⟩:=g;simp only at ae cp
  match args,ae,cp with
  | [],hl,_=>simp at hl;omega
  | [x],_,hx=>exact⟨⟨rel,x,eB⟩,by unfold qbr;rw[if_pos (by exact (qbo _).2 rfl)]⟩
  | [x,z],_,hx=>exact⟨⟨rel,x,z⟩,by unfold qbr;rw[if_neg (by rw[hx z (by simp)];decide)]⟩
  | x::z::u::l,hl,_=>simp at hl;omega
 .rw[hrel];exact Nat.le_trans (qng ab.rs _ (by unfold qcz;exact List.mem_map.2 ⟨a,ha,rfl⟩)) (by decide)
theorem q7b(h:qhq e y ds)(ab:qde e)(s:By){r:List By×Int}(ha:qq7 y s r){w w':Wq}{en:Ending}(hp:qot e s w en w') :
  Below w.heap.size w w'/\∃v,en=.returned (.tuple #[v,Ii r.2])/\w'.ownsRow w.heap.size 9 1 v r.1.length (r.1.map Value.string):=by
 obtain⟨hb,hp⟩:=hp;refine⟨hb,?_⟩;unfold qq7 at ha;rw[qqd] at ha
 cases hat:qcx s with
 | none=>
  rw[hat] at ha hp;simp only at ha hp;subst ha;exact⟨_,hp,zo⟩
 | some a=>
  rw[hat] at ha hp;simp only[q0i,<- h.rs] at ha hp;rcases hp with⟨hc,hp⟩ | ⟨hc,v,gs,hf,hp,ho⟩
  .rw[if_pos hc] at ha;subst ha;exact⟨_,hp,zo⟩
  .rw[if_neg (by simpa using hc)] at ha;subst ha;refine⟨v,hp,?_⟩;have c3:=q3d (ar:=arR e.rs) (h.holds ab) h.nodup (λg hg=>(h.to ab g hg).1) (λg hg=>⟨(ab.md g hg).1,qzr ab g.rel g.x g.y hg⟩) (a:=a) ⟨(qtd hc).2.symm,(qlo s a hat).2⟩ hf;rw[c3,List.length_map,List.map_map] at ho;have hm:(qjj ∘ λx:By=>x.data.toList)=Value.string:=by funext x;simp[qjj]
   rw[hm] at ho;exact ho
theorem q74(hF:FOk F){n:Nat}{w:Wq}{bw:Nat}{W X X':Wq}{vl ch cd:Vq}{ps:List Pr}{Q:Nat->Prop}(h:qmo F MkL n w bw W vl ch cd ps Q)(bd:w.heap.size<=bw)(hb:Below W.heap.size W X)(hp:q63 w.heap.size n W.heap.size bw X vl Q X'):qj8 F MkL (n+1) w bw X':=by
 obtain⟨bj,bb,Q',k1,k2,k3,k4,k5⟩:=hp;obtain⟨L,hm⟩:=h.ll
 have hc:Chg W X' (λk=>k=bw\/Q k):=⟨k5.os.trans hb.os,k5.tape.trans hb.tape,k5.output.trans hb.output,Nat.le_trans hb.size k5.size,λi hi hn=>(k5.block i (Nat.lt_of_lt_of_le hi hb.size) (λe=>by
  rcases e with e | e | e
  .exact hn (.inl e)
  .exact hn (.inr e)
  .omega)).trans (hb.block i hi)⟩
 have bn:∀k,k=bw\/Q k->∃c t,W.heap[k]?=cC c t/\(t=31\/t=9\/t=22\/t=3):=λk hk=>by
  rcases hk with rfl | hk
  .exact⟨_,_,h.box,.inl rfl⟩
  .obtain⟨_,c,t,h1,h2⟩:=hm.ty k hk;exact⟨c,t,h1,.inr h2⟩
 refine⟨vl,bj,bb,ps,Q',k1,⟨?_,λp hp=>?_,λp hp k hk=>?_,h.inv.sep,?_,k4⟩,h.one,by have:=h.few;omega,k2⟩
 .refine qm h.inv.row (λg hg hl=>hc.block g hl (λe=>?_));obtain⟨c,cu⟩:=qh h.inv.row hg;obtain⟨c',t,h1,h2⟩:=bn g e;rw[cu] at h1;cases h1;rcases h2 with h2 | h2 | h2 | h2 <;> cases h2
 .have af:=h.inv.each p hp;refine⟨af.1.keep2 hc (λk hk e=>?_) (λk _ e=>?_) (λk c t ht hk=>hc.block k (zg hk).1 (λe=>?_)),⟨af.2.ok,af.2.rel,af.2.f3,hF.mono _ _ _ af.2.fd⟩⟩
  .rcases e with rfl | e
   .exact XTy.not h.box (by decide) (by decide) (af.1.uty _ hk)
   .exact (h.inv.low p hp k hk).2 e
  .obtain⟨c,t,h1,h2⟩:=bn k e;exact⟨c,t,h1,by rcases h2 with rfl | rfl | rfl | rfl <;> decide⟩
  .obtain⟨c',t',h1,h2⟩:=bn k e;rw[hk] at h1;cases h1;rcases h2 with rfl | rfl | rfl | rfl <;> (rcases ht with ht | ht | ht <;> cases ht)
 .refine⟨(h.inv.low p hp k hk).1,λhq=>?_⟩;rcases k3 k hq with h5 | h5
  .exact (h.inv.low p hp k hk).2 h5
  .have:=((h.inv.each p hp).1.uty k hk).lt;omega
 .exact h.inv.below.trans (hc.below h.inv.below.size (λk hk=>by
   rcases hk with rfl | hk
   .exact bd
   .exact (hm.ty k hk).1))
def qj9(y:Er)(s:By):List By×Int:=
 match qgh s with
 | none=>([],2)
 | some a=>if qfr y.rs a≠0 then ([],qfr y.rs a) else (qel [] ((y.state.filter (λh=>(qcd a h qao).isSome)).map qga),0)
theorem qum(y:Er)(s:By)(r:List By×Int):qq7 y s r↔r=qj9 y s:=by
 unfold qq7 qj9
 cases qgh s with
 | none=>exact Iff.rfl
 | some a=>
  by_cases hc:qfr y.rs a≠0
  .simp only[if_pos hc]
  .simp only[if_neg hc]
theorem q2a(l:List By):(qel [] l).length=l.length:=by
 have h:=congrArg List.length (qof l);rw[List.length_map] at h;rw[h];exact ((List.mergeSort_perm _ _).length_eq).trans (by simp)
theorem q3b(hz:y.state.length<=2048)(s:By):(qj9 y s).1.length<=2048:=by
 unfold qj9;split
 .simp
 .split
  .simp
  .show (qel [] _).length<=2048;rw[q2a,List.length_map];exact Nat.le_trans (List.length_filter_le _ _) hz
theorem q69(hF:FOk F)(o:Stp)(hk:o.kind=5)(hs:o.s.size<=1048576):q82 F MkL q64 o:=by
 intro n w bw W vl ch cd ps Q ix p h hi bd hn hT;unfold Pr.v Stp.v;obtain⟨kd,ke,s,a,b,c⟩:=o;simp only at hk hs ⊢;subst hk;have af:=h.inv.each p (List.mem_of_getElem? hi);obtain⟨b7,ab⟩:=af;obtain⟨N,hN⟩:∃N,W.heap.size=N:=⟨_,rfl⟩;obtain⟨W0,a8⟩:∃W0,(W.alloc (.cells #[Pt p.bx,Pt p.bz] 81)).alloc (.cells #[Ii 5,Ii ke,St s,Ii a,Ii b,Ii c] 34)=W0:=⟨_,rfl⟩;have ag:Below W.heap.size W W0:=by rw[<- a8];exact ((Below.refl _ W).alloc zl _).alloc (by simp) _
 have ax:W0.heap[N]?=cC #[Pt p.bx,Pt p.bz] 81:=by
  rw[<- a8,<- hN];exact (Below.heap_alloc _ _ _ (by simp)).trans (zn W _)
 have ao:W0.heap[N+1]?=cC #[Ii 5,Ii ke,St s,Ii a,Ii b,Ii c] 34:=by
  rw[<- a8,<- hN];have:=zn (W.alloc (.cells #[Pt p.bx,Pt p.bz] 81)) (.cells #[Ii 5,Ii ke,St s,Ii a,Ii b,Ii c] 34);simpa using this
 have aj:=(qbf.same b7 ag).1;have ce:=Utf8Tabs_below (Utf8Tabs_below hT.1 h.inv.below) ag
 have HC:Hid (∀Y,Below W0.heap.size W0 Y->Y.cell? (Ad N 1)=some (Pt p.bz)/\Y.cell? (Ad (N+1) 2)=some (St s)):=λY hY=>by
  have h1:=(hY.block N (zg ax).1).trans ax;have h2:=(hY.block (N+1) (zg ao).1).trans ao;exact⟨zc h1,zc h2⟩
 have c0:W0.cell? (Ad N 0)=some (Pt p.bx):=zc ax
 have c1:W0.cell? (Ad (N+1) 0)=some (Ii 5):=zc ao
 have c2:W0.cell? (Ad (N+1) 2)=some (St s):=zc ao
 have hz:=ab.rel.sz ab.ok ab.f3
 have co:Hid (Cs 25 #[Pt p.bx,St s] W0 λe w'=>∃a1 k1,e=.returned (.tuple #[.slice a1 (qj9 p.y s).1.length k1,Ii (qj9 p.y s).2])/\Hid (Below W0.heap.size W0 w'/\w'.ownsRow W0.heap.size 9 1 (.slice a1 (qj9 p.y s).1.length k1) (qj9 p.y s).1.length ((qj9 p.y s).1.map Value.string))):=by
  refine (q7a p.S p.bx p.e s W0 aj.x ab.ok (by omega) ce (λu hu=>(qlo s u hu).2)).mono ?_;intro e w' hp;obtain⟨k1,v,k2,k3⟩:=q7b ab.rel ab.ok s ((qum _ _ _).2 rfl) hp;obtain⟨a1,c1,rfl⟩:=qd k3;exact⟨a1,c1,k2,k1,k3⟩
 have cb:Hid (∀Y,Below W0.heap.size W0 Y->Cs 70 #[Pt p.bz,St s] Y λe w'=>∃a1 k1,e=.returned (.tuple #[.slice a1 (qj9 p.y s).1.length k1,Ii (qj9 p.y s).2])/\Hid (Below Y.heap.size Y w'/\w'.ownsRow 0 9 1 (.slice a1 (qj9 p.y s).1.length k1) (qj9 p.y s).1.length ((qj9 p.y s).1.map Value.string))):=λY hY=>by
  obtain⟨vr,vf,vn,vs,vd,qs,fs,ss,ed,hv⟩:=(qbf.same aj hY).1.y;refine (q3a hv hz (λg hg=>(ab.rel.to ab.ok g hg).2) s hs).mono ?_;rintro e w' ⟨⟨r,v,k1,k2,k3⟩,k4⟩;rw[qum] at k1;subst k1;obtain⟨a1,c1,rfl⟩:=qd k3;exact⟨a1,c1,k2,k4,Qa k3 zz⟩
 have ae:=q3b (y:=p.y) hz.st s
 have c7:Hid (∀Y a1 k1 (l:List By),l.length<=2048->Below W0.heap.size W0 Y->Y.ownsRow W0.heap.size 9 1 (.slice a1 l.length k1) l.length (l.map Value.string)->Cs 71 #[Pt bw,.slice a1 l.length k1] Y λe w'=>e=.returned (.tuple #[])/\Hid (qj8 F MkL (n+1) w bw w')):=λY a1 k1 l hl hY ho=>by
  have bi:Below W.heap.size W Y:=ag.trans (hY.mono ag.size);have be:=h.below hF qne bi;obtain⟨L,hm⟩:=be.ll;have hq:∀k,Q k->k < W.heap.size:=h.inv.q;refine (q8c (N:=W.heap.size) be.box hm hn h.inv.below.size bi.size (zg h.box).1 hq (by omega) (Qa ho ag.size) (hT.2.below be.inv.below)).mono ?_;rintro e w' ⟨k2,k3⟩;exact⟨k2,q74 hF h bd bi k3⟩
 have ea:Hid (Below W.heap.size W W0):=ag;clear ag ax ao aj ce h ab hT b7 hz hi;generalize (qj9 p.y s).2=rc at *;generalize (qj9 p.y s).1=rl at *;go_enter Tryz.func36,Tryz.ntmps36;go_wp2_with fail;refine Calls.mono co.out ?_;clear co;rintro e' W1 ⟨a1,k1,rfl,ac⟩;obtain⟨d1,d2⟩:=HC.out W1 ac.out.1;have hy:=cb.out W1 ac.out.1;clear c0 c1 c2;go_wp2_with fail;refine Calls.mono hy ?_;clear hy cb;rintro e' W2 ⟨a2,k2,rfl,av⟩
 have da:Hid (∀Y,Below W2.heap.size W2 Y->Below W0.heap.size W0 Y/\Y.ownsRow W0.heap.size 9 1 (.slice a1 rl.length k1) rl.length (rl.map Value.string)/\Y.ownsRow 0 9 1 (.slice a2 rl.length k2) rl.length (rl.map Value.string)):=λY hY=>by
  have cf:Below W1.heap.size W1 Y:=av.out.1.trans (hY.mono av.out.1.size);exact⟨ac.out.1.trans (cf.mono ac.out.1.size),qk ac.out.2 cf,qk av.out.2 hY⟩
 have an:Hid (Below W2.heap.size W2 W2):=zr;clear ac av d1 d2;go_wp2_with fail
 go_loopw [15,16] (λq p wr=>∃i:Nat,q=.bool true/\p=.int .i64 i/\i<=rl.length/\Hid (Below W2.heap.size W2 wr)) (λ_ p _=>rl.length - (intOf p).toNat)
 case atStart=>exact⟨0,by simp,rfl,zz,an⟩
 case round=>
  clear an;obtain⟨i,rfl,rfl,dc,hb⟩:=hrel;obtain⟨ak,r1,r2⟩:=da.out wr hb.out;by_cases ad:i < rl.length
  .have i1:(i:Int) < (rl.length:Int):=by omega
   obtain⟨g1,x1,u1,e1,_,f1,_,y1⟩:=qhj r1 ad;obtain⟨g2,x2,u2,e2,_,f2,_,y2⟩:=qhj r2 ad;cases e1;cases e2;have z1:u1=St rl[i]:=by simpa [ad] using y1.symm
   have z2:u2=St rl[i]:=by simpa [ad] using y2.symm
   subst z1;subst z2;clear r1 r2 ak y1 y2;go_wp2_with fail
   try go_quiet (fail)
   go_wp2;refine⟨⟨i+1,by simp,by go_num,by omega,by first | exact hb | exact qu hb.out⟩,by simp[intOf];omega⟩
  .have i1:¬(i:Int) < (rl.length:Int):=by omega
   have cj:=c7.out wr a1 k1 rl ae ak r1;clear r1 r2 ak;go_wp2_with fail;refine Calls.mono cj ?_;rintro e' W5 ⟨rfl,hL⟩;clear cj;go_wp2;go_ret;exact⟨rfl,hL.out⟩
def F0(_:Nat)(e:Eg)(y:Er):Prop:=e.fds=[]/\y.feeds=[]
theorem q44(e:Eg)(s:By)(t:Int):(qkd e s t).2.fds=e.fds:=by
 unfold qkd qo2
 repeat' split
 all_goals rfl
theorem qpd:FOk F0:=by
 refine⟨λn e y h=>h,λn e y s t h=>⟨by rw[q44];exact h.1,by rw[qpw];exact h.2⟩,λn e y ds c e' y' r r' _ _ h h1 h2=>?_,λn rs win lat que M st=>⟨rfl,rfl⟩,λn e y _ h=>Qb2 h.1,λb n e y ds _ _ h i hi=>?_⟩
 .have hx:e'.fds=[]:=by
   rcases h1 with⟨_,rfl,_⟩ | ⟨_,_,⟨_,rfl⟩ | ⟨_,M',dj,_,hl,_,rfl⟩⟩
   .exact h.1
   .exact h.1
   .rw[h.1] at hl;exact List.eq_nil_of_length_eq_zero hl
  have hy:y'.feeds=[]:=by
   rcases h2 with⟨_,rfl,_⟩ | ⟨_,⟨_,rfl,_⟩ | ⟨_,_,st,_,rfl⟩⟩
   .exact h.2
   .exact h.2
   .show y.feeds.map _=[];rw[h.2];rfl
  exact⟨⟨hx,hy⟩,by rw[hy];simp⟩
 .rw[h.2] at hi;simp at hi
theorem qyx(os:List Stp)(az:Vq)(W:Wq)(a6:qo1 W az os)(b5:os.length<=1048576)(hs:∀o∈os,o.s.size<=1048576/\-9223372036854775808<=o.e/\o.e<=9223372036854775807)(hT:q64 W) :
  Cs 4 #[az] W λen W'=>en=.returned (.bool true)/\Below W.heap.size W W':=by
 have ap:Hid (Cs 16 #[az,Sc W.heap.size 4 4] (W.alloc (.cells #[Ii 2,Ii 3,Ii 4,Ii 5] 3)) λen W'=>en=.returned (.bool true)/\Below W.heap.size W W'):=by
  have hb:Below W.heap.size W (W.alloc (.cells #[Ii 2,Ii 3,Ii 4,Ii 5] 3)):=(Below.refl _ W).alloc zl _;refine (q1w qpd qne (λ_ h=>h.1) q75 (q1d qpd) os [2,3,4,5] az (Sc W.heap.size 4 4) _ (a6.below hb) ?_ b5 (by decide) (λo ho hk=>?_) ⟨Utf8Tabs_below hT.1 hb,hT.2.below hb⟩).mono ?_
  .refine⟨by simp,.inr ⟨W.heap.size,4,#[Ii 2,Ii 3,Ii 4,Ii 5],rfl,zz,zn W _,by decide,by unfold maxLen;decide,by simp,by simp⟩⟩
  .obtain⟨h1,h2⟩:=hs o ho;simp only[List.mem_cons,List.not_mem_nil,or_false] at hk;rcases hk with hk | hk | hk | hk
   .exact q2d qpd qne (λ_ h=>h.1) o hk h1
   .exact qnn qpd qne (λ_ h=>h.1) o (.inl hk) (λh=>by omega) h1 h2
   .exact qnn qpd qne (λ_ h=>h.1) o (.inr (.inl hk)) (λh=>by omega) h1 h2
   .exact qnn qpd qne (λ_ h=>h.1) o (.inr (.inr (.inl hk))) (λ_=>q69 qpd o hk h1) h1 h2
  .rintro en W' ⟨k1,k2⟩;exact⟨k1,hb.trans (k2.mono hb.size)⟩
 obtain⟨sa,sc,rfl,_⟩:=a6;clear hs hT b5;go_enter Tryz.func4,Tryz.ntmps4;go_wp2_with fail;refine Calls.mono ap.out ?_;rintro e' W1 ⟨rfl,ac⟩;have HB:Hid _:=ac;clear ap ac;go_wp2;go_ret;exact⟨rfl,HB.out⟩
end Go.Proofs.YtjajnhemgphefaaGreatDoor
namespace Go.Proofs.YtjajnhemgphefaaGreatDoor
open Go renaming World->Wq,Value->Vq
open Go.ChangeShapes Go.WideShapes Go.ChangeAt Go.RowKit Go.Shelf
variable {W:Wq}
theorem q3g(w:Wq)(q:Nat)(os:Array Obj):Below w.heap.size w (Sort.grow (w.drewN q) os):=
 ⟨rfl,rfl,rfl,by show w.heap.size<=(w.heap++os).size;rw[Array.size_append];omega,λi hi=>by
  show (w.heap++os)[i]?=_
  rw[Array.getElem?_append_left hi]⟩
theorem q2e{P:Program}{name:String}{k:IntKind}{zs:List Int}{g:Nat}{t e:TypeId}{n:Nat}(hg:P.globalNamed name=some g)(dv:(P.globals[g]?).map (·.type)=some t)(ht:P.underlying t=some (.array n e))(he:P.underlying e=some (.int k))(d7:P.cellsOf e=1)(cw:P.cellsOf t=n)(h:Lib.VarReads P W name (Lib.tabData k zs)):Lib.TabIs P W name k zs:=by
 obtain⟨g',t',cs,bh,p,dq,dr,dm,hd⟩:=h;obtain rfl:=Option.some.inj (hg.symm.trans dq);obtain rfl:=Option.some.inj (dv.symm.trans dr);unfold Lib.TabIs;rw[dm,<- Lib.cells_of_tab ht he d7 cw hd]
theorem q5w:(Rows.laid_internal_strconv_uint64pow10:DataW Unit)=Lib.tabData .u64 Lib.pow10Tab:=by kernel_rfl
theorem Qhl(h:laidMetH Tryz.prog Rows.statesUptoRow.laid W):q64 W:=by
 have h2:laidMet Tryz.prog Rows.statesUptoRow.laid W:=h;refine⟨utf8Tabs_of_readsT q8x q8w (Lib.laidMet.reads h2 ?_) (Lib.laidMet.reads h2 ?_),λY hY n hn=>?_⟩
 .rw[<- qxk];simp[Rows.statesUptoRow]
 .rw[<- qui];simp[Rows.statesUptoRow]
 .refine (Tryz.strconv_Itoa n (by omega) (by omega) Y (Lib.tabBelow_of_tabIs (q2e (g:=2) (t:=377) (e:=327) (n:=20) (by kernel_rfl) (by kernel_rfl) (by kernel_rfl) (by kernel_rfl) (by kernel_rfl) (by kernel_rfl) (Lib.laidMet.reads h2 ?_)) Y hY)).mono ?_
  .rw[<- q5w];simp[Rows.statesUptoRow]
  .rintro e w' ⟨k1,q,os,rfl⟩;exact⟨k1,q3g Y q os⟩
theorem contract(H:Type)(enc:TypeId×Vq->H)(W:Wq)(bc:Nat)(args:Array Vq)(ds gs:List (DataW H))(ah:List MemPlace)(cr:∀(j:Nat) t v,Tryz.f4.params[j]?=some t->args[j]?=some v->Value.okWide Tryz.prog W .any bc t v)(hW:DataW.Whole enc Tryz.prog Tryz.f4.params.toList Rows.statesSpec.vars false W args.toList ds gs ah)(hk:Rows.uptoSmall H (ds++gs)=true)(hL:laidMetH Tryz.prog Rows.statesUptoRow.laid W) :
  Cs 4 args W λe W'=>∃v,e=.returned v/\Rows.statesSpec.post enc Tryz.prog Tryz.f4 false true false false W args v W':=by
 have hT:=Qhl hL;have a9:=hW;obtain⟨p,q,aj,hV,rfl,ef,eg⟩:=hW;have hA:DataW.TrodAll enc Tryz.prog W 0 (λ_=>true) true Tryz.f4.params.toList args.toList ds p:=aj;rw[Tryz.params4] at hA cr;obtain⟨v0,eb,d0,ee,p0,q0,d9,rfl,rfl,h0,r0⟩:=trodAll_cons hA;obtain⟨rfl,rfl,rfl⟩:=trodAll_nil r0;obtain rfl:args=#[v0]:=by cases args;simp_all
 obtain⟨rfl,rfl⟩:=trodVars_none hV;obtain⟨a0,len,cap,rfl⟩:=okWide_slice Tryz.underlying36 (cr 0 36 v0 rfl rfl);clear aj;simp only[List.append_nil] at a9 hk;have ad:∀x∈p0,x.block < W.heap.size:=λx hx=>by simpa using a9.lt x hx
 have bq:Cs 4 #[.slice a0 len cap] W λe w'=>e=.returned (.bool true)/\Below W.heap.size W w':=by
  obtain⟨bh,hf⟩:=h0;obtain⟨l,a6,de,d6⟩:=q6c hf
  have dz:Rows.uptoBulk d0<=1048576:=by
   have h:=of_decide_eq_true hk;simp only[Rows.uptoBulkAll] at h;omega
  obtain⟨h1,h2⟩:=d6 dz;exact qyx l _ W a6 h1 (λo ho=>⟨h2 o ho,de o ho⟩) hT
 refine bq.mono λe W2 ⟨he,hB⟩=>?_;subst he;refine⟨_,rfl,_,_,_,[],p0,[],a9,?_,?_,rfl,hB.frame _,λh=>by cases h⟩
 .exact trodAll_mk1 (shut_bool Tryz.underlying4 _)
 .exact trodAll_mk1 (Below.trod q5d (by kernel_rfl) (of_decide_eq_true (by kernel_rfl)) h0 hB ad)
