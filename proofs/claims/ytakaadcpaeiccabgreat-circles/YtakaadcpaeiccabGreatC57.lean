import Derived.Test.YtakaadcpaeiccabGreatC56
import Derived.Test.YtakaadcpaeiccabGreatC55
set_option maxHeartbeats 8000000
set_option maxRecDepth 100000
namespace Go.Proofs.YtakaadcpaeiccabGreat
open Go.RowKit Go.Maps Go.MuLone
theorem Po {N:Nat} {g:bA} {s:St} {TL:List Hp.Tm} {w:World}(n:Nn N g s TL w) {k:Int}(hI:s.Inv k)(hk:k≤100000000000)(hT:dM s TL)(now fr:Int)(fq:s.now≤now∧now≤4611686018427387904)(hfr:bg fr)(v:Value)(xs:List Int)(hv:VB w v xs):
  Calls Tryz.prog 25 #[.pointer(some⟨N,0,none⟩),.int .u64 now,.int .u32 fr,v]w fun e w'=>∃o,e=.returned o∧Hid((s.rcv now fr xs).Inv(k+1))∧Az N g s(s.rcv now fr xs)w o w':=by
 have hA:=n.cr.tb.ok;have hl:=n.cr.tb.len;have hb0:Below w.heap.size w(w.alloc iN):=(Below.refl _ _).alloc(Nat.le_refl _)_;have hC0:(w.alloc iN).heap[w.heap.size]?=some iN:=heap_alloc_new _ _;have jS:¬Ft N g s w.heap.size:=fun h=>by have:=n.lt h;omega
 have hs0:(w.alloc iN).heap.size=w.heap.size+1:=by simp
 have n0:=n.later hb0;have hv0:=hv.later hb0;have hM:=(qB hI).2 now fq hA hl;obtain⟨s3,hs3⟩:∃z,s.aQ.begin now=z:=⟨_,rfl⟩;rw [hs3]at hM;have Gq:Hid(s3.lk=1):=by show _=_;rw [←hs3];rfl
 have LW:Hid(s3.Q=s.Q):=by show _=_;rw [←hs3];rfl
 have w_:Hid(s3.now=now):=by show _=_;rw [←hs3];rfl
 have Sq:Hid(s3.me=s.me):=by show _=_;rw [←hs3];rfl
 replace hM:=hide hM;dsimp only [iN]at hb0 hC0 hs0 n0 hv0
 go_enter_defers Tryz.func25,Tryz.ntmps25
 go_upto_region 1 with(fail)
 generalize World.alloc _ _=W1 at hb0 hC0 hs0 n0 hv0 ⊢;obtain⟨c0,f0⟩:=n0.Ib;rw [hI.lk]at c0;go_wp2_with fail
 refine Calls.mono(lock_free lu⟨N,0,none⟩W1 c0 f0) ?_;rintro e w2⟨rfl,rfl⟩;obtain⟨n2,hg2⟩:=n0.j_ 1;have hf2:Fx(Ft N g s)w(W1.setCell⟨N,0,none⟩(.int .i32 1)):=aT(Fx.below hb0)hg2(fun i _ e=>by cases e;exact .inl(.inl rfl));have hv2:=n0.vb hv0(Fx.grown hg2 fun k e=>by cases e;exact .inl(.inl rfl));have hC2:=(hg2.block w.heap.size(by omega)(fun e=>jS(by cases e;exact .inl(.inl rfl)))).trans hC0;have hs2:w.heap.size+1≤(W1.setCell⟨N,0,none⟩(.int .i32 1)).heap.size:=by
  have:=hg2.size;omega
 have hcn:=hI.cnt;have HB:=hide(yn n2 now⟨hI.dom.mb,hI.dom.on,hI.dom.own⟩⟨hcn.1,by dsimp only;omega⟩);rw [show({s with lk:=1}:St).begin now=s3 from hs3]at HB;have hF1:Hid(∀k,Ft N({g with x:={g.x with lk:=1}}:bA)({s with lk:=1}:St)k→Ft N g s k):=fun k h=>h;replace hs3:=hide hs3;clear n0 hv0 hC0 hs0 hb0 c0 f0 hg2 hA hl hcn;generalize({g with x:={g.x with lk:=1}}:bA)=g1 at n2 HB hF1;generalize({s with lk:=1}:St)=s1 at n2 HB hF1;generalize World.setCell _ _ _=W2 at n2 hf2 hv2 hC2 hs2 HB ⊢;go_wp2_with fail
 refine Calls.mono HB.out ?_;rintro e w3⟨g3,rfl,n3,u3,YT,t3⟩;clear t3;have hv3:=n2.vb hv2 YT;clear HB;have Ta:Hid(dM s3 TL):=by
  show dM _ _;unfold dM;rw [LW.out];exact hT
 have hlen:=n3.nn.ZC Ta.out;have xm:=hM.out.fine(by omega);have HH:=hide(aby n3 xm(by have:=hM.out.tn;omega)(by omega)fr hfr v xs hv3.1);have Oh:=hide n3.nn.ids;have DD:=hide n3.nn.rs.sr.qA;have acv:Hid(∀q∈s3.Q,q.txt.length≤4):=fun q hq=>(n3.nn.rs.sr.ok q hq).txt;have hpk:Hid(Eff 5 s3(s3.hear fr xs)):=zT s3 fr xs hv3.1.1 acv.out;clear hv2 hv3 YT n2 n3;go_wp2_with fail
 refine Calls.mono HH.out ?_;rintro e w5⟨rfl,PU,⟨g5,n5,u5,t5⟩,d5,PN⟩;obtain⟨s5,hs5⟩:∃z,s3.hear fr xs=z:=⟨_,rfl⟩;rw [hs5]at n5 u5 PN hpk;have Xc:Hid(dM s5 PU):=Zh PN Ta.out Oh.out DD.out;have nE:Hid(s5.Mid k 6):=uF hM.out hpk.out;have DK:Hid(s5.lk=1):=hpk.out.lk.trans Gq.out;have xE:=u3.trans u5;replace hs5:=hide hs5;clear HH u3 u5 PN Oh DD acv hpk xm hlen;have LX:=hide(lV nE.out(by omega)n5.nn.cr.tb.ok n5.nn.cr.tb.len);have ME:=hide(oq n5 nE.out.dom(by have:=nE.out.cnt;omega)(by have:=nE.out.a_;omega)nE.out.bd nE.out.seq);go_wp2_with fail
 refine Calls.mono ME.out ?_;rintro e w6⟨g6,rfl,n6,u6,t6⟩;obtain⟨s6,hs6⟩:∃z,s5.finish=z:=⟨_,rfl⟩;have DJ:s6.lk=1:=by rw [←hs6,(aO s5).lk];exact DK.out
 have Xb:Hid(dM s6 PU):=by
  show dM _ _;unfold dM;rw [←hs6,(aO s5).Q];exact Xc.out
 have jo:Hid(s.rcv now fr xs=s6.freed):=by
  show _=_;rw [←hs6];unfold St.rcv St.receive;rw [hs3.out,hs5.out]
 rw [hs6]at n6 u6 LX ⊢;have mI:=xE.trans u6;clear ME hs6 u6 n5 xE;have DY:=mI.Qd(Nat.le_refl _);have mU:∀k,Ft N g6 s6 k→Ft N g s k∨(w.heap.size≤k∧k<w6.heap.size):=fun k hk=>(mI.sub k hk).elim(fun h=> .inl(hF1.out k h))fun h=> .inr⟨by omega,h.2⟩;have cK:=(DY.block w.heap.size(by omega)(fun h=>jS(hF1.out _ h))).trans hC2;have jY:¬Ft N g6 s6 w.heap.size:=fun h=>(mI.sub _ h).elim(fun h=>jS(hF1.out _ h))(by omega);have LP:=hf2.trans DY(fun i _ h=>hF1.out i h);have r1:=ownsRow_base_a n6.ac.aI(show w.heap.size≤W2.heap.size+1 by omega);have r2:=ownsRow_base_a n6.ac.bH(show w.heap.size≤W2.heap.size+1 by omega);have r3:=ownsRow_base_a n6.ac.bI(show w.heap.size≤W2.heap.size+1 by omega);have m6:=n6.nn;obtain⟨af,kf,hf,_⟩:=ak r1;obtain⟨ac,kc,hc,_⟩:=ak r2;obtain⟨ad,kd,hdd,_⟩:=ak r3;rw [hf]at r1;rw [hc]at r2;rw [hdd]at r3;rw [hf,hc,hdd];simp only [iE];clear n6 hf hc hdd mI DY hf2 hC2;generalize hjj:s6.aY=jj;replace hjj:=hide hjj;have z0:w6.cell?⟨w.heap.size,0,none⟩=some(.string⟨#[]⟩):=cell_of_row _ _ 0 _ _ _ cK;have z1:w6.cell?⟨w.heap.size,1,none⟩=some(.bool false):=cell_of_row _ _ 1 _ _ _ cK;have z2:w6.cell?⟨w.heap.size,2,none⟩=some(.slice none 0 0):=cell_of_row _ _ 2 _ _ _ cK;have z3:w6.cell?⟨w.heap.size,3,none⟩=some(.slice none 0 0):=cell_of_row _ _ 3 _ _ _ cK;have z4:w6.cell?⟨w.heap.size,4,none⟩=some(.slice none 0 0):=cell_of_row _ _ 4 _ _ _ cK;have y0:=frozen_of_row w6 w.heap.size 0 _ _ cK;have y1:=frozen_of_row w6 w.heap.size 1 _ _ cK;have y2:=frozen_of_row w6 w.heap.size 2 _ _ cK;have y3:=frozen_of_row w6 w.heap.size 3 _ _ cK;have y4:=frozen_of_row w6 w.heap.size 4 _ _ cK;have gB:=aa(aa(aa(aa(aa(aC w6(some w.heap.size))0(.string jj))1(.bool s6.aZ))2(.slice af s6.aH.length kf))3(.slice ac s6.aR.length kc))4(.slice ad s6.aN.length kd);have dI:(((((w6.setCell⟨w.heap.size,0,none⟩(.string jj)).setCell⟨w.heap.size,1,none⟩(.bool s6.aZ)).setCell⟨w.heap.size,2,none⟩(.slice af s6.aH.length kf)).setCell⟨w.heap.size,3,none⟩(.slice ac s6.aR.length kc)).setCell⟨w.heap.size,4,none⟩(.slice ad s6.aN.length kd)).heap[w.heap.size]?=some(.cells #[.string jj,.bool s6.aZ,.slice af s6.aH.length kf,.slice ac s6.aR.length kc,.slice ad s6.aN.length kd]52):=by
  simp [World.setCell,Array.getElem?_modify,cK]
 have r1:=r1.kept gB(.inr(aA r1 cK(fun c e=>(by cases e))));have r2:=r2.kept gB(.inr(aA r2 cK(fun c e=>(by cases e))));have r3:=r3.kept gB(.inr(aA r3 cK(fun c e=>(by cases e))));have m7:=m6.kept fun k hk=>gB.block k(m6.lt hk)(fun e=>jY(by cases e;exact hk));have pg:=aT LP gB(fun i hi e=>by cases e;omega);have jP:=fun k hk=>(mU k hk).dh fun h=>(⟨h.1,Nat.lt_of_lt_of_le h.2 gB.size⟩:w.heap.size≤k∧_);clear m6 gB LP cK mU;go_wp2_with fail
 generalize World.setCell _ _ _=W7 at dI r1 r2 r3 m7 pg jP ⊢;have p0:W7.cell?⟨w.heap.size,0,none⟩=some(.string jj):=cell_of_row _ _ 0 _ _ _ dI;have p1:W7.cell?⟨w.heap.size,1,none⟩=some(.bool s6.aZ):=cell_of_row _ _ 1 _ _ _ dI;have p2:W7.cell?⟨w.heap.size,2,none⟩=some(.slice af s6.aH.length kf):=cell_of_row _ _ 2 _ _ _ dI;have p3:W7.cell?⟨w.heap.size,3,none⟩=some(.slice ac s6.aR.length kc):=cell_of_row _ _ 3 _ _ _ dI;have p4:W7.cell?⟨w.heap.size,4,none⟩=some(.slice ad s6.aN.length kd):=cell_of_row _ _ 4 _ _ _ dI;obtain⟨c0,f0⟩:=m7.Ib;rw [DJ]at c0;refine leaves_cons(f:=50)(args:=#[.pointer(some⟨N,0,none⟩)])(by simp)(by simp [go_sem]) ?_;refine(unlock_deferred lu⟨N,0,none⟩ .returning W7 c0 f0).mono ?_;rintro e u' w''⟨rfl,rfl,rfl⟩;obtain⟨m8,jh⟩:=m7.j_ 0;have AO:N≠w.heap.size:=fun e=>jY(by rw [←e];exact .inl(.inl rfl));have bU:=(jh.block w.heap.size(aD dI)(fun e=>by cases e;exact AO rfl)).trans dI;have r1:=r1.kept jh(.inr(aA r1 m7.cr.nd(fun c e=>(by cases e))));have r2:=r2.kept jh(.inr(aA r2 m7.cr.nd(fun c e=>(by cases e))));have r3:=r3.kept jh(.inr(aA r3 m7.cr.nd(fun c e=>(by cases e))));have xc:=aT pg jh(fun i hi e=>by cases e;exact .inl(.inl rfl));have mR:=fun k hk=>(jP k hk).dh fun h=>(⟨h.1,Nat.lt_of_lt_of_le h.2 jh.size⟩:w.heap.size≤k∧_);clear p0 p1 p2 p3 p4 c0 f0 jh m7 pg jP dI;generalize World.setCell _ _ _=W8 at bU r1 r2 r3 m8 xc mR ⊢;have p0:W8.cell?⟨w.heap.size,0,none⟩=some(.string jj):=cell_of_row _ _ 0 _ _ _ bU;have p1:W8.cell?⟨w.heap.size,1,none⟩=some(.bool s6.aZ):=cell_of_row _ _ 1 _ _ _ bU;have p2:W8.cell?⟨w.heap.size,2,none⟩=some(.slice af s6.aH.length kf):=cell_of_row _ _ 2 _ _ _ bU;have p3:W8.cell?⟨w.heap.size,3,none⟩=some(.slice ac s6.aR.length kc):=cell_of_row _ _ 3 _ _ _ bU;have p4:W8.cell?⟨w.heap.size,4,none⟩=some(.slice ad s6.aN.length kd):=cell_of_row _ _ 4 _ _ _ bU;refine⟨.agg #[.string jj,.bool s6.aZ,.slice af s6.aH.length kf,.slice ac s6.aR.length kc,.slice ad s6.aN.length kd],by simp [results,Tryz.results25,go_sem,p0,p1,p2,p3,p4],_,rfl,?_⟩;rw [jo.out];refine⟨LX,_,PU,.slice af s6.aH.length kf,.slice ac s6.aR.length kc,.slice ad s6.aN.length kd,?_,m8,Xb.out,r1,r2,r3,xc,mR⟩;rw [←hjj.out];rfl
theorem Ei {y:MG} {m:aK} {W W':World}(h:MM y m W) {κ:Int} {q q':Nat}(hok:iC κ q m) {i:Nat} {x:SG} {s:bi} {z z':St} {o:Value}(h1:y.L[i]?=some x)(h2:m.S[i]?=some s)(hz:s.nd=some z)(c:Az x.N x.g z z' W o W')(hI:z'.Inv(κ+1))(hp:z'.Ph)(hme:z'.me=z.me)(fq:z'.now=m.now)(hq:q≤q')(hql:z'.Q.length≤q')(hc:Kc z.cnt z'):
  ∃aI bH bI y2,o=iE z'.aY z'.aZ aI bH bI∧h_ W.heap.size z'.aH z'.aR z'.aN aI bH bI W'∧MM y2(m.put i {s with nd:=some z'})W'∧MU y m y2(m.put i {s with nd:=some z'})W W'∧Bn(κ+1)q'(m.put i {s with nd:=some z'})i z':=by
 obtain⟨aI,bH,bI,e,hor,y2,hm2,hu2⟩:=h.call h1 h2 hz c;have hi:=(List.getElem?_eq_some_iff.1 h2).1;have hS:(m.put i {s with nd:=some z'}).S[i]?=some {s with nd:=some z'}:=by rw [(gK _ _ _).1,List.getElem?_set_self hi]
 obtain⟨x2,hx2⟩:∃x2,y2.L[i]?=some x2:=⟨_,List.getElem?_eq_getElem(by rw [hm2.len,(gK _ _ _).1,List.length_set];exact hi)⟩;obtain⟨nn,_⟩:=(hm2.st i x2 _ hx2 hS).nd z' rfl;exact⟨aI,bH,bI,y2,e,hor,hm2,hu2,hok.called(by omega)hq h2 hz hc⟨hI,hp,hme.trans((hok.at h2).nd z hz).me,by rw [fq];exact Int.le_refl _,hql,nn.cr.tb.ok,nn.cr.tb.len⟩⟩
theorem Nn.MZ {N:Nat} {g:bA} {s:St} {TL:List Hp.Tm} {W:World}(n:Nn N g s TL W):lD s:=fun q hq=>⟨(n.rs.sr.ok q hq).txt,(n.rs.sr.ok q hq).aS⟩
theorem Ad {m:aK} {i:Nat} {s:bi}(h:m.S[i]?=some s)(z:St):m.act i z=(m.put i {s with nd:=some z}).did i z.ot:=by
 unfold aK.act;rw [eB h]
theorem TJ(s:ByteArray)(hs:s.size≤65536)(w:World):∃cap W,(convert 9 58(.string s)).run Tryz.prog w=.ok(.slice(some⟨w.heap.size,0,none⟩)s.size cap)W∧Below w.heap.size w W∧VB W(.slice(some⟨w.heap.size,0,none⟩)s.size cap)(aF s):=by
 refine⟨_,_,run_bytes_of_string(P:=Tryz.prog)w 9 58 5 s Tryz.underlying9 Tryz.underlying58 Tryz.underlying5,(Below.refl w.heap.size w).drew.alloc(Nat.le_refl _)_,Qy s hs w _,fun b o n c hv=> ?_⟩;simp only [Value.slice.injEq,Option.some.injEq,Addr.mk.injEq,and_true]at hv;obtain⟨⟨rfl,rfl⟩,_⟩:=hv;exact⟨_,_,heap_alloc_new w.drew _⟩
theorem EQ {x:SG} {s:bi} {W:World}(h:mf x s W)(b:Nat)(hb:b<6)(on:Bool):mG x s {s with hrs:=s.hrs.set b on}W(W.setCell⟨x.B,3+b,none⟩(.bool on)):=by
 have hl:=h.hl;refine h.set(x':=x)(s':={s with hrs:=s.hrs.set b on})(3+b)(.bool on)rfl ?_(by rw [List.length_set];exact hl)⟨rfl,rfl⟩(fun z hz=>⟨hz,rfl,rfl,rfl⟩);have hbl:b<s.hrs.length:=by omega
 simp [ED,List.oK,List.map_set,hl,Nat.add_comm 3 b];omega
theorem abH {y:MG} {m:aK} {w:World}(h:MM y m w)(a b:Nat)(ha:a<m.S.length)(hb:b<m.S.length)(hn:m.S.length≤6)(on:Bool):Calls Tryz.prog 29 #[.pointer(some⟨y.G,0,none⟩),.int .i64 a,.int .i64 b,.bool on]w fun e w'=>e=.returned(.tuple #[])∧MP y m(m.link a b on)w w':=by
 by_cases hab:a=b
 ·subst hab;have ho:m.link a a on=m:=by unfold aK.link;rw [if_pos rfl]
  have hfin:MP y m(m.link a a on)w w:=by rw [ho];exact MP.refl h
  clear h ho;go_enter Tryz.func29,Tryz.ntmps29
  go_wp2
  go_returns
  exact⟨rfl,hfin⟩
 ·obtain⟨xa,sa,g,c,e1,e2,e3,e4,p0⟩:=h.get ha;obtain⟨_,q1,_,_⟩:=h.cell;rw [e4]at q1;have hab':((a:Int)==(b:Int))=false:=by
   have:¬(a:Int)=(b:Int):=by omega
   simpa using this
  have han:(a:Int)<(m.S.length:Int):=by omega
  have hbn:(b:Int)<(m.S.length:Int):=by omega
  have ha6:(a:Int)<6:=by omega
  have hb6:(b:Int)<6:=by omega
  obtain⟨_,_,_,_,_,hh,fz⟩:=(h.st a xa sa e1 e2).cell;have hhl:=(h.st a xa sa e1 e2).hl;have k0:=hh b _(List.getElem?_eq_getElem(by omega));have k1:=fz(3+b);obtain⟨y1,hm1,hu1⟩:=h.Zm e1 e2(EQ(h.st a xa sa e1 e2)b(by omega)on);obtain⟨m1,WX⟩:∃m1,m.put a {sa with hrs:=sa.hrs.set b on}=m1:=⟨_,rfl⟩;have hS1:m1.S.length=m.S.length:=by rw [←WX,(gK _ _ _).1,List.length_set]
  have hl:m.link a b on=m1.put b {m1.at' b with hrs:=(m1.at' b).hrs.set a on}:=by
   unfold aK.link;rw [if_neg hab,e3,WX]
  rw [WX]at hm1 hu1;obtain⟨xb,sb,g',c',f1,f2,f3,f4,p1⟩:=hm1.get(i:=b)(by rw [hS1];exact hb);obtain⟨_,r1,_,_⟩:=hm1.cell;obtain⟨_,_,_,_,_,hh',fz'⟩:=(hm1.st b xb sb f1 f2).cell;have afW:=(hm1.st b xb sb f1 f2).hl;have k2:=hh' a _(List.getElem?_eq_getElem(by omega));have k3:=fz'(3+a);have hp2:=hm1.Zm f1 f2(EQ(hm1.st b xb sb f1 f2)a(by omega)on);rw [f4,hS1]at r1;rw [hu1.G]at r1;have hfin:MP y m(m.link a b on)w((w.setCell⟨xa.B,3+b,none⟩(.bool on)).setCell⟨xb.B,3+a,none⟩(.bool on)):=by
   rw [hl,f3];exact MP.comp hu1 hp2
  generalize sa.hrs[b]=v0 at k0;generalize sb.hrs[a]=v1 at k2;clear h hm1 hu1 hp2 hl WX e1 e2 e3 e4 f1 f2 f3 f4 hh hh' fz fz' hab;go_enter Tryz.func29,Tryz.ntmps29
  go_wp2
  go_returns
  exact⟨rfl,hfin⟩
theorem nJ.at9 {base:Nat} {v:Value} {L:List(Rt×Value)} {W W':World}(h:nJ base v L W)(he:∀(k:Nat)(c:Array Value)(t:Nat),t∈([38,34]:List Nat)→base≤k→W.heap[k]?=some(Obj.cells c t(0,0))→W'.heap[k]?=W.heap[k]?):nJ base v L W':=
 ⟨bD h.row fun k hk=>by
  obtain⟨c,hc⟩:=aP h.row hk;exact he k c 38(by decide)(h.row.lt k hk).1 hc,fun p hp=>bD(h.bB p hp)fun k hk=>by
  obtain⟨c,hc⟩:=aP(h.bB p hp)hk;exact he k c 34(by decide)((h.bB p hp).lt k hk).1 hc⟩
theorem Uw {N:Nat} {g:bA} {s:St} {TL:List Hp.Tm} {w:World}(n:Nn N g s TL w)(hlk:s.lk=0):
  Calls Tryz.prog 26 #[.pointer(some⟨N,0,none⟩)]w fun e w'=>∃v L,e=.returned v∧L.map(·.1)=s.A∧nJ w.heap.size v L w'∧Nn N g s TL w'∧Fx(Ft N g s)w w':=by
 obtain⟨c0,g0⟩:=n.Ib;rw [hlk]at c0;obtain⟨n2,hg2⟩:=n.j_ 1;have hf2:Fx(Ft N g s)w(w.setCell⟨N,0,none⟩(.int .i32 1)):=Fx.grown hg2 fun k e=>by cases e;exact .inl(.inl rfl)
 have hsz:(w.setCell⟨N,0,none⟩(.int .i32 1)).heap.size=w.heap.size:=by simp
 have h0:g.x.lk=0:=n.eq.lk.trans hlk;have hx:({g with x:={g.x with lk:=0}}:bA)=g:=by rw [←h0]
 have hs0:({s with lk:=0}:St)=s:=by rw [←hlk]
 have hNl:=n.lt(.inl(.inl rfl));clear hg2
 go_enter_defers Tryz.func26,Tryz.ntmps26
 go_wp2_with fail
 refine Calls.mono(lock_free lu⟨N,0,none⟩w c0 g0) ?_;rintro e w2⟨rfl,rfl⟩;generalize World.setCell _ _ _=W2 at n2 hf2 hsz ⊢;have c5:=n2.cr.nd.cell.2.2.2.2.1;dsimp only at c5;go_wp2_with fail
 refine Calls.mono(Hu n2.cr.tb) ?_;rintro e w3⟨v,L,rfl,hL,hls,hb3⟩;obtain⟨ao,c,rfl,hH⟩:=ak hls.row;have n3:=n2.later hb3;obtain⟨u0,g2⟩:=n3.Ib;obtain⟨n4,hg4⟩:=n3.j_ 0;have hf4:Fx(Ft N g s)w(w3.setCell⟨N,0,none⟩(.int .i32 0)):=aT(hf2.trans(Fx.below(S:=fun _=>False)hb3)(fun _ _ h=>h.elim))hg4(fun i _ e=>by cases e;exact .inl(.inl rfl));have aeB:nJ w.heap.size(.slice ao L.length c)L(w3.setCell⟨N,0,none⟩(.int .i32 0)):=by
  rw [←hsz];exact hls.at9 fun k cc t ht hk hc=>hg4.block k(aD hc)fun e=>by
   cases e;have:=n2.cr.nd;rw [hsz]at hk;omega
 have n5:Nn N g s TL(w3.setCell⟨N,0,none⟩(.int .i32 0)):=by
  have h:=n4;rw [show({({g with x:={g.x with lk:=1}}:bA)with x:={({g with x:={g.x with lk:=1}}:bA).x with lk:=0}}:bA)={g with x:={g.x with lk:=0}}from rfl,hx]at h;rw [show({({s with lk:=1}:St)with lk:=0}:St)={s with lk:=0}from rfl,hs0]at h;exact h
 dsimp only at u0;clear n2 n3 n4 hls hg4 hf2 hH;go_wp2_with fail
 refine leaves_cons(f:=50)(args:=#[.pointer(some⟨N,0,none⟩)])(by simp)(by simp [go_sem]) ?_;refine(unlock_deferred lu⟨N,0,none⟩ .returning w3 u0 g2).mono ?_;rintro e u' w''⟨rfl,rfl,rfl⟩;exact⟨_,results_tmp rfl _ _ _,.slice ao L.length c,L,rfl,hL,aeB,n5,hf4⟩
theorem Cu {y:MG} {m:aK} {w:World}(h:MM y m w)(k:Nat)(hk:k<m.S.length)(hlk:∀z,(m.at' k).nd=some z→z.lk=0):Calls Tryz.prog 12 #[.pointer(some⟨y.G,0,none⟩),.int .i64 k]w fun e w'=>∃v L,e=.returned v∧L.map(·.1)=m.tab k∧nJ w.heap.size v L w'∧MM y m w'∧MU y m y m w w':=by
 obtain⟨x,s,g,c,e1,e2,e3,e4,p0⟩:=h.get hk;obtain⟨_,q1,_,_⟩:=h.cell;rw [e4]at q1;have c2:=(h.st k x s e1 e2).cell.2.2.1;have HR:=hide(Ew h k);have hkn:(k:Int)<(m.S.length:Int):=by omega
 have hrun:m.runs k=s.nd.isSome:=by
  unfold aK.runs aK.has;simp [hk,e3]
 rw [hrun]at HR;rw [e3]at hlk;have htab:m.tab k=match s.nd with|none=> []|some z=>z.A:=by
  unfold aK.tab;rw [e3];cases s.nd<;>rfl
 rw [htab];cases hnd:s.nd with
 |none=>
  rw [hnd]at HR;simp only [Option.isSome_none]at HR;have hfin:=h;clear h e1 e2 e3 e4 hrun q1 c2 p0;go_enter Tryz.func12,Tryz.ntmps12
  go_wp2_with fail
  refine Calls.mono HR.out ?_;rintro e w2⟨rfl,rfl⟩;go_wp2
  go_ret
  exact⟨_,[],rfl,rfl,⟨⟨rfl,.inl⟨rfl,rfl⟩⟩,fun p hp=>by cases hp⟩,hfin,MU.refl _ _ _⟩
 |some z=>
  rw [hnd]at HR c2;simp only [Option.gN]at HR;unfold Lg at c2;obtain⟨nn,tm⟩:=(h.st k x s e1 e2).nd z hnd;have HN:=Uw nn(hlk z hnd);have HN2:Hid(Calls Tryz.prog 26 #[.pointer(some⟨x.N,0,none⟩)]w fun e w'=>∃v L,e=.returned v∧L.map(·.1)=z.A∧nJ w.heap.size v L w'∧MM y m w'∧MU y m y m w w'):=by
   refine HN.mono ?_;rintro e w'⟨v,L,rfl,hL,hls,n2,fx⟩;have hst:=h.st k x s e1 e2;have hB:¬Ft x.N x.g z x.B:=fun hk=>by
    obtain⟨o,ho,hK⟩:=nn.kind hk;rw [hst.blk]at ho;cases ho;exact hK.not(by decide)
   have hJ:∀k,x.jv.ownBlock=some k→¬Ft x.N x.g z k:=fun k hk hf=>by
    obtain⟨o,ho,hK⟩:=nn.kind hf;obtain⟨cc,hc⟩:=aP hst.row hk;rw [hc]at ho;cases ho;exact hK.not(by decide)
   have hst':mf x s w':=⟨(fx.block _(aD hst.blk)hB).trans hst.blk,hst.hl,bD hst.row fun k hk=>fx.block k(hst.row.lt k hk).2(hJ k hk),fun u hu=>by
    rw [hnd]at hu;cases hu;exact⟨n2,tm⟩⟩
   have hmp:=h.turn e1 e2(fx.mono fun k hk=> .inr(.inr⟨z,hnd,hk⟩))hst' rfl fun k hk=> .inl hk;have h5:m.S.set k s=m.S:=by
    obtain⟨h5,h6⟩:=List.getElem?_eq_some_iff.1 e2;rw [←h6];exact List.nP h5
   have h6:y.L.set k x=y.L:=by
    obtain⟨h5,h6⟩:=List.getElem?_eq_some_iff.1 e1;rw [←h6];exact List.nP h5
   rw [h5,h6]at hmp;exact⟨v,L,rfl,hL,hls,hmp.1,hmp.2⟩
  clear h e1 e2 e3 e4 hrun HN nn tm;go_enter Tryz.func12,Tryz.ntmps12
  go_wp2_with fail
  refine Calls.mono HR.out ?_;rintro e w2⟨rfl,rfl⟩;go_wp2_with fail
  refine Calls.mono HN2.out ?_;rintro e w3⟨v,L,rfl,hL,hls,hp,hu⟩;clear HN2 HR;go_wp2
  go_ret
  exact⟨v,L,rfl,hL,hls,hp,hu⟩
end Go.Proofs.YtakaadcpaeiccabGreat
