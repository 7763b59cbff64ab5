import Derived.Test.YtakaadcpaeiccabGreatC38
import Derived.Laws.EntriesVeiled
set_option maxHeartbeats 8000000
set_option maxRecDepth 100000
namespace Go.Proofs.YtakaadcpaeiccabGreat
open Go.RowKit Go.Maps
@[reducible] def HWt (N Bq Tm : Nat) (d : Int) (W : World) : Prop := W.cell? ⟨N, 14, none⟩ = some (.pointer (some ⟨Tm, 0, none⟩)) ∧ W.cell? ⟨Bq, 0, none⟩ = some (.int .u32 d)
theorem HWt.of {N B:Nat} {g:bA} {s:St} {TL:List Hp.Tm} {W:World}(n:Nd N B g s TL W) {q:Sr}(hq:q∈s.Q) {Bq:Nat}(hB:g.h q.dest=some Bq):HWt N Bq g.x.Tm q.dest W:=by
 obtain⟨B',h1,h2⟩:=n.nn.rs.sr.ln q hq;rw [hB]at h1;cases h1;exact⟨n.nn.cr.nd.more.2.2.2.1,h2.cell.1⟩
theorem rH.abR {B:Nat} {q:Sr} {v fn:Value} {W:World}(h:rH B q v fn W)(i:Int):rH B {q with id:=i}v fn(W.setCell⟨B,4,none⟩(.int .i64 i)):=by
 unfold rH at h ⊢;simp [World.setCell,Array.getElem?_modify,h]
theorem rH.abU {B:Nat} {q:Sr} {v fn:Value} {W:World}(h:rH B q v fn W)(f:Value):rH B q v f(W.setCell⟨B,5,none⟩f):=by
 unfold rH at h ⊢;simp [World.setCell,Array.getElem?_modify,h]
theorem sO(Q:List Sr) {a b:Sr}(h:a.dest=b.dest):St.di(St.di Q a)b=St.di Q b:=by
 unfold St.di;rw [List.map_map];refine List.map_congr_left fun z _=> ?_;show(if(if z.dest=a.dest then a else z).dest=b.dest then b else(if z.dest=a.dest then a else z))=_;by_cases e:z.dest=a.dest
 ·rw [if_pos e,if_pos h,if_pos(e.trans h)]
 ·rw [if_neg e]
def WtP(N B:Nat)(g:bA)(s:St)(TL:List Hp.Tm)(q:Sr)(t:Int)(o:Bool)(w w':World):Prop:=
 ∃g',Nd N B g' {s with tl:=s.tl+1,Q:=St.di s.Q {q with due:=t,id:=s.tl+1,out:=o}}(TL++ [(t,s.tl+1,q.dest)])w'∧Up B(Ft N g s)(Ft N g' {s with tl:=s.tl+1,Q:=St.di s.Q {q with due:=t,id:=s.tl+1,out:=o}})w w'∧Hid(g'.x.T=g.x.T)∧Hid(g'.h=g.h∧g'.u=g.u)
theorem Un {N B:Nat} {g:bA} {s:St} {TL:List Hp.Tm} {w:World}(n:Nd N B g s TL w)(q:Sr)(hq:q∈s.Q)(Bq:Nat)(hB:g.h q.dest=some Bq)(t:Int)(ht:0≤t∧t<18446744073709551616)(o:Bool)(hl:TL.length≤900000)(htl:0≤s.tl∧s.tl≤4000000000000000000)(hid:∀x∈TL,x.2.1≤s.tl):
  Calls Tryz.prog 121 #[.pointer(some⟨Bq,0,none⟩),.pointer(some⟨N,0,none⟩),.int .u64 t,CG o Bq]w fun e w'=>e=.returned(.tuple #[])∧WtP N B g s TL q t o w w':=by
 have hok:=n.nn.rs.sr.ok q hq;have hS:HWt N Bq g.x.Tm q.dest w.drew:=HWt.of n.drew hq hB;have aeQ:oC q.dest:=by have:=hok.dest;unfold bg at this;unfold oC;omega
 have HA:=hide(abu n.drew t q.dest ht aeQ hl htl hid);have hwc:IntKind.i64.wrap q.dest=q.dest:=by
  have:=hok.dest;unfold bg at this;simp only [IntKind.wrap,IntKind.signed,IntKind.bits];simp;omega
 have hK:Hid(∀h' v' w2,Nd N B {g with hp:=h',tv:=v'} {s with tl:=s.tl+1}(TL++ [(t,s.tl+1,q.dest)])w2→HWt N Bq g.x.Tm q.dest w2∧(∃x,w2.cell?⟨Bq,4,none⟩=some x)∧w2.frozen?⟨Bq,4,none⟩=false∧HWt N Bq g.x.Tm q.dest(w2.setCell⟨Bq,4,none⟩(.int .i64(s.tl+1)))∧(∃x,(w2.setCell⟨Bq,4,none⟩(.int .i64(s.tl+1))).cell?⟨Bq,5,none⟩=some x)∧(w2.setCell⟨Bq,4,none⟩(.int .i64(s.tl+1))).frozen?⟨Bq,5,none⟩=false∧
   ∀u,Up B u(Ft N {g with hp:=h',tv:=v'} {s with tl:=s.tl+1})w w2→u=Ft N g s→WtP N B g s TL q t o w((w2.setCell⟨Bq,4,none⟩(.int .i64(s.tl+1))).setCell⟨Bq,5,none⟩(CG o Bq))):=by
  intro h' v' w2 n2;obtain⟨B',h1,fn,h2,_⟩:=n2.nn.rs.sr.ln q hq;rw [show({g with hp:=h',tv:=v'}:bA).h q.dest=some Bq from hB]at h1;cases h1;have h3:=h2.abR(s.tl+1);have h4:=h3.abU(CG o Bq);have hNB:N≠Bq:=by
   rintro rfl;unfold rH at h2;rw [show w2.heap[N]?=_ from n2.nn.cr.nd]at h2;cases h2
  have hgB:w2.grownBy((w2.setCell⟨Bq,4,none⟩(.int .i64(s.tl+1))).setCell⟨Bq,5,none⟩(CG o Bq))(some Bq):=aa(aa(aC _(some Bq))4 _)5 _;have zI:ib N g.x(w2.setCell⟨Bq,4,none⟩(.int .i64(s.tl+1))):=(n2.nn.cr.nd).kept(aa(aC _(some Bq))4 _)(fun e=>hNB(Option.some.inj e).symm);refine⟨⟨n2.nn.cr.nd.more.2.2.2.1,h2.cell.1⟩,⟨_,h2.cell.2.2.2.2.1⟩,h2.free 4,⟨zI.more.2.2.2.1,h3.cell.1⟩,⟨_,h3.cell.2.2.2.2.2⟩,h3.free 5,?_⟩;rintro u up rfl;have hL:p_ Bq {q with due:=t,id:=s.tl+1,out:=o}(g.u q.dest)((w2.setCell⟨Bq,4,none⟩(.int .i64(s.tl+1))).setCell⟨Bq,5,none⟩(CG o Bq)):=⟨_,h4,fun _=>rfl⟩;obtain⟨p,uu⟩:=n2.VQ(q':={q with due:=t,id:=s.tl+1,out:=o})hq rfl⟨hok.dest,hok.aS,hok.ret,hok.txt,hok.H_,by dsimp only;omega⟩rfl hB hL(Fx.grown hgB fun k e=>by cases e;rfl);exact⟨_,p,up.trans uu,rfl,rfl,rfl⟩
 obtain⟨fv,a1,hfv⟩:∃fv a1,CG o Bq=.func fv a1 #[]:=⟨_,_,rfl⟩;rw [hfv]at hK ⊢;clear n hok hfv;go_enter Tryz.func121,Tryz.ntmps121
 go_wp2_with fail
 go_region_held3(HWt N Bq g.x.Tm q.dest)(first|with_reducible exact hS|with_reducible assumption)((go_at_call 154;refine HA.out.mono ?_;rintro e w2⟨h',v',rfl,n2,u2⟩;obtain⟨k1,⟨x4,k2⟩,k3,k4,⟨x5,k5⟩,k6,k7⟩:=hK.out h' v' w2 n2;have hfin:=hide(k7 _((Up.below(Below.refl _ _).drew).trans u2)rfl);clear k7 n2 u2))
 rename_i iB;clear iB hS HA hK k1 k4;go_wp2
 go_returns
 exact⟨rfl,hfin.out⟩
theorem J3 {N B:Nat} {g:bA} {s:St} {TL:List Hp.Tm} {w:World}(n:Nd N B g s TL w)(q:Int×Int)(hq:vC q)(dF:Int)(h0:0≤dF)(hm:∀e∈s.mem,e.dF≤dF)(htn:s.tn≤4611686018427387904):
  Calls Tryz.prog 156 #[.pointer(some⟨N,8,none⟩),jr q,.int .u64 dF]w fun e w'=>e=.returned(.tuple #[])∧Hf N B g s {s with mem:=dR s.mem q dF s.tn,tn:=s.tn+1}TL w w':=by
 have h:=n.nn.rs.sn;rw [←n.nn.eq.tn]at h htn;refine(EY N g.x s.mem q hq dF h0 hm htn w n.nn.cr.nd h).mono ?_;rintro e w'⟨rfl,h1,h2,h3⟩;rw [n.nn.eq.tn]at h1 h2;obtain⟨e1,e2,e3,e4,e5,e6,e7,e8,e9⟩:=n.nn.eq;have hr:=n.nn.rs;have hne:∀k,jF g.x g.h g.u g.Mt g.tv s k→k≠g.x.Ms→¬(k=N∨k=g.x.Ms):=fun k hk h1 h2=>h2.elim(fun e=>n.nn.apart hk(.inl e))h1;have hnd:=n.nn.qA;simp only [List.nodup_cons,List.mem_cons,List.not_mem_nil,or_false,not_or]at hnd;obtain⟨_,_,⟨d1,d2⟩,_⟩:=hnd;have zJ:∀ {k:Nat} {o:Obj},w.heap[k]?=some o→(∀es cl,o≠ .map es cl)→k≠g.x.Ms:=by
  rintro k o ho hn rfl;obtain⟨es,cl,hm⟩:=hr.sn.obj;rw [hm]at ho;exact hn _ _(Option.some.inj ho).symm
 have hkeep:∀ {k:Nat},jF g.x g.h g.u g.Mt g.tv s k→k≠g.x.Ms→w'.heap[k]?=w.heap[k]?:=fun hk h=>h3.block _(hr.lt hk)(hne _ hk h);have hSr:∀k,G9 g.x.qf g.h g.u s.Q k→k≠g.x.Ms:=by
  intro k hk;obtain⟨o,ho,⟨rfl,_⟩|⟨c,rfl⟩|⟨c,rfl⟩⟩:=hr.sr.kind hk
  ·exact Ne.symm d1
  ·exact zJ ho(fun _ _ h=>by cases h)
  ·exact zJ ho(fun _ _ h=>by cases h)
 obtain⟨p,q⟩:=n.rest(s':={s with mem:=dR s.mem q dF s.tn,tn:=s.tn+1})(dO:=TL)h1 rfl rfl⟨e1,e2,e3,e4,e5,rfl,e7,e8,e9⟩
  ⟨h2,hr.sr.kept fun k hk=>hkeep(.inr(.inl hk))(hSr k hk),hr.tm.at(hkeep(.inr(.inr(.inl rfl)))(zJ hr.tm.blk(fun _ _ h=>by cases h)))(hkeep(.inr(.inr(.inr(.inl rfl))))(Ne.symm d2))(fun k hk=>hkeep(.inr(.inr(.inr(.inr(.inl hk)))))(by
   obtain⟨c,hc⟩:=aP hr.tm.row hk;exact zJ hc(fun _ _ h=>by cases h))),hr.hpo,hr.pm,bD hr.pc fun k hk=>hkeep(.inr(.inr(.inr(.inr(.inr hk)))))(by
   obtain⟨c,hc⟩:=aP hr.pc hk;exact zJ hc(fun _ _ h=>by cases h))⟩
  (h3.mono fun k h=>h.elim .inl fun h=> .inr(.inl h))(fun k hk=> .inl hk)⟨rfl,rfl,rfl⟩⟨rfl,rfl,rfl,rfl,rfl,rfl,rfl,rfl,rfl⟩
 exact⟨rfl,_,p,q,rfl,rfl,rfl⟩
theorem Um {N B:Nat} {g:bA} {s:St} {TL:List Hp.Tm} {w:World}(n:Nd N B g s TL w)(hd:s.PX)(hc:0≤s.cnt∧s.cnt≤1000000)(hw:s.a_.length≤90000):
  Calls Tryz.prog 71 #[.pointer(some⟨N,0,none⟩),.pointer(some⟨B,0,none⟩)]w fun e w'=>e=.returned(.tuple #[])∧Hf N B g s s.write TL w w':=by
 obtain⟨e1,e2,e3,e4,e5,e6,e7,e8,e9⟩:=n.nn.eq;refine(vD N B(B+1)g.x g.a g.M g.ff g.gg s.A s.f g.sz s.a_ s.aH s.aR s.aN w n.nn.cr n.ac n.base(by rw [e8];exact hc)n.nn.H_ hw).mono ?_;rintro e w'⟨v7,qZ,rfl,h1,_,h3,h4⟩;have hn:bE g.x.seq g.x.own s.f s.A=bE s.seq s.own s.f s.A:=by rw [e2,e7]
 rw [hn]at h1 h3;have hz:qZ≤8:=h1.size_le(ry hd.on);obtain⟨p,q⟩:=n.core(s':=s.write)h1 h3(h4.mono fun k h=>by
  rcases h with rfl|rfl|h
  ·exact .inl(.inl rfl)
  ·exact .inl(.inr(.inl rfl))
  ·exact .inr h)(fun k hk=>hk)⟨rfl,rfl,rfl,rfl,rfl⟩⟨e1,e2,e3,e4,e5,e6,by dsimp only;rw [e2,e7];rfl,by dsimp only;rw [e8];rfl,e9⟩⟨rfl,rfl,rfl,rfl,rfl⟩(by omega)n.now n.aZ
 exact⟨rfl,_,p,q,rfl,rfl,rfl⟩
@[reducible] def EA (N B T : Nat) (me seq lr now : Int) (W : World) : Prop := W.cell? ⟨N, 2, none⟩ = some (.int .u32 me) ∧ W.cell? ⟨N, 3, none⟩ = some (.int .u32 seq) ∧ W.cell? ⟨N, 5, none⟩ = some (.int .u32 lr) ∧ W.cell? ⟨N, 7, none⟩ = some (.pointer (some ⟨T, 0, none⟩)) ∧ W.cell? ⟨B, 0, none⟩ = some (.int .u64 now)
theorem EA.of {N B:Nat} {g:bA} {s:St} {TL:List Hp.Tm} {W:World}(n:Nd N B g s TL W):EA N B g.x.T s.me s.seq s.dz s.now W:=by
 have h:=n.nn.cr.nd.more.1;rw [n.nn.eq.dz]at h;exact⟨n.cell.1,n.cell.2.1,h,n.cell.2.2.2.1,n.cell.2.2.2.2⟩
theorem V4 {aS i d q me sq:Int} {u:Bool}(ht:0≤aS∧aS≤255)(hi:bg i)(hd:bg d)(hq:bg q)(hm:bg me)(hs:bg sq):(St.Fb aS u i d q me sq).Wf:=by
 unfold bg at hi hd hq hm hs;have hz:(⟨#[]⟩:ByteArray).size=0:=rfl;constructor<;>(dsimp only [St.Fb];omega)
theorem Re {A:List Rt}(hA:∀y∈A,y.Ok)(d:Int):bg(dY A d):=by
 unfold dY;cases hl:aJ A d with
 |none=>simp [bg]
 |some y=>exact(hA y(List.mem_of_find?_eq_some hl)).seq
structure St.Rdy(s:St):Prop where
 me:bg s.me
 seq:bg s.seq
 now:0≤s.now∧s.now≤4611686018427387904
 mem:∀e∈s.mem,e.dF≤s.now+1280
 dom:s.PX
 cnt:0≤s.cnt∧s.cnt≤900000
 a_:s.a_.length≤80000
 aH:s.aH.length≤900000
 tn:s.tn≤4000000000000000000
 AB:s.pc.length≤5
 y_:s.pc.Pairwise(·≤·)
 za:∀t∈s.pc,t≤s.now
theorem Pk {N B:Nat} {g:bA} {s:St} {TL:List Hp.Tm} {w:World}(n:Nd N B g s TL w)(hR:s.Rdy)(d aS:Int)(hd:bg d)(ht:0≤aS∧aS≤255):
  Calls Tryz.prog 122 #[.pointer(some⟨N,0,none⟩),.pointer(some⟨B,0,none⟩),.int .u32 d,.int .i64 aS]w fun e w'=>e=.returned(.tuple #[])∧Hf N B g s(s.kM d aS)TL w w':=by
 obtain⟨s9,qG⟩:∃z,s.kM d aS=z:=⟨_,rfl⟩;rw [qG];replace qG:=hide qG;obtain⟨c2,c3,c5,c7,c0⟩:=EA.of n;have f3:=n.nn.cr.nd.free 3;have f5:=n.nn.cr.nd.free 5;have hg0:=tK hR.seq;obtain⟨q1,hq1⟩:∃z,gr s.seq=z:=⟨_,rfl⟩;rw [hq1]at hg0;have HG:=hide(nZ s.seq w);rw [hq1]at HG;replace hq1:=hide hq1;have hl1:bg((s.dz+1)%4294967296):=by unfold bg;omega
 obtain⟨l1,hl⟩:∃z,(s.dz+1)%4294967296=z:=⟨_,rfl⟩;rw [hl]at hl1;have hg1:w.grownBy((w.setCell⟨N,3,none⟩(.int .u32 q1)).setCell⟨N,5,none⟩(.int .u32 l1))(some N):=aa(aa(aC _(some N))3 _)5 _;obtain⟨e1,e2,e3,e4,e5,e6,e7,e8,e9⟩:=n.nn.eq;obtain⟨n1,u1⟩:=n.cells(s':={s with seq:=q1,dz:=l1})((n.nn.cr.nd.Qp q1).VS l1)(Fx.grown hg1 fun k e=>by cases e;rfl)⟨e1,rfl,e3,rfl,e5,e6,e7,e8,e9⟩⟨rfl,rfl,rfl,rfl,rfl,rfl⟩⟨rfl,rfl,rfl,rfl,rfl,rfl,rfl,rfl,rfl⟩⟨rfl,rfl,rfl,rfl,rfl⟩;have v1:Hid(({g with x:={g.x with seq:=q1,dz:=l1}}:bA).x.T=g.x.T):=rfl;have y1:Hid(({g with x:={g.x with seq:=q1,dz:=l1}}:bA).h=g.h∧({g with x:={g.x with seq:=q1,dz:=l1}}:bA).u=g.u):=⟨rfl,rfl⟩;generalize({g with x:={g.x with seq:=q1,dz:=l1}}:bA)=g1 at n1 u1 v1 y1;have hA:=n.nn.cr.tb.ok;obtain⟨s1,hs1⟩:∃z,({s with seq:=q1,dz:=l1}:St)=z:=⟨_,rfl⟩;rw [hs1]at n1 u1;have hd1:s1.PX:=by rw [←hs1];exact⟨hR.dom.mb,hR.dom.on,hR.dom.own⟩
 have hc1:0≤s1.cnt∧s1.cnt≤900000:=by rw [←hs1];exact hR.cnt
 have hw1:s1.a_.length≤80000:=by rw [←hs1];exact hR.a_
 have HW:=hide(Um n1 hd1(by omega)(by omega));obtain⟨s2,hs2⟩:∃z,s1.write=z:=⟨_,rfl⟩;rw [hs2]at HW;have h2:Hid(s2.me=s.me∧s2.seq=q1∧s2.dz=l1∧s2.now=s.now∧s2.pc=s.pc∧s2.mem=s.mem∧s2.tn=s.tn∧s2.aH=s.aH∧s2.A=s.A∧ {s2 with pc:=St.dH s2.pc s2.now,mem:=dR s2.mem(s2.me,s2.dz)(s2.now+1280)s2.tn,tn:=s2.tn+1}.send 0(St.Fb aS(!(aJ s2.A d).isSome)s2.dz d(dY s2.A d)s2.me s2.seq) []=s9):=by
  show _∧_;rw [←hs2,←hs1];refine⟨rfl,rfl,rfl,rfl,rfl,rfl,rfl,rfl,rfl,?_⟩;rw [←qG.out,←hl,←hq1.out];rfl
 replace hl:=hide hl;have hmod:Hid(IntKind.u32.wrap(s.dz+1)=l1):=by
  show _=_;rw [←hl.out];simp only [IntKind.wrap,IntKind.signed,IntKind.bits];simp
 clear hs1 hs2 e1 e2 e3 e4 e5 e6 e7 e8 e9 n hg1 hd1 hc1 hw1 n1;go_enter Tryz.func122,Tryz.ntmps122
 go_wp2_with fail
 refine Calls.mono HG.out ?_;rintro e w'⟨rfl,rfl⟩;go_wp2_with fail
 rw [hl.out];clear HG hmod hl hq1;refine Calls.mono HW.out ?_;rintro e w2⟨rfl,g2,n2,u2,t2,y2⟩;have H9:=u1.trans u2;have tt2:Hid(g2.x.T=g.x.T):=t2.out.trans v1.out;have yy2:Hid(g2.h=g.h∧g2.u=g.u):=⟨y2.out.1.trans y1.out.1,y2.out.2.trans y1.out.2⟩;obtain⟨a1,a2,a3,a4,a5,a6,a7,a8,a9,a10⟩:=h2.out;have YH:Hid(0≤s2.now∧s2.now≤4611686018427387904):=by rw [a4];exact hR.now
 have HP:=hide(abw n2.drew(by rw [a5];exact hR.AB)(by rw [a5];exact hR.y_)(by rw [a5,a4];exact hR.za));have YI:Hid(∀e∈s2.mem,e.dF≤s2.now+1280):=by rw [a6,a4];exact hR.mem
 have aci:Hid(s2.tn≤4000000000000000000):=by rw [a7];exact hR.tn
 have hU2:Hid(bg s2.me∧bg s2.seq∧bg s2.dz):=by rw [a1,a2,a3];exact⟨hR.me,hg0,hl1⟩
 have hfr2:Hid(s2.aH.length≤900000):=by rw [a8];exact hR.aH
 have hA2:Hid(∀y∈s2.A,y.Ok):=by rw [a9];exact hA
 have LM:=hide a10;clear a1 a2 a3 a4 a5 a6 a7 a8 a9 a10 h2 HW u1 u2 t2 y2 v1 y1 hR c2 c3 c5 c7 c0 f3 f5 hg0 hl1 hA;have hS:EA N B g2.x.T s2.me s2.seq s2.dz s2.now w2.drew:=EA.of n2.drew;have ub2:=H9.trans(.below(Below.refl _ _).drew:Up B(Ft N g2 s2)(Ft N g2 s2)w2 w2.drew);clear n2 H9;go_wp2_with fail
 go_region_held3(EA N B g2.x.T s2.me s2.seq s2.dz s2.now)(first|with_reducible exact hS|with_reducible assumption)((go_at_call 155;refine HP.out.mono ?_;rintro e w3⟨rfl,g3,n3,u3,t3,y3⟩;have hk3:EA N B g2.x.T s2.me s2.seq s2.dz s2.now w3:=by have h:=EA.of n3;rw [t3.out]at h;exact h))
 rename_i iB;clear iB hk3 hS HP;have ub3:=ub2.trans u3;have tt3:Hid(g3.x.T=g.x.T):=t3.out.trans tt2.out;have yy3:Hid(g3.h=g.h∧g3.u=g.u):=⟨y3.out.1.trans yy2.out.1,y3.out.2.trans yy2.out.2⟩;obtain⟨s3,hs3⟩:∃z,({s2 with pc:=St.dH s2.pc s2.now}:St)=z:=⟨_,rfl⟩;have h3:Hid(s3.me=s2.me∧s3.seq=s2.seq∧s3.dz=s2.dz∧s3.now=s2.now∧s3.mem=s2.mem∧s3.tn=s2.tn∧s3.aH=s2.aH∧s3.A=s2.A∧ {s3 with mem:=dR s3.mem(s3.me,s3.dz)(s3.now+1280)s3.tn,tn:=s3.tn+1}.send 0(St.Fb aS(!(aJ s3.A d).isSome)s3.dz d(dY s3.A d)s3.me s3.seq) []=s9):=by
  show _∧_;rw [←hs3];exact⟨rfl,rfl,rfl,rfl,rfl,rfl,rfl,rfl,LM.out⟩
 rw [hs3]at n3 ub3;obtain⟨a1,a2,a3,a4,a5,a6,a7,a8,a9⟩:=h3.out;have w_:0≤s3.now∧s3.now≤4611686018427387904:=by rw [a4];exact YH.out
 have HSn:Hid(∀t,t=s3.now+1280→Calls Tryz.prog 156 #[.pointer(some⟨N,8,none⟩),jr(s3.me,s3.dz),.int .u64 t]w3.drew fun e w'=>e=.returned(.tuple #[])∧Hf N B g3 s3 {s3 with mem:=dR s3.mem(s3.me,s3.dz)(s3.now+1280)s3.tn,tn:=s3.tn+1}TL w3.drew w'):=by
  rintro _ rfl;exact J3 n3.drew(s3.me,s3.dz)⟨by rw [a1];exact hU2.out.1,by rw [a3];exact hU2.out.2.2⟩(s3.now+1280)(by omega)(by rw [a5,a4];exact YI.out)(by rw [a6];have:=aci.out;omega)
 dsimp only [jr]at HSn;have hU3:Hid(bg s3.me∧bg s3.seq∧bg s3.dz):=by rw [a1,a2,a3];exact hU2.out
 have acM:Hid(s3.aH.length≤900000):=by rw [a7];exact hfr2.out
 have hA3:Hid(∀y∈s3.A,y.Ok):=by rw [a8];exact hA2.out
 have YL:=hide a9;clear a1 a2 a3 a4 a5 a6 a7 a8 a9 h3 hs3 u3 t3 y3 tt2 yy2 YH YI aci hU2 hfr2 hA2 LM ub2;have hS:EA N B g3.x.T s3.me s3.seq s3.dz s3.now w3.drew:=EA.of n3.drew;have uc3:=ub3.trans(.below(Below.refl _ _).drew:Up B(Ft N g3 s3)(Ft N g3 s3)w3 w3.drew);clear n3 ub3;go_wp2_with fail
 go_region_held3(EA N B g3.x.T s3.me s3.seq s3.dz s3.now)(first|with_reducible exact hS|with_reducible assumption)((go_at_call 156;refine(HSn.out _(by first|rfl|exact lY w_(by omega))).mono ?_;rintro e w4⟨rfl,g4,n4,u4,t4,y4⟩;have hk4:EA N B g3.x.T s3.me s3.seq s3.dz s3.now w4:=by have h:=EA.of n4;rw [t4.out]at h;exact h))
 rename_i iB;clear iB hk4 hS HSn;have uc4:=uc3.trans u4;have tt4:Hid(g4.x.T=g.x.T):=t4.out.trans tt3.out;have yy4:Hid(g4.h=g.h∧g4.u=g.u):=⟨y4.out.1.trans yy3.out.1,y4.out.2.trans yy3.out.2⟩;obtain⟨s4,hs4⟩:∃z,({s3 with mem:=dR s3.mem(s3.me,s3.dz)(s3.now+1280)s3.tn,tn:=s3.tn+1}:St)=z:=⟨_,rfl⟩;have h4:Hid(s4.me=s3.me∧s4.seq=s3.seq∧s4.dz=s3.dz∧s4.aH=s3.aH∧s4.A=s3.A∧s4.send 0(St.Fb aS(!(aJ s4.A d).isSome)s4.dz d(dY s4.A d)s4.me s4.seq) []=s9):=by
  show _∧_;rw [←hs4];exact⟨rfl,rfl,rfl,rfl,rfl,YL.out⟩
 rw [hs4]at n4 uc4;obtain⟨a1,a2,a3,a7,a8,a9⟩:=h4.out;have HN:=hide(Y6 n4 d hd);obtain⟨nq,hnq⟩:∃z,dY s4.A d=z:=⟨_,rfl⟩;obtain⟨nk,hnk⟩:∃z,(aJ s4.A d).isSome=z:=⟨_,rfl⟩;rw [hnq,hnk]at HN a9;have acz:bg nq:=by rw [←hnq,a8];exact Re hA3.out d
 have HX:=hide(Mw n4.drew 0(St.Fb aS(!nk)s4.dz d nq s4.me s4.seq)(V4 ht(by rw [a3];exact hU3.out.2.2)hd acz(by rw [a1];exact hU3.out.1)(by rw [a2];exact hU3.out.2.1)) []⟨rfl,fun j hj=>by simp at hj⟩(by rw [a7];have:=acM.out;omega));rw [a9]at HX;have h9:Hid(s9.me=s4.me∧s9.seq=s4.seq∧s9.dz=s4.dz∧s9.now=s4.now):=by
  show _∧_;rw [←a9];exact⟨rfl,rfl,rfl,rfl⟩
 dsimp only [ah.val,St.Fb]at HX;have c4:=EA.of n4;obtain⟨c2,c3,c5,c7,c0⟩:=c4;have hS:EA N B g4.x.T s4.me s4.seq s4.dz s4.now w4.drew:=EA.of n4.drew;have ud4:=uc4.trans(.below(Below.refl _ _).drew:Up B(Ft N g4 s4)(Ft N g4 s4)w4 w4.drew);clear a1 a2 a3 a7 a8 a9 h4 hs4 u4 t4 y4 tt3 yy3 hU3 acM hA3 YL uc3 uc4 hnq hnk n4 acz;go_wp2_with fail
 refine Calls.mono HN.out ?_;rintro e w5⟨rfl,rfl⟩;clear HN;go_wp2_with fail
 go_region_held3(EA N B g4.x.T s4.me s4.seq s4.dz s4.now)(first|with_reducible exact hS|with_reducible assumption)((go_at_call 80;refine HX.out.mono ?_;rintro e w6⟨rfl,g6,n6,u6,t6,y6⟩;have hfin:Hid(Hf N B g s s9 TL w' w6):=⟨g6,n6,ud4.trans u6,t6.out.trans tt4.out,y6.out.1.trans yy4.out.1,y6.out.2.trans yy4.out.2⟩;have YK:EA N B g4.x.T s4.me s4.seq s4.dz s4.now w6:=by have h:=EA.of n6;rw [t6.out,h9.out.1,h9.out.2.1,h9.out.2.2.1,h9.out.2.2.2]at h;exact h))
 rename_i iB;clear iB YK hS HX;go_wp2
 go_returns
 exact⟨rfl,hfin.out⟩
def St.waits(s:St)(q:Sr)(t:Int)(o:Bool):St:={s with tl:=s.tl+1,Q:=St.di s.Q {q with due:=t,id:=s.tl+1,out:=o}}
def St.kI(s:St)(q:Sr):Int:=match s.holds with|some _=>s.now+1000|none=>s.now+80 * (q.aS+2)* 2 ^ q.ret
theorem Aa(s:St)(q:Sr):s.ask q=match s.holds with|some r=>(s.drop r).waits q(s.now+1000)false|none=>(s.kM q.dest q.aS).waits q(s.now+80 * (q.aS+2)* 2 ^ q.ret)true:=by
 unfold St.ask St.holds;by_cases h:St.full s.pc s.now=true
 ·rw [if_pos h,if_pos h];rfl
 ·rw [if_neg h,if_neg h];by_cases h2:s.now<s.bZ
  ·rw [if_pos h2,if_pos h2];rfl
  ·rw [if_neg h2,if_neg h2];rfl
def AkP(N B:Nat)(g:bA)(s s2:St)(_TL dO:List Hp.Tm)(w w':World):Prop:=
 ∃g',Nd N B g' s2 dO w'∧Up B(Ft N g s)(Ft N g' s2)w w'∧Hid(g'.x.T=g.x.T)∧Hid(g'.h=g.h∧g'.u=g.u)
theorem aa8 {s:St} {q:Sr}(ok:q.Ok)(fq:0≤s.now∧s.now≤4611686018427387904):0≤s.now+80 * (q.aS+2)* 2 ^ q.ret∧s.now+80 * (q.aS+2)* 2 ^ q.ret<18446744073709551616∧0≤80 * (q.aS+2)* 2 ^ q.ret∧80 * (q.aS+2)* 2 ^ q.ret≤8589934592:=by
 have h1:=ok.aS;have h2:=ok.ret;have hr:q.ret=0∨q.ret=1∨q.ret=2:=by omega
 rcases hr with hr|hr|hr<;>rw [hr]<;>simp<;>omega
theorem Es {N B:Nat} {g:bA} {s:St} {TL:List Hp.Tm} {w:World}(n:Nd N B g s TL w)(r:Int)(hd:s.aN.length≤1000000):
  Calls Tryz.prog 92 #[.pointer(some⟨B,0,none⟩),.int .i64 r]w fun e w'=>e=.returned(.tuple #[])∧Hf N B g s(s.drop r)TL w w':=by
 refine(GN B(B+1)g.a s.a_ s.aH s.aR s.aN r w n.ac n.base hd).mono ?_;rintro e w'⟨v7,rfl,h1,h2⟩;obtain⟨p,q⟩:=n.act(s':=s.drop r)h1 h2(sS s r)n.now n.aZ;exact⟨rfl,_,p,q,rfl,rfl,rfl⟩
theorem Uu {N B:Nat} {g:bA} {s:St} {TL:List Hp.Tm} {w:World}(n:Nd N B g s TL w)(hR:s.Rdy)(hdl:s.aN.length≤900000)(q:Sr)(hq:q∈s.Q)(Bq:Nat)(hB:g.h q.dest=some Bq)(hl:TL.length≤900000)(htl:0≤s.tl∧s.tl≤4000000000000000000)(hid:∀x∈TL,x.2.1≤s.tl):
  Calls Tryz.prog 83 #[.pointer(some⟨Bq,0,none⟩),.pointer(some⟨N,0,none⟩),.pointer(some⟨B,0,none⟩)]w fun e w'=>e=.returned(.tuple #[])∧AkP N B g s(s.ask q)TL(TL++ [(s.kI q,s.tl+1,q.dest)])w w':=by
 have hmf:∀(fn:Fn)(first cap:Array Value)(w:World),(Instr.makeFunc fn first cap).run Tryz.prog w=.ok(.func fn first cap)w:=fun _ _ _ _=>rfl;have hok:=n.nn.rs.sr.ok q hq;have fq:=hR.now;have HH:=hide(Hl n fq);obtain⟨s9,qG⟩:∃z,s.ask q=z:=⟨_,rfl⟩;obtain⟨du,DR⟩:∃z,s.kI q=z:=⟨_,rfl⟩;rw [qG,DR];rw [Aa]at qG;unfold St.kI at DR;obtain⟨ho,hho⟩:∃z,s.holds=z:=⟨_,rfl⟩;rw [hho]at qG DR HH;replace qG:=hide qG;replace DR:=hide DR;obtain⟨_,_,_,_,c0⟩:=n.cell;go_enter Tryz.func83,Tryz.ntmps83
 go_wp2_with fail
 refine Calls.mono HH.out ?_;rintro e w1⟨rfl,rfl⟩;clear HH;cases ho with
 |some r=>
  replace qG:Hid((s.drop r).waits q(s.now+1000)false=s9):=qG;replace DR:Hid(s.now+1000=du):=DR;have HX:=hide(Es n r(by omega));obtain⟨s1,hs1⟩:∃z,s.drop r=z:=⟨_,rfl⟩;have h1:Hid(s1.now=s.now∧s1.Q=s.Q∧s1.tl=s.tl):=by
   show _∧_;rw [←hs1];exact⟨rfl,rfl,rfl⟩
  rw [hs1]at HX qG;clear hho hR n hs1;simp only [Option.getD_some,Option.gN];go_wp2_with fail
  refine Calls.mono HX.out ?_;rintro e w2⟨rfl,g2,n2,u2,t2,y2⟩;have HW:Hid(∀t,t=s.now+1000→Calls Tryz.prog 121 #[.pointer(some⟨Bq,0,none⟩),.pointer(some⟨N,0,none⟩),.int .u64 t,.func(.func 83)#[.pointer(some⟨Bq,0,none⟩)]#[]]w2 fun e w'=>e=.returned(.tuple #[])∧AkP N B g s s9 TL(TL++ [(du,s.tl+1,q.dest)])w1 w'):=by
   rintro _ rfl;refine(Un n2 q(by rw [h1.out.2.1];exact hq)Bq(by rw [y2.out.1];exact hB)(s.now+1000)(by omega)false hl(by rw [h1.out.2.2];exact htl)(by rw [h1.out.2.2];exact hid)).mono ?_;rintro e w3⟨rfl,g3,n3,u3,t3,y3⟩;have e1:({s1 with tl:=s1.tl+1,Q:=St.di s1.Q {q with due:=s.now+1000,id:=s1.tl+1,out:=false}}:St)=s9:=qG.out;rw [e1]at n3 u3;rw [h1.out.2.2,DR.out]at n3;exact⟨rfl,g3,n3,u2.trans u3,t3.out.trans t2.out,y3.out.1.trans y2.out.1,y3.out.2.trans y2.out.2⟩
  have c0':=n2.cell.2.2.2.2;rw [h1.out.1]at c0';clear n2 u2 t2 y2 h1 qG DR HX;go_wp2_with fail
  refine Calls.mono(HW.out _(by first|rfl|exact lY fq(by omega))) ?_;rintro e w3⟨rfl,hN⟩;replace hN:=hide hN;clear HW c0';go_wp2
  go_returns
  exact⟨rfl,hN.out⟩
 |none=>
  replace qG:Hid((s.kM q.dest q.aS).waits q(s.now+80 * (q.aS+2)* 2 ^ q.ret)true=s9):=qG;replace DR:Hid(s.now+80 * (q.aS+2)* 2 ^ q.ret=du):=DR;obtain⟨B',hB1,hL1⟩:=n.nn.rs.sr.ln q hq;rw [hB]at hB1;cases hB1;obtain⟨k0,k1,k2,k3,k4⟩:=hL1.cell;have HX:=hide(Pk n.drew hR q.dest q.aS hok.dest(by have:=hok.aS;omega));obtain⟨s1,hs1⟩:∃z,s.kM q.dest q.aS=z:=⟨_,rfl⟩;have h1:Hid(s1.now=s.now∧s1.Q=s.Q∧s1.tl=s.tl):=by
   show _∧_;rw [←hs1];exact⟨rfl,rfl,rfl⟩
  rw [hs1]at HX qG;have hS:w1.drew.cell?⟨Bq,0,none⟩=some(.int .u32 q.dest)∧w1.drew.cell?⟨Bq,2,none⟩=some(.int .i64 q.aS):=⟨k0,k2⟩;obtain⟨b1,b2,b3,b4⟩:=aa8(s:=s)hok fq;clear hho hR n hs1 k0 k1 k2 k3 k4 hL1;simp only [Option.vZ,Option.isSome_none];go_wp2_with fail
  go_region_held3(fun W=>W.cell?⟨Bq,0,none⟩=some(.int .u32 q.dest)∧W.cell?⟨Bq,2,none⟩=some(.int .i64 q.aS))(first|with_reducible exact hS|with_reducible assumption)((go_at_call 122;refine HX.out.mono ?_;rintro e w2⟨rfl,g2,n2,u2,t2,y2⟩;have hk2:w2.cell?⟨Bq,0,none⟩=some(.int .u32 q.dest)∧w2.cell?⟨Bq,2,none⟩=some(.int .i64 q.aS):=by obtain⟨B',hB1,hL1⟩:=n2.nn.rs.sr.ln q(by rw [h1.out.2.1];exact hq);rw [y2.out.1,hB]at hB1;cases hB1;exact⟨hL1.cell.1,hL1.cell.2.2.1⟩))
  rename_i iB;clear iB hk2 hS HX;have hq2:q∈s1.Q:=by rw [h1.out.2.1];exact hq
  have hB2:g2.h q.dest=some Bq:=by rw [y2.out.1];exact hB
  have HPt:Hid(∀W5,Below w2.heap.size w2 W5→Calls Tryz.prog 123 #[.pointer(some⟨Bq,0,none⟩)]W5 fun e w'=>e=.returned(.int .u64(80 * (q.aS+2)* 2 ^ q.ret))∧Below w2.heap.size w2 w'):=by
   intro W5 h5;obtain⟨B',hB1,hL1⟩:=(n2.later h5).nn.rs.sr.ln q hq2;rw [hB2]at hB1;cases hB1;refine(Db Bq q _ W5 hL1 hok).mono ?_;rintro e w'⟨rfl,hb⟩;exact⟨rfl,h5.trans(hb.mono h5.size)⟩
  have HW:Hid(∀W5,Below w2.heap.size w2 W5→∀t,t=s.now+80 * (q.aS+2)* 2 ^ q.ret→Calls Tryz.prog 121 #[.pointer(some⟨Bq,0,none⟩),.pointer(some⟨N,0,none⟩),.int .u64 t,.func(.func 124)#[.pointer(some⟨Bq,0,none⟩)]#[]]W5 fun e w'=>e=.returned(.tuple #[])∧w'.cell?⟨B,0,none⟩=some(.int .u64 s.now)∧AkP N B g s s9 TL(TL++ [(du,s.tl+1,q.dest)])w1 w'):=by
   rintro W5 h5 _ rfl;refine(Un(n2.later h5)q hq2 Bq hB2(s.now+80 * (q.aS+2)* 2 ^ q.ret)⟨b1,b2⟩true hl(by rw [h1.out.2.2];exact htl)(by rw [h1.out.2.2];exact hid)).mono ?_;rintro e w3⟨rfl,g3,n3,u3,t3,y3⟩;have e1:({s1 with tl:=s1.tl+1,Q:=St.di s1.Q {q with due:=s.now+80 * (q.aS+2)* 2 ^ q.ret,id:=s1.tl+1,out:=true}}:St)=s9:=qG.out;have e2:s9.now=s.now:=by rw [←e1];exact h1.out.1
   rw [e1]at n3 u3;rw [h1.out.2.2,DR.out]at n3;have c3:=n3.cell.2.2.2.2;rw [e2]at c3;exact⟨rfl,c3,g3,n3,(((Up.below(Below.refl _ _).drew).trans u2).trans(.below h5)).trans u3,t3.out.trans t2.out,y3.out.1.trans y2.out.1,y3.out.2.trans y2.out.2⟩
  have hS:w2.drew.cell?⟨B,0,none⟩=some(.int .u64 s.now):=by
   have:=n2.drew.cell.2.2.2.2;rw [h1.out.1]at this;exact this
  have HC:Hid(∀W5,Below w2.heap.size w2 W5→W5.cell?⟨B,0,none⟩=some(.int .u64 s.now)):=by
   intro W5 h5;have:=(n2.later h5).cell.2.2.2.2;rw [h1.out.1]at this;exact this
  generalize hpt:80 * (q.aS+2)* 2 ^ q.ret=pt at HPt HW b3 b4;replace hpt:=hide hpt;clear n2 u2 t2 y2 h1 qG DR hq2 hB2 hok c0;go_wp2_with fail
  go_region_held3(fun W=>W.cell?⟨B,0,none⟩=some(.int .u64 s.now))(first|with_reducible exact hS|with_reducible assumption)(first
   |(go_at_call 123;refine(HPt.out _(by first|exact Below.refl _ _|exact(Below.refl _ _).drew|exact below_drewN(Below.refl _ _)_)).mono ?_;rintro e w5⟨rfl,hb5⟩;have hk5:=HC.out w5 hb5)
   |(go_at_call 121;refine(HW.out _(by first|exact hb5|exact hb5.drew|exact below_drewN hb5 _)_(by first|rfl|exact lY fq(by omega))).mono ?_;rintro e w6⟨rfl,YK,hN⟩;replace hN:=hide hN))
  all_goals
   go_wp2
   go_returns
   exact⟨rfl,hN.out⟩
end Go.Proofs.YtakaadcpaeiccabGreat
