import Derived.Test.YtakaadcpaeiccabGreatC31
set_option maxHeartbeats 4000000
set_option maxRecDepth 100000
namespace Go.Proofs.YtakaadcpaeiccabGreat
open Go.RowKit Go.Maps
theorem Tv {Q:List Sr}(hn:Q.Pairwise fun a b=>a.dest≠b.dest) {q:Sr}(hq:q∈Q):(Q.filter fun z=>!decide(z.dest=q.dest)).length=Q.length - 1:=by
 induction Q with
 |nil=>cases hq
 |cons a Q ih=>
  rw [List.pairwise_cons]at hn;rcases List.mem_cons.1 hq with rfl|h
  ·have h1:Q.filter(fun z=>!decide(z.dest=q.dest))=Q:=List.filter_eq_self.2 fun z hz=>by simpa using(hn.1 z hz).symm
   simp [h1]
  ·have h1:=ih hn.2 h;have h2:a.dest≠q.dest:=hn.1 q h;have h3:0<Q.length:=List.mQ h;rw [List.filter_cons_of_pos(by simpa using h2)];simp only [List.length_cons];omega
theorem Ut {N B:Nat} {g:bA} {s:St} {TL:List Hp.Tm} {w:World}(n:Nd N B g s TL w)(k:Int)(hk:oC k)(hl:TL.length≤1000000):
  Calls Tryz.prog 150 #[.pointer(some⟨g.x.Tm,0,none⟩),.int .i64 k]w fun e w'=>∃b h' v' dO,e=.returned(.bool b)∧Nd N B {g with hp:=h',tv:=v'}s dO w'∧Up B(Ft N g s)(Ft N {g with hp:=h',tv:=v'}s)w w'∧((∃x,x.2.1=k∧(x::dO).Perm TL)∨((∀x∈TL,x.2.1≠k)∧dO=TL)):=by
 have hr:=n.nn.rs;refine(Ke 0 g.x.Tm g.Mt s.tl g.hp g.tv w hr.tm(by rw [hr.pm.fM];exact hl)hr.hpo k hk).mono ?_;rintro e w'⟨h',v',h1,h2,h3,h4,h5⟩;have hnd:=n.nn.qA;simp only [List.nodup_cons,List.mem_cons,List.not_mem_nil,or_false,not_or]at hnd;obtain⟨_,_,⟨d1,d2⟩,d3,_⟩:=hnd;have hin:∀k,k=g.x.Tm∨k=g.Mt∨g.tv.ownBlock=some k→jF g.x g.h g.u g.Mt g.tv s k:=fun k hk=> .inr(.inr(hk.elim .inl fun h=> .inr(h.elim .inl fun h=> .inr(.inl h))));have hf:Fx(fun k=>k=g.x.Tm∨k=g.Mt∨g.tv.ownBlock=some k)w w':=⟨h2.os,h2.tape,h2.output,h2.size,fun k hk hn=>h2.block k hk(fun e=>hn(.inl e))(fun e=>hn(.inr(.inl e)))(fun e=>hn(.inr(.inr e.symm)))⟩;have hne:∀ {k:Nat} {o:Obj},w.heap[k]?=some o→k≠g.Mt→(∀c,o≠ .cells c 165(0,0))→(∀c,o≠ .cells c 254(0,0))→w'.heap[k]?=w.heap[k]?:=by
  intro k o ho hk c1 c2;refine hf.block k(aD ho) ?_;rintro(rfl|h|h)
  ·rw [show w.heap[g.x.Tm]?=_ from hr.tm.blk]at ho;exact c1 _(Option.some.inj ho).symm
  ·exact hk h
  ·obtain⟨c,hc⟩:=aP hr.tm.row h;rw [hc]at ho;exact c2 _(Option.some.inj ho).symm
 have hN:w'.heap[N]?=w.heap[N]?:=hne(n.nn.cr.nd)(fun e=>by
  obtain⟨f,p1,_⟩:=hr.tm.map;obtain⟨es,cl,hm⟩:=p1.obj;rw [←e,show w.heap[N]?=_ from n.nn.cr.nd]at hm;cases hm)(fun c e=>by cases e)(fun c e=>by cases e)
 have hS:wG g.x.qf g.h g.u s.Q w':=hr.sr.kept fun k hk=>by
  obtain⟨o,ho,⟨rfl,_,_,rfl⟩|⟨c,rfl⟩|⟨c,rfl⟩⟩:=hr.sr.kind hk
  ·exact hne ho d3(fun c e=>by cases e)(fun c e=>by cases e)
  ·refine hne ho ?_(fun c e=>by cases e)(fun c e=>by cases e);rintro rfl;obtain⟨f,p1,_⟩:=hr.tm.map;obtain⟨es,cl,hm⟩:=p1.obj;rw [hm]at ho;cases ho
  ·refine hne ho ?_(fun c e=>by cases e)(fun c e=>by cases e);rintro rfl;obtain⟨f,p1,_⟩:=hr.tm.map;obtain⟨es,cl,hm⟩:=p1.obj;rw [hm]at ho;cases ho
 have hM:wI g.x.Ms s.tn s.mem w':=hr.sn.block(by
  obtain⟨es,cl,hm⟩:=hr.sn.obj;exact hne hm d2(fun c e=>by cases e)(fun c e=>by cases e))
 have hP:=bD(W':=w')hr.pc fun k hk=>(by
  obtain⟨c,hc⟩:=aP hr.pc hk;refine hne hc ?_(fun c e=>by cases e)(fun c e=>by cases e);rintro rfl;obtain⟨f,p1,_⟩:=hr.tm.map;obtain⟨es,cl,hm⟩:=p1.obj;rw [hm]at hc;cases hc)
 obtain⟨p,u⟩:=n.rest(s':=s)(dO:=h')(n.nn.cr.nd.block hN)rfl rfl n.nn.eq(h':=g.h)(u':=g.u)(Et:=g.Mt)(hp':=h')(tv':=v')
  ⟨hM,hS,h1,h4,.refl _,hP⟩(hf.mono fun k hk=> .inr(hin k hk))(fun k hk=> .inl(by unfold jF at hk ⊢;rw [h3]at hk;exact hk))⟨rfl,rfl,rfl⟩⟨rfl,rfl,rfl,rfl,rfl,rfl,rfl,rfl,rfl⟩
 rcases h5 with⟨x,hx,rfl,hpm⟩|⟨hno,rfl,rfl⟩
 ·exact⟨true,h',v',h',rfl,p,u,.inl⟨x,hx,hpm.trans hr.pm⟩⟩
 ·obtain⟨p2,u2⟩:=n.rest(s':=s)(dO:=TL)(n.nn.cr.nd.block hN)rfl rfl n.nn.eq(h':=g.h)(u':=g.u)(Et:=g.Mt)(hp':=g.hp)(tv':=v')
   ⟨hM,hS,h1,h4,hr.pm,hP⟩(hf.mono fun k hk=> .inr(hin k hk))(fun k hk=> .inl(by unfold jF at hk ⊢;rw [h3]at hk;exact hk))⟨rfl,rfl,rfl⟩⟨rfl,rfl,rfl,rfl,rfl,rfl,rfl,rfl,rfl⟩
  exact⟨false,g.hp,v',TL,rfl,p2,u2,.inr⟨fun x hx=>hno x(hr.pm.mem_iff.2 hx),rfl⟩⟩
theorem wG.del {Ms:Nat} {h:Int→Option Nat} {u:Int→Value} {Q:List Sr} {W W':World}(r:wG Ms h u Q W) {q:Sr}(hq:q∈Q)(hm:eX W' Ms(eD h q.dest none)(Q.length - 1))(he:∀k,G9 Ms h u Q k→k≠Ms→W'.heap[k]?=W.heap[k]?):wG Ms(eD h q.dest none)u(Q.filter fun z=>!decide(z.dest=q.dest))W':=by
 have U1:∀z∈Q,∀k,(h z.dest=some k∨(u z.dest).ownBlock=some k)→k≠Ms:=by
  rintro z hz k hk rfl;obtain⟨es,cl,hm0⟩:=r.map.obj;rcases hk with hk|hk
  ·obtain⟨B,h1,h2⟩:=r.ln z hz;rw [h1]at hk;cases hk;obtain⟨c,hc⟩:=h2.obj;rw [hc]at hm0;cases hm0
  ·obtain⟨c,hc⟩:=aP(r.row z hz)hk;rw [hc]at hm0;cases hm0
 have hmem:∀z,z∈Q.filter(fun z=>!decide(z.dest=q.dest))→z∈Q∧z.dest≠q.dest:=fun z hz=>by
  have:=List.mem_filter.1 hz;exact⟨this.1,by simpa using this.2⟩
 refine⟨by rw [Tv r.qA hq];exact hm,r.qA.filter _,fun z hz=>r.ok z(hmem z hz).1,fun d B hd hB=> ?_,fun z hz=> ?_,fun z hz=> ?_,fun a ha b hb=>r.apart a(hmem a ha).1 b(hmem b hb).1,Nat.le_trans(List.length_filter_le _ _)r.len⟩
 ·by_cases e:d=q.dest
  ·subst e;simp [eD]at hB
  ·simp [eD,e]at hB;obtain⟨z,hz,rfl⟩:=r.dom d B hd hB;exact⟨z,List.mem_filter.2⟨hz,by simpa using e⟩,rfl⟩
 ·obtain⟨hz1,hz2⟩:=hmem z hz;obtain⟨B,h1,h2⟩:=r.ln z hz1;exact⟨B,by simp [eD,hz2,h1],h2.block(he B(.inr⟨z,hz1,.inl h1⟩)(U1 z hz1 B(.inl h1)))⟩
 ·obtain⟨hz1,hz2⟩:=hmem z hz;exact bD(r.row z hz1)fun k hk=>he k(.inr⟨z,hz1,.inr hk⟩)(U1 z hz1 k(.inr hk))
@[reducible] def HE (N Bq Tm Ms : Nat) (id d : Int) (W : World) : Prop := W.cell? ⟨N, 14, none⟩ = some (.pointer (some ⟨Tm, 0, none⟩)) ∧ W.cell? ⟨N, 13, none⟩ = some (.map (some Ms)) ∧ W.cell? ⟨Bq, 4, none⟩ = some (.int .i64 id) ∧ W.cell? ⟨Bq, 0, none⟩ = some (.int .u32 d)
def Ej(k:Int)(TL dO:List Hp.Tm):Prop:=(∃x,x.2.1=k∧(x::dO).Perm TL)∨((∀x∈TL,x.2.1≠k)∧dO=TL)
theorem HE.of {N B:Nat} {g:bA} {s:St} {TL:List Hp.Tm} {W:World}(n:Nd N B g s TL W) {q:Sr}(hq:q∈s.Q) {Bq:Nat}(hB:g.h q.dest=some Bq):HE N Bq g.x.Tm g.x.qf q.id q.dest W:=by
 obtain⟨B',h1,h2⟩:=n.nn.rs.sr.ln q hq;rw [hB]at h1;cases h1;have h3:=n.nn.cr.nd.more;exact⟨h3.2.2.2.1,h3.2.2.1,h2.cell.2.2.2.2,h2.cell.1⟩
def EI(N B:Nat)(g:bA)(s s':St)(dO:List Hp.Tm)(D:Int→Prop)(w w':World):Prop:=∃g',Nd N B g' s' dO w'∧Up B(Ft N g s)(Ft N g' s')w w'∧Hid(g'.x.T=g.x.T)∧Hid(∀z,¬D z→g'.h z=g.h z)
theorem EI.toP {N B:Nat} {g:bA} {s s':St} {dO:List Hp.Tm} {D:Int→Prop} {w w':World}(h:EI N B g s s' dO D w w'):lg N B g s s' dO w w':=by
 obtain⟨g1,n1,u1,t1,_⟩:=h;exact⟨g1,n1,u1,t1⟩
theorem EI.refl {N B:Nat} {g:bA} {s:St} {TL:List Hp.Tm} {D:Int→Prop} {w w':World}(n:Nd N B g s TL w)(hb:Below w.heap.size w w'):EI N B g s s TL D w w':=⟨g,n.later hb,.below hb,rfl,fun _ _=>rfl⟩
theorem Nd.afo {N B:Nat} {g:bA} {s:St} {TL:List Hp.Tm} {W W':World}(n:Nd N B g s TL W)(q:Sr)(hq:q∈s.Q)(hm:eX W' g.x.qf(eD g.h q.dest none)(s.Q.length - 1))(hg:W.grownBy W'(some g.x.qf)):
  Nd N B {g with h:=eD g.h q.dest none} {s with Q:=s.Q.filter fun z=>!decide(z.dest=q.dest)}TL W'∧Up B(Ft N g s)(Ft N {g with h:=eD g.h q.dest none} {s with Q:=s.Q.filter fun z=>!decide(z.dest=q.dest)})W W':=by
 have hr:=n.nn.rs;obtain⟨e1,e2,e3,e4,e5,e6,e7,e8,e9⟩:=n.nn.eq;have hnd:=n.nn.qA;simp only [List.nodup_cons,List.mem_cons,List.not_mem_nil,or_false,not_or]at hnd;obtain⟨_,_,⟨d1,d2⟩,d3,_⟩:=hnd;have hk:∀ {k:Nat} {o:Obj},W.heap[k]?=some o→k≠g.x.qf→W'.heap[k]?=W.heap[k]?:=fun ho hn=>hg.block _(aD ho)fun e=>hn(Option.some.inj e);have hno:∀ {k:Nat} {o:Obj},W.heap[k]?=some o→(∀es cl,o≠ .map es cl)→W'.heap[k]?=W.heap[k]?:=by
  intro k o ho hc;refine hk ho ?_;rintro rfl;obtain⟨es,cl,hm0⟩:=hr.sr.map.obj;rw [hm0]at ho;exact hc _ _(Option.some.inj ho).symm
 refine n.rest(hno n.nn.cr.nd(fun _ _ e=>by cases e)|>fun h=>n.nn.cr.nd.block h)rfl rfl⟨e1,e2,e3,e4,e5,e6,e7,e8,e9⟩(h':=eD g.h q.dest none)(u':=g.u)(Et:=g.Mt)(hp':=g.hp)(tv':=g.tv)
  ⟨hr.sn.block ?_,hr.sr.del hq hm fun k hk1 hk2=> ?_,hr.tm.at(hno hr.tm.blk fun _ _ e=>by cases e) ?_(fun k hk1=> ?_),hr.hpo,hr.pm,bD hr.pc fun k hk1=> ?_⟩
  (Fx.grown hg fun k e=>by cases e;exact .inr(.inr(.inl(.inl rfl))))(fun k hk1=> .inl ?_)⟨rfl,rfl,rfl⟩⟨rfl,rfl,rfl,rfl,rfl,rfl,rfl,rfl,rfl⟩
 ·obtain⟨es,cl,hm0⟩:=hr.sn.obj;exact hk hm0 d1
 ·exact hg.block k(hr.sr.lt hk1)fun e=>hk2(Option.some.inj e)
 ·obtain⟨f,p1,_⟩:=hr.tm.map;exact hg.block _ p1.lt fun e=>d3(Option.some.inj e).symm
 ·obtain⟨c,hc⟩:=aP hr.tm.row hk1;exact hno hc fun _ _ e=>by cases e
 ·obtain⟨c,hc⟩:=aP hr.pc hk1;exact hno hc fun _ _ e=>by cases e
 ·rcases hk1 with h|h|h
  ·exact .inl h
  ·refine .inr(.inl ?_);rcases h with h|⟨z,hz,h⟩
   ·exact .inl h
   ·have h1:=List.mem_filter.1 hz;have h2:z.dest≠q.dest:=by simpa using h1.2
    refine .inr⟨z,h1.1,h.imp(fun h=> ?_)id⟩;simpa [eD,h2]using h
  ·exact .inr(.inr h)
theorem xB {N B:Nat} {g:bA} {s:St} {TL:List Hp.Tm} {w:World}(n:Nd N B g s TL w)(q:Sr)(hq:q∈s.Q)(Bq:Nat)(hB:g.h q.dest=some Bq)(hl:TL.length≤1000000):
  Calls Tryz.prog 115 #[.pointer(some⟨N,0,none⟩),.pointer(some⟨Bq,0,none⟩)]w fun e w'=>e=.returned(.tuple #[])∧∃dO,EI N B g s {s with Q:=s.Q.filter fun z=>!decide(z.dest=q.dest)}dO(fun z=>z=q.dest)w w'∧Ej q.id TL dO:=by
 have hok:=n.nn.rs.sr.ok q hq;have hS:HE N Bq g.x.Tm g.x.qf q.id q.dest w.drew:=HE.of n.drew hq hB;have HC:=hide(Ut n.drew q.id(by have:=hok.id;unfold oC;omega)hl);go_enter Tryz.func115,Tryz.ntmps115
 go_wp2_with fail
 go_region_held3(HE N Bq g.x.Tm g.x.qf q.id q.dest)(first|with_reducible exact hS|with_reducible assumption)((go_at_call 150;refine HC.out.mono ?_;rintro e w2⟨b,h',v',dO,rfl,n2,u2,htk⟩;have hk2:HE N Bq g.x.Tm g.x.qf q.id q.dest w2:=HE.of n2 hq hB))
 rename_i iB;clear iB hk2 hS HC;have n2d:=n2.drew;have hS:HE N Bq g.x.Tm g.x.qf q.id q.dest w2.drew:=HE.of n2d hq hB;obtain⟨W',hrun,hm',hg'⟩:=n2d.nn.rs.sr.map.afn hok.dest 0(by rw [hB];rfl);obtain⟨n3,u3⟩:=n2d.afo q hq hm' hg';have hS':HE N Bq g.x.Tm g.x.qf q.id q.dest W':=by
  have h3:=n3.nn.cr.nd.more;obtain⟨B',h1,h2⟩:=n2d.nn.rs.sr.ln q hq;rw [show({g with hp:=h',tv:=v'}:bA).h q.dest=some Bq from hB]at h1;cases h1;have hBq:p_ Bq q(g.u q.dest)W':=h2.block(hg'.block Bq h2.lt fun e=>by
   obtain⟨es,cl,hm0⟩:=n2d.nn.rs.sr.map.obj;have e1:g.x.qf=Bq:=(Option.some.inj e).symm;obtain⟨c,hc⟩:=h2.obj;rw [show({g with hp:=h',tv:=v'}:bA).x.qf=Bq from e1,hc]at hm0;cases hm0)
  exact⟨h3.2.2.2.1,h3.2.2.1,hBq.cell.2.2.2.2,hBq.cell.1⟩
 have hfin:Hid(EI N B g s {s with Q:=s.Q.filter fun z=>!decide(z.dest=q.dest)}dO(fun z=>z=q.dest)w W'):=⟨_,n3,((Up.below(Below.refl _ _).drew).trans u2).trans((Up.below(Below.refl _ _).drew).trans u3),rfl,fun z hz=>by simp [eD,hz]⟩;replace htk:=hide htk;clear n2 n2d u2 n3 u3 hm' hg';go_wp2_with fail
 go_region_held3(HE N Bq g.x.Tm g.x.qf q.id q.dest)(first|with_reducible exact hS|with_reducible exact hS'|with_reducible assumption)(fail)
 rename_i iB;clear iB hS hS';go_wp2
 go_returns
 exact⟨rfl,dO,hfin.out,htk.out⟩
def SwP(N B:Nat)(g:bA)(s s2:St)(TL:List Hp.Tm)(so:Option Sr)(fd:Bool)(w w':World):Prop:=∃dO,EI N B g s s2 dO(fun z=>fd=true∧∃q,so=some q∧z=q.dest)w w'∧(∀q,so=some q→fd=true→Ej q.id TL dO)∧((so=none∨fd=false)→dO=TL)
theorem fQ(s:St)(d:Int)(t:ByteArray):(s.aX d t).Q=s.Q∧(s.aX d t).me=s.me∧(s.aX d t).now=s.now∧(s.aX d t).aH.length≤s.aH.length+1:=by
 unfold St.aX;split
 ·exact⟨rfl,rfl,rfl,by simp [St.send]⟩
 ·exact⟨rfl,rfl,rfl,Nat.le_succ _⟩
theorem yM(d:Int)(l:List ByteArray)(s:St):(l.foldl(fun s t=>s.aX d t)s).Q=s.Q∧(l.foldl(fun s t=>s.aX d t)s).me=s.me∧(l.foldl(fun s t=>s.aX d t)s).now=s.now∧(l.foldl(fun s t=>s.aX d t)s).aH.length≤s.aH.length+l.length:=by
 induction l generalizing s with
 |nil=>exact⟨rfl,rfl,rfl,Nat.le_refl _⟩
 |cons t l ih=>
  obtain⟨h1,h2,h3,h4⟩:=ih(s.aX d t);obtain⟨k1,k2,k3,k4⟩:=fQ s d t;simp only [List.foldl_cons,List.length_cons];exact⟨h1.trans k1,h2.trans k2,h3.trans k3,by omega⟩
theorem su {N B:Nat} {g:bA} {s:St} {TL:List Hp.Tm} {w:World}(n:Nd N B g s TL w)(d:Int)(hd:bg d)(hme:bg s.me)(fq:0≤s.now∧s.now≤4611686018427387904)(hfl:s.aH.length≤999000)(hl:TL.length≤1000000):
  Calls Tryz.prog 78 #[.pointer(some⟨N,0,none⟩),.pointer(some⟨B,0,none⟩),.int .u32 d]w fun e w'=>e=.returned(.bool((St.jD s.Q d).isSome&&(bF s.A d s.now).2))∧SwP N B g s(s.bP d)TL(St.jD s.Q d)(bF s.A d s.now).2 w w':=by
 obtain⟨⟨y,fd⟩,hy⟩:∃r,bF s.A d s.now=r:=⟨_,rfl⟩;rw [hy];obtain⟨bo,SV⟩:∃b,g.h d=b:=⟨_,rfl⟩;have hlk:=n.nn.rs.sr.map.FY hd;rw [SV]at hlk;obtain⟨s2,hs2⟩:∃s2,s.bP d=s2:=⟨_,rfl⟩;rw [hs2];unfold St.bP at hs2;rw [hy]at hs2;dsimp only at hs2 ⊢;obtain⟨so,hso⟩:∃o,St.jD s.Q d=o:=⟨_,rfl⟩;rw [hso]at hs2 ⊢;have hrel:Hid((so=none∧bo=none)∨∃q Bq,so=some q∧bo=some Bq∧q∈s.Q∧q.dest=d∧g.h q.dest=some Bq):=by
  cases so with
  |none=>exact .inl⟨rfl,SV.symm.trans(n.nn.rs.sr.off hd hso)⟩
  |some q=>
   obtain⟨h1,h2,Bq,h3,_⟩:=n.nn.rs.sr.at hso;exact .inr⟨q,Bq,rfl,SV.symm.trans h3,h1,h2,by rw [h2];exact h3⟩
 replace hs2:=hide hs2;have HF:=hide(mY n d s.now hd hy);replace hy:=hide hy;replace hso:=hide hso;replace SV:=hide SV;have c13:=n.nn.cr.nd.more.2.2.1;go_enter Tryz.func78,Tryz.ntmps78
 go_upto_region 2 with(fail)
 clear hlk c13;go_cut [9,10]from 22 to 35(nH y fd w)
 case first=>
  have hS:HO N B g.x.T s.me s.eF s.now w w.drew:=HO.mk' n(Below.refl _ _).drew;have hkB:=hide fun W5 h5=>HO.mk'(W:=W5)n h5;go_region_held3(HO N B g.x.T s.me s.eF s.now w)(first|with_reducible exact hS|with_reducible assumption|(with_reducible apply HO.uL hkB;assumption)|(with_reducible apply HO.jO hkB;assumption)|(with_reducible apply HO.d_ hkB)|(with_reducible apply hkB.out;assumption))((go_at_call 79;refine(HF.out _(And.right(by assumption))).mono ?_;rintro e w2⟨ao,c,rfl,hb2,hpr⟩;try((with_reducible have hD:=hpr bW(.slice none 0 0)(kP w));obtain⟨d0,d1,d2,d3,d4,d5,d6⟩:=hD.cell;have q0:=hD.free 0;have q1:=hD.free 1;have q2:=hD.free 2;have q3:=hD.free 3;have q4:=hD.free 4;have q5:=hD.free 5;have q6:=hD.free 6;have hD':Hid(dP w.heap.size bW(.slice none 0 0)w2):=hD;clear hD);clear hpr))
  all_goals
   go_wp2_with fail
   go_meet
   first|with_reducible exact gQ hb2|with_reducible exact jB hb2 hD'
 case rest=>
  obtain⟨E,ao,c,rfl,rfl,hE,hEl,hb2⟩:=hcut;clear HF hE hEl;have n2:=n.later hb2;rcases hrel.out with⟨rfl,rfl⟩|⟨q,Bq,rfl,rfl,hq,YF,hqB⟩
  ·have hfin:Hid(EI N B g s s2 TL(fun z=>fd=true∧∃q,(none:Option Sr)=some q∧z=q.dest)w wc):=by
    show EI N B g s s2 TL _ w wc;rw [←hs2.out];exact EI.refl n hb2
   have hsw:Hid(SwP N B g s s2 TL none fd w wc):=⟨TL,hfin.out,fun q h=>(by cases h),fun _=>rfl⟩;clear hs2 n2 hrel hfin;go_wp2_with fail
   go_returns
   exact⟨rfl,hsw.out⟩
  ·cases fd
   ·have hfin:Hid(EI N B g s s2 TL(fun z=>false=true∧∃q',some q=some q'∧z=q'.dest)w wc):=by
     show EI N B g s s2 TL _ w wc;rw [←hs2.out];exact EI.refl n hb2
    have hsw:Hid(SwP N B g s s2 TL(some q)false w wc):=⟨TL,hfin.out,fun q _ h=>(by cases h),fun _=>rfl⟩;clear hs2 n2 hrel hfin;go_wp2_with fail
    go_returns
    exact⟨rfl,hsw.out⟩
   ·replace hs2:Hid({q.txt.foldl(fun s t=>s.aX d t)s with Q:=s.Q.filter fun z=>!decide(z.dest=d)}=s2):=hs2;clear hrel;have hok:=n.nn.rs.sr.ok q hq;have hrow:=n.nn.rs.sr.row q hq;obtain⟨ta,tc,UW,_⟩:=ak hrow;have hBl:∀(g':bA)(st:St)(W:World),Nd N B g' st TL W→st.Q=s.Q→g'.h=g.h→g'.u=g.u→p_ Bq q(.slice ta q.txt.length tc)W∧W.ownsRow 0 9 1(.slice ta q.txt.length tc)q.txt.length(q.txt.map Value.string):=by
     intro g' st W n' e1 e2 e3;have hr':=n'.nn.rs.sr;rw [e1,e2,e3]at hr';obtain⟨B',h1,h2⟩:=hr'.ln q hq;rw [hqB]at h1;cases h1;have h3:=hr'.row q hq;rw [UW]at h2 h3;exact⟨h2,h3⟩
    obtain⟨b0,b1,_⟩:=(hBl g s wc n2 rfl rfl rfl).1.cell;have hBl:=hide hBl;have hln:q.txt.length≤4:=hok.txt;clear hrow UW;simp only [fJ];have n2:=hide n2;go_upto_region 5 with(fail)
    go_wp2_with fail
    clear b0 b1;go_loopw [46](fun i wr=>∃(k:Nat)(st:St)(g':bA),k≤q.txt.length∧i=.int .i64 k∧Hid(st=(q.txt.take k).foldl(fun s t=>s.aX d t)s)∧Nd N B g' st TL wr∧Up B(Ft N g s)(Ft N g' st)w wr∧Hid(g'.x.T=g.x.T)∧Hid(g'.h=g.h∧g'.u=g.u))(fun i _=>q.txt.length - (intOf i).toNat)
    case atStart=>exact⟨0,s,g,Nat.zero_le _,rfl,rfl,n2.out,.below hb2,rfl,rfl,rfl⟩
    case round=>
     obtain⟨k,st,g',hk,rfl,hst,nk,uk,tk,vk⟩:=hrel;have hsm:=hide(yM d(q.txt.take k)s);rw [←hst.out]at hsm;obtain⟨b0,b1⟩:=hBl.out g' st wr nk hsm.out.1 vk.out.1 vk.out.2;by_cases hlt:k<q.txt.length
     ·obtain⟨t,ht⟩:∃t,q.txt[k]?=some t:=⟨_,List.getElem?_eq_getElem hlt⟩;have htm:=List.mem_of_getElem? ht;obtain⟨gq,cq,hvq,_⟩:=bS b1(by omega);cases hvq;have d0:=(b1.cellAt k(by simpa using hlt)).trans(by rw [List.getElem?_map,ht]);have hfr:st.aH.length≤1000000:=by have:=hsm.out.2.2.2;simp only [List.length_take]at this;omega
      have HT:=hide(Ao nk d hd t(hok.H_ t htm)(by rw [hsm.out.2.1];exact hme)(by rw [hsm.out.2.2.1];exact fq)hfr);have hwk:wrap64((k:Int)+1)=(k:Int)+1:=by unfold wrap64;omega
      have aaa:Hid(st.aX d t=(q.txt.take(k+1)).foldl(fun s t=>s.aX d t)s):=by
       show _=_;rw [List.take_add_one,ht,List.foldl_append,←hst.out];rfl
      have zz:Hid(q.txt.length - (intOf(.int .i64((k:Int)+1))).toNat<q.txt.length - (intOf(.int .i64(k:Int))).toNat):=BR hlt;have hn1:k+1≤q.txt.length:=hlt;replace ht:=hide ht;clear b0 b1 nk hst hsm hBl hk hlt;go_wp2_with fail
      refine HT.out.mono ?_;rintro e w4⟨rfl,g4,n4,u4,t4,v4⟩;have hfin:Hid(Nd N B g4(st.aX d t)TL w4∧Up B(Ft N g s)(Ft N g4(st.aX d t))w w4∧Hid(g4.x.T=g.x.T)∧Hid(g4.h=g.h∧g4.u=g.u)):=⟨n4,uk.trans u4,t4.out.trans tk.out,v4.out.1.trans vk.out.1,v4.out.2.trans vk.out.2⟩;clear n4 u4 d0 HT;go_wp2
      exact⟨⟨k+1,_,g4,hn1,by go_num,aaa,hfin.out⟩,zz.out⟩
     ·obtain rfl:k=q.txt.length:=by omega
      have hq':q∈st.Q:=by rw [hsm.out.1];exact hq
      have hB':g'.h q.dest=some Bq:=by rw [vk.out.1];exact hqB
      have HE:=hide(xB nk q hq' Bq hB' hl);have hfin:Hid(∀w5,(∃dO,EI N B g' st {st with Q:=st.Q.filter fun z=>!decide(z.dest=q.dest)}dO(fun z=>z=q.dest)wr w5∧Ej q.id TL dO)→SwP N B g s s2 TL(some q)true w w5):=by
       rintro w5⟨dO,⟨g5,n5,u5,t5,y5⟩,h6⟩;have e1:({st with Q:=st.Q.filter fun z=>!decide(z.dest=q.dest)}:St)=s2:=by
        rw [←hs2.out,hsm.out.1,hst.out,List.take_length,YF]
       rw [e1]at n5 u5;exact⟨dO,⟨g5,n5,uk.trans u5,t5.out.trans tk.out,fun z hz=>(y5.out z fun e=>hz⟨rfl,q,rfl,e⟩).trans(by rw [vk.out.1])⟩,fun q' h _=>by cases h;exact h6,fun h=>by rcases h with h|h<;>cases h⟩
      clear b0 b1 nk hst hsm hBl hk hlt uk hq' hB' hs2;go_wp2_with fail
      refine HE.out.mono ?_;rintro e w5⟨rfl,h5⟩;have hsw:=hide(hfin.out w5 h5);clear h5 hfin HE;go_wp2
      go_returns
      exact⟨rfl,hsw.out⟩
end Go.Proofs.YtakaadcpaeiccabGreat
