import Derived.Test.YtakaadcpaeiccabGreatC40
set_option maxHeartbeats 8000000
set_option maxRecDepth 100000
namespace Go.Proofs.YtakaadcpaeiccabGreat
open Go.RowKit Go.Maps
theorem RP:(Tryz.prog.info? 9).map(fun i=>(i.zero,i.size,i.bytes))=some(some(.string⟨#[]⟩),1,16):=by kernel_rfl
theorem O3(W:World)(r:ByteArray):∀(j:Nat)(u:Value),([.string r]:List Value)[j]?=some u→(W.alloc(.cells #[.string r]9)).cell?((⟨W.heap.size,0,none⟩:Addr).add j)=some u:=by
 intro j u hj;have h:=heap_alloc_new W(.cells #[.string r]9);rw [Addr.add_lit,Nat.zero_add]
 match j,hj with
 |0,hj=>cases hj;exact cell_of_row _ _ 0 _ _ _ h
def lX(u:Int→Value)(d:Int)(v:Value):Int→Value:=fun x=>if x=d then v else u x
theorem rH.KD {B:Nat} {q:Sr} {v fn:Value} {W:World}(h:rH B q v fn W)(T:List ByteArray)(v':Value):rH B {q with txt:=T}v' fn(W.setCell⟨B,1,none⟩v'):=by
 unfold rH at h ⊢;simp [World.setCell,Array.getElem?_modify,h]
theorem p_.KD {B:Nat} {q:Sr} {v:Value} {W:World}(h:p_ B q v W)(T:List ByteArray)(v':Value):p_ B {q with txt:=T}v'(W.setCell⟨B,1,none⟩v'):=by
 obtain⟨fn,h1,h2⟩:=h;exact⟨fn,h1.KD T v',h2⟩
theorem uo {Q:List Sr}(hn:Q.Pairwise fun a b=>a.dest≠b.dest) {z q:Sr}(hz:z∈Q)(hq:q∈Q)(e:z.dest=q.dest):z=q:=by
 induction Q with
 |nil=>cases hz
 |cons a Q ih=>
  rw [List.pairwise_cons]at hn;rcases List.mem_cons.1 hz with k1|k1
  ·rcases List.mem_cons.1 hq with k2|k2
   ·rw [k1,k2]
   ·exact absurd(k1▸e)(hn.1 q k2)
  ·rcases List.mem_cons.1 hq with k2|k2
   ·exact absurd(k2▸e).symm(hn.1 z k1)
   ·exact ih hn.2 k1 k2
theorem wG.VP {Ms:Nat} {h:Int→Option Nat} {u:Int→Value} {Q:List Sr} {W W':World}(r:wG Ms h u Q W) {q q':Sr}(hq:q∈Q)(hd:q'.dest=q.dest)(hok:q'.Ok) {Bq:Nat}(hB:h q.dest=some Bq) {v':Value}(hL:p_ Bq q' v' W')(hrow:W'.ownsRow 0 9 1 v' q'.txt.length(q'.txt.map Value.string))(hblk:v'.ownBlock=(u q.dest).ownBlock∨∃b,v'.ownBlock=some b∧W.heap.size≤b)(hf:Fx(fun k=>k=Bq∨(u q.dest).ownBlock=some k)W W'):wG Ms h(lX u q.dest v')(St.di Q q')W':=by
 obtain⟨B',hb1,hb2⟩:=r.ln q hq;rw [hB]at hb1;cases hb1;obtain⟨cB,hcB⟩:=hb2.obj;have hno:∀ {k:Nat} {o:Obj},W.heap[k]?=some o→(∀c,o≠ .cells c 177(0,0))→(∀c,o≠ .cells c 9(0,0))→W'.heap[k]?=W.heap[k]?:=fun {k o}ho h1 h2=>hf.block k(aD ho)(by
  rintro(rfl|hk)
  ·rw [hcB]at ho;exact h1 _(Option.some.inj ho).symm
  ·obtain⟨c,hc⟩:=aP(r.row q hq)hk;rw [hc]at ho;exact h2 _(Option.some.inj ho).symm)
 have rU:∀z∈St.di Q q',(z=q'∨(z∈Q∧z.dest≠q.dest)):=fun z hz=>by
  rcases eZ hz with h|⟨h1,h2⟩
  ·exact .inl h
  ·exact .inr⟨h1,hd▸h2⟩
 have hu1:lX u q.dest v' q'.dest=v':=by unfold lX;rw [if_pos hd]
 have hu2:∀z:Sr,z.dest≠q.dest→lX u q.dest v' z.dest=u z.dest:=fun z hz=>by unfold lX;rw [if_neg hz]
 have hap:∀z∈Q,z.dest≠q.dest→v'.ownBlock=none∨v'.ownBlock≠(u z.dest).ownBlock:=fun z hz hne=>by
  rcases hblk with h1|⟨b,h1,h2⟩
  ·rw [h1];exact r.apart q hq z hz(Ne.symm hne)
  ·rw [h1];refine .inr fun e=> ?_;have:=((r.row z hz).lt b e.symm).2;omega
 refine⟨by rw [nQ];obtain⟨es,cl,hm⟩:=r.map.obj;exact r.map.block(hno hm(fun _ e=>by cases e)(fun _ e=>by cases e)),by rw [yc,BG,←yc];exact r.qA,fun z hz=> ?_,fun d B hd' hB'=> ?_,fun z hz=> ?_,fun z hz=> ?_,fun a ha b hb hne=> ?_,by rw [nQ];exact r.len⟩
 ·rcases rU z hz with rfl|⟨h1,_⟩
  ·exact hok
  ·exact r.ok z h1
 ·obtain⟨y,hy,rfl⟩:=r.dom d B hd' hB';by_cases e:y.dest=q'.dest
  ·exact⟨q',(l7 hy).1 e,e.symm⟩
  ·exact⟨y,(l7 hy).2 e,rfl⟩
 ·rcases rU z hz with rfl|⟨h1,h2⟩
  ·rw [hu1,hd];exact⟨Bq,hB,hL⟩
  ·obtain⟨B',k1,k2⟩:=r.ln z h1;rw [hu2 z h2];refine⟨B',k1,k2.block(hf.block _ k2.lt ?_)⟩;rintro(rfl|hk)
   ·obtain⟨fn1,m1,_⟩:=k2;obtain⟨fn2,m2,_⟩:=hb2;unfold rH at m1 m2;rw [m1]at m2;simp only [KA,Option.some.injEq,Obj.cells.injEq,Array.mk.injEq,List.cons.injEq,Value.int.injEq,true_and]at m2;exact h2 m2.1.1
   ·obtain⟨c,hc⟩:=aP(r.row q hq)hk;obtain⟨c',hc'⟩:=k2.obj;rw [hc]at hc';cases hc'
 ·rcases rU z hz with rfl|⟨h1,h2⟩
  ·rw [hu1];exact hrow
  ·rw [hu2 z h2];refine bD(r.row z h1)fun k hk=>hf.block k((r.row z h1).lt k hk).2 ?_;rintro(rfl|hk')
   ·obtain⟨c,hc⟩:=aP(r.row z h1)hk;rw [hcB]at hc;cases hc
   ·rcases r.apart q hq z h1(Ne.symm h2)with e|e
    ·rw [e]at hk';cases hk'
    ·exact e(hk'.trans hk.symm)
 ·rcases rU a ha with rfl|⟨a1,a2⟩<;>rcases rU b hb with rfl|⟨b1,b2⟩
  ·exact absurd rfl hne
  ·rw [hu1,hu2 b b2];exact hap b b1 b2
  ·rw [hu1,hu2 a a2];rcases hap a a1 a2 with e|e
   ·by_cases hn:(u a.dest).ownBlock=none
    ·exact .inl hn
    ·exact .inr(by rw [e];exact hn)
   ·exact .inr(Ne.symm e)
  ·rw [hu2 a a2,hu2 b b2];exact r.apart a a1 b b1 hne
theorem Nd.VP {N B:Nat} {g:bA} {s:St} {TL:List Hp.Tm} {W W':World}(n:Nd N B g s TL W) {q q':Sr}(hq:q∈s.Q)(hd:q'.dest=q.dest)(hok:q'.Ok) {Bq:Nat}(hB:g.h q.dest=some Bq) {v':Value}(hL:p_ Bq q' v' W')(hrow:W'.ownsRow 0 9 1 v' q'.txt.length(q'.txt.map Value.string))(hblk:v'.ownBlock=(g.u q.dest).ownBlock∨∃b,v'.ownBlock=some b∧W.heap.size≤b)(hf:Fx(fun k=>k=Bq∨(g.u q.dest).ownBlock=some k)W W'):
  Nd N B {g with u:=lX g.u q.dest v'} {s with Q:=St.di s.Q q'}TL W'∧Up B(Ft N g s)(Ft N {g with u:=lX g.u q.dest v'} {s with Q:=St.di s.Q q'})W W':=by
 have hr:=n.nn.rs;obtain⟨e1,e2,e3,e4,e5,e6,e7,e8,e9⟩:=n.nn.eq;obtain⟨c,hc⟩:=(n.jD hq hB).obj;have hno:∀ {k:Nat} {o:Obj},W.heap[k]?=some o→(∀c,o≠ .cells c 177(0,0))→(∀c,o≠ .cells c 9(0,0))→W'.heap[k]?=W.heap[k]?:=fun {k o}ho h1 h2=>hf.block k(aD ho)(by
  rintro(rfl|hk)
  ·rw [hc]at ho;exact h1 _(Option.some.inj ho).symm
  ·obtain⟨c,hc⟩:=aP(hr.sr.row q hq)hk;rw [hc]at ho;exact h2 _(Option.some.inj ho).symm)
 have aaV:∀k,(k=Bq∨(g.u q.dest).ownBlock=some k)→jF g.x g.h g.u g.Mt g.tv s k:=fun k h=> .inr(.inl(.inr⟨q,hq,h.imp(fun e=>by rw [e];exact hB)id⟩));refine n.rest(s':={s with Q:=St.di s.Q q'})(dO:=TL)(x':=g.x)(h':=g.h)(u':=lX g.u q.dest v')(Et:=g.Mt)(hp':=g.hp)(tv':=g.tv)(n.nn.cr.nd.block(hno n.nn.cr.nd(fun _ e=>by cases e)(fun _ e=>by cases e)))rfl rfl⟨e1,e2,e3,e4,e5,e6,e7,e8,e9⟩
  ⟨hr.sn.block(by obtain⟨es,cl,hm⟩:=hr.sn.obj;exact hno hm(fun _ e=>by cases e)(fun _ e=>by cases e)),hr.sr.VP hq hd hok hB hL hrow hblk hf,hr.tm.at(hno hr.tm.blk(fun _ e=>by cases e)(fun _ e=>by cases e))(by
   obtain⟨f,p1,_⟩:=hr.tm.map;obtain⟨es,cl,hm⟩:=p1.obj;exact hno hm(fun _ e=>by cases e)(fun _ e=>by cases e))(fun k hk=>by
   obtain⟨c,hc⟩:=aP hr.tm.row hk;exact hno hc(fun _ e=>by cases e)(fun _ e=>by cases e)),hr.hpo,hr.pm,bD hr.pc fun k hk=>by
   obtain⟨c,hc⟩:=aP hr.pc hk;exact hno hc(fun _ e=>by cases e)(fun _ e=>by cases e)⟩
  (hf.mono fun k h=> .inr(aaV k h))(fun k hk=> ?_)⟨rfl,rfl,rfl⟩⟨rfl,rfl,rfl,rfl,rfl,rfl,rfl,rfl,rfl⟩
 rcases hk with h|h|h
 ·exact .inl(.inl h)
 ·rcases h with h|⟨z,hz,h⟩
  ·exact .inl(.inr(.inl(.inl h)))
  ·rcases eZ hz with rfl|⟨h1,h2⟩
   ·rcases h with h|h
    ·rw [hd]at h;exact .inl(.inr(.inl(.inr⟨q,hq,.inl h⟩)))
    ·unfold lX at h;rw [if_pos hd]at h;rcases hblk with h3|⟨b,h3,h4⟩
     ·exact .inl(.inr(.inl(.inr⟨q,hq,.inr(h3▸h)⟩)))
     ·rw [h3]at h;cases h;exact .inr⟨h4,(hrow.lt k h3).2⟩
   ·have h2':z.dest≠q.dest:=hd▸h2;rcases h with h|h
    ·exact .inl(.inr(.inl(.inr⟨z,h1,.inl h⟩)))
    ·unfold lX at h;rw [if_neg h2']at h;exact .inl(.inr(.inl(.inr⟨z,h1,.inr h⟩)))
 ·exact .inl(.inr(.inr h))
def HoP(N B:Nat)(g:bA)(s s2:St)(TL:List Hp.Tm)(w w':World):Prop:=∃g',Nd N B g' s2 TL w'∧Up B(Ft N g s)(Ft N g' s2)w w'∧Hid(g'.x.T=g.x.T)∧Hid(g'.h=g.h)
theorem Ur {N B:Nat} {g:bA} {s:St} {TL:List Hp.Tm} {w:World}(n:Nd N B g s TL w)(hdl:s.aN.length≤900000)(q:Sr)(hq:q∈s.Q)(Bq:Nat)(hB:g.h q.dest=some Bq)(t:ByteArray)(ht:t.size≤16):
  Calls Tryz.prog 82 #[.pointer(some⟨Bq,0,none⟩),.pointer(some⟨B,0,none⟩),.string t]w fun e w'=>e=.returned(.tuple #[])∧HoP N B g s {(s.hold q t).1 with Q:=St.di s.Q(s.hold q t).2}TL w w':=by
 obtain⟨i0,hi,hz0,hz1,hz2⟩:=info_parts RP;have hok:=n.nn.rs.sr.ok q hq;have hrow:=n.nn.rs.sr.row q hq;have hL:=n.jD hq hB;obtain⟨s9,qG⟩:∃z,({(s.hold q t).1 with Q:=St.di s.Q(s.hold q t).2}:St)=z:=⟨_,rfl⟩;rw [qG];have Yf:∀W0:World,Hid(∀W5,Below W0.heap.size W0 W5→Calls Tryz.prog 119 #[.string t]W5 fun e w'=>e=.returned(.string t)∧Below W0.heap.size W0 w'):=by
  intro W0 W5 h5;refine(OZ t W5(by omega)).mono ?_;rintro e w'⟨rfl,hb⟩;exact⟨rfl,h5.trans(hb.mono h5.size)⟩
 have Xt:∀(g1:bA)(s1:St)(q1:Sr)(W1:World),Nd N B g1 s1 TL W1→q1∈s1.Q→q1.dest=q.dest→g1.h q1.dest=some Bq→q1.txt.length≤3→(∀u,Up B u(Ft N g1 s1)w W1→u=Ft N g s→Hid(g1.x.T=g.x.T)→Hid(g1.h=g.h)→ {s1 with Q:=St.di s1.Q {q1 with txt:=q1.txt++ [t]}}=s9→
   ∃ao c,∀W5,Below W1.heap.size W1 W5→∃v,v=.slice ao q1.txt.length c∧W5.cell?⟨Bq,1,none⟩=some v∧(W5.alloc(.cells #[.string t]9)).cell?⟨Bq,1,none⟩=some v∧(W5.alloc(.cells #[.string t]9)).ownsRow 0 9 1 v q1.txt.length(q1.txt.map Value.string)∧(∀j u,([.string t]:List Value)[j]?=some u→(W5.alloc(.cells #[.string t]9)).cell?((⟨W5.heap.size,0,none⟩:Addr).add j)=some u)∧
    ∀v7 w7,w7.ownsRow 0 9 1 v7(q1.txt.length+1)(q1.txt.map Value.string++ [.string t])→(W5.alloc(.cells #[.string t]9)).grownBy w7 v.ownBlock→(v7.ownBlock=v.ownBlock∨v7.ownBlock=some(W5.alloc(.cells #[.string t]9)).heap.size)→(∃x,w7.cell?⟨Bq,1,none⟩=some x)∧w7.frozen?⟨Bq,1,none⟩=false∧HoP N B g s s9 TL w(w7.setCell⟨Bq,1,none⟩v7)):=by
  intro g1 s1 q1 W1 n1 hq1 hd1 hB1 hl1 u up hu t1 y1 e9;obtain⟨ao,c,hv,_⟩:=ak(n1.nn.rs.sr.row q1 hq1);refine⟨ao,c,fun W5 h5=> ?_⟩;subst hu;have n5:=n1.later h5;have hL5:=n5.jD hq1 hB1;have iq:=n5.nn.rs.sr.row q1 hq1;have ok1:=n5.nn.rs.sr.ok q1 hq1;have jk:Below W5.heap.size W5(W5.alloc(.cells #[.string t]9)):=(Below.refl _ _).alloc(Nat.le_refl _)_;have n6:=n5.later jk;have hL6:=n6.jD hq1 hB1;have lw:=n6.nn.rs.sr.row q1 hq1;refine⟨_,hv,hL5.cell.2.1,hL6.cell.2.1,lw,O3 W5 t,fun v7 w7 ho hg hv=> ?_⟩;obtain⟨cB,hcB⟩:=hL6.obj;have hne:(g1.u q1.dest).ownBlock≠some Bq:=aA lw hcB(fun c e=>by cases e);have hL7:p_ Bq q1(g1.u q1.dest)w7:=hL6.block(hg.block Bq hL6.lt(fun e=>hne e.symm));have hL8:=hL7.KD(q1.txt++ [t])v7;have hgB:w7.grownBy(w7.setCell⟨Bq,1,none⟩v7)(some Bq):=aa(aC _(some Bq))1 _;obtain⟨c7,hc7⟩:=hL7.obj;have EE:=ho.kept hgB(.inr(aA ho hc7(fun c e=>by cases e)));have hfx:Fx(fun k=>k=Bq∨(g1.u q1.dest).ownBlock=some k)(W5.alloc(.cells #[.string t]9))(w7.setCell⟨Bq,1,none⟩v7):=aT(Fx.grown hg fun k e=> .inr e)hgB(fun i _ e=> .inl(Option.some.inj e).symm);obtain⟨p,uu⟩:=n6.VP(q':={q1 with txt:=q1.txt++ [t]})hq1 rfl⟨ok1.dest,ok1.aS,ok1.ret,by dsimp only;rw [List.length_append,List.length_singleton];omega,fun z hz=>(List.mem_append.1 hz).elim(ok1.H_ z)(fun h=>by rw [List.mem_singleton]at h;subst h;exact ht),ok1.id⟩hB1 hL8(by dsimp only;rw [List.length_append,List.map_append];exact EE)(hv.imp id fun h=>⟨_,h,Nat.le_refl _⟩)hfx;rw [e9]at p uu;exact⟨⟨_,hL7.cell.2.1⟩,hL7.frees 1,_,p,((up.trans(.below h5)).trans(.below jk)).trans uu,t1,y1⟩
 obtain⟨ao,c,hv,_⟩:=ak hrow;obtain⟨k0,k1,k2,k3,k4⟩:=hL.cell;by_cases h4:q.txt.length=4
 ·have e9:({s.drop 6 with Q:=St.di s.Q {q with txt:=q.txt.tail++ [t]}}:St)=s9:=by
   rw [←qG];unfold St.hold;rw [if_pos h4]
  obtain⟨gb,cap,hv',_⟩:=bS hrow(by omega);rw [hv',h4]at hrow;have HD:=DS.tX 0 gb 4 cap 0 _ w hrow(by omega)(by omega)(fun u hu=>by
   obtain⟨z,_,rfl⟩:=List.mem_map.1 hu;rfl)
  have htl:(q.txt.map Value.string).take 0++(q.txt.map Value.string).drop(0+1)=q.txt.tail.map Value.string:=by
   rw [List.take_zero,List.nil_append,Nat.zero_add,List.adw,List.ab5]
  rw [htl]at HD;have HD2:Hid(Calls Tryz.prog 118 #[.slice(some⟨gb,0,none⟩)4 cap,.int .i64 0,.int .i64 1]w fun e w'=>e=.returned(.slice(some⟨gb,0,none⟩)3 cap)∧(∃x,w'.cell?⟨Bq,1,none⟩=some x)∧w'.frozen?⟨Bq,1,none⟩=false∧∃g1,Nd N B g1 {s with Q:=St.di s.Q {q with txt:=q.txt.tail}}TL(w'.setCell⟨Bq,1,none⟩(.slice(some⟨gb,0,none⟩)3 cap))∧Up B(Ft N g s)(Ft N g1 {s with Q:=St.di s.Q {q with txt:=q.txt.tail}})w(w'.setCell⟨Bq,1,none⟩(.slice(some⟨gb,0,none⟩)3 cap))∧Hid(g1.x.T=g.x.T)∧Hid(g1.h=g.h)):=by
   refine Calls.mono HD ?_;rintro e w'⟨rfl,h1,h2⟩;obtain⟨cB,hcB⟩:=hL.obj;have hne:gb≠Bq:=by
    have:=aA hrow hcB(fun c e=>by cases e);simpa [Value.ownBlock]using this
   have hL1:p_ Bq q(g.u q.dest)w':=hL.block(h2.block Bq hL.lt(fun e=>hne(Option.some.inj e).symm));have hL2:=hL1.KD q.txt.tail(.slice(some⟨gb,0,none⟩)3 cap);have hgB:w'.grownBy(w'.setCell⟨Bq,1,none⟩(.slice(some⟨gb,0,none⟩)3 cap))(some Bq):=aa(aC _(some Bq))1 _;obtain⟨c7,hc7⟩:=hL1.obj;have EE:=h1.kept hgB(.inr(aA h1 hc7(fun c e=>by cases e)));have hfx:Fx(fun k=>k=Bq∨(g.u q.dest).ownBlock=some k)w(w'.setCell⟨Bq,1,none⟩(.slice(some⟨gb,0,none⟩)3 cap)):=aT(Fx.grown h2 fun k e=> .inr(by rw [hv',←e];rfl))hgB(fun i _ e=> .inl(Option.some.inj e).symm);have hl3:q.txt.tail.length=3:=by rw [List.mP];omega
   obtain⟨p,uu⟩:=n.VP(q':={q with txt:=q.txt.tail})hq rfl⟨hok.dest,hok.aS,hok.ret,by dsimp only;omega,fun z hz=>hok.H_ z(List.fK hz),hok.id⟩hB hL2(by dsimp only;rw [hl3];exact EE)(.inl(by rw [hv'];rfl))hfx;exact⟨rfl,⟨_,hL1.cell.2.1⟩,hL1.frees 1,_,p,uu,rfl,rfl⟩
  rw [hv',h4]at k1;clear hL n HD hrow;go_enter Tryz.func82,Tryz.ntmps82
  go_wp2_with fail
  refine Calls.mono HD2.out ?_;rintro e w1⟨rfl,⟨x1,j1⟩,j2,g1,n1,u1,t1,y1⟩;clear HD2 k0 k1 k2 k3 k4;have HX:=hide(Es n1 6(by dsimp only;omega));obtain⟨s1,hs1⟩:∃z,({s with Q:=St.di s.Q {q with txt:=q.txt.tail}}:St).drop 6=z:=⟨_,rfl⟩;have Sa:Hid(s1.Q=St.di s.Q {q with txt:=q.txt.tail}∧ {s1 with Q:=St.di s1.Q {q with txt:=q.txt.tail++ [t]}}=s9):=by
   show _∧_;rw [←hs1,←e9];refine⟨rfl,?_⟩;show({s.drop 6 with Q:=St.di(St.di s.Q {q with txt:=q.txt.tail}) {q with txt:=q.txt.tail++ [t]}}:St)=_;rw [sO s.Q(a:={q with txt:=q.txt.tail})(b:={q with txt:=q.txt.tail++ [t]})rfl]
  rw [hs1]at HX;go_upto_region 2 with(fail)
  generalize World.setCell _ _ _=W2 at HX u1;clear n1 hs1;go_wp2_with fail
  refine Calls.mono HX.out ?_;rintro e w3⟨rfl,g3,n3,u3,t3,y3⟩;have hq3:({q with txt:=q.txt.tail}:Sr)∈s1.Q:=by rw [Sa.out.1];exact(l7 hq).1 rfl
  have hB3:g3.h({q with txt:=q.txt.tail}:Sr).dest=some Bq:=by rw [y3.out.1,y1.out];exact hB
  have HK:=hide(Xt g3 s1 {q with txt:=q.txt.tail}w3 n3 hq3 rfl hB3(by dsimp only;rw [List.mP];omega)_(u1.trans u3)rfl(t3.out.trans t1.out)(y3.out.1.trans y1.out)Sa.out.2);have HCl:=Yf w3;have hlt:Hid(({q with txt:=q.txt.tail}:Sr).txt.length≤3):=by show _≤_;dsimp only;rw [List.mP];omega
  generalize({q with txt:=q.txt.tail}:Sr)=q3 at HK hlt;clear Xt Yf HX n3 u3 u1 hq3 hB3 Sa e9 qG t3 y3 t1 y1 hok hv hv' j1 j2;go_wp2_with fail
  obtain⟨aq,cq,HK⟩:=HK.out;replace HK:=hide HK;obtain⟨_,rfl,kk,_,_⟩:=HK.out _(Below.refl _ _).drew;obtain⟨_,rfl,kw,_,_⟩:=HK.out _(Below.refl _ _);go_region_law(first
   |(go_simp;go_at_call 119;refine(HCl.out _(by first|exact Below.refl _ _|exact(Below.refl _ _).drew|exact below_drewN(Below.refl _ _)_)).mono ?_;rintro e w5⟨rfl,hb5⟩;obtain⟨v5,rfl,m1,m2,m3,m4,m5⟩:=HK.out _ hb5)
   |(refine gz rfl(.tmp 26)(.tmp 29)80 rfl 0 9 i0(.string⟨#[]⟩)1 16 Tryz.underlying80 hi hz0 hz1 hz2 rfl(by decide)_ _ _ rfl m3⟨w5.heap.size,0,none⟩1 1 [.string t]rfl rfl m4(by simp [Value.oneCell'])(by unfold maxLen;have:=hlt.out;omega)(by have:=hlt.out;omega)(Nat.zero_le _) ?_;intro v7 w7 gP eu hv7;obtain⟨⟨x7,f1⟩,f2,hfin⟩:=m5 v7 w7 gP eu hv7;obtain⟨PS,TW,rfl,_⟩:=ak gP;replace hfin:=hide hfin))
  all_goals(generalize World.setCell _ _ _=w8 at hfin ⊢;go_wp2;go_returns;exact⟨rfl,hfin.out⟩)
 ·have e9:({s with Q:=St.di s.Q {q with txt:=q.txt++ [t]}}:St)=s9:=by
   rw [←qG];unfold St.hold;rw [if_neg h4]
  have hlt':q.txt.length≤3:=by have:=hok.txt;omega
  have h4':((q.txt.length:Int)==4)=false:=by simp;omega
  have HK:=hide(Xt g s q w n hq rfl hB hlt' _(Up.refl _ _ _)rfl rfl rfl e9);have HCl:=Yf w;have hlt:Hid(q.txt.length≤3):=hlt';rw [hv]at k1;go_enter Tryz.func82,Tryz.ntmps82
  go_wp2_with fail
  clear Xt Yf n qG e9 hrow hL hok k0 k1 k2 k3 k4 hv h4 h4' hlt' hB hq;obtain⟨aq,cq,HK⟩:=HK.out;replace HK:=hide HK;obtain⟨_,rfl,kk,_,_⟩:=HK.out _(Below.refl _ _).drew;obtain⟨_,rfl,kw,_,_⟩:=HK.out _(Below.refl _ _);go_region_law(first
   |(go_simp;go_at_call 119;refine(HCl.out _(by first|exact Below.refl _ _|exact(Below.refl _ _).drew|exact below_drewN(Below.refl _ _)_)).mono ?_;rintro e w5⟨rfl,hb5⟩;obtain⟨v5,rfl,m1,m2,m3,m4,m5⟩:=HK.out _ hb5)
   |(refine gz rfl(.tmp 26)(.tmp 29)80 rfl 0 9 i0(.string⟨#[]⟩)1 16 Tryz.underlying80 hi hz0 hz1 hz2 rfl(by decide)_ _ _ rfl m3⟨w5.heap.size,0,none⟩1 1 [.string t]rfl rfl m4(by simp [Value.oneCell'])(by unfold maxLen;have:=hlt.out;omega)(by have:=hlt.out;omega)(Nat.zero_le _) ?_;intro v7 w7 gP eu hv7;obtain⟨⟨x7,f1⟩,f2,hfin⟩:=m5 v7 w7 gP eu hv7;obtain⟨PS,TW,rfl,_⟩:=ak gP;replace hfin:=hide hfin))
  all_goals(generalize World.setCell _ _ _=w8 at hfin ⊢;go_wp2;go_returns;exact⟨rfl,hfin.out⟩)
end Go.Proofs.YtakaadcpaeiccabGreat
