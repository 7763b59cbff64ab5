import Derived.Test.YtakaadcpaeiccabGreatC37
set_option maxHeartbeats 4000000
set_option maxRecDepth 100000
namespace Go.Proofs.YtakaadcpaeiccabGreat
open Go.RowKit Go.Maps Go.Sort
theorem Nj(N:Nat)(x:lF)(pc:List Int)(now:Int)(w:World)(hN:ib N x w)(hp:w.ownsRow 0 35 1 x.pc pc.length(pc.map(Value.int .u64)))(fq:0≤now∧now≤4611686018427387904):
  Calls Tryz.prog 153 #[.pointer(some⟨N,15,none⟩),.int .u64 now]w fun e w'=>e=.returned(.bool(St.full pc now))∧w'=w:=by
 have n15:=hN.more.2.2.2.2;obtain⟨ao,c,hv,hH⟩:=ak hp;rw [hv]at n15;have hf:Hid(St.full pc now=(decide(pc.length=5)&&(decide(now<1000)||decide(pc.getD 0 0>now - 1000)))):=rfl;by_cases h5:pc.length=5
 ·obtain⟨t,hpc⟩:∃t,(pc.map(Value.int .u64))[0]?=some(.int .u64 t)∧pc.getD 0 0=t:=by
   match pc,h5 with
   |t::_,_=>exact⟨t,rfl,rfl⟩
  obtain⟨b,o,rfl,_⟩:=hH 0 _ hpc.1;have c0:=hH.one rfl hpc.1;have hl:Hid((decide(pc.length=5))=true):=by simpa [Hid]using h5
  rw [h5]at n15;rw [Nat.add_zero]at c0;generalize hr:St.full pc now=r;rw [hr,hl.out,hpc.2]at hf;clear hr hl hp hv hH h5 hpc;by_cases h1:now<1000
  ·have d1:decide(now<1000)=true:=decide_eq_true h1;rw [d1]at hf;go_enter Tryz.func153,Tryz.ntmps153
   go_wp2
   go_returns
   exact⟨by rw [hf.out];rfl,rfl⟩
  ·have d1:decide(now<1000)=false:=decide_eq_false h1;rw [d1]at hf;have hw:IntKind.u64.wrap(now - 1000)=now - 1000:=by
    simp only [IntKind.wrap,IntKind.signed,IntKind.bits];simp;omega
   go_enter Tryz.func153,Tryz.ntmps153
   go_wp2
   go_returns
   exact⟨by rw [hf.out];simp,rfl⟩
 ·have d5:decide(pc.length=5)=false:=decide_eq_false h5;rw [d5]at hf;have h5':((pc.length:Int)==5)=false:=by simp;omega
  generalize hr:St.full pc now=r;rw [hr]at hf;clear hr hp hv hH;go_enter Tryz.func153,Tryz.ntmps153
  go_wp2
  go_returns
  exact⟨by rw [hf.out];rfl,rfl⟩
theorem RO:(Tryz.prog.info? 35).map(fun i=>(i.zero,i.size,i.bytes))=some(some(.int .u64 0),1,8):=by kernel_rfl
theorem rQ {a b:List Int}(ha:a.Pairwise(·≤·))(hb:b.Pairwise(·≤·))(h:a.Perm b):a=b:=
 List.Perm.eq_of_pairwise(le:=fun x y=>x≤y)(fun x y _ _ h1 h2=>by omega)ha hb h
theorem oW {pc:List Int} {now:Int}(hs:pc.Pairwise(·≤·))(hm:∀t∈pc,t≤now):(St.dH pc now).Pairwise(·≤·)∧(∀t∈St.dH pc now,t≤now):=by
 unfold St.dH;have h1:∀l:List Int,l.Pairwise(·≤·)→(∀t∈l,t≤now)→(l++ [now]).Pairwise(·≤·)∧∀t∈l++ [now],t≤now:=by
  intro l h1 h2;refine⟨List.eU.2⟨h1,List.gV _ _,fun a ha b hb=>by rw [List.mem_singleton]at hb;subst hb;exact h2 a ha⟩,fun t ht=> ?_⟩;rcases List.mem_append.1 ht with h|h
  ·exact h2 t h
  ·rw [List.mem_singleton]at h;omega
 split
 ·exact h1 _ hs.tail fun t ht=>hm t(List.fK ht)
 ·exact h1 _ hs hm
theorem Nl {pc:List Int}(h:pc.length≤5)(now:Int):(St.dH pc now).length≤5:=by
 unfold St.dH;split<;>simp<;>omega
theorem IW {pc:List Int} {now:Int}(h5:pc.length=5):(St.dH pc now).length=5∧(pc.toArray.setIfInBounds 0 now).toList.Perm(St.dH pc now):=by
 match pc,h5 with
 |a::l,h5=>
  have e:St.dH(a::l)now=l++ [now]:=by
   unfold St.dH;rw [if_pos h5];rfl
  rw [e];refine⟨by simpa using h5,?_⟩;have:((a::l).toArray.setIfInBounds 0 now).toList=now::l:=by simp
  rw [this];exact(List.perm_append_singleton now l).symm
theorem O0(W:World)(r:Int):∀(j:Nat)(u:Value),([.int .u64 r]:List Value)[j]?=some u→(W.alloc(.cells #[.int .u64 r]35)).cell?((⟨W.heap.size,0,none⟩:Addr).add j)=some u:=by
 intro j u hj;have h:=heap_alloc_new W(.cells #[.int .u64 r]35);rw [Addr.add_lit,Nat.zero_add]
 match j,hj with
 |0,hj=>cases hj;exact cell_of_row _ _ 0 _ _ _ h
theorem QQ(N:Nat)(x:lF)(pc:List Int)(now:Int)(w:World)(hN:ib N x w)(hp:w.ownsRow 0 35 1 x.pc pc.length(pc.map(Value.int .u64)))(hl:pc.length≤5)(hs:pc.Pairwise(·≤·))(hm:∀t∈pc,t≤now):
  Calls Tryz.prog 155 #[.pointer(some⟨N,15,none⟩),.int .u64 now]w fun e w'=>∃v',e=.returned(.tuple #[])∧ib N {x with pc:=v'}w'∧w'.ownsRow 0 35 1 v'(St.dH pc now).length((St.dH pc now).map(Value.int .u64))∧Fx(fun k=>k=N∨x.pc.ownBlock=some k)w w'∧(v'.ownBlock=x.pc.ownBlock∨∃b,v'.ownBlock=some b∧w.heap.size≤b):=by
 obtain⟨i0,hi,hz0,hz1,hz2⟩:=info_parts RO;have n15:=hN.more.2.2.2.2;have f15:=hN.free 15;obtain⟨hsrt,_⟩:=oW hs hm;replace hsrt:=hide hsrt;by_cases h5:pc.length=5
 ·obtain⟨g,cap,hv,_⟩:=bS hp(by omega);obtain⟨q5,qp⟩:=IW(now:=now)h5;have hSR:U8.SR 0 g cap 5 pc.toArray w:=⟨by simp [h5],by rw [hv,h5]at hp;simpa [U8.UC]using hp⟩;have hgN:g≠N:=by
   have:=aA hp hN(fun c e=>by cases e);rw [hv]at this;simpa [Value.ownBlock]using this
  have hst:=(hSR.row.stored 0(.int .u64 now)).1;rw [U8.wE]at hst;have hS1:U8.SR 0 g cap 5(pc.toArray.setIfInBounds 0 now)(w.setCell⟨g,0,none⟩(.int .u64 now)):=⟨by simp [h5],hst⟩;have hg1:w.grownBy(w.setCell⟨g,0,none⟩(.int .u64 now))(some g):=Jy(mV w(some g))0 _;have hN1:=hN.kept hg1(fun e=>hgN(Option.some.inj e));have HS:=hide(U8.uq 0 g cap 5 _ _ hS1(by omega));have c0:=hSR.cell(j:=0)(by omega);have g0:=hSR.free 0;rw [hv,h5]at n15;have n15':=hN1.more.2.2.2.2;rw [hv,h5]at n15';have hl5:((pc.length:Int)==5)=true:=by simp;omega
  have hpv:Hid(x.pc=.slice(some⟨g,0,none⟩)5 cap):=by show _=_;rw [hv,h5]
  have hfin:Hid(∀d' w',U8.SR 0 g cap 5 d' w'→PermIn 0 5(pc.toArray.setIfInBounds 0 now)d'→SortedIn ltInt 0 5 d'→(w.setCell⟨g,0,none⟩(.int .u64 now)).grownBy w'(some g)→ib N {x with pc:=.slice(some⟨g,0,none⟩)5 cap}w'∧w'.ownsRow 0 35 1(.slice(some⟨g,0,none⟩)5 cap)(St.dH pc now).length((St.dH pc now).map(Value.int .u64))∧Fx(fun k=>k=N∨x.pc.ownBlock=some k)w w'):=by
   intro d' w' h1 h2 h3 h4;have e1:d'.toList=St.dH pc now:=rQ(sN h1.size h3)hsrt.out((yZ(by simp [h5])h2).trans qp);refine⟨?_,?_,Fx.grown(hg1.trans h4)fun k e=> .inr(by rw [hpv.out,←e];rfl)⟩
   ·have h7:=hN1.kept h4(fun e=>hgN(Option.some.inj e));have e2:({x with pc:=.slice(some⟨g,0,none⟩)5 cap}:lF)=x:=by rw [←hpv.out]
    rw [e2];exact h7
   ·rw [q5];have:=h1.row;unfold U8.UC at this;rw [e1]at this;exact this
  clear hS1 hst hSR hN1 hg1 qp q5 hs hm hsrt hp hN h5 hv hl;go_enter Tryz.func155,Tryz.ntmps155
  go_wp2_with fail
  refine Calls.mono HS.out ?_;rintro e w2⟨rfl,d',k1,k2,k3,k4⟩;have hf:=hide(hfin.out d' w2 k1 k2 k3 k4);clear HS hfin k1 k2 k3 k4;go_wp2
  go_returns
  exact⟨_,rfl,hf.out.1,hf.out.2.1,hf.out.2.2,.inl(by rw [hpv.out])⟩
 ·have e1:St.dH pc now=pc++ [now]:=by unfold St.dH;rw [if_neg h5]
  obtain⟨ao,c,hv,_⟩:=ak hp;have hb1:Below w.heap.size w(w.alloc(.cells #[.int .u64 now]35)):=(Below.refl _ _).alloc(Nat.le_refl _)_;have hN1:=hN.later hb1;have hp1:=aM hp hb1;have hcr:=O0 w now;have hl5:((pc.length:Int)==5)=false:=by simp;omega
  rw [hv]at n15 hp hp1;have hpv:=hide hv;clear hv;go_enter Tryz.func155,Tryz.ntmps155
  go_wp2_with(at_builtin;refine wpList_append_own_at _ rfl _ _ 66 rfl 0 35 i0(.int .u64 0)1 8 Tryz.underlying66 hi hz0 hz1 hz2 rfl(by decide)(.slice ao pc.length c)pc.length(pc.map(Value.int .u64))rfl(hp.alloc _)⟨w.heap.size,0,none⟩1 1 [.int .u64 now]rfl rfl hcr(by simp [Value.oneCell'])(by unfold maxLen;omega)(by omega) ?c3 ?_)
  case c3=>simp
  intro v4 W4 B_ hg4 _ hv4;have Sl:W4.ownsRow 0 35 1 v4(St.dH pc now).length((St.dH pc now).map(Value.int .u64)):=by
   rw [e1,List.map_append,List.length_append];exact B_
  have acH:(St.dH pc now).length≤5∧0<(St.dH pc now).length:=by rw [e1,List.length_append];simp;omega
  have AP:=hN1.kept hg4(aA hp1 hN1(fun c e=>by cases e));obtain⟨g,cap,hv5,_⟩:=bS Sl acH.2;subst hv5;have n15':=AP.more.2.2.2.2;rw [hpv.out]at n15';have af4:=AP.free 15;have U0:=AP.abT(.slice(some⟨g,0,none⟩)(St.dH pc now).length cap);have hgN:W4.grownBy(W4.setCell⟨N,15,none⟩(.slice(some⟨g,0,none⟩)(St.dH pc now).length cap))(some N):=aa(aC _(some N))15 _;have ho5:=Sl.kept hgN(.inr(aA Sl AP(fun c e=>by cases e)));have hNg:N≠g:=by
   have:=aA Sl AP(fun c e=>by cases e);simp only [Value.ownBlock]at this;intro e;exact this(by rw [e])
  have acK:Fx(fun k=>k=N∨x.pc.ownBlock=some k)w(W4.setCell⟨N,15,none⟩(.slice(some⟨g,0,none⟩)(St.dH pc now).length cap)):=aT(aT(Fx.below hb1)hg4(fun i _ e=> .inr(by rw [hpv.out];exact e)))hgN(fun i _ e=> .inl(Option.some.inj e).symm);have hblk:Hid(some g=x.pc.ownBlock∨∃b,some g=some b∧w.heap.size≤b):=by
   rcases hv4 with h|h
   ·exact .inl(by rw [hpv.out];exact h)
   ·refine .inr⟨g,rfl,?_⟩;have:g=w.heap.size+1:=by simpa [Value.ownBlock]using h
    omega
  have hSR:U8.SR 0 g cap(St.dH pc now).length(St.dH pc now).toArray(W4.setCell⟨N,15,none⟩(.slice(some⟨g,0,none⟩)(St.dH pc now).length cap)):=⟨by simp,by simpa [U8.UC]using ho5⟩;have HS:=hide(U8.uq 0 g cap(St.dH pc now).length _ _ hSR(by omega));have hfin:Hid(∀d' w',U8.SR 0 g cap(St.dH pc now).length d' w'→PermIn 0(St.dH pc now).length(St.dH pc now).toArray d'→SortedIn ltInt 0(St.dH pc now).length d'→(W4.setCell⟨N,15,none⟩(.slice(some⟨g,0,none⟩)(St.dH pc now).length cap)).grownBy w'(some g)→ib N {x with pc:=.slice(some⟨g,0,none⟩)(St.dH pc now).length cap}w'∧w'.ownsRow 0 35 1(.slice(some⟨g,0,none⟩)(St.dH pc now).length cap)(St.dH pc now).length((St.dH pc now).map(Value.int .u64))∧Fx(fun k=>k=N∨x.pc.ownBlock=some k)w w'):=by
   intro d' w' h1 h2 h3 h4;have e2:d'.toList=St.dH pc now:=rQ(sN h1.size h3)hsrt.out(by have:=yZ(by simp)h2;simpa using this);refine⟨U0.kept h4(fun e=>hNg(Option.some.inj e).symm),?_,aT acK h4(fun i hi e=> ?_)⟩
   ·have:=h1.row;unfold U8.UC at this;rw [e2]at this;exact this
   ·rcases hblk.out with h|⟨b,h,hb⟩
    ·exact .inr(by rw [←h,e])
    ·have h1:=Option.some.inj h;have h2:=Option.some.inj e;omega
  generalize hpl:St.dH pc now=pl at *;replace hpl:=hide hpl;clear hSR ho5 hgN U0 acK B_ Sl hv4 hg4 hp1 hp hN1 hN e1 hcr hsrt hs hm n15 f15 hb1;go_wp2_with fail
  refine Calls.mono HS.out ?_;rintro e w2⟨rfl,d',k1,k2,k3,k4⟩;have hf:=hide(hfin.out d' w2 k1 k2 k3 k4);clear HS hfin k1 k2 k3 k4;go_wp2
  go_returns
  exact⟨_,rfl,hf.out.1,by rw [hpl.out];exact hf.out.2.1,hf.out.2.2,hblk.out⟩
def St.holds(s:St):Option Int:=if St.full s.pc s.now then some 9 else if s.now<s.bZ then some 8 else none
theorem abB {N B:Nat} {g:bA} {s:St} {TL:List Hp.Tm} {w:World}(n:Nd N B g s TL w)(fq:0≤s.now∧s.now≤4611686018427387904):
  Calls Tryz.prog 153 #[.pointer(some⟨N,15,none⟩),.int .u64 s.now]w fun e w'=>e=.returned(.bool(St.full s.pc s.now))∧w'=w:=
 Nj N g.x s.pc s.now w n.nn.cr.nd n.nn.rs.pc fq
theorem Hl {N B:Nat} {g:bA} {s:St} {TL:List Hp.Tm} {w:World}(n:Nd N B g s TL w)(fq:0≤s.now∧s.now≤4611686018427387904):
  Calls Tryz.prog 120 #[.pointer(some⟨N,0,none⟩),.int .u64 s.now]w fun e w'=>e=.returned(.tuple #[.int .i64(s.holds.getD 0),.bool s.holds.isSome])∧w'=w:=by
 have HF:=hide(abB n fq);obtain⟨_,_,c4,_,_⟩:=n.cell;have hh:Hid(s.holds=if St.full s.pc s.now then some 9 else if s.now<s.bZ then some 8 else none):=rfl;generalize hb:St.full s.pc s.now=b at HF hh;replace hb:=hide hb;go_enter Tryz.func120,Tryz.ntmps120
 go_wp2_with fail
 refine Calls.mono HF.out ?_;rintro e w1⟨rfl,rfl⟩;clear HF;cases b
 ·by_cases h:s.now<s.bZ
  ·have d1:decide(s.now<s.bZ)=true:=decide_eq_true h;go_wp2
   go_returns
   exact⟨by rw [hh.out];simp [h],rfl⟩
  ·have d1:decide(s.now<s.bZ)=false:=decide_eq_false h;go_wp2
   go_returns
   exact⟨by rw [hh.out,if_neg(by simp),if_neg(by omega)];rfl,rfl⟩
 ·go_wp2
  go_returns
  exact⟨by rw [hh.out];rfl,rfl⟩
theorem abw {N B:Nat} {g:bA} {s:St} {TL:List Hp.Tm} {w:World}(n:Nd N B g s TL w)(hl:s.pc.length≤5)(hs:s.pc.Pairwise(·≤·))(hm:∀t∈s.pc,t≤s.now):
  Calls Tryz.prog 155 #[.pointer(some⟨N,15,none⟩),.int .u64 s.now]w fun e w'=>e=.returned(.tuple #[])∧Hf N B g s {s with pc:=St.dH s.pc s.now}TL w w':=by
 have hr:=n.nn.rs;obtain⟨e1,e2,e3,e4,e5,e6,e7,e8,e9⟩:=n.nn.eq;refine(QQ N g.x s.pc s.now w n.nn.cr.nd hr.pc hl hs hm).mono ?_;rintro e w'⟨v',rfl,h1,h2,h3,h4⟩;have hk:∀ {k:Nat},jF g.x g.h g.u g.Mt g.tv s k→g.x.pc.ownBlock≠some k→w'.heap[k]?=w.heap[k]?:=fun hk hne=>h3.block _(hr.lt hk)fun h=>h.elim(fun e=>n.nn.apart hk(.inl e))hne;have hno:∀ {k:Nat} {o:Obj},w.heap[k]?=some o→(∀c,o≠ .cells c 35(0,0))→g.x.pc.ownBlock≠some k:=fun ho hc=>aA hr.pc ho hc;obtain⟨p,q⟩:=n.rest(s':={s with pc:=St.dH s.pc s.now})(dO:=TL)(x':={g.x with pc:=v'})(h':=g.h)(u':=g.u)(Et:=g.Mt)(hp':=g.hp)(tv':=g.tv)h1 rfl rfl⟨e1,e2,e3,e4,e5,e6,e7,e8,e9⟩
  ⟨hr.sn.block(hk(.inl rfl)(by obtain⟨es,cl,hm⟩:=hr.sn.obj;exact hno hm fun c e=>by cases e)),hr.sr.kept fun k hkk=>hk(.inr(.inl hkk))(by
   obtain⟨o,ho,⟨rfl,es,cl,rfl⟩|⟨c,rfl⟩|⟨c,rfl⟩⟩:=hr.sr.kind hkk
   ·exact hno ho fun c e=>by cases e
   ·exact hno ho fun c e=>by cases e
   ·exact hno ho fun c e=>by cases e),hr.tm.at(hk(.inr(.inr(.inl rfl)))(hno hr.tm.blk fun c e=>by cases e))(hk(.inr(.inr(.inr(.inl rfl))))(by
   obtain⟨f,p1,_⟩:=hr.tm.map;obtain⟨es,cl,hm⟩:=p1.obj;exact hno hm fun c e=>by cases e))(fun k hkk=>hk(.inr(.inr(.inr(.inr(.inl hkk)))))(by
   obtain⟨c,hc⟩:=aP hr.tm.row hkk;exact hno hc fun c e=>by cases e)),hr.hpo,hr.pm,h2⟩
  (h3.mono fun k h=>h.dh fun h=> .inr(.inr(.inr(.inr(.inr h)))))
  (fun k hkk=>by
   rcases hkk with h|h|h|h|h|h
   ·exact .inl(.inl h)
   ·exact .inl(.inr(.inl h))
   ·exact .inl(.inr(.inr(.inl h)))
   ·exact .inl(.inr(.inr(.inr(.inl h))))
   ·exact .inl(.inr(.inr(.inr(.inr(.inl h)))))
   ·rcases h4 with h5|⟨b,h5,h6⟩
    ·exact .inl(.inr(.inr(.inr(.inr(.inr(by rw [←h5];exact h))))))
    ·have h':v'.ownBlock=some k:=h;rw [h5]at h';cases h';exact .inr⟨h6,(h2.lt k h5).2⟩)⟨rfl,rfl,rfl⟩⟨rfl,rfl,rfl,rfl,rfl,rfl,rfl,rfl,rfl⟩
 exact⟨rfl,_,p,q,rfl,rfl,rfl⟩
theorem Db(Bq:Nat)(q:Sr)(v:Value)(w:World)(hq:p_ Bq q v w)(ok:q.Ok):
  Calls Tryz.prog 123 #[.pointer(some⟨Bq,0,none⟩)]w fun e w'=>e=.returned(.int .u64(80 * (q.aS+2)* 2 ^ q.ret))∧Below w.heap.size w w':=by
 obtain⟨c0,c1,c2,c3,c4⟩:=hq.cell;have h1:=ok.aS;have h2:=ok.ret;have hr:q.ret=0∨q.ret=1∨q.ret=2:=by omega
 generalize q.aS=tt at c2 h1 ⊢;have hb:Below w.heap.size w w.drew:=(Below.refl _ _).drew;rcases hr with hr|hr|hr<;>
 ·rw [hr]at c3 ⊢;go_enter Tryz.func123,Tryz.ntmps123
  go_wp2_with fail
  go_region
  go_wp2
  go_returns
  refine⟨?_,hb⟩;simp
theorem abu {N B:Nat} {g:bA} {s:St} {TL:List Hp.Tm} {w:World}(n:Nd N B g s TL w)(t what:Int)(ht:0≤t∧t<18446744073709551616)(hw:oC what)(hl:TL.length≤900000)(htl:0≤s.tl∧s.tl≤4000000000000000000)(hid:∀x∈TL,x.2.1≤s.tl):
  Calls Tryz.prog 154 #[.pointer(some⟨g.x.Tm,0,none⟩),.int .u64 t,.int .i64 what]w fun e w'=>∃h' v',e=.returned(.int .i64(s.tl+1))∧Nd N B {g with hp:=h',tv:=v'} {s with tl:=s.tl+1}(TL++ [(t,s.tl+1,what)])w'∧Up B(Ft N g s)(Ft N {g with hp:=h',tv:=v'} {s with tl:=s.tl+1})w w':=by
 have hr:=n.nn.rs;refine(Yj 0 g.x.Tm g.Mt s.tl g.hp g.tv w hr.tm(by rw [hr.pm.fM];exact hl)hr.hpo htl.1 htl.2(fun x hx=>hid x(hr.pm.mem_iff.1 hx))t what ht hw(Nat.zero_le _)).mono ?_;rintro e w'⟨rfl,h',v',h1,h2,h3,h4,h5⟩;have hnd:=n.nn.qA;simp only [List.nodup_cons,List.mem_cons,List.not_mem_nil,or_false,not_or]at hnd;obtain⟨_,_,⟨d1,d2⟩,d3,_⟩:=hnd;have hf:Fx(fun k=>k=g.x.Tm∨k=g.Mt∨g.tv.ownBlock=some k)w w':=⟨h2.os,h2.tape,h2.output,h2.size,fun k hk hn=>h2.block k hk(fun e=>hn(.inl e))(fun e=>hn(.inr(.inl e)))(fun e=>hn(.inr(.inr e.symm)))⟩;have hne:∀ {k:Nat} {o:Obj},w.heap[k]?=some o→k≠g.Mt→(∀c,o≠ .cells c 165(0,0))→(∀c,o≠ .cells c 254(0,0))→w'.heap[k]?=w.heap[k]?:=by
  intro k o ho hk c1 c2;refine hf.block k(aD ho) ?_;rintro(rfl|h|h)
  ·rw [show w.heap[g.x.Tm]?=_ from hr.tm.blk]at ho;exact c1 _(Option.some.inj ho).symm
  ·exact hk h
  ·obtain⟨c,hc⟩:=aP hr.tm.row h;rw [hc]at ho;exact c2 _(Option.some.inj ho).symm
 have hMt:∀ {k:Nat} {o:Obj},w.heap[k]?=some o→(∀es cl,o≠ .map es cl)→k≠g.Mt:=by
  rintro k o ho hn rfl;obtain⟨f,p1,_⟩:=hr.tm.map;obtain⟨es,cl,hm⟩:=p1.obj;rw [hm]at ho;exact hn _ _(Option.some.inj ho).symm
 have hN:w'.heap[N]?=w.heap[N]?:=hne(n.nn.cr.nd)(hMt n.nn.cr.nd fun _ _ e=>by cases e)(fun c e=>by cases e)(fun c e=>by cases e);have hS:wG g.x.qf g.h g.u s.Q w':=hr.sr.kept fun k hk=>by
  obtain⟨o,ho,⟨rfl,_,_,rfl⟩|⟨c,rfl⟩|⟨c,rfl⟩⟩:=hr.sr.kind hk
  ·exact hne ho d3(fun c e=>by cases e)(fun c e=>by cases e)
  ·exact hne ho(hMt ho fun _ _ e=>by cases e)(fun c e=>by cases e)(fun c e=>by cases e)
  ·exact hne ho(hMt ho fun _ _ e=>by cases e)(fun c e=>by cases e)(fun c e=>by cases e)
 have hM:wI g.x.Ms s.tn s.mem w':=hr.sn.block(by
  obtain⟨es,cl,hm⟩:=hr.sn.obj;exact hne hm d2(fun c e=>by cases e)(fun c e=>by cases e))
 have hP:=bD(W':=w')hr.pc fun k hk=>(by
  obtain⟨c,hc⟩:=aP hr.pc hk;exact hne hc(hMt hc fun _ _ e=>by cases e)(fun c e=>by cases e)(fun c e=>by cases e))
 obtain⟨e1,e2,e3,e4,e5,e6,e7,e8,e9⟩:=n.nn.eq;obtain⟨p,u⟩:=n.rest(s':={s with tl:=s.tl+1})(dO:=TL++ [(t,s.tl+1,what)])(n.nn.cr.nd.block hN)rfl rfl⟨e1,e2,e3,e4,e5,e6,e7,e8,e9⟩(h':=g.h)(u':=g.u)(Et:=g.Mt)(hp':=h')(tv':=v')
  ⟨hM,hS,h1,h5,h4.trans(hr.pm.append_right _),hP⟩(hf.mono fun k hk=> .inr(.inr(.inr(hk.elim .inl fun h=> .inr(h.elim .inl fun h=> .inr(.inl h))))))(fun k hk=>by
   rcases hk with h|h|h|h|h|h
   ·exact .inl(.inl h)
   ·exact .inl(.inr(.inl h))
   ·exact .inl(.inr(.inr(.inl h)))
   ·exact .inl(.inr(.inr(.inr(.inl h))))
   ·rcases h3 with h6|h6
    ·exact .inl(.inr(.inr(.inr(.inr(.inl(by rw [←h6];exact h))))))
    ·exact .inr⟨h6 k h,(h1.row.lt k h).2⟩
   ·exact .inl(.inr(.inr(.inr(.inr(.inr h))))))⟨rfl,rfl,rfl⟩⟨rfl,rfl,rfl,rfl,rfl,rfl,rfl,rfl,rfl⟩
 exact⟨h',v',rfl,p,u⟩
theorem eZ {Q:List Sr} {q z:Sr}(h:z∈St.di Q q):z=q∨(z∈Q∧z.dest≠q.dest):=by
 obtain⟨y,hy,rfl⟩:=List.mem_map.1 h;by_cases e:y.dest=q.dest
 ·rw [if_pos e];exact .inl rfl
 ·rw [if_neg e];exact .inr⟨hy,e⟩
theorem l7 {Q:List Sr} {q z:Sr}(h:z∈Q):(z.dest=q.dest→q∈St.di Q q)∧(z.dest≠q.dest→z∈St.di Q q):=
 ⟨fun e=>List.mem_map.2⟨z,h,by rw [if_pos e]⟩,fun e=>List.mem_map.2⟨z,h,by rw [if_neg e]⟩⟩
theorem BG(Q:List Sr)(q:Sr):(St.di Q q).map(·.dest)=Q.map(·.dest):=by
 unfold St.di;rw [List.map_map];refine List.map_congr_left fun z _=> ?_;show(if z.dest=q.dest then q else z).dest=z.dest;split
 ·rename_i h;exact h.symm
 ·rfl
theorem nQ(Q:List Sr)(q:Sr):(St.di Q q).length=Q.length:=List.length_map _
theorem yc {Q:List Sr}:(Q.Pairwise fun a b=>a.dest≠b.dest)↔ (Q.map(·.dest)).Nodup:=by
 unfold List.Nodup;rw [List.pairwise_map]
theorem wG.set {Ms:Nat} {h:Int→Option Nat} {u:Int→Value} {Q:List Sr} {W W':World}(r:wG Ms h u Q W) {q q':Sr}(hq:q∈Q)(hd:q'.dest=q.dest)(hok:q'.Ok)(ht:q'.txt=q.txt) {Bq:Nat}(hB:h q.dest=some Bq)(hL:p_ Bq q'(u q.dest)W')(hf:Fx(fun k=>k=Bq)W W'):wG Ms h u(St.di Q q')W':=by
 have hMs:Ms≠Bq:=by
  rintro rfl;obtain⟨B',h1,h2⟩:=r.ln q hq;rw [hB]at h1;cases h1;obtain⟨es,cl,hm⟩:=r.map.obj;obtain⟨c,hc⟩:=h2.obj;rw [hc]at hm;cases hm
 have hrow:∀z∈Q,∀k,(u z.dest).ownBlock=some k→k≠Bq:=by
  rintro z hz k hk rfl;obtain⟨B',h1,h2⟩:=r.ln q hq;rw [hB]at h1;cases h1;obtain⟨c,hc⟩:=h2.obj;obtain⟨c',hc'⟩:=aP(r.row z hz)hk;rw [hc]at hc';cases hc'
 have hself:∀z∈Q,z.dest=q.dest→z=q:=by
  have:∀(Q:List Sr),Q.Pairwise(fun a b=>a.dest≠b.dest)→∀z∈Q,∀y∈Q,z.dest=y.dest→z=y:=by
   intro Q
   induction Q with
   |nil=>intro _ z hz;cases hz
   |cons a Q ih=>
    intro hp z hz y hy e;rw [List.pairwise_cons]at hp;rcases List.mem_cons.1 hz with k1|k1
    ·rcases List.mem_cons.1 hy with k2|k2
     ·rw [k1,k2]
     ·exact absurd(k1▸e)(hp.1 y k2)
    ·rcases List.mem_cons.1 hy with k2|k2
     ·exact absurd(k2▸e).symm(hp.1 z k1)
     ·exact ih hp.2 z k1 y k2 e
  exact fun z hz e=>this Q r.qA z hz q hq e
 have rU:∀z∈St.di Q q',∃y∈Q,y.dest=z.dest:=fun z hz=>by
  rcases eZ hz with rfl|⟨h1,_⟩
  ·exact⟨q,hq,hd.symm⟩
  ·exact⟨z,h1,rfl⟩
 refine⟨by rw [nQ];exact r.map.block(hf.block _ r.map.lt hMs),by rw [yc,BG,←yc];exact r.qA,fun z hz=> ?_,fun d B hd' hB'=> ?_,fun z hz=> ?_,fun z hz=> ?_,fun a ha b hb hne=> ?_,by rw [nQ];exact r.len⟩
 ·rcases eZ hz with rfl|⟨h1,_⟩
  ·exact hok
  ·exact r.ok z h1
 ·obtain⟨y,hy,rfl⟩:=r.dom d B hd' hB';by_cases e:y.dest=q'.dest
  ·exact⟨q',(l7 hy).1 e,e.symm⟩
  ·exact⟨y,(l7 hy).2 e,rfl⟩
 ·rcases eZ hz with rfl|⟨h1,h2⟩
  ·rw [hd];exact⟨Bq,hB,hL⟩
  ·obtain⟨B',k1,k2⟩:=r.ln z h1;refine⟨B',k1,k2.block(hf.block _ k2.lt ?_)⟩;rintro rfl;obtain⟨B2,l1,l2⟩:=r.ln q hq;rw [hB]at l1;cases l1;obtain⟨fn1,m1,_⟩:=k2;obtain⟨fn2,m2,_⟩:=l2;unfold rH at m1 m2;rw [m1]at m2;simp only [KA,Option.some.injEq,Obj.cells.injEq,Array.mk.injEq,List.cons.injEq,Value.int.injEq,true_and]at m2;exact h2(m2.1.1.trans hd.symm)
 ·rcases eZ hz with rfl|⟨h1,h2⟩
  ·rw [hd,ht];exact bD(r.row q hq)fun k hk=>hf.block k((r.row q hq).lt k hk).2(hrow q hq k hk)
  ·exact bD(r.row z h1)fun k hk=>hf.block k((r.row z h1).lt k hk).2(hrow z h1 k hk)
 ·obtain⟨y,hy,e1⟩:=rU a ha;obtain⟨x,hx,e2⟩:=rU b hb;rw [←e1,←e2];exact r.apart y hy x hx(by rw [e1,e2];exact hne)
theorem Nd.VQ {N B:Nat} {g:bA} {s:St} {TL:List Hp.Tm} {W W':World}(n:Nd N B g s TL W) {q q':Sr}(hq:q∈s.Q)(hd:q'.dest=q.dest)(hok:q'.Ok)(ht:q'.txt=q.txt) {Bq:Nat}(hB:g.h q.dest=some Bq)(hL:p_ Bq q'(g.u q.dest)W')(hf:Fx(fun k=>k=Bq)W W'):
  Nd N B g {s with Q:=St.di s.Q q'}TL W'∧Up B(Ft N g s)(Ft N g {s with Q:=St.di s.Q q'})W W':=by
 have hr:=n.nn.rs;obtain⟨e1,e2,e3,e4,e5,e6,e7,e8,e9⟩:=n.nn.eq;obtain⟨B',h1,h2⟩:=hr.sr.ln q hq;rw [hB]at h1;cases h1;obtain⟨c,hc⟩:=h2.obj;have hno:∀ {k:Nat} {o:Obj},W.heap[k]?=some o→(∀c,o≠ .cells c 177(0,0))→W'.heap[k]?=W.heap[k]?:=fun {k o}ho hn=>hf.block k(aD ho)(by
  rintro rfl;rw [hc]at ho;exact hn _(Option.some.inj ho).symm)
 have aaV:jF g.x g.h g.u g.Mt g.tv s Bq:=.inr(.inl(.inr⟨q,hq,.inl hB⟩));have rU:∀z∈St.di s.Q q',∃y∈s.Q,y.dest=z.dest:=fun z hz=>by
  rcases eZ hz with rfl|⟨h1,_⟩
  ·exact⟨q,hq,hd.symm⟩
  ·exact⟨z,h1,rfl⟩
 exact n.rest(s':={s with Q:=St.di s.Q q'})(dO:=TL)(x':=g.x)(h':=g.h)(u':=g.u)(Et:=g.Mt)(hp':=g.hp)(tv':=g.tv)(n.nn.cr.nd.block(hno n.nn.cr.nd fun _ e=>by cases e))rfl rfl⟨e1,e2,e3,e4,e5,e6,e7,e8,e9⟩
  ⟨hr.sn.block(by obtain⟨es,cl,hm⟩:=hr.sn.obj;exact hno hm fun _ e=>by cases e),hr.sr.set hq hd hok ht hB hL hf,hr.tm.at(hno hr.tm.blk fun _ e=>by cases e)(by
   obtain⟨f,p1,_⟩:=hr.tm.map;obtain⟨es,cl,hm⟩:=p1.obj;exact hno hm fun _ e=>by cases e)(fun k hk=>by
   obtain⟨c,hc⟩:=aP hr.tm.row hk;exact hno hc fun _ e=>by cases e),hr.hpo,hr.pm,bD hr.pc fun k hk=>by
   obtain⟨c,hc⟩:=aP hr.pc hk;exact hno hc fun _ e=>by cases e⟩
  (hf.mono fun k e=>by rw [e];exact .inr aaV)(fun k hk=> .inl(by
   rcases hk with h|h|h
   ·exact .inl h
   ·refine .inr(.inl ?_);rcases h with h|⟨z,hz,h⟩
    ·exact .inl h
    ·obtain⟨y,hy,e⟩:=rU z hz;rw [←e]at h;exact .inr⟨y,hy,h⟩
   ·exact .inr(.inr h)))⟨rfl,rfl,rfl⟩⟨rfl,rfl,rfl,rfl,rfl,rfl,rfl,rfl,rfl⟩
end Go.Proofs.YtakaadcpaeiccabGreat
