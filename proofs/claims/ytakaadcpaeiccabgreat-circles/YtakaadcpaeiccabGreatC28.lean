import Derived.Test.YtakaadcpaeiccabGreatC18
import Derived.Test.YtakaadcpaeiccabGreatC27
set_option maxHeartbeats 4000000
set_option maxRecDepth 100000
namespace Go.Proofs.YtakaadcpaeiccabGreat
open Go.RowKit Go.Maps
def lg(N B:Nat)(g:bA)(s s':St)(dO:List Hp.Tm)(w w':World):Prop:=∃g',Nd N B g' s' dO w'∧Up B(Ft N g s)(Ft N g' s')w w'∧Hid(g'.x.T=g.x.T)
theorem hide {P:Prop}(h:P):Hid P:=h
theorem lg.pre {N B:Nat} {g:bA} {s s':St} {dO:List Hp.Tm} {a b c:World}(hb:Below a.heap.size a b)(p:lg N B g s s' dO b c):lg N B g s s' dO a c:=by
 obtain⟨g1,n1,u1,t1⟩:=p;exact⟨g1,n1,(Up.below hb).trans u1,t1⟩
theorem Nd.base {N B:Nat} {g:bA} {s:St} {TL:List Hp.Tm} {W:World}(n:Nd N B g s TL W):B+1≤W.heap.size:=n.ac.blk.lt
theorem Nd.cell {N B:Nat} {g:bA} {s:St} {TL:List Hp.Tm} {W:World}(n:Nd N B g s TL W):
  W.cell?⟨N,2,none⟩=some(.int .u32 s.me)∧W.cell?⟨N,3,none⟩=some(.int .u32 s.seq)∧W.cell?⟨N,4,none⟩=some(.int .u64 s.bZ)∧W.cell?⟨N,7,none⟩=some(.pointer(some⟨g.x.T,0,none⟩))∧W.cell?⟨B,0,none⟩=some(.int .u64 s.now):=by
 obtain⟨_,n2,n3,n4,n5,_⟩:=n.nn.cr.nd.cell;obtain⟨e1,e2,e3,_⟩:=n.nn.eq;obtain⟨c0,_⟩:=n.ac.blk.cell;rw [←e1,←e2,←e3,←n.now];exact⟨n2,n3,n4,n5,c0⟩
theorem sS(s:St)(r:Int):Ai s(s.drop r):=⟨rfl,rfl,rfl,rfl,rfl,rfl,rfl,rfl,rfl,rfl,rfl,rfl,rfl,rfl,rfl⟩
theorem sQ(s:St)(t:Int)(p:ah)(L:List(Int×Int)):Ai s(s.send t p L):=⟨rfl,rfl,rfl,rfl,rfl,rfl,rfl,rfl,rfl,rfl,rfl,rfl,rfl,rfl,rfl⟩
theorem yN(s:St)(t:Int)(L:List(Int×Int)):Ai s(s.mi t L):=⟨rfl,rfl,rfl,rfl,rfl,rfl,rfl,rfl,rfl,rfl,rfl,rfl,rfl,rfl,rfl⟩
theorem iU {N B:Nat} {g:bA} {s:St} {TL:List Hp.Tm} {w:World}(n:Nd N B g s TL w)(r:Int)(hd:s.aN.length≤1000000):
  Calls Tryz.prog 92 #[.pointer(some⟨B,0,none⟩),.int .i64 r]w fun e w'=>e=.returned(.tuple #[])∧lg N B g s(s.drop r)TL w w':=by
 refine(GN B(B+1)g.a s.a_ s.aH s.aR s.aN r w n.ac n.base hd).mono ?_;rintro e w'⟨v7,rfl,h1,h2⟩;obtain⟨p,q⟩:=n.act(s':=s.drop r)h1 h2(sS s r)n.now n.aZ;exact⟨rfl,_,p,q,rfl⟩
theorem Ap {N B:Nat} {g:bA} {s:St} {TL:List Hp.Tm} {w:World}(n:Nd N B g s TL w)(t:Int)(p:ah)(hp:p.Wf)(L:List(Int×Int))(hL:eY w p L)(hd:s.aH.length≤1000000):
  Calls Tryz.prog 80 #[.pointer(some⟨B,0,none⟩),.int .u32 t,p.val]w fun e w'=>e=.returned(.tuple #[])∧lg N B g s(s.send t p L)TL w w':=by
 refine(yL B(B+1)g.a s.a_ s.aH s.aR s.aN t p hp L w n.ac n.base hd hL).mono ?_;rintro e w'⟨v7,rfl,h1,h2⟩;obtain⟨p,q⟩:=n.act(s':=s.send t p L)h1 h2(sQ s t p L)n.now n.aZ;exact⟨rfl,_,p,q,rfl⟩
theorem Uq {N B:Nat} {g:bA} {s:St} {TL:List Hp.Tm} {w:World}(n:Nd N B g s TL w)(t:Int)(ao:Option Addr)(c:Nat)(L:List(Int×Int))(hn:L.length≤65536)(hL:bu w ao L)(hd:s.aH.length≤1000000):
  Calls Tryz.prog 137 #[.pointer(some⟨B,0,none⟩),.int .u32 t,.slice ao L.length c]w fun e w'=>e=.returned(.tuple #[])∧lg N B g s(s.mi t L)TL w w':=by
 refine(FW B(B+1)g.a s.a_ s.aH s.aR s.aN t ao c L w n.ac n.base hd hn hL).mono ?_;rintro e w'⟨v7,rfl,h1,h2⟩;obtain⟨p,q⟩:=n.act(s':=s.mi t L)h1 h2(yN s t L)n.now n.aZ;exact⟨rfl,_,p,q,rfl⟩
theorem Nd.tab {N B:Nat} {g:bA} {s:St} {TL:List Hp.Tm} {W:World}(n:Nd N B g s TL W):Ag s.me g.x.T(mg g.x.T g.M g.ff g.gg s.A)s.A W:=
 ⟨g.M,g.ff,g.gg,by rw [←n.nn.eq.self];exact n.nn.cr.tb,fun _ h=>h⟩
theorem Nd.vH {N B:Nat} {g:bA} {s:St} {TL:List Hp.Tm} {W W':World}(n:Nd N B g s TL W) {A':List Rt}(h:Ag s.me g.x.T(ext(mg g.x.T g.M g.ff g.gg s.A)W.heap.size W'.heap.size)A' W')(hf:Fx(mg g.x.T g.M g.ff g.gg s.A)W W'):lg N B g s {s with A:=A'}TL W W':=by
 obtain⟨M',Tw,vY,p,q⟩:=n.table h hf;exact⟨_,p,q,rfl⟩
theorem Ag.ext {me:Int} {T:Nat} {S:Nat→Prop} {A:List Rt} {W:World}(h:Ag me T S A W)(a b:Nat):Ag me T(Go.Proofs.YtakaadcpaeiccabGreat.ext S a b)A W:=by
 obtain⟨M,f,g,h1,h2⟩:=h;exact⟨M,f,g,h1,fun k hk=> .inl(h2 k hk)⟩
theorem Hg {N B:Nat} {g:bA} {s:St} {TL:List Hp.Tm} {w:World}(n:Nd N B g s TL w)(d q h nx e:Int)(hd:bg d)(hs:bg q)(hh:oC h)(hn:bg nx)(he:Af e):
  Calls Tryz.prog 161 #[.pointer(some⟨g.x.T,0,none⟩),.int .u32 d,.int .u32 q,.int .i64 h,.int .u32 nx,.int .u64 e]w fun r w'=>r=.returned(.int .i64(iD s.me s.A d q h nx e).2)∧lg N B g s {s with A:=(iD s.me s.A d q h nx e).1}TL w w':=by
 refine(JU s.me g.x.T _ s.A d q h nx e hd hs hh hn he w n.tab).mono ?_;rintro r w'⟨rfl,h1,h2⟩;exact⟨rfl,n.vH h1 h2⟩
theorem Mv {N B:Nat} {g:bA} {s:St} {TL:List Hp.Tm} {w:World}(n:Nd N B g s TL w)(d e:Int)(hd:bg d)(he:Af e):
  Calls Tryz.prog 81 #[.pointer(some⟨g.x.T,0,none⟩),.int .u32 d,.int .u64 e]w fun r w'=>r=.returned(.tuple #[])∧lg N B g s {s with A:=iy s.A d e}TL w w':=by
 refine(Mk s.me g.x.T _ s.A d e hd he w n.tab).mono ?_;rintro r w'⟨rfl,h1,h2⟩;exact⟨rfl,n.vH(h1.ext _ _)h2⟩
theorem qV {N B:Nat} {g:bA} {s:St} {TL:List Hp.Tm} {w:World}(n:Nd N B g s TL w)(d nb:Int)(hd:bg d)(hn:bg nb):
  Calls Tryz.prog 182 #[.pointer(some⟨g.x.T,0,none⟩),.int .u32 d,.int .u32 nb]w fun r w'=>r=.returned(.tuple #[])∧lg N B g s {s with A:=kX s.A d nb}TL w w':=by
 refine(Kh s.me g.x.T _ s.A d nb hd hn w n.tab).mono ?_;rintro r w'⟨rfl,h1,h2⟩;exact⟨rfl,n.vH h1 h2⟩
theorem abC {N B:Nat} {g:bA} {s:St} {TL:List Hp.Tm} {w:World}(n:Nd N B g s TL w)(d now:Int)(hd:bg d):
  Calls Tryz.prog 79 #[.pointer(some⟨g.x.T,0,none⟩),.int .u32 d,.int .u64 now]w fun e w'=>∃ao c,e=.returned(.tuple #[Ia(bF s.A d now).1(.slice ao(bF s.A d now).1.bB.length c),.bool(bF s.A d now).2])∧Below w.heap.size w w':=by
 refine(UK s.me g.x.T _ s.A d now hd w n.tab).mono ?_;rintro e w'⟨v',rfl,h1,h2⟩;obtain⟨ao,c,rfl,_⟩:=ak h1;exact⟨ao,c,rfl,h2⟩
theorem Y6 {N B:Nat} {g:bA} {s:St} {TL:List Hp.Tm} {w:World}(n:Nd N B g s TL w)(d:Int)(hd:bg d):
  Calls Tryz.prog 157 #[.pointer(some⟨g.x.T,0,none⟩),.int .u32 d]w fun e w'=>e=.returned(.tuple #[.int .u32(dY s.A d),.bool(aJ s.A d).isSome])∧w'=w:=EN n.nn.cr.tb d hd
theorem Ct {N B:Nat} {g:bA} {s:St} {TL:List Hp.Tm} {w:World}(n:Nd N B g s TL w)(t d:Int)(hd:bg d)(hl:s.aH.length≤1000000):
  Calls Tryz.prog 129 #[.pointer(some⟨N,0,none⟩),.pointer(some⟨B,0,none⟩),.int .u32 t,.int .u32 d]w fun e w'=>e=.returned(.tuple #[])∧lg N B g s(s.kN t d)TL w w':=by
 refine(FX N B(B+1)g.x g.a s.a_ s.aH s.aR s.aN t d hd w n.nn.cr n.ac n.base hl).mono ?_;rintro e w'⟨v7,rfl,h1,h2⟩;obtain⟨p,q⟩:=n.act(s':=s.kN t d)h1 h2(yN s t _)n.now n.aZ;exact⟨rfl,_,p,q,rfl⟩
theorem Pi {N B:Nat} {g:bA} {s:St} {TL:List Hp.Tm} {w:World}(n:Nd N B g s TL w)(q:Int×Int)(hq:vC q)(now:Int)(hn:0≤now):
  Calls Tryz.prog 160 #[.pointer(some⟨N,8,none⟩),jr q,.int .u64 now]w fun e w'=>e=.returned(.bool(oN s.mem q now))∧Below w.heap.size w w':=by
 have h:=n.nn.rs.sn;rw [←n.nn.eq.tn]at h;exact Qt N g.x s.mem q hq now hn w n.nn.cr.nd h
theorem Pj {N B:Nat} {g:bA} {s:St} {TL:List Hp.Tm} {w:World}(n:Nd N B g s TL w)(q:Int×Int)(hq:vC q)(dF:Int)(h0:0≤dF)(hm:∀e∈s.mem,e.dF≤dF)(htn:s.tn≤4611686018427387904):
  Calls Tryz.prog 156 #[.pointer(some⟨N,8,none⟩),jr q,.int .u64 dF]w fun e w'=>e=.returned(.tuple #[])∧lg N B g s {s with mem:=dR s.mem q dF s.tn,tn:=s.tn+1}TL w w':=by
 have h:=n.nn.rs.sn;rw [←n.nn.eq.tn]at h htn;refine(EY N g.x s.mem q hq dF h0 hm htn w n.nn.cr.nd h).mono ?_;rintro e w'⟨rfl,h1,h2,h3⟩;rw [n.nn.eq.tn]at h1 h2;obtain⟨e1,e2,e3,e4,e5,e6,e7,e8,e9⟩:=n.nn.eq;have hr:=n.nn.rs;have hne:∀k,jF g.x g.h g.u g.Mt g.tv s k→k≠g.x.Ms→¬(k=N∨k=g.x.Ms):=fun k hk h1 h2=>h2.elim(fun e=>n.nn.apart hk(.inl e))h1;have hnd:=n.nn.qA;simp only [List.nodup_cons,List.mem_cons,List.not_mem_nil,or_false,not_or]at hnd;obtain⟨_,_,⟨d1,d2⟩,_⟩:=hnd;have zJ:∀ {k:Nat} {o:Obj},w.heap[k]?=some o→(∀es cl,o≠ .map es cl)→k≠g.x.Ms:=by
  rintro k o ho hn rfl;obtain⟨es,cl,hm⟩:=hr.sn.obj;rw [hm]at ho;exact hn _ _(Option.some.inj ho).symm
 have hkeep:∀ {k:Nat},jF g.x g.h g.u g.Mt g.tv s k→k≠g.x.Ms→w'.heap[k]?=w.heap[k]?:=fun hk h=>h3.block _(hr.lt hk)(hne _ hk h);have hSr:∀k,G9 g.x.qf g.h g.u s.Q k→k≠g.x.Ms:=by
  intro k hk;obtain⟨o,ho,⟨rfl,_⟩|⟨c,rfl⟩|⟨c,rfl⟩⟩:=hr.sr.kind hk
  ·exact Ne.symm d1
  ·exact zJ ho(fun _ _ h=>by cases h)
  ·exact zJ ho(fun _ _ h=>by cases h)
 obtain⟨p,q⟩:=n.rest(s':={s with mem:=dR s.mem q dF s.tn,tn:=s.tn+1})(dO:=TL)h1 rfl rfl⟨e1,e2,e3,e4,e5,rfl,e7,e8,e9⟩
  ⟨h2,hr.sr.kept fun k hk=>hkeep(.inr(.inl hk))(hSr k hk),hr.tm.at(hkeep(.inr(.inr(.inl rfl)))(zJ hr.tm.blk(fun _ _ h=>by cases h)))(hkeep(.inr(.inr(.inr(.inl rfl))))(Ne.symm d2))(fun k hk=>hkeep(.inr(.inr(.inr(.inr(.inl hk)))))(by
   obtain⟨c,hc⟩:=aP hr.tm.row hk;exact zJ hc(fun _ _ h=>by cases h))),hr.hpo,hr.pm,bD hr.pc fun k hk=>hkeep(.inr(.inr(.inr(.inr(.inr hk)))))(by
   obtain⟨c,hc⟩:=aP hr.pc hk;exact zJ hc(fun _ _ h=>by cases h))⟩
  (h3.mono fun k h=>h.elim .inl fun h=> .inr(.inl h))(fun k hk=> .inl hk)⟨rfl,rfl,rfl⟩⟨rfl,rfl,rfl,rfl,rfl,rfl,rfl,rfl,rfl⟩
 exact⟨rfl,_,p,q,rfl⟩
theorem cell_later {W W':World} {b i:Nat} {v:Value}(h:W.cell?⟨b,i,none⟩=some v)(hb:Below W.heap.size W W')(hl:b<W.heap.size):W'.cell?⟨b,i,none⟩=some v:=(hb.cell(p:=⟨b,i,none⟩)hl).trans h
@[reducible] def HC (N B T C : Nat) (me seq bZ now : Int) (p : ah) (W : World) : Prop :=
 (W.cell?⟨N,2,none⟩=some(.int .u32 me)∧W.cell?⟨N,3,none⟩=some(.int .u32 seq)∧W.cell?⟨N,4,none⟩=some(.int .u64 bZ)∧W.cell?⟨N,7,none⟩=some(.pointer(some⟨T,0,none⟩))∧W.cell?⟨B,0,none⟩=some(.int .u64 now))∧
 (W.cell?⟨C,0,none⟩=some(.int .i64 p.aS)∧W.cell?⟨C,1,none⟩=some(.int .i64 p.kind)∧W.cell?⟨C,2,none⟩=some(.int .i64 p.hops)∧W.cell?⟨C,3,none⟩=some(.bool p.iK)∧W.cell?⟨C,4,none⟩=some(.int .u32 p.id)∧W.cell?⟨C,5,none⟩=some(.int .u32 p.dest)∧W.cell?⟨C,6,none⟩=some(.int .u32 p.aW)∧W.cell?⟨C,7,none⟩=some(.int .u32 p.aI)∧W.cell?⟨C,8,none⟩=some(.int .u32 p.dm)∧W.cell?⟨C,9,none⟩=some(.int .u32 p.life)∧W.cell?⟨C,10,none⟩=some(.slice p.la p.ln p.lc)∧W.cell?⟨C,11,none⟩=some(.string p.pay))
@[reducible] def HB (N B T C : Nat) (me seq bZ now : Int) (p : ah) (W0 W : World) : Prop := HC N B T C me seq bZ now p W ∧ Below W0.heap.size W0 W
theorem HC.of {N B C:Nat} {g:bA} {s:St} {TL:List Hp.Tm} {p:ah} {W:World}(n:Nd N B g s TL W)(h:PB p C W):HC N B g.x.T C s.me s.seq s.bZ s.now p W:=⟨n.cell,h.cell⟩
theorem HB.drew {N B T C:Nat} {me seq bZ now:Int} {p:ah} {W0 W:World}(h:HB N B T C me seq bZ now p W0 W):HB N B T C me seq bZ now p W0 W.drew:=⟨h.1,h.2.drew⟩
theorem HB.mk' {N B C:Nat} {g:bA} {s:St} {TL:List Hp.Tm} {p:ah} {W0 W:World}(n:Nd N B g s TL W0)(h:PB p C W0)(hb:Below W0.heap.size W0 W):HB N B g.x.T C s.me s.seq s.bZ s.now p W0 W:=⟨.of(n.later hb)(h.below hb),hb⟩
theorem Up.box {B C:Nat} {F F':Nat→Prop} {p:ah} {a b:World}(u:Up B F F' a b)(h:PB p C a)(hn:¬F C):PB p C b:=u.block C _ h hn(.inl(C9 p))
theorem Nd.new {N B:Nat} {g:bA} {s:St} {TL:List Hp.Tm} {W:World}(n:Nd N B g s TL W) {k:Nat}(hk:W.heap.size≤k):¬Ft N g s k:=fun h=>by have:=n.nn.lt h;omega
theorem PB.abS {C:Nat} {p:ah} {W:World}(h:PB p C W)(t k:Int):PB {p with aS:=t,kind:=k}C((W.setCell⟨C,0,none⟩(.int .i64 t)).setCell⟨C,1,none⟩(.int .i64 k)):=by
 unfold PB at h ⊢;simp [World.setCell,Array.getElem?_modify,h]
theorem pF {n D:Nat} {a w:World}(h:Below n a w)(hD:n≤D)(v0 v1 v2 v3 v4 v5 v6:Value):Below n a(((((((w.setCell⟨D,0,none⟩v0).setCell⟨D,1,none⟩v1).setCell⟨D,2,none⟩v2).setCell⟨D,3,none⟩v3).setCell⟨D,4,none⟩v4).setCell⟨D,5,none⟩v5).setCell⟨D,6,none⟩v6):=
 ((((((h.setCell(p:=⟨D,0,none⟩)hD _).setCell(p:=⟨D,1,none⟩)hD _).setCell(p:=⟨D,2,none⟩)hD _).setCell(p:=⟨D,3,none⟩)hD _).setCell(p:=⟨D,4,none⟩)hD _).setCell(p:=⟨D,5,none⟩)hD _).setCell(p:=⟨D,6,none⟩)hD _
theorem dP.VU {D:Nat} {x y:Rt} {u v:Value} {w:World}(h:dP D x u w):dP D y v(((((((w.setCell⟨D,0,none⟩(.int .u32 y.dest)).setCell⟨D,1,none⟩(.int .u32 y.seq)).setCell⟨D,2,none⟩(.int .i64 y.hops)).setCell⟨D,3,none⟩(.int .u32 y.next)).setCell⟨D,4,none⟩(.bool y.valid)).setCell⟨D,5,none⟩(.int .u64 y.exp)).setCell⟨D,6,none⟩v):=by
 unfold dP at h ⊢;simp [World.setCell,Array.getElem?_modify,h]
theorem mY {N B:Nat} {g:bA} {s:St} {TL:List Hp.Tm} {W1:World}(n0:Nd N B g s TL W1)(d now:Int)(hd:bg d) {y:Rt} {fd:Bool}(hr:bF s.A d now=(y,fd)):
  ∀W5,Below W1.heap.size W1 W5→Calls Tryz.prog 79 #[.pointer(some⟨g.x.T,0,none⟩),.int .u32 d,.int .u64 now]W5 fun e w'=>∃ao c,e=.returned(.tuple #[Ia y(.slice ao y.bB.length c),.bool fd])∧Below W1.heap.size W1 w'∧∀x u,dP W1.heap.size x u W5→dP W1.heap.size x u w':=by
 intro W5 h5;have h:=abC(n0.later h5)d now hd;rw [hr]at h;refine h.mono ?_;rintro e w'⟨ao,c,rfl,hb⟩;exact⟨ao,c,rfl,h5.trans(hb.mono h5.size),fun x u h=>h.later hb⟩
theorem kP(W:World):dP W.heap.size bW(.slice none 0 0)(W.alloc(.cells #[.int .u32 0,.int .u32 0,.int .i64 0,.int .u32 0,.bool false,.int .u64 0,.slice none 0 0]38)).drew:=heap_alloc_new W _
def nH(y:Rt)(fd:Bool)(W1:World)(pv fv:Value)(W:World):Prop:=∃D ao c,pv=.pointer(some⟨D,0,none⟩)∧fv=.bool fd∧dP D y(.slice ao y.bB.length c)W∧W1.heap.size≤D∧Below W1.heap.size W1 W
theorem gQ {y:Rt} {fd:Bool} {W1 w2:World} {ao:Option Addr} {c:Nat}(hb:Below W1.heap.size W1 w2):nH y fd W1(.pointer(some⟨w2.heap.size,0,none⟩))(.bool fd)(w2.alloc(.cells #[.int .u32 y.dest,.int .u32 y.seq,.int .i64 y.hops,.int .u32 y.next,.bool y.valid,.int .u64 y.exp,.slice ao y.bB.length c]38)):=
 ⟨_,ao,c,rfl,rfl,heap_alloc_new _ _,hb.size,hb.alloc hb.size _⟩
theorem jB {y x:Rt} {u:Value} {fd:Bool} {W1 w2:World} {ao:Option Addr} {c:Nat}(hb:Below W1.heap.size W1 w2)(hD:Hid(dP W1.heap.size x u w2)):nH y fd W1(.pointer(some⟨W1.heap.size,0,none⟩))(.bool fd)(((((((w2.setCell⟨W1.heap.size,0,none⟩(.int .u32 y.dest)).setCell⟨W1.heap.size,1,none⟩(.int .u32 y.seq)).setCell⟨W1.heap.size,2,none⟩(.int .i64 y.hops)).setCell⟨W1.heap.size,3,none⟩(.int .u32 y.next)).setCell⟨W1.heap.size,4,none⟩(.bool y.valid)).setCell⟨W1.heap.size,5,none⟩(.int .u64 y.exp)).setCell⟨W1.heap.size,6,none⟩(.slice ao y.bB.length c)):=
 ⟨_,ao,c,rfl,rfl,hD.out.VU,Nat.le_refl _,pF hb(Nat.le_refl _)_ _ _ _ _ _ _⟩
theorem HB.jO {N B T C:Nat} {me seq bZ now:Int} {p:ah} {W0 W:World} {o:Obj}(hk:Hid(∀W5,Below W0.heap.size W0 W5→HB N B T C me seq bZ now p W0 W5))(h:Below W0.heap.size W0 W):HB N B T C me seq bZ now p W0(W.alloc o):=hk.out _(h.alloc h.size _)
theorem HB.d_ {N B T C:Nat} {me seq bZ now:Int} {p:ah} {W0:World} {o:Obj}(hk:Hid(∀W5,Below W0.heap.size W0 W5→HB N B T C me seq bZ now p W0 W5)):HB N B T C me seq bZ now p W0(W0.alloc o).drew:=hk.out _((Below.refl _ _).alloc(Nat.le_refl _)_).drew
theorem HB.uL {N B T C:Nat} {me seq bZ now:Int} {p:ah} {W0 W:World} {v0 v1 v2 v3 v4 v5 v6:Value}(hk:Hid(∀W5,Below W0.heap.size W0 W5→HB N B T C me seq bZ now p W0 W5))(h:Below W0.heap.size W0 W):HB N B T C me seq bZ now p W0(((((((W.setCell⟨W0.heap.size,0,none⟩v0).setCell⟨W0.heap.size,1,none⟩v1).setCell⟨W0.heap.size,2,none⟩v2).setCell⟨W0.heap.size,3,none⟩v3).setCell⟨W0.heap.size,4,none⟩v4).setCell⟨W0.heap.size,5,none⟩v5).setCell⟨W0.heap.size,6,none⟩v6):=hk.out _(pF h(Nat.le_refl _)_ _ _ _ _ _ _)
theorem Aq {N B:Nat} {g:bA} {s:St} {TL:List Hp.Tm} {w:World}(n:Nd N B g s TL w)(p:ah)(hp:p.Wf)(hL:eY w p [])(hfl:s.aH.length≤1000000)(hdl:s.aN.length≤1000000):
  Calls Tryz.prog 181 #[.pointer(some⟨N,0,none⟩),.pointer(some⟨B,0,none⟩),p.val]w fun e w'=>e=.returned(.tuple #[])∧lg N B g s(s.answer p)TL w w':=by
 have hb0:Below w.heap.size w(w.alloc p.box):=(Below.refl _ _).alloc(Nat.le_refl _)_;have gp:=PB.new p w;have n0:=n.later hb0;have hfr:bg p.aI:=⟨hp.adu,by have:=hp.adt;omega⟩;obtain⟨s2,dA⟩:∃s2,s.answer p=s2:=⟨_,rfl⟩;rw [dA];replace dA:=(show Hid _ from dA);dsimp only [ah.box]at hb0 n0;unfold PB at gp;dsimp only [ah.box]at gp;go_enter Tryz.func181,Tryz.ntmps181
 go_upto_region 1 with(fail)
 generalize World.alloc _ _=W1 at hb0 gp n0 ⊢;have lC:=(show Hid _ from HB.mk' n0 gp(Below.refl _ _));obtain⟨⟨y,fd⟩,hr⟩:∃r,bF s.A p.aI s.now=r:=⟨_,rfl⟩;have HF:=(show Hid _ from mY n0 p.aI s.now hfr hr);generalize lm:w.heap.size=C at gp lC ⊢;replace lm:=(show Hid _ from lm);go_cut [6,7]from 8 to 21(nH y fd W1)
 case first=>
  have hS:HB N B g.x.T C s.me s.seq s.bZ s.now p W1 W1.drew:=HB.drew lC.out;have hkB:=(show Hid _ from fun W5 h5=>HB.mk'(W:=W5)n0 gp h5);go_region_held3(HB N B g.x.T C s.me s.seq s.bZ s.now p W1)(first|with_reducible exact hS|with_reducible assumption|(with_reducible apply HB.uL hkB;assumption)|(with_reducible apply HB.jO hkB;assumption)|(with_reducible apply HB.d_ hkB)|(with_reducible apply hkB.out;assumption))((go_at_call 79;refine(HF.out _(And.right(by assumption))).mono ?_;rintro e w2⟨ao,c,rfl,hb2,hpr⟩;try((with_reducible have hD:=hpr bW(.slice none 0 0)(kP W1));obtain⟨d0,d1,d2,d3,d4,d5,d6⟩:=hD.cell;have q0:=hD.free 0;have q1:=hD.free 1;have q2:=hD.free 2;have q3:=hD.free 3;have q4:=hD.free 4;have q5:=hD.free 5;have q6:=hD.free 6;have hD':Hid(dP W1.heap.size bW(.slice none 0 0)w2):=hD;clear hD);clear hpr))
  all_goals
   go_wp2_with fail
   go_meet
   first|with_reducible exact gQ hb2|with_reducible exact jB hb2 hD'
 case rest=>
  obtain⟨D,ao,c,rfl,rfl,hD,hDl,hb2⟩:=hcut;have n2:=n0.later hb2;have hP2:=PB.below gp hb2;have hz:=hb0.size;have hCD:C≠D:=by have:=PB.lt gp;omega
  clear lC gp n0 HF;have hs2:=dA.out;unfold St.answer at hs2;rw [hr]at hs2;dsimp only at hs2;obtain⟨d0,d1,d2,d3,d4,d5,d6⟩:=hD.cell;obtain⟨p0,p1,p2,p3,p4,p5,p6,p7,p8,p9,je,iX⟩:=PB.cell hP2;cases fd
  ·rw [if_neg(by simp)]at hs2;subst hs2;have HD:=(show Hid _ from iU n2 3 hdl);clear d0 d1 d2 d3 d4 d5 d6 p0 p1 p2 p3 p4 p5 p6 p7 p8 p9 je iX dA;go_wp2_with fail
   refine Calls.mono HD.out ?_;rintro e w3⟨rfl,hN⟩;go_wp2
   go_returns
   exact⟨rfl,(hN.pre hb2).pre hb0⟩
  ·rw [if_pos rfl]at hs2;subst hs2;have q0:=PB.free hP2 0;have q1:=PB.free hP2 1;have hb3:Below w.heap.size w((wc.setCell⟨C,0,none⟩(.int .i64 8)).setCell⟨C,1,none⟩(.int .i64 2)):=((hb0.trans(hb2.mono hb0.size)).setCell(p:=⟨C,0,none⟩)(by rw [lm.out];exact Nat.le_refl _)_).setCell(p:=⟨C,1,none⟩)(by rw [lm.out];exact Nat.le_refl _)_;have hP3:=hP2.abS 8 2;have n3:=n.later hb3;have HS:Hid(Calls Tryz.prog 80 #[.pointer(some⟨B,0,none⟩),.int .u32 y.next,({p with aS:=8,kind:=2}:ah).val]((wc.setCell⟨C,0,none⟩(.int .i64 8)).setCell⟨C,1,none⟩(.int .i64 2))fun e w'=>e=.returned(.tuple #[])∧lg N B g s(s.send y.next {p with aS:=8,kind:=2} [])TL _ w'):=
    Ap n3 y.next {p with aS:=8,kind:=2}⟨by dsimp only;omega,by dsimp only;omega,by dsimp only;omega,by dsimp only;omega,hp.LH,hp.LG,hp.id0,hp.id1,hp.ady,hp.adx,hp.YX,hp.YW,hp.adu,hp.adt,hp.ads,hp.adq,hp.ab7,hp.ab6,hp.ln1,hp.ad1⟩ [](hL.below hb3)hfl
   have hD3:dP D y(.slice ao y.bB.length c)((wc.setCell⟨C,0,none⟩(.int .i64 8)).setCell⟨C,1,none⟩(.int .i64 2)):=(Below.heap_setCell _ _ _ _(Ne.symm hCD)).trans((Below.heap_setCell _ _ _ _(Ne.symm hCD)).trans hD);clear n2 dA lm;dsimp only [ah.val]at HS;go_upto_region 5 with(fail)
   generalize World.setCell _ _ _=W3 at hb3 hP3 n3 HS hD3 ⊢;clear d0 d1 d2 d3 d4 d5 d6 p0 p1 p2 p3 p4 p5 p6 p7 p8 p9 je iX q0 q1;obtain⟨d0,d1,d2,d3,d4,d5,d6⟩:=hD3.cell;obtain⟨p0,p1,p2,p3,p4,p5,p6,p7,p8,p9,je,iX⟩:=PB.cell hP3;dsimp only at p0 p1 p2 p3 p4 p5 p6 p7 p8 p9 je iX;go_wp2_with fail
   refine Calls.mono HS.out ?_;rintro e w3⟨rfl,hN⟩;go_wp2
   go_returns
   exact⟨rfl,hN.pre hb3⟩
theorem PB.oL {C:Nat} {p:ah} {W:World}(h:PB p C W)(t:Int):PB {p with aS:=t}C(W.setCell⟨C,0,none⟩(.int .i64 t)):=by
 unfold PB at h ⊢;simp [World.setCell,Array.getElem?_modify,h]
theorem PB.CQ {C:Nat} {p:ah} {W:World}(h:PB p C W)(t:Int):PB {p with hops:=t}C(W.setCell⟨C,2,none⟩(.int .i64 t)):=by
 unfold PB at h ⊢;simp [World.setCell,Array.getElem?_modify,h]
theorem PB.abV {C:Nat} {p:ah} {W:World}(h:PB p C W)(t:Int)(b:Bool):PB {p with aW:=t,iK:=b}C((W.setCell⟨C,6,none⟩(.int .u32 t)).setCell⟨C,3,none⟩(.bool b)):=by
 unfold PB at h ⊢;simp [World.setCell,Array.getElem?_modify,h]
theorem uU(h:Int)(h0:0≤h∧h≤255)(w:World):Calls Tryz.prog 162 #[.int .i64 h]w fun e w'=>e=.returned(.int .i64(St.far h))∧w'=w:=by
 have hw:wrap64(h+1)=h+1:=by unfold wrap64;omega
 have hf:∀y,y=min(h+1)255→y=St.far h:=fun y hy=>hy;go_enter Tryz.func162,Tryz.ntmps162
 go_wp2
 all_goals(go_ret;exact⟨uw(by unfold St.far;omega),rfl⟩)
theorem ah.Wf.num {p:ah}(h:p.Wf):bg p.id∧bg p.dest∧bg p.aW∧bg p.aI∧bg p.dm∧bg p.life:=by
 obtain⟨_,_,_,_,_,_,h1,h2,h3,h4,h5,h6,h7,h8,h9,h10,h11,h12,_,_⟩:=h;unfold bg;omega
structure ah.Hd(p:ah):Prop where
 wf:p.Wf
 aS:1≤p.aS∧p.aS≤255
 hops:0≤p.hops∧p.hops≤255
theorem Mx {N B:Nat} {g:bA} {s:St} {TL:List Hp.Tm} {w:World}(n:Nd N B g s TL w)(p:ah)(hq:p.Hd)(hL:eY w p [])(hfl:s.aH.length≤1000000):
  Calls Tryz.prog 165 #[.pointer(some⟨N,0,none⟩),.pointer(some⟨B,0,none⟩),p.val]w fun e w'=>e=.returned(.tuple #[])∧lg N B g s(s.askOn p)TL w w':=by
 have hp:=hq.wf;obtain⟨_,hde,hds,_,_,_⟩:=hp.num;have hb0:Below w.heap.size w(w.alloc p.box):=(Below.refl _ _).alloc(Nat.le_refl _)_;have gp:=PB.new p w;have n0:=n.later hb0;obtain⟨s2,dA⟩:∃s2,s.askOn p=s2:=⟨_,rfl⟩;rw [dA];replace dA:=(show Hid _ from dA);have hnu:bg(dY s.A p.dest):=by
  unfold dY;cases hl:aJ s.A p.dest with
  |none=>exact⟨by simp,by simp⟩
  |some y=>exact(n.nn.cr.tb.ok y(bN hl).1).seq
 dsimp only [ah.box]at hb0 n0;unfold PB at gp;dsimp only [ah.box]at gp;go_enter Tryz.func165,Tryz.ntmps165
 go_upto_region 1 with(fail)
 generalize World.alloc _ _=W1 at hb0 gp n0 ⊢;have lC:=(show Hid _ from HB.mk' n0 gp(Below.refl _ _));have HF:=(show Hid _ from fun W5(h5:Below W1.heap.size W1 W5)=>Y6(n0.later h5)p.dest hde);generalize vU:(aJ s.A p.dest).isSome=fd at HF;generalize hnm:dY s.A p.dest=nm at HF hnu;generalize lm:w.heap.size=C at gp lC ⊢;replace lm:=(show Hid _ from lm);have hS:HB N B g.x.T C s.me s.seq s.bZ s.now p W1 W1.drew:=HB.drew lC.out;go_region_held3(HB N B g.x.T C s.me s.seq s.bZ s.now p W1)(first|with_reducible exact hS|with_reducible assumption)((go_at_call 157;refine(HF.out _(And.right(by assumption))).mono ?_;rintro e w2⟨rfl,rfl⟩))
 have hbd:Below W1.heap.size W1 W1.drew:=(Below.refl _ _).drew;have n2:=n0.later hbd;have hP2:=PB.below gp hbd;have hb2:=hb0.trans(hbd.mono hb0.size);clear hS lC HF gp n0 hb0 hbd;generalize World.drew _=W2 at n2 hP2 hb2 ⊢;have hwt:wrap64(p.aS - 1)=p.aS - 1:=by
  have:=hq.aS;unfold wrap64;omega
 cases fd
 ·have S_:Hid(s.send 0({p with aS:=p.aS - 1,hops:=St.far p.hops}:ah) []=s2):=by
   rw [←dA.out];unfold St.askOn;rw [vU];rfl
  have hwf:({p with aS:=p.aS - 1,hops:=St.far p.hops}:ah).Wf:=by
   have h1:=hq.aS;have h2:=hq.hops;refine {hp with Vk:=?_,Vj:=?_,LH:=?_,LG:=?_}<;>(unfold St.far;dsimp only;omega)
  go_upto_region 4 with(fail)
  have hbC:w.heap.size≤C:=by rw [lm.out];exact Nat.le_refl _
  have lH:=hP2.oL(p.aS - 1);have hb4:Below w.heap.size w(W2.setCell⟨C,0,none⟩(.int .i64(p.aS - 1))):=hb2.setCell(p:=⟨C,0,none⟩)hbC _;obtain⟨p0,p1,p2,p3,p4,p5,p6,p7,p8,p9,je,iX⟩:=PB.cell hP2;have f0:=PB.free hP2 0;try dsimp only at p0 p1 p2 p3 p4 p5 p6 p7 p8 p9 je iX
  go_upto_region 5 with(fail)
  generalize World.setCell _ _ _=W4 at lH hb4 ⊢;clear p0 p1 p2 p3 p4 p5 p6 p7 p8 p9 je iX f0 hP2 hb2;obtain⟨p0,p1,p2,p3,p4,p5,p6,p7,p8,p9,je,iX⟩:=PB.cell lH;have f2:=PB.free lH 2;try dsimp only at p0 p1 p2 p3 p4 p5 p6 p7 p8 p9 je iX
  have vW:=lH.CQ(St.far p.hops);have hb5:Below w.heap.size w(W4.setCell⟨C,2,none⟩(.int .i64(St.far p.hops))):=hb4.setCell(p:=⟨C,2,none⟩)hbC _;have n5:=n.later hb5;have HS:=(show Hid _ from Ap n5 0({p with aS:=p.aS - 1,hops:=St.far p.hops}:ah)hwf [](hL.below hb5)hfl);rw [S_.out]at HS;dsimp only [ah.val]at HS;go_wp2_with fail
  refine Calls.mono(uU p.hops hq.hops W4) ?_;rintro e w4⟨rfl,rfl⟩;clear lH hb4;go_upto_region 6 with(fail)
  generalize World.setCell _ _ _=W5 at vW hb5 n5 HS ⊢;clear p0 p1 p2 p3 p4 p5 p6 p7 p8 p9 je iX f2;obtain⟨p0,p1,p2,p3,p4,p5,p6,p7,p8,p9,je,iX⟩:=PB.cell vW;try dsimp only at p0 p1 p2 p3 p4 p5 p6 p7 p8 p9 je iX
  go_wp2_with fail
  refine Calls.mono HS.out ?_;rintro e w6⟨rfl,hN⟩;go_wp2
  go_returns
  exact⟨rfl,hN.pre hb5⟩
 ·have S_:Hid(s.send 0({p with aS:=p.aS - 1,hops:=St.far p.hops,aW:=max p.aW nm,iK:=false}:ah) []=s2):=by
   rw [←dA.out];unfold St.askOn;rw [vU,hnm];rfl
  have hwf:({p with aS:=p.aS - 1,hops:=St.far p.hops,aW:=max p.aW nm,iK:=false}:ah).Wf:=by
   have h1:=hq.aS;have h2:=hq.hops;have h3:=hds;have h4:=hnu;unfold bg at h3 h4;refine {hp with Vk:=?_,Vj:=?_,LH:=?_,LG:=?_,YX:=?_,YW:=?_}<;>(unfold St.far;dsimp only;omega)
  have acU:w.heap.size≤C:=by rw [lm.out];exact Nat.le_refl _
  have hP3:=hP2.abV(max p.aW nm)false;have hb3:Below w.heap.size w((W2.setCell⟨C,6,none⟩(.int .u32(max p.aW nm))).setCell⟨C,3,none⟩(.bool false)):=(hb2.setCell(p:=⟨C,6,none⟩)acU _).setCell(p:=⟨C,3,none⟩)acU _;obtain⟨p0,p1,p2,p3,p4,p5,p6,p7,p8,p9,je,iX⟩:=PB.cell hP2;have f6:=PB.free hP2 6;have f3:=PB.free hP2 3;go_upto_region 4 with(fail)
  generalize World.setCell _ _ _=W3 at hP3 hb3 ⊢;clear p0 p1 p2 p3 p4 p5 p6 p7 p8 p9 je iX f6 f3 hP2 hb2;have hbC:w.heap.size≤C:=by rw [lm.out];exact Nat.le_refl _
  have lH:=hP3.oL(p.aS - 1);have hb4:Below w.heap.size w(W3.setCell⟨C,0,none⟩(.int .i64(p.aS - 1))):=hb3.setCell(p:=⟨C,0,none⟩)hbC _;obtain⟨p0,p1,p2,p3,p4,p5,p6,p7,p8,p9,je,iX⟩:=PB.cell hP3;have f0:=PB.free hP3 0;try dsimp only at p0 p1 p2 p3 p4 p5 p6 p7 p8 p9 je iX
  go_upto_region 5 with(fail)
  generalize World.setCell _ _ _=W4 at lH hb4 ⊢;clear p0 p1 p2 p3 p4 p5 p6 p7 p8 p9 je iX f0 hP3 hb3;obtain⟨p0,p1,p2,p3,p4,p5,p6,p7,p8,p9,je,iX⟩:=PB.cell lH;have f2:=PB.free lH 2;try dsimp only at p0 p1 p2 p3 p4 p5 p6 p7 p8 p9 je iX
  have vW:=lH.CQ(St.far p.hops);have hb5:Below w.heap.size w(W4.setCell⟨C,2,none⟩(.int .i64(St.far p.hops))):=hb4.setCell(p:=⟨C,2,none⟩)hbC _;have n5:=n.later hb5;have HS:=(show Hid _ from Ap n5 0({p with aS:=p.aS - 1,hops:=St.far p.hops,aW:=max p.aW nm,iK:=false}:ah)hwf [](hL.below hb5)hfl);rw [S_.out]at HS;dsimp only [ah.val]at HS;go_wp2_with fail
  refine Calls.mono(uU p.hops hq.hops W4) ?_;rintro e w4⟨rfl,rfl⟩;clear lH hb4;go_upto_region 6 with(fail)
  generalize World.setCell _ _ _=W5 at vW hb5 n5 HS ⊢;clear p0 p1 p2 p3 p4 p5 p6 p7 p8 p9 je iX f2;obtain⟨p0,p1,p2,p3,p4,p5,p6,p7,p8,p9,je,iX⟩:=PB.cell vW;try dsimp only at p0 p1 p2 p3 p4 p5 p6 p7 p8 p9 je iX
  go_wp2_with fail
  refine Calls.mono HS.out ?_;rintro e w6⟨rfl,hN⟩;go_wp2
  go_returns
  exact⟨rfl,hN.pre hb5⟩
end Go.Proofs.YtakaadcpaeiccabGreat
