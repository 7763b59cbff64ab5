import Derived.Test.YtakaadcpaeiccabGreatC28
set_option maxHeartbeats 8000000
set_option maxRecDepth 100000
namespace Go.Proofs.YtakaadcpaeiccabGreat
open Go.RowKit Go.Maps
theorem qy(s:St)(p:ah):Ai s(s.answer p)∧(s.answer p).now=s.now:=by
 unfold St.answer;split
 ·exact⟨sQ _ _ _ _,rfl⟩
 ·exact⟨sS _ _,rfl⟩
theorem HC.next {N B C:Nat} {g g':bA} {s s':St} {dO:List Hp.Tm} {p:ah} {W:World}(n:Nd N B g' s' dO W)(h:PB p C W)(t:g'.x.T=g.x.T)(h1:s'.me=s.me)(h2:s'.seq=s.seq)(h3:s'.bZ=s.bZ)(h4:s'.now=s.now):HC N B g.x.T C s.me s.seq s.bZ s.now p W:=by
 have:=HC.of n h;rw [t,h1,h2,h3,h4]at this;exact this
theorem Nd.drew {N B:Nat} {g:bA} {s:St} {TL:List Hp.Tm} {W:World}(n:Nd N B g s TL W):Nd N B g s TL W.drew:=n.later(Below.refl _ _).drew
theorem HC.wu {N B C:Nat} {g:bA} {s:St} {TL:List Hp.Tm} {p:ah} {W:World}(n:Nd N B g s TL W)(h:PB p C W):HC N B g.x.T C s.me s.seq s.bZ s.now p W.drew:=HC.of n.drew h
theorem CV {hops d q fm life:Int}(hh:oC hops)(hd:bg d)(hq:bg q)(hf:bg fm)(hl:bg life):(St.sZ hops d q fm life).Wf:=by
 have hz:(⟨#[]⟩:ByteArray).size=0:=rfl;unfold bg at hd hq hf hl;unfold oC at hh;constructor<;>(dsimp only [St.sZ];omega)
theorem IK(W:World)(hops d q fm life:Int):eY W(St.sZ hops d q fm life) []:=⟨rfl,fun j hj=>by simp at hj⟩
theorem vv {N B:Nat} {g:bA} {s:St} {TL:List Hp.Tm} {w:World}(n:Nd N B g s TL w)(p:ah)(hq:p.Hd)(hme:bg s.me)(R9:bg s.seq)(hfl:s.aH.length≤1000000)(hdl:s.aN.length≤1000000):
  Calls Tryz.prog 163 #[.pointer(some⟨N,0,none⟩),.pointer(some⟨B,0,none⟩),p.val]w fun e w'=>e=.returned(.tuple #[])∧lg N B g s(s.iH p)TL w w':=by
 have hp:=hq.wf;obtain⟨_,hde,hds,hfr,_,_⟩:=hp.num;have hb0:Below w.heap.size w(w.alloc p.box):=(Below.refl _ _).alloc(Nat.le_refl _)_;have gp:=PB.new p w;have n0:=n.later hb0;have hmx:bg(max s.seq p.aW):=by
  unfold bg at R9 hds ⊢;omega
 obtain⟨s2,dA⟩:∃s2,s.iH p=s2:=⟨_,rfl⟩;rw [dA];replace dA:=(show Hid _ from dA);dsimp only [ah.box]at hb0 n0;unfold PB at gp;dsimp only [ah.box]at gp;go_enter Tryz.func163,Tryz.ntmps163
 go_upto_region 1 with(fail)
 generalize World.alloc _ _=W1 at hb0 gp n0 ⊢;have jS:=n.new(k:=w.heap.size)(Nat.le_refl _);generalize w.heap.size=C at gp jS ⊢;obtain⟨p0,p1,p2,p3,p4,p5,p6,p7,p8,p9,je,iX⟩:=PB.cell gp;obtain⟨m0,m1,m2,m3,m4⟩:=n0.cell;have f3:=n0.nn.cr.nd.free 3;have hg1:W1.grownBy(W1.setCell⟨N,3,none⟩(.int .u32(max s.seq p.aW)))(some N):=aa(aC _(some N))3 _;obtain⟨e1,e2,e3,e4,e5,e6,e7,e8,e9⟩:=n0.nn.eq;obtain⟨n1,u1⟩:=n0.cells(s':={s with seq:=max s.seq p.aW})(n0.nn.cr.nd.Qp(max s.seq p.aW))(Fx.grown hg1 fun k e=>by cases e;rfl)⟨e1,rfl,e3,e4,e5,e6,e7,e8,e9⟩⟨rfl,rfl,rfl,rfl,rfl,rfl⟩⟨rfl,rfl,rfl,rfl,rfl,rfl,rfl,rfl,rfl⟩⟨rfl,rfl,rfl,rfl,rfl⟩;obtain⟨hP1,hnC⟩:=u1.keep gp jS(C9 p);go_region
 have n2:=n1.drew;have hP2:PB p C(W1.setCell⟨N,3,none⟩(.int .u32(max s.seq p.aW))).drew:=hP1;have u2:=(u1.trans(.below(Below.refl _ _).drew):Up B _ _ W1(W1.setCell⟨N,3,none⟩(.int .u32(max s.seq p.aW))).drew);have t2:({g with x:={g.x with seq:=max s.seq p.aW}}:bA).x.T=g.x.T:=rfl;generalize({g with x:={g.x with seq:=max s.seq p.aW}}:bA)=g2 at n2 u2 t2 hnC;clear n1 hP1 u1 hg1 e1 e2 e3 e4 e5 e6 e7 e8 e9 p0 p1 p2 p3 p4 p5 p6 p7 p8 p9 je iX m0 m1 m2 m3 m4 f3 gp n0;generalize World.drew _=W2 at n2 hP2 u2 ⊢;have hs2:=dA.out;unfold St.iH at hs2;generalize max s.seq p.aW=q at hs2 n2 u2 hmx hnC ⊢;have hsm:=qy {s with seq:=q}(St.sZ 0 s.me q p.aI 6000);have HA:=hide(Aq n2.drew(St.sZ 0 s.me q p.aI 6000)(CV(by unfold oC;omega)hme hmx hfr(by unfold bg;omega))(IK _ _ _ _ _ _)hfl hdl);rw [hs2]at HA hsm;dsimp only [ah.val,St.sZ]at HA;have hS:=HC.wu n2 hP2;go_wp2_with fail
 go_region_held3(HC N B g2.x.T C s.me q s.bZ s.now p)(first|with_reducible exact hS|with_reducible assumption)((go_at_call 181;refine HA.out.mono ?_;rintro e w3⟨rfl,hN⟩;obtain⟨g3,n3,u3,t3⟩:=hN;have hk3:=HC.next n3(u3.box hP2 hnC)t3.out hsm.1.1 hsm.1.2.1 hsm.1.2.2.1 hsm.2))
 go_wp2
 go_returns
 exact⟨rfl,lg.pre hb0⟨g3,n3,(u2.trans(.below(Below.refl _ _).drew)).trans u3,t3.out.trans t2⟩⟩
theorem VV(y:Rt)(v:Value):nS(b_ y v):=⟨fun c e=>(by cases e),fun c e=>(by cases e),fun c e=>(by cases e),fun c e=>(by cases e),fun c e=>(by cases e)⟩
@[reducible] def HR (N B T C D : Nat) (me seq bZ now : Int) (p : ah) (y : Rt) (v : Value) (W : World) : Prop :=
 HC N B T C me seq bZ now p W∧W.cell?⟨D,0,none⟩=some(.int .u32 y.dest)∧W.cell?⟨D,1,none⟩=some(.int .u32 y.seq)∧W.cell?⟨D,2,none⟩=some(.int .i64 y.hops)∧W.cell?⟨D,3,none⟩=some(.int .u32 y.next)∧W.cell?⟨D,4,none⟩=some(.bool y.valid)∧W.cell?⟨D,5,none⟩=some(.int .u64 y.exp)∧W.cell?⟨D,6,none⟩=some v
theorem HC.at {N B C T:Nat} {g:bA} {s:St} {TL:List Hp.Tm} {p:ah} {W:World} {me seq bZ now:Int}(n:Nd N B g s TL W)(h:PB p C W)(t:g.x.T=T)(h1:s.me=me)(h2:s.seq=seq)(h3:s.bZ=bZ)(h4:s.now=now):HC N B T C me seq bZ now p W:=by
 subst t h1 h2 h3 h4;exact HC.of n h
theorem HR.at {N B C D T:Nat} {g:bA} {s:St} {TL:List Hp.Tm} {p:ah} {y:Rt} {v:Value} {W:World} {me seq bZ now:Int}(n:Nd N B g s TL W)(h:PB p C W)(hD:dP D y v W)(t:g.x.T=T)(h1:s.me=me)(h2:s.seq=seq)(h3:s.bZ=bZ)(h4:s.now=now):HR N B T C D me seq bZ now p y v W:=⟨HC.at n h t h1 h2 h3 h4,hD.cell⟩
theorem HR.jw {N B C D T:Nat} {g:bA} {s:St} {TL:List Hp.Tm} {p:ah} {y:Rt} {v:Value} {W:World} {me seq bZ now:Int}(n:Nd N B g s TL W)(h:PB p C W)(hD:dP D y v W)(t:g.x.T=T)(h1:s.me=me)(h2:s.seq=seq)(h3:s.bZ=bZ)(h4:s.now=now):HR N B T C D me seq bZ now p y v W.drew:=HR.at n.drew h hD t h1 h2 h3 h4
theorem Lm(a b:Int):IntKind.u32.wrap(IntKind.u64.wrap(a - b))=(a - b)%4294967296:=by
 simp only [IntKind.wrap,IntKind.signed,IntKind.bits];simp
theorem F5 {l:Int} {N B:Nat} {h d q f:Int} {W:World} {Q:Ending→World→Prop}(H:Hid(Calls Tryz.prog 181 #[.pointer(some⟨N,0,none⟩),.pointer(some⟨B,0,none⟩),.agg #[.int .i64 0,.int .i64 0,.int .i64 h,.bool false,.int .u32 0,.int .u32 d,.int .u32 q,.int .u32 f,.int .u32 0,.int .u32 l,.slice none 0 0,.string⟨#[]⟩]]W Q)):
  Hid(∀l',l'=l→Calls Tryz.prog 181 #[.pointer(some⟨N,0,none⟩),.pointer(some⟨B,0,none⟩),.agg #[.int .i64 0,.int .i64 0,.int .i64 h,.bool false,.int .u32 0,.int .u32 d,.int .u32 q,.int .u32 f,.int .u32 0,.int .u32 l',.slice none 0 0,.string⟨#[]⟩]]W Q):=by
 rintro _ rfl;exact H
theorem Up.jN {B C:Nat} {F F':Nat→Prop} {p:ah} {a b:World}(u:Up B F F' a b)(h:PB p C a)(hn:¬F C):PB p C b∧¬F' C:=u.keep h hn(C9 p)
theorem Up.keepR {B D:Nat} {F F':Nat→Prop} {y:Rt} {v:Value} {a b:World}(u:Up B F F' a b)(h:dP D y v a)(hn:¬F D):dP D y v b∧¬F' D:=u.keep h hn(VV y v)
theorem n_ {A:List Rt}(hA:∀y∈A,y.Ok)(d now:Int):(bF A d now).1.Ok∨(bF A d now).2=false:=by
 unfold bF;cases hl:aJ A d with
 |none=>exact .inr rfl
 |some y=>
  by_cases hc:(y.valid&&decide(now<y.exp))=true
  ·left;have:=hA y(bN hl).1
   simp_all
  ·right;by_cases hv:y.valid=true
   ·by_cases he:now<y.exp
    ·simp [hv,he]at hc
    ·simp [hv,he]
   ·simp [hv]
theorem sD {N B:Nat} {g:bA} {s:St} {TL:List Hp.Tm} {w:World}(n:Nd N B g s TL w)(p:ah)(hq:p.Hd)(r:Rt)(hr:r.Ok)(ra:Option Addr)(rn rc:Nat)(afE:Af s.now)(hfl:s.aH.length≤1000000)(hdl:s.aN.length≤1000000):
  Calls Tryz.prog 164 #[.pointer(some⟨N,0,none⟩),.pointer(some⟨B,0,none⟩),p.val,Ia r(.slice ra rn rc)]w fun e w'=>e=.returned(.tuple #[])∧lg N B g s(s.gT p r)TL w w':=by
 have hp:=hq.wf;obtain⟨_,hde,hds,hfr,_,_⟩:=hp.num;have hb0:Below w.heap.size w((w.alloc p.box).alloc(b_ r(.slice ra rn rc))):=((Below.refl _ _).alloc(Nat.le_refl _)_).alloc(by simp)_;have gp:PB p w.heap.size((w.alloc p.box).alloc(b_ r(.slice ra rn rc))):=(((Below.refl _(w.alloc p.box)).alloc(Nat.le_refl _)_).block _(by simp)).trans(PB.new p w);have hR0:dP(w.heap.size+1)r(.slice ra rn rc)((w.alloc p.box).alloc(b_ r(.slice ra rn rc))):=by
  have:=heap_alloc_new(w.alloc p.box)(b_ r(.slice ra rn rc));rw [World.size_alloc]at this;exact this
 have n0:=n.later hb0;obtain⟨s2,dA⟩:∃s2,s.gT p r=s2:=⟨_,rfl⟩;rw [dA];replace dA:=hide dA;dsimp only [ah.box,b_]at hb0 n0;unfold PB at gp;unfold dP at hR0;dsimp only [ah.box,b_]at gp hR0;go_enter Tryz.func164,Tryz.ntmps164
 go_upto_region 1 with(fail)
 generalize World.alloc(World.alloc _ _)_=W1 at hb0 gp hR0 n0 ⊢;have jS:=n.new(k:=w.heap.size)(Nat.le_refl _);have hRn:=n.new(k:=w.heap.size+1)(Nat.le_succ _);obtain⟨⟨y,fd⟩,hy⟩:∃r,bF s.A p.aI s.now=r:=⟨_,rfl⟩;have qF:fd=true→bg y.next:=fun h=>by
  have:=n_ n.nn.cr.tb.ok p.aI s.now;rw [hy]at this;rcases this with h1|h1
  ·exact h1.next
  ·rw [h]at h1;cases h1
 have HF:=hide(mY n0 p.aI s.now hfr hy);generalize lm:w.heap.size=C at gp hR0 jS hRn ⊢;replace lm:=hide lm;go_cut [8,9]from 10 to 23(nH y fd W1)
 case first=>
  have hS:HB N B g.x.T C s.me s.seq s.bZ s.now p W1 W1.drew:=HB.drew(HB.mk' n0 gp(Below.refl _ _));have hkB:=hide fun W5 h5=>HB.mk'(W:=W5)n0 gp h5;go_region_held3(HB N B g.x.T C s.me s.seq s.bZ s.now p W1)(first|with_reducible exact hS|with_reducible assumption|(with_reducible apply HB.uL hkB;assumption)|(with_reducible apply HB.jO hkB;assumption)|(with_reducible apply HB.d_ hkB)|(with_reducible apply hkB.out;assumption))((go_at_call 79;refine(HF.out _(And.right(by assumption))).mono ?_;rintro e w2⟨ao,c,rfl,hb2,hpr⟩;try((with_reducible have hD:=hpr bW(.slice none 0 0)(kP W1));obtain⟨d0,d1,d2,d3,d4,d5,d6⟩:=hD.cell;have q0:=hD.free 0;have q1:=hD.free 1;have q2:=hD.free 2;have q3:=hD.free 3;have q4:=hD.free 4;have q5:=hD.free 5;have q6:=hD.free 6;have hD':Hid(dP W1.heap.size bW(.slice none 0 0)w2):=hD;clear hD);clear hpr))
  all_goals
   go_wp2_with fail
   go_meet
   first|with_reducible exact gQ hb2|with_reducible exact jB hb2 hD'
 case rest=>
  obtain⟨E,ao,c,rfl,rfl,hE,hEl,hb2⟩:=hcut;have Xo:¬Ft N g s E:=n0.new hEl;have n2:=n0.later hb2;have hP2:=PB.below gp hb2;have hR2:dP(C+1)r(.slice ra rn rc)wc:=dP.later hR0 hb2;have hbb:=hb0.trans(hb2.mono hb0.size);have hs2:=dA.out;unfold St.gT at hs2;rw [hy]at hs2;dsimp only at hs2;clear HF gp hR0 n0 hb0 hb2 dA;cases fd
  ·rw [if_neg(by simp)]at hs2;have HB4:=hide(qV n2.drew p.aI r.next hfr hr.next);have hS:HR N B g.x.T C(C+1)s.me s.seq s.bZ s.now p r(.slice ra rn rc)wc.drew:=HR.jw n2 hP2 hR2 rfl rfl rfl rfl rfl;go_wp2_with fail
   go_region_held3(HR N B g.x.T C(C+1)s.me s.seq s.bZ s.now p r(.slice ra rn rc))(first|with_reducible exact hS|with_reducible assumption)((go_at_call 182;refine HB4.out.mono ?_;rintro e w4⟨rfl,hN⟩;obtain⟨g4,n4,u4,t4⟩:=hN;obtain⟨lH,qK⟩:=u4.jN hP2 jS;obtain⟨LV,aaM⟩:=u4.keepR hR2 hRn;have hk4:HR N B g.x.T C(C+1)s.me s.seq s.bZ s.now p r(.slice ra rn rc)w4:=HR.at n4 lH LV t4.out rfl rfl rfl rfl))
   clear hS hk4;rename_i iB;clear iB;clear HB4;have hsm:=qy {s with A:=kX s.A p.aI r.next}(St.sZ r.hops p.dest r.seq p.aI((r.exp - s.now)%4294967296));have HA:=hide(Aq n4.drew(St.sZ r.hops p.dest r.seq p.aI((r.exp - s.now)%4294967296))(CV hr.hops hde hr.seq hfr(by unfold bg;omega))(IK _ _ _ _ _ _)hfl hdl);rw [hs2]at HA hsm;dsimp only [ah.val,St.sZ]at HA;have HA':=F5 HA;clear HA;have hS:HR N B g4.x.T C(C+1)s.me s.seq s.bZ s.now p r(.slice ra rn rc)w4.drew:=HR.jw n4 lH LV rfl rfl rfl rfl rfl;go_wp2_with fail
   go_region_held3(HR N B g4.x.T C(C+1)s.me s.seq s.bZ s.now p r(.slice ra rn rc))(first|with_reducible exact hS|with_reducible assumption)((go_at_call 181;refine(HA'.out _(by first|exact Lm _ _|exact Ry _ _|rfl)).mono ?_;rintro e w5⟨rfl,hN⟩;obtain⟨g5,n5,u5,t5⟩:=hN;obtain⟨vW,adn⟩:=u5.jN lH qK;obtain⟨UZ,ae0⟩:=u5.keepR LV aaM;have hk5:HR N B g4.x.T C(C+1)s.me s.seq s.bZ s.now p r(.slice ra rn rc)w5:=HR.at n5 vW UZ t5.out hsm.1.1 hsm.1.2.1 hsm.1.2.2.1 hsm.2))
   clear hS hk5;rename_i iB;clear iB;go_wp2
   go_returns
   exact⟨rfl,lg.pre hbb⟨g5,n5,(Up.trans(.below(Below.refl _ _).drew)u4).trans(Up.trans(.below(Below.refl _ _).drew)u5),t5.out.trans t4.out⟩⟩
  ·rw [if_pos rfl]at hs2;have hny:=qF rfl;obtain⟨e0,e1,e2,e3,e4,e5,e6⟩:=hE.cell;have HB3:=hide(qV n2.drew p.dest y.next hde hny);have hS:HR N B g.x.T C E s.me s.seq s.bZ s.now p y(.slice ao y.bB.length c)wc.drew:=HR.jw n2 hP2 hE rfl rfl rfl rfl rfl;go_wp2_with fail
   go_region_held3(HR N B g.x.T C E s.me s.seq s.bZ s.now p y(.slice ao y.bB.length c))(first|with_reducible exact hS|with_reducible assumption)((go_at_call 182;refine HB3.out.mono ?_;rintro e w3⟨rfl,hN⟩;obtain⟨g3,n3,u3,t3⟩:=hN;obtain⟨hP3,OC⟩:=u3.jN hP2 jS;obtain⟨Ow,ac2⟩:=u3.keepR hR2 hRn;obtain⟨hE3,Ti⟩:=u3.keepR hE Xo;have hk3:HR N B g.x.T C E s.me s.seq s.bZ s.now p y(.slice ao y.bB.length c)w3:=HR.at n3 hP3 hE3 t3.out rfl rfl rfl rfl))
   clear hS hk3;rename_i iB;clear iB;clear e0 e1 e2 e3 e4 e5 e6 HB3 hE hP2 hR2;obtain⟨s1,hs1⟩:∃s1,({s with A:=kX s.A p.dest y.next}:St)=s1:=⟨_,rfl⟩;have vT:({s1 with A:=kX s1.A p.aI r.next}:St).answer(St.sZ r.hops p.dest r.seq p.aI((r.exp - s1.now)%4294967296))=s2:=by
    rw [←hs1];exact hs2
   have zC:s1.aH.length≤1000000:=by rw [←hs1];exact hfl
   have DU:s1.aN.length≤1000000:=by rw [←hs1];exact hdl
   rw [hs1]at n3 u3 OC ac2;clear hs2 hs1 Ti;have hs2:=vT;clear vT;have HB4:=hide(qV n3.drew p.aI r.next hfr hr.next);have hS:HR N B g3.x.T C(C+1)s1.me s1.seq s1.bZ s1.now p r(.slice ra rn rc)w3.drew:=HR.jw n3 hP3 Ow rfl rfl rfl rfl rfl;go_wp2_with fail
   go_region_held3(HR N B g3.x.T C(C+1)s1.me s1.seq s1.bZ s1.now p r(.slice ra rn rc))(first|with_reducible exact hS|with_reducible assumption)((go_at_call 182;refine HB4.out.mono ?_;rintro e w4⟨rfl,hN⟩;obtain⟨g4,n4,u4,t4⟩:=hN;obtain⟨lH,qK⟩:=u4.jN hP3 OC;obtain⟨LV,aaM⟩:=u4.keepR Ow ac2;have hk4:HR N B g3.x.T C(C+1)s1.me s1.seq s1.bZ s1.now p r(.slice ra rn rc)w4:=HR.at n4 lH LV t4.out rfl rfl rfl rfl))
   clear hS hk4;rename_i iB;clear iB;clear HB4;have hsm:=qy {s1 with A:=kX s1.A p.aI r.next}(St.sZ r.hops p.dest r.seq p.aI((r.exp - s1.now)%4294967296));have HA:=hide(Aq n4.drew(St.sZ r.hops p.dest r.seq p.aI((r.exp - s1.now)%4294967296))(CV hr.hops hde hr.seq hfr(by unfold bg;omega))(IK _ _ _ _ _ _)zC DU);rw [hs2]at HA hsm;dsimp only [ah.val,St.sZ]at HA;have HA':=F5 HA;clear HA;have hS:HR N B g4.x.T C(C+1)s1.me s1.seq s1.bZ s1.now p r(.slice ra rn rc)w4.drew:=HR.jw n4 lH LV rfl rfl rfl rfl rfl;go_wp2_with fail
   go_region_held3(HR N B g4.x.T C(C+1)s1.me s1.seq s1.bZ s1.now p r(.slice ra rn rc))(first|with_reducible exact hS|with_reducible assumption)((go_at_call 181;refine(HA'.out _(by first|exact Lm _ _|exact Ry _ _|rfl)).mono ?_;rintro e w5⟨rfl,hN⟩;obtain⟨g5,n5,u5,t5⟩:=hN;obtain⟨vW,adn⟩:=u5.jN lH qK;obtain⟨UZ,ae0⟩:=u5.keepR LV aaM;have hk5:HR N B g4.x.T C(C+1)s1.me s1.seq s1.bZ s1.now p r(.slice ra rn rc)w5:=HR.at n5 vW UZ t5.out hsm.1.1 hsm.1.2.1 hsm.1.2.2.1 hsm.2))
   clear hS hk5;rename_i iB;clear iB;go_wp2
   go_returns
   exact⟨rfl,lg.pre hbb⟨g5,n5,((Up.trans(.below(Below.refl _ _).drew)u3).trans(Up.trans(.below(Below.refl _ _).drew)u4)).trans(Up.trans(.below(Below.refl _ _).drew)u5),t5.out.trans(t4.out.trans t3.out)⟩⟩
theorem eY.nil {W W':World} {p:ah}(h:eY W p []):eY W' p []:=⟨h.1,fun j hj=>by simp at hj⟩
theorem lY {a c:Int}(h:0≤a∧a≤4611686018427387904)(hc:0≤c∧c≤8589934592):IntKind.u64.wrap(a+c)=a+c:=by
 simp only [IntKind.wrap,IntKind.signed,IntKind.bits];simp;omega
theorem Pm {N B:Nat} {g:bA} {s:St} {TL:List Hp.Tm} {w:World}(n:Nd N B g s TL w)(fr:Int)(Om:bg fr)(p:ah)(hq:p.Hd)(hL:eY w p [])(fq:0≤s.now∧s.now≤4611686018427387904)(hfl:s.aH.length≤1000000)(hdl:s.aN.length≤1000000):
  Calls Tryz.prog 166 #[.pointer(some⟨N,0,none⟩),.pointer(some⟨B,0,none⟩),.int .u32 fr,p.val]w fun e w'=>e=.returned(.tuple #[])∧lg N B g s(s.il fr p)TL w w':=by
 have hp:=hq.wf;obtain⟨hid,hde,hds,hfr,hfs,_⟩:=hp.num;have hb0:Below w.heap.size w(w.alloc p.box):=(Below.refl _ _).alloc(Nat.le_refl _)_;have gp:=PB.new p w;have n0:=n.later hb0;obtain⟨s2,dA⟩:∃s2,s.il fr p=s2:=⟨_,rfl⟩;rw [dA];have hs2:=dA;replace dA:=hide dA;unfold St.il at hs2;replace hs2:=hide hs2;dsimp only [ah.box]at hb0 n0;unfold PB at gp;dsimp only [ah.box]at gp;go_enter Tryz.func166,Tryz.ntmps166
 go_upto_region 1 with(fail)
 generalize World.alloc _ _=W1 at hb0 gp n0 ⊢;have jS:=n.new(k:=w.heap.size)(Nat.le_refl _);obtain⟨⟨y,fd⟩,hy⟩:∃r,bF s.A p.aI s.now=r:=⟨_,rfl⟩;have HF:=hide(mY n0 p.aI s.now hfr hy);generalize lm:w.heap.size=C at gp jS ⊢;replace lm:=hide lm;go_cut [8,9]from 10 to 23(nH y fd W1)
 case first=>
  have hS:HB N B g.x.T C s.me s.seq s.bZ s.now p W1 W1.drew:=HB.drew(HB.mk' n0 gp(Below.refl _ _));have hkB:=hide fun W5 h5=>HB.mk'(W:=W5)n0 gp h5;go_region_held3(HB N B g.x.T C s.me s.seq s.bZ s.now p W1)(first|with_reducible exact hS|with_reducible assumption|(with_reducible apply HB.uL hkB;assumption)|(with_reducible apply HB.jO hkB;assumption)|(with_reducible apply HB.d_ hkB)|(with_reducible apply hkB.out;assumption))((go_at_call 79;refine(HF.out _(And.right(by assumption))).mono ?_;rintro e w2⟨ao,c,rfl,hb2,hpr⟩;try((with_reducible have hD:=hpr bW(.slice none 0 0)(kP W1));obtain⟨d0,d1,d2,d3,d4,d5,d6⟩:=hD.cell;have q0:=hD.free 0;have q1:=hD.free 1;have q2:=hD.free 2;have q3:=hD.free 3;have q4:=hD.free 4;have q5:=hD.free 5;have q6:=hD.free 6;have hD':Hid(dP W1.heap.size bW(.slice none 0 0)w2):=hD;clear hD);clear hpr))
  all_goals
   go_wp2_with fail
   go_meet
   first|with_reducible exact gQ hb2|with_reducible exact jB hb2 hD'
 case rest=>
  obtain⟨E,ao,c,rfl,rfl,hE,hEl,hb2⟩:=hcut;have Xo:¬Ft N g s E:=n0.new hEl;have qF:fd=true→bg y.next:=fun h=>by
   have:=n_ n.nn.cr.tb.ok p.aI s.now;rw [hy]at this;rcases this with h1|h1
   ·exact h1.next
   ·rw [h]at h1;cases h1
  have n2:=n0.later hb2;have hP2:PB p C wc:=PB.below gp hb2;have hbb:=hb0.trans(hb2.mono hb0.size);have hCE:C≠E:=by have:=PB.lt gp;omega
  have hs3:=hs2.out;rw [hy]at hs3;dsimp only at hs3;clear HF gp n0 hb0 hb2 dA hs2;cases fd
  ·rw [if_neg(by simp)]at hs3;have HX:=hide(iU n2 3 hdl);rw [hs3]at HX;clear hP2 hE;go_wp2_with fail
   refine Calls.mono HX.out ?_;rintro e w9⟨rfl,hN⟩;go_wp2
   go_returns
   exact⟨rfl,hN.pre hbb⟩
  ·rw [if_pos rfl]at hs3;have hyn:=qF rfl;have hwt:wrap64(p.aS - 1)=p.aS - 1:=by
    have:=hq.aS;unfold wrap64;omega
   have hbC:w.heap.size≤C:=by rw [lm.out];exact Nat.le_refl _
   have lH:=hP2.oL(p.aS - 1);have hb4:Below w.heap.size w(wc.setCell⟨C,0,none⟩(.int .i64(p.aS - 1))):=hbb.setCell(p:=⟨C,0,none⟩)hbC _;have Jv:dP E y(.slice ao y.bB.length c)(wc.setCell⟨C,0,none⟩(.int .i64(p.aS - 1))):=(Below.heap_setCell _ _ _ _(Ne.symm hCE)).trans hE;obtain⟨p0,p1,p2,p3,p4,p5,p6,p7,p8,p9,je,iX⟩:=PB.cell hP2;have f0:=PB.free hP2 0;clear n2 hP2 hE hbb;go_upto_region 5 with(fail)
   generalize World.setCell _ _ _=W4 at lH hb4 Jv ⊢;clear p0 p1 p2 p3 p4 p5 p6 p7 p8 p9 je iX f0;obtain⟨p0,p1,p2,p3,p4,p5,p6,p7,p8,p9,je,iX⟩:=PB.cell lH;have f2:=PB.free lH 2;dsimp only at p0 p1 p2 p3 p4 p5 p6 p7 p8 p9 je iX;have vW:PB({p with aS:=p.aS - 1,hops:=St.far p.hops}:ah)C(W4.setCell⟨C,2,none⟩(.int .i64(St.far p.hops))):=lH.CQ(St.far p.hops);have hb5:Below w.heap.size w(W4.setCell⟨C,2,none⟩(.int .i64(St.far p.hops))):=hb4.setCell(p:=⟨C,2,none⟩)hbC _;have U4:dP E y(.slice ao y.bB.length c)(W4.setCell⟨C,2,none⟩(.int .i64(St.far p.hops))):=(Below.heap_setCell _ _ _ _(Ne.symm hCE)).trans Jv;have n5:=n.later hb5;have hwf:({p with aS:=p.aS - 1,hops:=St.far p.hops}:ah).Wf:=by
    have h1:=hq.aS;have h2:=hq.hops;refine {hp with Vk:=?_,Vj:=?_,LH:=?_,LG:=?_}<;>(unfold St.far;dsimp only;omega)
   have HS:=hide(Ap n5 y.next({p with aS:=p.aS - 1,hops:=St.far p.hops}:ah)hwf [](hL.below hb5)hfl);obtain⟨s6,hs6⟩:∃z,s.send y.next({p with aS:=p.aS - 1,hops:=St.far p.hops}:ah) []=z:=⟨_,rfl⟩;rw [hs6]at HS;dsimp only [ah.val]at HS;have h6:Hid(s6.now=s.now∧s6.A=s.A∧ {s6 with A:=iy(kX(kX s6.A p.dest y.next)p.aI fr)p.aI(s.now+3000)}=s2):=by
    show _∧_∧_;rw [←hs6];exact⟨rfl,rfl,hs3⟩
   clear hs3 hs6;go_wp2_with fail
   refine Calls.mono(uU p.hops hq.hops W4) ?_;rintro e w4⟨rfl,rfl⟩;clear lH hb4 Jv;go_upto_region 6 with(fail)
   generalize World.setCell _ _ _=W5 at vW hb5 U4 n5 HS ⊢;clear p0 p1 p2 p3 p4 p5 p6 p7 p8 p9 je iX f2;obtain⟨p0,p1,p2,p3,p4,p5,p6,p7,p8,p9,je,iX⟩:=PB.cell vW;obtain⟨e0,e1,e2,e3,e4,e5,e6⟩:=U4.cell;dsimp only at p0 p1 p2 p3 p4 p5 p6 p7 p8 p9 je iX;go_wp2_with fail
   refine Calls.mono HS.out ?_;rintro e w6⟨rfl,hN⟩;obtain⟨g6,n6,u6,t6⟩:=hN;clear p0 p1 p2 p3 p4 p5 p6 p7 p8 p9 je iX e0 e1 e2 e3 e4 e5 e6 HS;obtain⟨Ii,jY⟩:=u6.jN vW jS;obtain⟨Xq,Tg⟩:=u6.keepR U4 Xo;have mI:Up B(Ft N g s)(Ft N g6 s6)w w6:=(Up.below hb5).trans u6;clear vW U4 n5 u6 hb5;have HB:=hide(qV n6.drew p.dest y.next hde hyn);have hS:HR N B g6.x.T C E s6.me s6.seq s6.bZ s6.now({p with aS:=p.aS - 1,hops:=St.far p.hops}:ah)y(.slice ao y.bB.length c)w6.drew:=HR.jw n6 Ii Xq rfl rfl rfl rfl rfl;go_wp2_with fail
   go_region_held3(HR N B g6.x.T C E s6.me s6.seq s6.bZ s6.now({p with aS:=p.aS - 1,hops:=St.far p.hops}:ah)y(.slice ao y.bB.length c))(first|with_reducible exact hS|with_reducible assumption)((go_at_call 182;refine(HB.out).mono ?_;rintro e w7⟨rfl,hN⟩;obtain⟨g7,n7,u7,t7⟩:=hN;obtain⟨Xg,OA⟩:=u7.jN Ii jY;obtain⟨Xp,Oy⟩:=u7.keepR Xq Tg;have hk7:HR N B g6.x.T C E s6.me s6.seq s6.bZ s6.now({p with aS:=p.aS - 1,hops:=St.far p.hops}:ah)y(.slice ao y.bB.length c)w7:=HR.at n7 Xg Xp t7.out rfl rfl rfl rfl))
   clear hS hk7;rename_i iB;clear iB;clear HB;have ua7:=(mI.trans(.below(Below.refl _ _).drew)).trans u7;obtain⟨s7,hs7⟩:∃z,({s6 with A:=kX s6.A p.dest y.next}:St)=z:=⟨_,rfl⟩;have h7:Hid(s7.now=s.now∧ {s7 with A:=iy(kX s7.A p.aI fr)p.aI(s.now+3000)}=s2):=by
    show _∧_;rw [←hs7];exact⟨h6.out.1,h6.out.2.2⟩
   rw [hs7]at n7 ua7 OA Oy;clear hs7 mI u7 n6 Ii Xq jY Tg h6;have HB:=hide(qV n7.drew p.aI fr hfr Om);have hS:HR N B g7.x.T C E s7.me s7.seq s7.bZ s7.now({p with aS:=p.aS - 1,hops:=St.far p.hops}:ah)y(.slice ao y.bB.length c)w7.drew:=HR.jw n7 Xg Xp rfl rfl rfl rfl rfl;go_wp2_with fail
   go_region_held3(HR N B g7.x.T C E s7.me s7.seq s7.bZ s7.now({p with aS:=p.aS - 1,hops:=St.far p.hops}:ah)y(.slice ao y.bB.length c))(first|with_reducible exact hS|with_reducible assumption)((go_at_call 182;refine(HB.out).mono ?_;rintro e w8⟨rfl,hN⟩;obtain⟨g8,n8,u8,t8⟩:=hN;obtain⟨Js,aaT⟩:=u8.jN Xg OA;obtain⟨Tj,aaS⟩:=u8.keepR Xp Oy;have hk8:HR N B g7.x.T C E s7.me s7.seq s7.bZ s7.now({p with aS:=p.aS - 1,hops:=St.far p.hops}:ah)y(.slice ao y.bB.length c)w8:=HR.at n8 Js Tj t8.out rfl rfl rfl rfl))
   clear hS hk8;rename_i iB;clear iB;clear HB;have UN:=(ua7.trans(.below(Below.refl _ _).drew)).trans u8;obtain⟨s8,hs8⟩:∃z,({s7 with A:=kX s7.A p.aI fr}:St)=z:=⟨_,rfl⟩;have h8:Hid(s8.now=s.now∧ {s8 with A:=iy s8.A p.aI(s.now+3000)}=s2):=by
    show _∧_;rw [←hs8];exact⟨h7.out.1,h7.out.2⟩
   rw [hs8]at n8 UN aaT aaS;clear hs8 ua7 u8 n7 Xg Xp OA Oy h7;have HV:Hid(∀t,t=s8.now+3000→Calls Tryz.prog 81 #[.pointer(some⟨g8.x.T,0,none⟩),.int .u32 p.aI,.int .u64 t]w8.drew fun r w'=>r=.returned(.tuple #[])∧lg N B g8 s8 s2 TL w8.drew w'):=by
    rintro _ rfl;have:=Mv n8.drew p.aI(s8.now+3000)hfr(by have:=h8.out.1;unfold Af;omega);rw [show({s8 with A:=iy s8.A p.aI(s8.now+3000)}:St)=s2 from by have e:=h8.out.2;rw [←h8.out.1]at e;exact e]at this;exact this
   have hn8:0≤s8.now∧s8.now≤4611686018427387904:=by rw [h8.out.1];exact fq
   have hsm:Hid(s2.me=s8.me∧s2.seq=s8.seq∧s2.bZ=s8.bZ∧s2.now=s8.now):=by
    show _∧_;rw [←h8.out.2];exact⟨rfl,rfl,rfl,rfl⟩
   have hS:HR N B g8.x.T C E s8.me s8.seq s8.bZ s8.now({p with aS:=p.aS - 1,hops:=St.far p.hops}:ah)y(.slice ao y.bB.length c)w8.drew:=HR.jw n8 Js Tj rfl rfl rfl rfl rfl;go_wp2_with fail
   go_region_held3(HR N B g8.x.T C E s8.me s8.seq s8.bZ s8.now({p with aS:=p.aS - 1,hops:=St.far p.hops}:ah)y(.slice ao y.bB.length c))(first|with_reducible exact hS|with_reducible assumption)((go_at_call 81;refine(HV.out _(by first|rfl|exact lY hn8(by decide))).mono ?_;rintro e w9⟨rfl,hN⟩;obtain⟨g9,n9,u9,t9⟩:=hN;obtain⟨Ih,af3⟩:=u9.jN Js aaT;obtain⟨PR,af2⟩:=u9.keepR Tj aaS;have hk9:HR N B g8.x.T C E s8.me s8.seq s8.bZ s8.now({p with aS:=p.aS - 1,hops:=St.far p.hops}:ah)y(.slice ao y.bB.length c)w9:=HR.at n9 Ih PR t9.out hsm.out.1 hsm.out.2.1 hsm.out.2.2.1 hsm.out.2.2.2))
   clear hS hk9;rename_i iB;clear iB;have vG:=(UN.trans(.below(Below.refl _ _).drew)).trans u9;have ta:g9.x.T=g.x.T:=t9.out.trans(t8.out.trans(t7.out.trans t6.out));clear Js Tj Ih PR;go_wp2
   go_returns
   exact⟨rfl,g9,n9,vG,ta⟩
end Go.Proofs.YtakaadcpaeiccabGreat
