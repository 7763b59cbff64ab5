import Derived.Test.YtakaadcpaeiccabGreatC29
set_option maxHeartbeats 8000000
set_option maxRecDepth 100000
namespace Go.Proofs.YtakaadcpaeiccabGreat
open Go.RowKit Go.Maps
theorem ZE(q:Int×Int):nS(fA q):=⟨fun c e=>(by cases e),fun c e=>(by cases e),fun c e=>(by cases e),fun c e=>(by cases e),fun c e=>(by cases e)⟩
theorem Up.RF {B D:Nat} {F F':Nat→Prop} {q:Int×Int} {a b:World}(u:Up B F F' a b)(h:QB D q a)(hn:¬F D):QB D q b∧¬F' D:=u.keep h hn(ZE q)
theorem QB.later {D:Nat} {q:Int×Int} {a b:World}(h:QB D q a)(hb:Below a.heap.size a b):QB D q b:=(hb.block _(aD h)).trans h
@[reducible] def HQ (N B T C Q : Nat) (me seq bZ now : Int) (p : ah) (W : World) : Prop :=
 HC N B T C me seq bZ now p W∧W.cell?⟨Q,0,none⟩=some(.int .u32 p.aI)∧W.cell?⟨Q,1,none⟩=some(.int .u32 p.id)
theorem HQ.at {N B C Q T:Nat} {g:bA} {s:St} {TL:List Hp.Tm} {p:ah} {W:World} {me seq bZ now:Int}(n:Nd N B g s TL W)(h:PB p C W)(hQ:QB Q(p.aI,p.id)W)(t:g.x.T=T)(h1:s.me=me)(h2:s.seq=seq)(h3:s.bZ=bZ)(h4:s.now=now):HQ N B T C Q me seq bZ now p W:=⟨HC.at n h t h1 h2 h3 h4,hQ.cell⟩
theorem HQ.jw {N B C Q T:Nat} {g:bA} {s:St} {TL:List Hp.Tm} {p:ah} {W:World} {me seq bZ now:Int}(n:Nd N B g s TL W)(h:PB p C W)(hQ:QB Q(p.aI,p.id)W)(t:g.x.T=T)(h1:s.me=me)(h2:s.seq=seq)(h3:s.bZ=bZ)(h4:s.now=now):HQ N B T C Q me seq bZ now p W.drew:=HQ.at n.drew h hQ t h1 h2 h3 h4
theorem wQ {E:List Mm} {q:Int×Int} {now t:Int}(h:∀e∈E,e.dF≤now+1280) {e:Mm}(he:e∈dR E q(now+1280)t):e.dF≤now+1280:=by
 have hp:∀e∈dU E q(now+1280)t,e.dF≤now+1280:=by
  intro e he;unfold dU at he;rcases List.mem_append.1 he with he|he
  ·exact h e(List.mem_filter.1 he).1
  ·rw [List.mem_singleton]at he;subst he;exact Int.le_refl _
 unfold dR at he;split at he
 ·exact hp e(List.fK he)
 ·exact hp e he
structure St.Px(s:St):Prop where
 me:bg s.me
 seq:bg s.seq
 now:0≤s.now∧s.now≤4611686018427387904
 mem:∀e∈s.mem,e.dF≤s.now+1280
 aH:s.aH.length≤900000
 aN:s.aN.length≤900000
 aR:s.aR.length≤900000
theorem Bj {N B:Nat} {g:bA} {s:St} {TL:List Hp.Tm} {w:World}(n:Nd N B g s TL w)(hF:s.Px)(htn:s.tn≤4000000000000000000)(fr:Int)(Om:bg fr)(p:ah)(hq:p.Hd)(hL:eY w p []):
  Calls Tryz.prog 130 #[.pointer(some⟨N,0,none⟩),.pointer(some⟨B,0,none⟩),.int .u32 fr,p.val]w fun e w'=>e=.returned(.tuple #[])∧lg N B g s(s.dE fr p)TL w w':=by
 have hp:=hq.wf;have hfl:s.aH.length≤1000000:=by have:=hF.aH;omega
 have hdl:s.aN.length≤1000000:=by have:=hF.aN;omega
 obtain⟨hid,hde,hds,hfr,hfs,_⟩:=hp.num;have hb0:Below w.heap.size w((w.alloc p.box).alloc(fA(p.aI,p.id))):=((Below.refl _ _).alloc(Nat.le_refl _)_).alloc(by simp)_;have gp:PB p w.heap.size((w.alloc p.box).alloc(fA(p.aI,p.id))):=(((Below.refl _(w.alloc p.box)).alloc(Nat.le_refl _)_).block _(by simp)).trans(PB.new p w);have Gx:QB(w.heap.size+1)(p.aI,p.id)((w.alloc p.box).alloc(fA(p.aI,p.id))):=by
  have:=heap_alloc_new(w.alloc p.box)(fA(p.aI,p.id));rw [World.size_alloc]at this;exact this
 have n0:=n.later hb0;obtain⟨s2,dA⟩:∃s2,s.dE fr p=s2:=⟨_,rfl⟩;rw [dA];replace dA:=hide dA;dsimp only [ah.box,fA]at hb0 n0;unfold PB at gp;unfold QB at Gx;dsimp only [ah.box,fA]at gp Gx;go_enter Tryz.func130,Tryz.ntmps130
 go_upto_region 2 with(fail)
 generalize World.alloc(World.alloc _ _)_=W1 at hb0 gp Gx n0 ⊢;have jS:=n.new(k:=w.heap.size)(Nat.le_refl _);have hQn:=n.new(k:=w.heap.size+1)(Nat.le_succ _);generalize w.heap.size+1=Q at Gx hQn ⊢;generalize lm:w.heap.size=C at gp jS ⊢;replace lm:=hide lm;have hs2:=dA.out;unfold St.dE at hs2;have HH:=hide fun W5(h5:Below W1.heap.size W1 W5)=>Pi(n0.later h5)(p.aI,p.id)⟨hfr,hid⟩s.now hF.now.1;obtain⟨cb,hcb⟩:∃cb,(decide(p.aI=s.me)||oN s.mem(p.aI,p.id)s.now)=cb:=⟨_,rfl⟩;replace hcb:=hide hcb;go_cut [33]from 16 to 32(fun bv W=>bv=.bool cb∧Below W1.heap.size W1 W)
 case first=>
  obtain⟨⟨⟨m0,m1,m2,m3,m4⟩,p0,p1,p2,p3,p4,p5,p6,p7,p8,p9,je,iX⟩,q0,q1⟩:=HQ.at n0 gp Gx rfl rfl rfl rfl rfl;have hbd:Below W1.heap.size W1 W1.drew:=(Below.refl _ _).drew;by_cases hse:p.aI=s.me
  ·have hbe:(p.aI==s.me)=true:=by simpa using hse
   obtain rfl:true=cb:=by rw [←hcb.out,decide_eq_true hse];rfl
   clear hse HH p0 p1 p2 p3 p5 p6 p8 p9 je iX m1 m2 m3;go_region
   all_goals
    go_wp2_with fail
    go_meet
    exact⟨rfl,hbd⟩
  ·have hbe:(p.aI==s.me)=false:=by simpa using hse
   have hd:oN s.mem(p.aI,p.id)s.now=cb:=by rw [←hcb.out,decide_eq_false hse];rfl
   rw [hd]at HH;dsimp only [jr]at HH;clear hd hse p0 p1 p2 p3 p5 p6 p8 p9 je iX m1 m2 m3;go_region_law(first|(go_simp;go_at_call 160;refine(HH.out _ hbd).mono ?_;rintro e w2⟨rfl,hb2⟩))
   all_goals
    go_wp2_with fail
    go_meet
    exact⟨rfl,hbd.trans(hb2.mono hbd.size)⟩
 case rest=>
  obtain⟨rfl,hb2⟩:=hcut;have fq:=hF.now;have n2:=n0.later hb2;have hP2:PB p C wc:=PB.below gp hb2;have hQ2:QB Q(p.aI,p.id)wc:=QB.later Gx hb2;have ua0:Up B(Ft N g s)(Ft N g s)w wc:=.below(hb0.trans(hb2.mono hb0.size));have hLq:=hL.below(hb0.trans(hb2.mono hb0.size));clear HH gp Gx n0 hb0 hb2 dA lm;cases cb
  ·have Gv:=hcb.out;simp only [Bool.or_eq_false_iff,decide_eq_false_iff_not]at Gv;rw [if_neg(by rintro(h|h);exact Gv.1 h;rw [Gv.2]at h;cases h)]at hs2;clear hcb Gv;have HA:Hid(∀t,t=s.now+1280→Calls Tryz.prog 156 #[.pointer(some⟨N,8,none⟩),.agg #[.int .u32 p.aI,.int .u32 p.id],.int .u64 t]wc.drew fun e w'=>e=.returned(.tuple #[])∧lg N B g s {s with mem:=dR s.mem(p.aI,p.id)(s.now+1280)s.tn,tn:=s.tn+1}TL wc.drew w'):=by
    rintro _ rfl;exact Pj n2.drew(p.aI,p.id)⟨hfr,hid⟩(s.now+1280)(by omega)hF.mem(by omega)
   have hS:HQ N B g.x.T C Q s.me s.seq s.bZ s.now p wc.drew:=HQ.jw n2 hP2 hQ2 rfl rfl rfl rfl rfl;go_wp2_with fail
   go_region_held3(HQ N B g.x.T C Q s.me s.seq s.bZ s.now p)(first|with_reducible exact hS|with_reducible assumption)((go_at_call 156;refine(HA.out _(by first|rfl|exact lY fq(by decide))).mono ?_;rintro e w3⟨rfl,hN⟩;obtain⟨g3,n3,u3,t3⟩:=hN;obtain⟨hP3,OC⟩:=u3.jN hP2 jS;obtain⟨LW,aaO⟩:=u3.RF hQ2 hQn;have hk3:HQ N B g.x.T C Q s.me s.seq s.bZ s.now p w3:=HQ.at n3 hP3 LW t3.out rfl rfl rfl rfl))
   clear hS hk3;rename_i iB;clear iB;have PG:=(ua0.trans(.below(Below.refl _ _).drew)).trans u3;obtain⟨s1,hs1⟩:∃s1,({s with mem:=dR s.mem(p.aI,p.id)(s.now+1280)s.tn,tn:=s.tn+1}:St)=s1:=⟨_,rfl⟩;have hF1:s1.Px:=by
    rw [←hs1];refine⟨hF.me,hF.seq,hF.now,fun e he=> ?_,hF.aH,hF.aN,hF.aR⟩;exact wQ hF.mem he
   have ac8:eY w3 p []:=hLq.nil;rw [hs1]at n3 PG OC aaO hs2;clear hs1 HA ua0 hLq n2 hQ2 hP2;unfold St.learn at hs2;have LJ:=hF1.now;obtain⟨u,hu⟩:∃u,iD s1.me s1.A p.aI p.dm(St.far p.hops)fr(s1.now+3000)=u:=⟨_,rfl⟩;have HU:Hid(∀t,t=s1.now+3000→Calls Tryz.prog 161 #[.pointer(some⟨g3.x.T,0,none⟩),.int .u32 p.aI,.int .u32 p.dm,.int .i64(St.far p.hops),.int .u32 fr,.int .u64 t]w3.drew fun r w'=>r=.returned(.int .i64 u.2)∧lg N B g3 s1 {s1 with A:=u.1}TL w3.drew w'):=by
    rintro _ rfl;have:=Hg n3.drew p.aI p.dm(St.far p.hops)fr(s1.now+3000)hfr hfs(by have:=hq.hops;unfold oC St.far;omega)Om(by unfold Af;omega);rw [hu]at this;exact this
   rw [hu]at hs2;obtain⟨A2,E2⟩:=u;dsimp only at hs2 HU;clear hu;have hS:HQ N B g3.x.T C Q s1.me s1.seq s1.bZ s1.now p w3.drew:=HQ.jw n3 hP3 LW rfl rfl rfl rfl rfl;go_wp2_with fail
   go_region_held3(HQ N B g3.x.T C Q s1.me s1.seq s1.bZ s1.now p)(first|with_reducible exact hS|with_reducible assumption)(first
    |(go_at_call 162;refine(uU p.hops hq.hops _).mono ?_;rintro e w3f⟨rfl,rfl⟩)
    |(go_at_call 161;refine(HU.out _(by first|rfl|exact lY LJ(by decide))).mono ?_;rintro e w4⟨rfl,hN⟩;obtain⟨g4,n4,u4,t4⟩:=hN;obtain⟨lH,qK⟩:=u4.jN hP3 OC;obtain⟨AL,Xf⟩:=u4.RF LW aaO;have hk4:HQ N B g3.x.T C Q s1.me s1.seq s1.bZ s1.now p w4:=HQ.at n4 lH AL t4.out rfl rfl rfl rfl))
   clear hS;rename_i iB;clear iB;have pI:=(PG.trans(.below(Below.refl _ _).drew)).trans u4;have t43:Hid(g4.x.T=g.x.T):=t4.out.trans t3.out;obtain⟨s4,hs4⟩:∃s4,({s1 with A:=A2}:St)=s4:=⟨_,rfl⟩;have rW:s4.Px:=by
    rw [←hs4];exact⟨hF1.me,hF1.seq,hF1.now,hF1.mem,hF1.aH,hF1.aN,hF1.aR⟩
   have Xj:eY w4 p []:=ac8.nil;have acC:Hid(s4.now=s1.now):=by show _=_;rw [←hs4]
   have hA4:({s1 with A:=iy A2 p.aI(s1.now+3000)}:St)={s4 with A:=iy s4.A p.aI(s1.now+3000)}:=by rw [←hs4]
   rw [hs4,hA4]at hs2;rw [hs4]at n4 pI qK Xf;clear hs4 hA4 PG u4 hk4 n3 hP3 LW OC aaO HU ac8 u3 hF1;by_cases h4:E2=4
   ·subst h4;rw [if_pos rfl]at hs2;have HX:=hide(iU n4 2(by have:=rW.aN;omega));rw [hs2]at HX;go_wp2_with fail
    refine Calls.mono HX.out ?_;rintro e w9⟨rfl,hN⟩;obtain⟨g9,n9,u9,t9⟩:=hN;go_wp2
    go_returns
    exact⟨rfl,g9,n9,pI.trans u9,t9.out.trans t43⟩
   ·have b4:(E2==4)=false:=by simpa using h4
    rw [if_neg h4]at hs2;by_cases h3:E2=3
    ·subst h3;rw [if_pos rfl]at hs2;have HV:Hid(∀t,t=s1.now+3000→Calls Tryz.prog 81 #[.pointer(some⟨g4.x.T,0,none⟩),.int .u32 p.aI,.int .u64 t]w4.drew fun r w'=>r=.returned(.tuple #[])∧lg N B g4 s4 {s4 with A:=iy s4.A p.aI(s1.now+3000)}TL w4.drew w'):=by
      rintro _ rfl;exact Mv n4.drew p.aI(s1.now+3000)hfr(by unfold Af;omega)
     have hS:HQ N B g4.x.T C Q s4.me s4.seq s4.bZ s1.now p w4.drew:=HQ.jw n4 lH AL rfl rfl rfl rfl acC.out;go_wp2_with fail
     go_region_held3(HQ N B g4.x.T C Q s4.me s4.seq s4.bZ s1.now p)(first|with_reducible exact hS|with_reducible assumption)((go_at_call 81;refine(HV.out _(by first|rfl|exact lY LJ(by decide))).mono ?_;rintro e w6⟨rfl,hN⟩;obtain⟨g6,n6,u6,t6⟩:=hN;obtain⟨Ii,jY⟩:=u6.jN lH qK;obtain⟨hQ6,ae2⟩:=u6.RF AL Xf;have YK:HQ N B g4.x.T C Q s4.me s4.seq s4.bZ s1.now p w6:=HQ.at n6 Ii hQ6 t6.out rfl rfl rfl acC.out))
     clear hS YK;rename_i iB;clear iB;have mI:=(pI.trans(.below(Below.refl _ _).drew)).trans u6;have t63:Hid(g6.x.T=g.x.T):=t6.out.trans t43.out;obtain⟨s6,hs6⟩:∃s6,({s4 with A:=iy s4.A p.aI(s1.now+3000)}:St)=s6:=⟨_,rfl⟩;have U3:s6.Px:=by
      rw [←hs6];exact⟨rW.me,rW.seq,rW.now,rW.mem,rW.aH,rW.aN,rW.aR⟩
     have hLq:eY w6 p []:=Xj.nil;rw [hs6]at n6 mI jY hs2;clear hs6 pI u6 n4 lH AL qK Xf hQ6 ae2 HV Xj rW b4;obtain⟨⟨y,fd⟩,hy⟩:∃r,bF s6.A p.dest s6.now=r:=⟨_,rfl⟩;have HF:=hide(mY n6 p.dest s6.now hde hy);go_wp2_with fail
     go_cut [9,10]from 82 to 95(nH y fd w6)
     case first=>
      have hS:HB N B g6.x.T C s6.me s6.seq s6.bZ s6.now p w6 w6.drew:=HB.drew(HB.mk' n6 Ii(Below.refl _ _));have hkB:=hide fun W5 h5=>HB.mk'(W:=W5)n6 Ii h5;go_region_held3(HB N B g6.x.T C s6.me s6.seq s6.bZ s6.now p w6)(first|with_reducible exact hS|with_reducible assumption|(with_reducible apply HB.uL hkB;assumption)|(with_reducible apply HB.jO hkB;assumption)|(with_reducible apply HB.d_ hkB)|(with_reducible apply hkB.out;assumption))((go_at_call 79;refine(HF.out _(And.right(by assumption))).mono ?_;rintro e w2⟨ao,c,rfl,hb2,hpr⟩;try((with_reducible have hD:=hpr bW(.slice none 0 0)(kP w6));obtain⟨d0,d1,d2,d3,d4,d5,d6⟩:=hD.cell;have q0:=hD.free 0;have q1:=hD.free 1;have q2:=hD.free 2;have q3:=hD.free 3;have q4:=hD.free 4;have q5:=hD.free 5;have q6:=hD.free 6;have hD':Hid(dP w6.heap.size bW(.slice none 0 0)w2):=hD;clear hD);clear hpr))
      all_goals
       go_wp2_with fail
       go_meet
       first|with_reducible exact gQ hb2|with_reducible exact jB hb2 hD'
     case rest=>
      obtain⟨E,ao,c,rfl,rfl,hE,hEl,ll⟩:=hcut;have n8:=n6.later ll;have Js:PB p C wc:=PB.below Ii ll;have hL8:=hLq.below ll;have qF:fd=true→y.Ok:=fun h=>by
       have:=n_ n6.nn.cr.tb.ok p.dest s6.now;rw [hy]at this;rcases this with h1|h1
       ·exact h1
       ·rw [h]at h1;cases h1
      unfold St.asked at hs2;rw [hy]at hs2;dsimp only at hs2;have UN:=mI.trans(.below ll);have zC:s6.aH.length≤1000000:=by have:=U3.aH;omega
      have DU:s6.aN.length≤1000000:=by have:=U3.aN;omega
      have hS:HC N B g6.x.T C s6.me s6.seq s6.bZ s6.now p wc.drew:=HC.wu n8 Js;have PR:dP E y(.slice ao y.bB.length c)wc.drew:=hE;have n9:=n8.drew;have Ih:PB p C wc.drew:=Js;have hL9:eY wc.drew p []:=hL8.below(Below.refl _ _).drew;have vG:=UN.trans(.below(Below.refl _ _).drew);clear HF Ii n6 ll mI hE n8 Js hL8 UN;by_cases qI:p.dest=s6.me
      ·have hbe:(p.dest==s6.me)=true:=by simpa using qI
       rw [if_pos qI]at hs2;clear qI;go_wp2_with fail
       go_region_held3(HC N B g6.x.T C s6.me s6.seq s6.bZ s6.now p)(first|with_reducible exact hS|with_reducible assumption)(fail)
       rename_i iB;clear iB hS;generalize World.drew _=W9 at n9 Ih hL9 vG PR ⊢;have HX:=hide(vv n9 p hq U3.me U3.seq zC DU);rw [hs2]at HX;dsimp only [ah.val]at HX;obtain⟨p0,p1,p2,p3,p4,p5,p6,p7,p8,p9,je,iX⟩:=PB.cell Ih;clear Ih;go_wp2_with fail
       refine Calls.mono HX.out ?_;rintro e w9⟨rfl,hN⟩;obtain⟨g9,n9,u9,t9⟩:=hN;go_wp2
       go_returns
       exact⟨rfl,g9,n9,vG.trans u9,t9.out.trans t63.out⟩
      ·have hbe:(p.dest==s6.me)=false:=by simpa using qI
       rw [if_neg qI]at hs2;go_wp2_with fail
       go_region_held3(HC N B g6.x.T C s6.me s6.seq s6.bZ s6.now p)(first|with_reducible exact hS|with_reducible assumption)(fail)
       rename_i iB;clear iB hS;generalize World.drew _=W9 at n9 Ih hL9 vG PR ⊢;obtain⟨p0,p1,p2,p3,p4,p5,p6,p7,p8,p9,je,iX⟩:=PB.cell Ih;obtain⟨e0,e1,e2,e3,e4,e5,e6⟩:=PR.cell;clear Ih PR;by_cases hfo:(fd&&(p.iK||decide(y.seq≥p.aW)))=true
       ·rw [if_pos hfo]at hs2;have vU:fd=true:=by revert hfo;cases fd<;>simp
        subst vU;have hyk:=qF rfl;have HX:=hide(sD n9 p hq y hyk ao y.bB.length c(by have:=U3.now;unfold Af;omega)zC DU);rw [hs2]at HX;dsimp only [ah.val,Ia]at HX;cases hun:p.iK
        ·rw [hun,Bool.true_and,Bool.false_or]at hfo;have hge:decide(p.aW≤y.seq)=true:=hfo;rw [hun]at HX p3;go_wp2_with fail
         refine Calls.mono HX.out ?_;rintro e w9⟨rfl,hN⟩;obtain⟨g9,n9,u9,t9⟩:=hN;go_wp2
         go_returns
         exact⟨rfl,g9,n9,vG.trans u9,t9.out.trans t63.out⟩
        ·rw [hun]at HX p3;go_wp2_with fail
         refine Calls.mono HX.out ?_;rintro e w9⟨rfl,hN⟩;obtain⟨g9,n9,u9,t9⟩:=hN;go_wp2
         go_returns
         exact⟨rfl,g9,n9,vG.trans u9,t9.out.trans t63.out⟩
       ·rw [if_neg hfo]at hs2;have SE:fd=false∨(fd=true∧p.iK=false∧decide(p.aW≤y.seq)=false):=by
         revert hfo
         cases fd<;>cases p.iK<;>simp
        by_cases htl:p.aS=1
        ·have hbt:(p.aS==1)=true:=by simpa using htl
         rw [if_pos htl]at hs2;clear htl;have HX:=hide(iU n9 4 DU);rw [hs2]at HX;rcases SE with rfl|⟨rfl,hun,hge⟩
         ·
          go_wp2_with fail
          refine Calls.mono HX.out ?_;rintro e w9⟨rfl,hN⟩;obtain⟨g9,n9,u9,t9⟩:=hN;go_wp2
          go_returns
          exact⟨rfl,g9,n9,vG.trans u9,t9.out.trans t63.out⟩
         ·rw [hun]at p3;go_wp2_with fail
          refine Calls.mono HX.out ?_;rintro e w9⟨rfl,hN⟩;obtain⟨g9,n9,u9,t9⟩:=hN;go_wp2
          go_returns
          exact⟨rfl,g9,n9,vG.trans u9,t9.out.trans t63.out⟩
        ·have hbt:(p.aS==1)=false:=by simpa using htl
         rw [if_neg htl]at hs2;have HX:=hide(Mx n9 p hq hL9 zC);rw [hs2]at HX;dsimp only [ah.val]at HX;rcases SE with rfl|⟨rfl,hun,hge⟩
         ·
          go_wp2_with fail
          refine Calls.mono HX.out ?_;rintro e w9⟨rfl,hN⟩;obtain⟨g9,n9,u9,t9⟩:=hN;go_wp2
          go_returns
          exact⟨rfl,g9,n9,vG.trans u9,t9.out.trans t63.out⟩
         ·rw [hun]at HX p3;go_wp2_with fail
          refine Calls.mono HX.out ?_;rintro e w9⟨rfl,hN⟩;obtain⟨g9,n9,u9,t9⟩:=hN;go_wp2
          go_returns
          exact⟨rfl,g9,n9,vG.trans u9,t9.out.trans t63.out⟩
    ·have b3:(E2==3)=false:=by simpa using h3
     rw [if_neg h3]at hs2;have hLq:=Xj;clear AL Xf Xj;obtain⟨⟨y,fd⟩,hy⟩:∃r,bF s4.A p.dest s4.now=r:=⟨_,rfl⟩;have HF:=hide(mY n4 p.dest s4.now hde hy);go_wp2_with fail
     go_cut [9,10]from 82 to 95(nH y fd w4)
     case first=>
      have hS:HB N B g4.x.T C s4.me s4.seq s4.bZ s4.now p w4 w4.drew:=HB.drew(HB.mk' n4 lH(Below.refl _ _));have hkB:=hide fun W5 h5=>HB.mk'(W:=W5)n4 lH h5;go_region_held3(HB N B g4.x.T C s4.me s4.seq s4.bZ s4.now p w4)(first|with_reducible exact hS|with_reducible assumption|(with_reducible apply HB.uL hkB;assumption)|(with_reducible apply HB.jO hkB;assumption)|(with_reducible apply HB.d_ hkB)|(with_reducible apply hkB.out;assumption))((go_at_call 79;refine(HF.out _(And.right(by assumption))).mono ?_;rintro e w2⟨ao,c,rfl,hb2,hpr⟩;try((with_reducible have hD:=hpr bW(.slice none 0 0)(kP w4));obtain⟨d0,d1,d2,d3,d4,d5,d6⟩:=hD.cell;have q0:=hD.free 0;have q1:=hD.free 1;have q2:=hD.free 2;have q3:=hD.free 3;have q4:=hD.free 4;have q5:=hD.free 5;have q6:=hD.free 6;have hD':Hid(dP w4.heap.size bW(.slice none 0 0)w2):=hD;clear hD);clear hpr))
      all_goals
       go_wp2_with fail
       go_meet
       first|with_reducible exact gQ hb2|with_reducible exact jB hb2 hD'
     case rest=>
      obtain⟨E,ao,c,rfl,rfl,hE,hEl,ll⟩:=hcut;have n8:=n4.later ll;have Js:PB p C wc:=PB.below lH ll;have hL8:=hLq.below ll;have qF:fd=true→y.Ok:=fun h=>by
       have:=n_ n4.nn.cr.tb.ok p.dest s4.now;rw [hy]at this;rcases this with h1|h1
       ·exact h1
       ·rw [h]at h1;cases h1
      unfold St.asked at hs2;rw [hy]at hs2;dsimp only at hs2;have UN:=pI.trans(.below ll);have zC:s4.aH.length≤1000000:=by have:=rW.aH;omega
      have DU:s4.aN.length≤1000000:=by have:=rW.aN;omega
      have hS:HC N B g4.x.T C s4.me s4.seq s4.bZ s4.now p wc.drew:=HC.wu n8 Js;have PR:dP E y(.slice ao y.bB.length c)wc.drew:=hE;have n9:=n8.drew;have Ih:PB p C wc.drew:=Js;have hL9:eY wc.drew p []:=hL8.below(Below.refl _ _).drew;have vG:=UN.trans(.below(Below.refl _ _).drew);clear HF lH n4 ll pI hE n8 Js hL8 UN;by_cases qI:p.dest=s4.me
      ·have hbe:(p.dest==s4.me)=true:=by simpa using qI
       rw [if_pos qI]at hs2;clear qI;go_wp2_with fail
       go_region_held3(HC N B g4.x.T C s4.me s4.seq s4.bZ s4.now p)(first|with_reducible exact hS|with_reducible assumption)(fail)
       rename_i iB;clear iB hS;generalize World.drew _=W9 at n9 Ih hL9 vG PR ⊢;have HX:=hide(vv n9 p hq rW.me rW.seq zC DU);rw [hs2]at HX;dsimp only [ah.val]at HX;obtain⟨p0,p1,p2,p3,p4,p5,p6,p7,p8,p9,je,iX⟩:=PB.cell Ih;clear Ih;go_wp2_with fail
       refine Calls.mono HX.out ?_;rintro e w9⟨rfl,hN⟩;obtain⟨g9,n9,u9,t9⟩:=hN;go_wp2
       go_returns
       exact⟨rfl,g9,n9,vG.trans u9,t9.out.trans t43.out⟩
      ·have hbe:(p.dest==s4.me)=false:=by simpa using qI
       rw [if_neg qI]at hs2;go_wp2_with fail
       go_region_held3(HC N B g4.x.T C s4.me s4.seq s4.bZ s4.now p)(first|with_reducible exact hS|with_reducible assumption)(fail)
       rename_i iB;clear iB hS;generalize World.drew _=W9 at n9 Ih hL9 vG PR ⊢;obtain⟨p0,p1,p2,p3,p4,p5,p6,p7,p8,p9,je,iX⟩:=PB.cell Ih;obtain⟨e0,e1,e2,e3,e4,e5,e6⟩:=PR.cell;clear Ih PR;by_cases hfo:(fd&&(p.iK||decide(y.seq≥p.aW)))=true
       ·rw [if_pos hfo]at hs2;have vU:fd=true:=by revert hfo;cases fd<;>simp
        subst vU;have hyk:=qF rfl;have HX:=hide(sD n9 p hq y hyk ao y.bB.length c(by have:=rW.now;unfold Af;omega)zC DU);rw [hs2]at HX;dsimp only [ah.val,Ia]at HX;cases hun:p.iK
        ·rw [hun,Bool.true_and,Bool.false_or]at hfo;have hge:decide(p.aW≤y.seq)=true:=hfo;rw [hun]at HX p3;go_wp2_with fail
         refine Calls.mono HX.out ?_;rintro e w9⟨rfl,hN⟩;obtain⟨g9,n9,u9,t9⟩:=hN;go_wp2
         go_returns
         exact⟨rfl,g9,n9,vG.trans u9,t9.out.trans t43.out⟩
        ·rw [hun]at HX p3;go_wp2_with fail
         refine Calls.mono HX.out ?_;rintro e w9⟨rfl,hN⟩;obtain⟨g9,n9,u9,t9⟩:=hN;go_wp2
         go_returns
         exact⟨rfl,g9,n9,vG.trans u9,t9.out.trans t43.out⟩
       ·rw [if_neg hfo]at hs2;have SE:fd=false∨(fd=true∧p.iK=false∧decide(p.aW≤y.seq)=false):=by
         revert hfo
         cases fd<;>cases p.iK<;>simp
        by_cases htl:p.aS=1
        ·have hbt:(p.aS==1)=true:=by simpa using htl
         rw [if_pos htl]at hs2;clear htl;have HX:=hide(iU n9 4 DU);rw [hs2]at HX;rcases SE with rfl|⟨rfl,hun,hge⟩
         ·
          go_wp2_with fail
          refine Calls.mono HX.out ?_;rintro e w9⟨rfl,hN⟩;obtain⟨g9,n9,u9,t9⟩:=hN;go_wp2
          go_returns
          exact⟨rfl,g9,n9,vG.trans u9,t9.out.trans t43.out⟩
         ·rw [hun]at p3;go_wp2_with fail
          refine Calls.mono HX.out ?_;rintro e w9⟨rfl,hN⟩;obtain⟨g9,n9,u9,t9⟩:=hN;go_wp2
          go_returns
          exact⟨rfl,g9,n9,vG.trans u9,t9.out.trans t43.out⟩
        ·have hbt:(p.aS==1)=false:=by simpa using htl
         rw [if_neg htl]at hs2;have HX:=hide(Mx n9 p hq hL9 zC);rw [hs2]at HX;dsimp only [ah.val]at HX;rcases SE with rfl|⟨rfl,hun,hge⟩
         ·
          go_wp2_with fail
          refine Calls.mono HX.out ?_;rintro e w9⟨rfl,hN⟩;obtain⟨g9,n9,u9,t9⟩:=hN;go_wp2
          go_returns
          exact⟨rfl,g9,n9,vG.trans u9,t9.out.trans t43.out⟩
         ·rw [hun]at HX p3;go_wp2_with fail
          refine Calls.mono HX.out ?_;rintro e w9⟨rfl,hN⟩;obtain⟨g9,n9,u9,t9⟩:=hN;go_wp2
          go_returns
          exact⟨rfl,g9,n9,vG.trans u9,t9.out.trans t43.out⟩
  ·have Gv:=hcb.out;simp only [Bool.or_eq_true,decide_eq_true_eq]at Gv;rw [if_pos Gv]at hs2;subst hs2;have HD:=hide(iU n2 1 hdl);clear hcb Gv hP2 hQ2;go_wp2_with fail
   refine Calls.mono HD.out ?_;rintro e w3⟨rfl,hN⟩;go_wp2
   go_returns
   obtain⟨g9,n9,u9,t9⟩:=hN;exact⟨rfl,g9,n9,ua0.trans u9,t9⟩
end Go.Proofs.YtakaadcpaeiccabGreat
