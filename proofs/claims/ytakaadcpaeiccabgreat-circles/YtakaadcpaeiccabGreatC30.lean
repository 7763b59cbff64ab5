import Derived.Test.YtakaadcpaeiccabGreatC29
set_option maxHeartbeats 8000000
set_option maxRecDepth 100000
namespace Go.Proofs.YtakaadcpaeiccabGreat
open Go.RowKit Go.Maps
def wK(A:List Rt)(d:Int):Bool:=(aJ A d).any fun y=>decide(0<y.bB.length)
theorem MK {me:Int} {T M:Nat} {f:Int→Option Nat} {g:Int→Value} {A:List Rt} {w:World}(h:MT me T M f g A w)(d:Int)(hd:bg d):
  Calls Tryz.prog 167 #[.pointer(some⟨T,0,none⟩),.int .u32 d]w fun e w'=>e=.returned(.bool(wK A d))∧w'=w:=by
 obtain⟨t0,t1⟩:=h.blk.cell;have hlk:=h.map.look hd;cases hl:aJ A d with
 |none=>
  rw [h.off hd hl]at hlk;simp only [fJ]at hlk;have hn:wK A d=false:=by simp [wK,hl]
  rw [hn];clear h hn hl;go_enter Tryz.func167,Tryz.ntmps167
  go_wp2
  go_ret
  exact⟨rfl,rfl⟩
 |some x=>
  obtain⟨_,_,B,hB,hL,hR⟩:=h.line hl;rw [hB]at hlk;simp only [fJ]at hlk;obtain⟨ag,cg,hg,_⟩:=ak hR;obtain⟨b0,b1,b2,b3,b4,b5,b6⟩:=hL.cell;rw [hg]at b6;have hn:wK A d=decide(0<x.bB.length):=by simp [wK,hl]
  rw [hn];clear h hn hl hL hB hR;by_cases h0:0<x.bB.length
  ·have h1:(0:Int)<(x.bB.length:Int):=by omega
   go_enter Tryz.func167,Tryz.ntmps167
   go_wp2
   go_ret
   exact⟨by simp [h0],rfl⟩
  ·have h1:¬(0:Int)<(x.bB.length:Int):=by omega
   go_enter Tryz.func167,Tryz.ntmps167
   go_wp2
   go_ret
   exact⟨by simp,rfl⟩
def LY(A:List Rt)(d:Int):List Rt:=gI A d St.pQ
theorem MN {me:Int} {T M:Nat} {f:Int→Option Nat} {g:Int→Value} {A:List Rt} {w:World}(h:MT me T M f g A w)(d:Int)(hd:bg d):
  Calls Tryz.prog 169 #[.pointer(some⟨T,0,none⟩),.int .u32 d]w fun e w'=>∃g',e=.returned(.tuple #[])∧MT me T M f g'(LY A d)w'∧(∀k,mg T M f g'(LY A d)k→mg T M f g A k)∧Fx(mg T M f g A)w w':=by
 obtain⟨t0,t1⟩:=h.blk.cell;have hlk:=h.map.look hd;cases hl:aJ A d with
 |none=>
  rw [h.off hd hl]at hlk;simp only [fJ]at hlk;have hn:LY A d=A:=nV hl St.pQ;rw [hn];go_enter Tryz.func169,Tryz.ntmps169
  go_wp2
  go_returns
  exact⟨g,rfl,h,fun _ h=>h,Fx.refl _ _⟩
 |some x=>
  obtain⟨Jj,hxd,B,hB,hL,hR⟩:=h.line hl;rw [hB]at hlk;simp only [fJ]at hlk;obtain⟨b0,b1,b2,b3,b4,b5,b6⟩:=hL.cell;have fz:=hL.free 1;have Gi:=h.ok x Jj;have hg1:w.grownBy(w.setCell⟨B,1,none⟩(.int .u32(gr x.seq)))(some B):=aa(aC _(some B))1 _;have hL1:=hL.set1(gr x.seq);have Xr:∀c,b_ x(g d)≠ .cells c 34(0,0):=fun c e=>(by cases e);have hR1:=hR.kept hg1(.inr(aA hR hL Xr));obtain⟨k1,k2⟩:=h.turn hl hB St.pQ(fun _=>rfl)⟨Gi.dest,tK Gi.seq,Gi.hops,Gi.next,Gi.exp,Gi.O_,Gi.bB,Gi.wC⟩(g d)hL1 hR1(.inr(.inl rfl))(fun k hk hkB _=>hg1.block k(h.lt hk)(fun e=>hkB(by cases e;rfl)));have hfx:Fx(mg T M f g A)w(w.setCell⟨B,1,none⟩(.int .u32(gr x.seq))):=Fx.grown hg1 fun k e=>by
   cases e;exact .inr(.inr⟨x,Jj,.inl(by rw [hxd];exact hB)⟩)
  have hin:∀k,mg T M f(fun e=>if e=d then g d else g e)(LY A d)k→mg T M f g A k:=fun k hk=>by
   rcases k2 k hk with h1|h1
   ·exact h1
   ·exact .inr(.inr⟨x,Jj,.inr(by rw [hxd];exact h1)⟩)
  clear h hL hR hg1 hL1 hR1 k2 hB;go_enter Tryz.func169,Tryz.ntmps169
  go_wp2_with(go_at_call 42;refine(nZ _ _).mono ?_;rintro e w5⟨rfl,rfl⟩)
  go_returns
  exact⟨_,rfl,k1,hin,hfx⟩
theorem abr {N B:Nat} {g:bA} {s:St} {TL:List Hp.Tm} {w:World}(n:Nd N B g s TL w)(d:Int)(hd:bg d):
  Calls Tryz.prog 167 #[.pointer(some⟨g.x.T,0,none⟩),.int .u32 d]w fun e w'=>e=.returned(.bool(wK s.A d))∧w'=w:=MK n.nn.cr.tb d hd
theorem abz {N B:Nat} {g:bA} {s:St} {TL:List Hp.Tm} {w:World}(n:Nd N B g s TL w)(d:Int)(hd:bg d):
  Calls Tryz.prog 169 #[.pointer(some⟨g.x.T,0,none⟩),.int .u32 d]w fun e w'=>e=.returned(.tuple #[])∧lg N B g s {s with A:=gI s.A d St.pQ}TL w w':=by
 have h:=n.nn.cr.tb;rw [n.nn.eq.self]at h;refine(MN h d hd).mono ?_;rintro e w'⟨g',rfl,h1,h2,h3⟩;exact⟨rfl,n.vH⟨_,_,_,h1,fun k hk=> .inl(h2 k hk)⟩h3⟩
theorem WN:(Tryz.prog.info? 56).map(fun i=>(i.zero,i.size,i.bytes))=some(some(.agg #[.int .u32 0,.string⟨#[]⟩]),2,24):=by kernel_rfl
theorem TQ(W:World)(t:Int)(s:ByteArray):∀(j:Nat)(u:Value),(tT [(t,s)])[j]?=some u→(W.alloc(.cells #[.int .u32 t,.string s]56)).cell?((⟨W.heap.size,0,none⟩:Addr).add j)=some u:=by
 intro j u hj;have h:=heap_alloc_new W(.cells #[.int .u32 t,.string s]56);rw [Addr.add_lit,Nat.zero_add]
 match j,hj with
 |0,hj=>exact(cell_of_row _ _ 0 _ _ _ h).trans hj
 |1,hj=>exact(cell_of_row _ _ 1 _ _ _ h).trans hj
 |j+2,hj=>simp [tT]at hj
theorem jc.comes {B base:Nat} {a:nK} {a_:List(Bool×Int×Int)} {aH aR abd:List(Int×ByteArray)} {aN:List Int} {W W7:World}(h:jc B base a a_ aH aR aN W) {v7:Value}(ho:W7.ownsRow base 56 2 v7 abd.length(tT abd))(hg:W.grownBy W7 a.bH.ownBlock):
  ou B a W7∧jc B base {a with bH:=v7}a_ aH abd aN(W7.setCell⟨B,5,none⟩v7)∧Fx(iW B a)W(W7.setCell⟨B,5,none⟩v7):=by
 have hBr:a.bH.ownBlock≠some B:=aA h.bH h.blk(fun c e=>(by cases e));have fG:ou B a W7:=h.blk.block(hg.block _ h.blk.lt(fun e=>hBr e.symm));have hg2:W7.grownBy(W7.setCell⟨B,5,none⟩v7)(some B):=aa(aC _(some B))5 v7;have f1:=h.bI.kept hg(bX h.bI h.bH(by decide));have f2:=h.aI.kept hg(bX h.aI h.bH(by decide));have f3:=h.mZ.kept hg(bX h.mZ h.bH(by decide));exact⟨fG,⟨fG.Zx v7,f3.kept hg2(.inr(aA f3 fG(fun c e=>(by cases e)))),f2.kept hg2(.inr(aA f2 fG(fun c e=>(by cases e)))),ho.kept hg2(.inr(aA ho fG(fun c e=>(by cases e)))),f1.kept hg2(.inr(aA f1 fG(fun c e=>(by cases e))))⟩,
  aT(Fx.grown hg fun k e=> .inr(.inr(.inr(.inl e))))hg2 fun i _ e=>by cases e;exact .inl rfl⟩
theorem J5 {N B:Nat} {g:bA} {s:St} {TL:List Hp.Tm} {w:World}(n:Nd N B g s TL w)(fr:Int)(adD:bg fr)(p:ah)(hq:p.Hd)(hL:eY w p [])(fq:0≤s.now∧s.now≤4611686018427387904)(hfl:s.aH.length≤1000000)(hdl:s.aN.length≤1000000)(hcl:s.aR.length≤1000000):
  Calls Tryz.prog 133 #[.pointer(some⟨N,0,none⟩),.pointer(some⟨B,0,none⟩),.int .u32 fr,p.val]w fun e w'=>e=.returned(.tuple #[])∧lg N B g s(s.fu fr p)TL w w':=by
 have hp:=hq.wf;obtain⟨hid,hde,hds,hfr,hfs,_⟩:=hp.num;have hb0:Below w.heap.size w(w.alloc p.box):=(Below.refl _ _).alloc(Nat.le_refl _)_;have gp:=PB.new p w;have n0:=n.later hb0;obtain⟨s2,dA⟩:∃s2,s.fu fr p=s2:=⟨_,rfl⟩;rw [dA];have hs2:=dA;unfold St.fu at hs2;replace hs2:=hide hs2;dsimp only [ah.box]at hb0 n0;unfold PB at gp;dsimp only [ah.box]at gp;go_enter Tryz.func133,Tryz.ntmps133
 go_upto_region 1 with(fail)
 generalize World.alloc _ _=W1 at hb0 gp n0 ⊢;have jS:=n.new(k:=w.heap.size)(Nat.le_refl _);obtain⟨⟨y,fd⟩,hy⟩:∃r,bF s.A p.dest s.now=r:=⟨_,rfl⟩;have HF:=hide(mY n0 p.dest s.now hde hy);generalize lm:w.heap.size=C at gp jS ⊢;replace lm:=hide lm;go_cut [8,9]from 10 to 23(nH y fd W1)
 case first=>
  have hS:HB N B g.x.T C s.me s.seq s.bZ s.now p W1 W1.drew:=HB.drew(HB.mk' n0 gp(Below.refl _ _));have hkB:=hide fun W5 h5=>HB.mk'(W:=W5)n0 gp h5;go_region_held3(HB N B g.x.T C s.me s.seq s.bZ s.now p W1)(first|with_reducible exact hS|with_reducible assumption|(with_reducible apply HB.uL hkB;assumption)|(with_reducible apply HB.jO hkB;assumption)|(with_reducible apply HB.d_ hkB)|(with_reducible apply hkB.out;assumption))((go_at_call 79;refine(HF.out _(And.right(by assumption))).mono ?_;rintro e w2⟨ao,c,rfl,hb2,hpr⟩;try((with_reducible have hD:=hpr bW(.slice none 0 0)(kP W1));obtain⟨d0,d1,d2,d3,d4,d5,d6⟩:=hD.cell;have q0:=hD.free 0;have q1:=hD.free 1;have q2:=hD.free 2;have q3:=hD.free 3;have q4:=hD.free 4;have q5:=hD.free 5;have q6:=hD.free 6;have hD':Hid(dP W1.heap.size bW(.slice none 0 0)w2):=hD;clear hD);clear hpr))
  all_goals
   go_wp2_with fail
   go_meet
   first|with_reducible exact gQ hb2|with_reducible exact jB hb2 hD'
 case rest=>
  obtain⟨E,ao,c,rfl,rfl,hE,hEl,hb2⟩:=hcut;have Xo:¬Ft N g s E:=n0.new hEl;have qF:fd=true→bg y.next:=fun h=>by
   have:=n_ n.nn.cr.tb.ok p.dest s.now;rw [hy]at this;rcases this with h1|h1
   ·exact h1.next
   ·rw [h]at h1;cases h1
  have hCE:C≠E:=by have:=PB.lt gp;omega
  have hP2:PB p C wc.drew:=PB.below gp hb2.drew;have hE2:dP E y(.slice ao y.bB.length c)wc.drew:=hE;have hbb:Below w.heap.size w wc.drew:=(hb0.trans(hb2.mono hb0.size)).drew;have n2:=n.later hbb;have hS:HC N B g.x.T C s.me s.seq s.bZ s.now p wc.drew:=HC.of n2 hP2;have hs3:=hs2.out;rw [hy]at hs3;dsimp only at hs3;clear HF gp n0 hb0 hb2 dA hs2 hE;by_cases qI:p.dest=s.me
  ·have hbe:(p.dest==s.me)=true:=by simpa using qI
   rw [if_pos qI]at hs3;clear qI;go_wp2_with fail
   go_region_held3(HC N B g.x.T C s.me s.seq s.bZ s.now p)(first|with_reducible exact hS|with_reducible assumption)(fail)
   rename_i iB;clear iB hS;generalize World.drew _=W2 at hP2 hE2 hbb n2 ⊢;obtain⟨i0,hi,hz0,hz1,hz2⟩:=info_parts WN;have ha2:=n2.ac;have hbs:=n2.base;obtain⟨_,_,_,_,_,_,_,p7,_,_,_,iX⟩:=PB.cell hP2;have c5:=ha2.blk.cell.2.2.2.2.2.1;have haT:=fun o=>(ha2.alloc o).blk.cell.2.2.2.2.2.1;have hpT:=fun o=>(PB.cell(PB.alloc hP2 o)).2.2.2.2.2.2.2.1;have hqT:=fun o=>(PB.cell(PB.alloc hP2 o)).2.2.2.2.2.2.2.2.2.2.2;have hrow:=fun o=>(ha2.alloc o).drew.bH;have hcf:=fun W=>TQ W p.aI p.pay;have jk:Hid(∀o:Obj,B+1≤(W2.alloc o).drew.heap.size):=by
    intro o;show B+1≤(W2.alloc o).heap.size;rw [World.size_alloc];omega
   have HX:Hid(∀v7 w7,w7.ownsRow(B+1)56 2 v7(s.aR.length+1)(tT s.aR++tT [(p.aI,p.pay)])→(W2.alloc(.cells #[.int .u32 p.aI,.string p.pay]56)).drew.grownBy w7 g.a.bH.ownBlock→(w7.cell?⟨B,5,none⟩=some g.a.bH∧w7.frozen?⟨B,5,none⟩=false)∧lg N B g s s2 TL w(w7.setCell⟨B,5,none⟩v7)):=by
    intro v7 w7 gP eu;rw [←Au,show s.aR.length+1=(s.aR++ [(p.aI,p.pay)]).length by simp]at gP;have hb3:Below W2.heap.size W2(W2.alloc(.cells #[.int .u32 p.aI,.string p.pay]56)).drew:=((Below.refl _ _).alloc(Nat.le_refl _)_).drew;have n3:=n2.later hb3;obtain⟨fG,hm,hf⟩:=n3.ac.comes gP eu;obtain⟨q1,q2⟩:=n3.act(s':=s2)(by rw [←hs3];exact hm)hf(by rw [←hs3];exact⟨rfl,rfl,rfl,rfl,rfl,rfl,rfl,rfl,rfl,rfl,rfl,rfl,rfl,rfl,rfl⟩)(by rw [←hs3];exact n3.now)(by rw [←hs3];exact n3.aZ);exact⟨⟨fG.cell.2.2.2.2.2.1,fG.free 5⟩,lg.pre(hbb.trans(hb3.mono hbb.size))⟨_,q1,q2,rfl⟩⟩
   clear hs3 n2 ha2 hP2 hE2 hbb;go_wp2_with fail
   go_region_law(refine gz rfl(.tmp 52)(.tmp 58)49 rfl(B+1)56 i0(.agg #[.int .u32 0,.string⟨#[]⟩])2 24 Tryz.underlying49 hi hz0 hz1 hz2 rfl(by decide)g.a.bH s.aR.length(tT s.aR)(by simp [Act.eval])(hrow _)⟨_,0,none⟩1 1(tT [(p.aI,p.pay)])(by simp [Act.eval])rfl(hcf _)(Q7 _)(by unfold maxLen;omega)(by omega)(jk.out _) ?_;intro v7 w7 gP eu _;obtain⟨⟨g1,g2⟩,hm⟩:=HX.out _ _ gP eu;obtain⟨PS,TW,rfl,_⟩:=ak gP)
   all_goals
    generalize World.setCell _ _ _=w8 at hm ⊢;clear g1 g2 eu gP;go_wp2
    go_returns
    exact⟨rfl,hm⟩
  ·have hbe:(p.dest==s.me)=false:=by simpa using qI
   rw [if_neg qI]at hs3;go_wp2_with fail
   go_region_held3(HC N B g.x.T C s.me s.seq s.bZ s.now p)(first|with_reducible exact hS|with_reducible assumption)(fail)
   rename_i iB;clear iB hS;generalize World.drew _=W2 at hP2 hE2 hbb n2 ⊢;have H9:Up B(Ft N g s)(Ft N g s)w W2:=.below hbb;by_cases htl:p.aS=1
   ·have hbt:(p.aS==1)=true:=by simpa using htl
    rw [if_pos htl]at hs3;clear htl;have HX:=hide(iU n2 4 hdl);rw [hs3]at HX;obtain⟨p0,p1,p2,p3,p4,p5,p6,p7,p8,p9,je,iX⟩:=PB.cell hP2;clear hP2 hE2;go_wp2_with fail
    refine Calls.mono HX.out ?_;rintro e w9⟨rfl,hN⟩;obtain⟨g9,n9,u9,t9⟩:=hN;go_wp2
    go_returns
    exact⟨rfl,g9,n9,H9.trans u9,t9.out.trans rfl⟩
   ·have hbt:(p.aS==1)=false:=by simpa using htl
    rw [if_neg htl]at hs3;cases fd
    ·rw [if_neg(by simp)]at hs3;obtain⟨s4,hs4⟩:∃z,s.drop 3=z:=⟨_,rfl⟩;have HD:=hide(iU n2 3 hdl);rw [hs4]at HD;have h4:Hid(s4.now=s.now∧s4.me=s.me∧s4.seq=s.seq∧s4.bZ=s.bZ∧s4.aH=s.aH∧({s4 with A:=gI s4.A p.dest St.pQ}:St).kN fr p.dest=s2):=by
      show _∧_;rw [←hs4];exact⟨rfl,rfl,rfl,rfl,rfl,hs3⟩
     clear hs3 hs4;obtain⟨p0,p1,p2,p3,p4,p5,p6,p7,p8,p9,je,iX⟩:=PB.cell hP2;go_wp2_with fail
     refine Calls.mono HD.out ?_;rintro e w4⟨rfl,hN⟩;obtain⟨g4,n4,u4,t4⟩:=hN;obtain⟨lH,qK⟩:=u4.jN hP2 jS;obtain⟨Jv,aff⟩:=u4.keepR hE2 Xo;have pI:=H9.trans u4;clear p0 p1 p2 p3 p4 p5 p6 p7 p8 p9 je iX HD hP2 hE2 n2 u4 H9;have HB:=hide(abz n4.drew p.dest hde);have hS:HR N B g4.x.T C E s4.me s4.seq s4.bZ s4.now p y(.slice ao y.bB.length c)w4.drew:=HR.jw n4 lH Jv rfl rfl rfl rfl rfl;go_wp2_with fail
     go_region_held3(HR N B g4.x.T C E s4.me s4.seq s4.bZ s4.now p y(.slice ao y.bB.length c))(first|with_reducible exact hS|with_reducible assumption)((go_at_call 169;refine(HB.out).mono ?_;rintro e w5⟨rfl,hN⟩;obtain⟨g5,n5,u5,t5⟩:=hN;obtain⟨vW,adn⟩:=u5.jN lH qK;obtain⟨U4,afe⟩:=u5.keepR Jv aff;have hk5:HR N B g4.x.T C E s4.me s4.seq s4.bZ s4.now p y(.slice ao y.bB.length c)w5:=HR.at n5 vW U4 t5.out rfl rfl rfl rfl))
     clear hS hk5;rename_i iB;clear iB;clear HB;have xE:=(pI.trans(.below(Below.refl _ _).drew)).trans u5;obtain⟨s5,hs5⟩:∃z,({s4 with A:=gI s4.A p.dest St.pQ}:St)=z:=⟨_,rfl⟩;have h5:Hid(s5.aH=s.aH∧s5.kN fr p.dest=s2):=by
      show _∧_;rw [←hs5];exact⟨h4.out.2.2.2.2.1,h4.out.2.2.2.2.2⟩
     rw [hs5]at n5 xE;have HX:=hide(Ct n5 fr p.dest hde(by rw [h5.out.1];exact hfl));rw [h5.out.2]at HX;obtain⟨p0,p1,p2,p3,p4,p5,p6,p7,p8,p9,je,iX⟩:=PB.cell vW;clear hs5 h5 h4 vW lH Jv U4 n4;go_wp2_with fail
     refine Calls.mono HX.out ?_;rintro e w9⟨rfl,hN⟩;obtain⟨g9,n9,u9,t9⟩:=hN;go_wp2
     go_returns
     exact⟨rfl,g9,n9,xE.trans u9,t9.out.trans(t5.out.trans t4.out)⟩
    ·rw [if_pos rfl]at hs3;have hyn:=qF rfl;have hwt:wrap64(p.aS - 1)=p.aS - 1:=by
      have:=hq.aS;unfold wrap64;omega
     have hbC:w.heap.size≤C:=by rw [lm.out];exact Nat.le_refl _
     have lH:PB({p with aS:=p.aS - 1}:ah)C(W2.setCell⟨C,0,none⟩(.int .i64(p.aS - 1))):=hP2.oL(p.aS - 1);have hb4:Below w.heap.size w(W2.setCell⟨C,0,none⟩(.int .i64(p.aS - 1))):=hbb.setCell(p:=⟨C,0,none⟩)hbC _;have Jv:dP E y(.slice ao y.bB.length c)(W2.setCell⟨C,0,none⟩(.int .i64(p.aS - 1))):=(Below.heap_setCell _ _ _ _(Ne.symm hCE)).trans hE2;have n4:=n.later hb4;have hwf:({p with aS:=p.aS - 1}:ah).Wf:=by
      have h1:=hq.aS;refine {hp with Vk:=?_,Vj:=?_}<;>(dsimp only;omega)
     have HS:=hide(Ap n4 y.next({p with aS:=p.aS - 1}:ah)hwf [](hL.below hb4)hfl);obtain⟨s6,hs6⟩:∃z,s.send y.next({p with aS:=p.aS - 1}:ah) []=z:=⟨_,rfl⟩;rw [hs6]at HS;dsimp only [ah.val]at HS;have h6:Hid(s6.now=s.now∧ {s6 with A:=iy(iy s6.A p.dest(s.now+3000))p.aI(s.now+3000)}=s2):=by
      show _∧_;rw [←hs6];exact⟨rfl,hs3⟩
     clear hs3 hs6;obtain⟨p0,p1,p2,p3,p4,p5,p6,p7,p8,p9,je,iX⟩:=PB.cell hP2;have f0:=PB.free hP2 0;clear n2 hP2 hE2 hbb H9;go_upto_region 11 with(fail)
     generalize World.setCell _ _ _=W4 at lH hb4 Jv n4 HS ⊢;clear p0 p1 p2 p3 p4 p5 p6 p7 p8 p9 je iX f0;obtain⟨p0,p1,p2,p3,p4,p5,p6,p7,p8,p9,je,iX⟩:=PB.cell lH;obtain⟨e0,e1,e2,e3,e4,e5,e6⟩:=Jv.cell;dsimp only at p0 p1 p2 p3 p4 p5 p6 p7 p8 p9 je iX;clear htl;go_wp2_with fail
     refine Calls.mono HS.out ?_;rintro e w6⟨rfl,hN⟩;obtain⟨g6,n6,u6,t6⟩:=hN;clear p0 p1 p2 p3 p4 p5 p6 p7 p8 p9 je iX e0 e1 e2 e3 e4 e5 e6 HS;obtain⟨Ii,jY⟩:=u6.jN lH jS;obtain⟨Xq,Tg⟩:=u6.keepR Jv Xo;have mI:Up B(Ft N g s)(Ft N g6 s6)w w6:=(Up.below hb4).trans u6;clear lH Jv n4 u6 hb4;have UX:0≤s6.now∧s6.now≤4611686018427387904:=by rw [h6.out.1];exact fq
     have HV:Hid(∀t,t=s6.now+3000→Calls Tryz.prog 81 #[.pointer(some⟨g6.x.T,0,none⟩),.int .u32 p.dest,.int .u64 t]w6.drew fun r w'=>r=.returned(.tuple #[])∧lg N B g6 s6 {s6 with A:=iy s6.A p.dest(s6.now+3000)}TL w6.drew w'):=by
      rintro _ rfl;exact Mv n6.drew p.dest(s6.now+3000)hde(by unfold Af;omega)
     have hS:HR N B g6.x.T C E s6.me s6.seq s6.bZ s6.now({p with aS:=p.aS - 1}:ah)y(.slice ao y.bB.length c)w6.drew:=HR.jw n6 Ii Xq rfl rfl rfl rfl rfl;go_wp2_with fail
     go_region_held3(HR N B g6.x.T C E s6.me s6.seq s6.bZ s6.now({p with aS:=p.aS - 1}:ah)y(.slice ao y.bB.length c))(first|with_reducible exact hS|with_reducible assumption)((go_at_call 81;refine(HV.out _(by first|rfl|exact lY UX(by decide))).mono ?_;rintro e w7⟨rfl,hN⟩;obtain⟨g7,n7,u7,t7⟩:=hN;obtain⟨Xg,OA⟩:=u7.jN Ii jY;obtain⟨Xp,Oy⟩:=u7.keepR Xq Tg;have hk7:HR N B g6.x.T C E s6.me s6.seq s6.bZ s6.now({p with aS:=p.aS - 1}:ah)y(.slice ao y.bB.length c)w7:=HR.at n7 Xg Xp t7.out rfl rfl rfl rfl))
     clear hS hk7;rename_i iB;clear iB;clear HV;have ua7:=(mI.trans(.below(Below.refl _ _).drew)).trans u7;obtain⟨s7,hs7⟩:∃z,({s6 with A:=iy s6.A p.dest(s6.now+3000)}:St)=z:=⟨_,rfl⟩;have h7:Hid(s7.now=s.now∧ {s7 with A:=iy s7.A p.aI(s7.now+3000)}=s2):=by
      show _∧_;rw [←hs7];have e:=h6.out.2;rw [←h6.out.1]at e;exact⟨h6.out.1,e⟩
     rw [hs7]at n7 ua7 OA Oy;clear hs7 mI u7 n6 Ii Xq jY Tg h6;have hn7:0≤s7.now∧s7.now≤4611686018427387904:=by rw [h7.out.1];exact fq
     have HV:Hid(∀t,t=s7.now+3000→Calls Tryz.prog 81 #[.pointer(some⟨g7.x.T,0,none⟩),.int .u32 p.aI,.int .u64 t]w7.drew fun r w'=>r=.returned(.tuple #[])∧lg N B g7 s7 s2 TL w7.drew w'):=by
      rintro _ rfl;have:=Mv n7.drew p.aI(s7.now+3000)hfr(by unfold Af;omega);rw [h7.out.2]at this;exact this
     have hsm:Hid(s2.me=s7.me∧s2.seq=s7.seq∧s2.bZ=s7.bZ∧s2.now=s7.now):=by
      show _∧_;rw [←h7.out.2];exact⟨rfl,rfl,rfl,rfl⟩
     have hS:HR N B g7.x.T C E s7.me s7.seq s7.bZ s7.now({p with aS:=p.aS - 1}:ah)y(.slice ao y.bB.length c)w7.drew:=HR.jw n7 Xg Xp rfl rfl rfl rfl rfl;go_wp2_with fail
     go_region_held3(HR N B g7.x.T C E s7.me s7.seq s7.bZ s7.now({p with aS:=p.aS - 1}:ah)y(.slice ao y.bB.length c))(first|with_reducible exact hS|with_reducible assumption)((go_at_call 81;refine(HV.out _(by first|rfl|exact lY hn7(by decide))).mono ?_;rintro e w8⟨rfl,hN⟩;obtain⟨g8,n8,u8,t8⟩:=hN;obtain⟨Js,aaT⟩:=u8.jN Xg OA;obtain⟨Tj,aaS⟩:=u8.keepR Xp Oy;have hk8:HR N B g7.x.T C E s7.me s7.seq s7.bZ s7.now({p with aS:=p.aS - 1}:ah)y(.slice ao y.bB.length c)w8:=HR.at n8 Js Tj t8.out hsm.out.1 hsm.out.2.1 hsm.out.2.2.1 hsm.out.2.2.2))
     clear hS hk8;rename_i iB;clear iB;have UN:=(ua7.trans(.below(Below.refl _ _).drew)).trans u8;have ta:g8.x.T=g.x.T:=t8.out.trans(t7.out.trans t6.out);clear Xg Xp Js Tj;go_wp2
     go_returns
     exact⟨rfl,g8,n8,UN,ta⟩
end Go.Proofs.YtakaadcpaeiccabGreat
