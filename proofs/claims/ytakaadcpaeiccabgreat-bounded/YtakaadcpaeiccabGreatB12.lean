import Derived.Test.YtakaadcpaeiccabGreatB11
set_option maxHeartbeats 8000000
set_option maxRecDepth 100000
namespace Go.Proofs.YtakaadcpaeiccabGreat
open Go.RowKit Go.Maps
variable{fd:Bool}{seq bR:Int}{B C D N T c:Nat}{o:Obj}{ao:Option Addr}{p:aC}{x y:Rt}{s:St}{u:Value}{W W0 W1 a w w2:World}
@[reducible] def HC(N B T C : Nat)(me seq bR now : Int)(p : aC)(W : World): Prop :=
 (W.cell? ⟨N,2,none⟩=some (.int .u32 me)∧W.cell? ⟨N,3,none⟩=some (.int .u32 seq)∧W.cell? ⟨N,4,none⟩=some (.int .u64 bR)∧W.cell? ⟨N,7,none⟩=some (.pointer (some ⟨T,0,none⟩))∧W.cell? ⟨B,0,none⟩=some (.int .u64 now))∧
 (W.cell? ⟨C,0,none⟩=some (.int .i64 p.ttl)∧W.cell? ⟨C,1,none⟩=some (.int .i64 p.kind)∧W.cell? ⟨C,2,none⟩=some (.int .i64 p.hops)∧W.cell? ⟨C,3,none⟩=some (.bool p.unk)∧W.cell? ⟨C,4,none⟩=some (.int .u32 p.id)∧W.cell? ⟨C,5,none⟩=some (.int .u32 p.dest)∧W.cell? ⟨C,6,none⟩=some (.int .u32 p.bC)∧W.cell? ⟨C,7,none⟩=some (.int .u32 p.aG)∧W.cell? ⟨C,8,none⟩=some (.int .u32 p.dX)∧W.cell? ⟨C,9,none⟩=some (.int .u32 p.life)∧W.cell? ⟨C,10,none⟩=some (.slice p.la p.ln p.lc)∧W.cell? ⟨C,11,none⟩=some (.string p.pay))
@[reducible] def HB(N B T C : Nat)(me seq bR now : Int)(p : aC)(W0 W : World): Prop := HC N B T C me seq bR now p W ∧ Below W0.heap.size W0 W
theorem HC.of{g:bF}{TL:List Hp.Tm}(n:Nd N B g s TL W)(h:PB p C W):HC N B g.x.T C s.me s.seq s.bR s.now p W:=⟨n.cell,h.cell⟩
theorem HB.drew{me now:Int}(h:HB N B T C me seq bR now p W0 W):HB N B T C me seq bR now p W0 W.drew:=⟨h.1,h.2.drew⟩
theorem HB.mk'{g:bF}{TL:List Hp.Tm}(n:Nd N B g s TL W0)(h:PB p C W0)(hb:Below W0.heap.size W0 W):HB N B g.x.T C s.me s.seq s.bR s.now p W0 W:=⟨.of (n.later hb) (h.below hb),hb⟩
theorem Up.box{F F':Nat->Prop}{b:World}(u:Up B F F' a b)(h:PB p C a)(hn:¬F C):PB p C b:=u.block C _ h hn (.inl (Cs p))
theorem Nd.new{g:bF}{TL:List Hp.Tm}(n:Nd N B g s TL W){k:Nat}(hk:W.heap.size<=k):¬Ft N g s k:=λh=>by have:=n.nn.lt h;omega
theorem PB.aae(h:PB p C W)(t k:Int):PB {p with ttl:=t,kind:=k} C ((W.setCell ⟨C,0,none⟩ (.int .i64 t)).setCell ⟨C,1,none⟩ (.int .i64 k)):=by
 unfold PB at h ⊢;simp[World.setCell,dM,h]
theorem sH{n:Nat}(h:Below n a w)(hD:n<=D)(v0 v1 v2 v3 v4 v5 v6:Value):Below n a (((((((w.setCell ⟨D,0,none⟩ v0).setCell ⟨D,1,none⟩ v1).setCell ⟨D,2,none⟩ v2).setCell ⟨D,3,none⟩ v3).setCell ⟨D,4,none⟩ v4).setCell ⟨D,5,none⟩ v5).setCell ⟨D,6,none⟩ v6):=
 ((((((h.setCell (p:=⟨D,0,none⟩) hD _).setCell (p:=⟨D,1,none⟩) hD _).setCell (p:=⟨D,2,none⟩) hD _).setCell (p:=⟨D,3,none⟩) hD _).setCell (p:=⟨D,4,none⟩) hD _).setCell (p:=⟨D,5,none⟩) hD _).setCell (p:=⟨D,6,none⟩) hD _
theorem dP.abI{v:Value}(h:dP D x u w):dP D y v (((((((w.setCell ⟨D,0,none⟩ (.int .u32 y.dest)).setCell ⟨D,1,none⟩ (.int .u32 y.seq)).setCell ⟨D,2,none⟩ (.int .i64 y.hops)).setCell ⟨D,3,none⟩ (.int .u32 y.next)).setCell ⟨D,4,none⟩ (.bool y.valid)).setCell ⟨D,5,none⟩ (.int .u64 y.exp)).setCell ⟨D,6,none⟩ v):=by
 unfold dP at h ⊢;simp[World.setCell,dM,h]
theorem mV{g:bF}{TL:List Hp.Tm}(n0:Nd N B g s TL W1)(d now:Int)(hd:bg d){y:Rt}{fd:Bool}(hr:bJ s.A d now=(y,fd)):
  ∀W5,Below W1.heap.size W1 W5->Calls Tryz.prog 79 #[.pointer (some ⟨g.x.T,0,none⟩),.int .u32 d,.int .u64 now] W5 λe w'=>∃ao c,e=.returned (.tuple #[GK y (.slice ao y.bG.length c),.bool fd])∧Below W1.heap.size W1 w'∧∀x u,dP W1.heap.size x u W5->dP W1.heap.size x u w':=by
 intro W5 h5;have h:=Zl (n0.later h5) d now hd;rw[hr]at h;refine h.mono ?_;rintro e w' ⟨ao,c,rfl,hb⟩;exact⟨ao,c,rfl,h5.trans (hb.mono h5.size),λx u h=>h.later hb⟩
theorem kH(W:World):dP W.heap.size bV (.slice none 0 0) (W.alloc (.cells #[.int .u32 0,.int .u32 0,.int .i64 0,.int .u32 0,.bool false,.int .u64 0,.slice none 0 0] 38)).drew:=bO W _
def ny(y:Rt)(fd:Bool)(W1:World)(pv fv:Value)(W:World):Prop:=∃D ao c,pv=.pointer (some ⟨D,0,none⟩)∧fv=.bool fd∧dP D y (.slice ao y.bG.length c) W∧W1.heap.size<=D∧Below W1.heap.size W1 W
theorem gK(hb:Below W1.heap.size W1 w2):ny y fd W1 (.pointer (some ⟨w2.heap.size,0,none⟩)) (.bool fd) (w2.alloc (.cells #[.int .u32 y.dest,.int .u32 y.seq,.int .i64 y.hops,.int .u32 y.next,.bool y.valid,.int .u64 y.exp,.slice ao y.bG.length c] 38)):=
 ⟨_,ao,c,rfl,rfl,bO _ _,hb.size,hb.alloc hb.size _⟩
theorem jG(hb:Below W1.heap.size W1 w2)(hD:Hid (dP W1.heap.size x u w2)):ny y fd W1 (.pointer (some ⟨W1.heap.size,0,none⟩)) (.bool fd) (((((((w2.setCell ⟨W1.heap.size,0,none⟩ (.int .u32 y.dest)).setCell ⟨W1.heap.size,1,none⟩ (.int .u32 y.seq)).setCell ⟨W1.heap.size,2,none⟩ (.int .i64 y.hops)).setCell ⟨W1.heap.size,3,none⟩ (.int .u32 y.next)).setCell ⟨W1.heap.size,4,none⟩ (.bool y.valid)).setCell ⟨W1.heap.size,5,none⟩ (.int .u64 y.exp)).setCell ⟨W1.heap.size,6,none⟩ (.slice ao y.bG.length c)):=
 ⟨_,ao,c,rfl,rfl,hD.out.abI,aA _,sH hb (aA _) _ _ _ _ _ _ _⟩
theorem HB.jR{me now:Int}(hk:Hid (∀W5,Below W0.heap.size W0 W5->HB N B T C me seq bR now p W0 W5))(h:Below W0.heap.size W0 W):HB N B T C me seq bR now p W0 (W.alloc o):=hk.out _ (h.alloc h.size _)
theorem HB.dW{me now:Int}(hk:Hid (∀W5,Below W0.heap.size W0 W5->HB N B T C me seq bR now p W0 W5)):HB N B T C me seq bR now p W0 (W0.alloc o).drew:=hk.out _ (bn).drew
theorem HB.uo{me now:Int}{v0 v1 v2 v3 v4 v5 v6:Value}(hk:Hid (∀W5,Below W0.heap.size W0 W5->HB N B T C me seq bR now p W0 W5))(h:Below W0.heap.size W0 W):HB N B T C me seq bR now p W0 (((((((W.setCell ⟨W0.heap.size,0,none⟩ v0).setCell ⟨W0.heap.size,1,none⟩ v1).setCell ⟨W0.heap.size,2,none⟩ v2).setCell ⟨W0.heap.size,3,none⟩ v3).setCell ⟨W0.heap.size,4,none⟩ v4).setCell ⟨W0.heap.size,5,none⟩ v5).setCell ⟨W0.heap.size,6,none⟩ v6):=hk.out _ (sH h (aA _) _ _ _ _ _ _ _)
theorem z8{g:bF}{TL:List Hp.Tm}(n:Nd N B g s TL w)(p:aC)(hp:p.Wf)(hL:eT w p [])(hfl:s.aI.length<=1000000)(hdl:s.aM.length<=1000000):
  Calls Tryz.prog 181 #[.pointer (some ⟨N,0,none⟩),.pointer (some ⟨B,0,none⟩),p.val] w λe w'=>e=.returned (.tuple #[])∧kT N B g s (s.answer p) TL w w':=by
 have hb0:Below w.heap.size w (w.alloc p.box):=bn;have fZ:=PB.new p w;have n0:=n.later hb0;have hfr:bg p.aG:=⟨hp.abm,by have:=hp.abl;omega⟩;obtain⟨s2,cK⟩:∃s2,s.answer p=s2:=⟨_,rfl⟩;rw[cK];replace cK:=(show Hid _ from cK);dsimp only[aC.box]at hb0 n0;unfold PB at fZ;dsimp only[aC.box]at fZ;go_enter Tryz.func181,Tryz.ntmps181;go_upto_region 1 with(fail);generalize World.alloc _ _=W1 at hb0 fZ n0 ⊢;have qb:=(show Hid _ from HB.mk' n0 fZ (aR _ _));obtain⟨⟨y,fd⟩,hr⟩:∃r,bJ s.A p.aG s.now=r:=⟨_,rfl⟩;have HF:=(show Hid _ from mV n0 p.aG s.now hfr hr);generalize kZ:w.heap.size=C at fZ qb ⊢;replace kZ:=(show Hid _ from kZ);go_cut [6,7]from 8 to 21 (ny y fd W1)
 case first=>
  have hS:HB N B g.x.T C s.me s.seq s.bR s.now p W1 W1.drew:=HB.drew qb.out;have hkB:=(show Hid _ from λW5 h5=>HB.mk' (W:=W5) n0 fZ h5);go_region_held3 (HB N B g.x.T C s.me s.seq s.bR s.now p W1) (first|with_reducible exact hS|with_reducible assumption|(with_reducible apply HB.uo hkB;assumption)|(with_reducible apply HB.jR hkB;assumption)|(with_reducible apply HB.dW hkB)|(with_reducible apply hkB.out;assumption)) ((go_at_call 79;refine(HF.out _ (And.right (by assumption))).mono ?_;rintro e w2 ⟨ao,c,rfl,hb2,hpr⟩;try ((with_reducible have hD:=hpr bV (.slice none 0 0) (kH W1));obtain⟨d0,d1,d2,d3,d4,d5,d6⟩:=hD.cell;have q0:=hD.free 0;have q1:=hD.free 1;have q2:=hD.free 2;have q3:=hD.free 3;have q4:=hD.free 4;have q5:=hD.free 5;have q6:=hD.free 6;have hD':Hid (dP W1.heap.size bV (.slice none 0 0) w2):=hD;clear hD);clear hpr))
  all_goals
   go_wp2_with fail;go_meet;first|with_reducible exact gK hb2|with_reducible exact jG hb2 hD'
 case rest=>
  obtain⟨D,ao,c,rfl,rfl,hD,hDl,hb2⟩:=hcut;have n2:=n0.later hb2;have hP2:=PB.below fZ hb2;have hz:=hb0.size;have hCD:C≠D:=by have:=PB.lt fZ;omega
  clear qb fZ n0 HF;have hs2:=cK.out;unfold St.answer at hs2;rw[hr]at hs2;dsimp only at hs2;obtain⟨d0,d1,d2,d3,d4,d5,d6⟩:=hD.cell;obtain⟨p0,p1,p2,p3,p4,p5,p6,p7,p8,p9,jg,ja⟩:=PB.cell hP2;cases fd
  ·rw[aD (by simp)]at hs2;subst hs2;have HD:=(show Hid _ from iV n2 3 hdl);clear d0 d1 d2 d3 d4 d5 d6 p0 p1 p2 p3 p4 p5 p6 p7 p8 p9 jg ja cK;go_wp2_with fail;refine aN HD.out ?_;rintro e w3 ⟨rfl,hN⟩;go_wp2;go_returns;exact⟨rfl,(hN.pre hb2).pre hb0⟩
  ·rw[aO rfl]at hs2;subst hs2;have q0:=PB.free hP2 0;have q1:=PB.free hP2 1;have hb3:Below w.heap.size w ((wc.setCell ⟨C,0,none⟩ (.int .i64 8)).setCell ⟨C,1,none⟩ (.int .i64 2)):=((hb0.trans (hb2.mono hb0.size)).setCell (p:=⟨C,0,none⟩) (by rw[kZ.out];exact aA _) _).setCell (p:=⟨C,1,none⟩) (by rw[kZ.out];exact aA _) _;have hP3:=hP2.aae 8 2;have n3:=n.later hb3;have HS:Hid (Calls Tryz.prog 80 #[.pointer (some ⟨B,0,none⟩),.int .u32 y.next,({p with ttl:=8,kind:=2}:aC).val] ((wc.setCell ⟨C,0,none⟩ (.int .i64 8)).setCell ⟨C,1,none⟩ (.int .i64 2)) λe w'=>e=.returned (.tuple #[])∧kT N B g s (s.send y.next {p with ttl:=8,kind:=2} []) TL _ w'):=
    zZ n3 y.next {p with ttl:=8,kind:=2} ⟨by dsimp only;omega,by dsimp only;omega,by dsimp only;omega,by dsimp only;omega,hp.Kl,hp.Kk,hp.id0,hp.id1,hp.abp,hp.abo,hp.Wv,hp.Wu,hp.abm,hp.abl,hp.abk,hp.abj,hp.aaq,hp.aap,hp.ln1,hp.abL⟩ [] (hL.below hb3) hfl
   have hD3:dP D y (.slice ao y.bG.length c) ((wc.setCell ⟨C,0,none⟩ (.int .i64 8)).setCell ⟨C,1,none⟩ (.int .i64 2)):=(kV _ _ _ _ (Ne.symm hCD)).trans ((kV _ _ _ _ (Ne.symm hCD)).trans hD);clear n2 cK kZ;dsimp only[aC.val]at HS;go_upto_region 5 with(fail);generalize World.setCell _ _ _=W3 at hb3 hP3 n3 HS hD3 ⊢;clear d0 d1 d2 d3 d4 d5 d6 p0 p1 p2 p3 p4 p5 p6 p7 p8 p9 jg ja q0 q1;obtain⟨d0,d1,d2,d3,d4,d5,d6⟩:=hD3.cell;obtain⟨p0,p1,p2,p3,p4,p5,p6,p7,p8,p9,jg,ja⟩:=PB.cell hP3;dsimp only at p0 p1 p2 p3 p4 p5 p6 p7 p8 p9 jg ja;go_wp2_with fail;refine aN HS.out ?_;rintro e w3 ⟨rfl,hN⟩;go_wp2;go_returns;exact⟨rfl,hN.pre hb3⟩
variable{C:Nat}{p:aC}{W:World}
theorem PB.og(h:PB p C W)(t:Int):PB {p with ttl:=t} C (W.setCell ⟨C,0,none⟩ (.int .i64 t)):=by
 unfold PB at h ⊢;simp[World.setCell,dM,h]
theorem PB.Ci(h:PB p C W)(t:Int):PB {p with hops:=t} C (W.setCell ⟨C,2,none⟩ (.int .i64 t)):=by
 unfold PB at h ⊢;simp[World.setCell,dM,h]
theorem PB.aah(h:PB p C W)(t:Int)(b:Bool):PB {p with bC:=t,unk:=b} C ((W.setCell ⟨C,6,none⟩ (.int .u32 t)).setCell ⟨C,3,none⟩ (.bool b)):=by
 unfold PB at h ⊢;simp[World.setCell,dM,h]
theorem uE(h:Int)(h0:0<=h∧h<=255)(w:World):Calls Tryz.prog 162 #[.int .i64 h] w λe w'=>e=.returned (.int .i64 (St.far h))∧w'=w:=by
 have hw:wrap64 (h+1)=h+1:=by unfold wrap64;omega
 have hf:∀y,y=min (h+1) 255->y=St.far h:=λy hy=>hy;go_enter Tryz.func162,Tryz.ntmps162;go_wp2;all_goals (go_ret;exact⟨tK (by unfold St.far;omega),rfl⟩)
theorem aC.Wf.num(h:p.Wf):bg p.id∧bg p.dest∧bg p.bC∧bg p.aG∧bg p.dX∧bg p.life:=by
 obtain⟨_,_,_,_,_,_,h1,h2,h3,h4,h5,h6,h7,h8,h9,h10,h11,h12,_,_⟩:=h;unfold bg;omega
structure aC.Hd(p:aC):Prop where
 wf:p.Wf
 ttl:1<=p.ttl∧p.ttl<=255
 hops:0<=p.hops∧p.hops<=255
theorem KT{N B:Nat}{g:bF}{s:St}{TL:List Hp.Tm}{w:World}(n:Nd N B g s TL w)(p:aC)(hq:p.Hd)(hL:eT w p [])(hfl:s.aI.length<=1000000):
  Calls Tryz.prog 165 #[.pointer (some ⟨N,0,none⟩),.pointer (some ⟨B,0,none⟩),p.val] w λe w'=>e=.returned (.tuple #[])∧kT N B g s (s.askOn p) TL w w':=by
 have hp:=hq.wf;obtain⟨_,hde,hds,_,_,_⟩:=hp.num;have hb0:Below w.heap.size w (w.alloc p.box):=bn;have fZ:=PB.new p w;have n0:=n.later hb0;obtain⟨s2,cK⟩:∃s2,s.askOn p=s2:=⟨_,rfl⟩;rw[cK];replace cK:=(show Hid _ from cK);have hnu:bg (eB s.A p.dest):=by
  unfold eB;cases hl:aK s.A p.dest with
  |none=>exact⟨by simp,by simp⟩
  |some y=>exact(n.nn.cr.tb.ok y (dN hl).1).seq
 dsimp only[aC.box]at hb0 n0;unfold PB at fZ;dsimp only[aC.box]at fZ;go_enter Tryz.func165,Tryz.ntmps165;go_upto_region 1 with(fail);generalize World.alloc _ _=W1 at hb0 fZ n0 ⊢;have qb:=(show Hid _ from HB.mk' n0 fZ (aR _ _));have HF:=(show Hid _ from λW5 (h5:Below W1.heap.size W1 W5)=>WE (n0.later h5) p.dest hde);generalize xg:(aK s.A p.dest).isSome=fd at HF;generalize hnm:eB s.A p.dest=nm at HF hnu;generalize kZ:w.heap.size=C at fZ qb ⊢;replace kZ:=(show Hid _ from kZ);have hS:HB N B g.x.T C s.me s.seq s.bR s.now p W1 W1.drew:=HB.drew qb.out;go_region_held3 (HB N B g.x.T C s.me s.seq s.bR s.now p W1) (first|with_reducible exact hS|with_reducible assumption) ((go_at_call 157;refine(HF.out _ (And.right (by assumption))).mono ?_;rintro e w2 ⟨rfl,rfl⟩))
 have hbd:Below W1.heap.size W1 W1.drew:=(aR _ _).drew;have n2:=n0.later hbd;have hP2:=PB.below fZ hbd;have hb2:=hb0.trans (hbd.mono hb0.size);clear hS qb HF fZ n0 hb0 hbd;generalize World.drew _=W2 at n2 hP2 hb2 ⊢;have hwt:wrap64 (p.ttl - 1)=p.ttl - 1:=by
  have:=hq.ttl;unfold wrap64;omega
 cases fd
 ·have QF:Hid (s.send 0 ({p with ttl:=p.ttl - 1,hops:=St.far p.hops}:aC) []=s2):=by
   rw[<-cK.out];unfold St.askOn;rw[xg];rfl
  have hwf:({p with ttl:=p.ttl - 1,hops:=St.far p.hops}:aC).Wf:=by
   have h1:=hq.ttl;have h2:=hq.hops;refine {hp with SN:=?_,SL:=?_,Kl:=?_,Kk:=?_}<;>(unfold St.far;dsimp only;omega)
  go_upto_region 4 with(fail);have hbC:w.heap.size<=C:=by rw[kZ.out];exact aA _
  have lC:=hP2.og (p.ttl - 1);have hb4:Below w.heap.size w (W2.setCell ⟨C,0,none⟩ (.int .i64 (p.ttl - 1))):=hb2.setCell (p:=⟨C,0,none⟩) hbC _;obtain⟨p0,p1,p2,p3,p4,p5,p6,p7,p8,p9,jg,ja⟩:=PB.cell hP2;have f0:=PB.free hP2 0;try dsimp only at p0 p1 p2 p3 p4 p5 p6 p7 p8 p9 jg ja
  go_upto_region 5 with(fail);generalize World.setCell _ _ _=W4 at lC hb4 ⊢;clear p0 p1 p2 p3 p4 p5 p6 p7 p8 p9 jg ja f0 hP2 hb2;obtain⟨p0,p1,p2,p3,p4,p5,p6,p7,p8,p9,jg,ja⟩:=PB.cell lC;have f2:=PB.free lC 2;try dsimp only at p0 p1 p2 p3 p4 p5 p6 p7 p8 p9 jg ja
  have vJ:=lC.Ci (St.far p.hops);have hb5:Below w.heap.size w (W4.setCell ⟨C,2,none⟩ (.int .i64 (St.far p.hops))):=hb4.setCell (p:=⟨C,2,none⟩) hbC _;have n5:=n.later hb5;have HS:=(show Hid _ from zZ n5 0 ({p with ttl:=p.ttl - 1,hops:=St.far p.hops}:aC) hwf [] (hL.below hb5) hfl);rw[QF.out]at HS;dsimp only[aC.val]at HS;go_wp2_with fail;refine aN (uE p.hops hq.hops W4) ?_;rintro e w4 ⟨rfl,rfl⟩;clear lC hb4;go_upto_region 6 with(fail);generalize World.setCell _ _ _=W5 at vJ hb5 n5 HS ⊢;clear p0 p1 p2 p3 p4 p5 p6 p7 p8 p9 jg ja f2;obtain⟨p0,p1,p2,p3,p4,p5,p6,p7,p8,p9,jg,ja⟩:=PB.cell vJ;try dsimp only at p0 p1 p2 p3 p4 p5 p6 p7 p8 p9 jg ja
  go_wp2_with fail;refine aN HS.out ?_;rintro e w6 ⟨rfl,hN⟩;go_wp2;go_returns;exact⟨rfl,hN.pre hb5⟩
 ·have QF:Hid (s.send 0 ({p with ttl:=p.ttl - 1,hops:=St.far p.hops,bC:=max p.bC nm,unk:=false}:aC) []=s2):=by
   rw[<-cK.out];unfold St.askOn;rw[xg,hnm];rfl
  have hwf:({p with ttl:=p.ttl - 1,hops:=St.far p.hops,bC:=max p.bC nm,unk:=false}:aC).Wf:=by
   have h1:=hq.ttl;have h2:=hq.hops;have h3:=hds;have h4:=hnu;unfold bg at h3 h4;refine {hp with SN:=?_,SL:=?_,Kl:=?_,Kk:=?_,Wv:=?_,Wu:=?_}<;>(unfold St.far;dsimp only;omega)
  have aa3:w.heap.size<=C:=by rw[kZ.out];exact aA _
  have hP3:=hP2.aah (max p.bC nm) false;have hb3:Below w.heap.size w ((W2.setCell ⟨C,6,none⟩ (.int .u32 (max p.bC nm))).setCell ⟨C,3,none⟩ (.bool false)):=(hb2.setCell (p:=⟨C,6,none⟩) aa3 _).setCell (p:=⟨C,3,none⟩) aa3 _;obtain⟨p0,p1,p2,p3,p4,p5,p6,p7,p8,p9,jg,ja⟩:=PB.cell hP2;have f6:=PB.free hP2 6;have f3:=PB.free hP2 3;go_upto_region 4 with(fail);generalize World.setCell _ _ _=W3 at hP3 hb3 ⊢;clear p0 p1 p2 p3 p4 p5 p6 p7 p8 p9 jg ja f6 f3 hP2 hb2;have hbC:w.heap.size<=C:=by rw[kZ.out];exact aA _
  have lC:=hP3.og (p.ttl - 1);have hb4:Below w.heap.size w (W3.setCell ⟨C,0,none⟩ (.int .i64 (p.ttl - 1))):=hb3.setCell (p:=⟨C,0,none⟩) hbC _;obtain⟨p0,p1,p2,p3,p4,p5,p6,p7,p8,p9,jg,ja⟩:=PB.cell hP3;have f0:=PB.free hP3 0;try dsimp only at p0 p1 p2 p3 p4 p5 p6 p7 p8 p9 jg ja
  go_upto_region 5 with(fail);generalize World.setCell _ _ _=W4 at lC hb4 ⊢;clear p0 p1 p2 p3 p4 p5 p6 p7 p8 p9 jg ja f0 hP3 hb3;obtain⟨p0,p1,p2,p3,p4,p5,p6,p7,p8,p9,jg,ja⟩:=PB.cell lC;have f2:=PB.free lC 2;try dsimp only at p0 p1 p2 p3 p4 p5 p6 p7 p8 p9 jg ja
  have vJ:=lC.Ci (St.far p.hops);have hb5:Below w.heap.size w (W4.setCell ⟨C,2,none⟩ (.int .i64 (St.far p.hops))):=hb4.setCell (p:=⟨C,2,none⟩) hbC _;have n5:=n.later hb5;have HS:=(show Hid _ from zZ n5 0 ({p with ttl:=p.ttl - 1,hops:=St.far p.hops,bC:=max p.bC nm,unk:=false}:aC) hwf [] (hL.below hb5) hfl);rw[QF.out]at HS;dsimp only[aC.val]at HS;go_wp2_with fail;refine aN (uE p.hops hq.hops W4) ?_;rintro e w4 ⟨rfl,rfl⟩;clear lC hb4;go_upto_region 6 with(fail);generalize World.setCell _ _ _=W5 at vJ hb5 n5 HS ⊢;clear p0 p1 p2 p3 p4 p5 p6 p7 p8 p9 jg ja f2;obtain⟨p0,p1,p2,p3,p4,p5,p6,p7,p8,p9,jg,ja⟩:=PB.cell vJ;try dsimp only at p0 p1 p2 p3 p4 p5 p6 p7 p8 p9 jg ja
  go_wp2_with fail;refine aN HS.out ?_;rintro e w6 ⟨rfl,hN⟩;go_wp2;go_returns;exact⟨rfl,hN.pre hb5⟩
variable{B C N:Nat}{p:aC}{s:St}{W:World}
theorem pF(s:St)(p:aC):zS s (s.answer p)∧(s.answer p).now=s.now:=by
 unfold St.answer;split
 ·exact⟨rH _ _ _ _,rfl⟩
 ·exact⟨rJ _ _,rfl⟩
theorem HC.next{g g':bF}{s':St}{dG:List Hp.Tm}(n:Nd N B g' s' dG W)(h:PB p C W)(t:g'.x.T=g.x.T)(h1:s'.me=s.me)(h2:s'.seq=s.seq)(h3:s'.bR=s.bR)(h4:s'.now=s.now):HC N B g.x.T C s.me s.seq s.bR s.now p W:=by
 have:=HC.of n h;rw[t,h1,h2,h3,h4]at this;exact this
theorem Nd.drew{g:bF}{TL:List Hp.Tm}(n:Nd N B g s TL W):Nd N B g s TL W.drew:=n.later (aR _ _).drew
theorem HC.vO{g:bF}{TL:List Hp.Tm}(n:Nd N B g s TL W)(h:PB p C W):HC N B g.x.T C s.me s.seq s.bR s.now p W.drew:=HC.of n.drew h
theorem Cm{hops d q fm life:Int}(hh:nX hops)(hd:bg d)(hq:bg q)(hf:bg fm)(hl:bg life):(St.rQ hops d q fm life).Wf:=by
 have hz:(⟨#[]⟩:ByteArray).size=0:=rfl;unfold bg at hd hq hf hl;unfold nX at hh;constructor<;>(dsimp only[St.rQ];omega)
theorem Hw(W:World)(hops d q fm life:Int):eT W (St.rQ hops d q fm life) []:=⟨rfl,λj hj=>by simp at hj⟩
theorem uP{g:bF}{TL:List Hp.Tm}{w:World}(n:Nd N B g s TL w)(p:aC)(hq:p.Hd)(hme:bg s.me)(hsq:bg s.seq)(hfl:s.aI.length<=1000000)(hdl:s.aM.length<=1000000):
  Calls Tryz.prog 163 #[.pointer (some ⟨N,0,none⟩),.pointer (some ⟨B,0,none⟩),p.val] w λe w'=>e=.returned (.tuple #[])∧kT N B g s (s.iD p) TL w w':=by
 have hp:=hq.wf;obtain⟨_,hde,hds,hfr,_,_⟩:=hp.num;have hb0:Below w.heap.size w (w.alloc p.box):=bn;have fZ:=PB.new p w;have n0:=n.later hb0;have hmx:bg (max s.seq p.bC):=by
  unfold bg at hsq hds ⊢;omega
 obtain⟨s2,cK⟩:∃s2,s.iD p=s2:=⟨_,rfl⟩;rw[cK];replace cK:=(show Hid _ from cK);dsimp only[aC.box]at hb0 n0;unfold PB at fZ;dsimp only[aC.box]at fZ;go_enter Tryz.func163,Tryz.ntmps163;go_upto_region 1 with(fail);generalize World.alloc _ _=W1 at hb0 fZ n0 ⊢;have jV:=n.new (k:=w.heap.size) (aA _);generalize w.heap.size=C at fZ jV ⊢;obtain⟨p0,p1,p2,p3,p4,p5,p6,p7,p8,p9,jg,ja⟩:=PB.cell fZ;obtain⟨m0,m1,m2,m3,m4⟩:=n0.cell;have f3:=n0.nn.cr.nd.free 3;have hg1:W1.grownBy (W1.setCell ⟨N,3,none⟩ (.int .u32 (max s.seq p.bC))) (some N):=ah (ay _ (some N)) 3 _;obtain⟨e1,e2,e3,e4,e5,e6,e7,e8,e9⟩:=n0.nn.eq;obtain⟨n1,u1⟩:=n0.cells (s':={s with seq:=max s.seq p.bC}) (n0.nn.cr.nd.Oq (max s.seq p.bC)) (Fx.grown hg1 λk e=>by cases e;rfl) ⟨e1,rfl,e3,e4,e5,e6,e7,e8,e9⟩ ⟨rfl,rfl,rfl,rfl,rfl,rfl⟩ ⟨rfl,rfl,rfl,rfl,rfl,rfl,rfl,rfl,rfl⟩ ⟨rfl,rfl,rfl,rfl,rfl⟩;obtain⟨hP1,hnC⟩:=u1.keep fZ jV (Cs p);go_region
 have n2:=n1.drew;have hP2:PB p C (W1.setCell ⟨N,3,none⟩ (.int .u32 (max s.seq p.bC))).drew:=hP1;have u2:=(u1.trans (.below (aR _ _).drew):Up B _ _ W1 (W1.setCell ⟨N,3,none⟩ (.int .u32 (max s.seq p.bC))).drew);have t2:({g with x:={g.x with seq:=max s.seq p.bC}}:bF).x.T=g.x.T:=rfl;generalize ({g with x:={g.x with seq:=max s.seq p.bC}}:bF)=g2 at n2 u2 t2 hnC;clear n1 hP1 u1 hg1 e1 e2 e3 e4 e5 e6 e7 e8 e9 p0 p1 p2 p3 p4 p5 p6 p7 p8 p9 jg ja m0 m1 m2 m3 m4 f3 fZ n0;generalize World.drew _=W2 at n2 hP2 u2 ⊢;have hs2:=cK.out;unfold St.iD at hs2;generalize max s.seq p.bC=q at hs2 n2 u2 hmx hnC ⊢;have hsm:=pF {s with seq:=q} (St.rQ 0 s.me q p.aG 6000);have HA:=hide (z8 n2.drew (St.rQ 0 s.me q p.aG 6000) (Cm (by unfold nX;omega) hme hmx hfr (by unfold bg;omega)) (Hw _ _ _ _ _ _) hfl hdl);rw[hs2]at HA hsm;dsimp only[aC.val,St.rQ]at HA;have hS:=HC.vO n2 hP2;go_wp2_with fail;go_region_held3 (HC N B g2.x.T C s.me q s.bR s.now p) (first|with_reducible exact hS|with_reducible assumption) ((go_at_call 181;refine HA.out.mono ?_;rintro e w3 ⟨rfl,hN⟩;obtain⟨g3,n3,u3,t3⟩:=hN;have hk3:=HC.next n3 (u3.box hP2 hnC) t3.out hsm.1.1 hsm.1.2.1 hsm.1.2.2.1 hsm.2))
 go_wp2;go_returns;exact⟨rfl,kT.pre hb0 ⟨g3,n3,(u2.trans (.below (aR _ _).drew)).trans u3,t3.out.trans t2⟩⟩
variable{seq bR:Int}{B C D N T:Nat}{F F':Nat->Prop}{p:aC}{y:Rt}{s:St}{v:Value}{W a b:World}
theorem TI(y:Rt)(v:Value):nJ (bQ y v):=⟨λc e=>(by cases e),λc e=>(by cases e),λc e=>(by cases e),λc e=>(by cases e),λc e=>(by cases e)⟩
@[reducible] def HR(N B T C D : Nat)(me seq bR now : Int)(p : aC)(y : Rt)(v : Value)(W : World): Prop :=
 HC N B T C me seq bR now p W∧W.cell? ⟨D,0,none⟩=some (.int .u32 y.dest)∧W.cell? ⟨D,1,none⟩=some (.int .u32 y.seq)∧W.cell? ⟨D,2,none⟩=some (.int .i64 y.hops)∧W.cell? ⟨D,3,none⟩=some (.int .u32 y.next)∧W.cell? ⟨D,4,none⟩=some (.bool y.valid)∧W.cell? ⟨D,5,none⟩=some (.int .u64 y.exp)∧W.cell? ⟨D,6,none⟩=some v
theorem HC.at{g:bF}{TL:List Hp.Tm}{me now:Int}(n:Nd N B g s TL W)(h:PB p C W)(t:g.x.T=T)(h1:s.me=me)(h2:s.seq=seq)(h3:s.bR=bR)(h4:s.now=now):HC N B T C me seq bR now p W:=by
 subst t h1 h2 h3 h4;exact HC.of n h
theorem HR.at{g:bF}{TL:List Hp.Tm}{me now:Int}(n:Nd N B g s TL W)(h:PB p C W)(hD:dP D y v W)(t:g.x.T=T)(h1:s.me=me)(h2:s.seq=seq)(h3:s.bR=bR)(h4:s.now=now):HR N B T C D me seq bR now p y v W:=⟨HC.at n h t h1 h2 h3 h4,hD.cell⟩
theorem HR.jD{g:bF}{TL:List Hp.Tm}{me now:Int}(n:Nd N B g s TL W)(h:PB p C W)(hD:dP D y v W)(t:g.x.T=T)(h1:s.me=me)(h2:s.seq=seq)(h3:s.bR=bR)(h4:s.now=now):HR N B T C D me seq bR now p y v W.drew:=HR.at n.drew h hD t h1 h2 h3 h4
theorem J_(a b:Int):IntKind.u32.wrap (IntKind.u64.wrap (a - b))=(a - b)%4294967296:=by
 simp only[IntKind.wrap,IntKind.signed,IntKind.bits];simp
theorem Fv{l:Int}{h d q f:Int}{Q:Ending->World->Prop}(H:Hid (Calls Tryz.prog 181 #[.pointer (some ⟨N,0,none⟩),.pointer (some ⟨B,0,none⟩),.agg #[.int .i64 0,.int .i64 0,.int .i64 h,.bool false,.int .u32 0,.int .u32 d,.int .u32 q,.int .u32 f,.int .u32 0,.int .u32 l,.slice none 0 0,.string ⟨#[]⟩]] W Q)):
  Hid (∀l',l'=l->Calls Tryz.prog 181 #[.pointer (some ⟨N,0,none⟩),.pointer (some ⟨B,0,none⟩),.agg #[.int .i64 0,.int .i64 0,.int .i64 h,.bool false,.int .u32 0,.int .u32 d,.int .u32 q,.int .u32 f,.int .u32 0,.int .u32 l',.slice none 0 0,.string ⟨#[]⟩]] W Q):=by
 rintro _ rfl;exact H
theorem Up.jQ(u:Up B F F' a b)(h:PB p C a)(hn:¬F C):PB p C b∧¬F' C:=u.keep h hn (Cs p)
theorem Up.keepR(u:Up B F F' a b)(h:dP D y v a)(hn:¬F D):dP D y v b∧¬F' D:=u.keep h hn (TI y v)
theorem nR{A:List Rt}(hA:∀y∈A,y.Ok)(d now:Int):(bJ A d now).1.Ok∨(bJ A d now).2=false:=by
 unfold bJ;cases hl:aK A d with
 |none=>exact .inr rfl
 |some y=>
  by_cases hc:(y.valid&&decide (now<y.exp))=true
  ·left;have:=hA y (dN hl).1
   simp_all
  ·right;by_cases hv:y.valid=true
   ·by_cases he:now<y.exp
    ·simp[hv,he]at hc
    ·simp[hv,he]
   ·simp[hv]
theorem qY{g:bF}{TL:List Hp.Tm}{w:World}(n:Nd N B g s TL w)(p:aC)(hq:p.Hd)(r:Rt)(hr:r.Ok)(ra:Option Addr)(rn rc:Nat)(_hnow:zP s.now)(hfl:s.aI.length<=1000000)(hdl:s.aM.length<=1000000):
  Calls Tryz.prog 164 #[.pointer (some ⟨N,0,none⟩),.pointer (some ⟨B,0,none⟩),p.val,GK r (.slice ra rn rc)] w λe w'=>e=.returned (.tuple #[])∧kT N B g s (s.gM p r) TL w w':=by
 have hp:=hq.wf;obtain⟨_,hde,hds,hfr,_,_⟩:=hp.num;have hb0:Below w.heap.size w ((w.alloc p.box).alloc (bQ r (.slice ra rn rc))):=(bn).alloc (by simp) _;have fZ:PB p w.heap.size ((w.alloc p.box).alloc (bQ r (.slice ra rn rc))):=(((aR _ (w.alloc p.box)).alloc (aA _) _).block _ (by simp)).trans (PB.new p w);have hR0:dP (w.heap.size+1) r (.slice ra rn rc) ((w.alloc p.box).alloc (bQ r (.slice ra rn rc))):=by
  have:=bO (w.alloc p.box) (bQ r (.slice ra rn rc));rw[World.size_alloc]at this;exact this
 have n0:=n.later hb0;obtain⟨s2,cK⟩:∃s2,s.gM p r=s2:=⟨_,rfl⟩;rw[cK];replace cK:=hide cK;dsimp only[aC.box,bQ]at hb0 n0;unfold PB at fZ;unfold dP at hR0;dsimp only[aC.box,bQ]at fZ hR0;go_enter Tryz.func164,Tryz.ntmps164;go_upto_region 1 with(fail);generalize World.alloc (World.alloc _ _) _=W1 at hb0 fZ hR0 n0 ⊢;have jV:=n.new (k:=w.heap.size) (aA _);have hRn:=n.new (k:=w.heap.size+1) (Nat.le_succ _);obtain⟨⟨y,fd⟩,hy⟩:∃r,bJ s.A p.aG s.now=r:=⟨_,rfl⟩;have pV:fd=true->bg y.next:=λh=>by
  have:=nR n.nn.cr.tb.ok p.aG s.now;rw[hy]at this;rcases this with h1|h1
  ·exact h1.next
  ·rw[h]at h1;cases h1
 have HF:=hide (mV n0 p.aG s.now hfr hy);generalize kZ:w.heap.size=C at fZ hR0 jV hRn ⊢;replace kZ:=hide kZ;go_cut [8,9]from 10 to 23 (ny y fd W1)
 case first=>
  have hS:HB N B g.x.T C s.me s.seq s.bR s.now p W1 W1.drew:=HB.drew (HB.mk' n0 fZ (aR _ _));have hkB:=hide λW5 h5=>HB.mk' (W:=W5) n0 fZ h5;go_region_held3 (HB N B g.x.T C s.me s.seq s.bR s.now p W1) (first|with_reducible exact hS|with_reducible assumption|(with_reducible apply HB.uo hkB;assumption)|(with_reducible apply HB.jR hkB;assumption)|(with_reducible apply HB.dW hkB)|(with_reducible apply hkB.out;assumption)) ((go_at_call 79;refine(HF.out _ (And.right (by assumption))).mono ?_;rintro e w2 ⟨ao,c,rfl,hb2,hpr⟩;try ((with_reducible have hD:=hpr bV (.slice none 0 0) (kH W1));obtain⟨d0,d1,d2,d3,d4,d5,d6⟩:=hD.cell;have q0:=hD.free 0;have q1:=hD.free 1;have q2:=hD.free 2;have q3:=hD.free 3;have q4:=hD.free 4;have q5:=hD.free 5;have q6:=hD.free 6;have hD':Hid (dP W1.heap.size bV (.slice none 0 0) w2):=hD;clear hD);clear hpr))
  all_goals
   go_wp2_with fail;go_meet;first|with_reducible exact gK hb2|with_reducible exact jG hb2 hD'
 case rest=>
  obtain⟨E,ao,c,rfl,rfl,hE,hEl,hb2⟩:=hcut;have U1:¬Ft N g s E:=n0.new hEl;have n2:=n0.later hb2;have hP2:=PB.below fZ hb2;have hR2:dP (C+1) r (.slice ra rn rc) wc:=dP.later hR0 hb2;have hbb:=hb0.trans (hb2.mono hb0.size);have hs2:=cK.out;unfold St.gM at hs2;rw[hy]at hs2;dsimp only at hs2;clear HF fZ hR0 n0 hb0 hb2 cK;cases fd
  ·rw[aD (by simp)]at hs2;have HB4:=hide (qi n2.drew p.aG r.next hfr hr.next);have hS:HR N B g.x.T C (C+1) s.me s.seq s.bR s.now p r (.slice ra rn rc) wc.drew:=HR.jD n2 hP2 hR2 rfl rfl rfl rfl rfl;go_wp2_with fail;go_region_held3 (HR N B g.x.T C (C+1) s.me s.seq s.bR s.now p r (.slice ra rn rc)) (first|with_reducible exact hS|with_reducible assumption) ((go_at_call 182;refine HB4.out.mono ?_;rintro e w4 ⟨rfl,hN⟩;obtain⟨g4,n4,u4,t4⟩:=hN;obtain⟨lC,qa⟩:=u4.jQ hP2 jV;obtain⟨Kv,Yz⟩:=u4.keepR hR2 hRn;have hk4:HR N B g.x.T C (C+1) s.me s.seq s.bR s.now p r (.slice ra rn rc) w4:=HR.at n4 lC Kv t4.out rfl rfl rfl rfl))
   clear hS hk4;rename_i iw;clear iw;clear HB4;have hsm:=pF {s with A:=kQ s.A p.aG r.next} (St.rQ r.hops p.dest r.seq p.aG ((r.exp - s.now)%4294967296));have HA:=hide (z8 n4.drew (St.rQ r.hops p.dest r.seq p.aG ((r.exp - s.now)%4294967296)) (Cm hr.hops hde hr.seq hfr (by unfold bg;omega)) (Hw _ _ _ _ _ _) hfl hdl);rw[hs2]at HA hsm;dsimp only[aC.val,St.rQ]at HA;have HA':=Fv HA;clear HA;have hS:HR N B g4.x.T C (C+1) s.me s.seq s.bR s.now p r (.slice ra rn rc) w4.drew:=HR.jD n4 lC Kv rfl rfl rfl rfl rfl;go_wp2_with fail;go_region_held3 (HR N B g4.x.T C (C+1) s.me s.seq s.bR s.now p r (.slice ra rn rc)) (first|with_reducible exact hS|with_reducible assumption) ((go_at_call 181;refine(HA'.out _ (by first|exact J_ _ _|exact PO _ _|rfl)).mono ?_;rintro e w5 ⟨rfl,hN⟩;obtain⟨g5,n5,u5,t5⟩:=hN;obtain⟨vJ,abf⟩:=u5.jQ lC qa;obtain⟨Sg,acQ⟩:=u5.keepR Kv Yz;have hk5:HR N B g4.x.T C (C+1) s.me s.seq s.bR s.now p r (.slice ra rn rc) w5:=HR.at n5 vJ Sg t5.out hsm.1.1 hsm.1.2.1 hsm.1.2.2.1 hsm.2))
   clear hS hk5;rename_i iw;clear iw;go_wp2;go_returns;exact⟨rfl,kT.pre hbb ⟨g5,n5,(Up.trans (.below (aR _ _).drew) u4).trans (Up.trans (.below (aR _ _).drew) u5),t5.out.trans t4.out⟩⟩
  ·rw[aO rfl]at hs2;have hny:=pV rfl;obtain⟨e0,e1,e2,e3,e4,e5,e6⟩:=hE.cell;have HB3:=hide (qi n2.drew p.dest y.next hde hny);have hS:HR N B g.x.T C E s.me s.seq s.bR s.now p y (.slice ao y.bG.length c) wc.drew:=HR.jD n2 hP2 hE rfl rfl rfl rfl rfl;go_wp2_with fail;go_region_held3 (HR N B g.x.T C E s.me s.seq s.bR s.now p y (.slice ao y.bG.length c)) (first|with_reducible exact hS|with_reducible assumption) ((go_at_call 182;refine HB3.out.mono ?_;rintro e w3 ⟨rfl,hN⟩;obtain⟨g3,n3,u3,t3⟩:=hN;obtain⟨hP3,MW⟩:=u3.jQ hP2 jV;obtain⟨MO,aa6⟩:=u3.keepR hR2 hRn;obtain⟨ZU,QM⟩:=u3.keepR hE U1;have hk3:HR N B g.x.T C E s.me s.seq s.bR s.now p y (.slice ao y.bG.length c) w3:=HR.at n3 hP3 ZU t3.out rfl rfl rfl rfl))
   clear hS hk3;rename_i iw;clear iw;clear e0 e1 e2 e3 e4 e5 e6 HB3 hE hP2 hR2;obtain⟨s1,hs1⟩:∃s1,({s with A:=kQ s.A p.dest y.next}:St)=s1:=⟨_,rfl⟩;have vH:({s1 with A:=kQ s1.A p.aG r.next}:St).answer (St.rQ r.hops p.dest r.seq p.aG ((r.exp - s1.now)%4294967296))=s2:=by
    rw[<-hs1];exact hs2
   have za:s1.aI.length<=1000000:=by rw[<-hs1];exact hfl
   have Dc:s1.aM.length<=1000000:=by rw[<-hs1];exact hdl
   rw[hs1]at n3 u3 MW aa6;clear hs2 hs1 QM;have hs2:=vH;clear vH;have HB4:=hide (qi n3.drew p.aG r.next hfr hr.next);have hS:HR N B g3.x.T C (C+1) s1.me s1.seq s1.bR s1.now p r (.slice ra rn rc) w3.drew:=HR.jD n3 hP3 MO rfl rfl rfl rfl rfl;go_wp2_with fail;go_region_held3 (HR N B g3.x.T C (C+1) s1.me s1.seq s1.bR s1.now p r (.slice ra rn rc)) (first|with_reducible exact hS|with_reducible assumption) ((go_at_call 182;refine HB4.out.mono ?_;rintro e w4 ⟨rfl,hN⟩;obtain⟨g4,n4,u4,t4⟩:=hN;obtain⟨lC,qa⟩:=u4.jQ hP3 MW;obtain⟨Kv,Yz⟩:=u4.keepR MO aa6;have hk4:HR N B g3.x.T C (C+1) s1.me s1.seq s1.bR s1.now p r (.slice ra rn rc) w4:=HR.at n4 lC Kv t4.out rfl rfl rfl rfl))
   clear hS hk4;rename_i iw;clear iw;clear HB4;have hsm:=pF {s1 with A:=kQ s1.A p.aG r.next} (St.rQ r.hops p.dest r.seq p.aG ((r.exp - s1.now)%4294967296));have HA:=hide (z8 n4.drew (St.rQ r.hops p.dest r.seq p.aG ((r.exp - s1.now)%4294967296)) (Cm hr.hops hde hr.seq hfr (by unfold bg;omega)) (Hw _ _ _ _ _ _) za Dc);rw[hs2]at HA hsm;dsimp only[aC.val,St.rQ]at HA;have HA':=Fv HA;clear HA;have hS:HR N B g4.x.T C (C+1) s1.me s1.seq s1.bR s1.now p r (.slice ra rn rc) w4.drew:=HR.jD n4 lC Kv rfl rfl rfl rfl rfl;go_wp2_with fail;go_region_held3 (HR N B g4.x.T C (C+1) s1.me s1.seq s1.bR s1.now p r (.slice ra rn rc)) (first|with_reducible exact hS|with_reducible assumption) ((go_at_call 181;refine(HA'.out _ (by first|exact J_ _ _|exact PO _ _|rfl)).mono ?_;rintro e w5 ⟨rfl,hN⟩;obtain⟨g5,n5,u5,t5⟩:=hN;obtain⟨vJ,abf⟩:=u5.jQ lC qa;obtain⟨Sg,acQ⟩:=u5.keepR Kv Yz;have hk5:HR N B g4.x.T C (C+1) s1.me s1.seq s1.bR s1.now p r (.slice ra rn rc) w5:=HR.at n5 vJ Sg t5.out hsm.1.1 hsm.1.2.1 hsm.1.2.2.1 hsm.2))
   clear hS hk5;rename_i iw;clear iw;go_wp2;go_returns;exact⟨rfl,kT.pre hbb ⟨g5,n5,((Up.trans (.below (aR _ _).drew) u3).trans (Up.trans (.below (aR _ _).drew) u4)).trans (Up.trans (.below (aR _ _).drew) u5),t5.out.trans (t4.out.trans t3.out)⟩⟩
theorem eT.nil{W W':World}{p:aC}(h:eT W p []):eT W' p []:=⟨h.1,λj hj=>by simp at hj⟩
theorem lU{a c:Int}(h:0<=a∧a<=4611686018427387904)(hc:0<=c∧c<=8589934592):IntKind.u64.wrap (a+c)=a+c:=by
 simp only[IntKind.wrap,IntKind.signed,IntKind.bits];simp;omega
theorem NC{N B:Nat}{g:bF}{s:St}{TL:List Hp.Tm}{w:World}(n:Nd N B g s TL w)(fr:Int)(MJ:bg fr)(p:aC)(hq:p.Hd)(hL:eT w p [])(eZ:0<=s.now∧s.now<=4611686018427387904)(hfl:s.aI.length<=1000000)(hdl:s.aM.length<=1000000):
  Calls Tryz.prog 166 #[.pointer (some ⟨N,0,none⟩),.pointer (some ⟨B,0,none⟩),.int .u32 fr,p.val] w λe w'=>e=.returned (.tuple #[])∧kT N B g s (s.iJ fr p) TL w w':=by
 have hp:=hq.wf;obtain⟨hid,hde,hds,hfr,hfs,_⟩:=hp.num;have hb0:Below w.heap.size w (w.alloc p.box):=bn;have fZ:=PB.new p w;have n0:=n.later hb0;obtain⟨s2,cK⟩:∃s2,s.iJ fr p=s2:=⟨_,rfl⟩;rw[cK];have hs2:=cK;replace cK:=hide cK;unfold St.iJ at hs2;replace hs2:=hide hs2;dsimp only[aC.box]at hb0 n0;unfold PB at fZ;dsimp only[aC.box]at fZ;go_enter Tryz.func166,Tryz.ntmps166;go_upto_region 1 with(fail);generalize World.alloc _ _=W1 at hb0 fZ n0 ⊢;have jV:=n.new (k:=w.heap.size) (aA _);obtain⟨⟨y,fd⟩,hy⟩:∃r,bJ s.A p.aG s.now=r:=⟨_,rfl⟩;have HF:=hide (mV n0 p.aG s.now hfr hy);generalize kZ:w.heap.size=C at fZ jV ⊢;replace kZ:=hide kZ;go_cut [8,9]from 10 to 23 (ny y fd W1)
 case first=>
  have hS:HB N B g.x.T C s.me s.seq s.bR s.now p W1 W1.drew:=HB.drew (HB.mk' n0 fZ (aR _ _));have hkB:=hide λW5 h5=>HB.mk' (W:=W5) n0 fZ h5;go_region_held3 (HB N B g.x.T C s.me s.seq s.bR s.now p W1) (first|with_reducible exact hS|with_reducible assumption|(with_reducible apply HB.uo hkB;assumption)|(with_reducible apply HB.jR hkB;assumption)|(with_reducible apply HB.dW hkB)|(with_reducible apply hkB.out;assumption)) ((go_at_call 79;refine(HF.out _ (And.right (by assumption))).mono ?_;rintro e w2 ⟨ao,c,rfl,hb2,hpr⟩;try ((with_reducible have hD:=hpr bV (.slice none 0 0) (kH W1));obtain⟨d0,d1,d2,d3,d4,d5,d6⟩:=hD.cell;have q0:=hD.free 0;have q1:=hD.free 1;have q2:=hD.free 2;have q3:=hD.free 3;have q4:=hD.free 4;have q5:=hD.free 5;have q6:=hD.free 6;have hD':Hid (dP W1.heap.size bV (.slice none 0 0) w2):=hD;clear hD);clear hpr))
  all_goals
   go_wp2_with fail;go_meet;first|with_reducible exact gK hb2|with_reducible exact jG hb2 hD'
 case rest=>
  obtain⟨E,ao,c,rfl,rfl,hE,hEl,hb2⟩:=hcut;have U1:¬Ft N g s E:=n0.new hEl;have pV:fd=true->bg y.next:=λh=>by
   have:=nR n.nn.cr.tb.ok p.aG s.now;rw[hy]at this;rcases this with h1|h1
   ·exact h1.next
   ·rw[h]at h1;cases h1
  have n2:=n0.later hb2;have hP2:PB p C wc:=PB.below fZ hb2;have hbb:=hb0.trans (hb2.mono hb0.size);have hCE:C≠E:=by have:=PB.lt fZ;omega
  have hs3:=hs2.out;rw[hy]at hs3;dsimp only at hs3;clear HF fZ n0 hb0 hb2 cK hs2;cases fd
  ·rw[aD (by simp)]at hs3;have HX:=hide (iV n2 3 hdl);rw[hs3]at HX;clear hP2 hE;go_wp2_with fail;refine aN HX.out ?_;rintro e w9 ⟨rfl,hN⟩;go_wp2;go_returns;exact⟨rfl,hN.pre hbb⟩
  ·rw[aO rfl]at hs3;have hyn:=pV rfl;have hwt:wrap64 (p.ttl - 1)=p.ttl - 1:=by
    have:=hq.ttl;unfold wrap64;omega
   have hbC:w.heap.size<=C:=by rw[kZ.out];exact aA _
   have lC:=hP2.og (p.ttl - 1);have hb4:Below w.heap.size w (wc.setCell ⟨C,0,none⟩ (.int .i64 (p.ttl - 1))):=hbb.setCell (p:=⟨C,0,none⟩) hbC _;have IB:dP E y (.slice ao y.bG.length c) (wc.setCell ⟨C,0,none⟩ (.int .i64 (p.ttl - 1))):=(kV _ _ _ _ (Ne.symm hCE)).trans hE;obtain⟨p0,p1,p2,p3,p4,p5,p6,p7,p8,p9,jg,ja⟩:=PB.cell hP2;have f0:=PB.free hP2 0;clear n2 hP2 hE hbb;go_upto_region 5 with(fail);generalize World.setCell _ _ _=W4 at lC hb4 IB ⊢;clear p0 p1 p2 p3 p4 p5 p6 p7 p8 p9 jg ja f0;obtain⟨p0,p1,p2,p3,p4,p5,p6,p7,p8,p9,jg,ja⟩:=PB.cell lC;have f2:=PB.free lC 2;dsimp only at p0 p1 p2 p3 p4 p5 p6 p7 p8 p9 jg ja;have vJ:PB ({p with ttl:=p.ttl - 1,hops:=St.far p.hops}:aC) C (W4.setCell ⟨C,2,none⟩ (.int .i64 (St.far p.hops))):=lC.Ci (St.far p.hops);have hb5:Below w.heap.size w (W4.setCell ⟨C,2,none⟩ (.int .i64 (St.far p.hops))):=hb4.setCell (p:=⟨C,2,none⟩) hbC _;have Sn:dP E y (.slice ao y.bG.length c) (W4.setCell ⟨C,2,none⟩ (.int .i64 (St.far p.hops))):=(kV _ _ _ _ (Ne.symm hCE)).trans IB;have n5:=n.later hb5;have hwf:({p with ttl:=p.ttl - 1,hops:=St.far p.hops}:aC).Wf:=by
    have h1:=hq.ttl;have h2:=hq.hops;refine {hp with SN:=?_,SL:=?_,Kl:=?_,Kk:=?_}<;>(unfold St.far;dsimp only;omega)
   have HS:=hide (zZ n5 y.next ({p with ttl:=p.ttl - 1,hops:=St.far p.hops}:aC) hwf [] (hL.below hb5) hfl);obtain⟨s6,hs6⟩:∃z,s.send y.next ({p with ttl:=p.ttl - 1,hops:=St.far p.hops}:aC) []=z:=⟨_,rfl⟩;rw[hs6]at HS;dsimp only[aC.val]at HS;have h6:Hid (s6.now=s.now∧s6.A=s.A∧ {s6 with A:=ic (kQ (kQ s6.A p.dest y.next) p.aG fr) p.aG (s.now+3000)}=s2):=by
    show _∧_∧_;rw[<-hs6];exact⟨rfl,rfl,hs3⟩
   clear hs3 hs6;go_wp2_with fail;refine aN (uE p.hops hq.hops W4) ?_;rintro e w4 ⟨rfl,rfl⟩;clear lC hb4 IB;go_upto_region 6 with(fail);generalize World.setCell _ _ _=W5 at vJ hb5 Sn n5 HS ⊢;clear p0 p1 p2 p3 p4 p5 p6 p7 p8 p9 jg ja f2;obtain⟨p0,p1,p2,p3,p4,p5,p6,p7,p8,p9,jg,ja⟩:=PB.cell vJ;obtain⟨e0,e1,e2,e3,e4,e5,e6⟩:=Sn.cell;dsimp only at p0 p1 p2 p3 p4 p5 p6 p7 p8 p9 jg ja;go_wp2_with fail;refine aN HS.out ?_;rintro e w6 ⟨rfl,hN⟩;obtain⟨g6,n6,u6,t6⟩:=hN;clear p0 p1 p2 p3 p4 p5 p6 p7 p8 p9 jg ja e0 e1 e2 e3 e4 e5 e6 HS;obtain⟨GV,jZ⟩:=u6.jQ vJ jV;obtain⟨U3,QL⟩:=u6.keepR Sn U1;have mI:Up B (Ft N g s) (Ft N g6 s6) w w6:=(Up.below hb5).trans u6;clear vJ Sn n5 u6 hb5;have HB:=hide (qi n6.drew p.dest y.next hde hyn);have hS:HR N B g6.x.T C E s6.me s6.seq s6.bR s6.now ({p with ttl:=p.ttl - 1,hops:=St.far p.hops}:aC) y (.slice ao y.bG.length c) w6.drew:=HR.jD n6 GV U3 rfl rfl rfl rfl rfl;go_wp2_with fail;go_region_held3 (HR N B g6.x.T C E s6.me s6.seq s6.bR s6.now ({p with ttl:=p.ttl - 1,hops:=St.far p.hops}:aC) y (.slice ao y.bG.length c)) (first|with_reducible exact hS|with_reducible assumption) ((go_at_call 182;refine(HB.out).mono ?_;rintro e w7 ⟨rfl,hN⟩;obtain⟨g7,n7,u7,t7⟩:=hN;obtain⟨UO,MV⟩:=u7.jQ GV jZ;obtain⟨U2,MR⟩:=u7.keepR U3 QL;have hk7:HR N B g6.x.T C E s6.me s6.seq s6.bR s6.now ({p with ttl:=p.ttl - 1,hops:=St.far p.hops}:aC) y (.slice ao y.bG.length c) w7:=HR.at n7 UO U2 t7.out rfl rfl rfl rfl))
   clear hS hk7;rename_i iw;clear iw;clear HB;have Zy:=(mI.trans (.below (aR _ _).drew)).trans u7;obtain⟨s7,hs7⟩:∃z,({s6 with A:=kQ s6.A p.dest y.next}:St)=z:=⟨_,rfl⟩;have h7:Hid (s7.now=s.now∧ {s7 with A:=ic (kQ s7.A p.aG fr) p.aG (s.now+3000)}=s2):=by
    show _∧_;rw[<-hs7];exact⟨h6.out.1,h6.out.2.2⟩
   rw[hs7]at n7 Zy MV MR;clear hs7 mI u7 n6 GV U3 jZ QL h6;have HB:=hide (qi n7.drew p.aG fr hfr MJ);have hS:HR N B g7.x.T C E s7.me s7.seq s7.bR s7.now ({p with ttl:=p.ttl - 1,hops:=St.far p.hops}:aC) y (.slice ao y.bG.length c) w7.drew:=HR.jD n7 UO U2 rfl rfl rfl rfl rfl;go_wp2_with fail;go_region_held3 (HR N B g7.x.T C E s7.me s7.seq s7.bR s7.now ({p with ttl:=p.ttl - 1,hops:=St.far p.hops}:aC) y (.slice ao y.bG.length c)) (first|with_reducible exact hS|with_reducible assumption) ((go_at_call 182;refine(HB.out).mono ?_;rintro e w8 ⟨rfl,hN⟩;obtain⟨g8,n8,u8,t8⟩:=hN;obtain⟨IA,YI⟩:=u8.jQ UO MV;obtain⟨QN,YH⟩:=u8.keepR U2 MR;have hk8:HR N B g7.x.T C E s7.me s7.seq s7.bR s7.now ({p with ttl:=p.ttl - 1,hops:=St.far p.hops}:aC) y (.slice ao y.bG.length c) w8:=HR.at n8 IA QN t8.out rfl rfl rfl rfl))
   clear hS hk8;rename_i iw;clear iw;clear HB;have R_:=(Zy.trans (.below (aR _ _).drew)).trans u8;obtain⟨s8,hs8⟩:∃z,({s7 with A:=kQ s7.A p.aG fr}:St)=z:=⟨_,rfl⟩;have h8:Hid (s8.now=s.now∧ {s8 with A:=ic s8.A p.aG (s.now+3000)}=s2):=by
    show _∧_;rw[<-hs8];exact⟨h7.out.1,h7.out.2⟩
   rw[hs8]at n8 R_ YI YH;clear hs8 Zy u8 n7 UO U2 MV MR h7;have HV:Hid (∀t,t=s8.now+3000->Calls Tryz.prog 81 #[.pointer (some ⟨g8.x.T,0,none⟩),.int .u32 p.aG,.int .u64 t] w8.drew λr w'=>r=.returned (.tuple #[])∧kT N B g8 s8 s2 TL w8.drew w'):=by
    rintro _ rfl;have:=KQ n8.drew p.aG (s8.now+3000) hfr (by have:=h8.out.1;unfold zP;omega);rw[show({s8 with A:=ic s8.A p.aG (s8.now+3000)}:St)=s2 from by have e:=h8.out.2;rw[<-h8.out.1]at e;exact e]at this;exact this
   have hn8:0<=s8.now∧s8.now<=4611686018427387904:=by rw[h8.out.1];exact eZ
   have hsm:Hid (s2.me=s8.me∧s2.seq=s8.seq∧s2.bR=s8.bR∧s2.now=s8.now):=by
    show _∧_;rw[<-h8.out.2];exact⟨rfl,rfl,rfl,rfl⟩
   have hS:HR N B g8.x.T C E s8.me s8.seq s8.bR s8.now ({p with ttl:=p.ttl - 1,hops:=St.far p.hops}:aC) y (.slice ao y.bG.length c) w8.drew:=HR.jD n8 IA QN rfl rfl rfl rfl rfl;go_wp2_with fail;go_region_held3 (HR N B g8.x.T C E s8.me s8.seq s8.bR s8.now ({p with ttl:=p.ttl - 1,hops:=St.far p.hops}:aC) y (.slice ao y.bG.length c)) (first|with_reducible exact hS|with_reducible assumption) ((go_at_call 81;refine(HV.out _ (by first|rfl|exact lU hn8 (by decide))).mono ?_;rintro e w9 ⟨rfl,hN⟩;obtain⟨g9,n9,u9,t9⟩:=hN;obtain⟨GU,ad2⟩:=u9.jQ IA YI;obtain⟨NZ,ad1⟩:=u9.keepR QN YH;have ZL:HR N B g8.x.T C E s8.me s8.seq s8.bR s8.now ({p with ttl:=p.ttl - 1,hops:=St.far p.hops}:aC) y (.slice ao y.bG.length c) w9:=HR.at n9 GU NZ t9.out hsm.out.1 hsm.out.2.1 hsm.out.2.2.1 hsm.out.2.2.2))
   clear hS ZL;rename_i iw;clear iw;have uW:=(R_.trans (.below (aR _ _).drew)).trans u9;have ta:g9.x.T=g.x.T:=t9.out.trans (t8.out.trans (t7.out.trans t6.out));clear IA QN GU NZ;go_wp2;go_returns;exact⟨rfl,g9,n9,uW,ta⟩
variable{f:Int->Option Nat}{A:List Rt}{B M N T:Nat}{s:St}{w:World}
def vY(A:List Rt)(d:Int):Bool:=(aK A d).any λy=>decide (0<y.bG.length)
theorem K8{me:Int}{g:Int->Value}(h:MT me T M f g A w)(d:Int)(hd:bg d):
  Calls Tryz.prog 167 #[.pointer (some ⟨T,0,none⟩),.int .u32 d] w λe w'=>e=.returned (.bool (vY A d))∧w'=w:=by
 obtain⟨t0,t1⟩:=h.blk.cell;have hlk:=h.map.look hd;cases hl:aK A d with
 |none=>
  rw[h.off hd hl]at hlk;simp only[fO]at hlk;have hn:vY A d=false:=by simp[vY,hl]
  rw[hn];clear h hn hl;go_enter Tryz.func167,Tryz.ntmps167;go_wp2;go_ret;exact⟨rfl,rfl⟩
 |some x=>
  obtain⟨_,_,B,hB,hL,hR⟩:=h.line hl;rw[hB]at hlk;simp only[fO]at hlk;obtain⟨ag,cg,hg,_⟩:=ak hR;obtain⟨b0,b1,b2,b3,b4,b5,b6⟩:=hL.cell;rw[hg]at b6;have hn:vY A d=decide (0<x.bG.length):=by simp[vY,hl]
  rw[hn];clear h hn hl hL hB hR;by_cases h0:0<x.bG.length
  ·have h1:(0:Int)<(x.bG.length:Int):=by omega
   go_enter Tryz.func167,Tryz.ntmps167;go_wp2;go_ret;exact⟨by simp[h0],rfl⟩
  ·have h1:¬(0:Int)<(x.bG.length:Int):=by omega
   go_enter Tryz.func167,Tryz.ntmps167;go_wp2;go_ret;exact⟨by simp,rfl⟩
def KA(A:List Rt)(d:Int):List Rt:=gD A d St.uy
theorem K9{me:Int}{g:Int->Value}(h:MT me T M f g A w)(d:Int)(hd:bg d):
  Calls Tryz.prog 169 #[.pointer (some ⟨T,0,none⟩),.int .u32 d] w λe w'=>∃g',e=.returned (.tuple #[])∧MT me T M f g' (KA A d) w'∧(∀k,l9 T M f g' (KA A d) k->l9 T M f g A k)∧Fx (l9 T M f g A) w w':=by
 obtain⟨t0,t1⟩:=h.blk.cell;have hlk:=h.map.look hd;cases hl:aK A d with
 |none=>
  rw[h.off hd hl]at hlk;simp only[fO]at hlk;have hn:KA A d=A:=nN hl St.uy;rw[hn];go_enter Tryz.func169,Tryz.ntmps169;go_wp2;go_returns;exact⟨g,rfl,h,λ_ h=>h,Fx.refl _ _⟩
 |some x=>
  obtain⟨Io,hxd,B,hB,hL,hR⟩:=h.line hl;rw[hB]at hlk;simp only[fO]at hlk;obtain⟨b0,b1,b2,b3,b4,b5,b6⟩:=hL.cell;have fz:=hL.free 1;have FE:=h.ok x Io;have hg1:w.grownBy (w.setCell ⟨B,1,none⟩ (.int .u32 (gr x.seq))) (some B):=ah (ay _ (some B)) 1 _;have hL1:=hL.set1 (gr x.seq);have U5:∀c,bQ x (g d)≠ .cells c 34 (0,0):=λc e=>(by cases e);have hR1:=hR.kept hg1 (.inr (aH hR hL U5));obtain⟨k1,k2⟩:=h.turn hl hB St.uy (λ_=>rfl) ⟨FE.dest,sD FE.seq,FE.hops,FE.next,FE.exp,FE.Nu,FE.bG,FE.vQ⟩ (g d) hL1 hR1 (.inr (.inl rfl)) (λk hk hkB _=>hg1.block k (h.lt hk) (λe=>hkB (by cases e;rfl)));have hfx:Fx (l9 T M f g A) w (w.setCell ⟨B,1,none⟩ (.int .u32 (gr x.seq))):=Fx.grown hg1 λk e=>by
   cases e;exact .inr (.inr ⟨x,Io,.inl (by rw[hxd];exact hB)⟩)
  have hin:∀k,l9 T M f (λe=>if e=d then g d else g e) (KA A d) k->l9 T M f g A k:=λk hk=>by
   rcases k2 k hk with h1|h1
   ·exact h1
   ·exact .inr (.inr ⟨x,Io,.inr (by rw[hxd];exact h1)⟩)
  clear h hL hR hg1 hL1 hR1 k2 hB;go_enter Tryz.func169,Tryz.ntmps169;go_wp2_with(go_at_call 42;refine(nQ _ _).mono ?_;rintro e w5 ⟨rfl,rfl⟩);go_returns;exact⟨_,rfl,k1,hin,hfx⟩
theorem Zc{g:bF}{TL:List Hp.Tm}(n:Nd N B g s TL w)(d:Int)(hd:bg d):
  Calls Tryz.prog 167 #[.pointer (some ⟨g.x.T,0,none⟩),.int .u32 d] w λe w'=>e=.returned (.bool (vY s.A d))∧w'=w:=K8 n.nn.cr.tb d hd
theorem Zi{g:bF}{TL:List Hp.Tm}(n:Nd N B g s TL w)(d:Int)(hd:bg d):
  Calls Tryz.prog 169 #[.pointer (some ⟨g.x.T,0,none⟩),.int .u32 d] w λe w'=>e=.returned (.tuple #[])∧kT N B g s {s with A:=gD s.A d St.uy} TL w w':=by
 have h:=n.nn.cr.tb;rw[n.nn.eq.self]at h;refine(K9 h d hd).mono ?_;rintro e w' ⟨g',rfl,h1,h2,h3⟩;exact⟨rfl,n.uX ⟨_,_,_,h1,λk hk=> .inl (h2 k hk)⟩ h3⟩
theorem Uu:(Tryz.prog.info? 56).map (λi=>(i.zero,i.size,i.bytes))=some (some (.agg #[.int .u32 0,.string ⟨#[]⟩]),2,24):=by kernel_rfl
theorem Rc(W:World)(t:Int)(s:ByteArray):∀(j:Nat) (u:Value),(sK [(t,s)])[j]?=some u->(W.alloc (.cells #[.int .u32 t,.string s] 56)).cell? ((⟨W.heap.size,0,none⟩:Addr).add j)=some u:=by
 intro j u hj;have h:=bO W (.cells #[.int .u32 t,.string s] 56);rw[Addr.add_lit,Nat.zero_add]
 match j,hj with
 |0,hj=>exact(aF _ _ 0 _ _ _ h).trans hj
 |1,hj=>exact(aF _ _ 1 _ _ _ h).trans hj
 |j+2,hj=>simp[sK]at hj
theorem je.comes{base:Nat}{a:oW}{aY:List (Bool×Int×Int)}{aI aT Y1:List (Int×ByteArray)}{aM:List Int}{W W7:World}(h:je B base a aY aI aT aM W){v7:Value}(ho:W7.ownsRow base 56 2 v7 Y1.length (sK Y1))(hg:W.grownBy W7 a.bL.ownBlock):
  nW B a W7∧je B base {a with bL:=v7} aY aI Y1 aM (W7.setCell ⟨B,5,none⟩ v7)∧Fx (iX B a) W (W7.setCell ⟨B,5,none⟩ v7):=by
 have hBr:a.bL.ownBlock≠some B:=aH h.bL h.blk (λc e=>(by cases e));have iG:nW B a W7:=h.blk.block (hg.block _ h.blk.lt (λe=>hBr e.symm));have hg2:W7.grownBy (W7.setCell ⟨B,5,none⟩ v7) (some B):=ah (ay _ (some B)) 5 v7;have f1:=h.bN.kept hg (bP h.bN h.bL (by decide));have f2:=h.aG.kept hg (bP h.aG h.bL (by decide));have f3:=h.mW.kept hg (bP h.mW h.bL (by decide));exact⟨iG,⟨iG.Xd v7,f3.kept hg2 (.inr (aH f3 iG (λc e=>(by cases e)))),f2.kept hg2 (.inr (aH f2 iG (λc e=>(by cases e)))),ho.kept hg2 (.inr (aH ho iG (λc e=>(by cases e)))),f1.kept hg2 (.inr (aH f1 iG (λc e=>(by cases e))))⟩,
  aQ (Fx.grown hg λk e=> .inr (.inr (.inr (.inl e)))) hg2 λi _ e=>by cases e;exact .inl rfl⟩
theorem Ji{N B:Nat}{g:bF}{s:St}{TL:List Hp.Tm}{w:World}(n:Nd N B g s TL w)(fr:Int)(_hfrm:bg fr)(p:aC)(hq:p.Hd)(hL:eT w p [])(eZ:0<=s.now∧s.now<=4611686018427387904)(hfl:s.aI.length<=1000000)(hdl:s.aM.length<=1000000)(hcl:s.aT.length<=1000000):
  Calls Tryz.prog 133 #[.pointer (some ⟨N,0,none⟩),.pointer (some ⟨B,0,none⟩),.int .u32 fr,p.val] w λe w'=>e=.returned (.tuple #[])∧kT N B g s (s.fH fr p) TL w w':=by
 have hp:=hq.wf;obtain⟨hid,hde,hds,hfr,hfs,_⟩:=hp.num;have hb0:Below w.heap.size w (w.alloc p.box):=bn;have fZ:=PB.new p w;have n0:=n.later hb0;obtain⟨s2,cK⟩:∃s2,s.fH fr p=s2:=⟨_,rfl⟩;rw[cK];have hs2:=cK;unfold St.fH at hs2;replace hs2:=hide hs2;dsimp only[aC.box]at hb0 n0;unfold PB at fZ;dsimp only[aC.box]at fZ;go_enter Tryz.func133,Tryz.ntmps133;go_upto_region 1 with(fail);generalize World.alloc _ _=W1 at hb0 fZ n0 ⊢;have jV:=n.new (k:=w.heap.size) (aA _);obtain⟨⟨y,fd⟩,hy⟩:∃r,bJ s.A p.dest s.now=r:=⟨_,rfl⟩;have HF:=hide (mV n0 p.dest s.now hde hy);generalize kZ:w.heap.size=C at fZ jV ⊢;replace kZ:=hide kZ;go_cut [8,9]from 10 to 23 (ny y fd W1)
 case first=>
  have hS:HB N B g.x.T C s.me s.seq s.bR s.now p W1 W1.drew:=HB.drew (HB.mk' n0 fZ (aR _ _));have hkB:=hide λW5 h5=>HB.mk' (W:=W5) n0 fZ h5;go_region_held3 (HB N B g.x.T C s.me s.seq s.bR s.now p W1) (first|with_reducible exact hS|with_reducible assumption|(with_reducible apply HB.uo hkB;assumption)|(with_reducible apply HB.jR hkB;assumption)|(with_reducible apply HB.dW hkB)|(with_reducible apply hkB.out;assumption)) ((go_at_call 79;refine(HF.out _ (And.right (by assumption))).mono ?_;rintro e w2 ⟨ao,c,rfl,hb2,hpr⟩;try ((with_reducible have hD:=hpr bV (.slice none 0 0) (kH W1));obtain⟨d0,d1,d2,d3,d4,d5,d6⟩:=hD.cell;have q0:=hD.free 0;have q1:=hD.free 1;have q2:=hD.free 2;have q3:=hD.free 3;have q4:=hD.free 4;have q5:=hD.free 5;have q6:=hD.free 6;have hD':Hid (dP W1.heap.size bV (.slice none 0 0) w2):=hD;clear hD);clear hpr))
  all_goals
   go_wp2_with fail;go_meet;first|with_reducible exact gK hb2|with_reducible exact jG hb2 hD'
 case rest=>
  obtain⟨E,ao,c,rfl,rfl,hE,hEl,hb2⟩:=hcut;have U1:¬Ft N g s E:=n0.new hEl;have pV:fd=true->bg y.next:=λh=>by
   have:=nR n.nn.cr.tb.ok p.dest s.now;rw[hy]at this;rcases this with h1|h1
   ·exact h1.next
   ·rw[h]at h1;cases h1
  have hCE:C≠E:=by have:=PB.lt fZ;omega
  have hP2:PB p C wc.drew:=PB.below fZ hb2.drew;have hE2:dP E y (.slice ao y.bG.length c) wc.drew:=hE;have hbb:Below w.heap.size w wc.drew:=(hb0.trans (hb2.mono hb0.size)).drew;have n2:=n.later hbb;have hS:HC N B g.x.T C s.me s.seq s.bR s.now p wc.drew:=HC.of n2 hP2;have hs3:=hs2.out;rw[hy]at hs3;dsimp only at hs3;clear HF fZ n0 hb0 hb2 cK hs2 hE;by_cases pY:p.dest=s.me
  ·have hbe:(p.dest==s.me)=true:=by simpa using pY
   rw[aO pY]at hs3;clear pY;go_wp2_with fail;go_region_held3 (HC N B g.x.T C s.me s.seq s.bR s.now p) (first|with_reducible exact hS|with_reducible assumption) (fail)
   rename_i iw;clear iw hS;generalize World.drew _=W2 at hP2 hE2 hbb n2 ⊢;obtain⟨i0,hi,hz0,hz1,hz2⟩:=info_parts Uu;have ha2:=n2.ac;have hbs:=n2.base;obtain⟨_,_,_,_,_,_,_,p7,_,_,_,ja⟩:=PB.cell hP2;have c5:=ha2.blk.cell.2.2.2.2.2.1;have haT:=λo=>(ha2.alloc o).blk.cell.2.2.2.2.2.1;have hpT:=λo=>(PB.cell (PB.alloc hP2 o)).2.2.2.2.2.2.2.1;have hqT:=λo=>(PB.cell (PB.alloc hP2 o)).2.2.2.2.2.2.2.2.2.2.2;have hrow:=λo=>(ha2.alloc o).drew.bL;have hcf:=λW=>Rc W p.aG p.pay;have jh:Hid (∀o:Obj,B+1<=(W2.alloc o).drew.heap.size):=by
    intro o;show B+1<=(W2.alloc o).heap.size;rw[World.size_alloc];omega
   have HX:Hid (∀v7 w7,w7.ownsRow (B+1) 56 2 v7 (s.aT.length+1) (sK s.aT++sK [(p.aG,p.pay)])->(W2.alloc (.cells #[.int .u32 p.aG,.string p.pay] 56)).drew.grownBy w7 g.a.bL.ownBlock->(w7.cell? ⟨B,5,none⟩=some g.a.bL∧w7.frozen? ⟨B,5,none⟩=false)∧kT N B g s s2 TL w (w7.setCell ⟨B,5,none⟩ v7)):=by
    intro v7 w7 gB fP;rw[<-Aa,show s.aT.length+1=(s.aT++ [(p.aG,p.pay)]).length by simp]at gB;have hb3:Below W2.heap.size W2 (W2.alloc (.cells #[.int .u32 p.aG,.string p.pay] 56)).drew:=(bn).drew;have n3:=n2.later hb3;obtain⟨iG,hm,hf⟩:=n3.ac.comes gB fP;obtain⟨q1,q2⟩:=n3.act (s':=s2) (by rw[<-hs3];exact hm) hf (by rw[<-hs3];exact⟨rfl,rfl,rfl,rfl,rfl,rfl,rfl,rfl,rfl,rfl,rfl,rfl,rfl,rfl,rfl⟩) (by rw[<-hs3];exact n3.now) (by rw[<-hs3];exact n3.bq);exact⟨⟨iG.cell.2.2.2.2.2.1,iG.free 5⟩,kT.pre (hbb.trans (hb3.mono hbb.size)) ⟨_,q1,q2,rfl⟩⟩
   clear hs3 n2 ha2 hP2 hE2 hbb;go_wp2_with fail;go_region_law (refine gu rfl (.tmp 52) (.tmp 58) 49 rfl (B+1) 56 i0 (.agg #[.int .u32 0,.string ⟨#[]⟩]) 2 24 Tryz.underlying49 hi hz0 hz1 hz2 rfl (by decide) g.a.bL s.aT.length (sK s.aT) (by simp[Act.eval]) (hrow _) ⟨_,0,none⟩ 1 1 (sK [(p.aG,p.pay)]) (by simp[Act.eval]) rfl (hcf _) (Pf _) (by unfold maxLen;omega) (by omega) (jh.out _) ?_;intro v7 w7 gB fP _;obtain⟨⟨g1,g2⟩,hm⟩:=HX.out _ _ gB fP;obtain⟨N8,Rk,rfl,_⟩:=ak gB)
   all_goals
    generalize World.setCell _ _ _=w8 at hm ⊢;clear g1 g2 fP gB;go_wp2;go_returns;exact⟨rfl,hm⟩
  ·have hbe:(p.dest==s.me)=false:=by simpa using pY
   rw[aD pY]at hs3;go_wp2_with fail;go_region_held3 (HC N B g.x.T C s.me s.seq s.bR s.now p) (first|with_reducible exact hS|with_reducible assumption) (fail)
   rename_i iw;clear iw hS;generalize World.drew _=W2 at hP2 hE2 hbb n2 ⊢;have GI:Up B (Ft N g s) (Ft N g s) w W2:=.below hbb;by_cases htl:p.ttl=1
   ·have hbt:(p.ttl==1)=true:=by simpa using htl
    rw[aO htl]at hs3;clear htl;have HX:=hide (iV n2 4 hdl);rw[hs3]at HX;obtain⟨p0,p1,p2,p3,p4,p5,p6,p7,p8,p9,jg,ja⟩:=PB.cell hP2;clear hP2 hE2;go_wp2_with fail;refine aN HX.out ?_;rintro e w9 ⟨rfl,hN⟩;obtain⟨g9,n9,u9,t9⟩:=hN;go_wp2;go_returns;exact⟨rfl,g9,n9,GI.trans u9,t9.out.trans rfl⟩
   ·have hbt:(p.ttl==1)=false:=by simpa using htl
    rw[aD htl]at hs3;cases fd
    ·rw[aD (by simp)]at hs3;obtain⟨s4,hs4⟩:∃z,s.drop 3=z:=⟨_,rfl⟩;have HD:=hide (iV n2 3 hdl);rw[hs4]at HD;have h4:Hid (s4.now=s.now∧s4.me=s.me∧s4.seq=s.seq∧s4.bR=s.bR∧s4.aI=s.aI∧({s4 with A:=gD s4.A p.dest St.uy}:St).kF fr p.dest=s2):=by
      show _∧_;rw[<-hs4];exact⟨rfl,rfl,rfl,rfl,rfl,hs3⟩
     clear hs3 hs4;obtain⟨p0,p1,p2,p3,p4,p5,p6,p7,p8,p9,jg,ja⟩:=PB.cell hP2;go_wp2_with fail;refine aN HD.out ?_;rintro e w4 ⟨rfl,hN⟩;obtain⟨g4,n4,u4,t4⟩:=hN;obtain⟨lC,qa⟩:=u4.jQ hP2 jV;obtain⟨IB,ac9⟩:=u4.keepR hE2 U1;have oM:=GI.trans u4;clear p0 p1 p2 p3 p4 p5 p6 p7 p8 p9 jg ja HD hP2 hE2 n2 u4 GI;have HB:=hide (Zi n4.drew p.dest hde);have hS:HR N B g4.x.T C E s4.me s4.seq s4.bR s4.now p y (.slice ao y.bG.length c) w4.drew:=HR.jD n4 lC IB rfl rfl rfl rfl rfl;go_wp2_with fail;go_region_held3 (HR N B g4.x.T C E s4.me s4.seq s4.bR s4.now p y (.slice ao y.bG.length c)) (first|with_reducible exact hS|with_reducible assumption) ((go_at_call 169;refine(HB.out).mono ?_;rintro e w5 ⟨rfl,hN⟩;obtain⟨g5,n5,u5,t5⟩:=hN;obtain⟨vJ,abf⟩:=u5.jQ lC qa;obtain⟨Sn,ac8⟩:=u5.keepR IB ac9;have hk5:HR N B g4.x.T C E s4.me s4.seq s4.bR s4.now p y (.slice ao y.bG.length c) w5:=HR.at n5 vJ Sn t5.out rfl rfl rfl rfl))
     clear hS hk5;rename_i iw;clear iw;clear HB;have wU:=(oM.trans (.below (aR _ _).drew)).trans u5;obtain⟨s5,hs5⟩:∃z,({s4 with A:=gD s4.A p.dest St.uy}:St)=z:=⟨_,rfl⟩;have h5:Hid (s5.aI=s.aI∧s5.kF fr p.dest=s2):=by
      show _∧_;rw[<-hs5];exact⟨h4.out.2.2.2.2.1,h4.out.2.2.2.2.2⟩
     rw[hs5]at n5 wU;have HX:=hide (BR n5 fr p.dest hde (by rw[h5.out.1];exact hfl));rw[h5.out.2]at HX;obtain⟨p0,p1,p2,p3,p4,p5,p6,p7,p8,p9,jg,ja⟩:=PB.cell vJ;clear hs5 h5 h4 vJ lC IB Sn n4;go_wp2_with fail;refine aN HX.out ?_;rintro e w9 ⟨rfl,hN⟩;obtain⟨g9,n9,u9,t9⟩:=hN;go_wp2;go_returns;exact⟨rfl,g9,n9,wU.trans u9,t9.out.trans (t5.out.trans t4.out)⟩
    ·rw[aO rfl]at hs3;have hyn:=pV rfl;have hwt:wrap64 (p.ttl - 1)=p.ttl - 1:=by
      have:=hq.ttl;unfold wrap64;omega
     have hbC:w.heap.size<=C:=by rw[kZ.out];exact aA _
     have lC:PB ({p with ttl:=p.ttl - 1}:aC) C (W2.setCell ⟨C,0,none⟩ (.int .i64 (p.ttl - 1))):=hP2.og (p.ttl - 1);have hb4:Below w.heap.size w (W2.setCell ⟨C,0,none⟩ (.int .i64 (p.ttl - 1))):=hbb.setCell (p:=⟨C,0,none⟩) hbC _;have IB:dP E y (.slice ao y.bG.length c) (W2.setCell ⟨C,0,none⟩ (.int .i64 (p.ttl - 1))):=(kV _ _ _ _ (Ne.symm hCE)).trans hE2;have n4:=n.later hb4;have hwf:({p with ttl:=p.ttl - 1}:aC).Wf:=by
      have h1:=hq.ttl;refine {hp with SN:=?_,SL:=?_}<;>(dsimp only;omega)
     have HS:=hide (zZ n4 y.next ({p with ttl:=p.ttl - 1}:aC) hwf [] (hL.below hb4) hfl);obtain⟨s6,hs6⟩:∃z,s.send y.next ({p with ttl:=p.ttl - 1}:aC) []=z:=⟨_,rfl⟩;rw[hs6]at HS;dsimp only[aC.val]at HS;have h6:Hid (s6.now=s.now∧ {s6 with A:=ic (ic s6.A p.dest (s.now+3000)) p.aG (s.now+3000)}=s2):=by
      show _∧_;rw[<-hs6];exact⟨rfl,hs3⟩
     clear hs3 hs6;obtain⟨p0,p1,p2,p3,p4,p5,p6,p7,p8,p9,jg,ja⟩:=PB.cell hP2;have f0:=PB.free hP2 0;clear n2 hP2 hE2 hbb GI;go_upto_region 11 with(fail);generalize World.setCell _ _ _=W4 at lC hb4 IB n4 HS ⊢;clear p0 p1 p2 p3 p4 p5 p6 p7 p8 p9 jg ja f0;obtain⟨p0,p1,p2,p3,p4,p5,p6,p7,p8,p9,jg,ja⟩:=PB.cell lC;obtain⟨e0,e1,e2,e3,e4,e5,e6⟩:=IB.cell;dsimp only at p0 p1 p2 p3 p4 p5 p6 p7 p8 p9 jg ja;clear htl;go_wp2_with fail;refine aN HS.out ?_;rintro e w6 ⟨rfl,hN⟩;obtain⟨g6,n6,u6,t6⟩:=hN;clear p0 p1 p2 p3 p4 p5 p6 p7 p8 p9 jg ja e0 e1 e2 e3 e4 e5 e6 HS;obtain⟨GV,jZ⟩:=u6.jQ lC jV;obtain⟨U3,QL⟩:=u6.keepR IB U1;have mI:Up B (Ft N g s) (Ft N g6 s6) w w6:=(Up.below hb4).trans u6;clear lC IB n4 u6 hb4;have ZJ:0<=s6.now∧s6.now<=4611686018427387904:=by rw[h6.out.1];exact eZ
     have HV:Hid (∀t,t=s6.now+3000->Calls Tryz.prog 81 #[.pointer (some ⟨g6.x.T,0,none⟩),.int .u32 p.dest,.int .u64 t] w6.drew λr w'=>r=.returned (.tuple #[])∧kT N B g6 s6 {s6 with A:=ic s6.A p.dest (s6.now+3000)} TL w6.drew w'):=by
      rintro _ rfl;exact KQ n6.drew p.dest (s6.now+3000) hde (by unfold zP;omega)
     have hS:HR N B g6.x.T C E s6.me s6.seq s6.bR s6.now ({p with ttl:=p.ttl - 1}:aC) y (.slice ao y.bG.length c) w6.drew:=HR.jD n6 GV U3 rfl rfl rfl rfl rfl;go_wp2_with fail;go_region_held3 (HR N B g6.x.T C E s6.me s6.seq s6.bR s6.now ({p with ttl:=p.ttl - 1}:aC) y (.slice ao y.bG.length c)) (first|with_reducible exact hS|with_reducible assumption) ((go_at_call 81;refine(HV.out _ (by first|rfl|exact lU ZJ (by decide))).mono ?_;rintro e w7 ⟨rfl,hN⟩;obtain⟨g7,n7,u7,t7⟩:=hN;obtain⟨UO,MV⟩:=u7.jQ GV jZ;obtain⟨U2,MR⟩:=u7.keepR U3 QL;have hk7:HR N B g6.x.T C E s6.me s6.seq s6.bR s6.now ({p with ttl:=p.ttl - 1}:aC) y (.slice ao y.bG.length c) w7:=HR.at n7 UO U2 t7.out rfl rfl rfl rfl))
     clear hS hk7;rename_i iw;clear iw;clear HV;have Zy:=(mI.trans (.below (aR _ _).drew)).trans u7;obtain⟨s7,hs7⟩:∃z,({s6 with A:=ic s6.A p.dest (s6.now+3000)}:St)=z:=⟨_,rfl⟩;have h7:Hid (s7.now=s.now∧ {s7 with A:=ic s7.A p.aG (s7.now+3000)}=s2):=by
      show _∧_;rw[<-hs7];have e:=h6.out.2;rw[<-h6.out.1]at e;exact⟨h6.out.1,e⟩
     rw[hs7]at n7 Zy MV MR;clear hs7 mI u7 n6 GV U3 jZ QL h6;have hn7:0<=s7.now∧s7.now<=4611686018427387904:=by rw[h7.out.1];exact eZ
     have HV:Hid (∀t,t=s7.now+3000->Calls Tryz.prog 81 #[.pointer (some ⟨g7.x.T,0,none⟩),.int .u32 p.aG,.int .u64 t] w7.drew λr w'=>r=.returned (.tuple #[])∧kT N B g7 s7 s2 TL w7.drew w'):=by
      rintro _ rfl;have:=KQ n7.drew p.aG (s7.now+3000) hfr (by unfold zP;omega);rw[h7.out.2]at this;exact this
     have hsm:Hid (s2.me=s7.me∧s2.seq=s7.seq∧s2.bR=s7.bR∧s2.now=s7.now):=by
      show _∧_;rw[<-h7.out.2];exact⟨rfl,rfl,rfl,rfl⟩
     have hS:HR N B g7.x.T C E s7.me s7.seq s7.bR s7.now ({p with ttl:=p.ttl - 1}:aC) y (.slice ao y.bG.length c) w7.drew:=HR.jD n7 UO U2 rfl rfl rfl rfl rfl;go_wp2_with fail;go_region_held3 (HR N B g7.x.T C E s7.me s7.seq s7.bR s7.now ({p with ttl:=p.ttl - 1}:aC) y (.slice ao y.bG.length c)) (first|with_reducible exact hS|with_reducible assumption) ((go_at_call 81;refine(HV.out _ (by first|rfl|exact lU hn7 (by decide))).mono ?_;rintro e w8 ⟨rfl,hN⟩;obtain⟨g8,n8,u8,t8⟩:=hN;obtain⟨IA,YI⟩:=u8.jQ UO MV;obtain⟨QN,YH⟩:=u8.keepR U2 MR;have hk8:HR N B g7.x.T C E s7.me s7.seq s7.bR s7.now ({p with ttl:=p.ttl - 1}:aC) y (.slice ao y.bG.length c) w8:=HR.at n8 IA QN t8.out hsm.out.1 hsm.out.2.1 hsm.out.2.2.1 hsm.out.2.2.2))
     clear hS hk8;rename_i iw;clear iw;have R_:=(Zy.trans (.below (aR _ _).drew)).trans u8;have ta:g8.x.T=g.x.T:=t8.out.trans (t7.out.trans t6.out);clear UO U2 IA QN;go_wp2;go_returns;exact⟨rfl,g8,n8,R_,ta⟩
end Go.Proofs.YtakaadcpaeiccabGreat
