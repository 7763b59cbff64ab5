import Derived.Test.YtakaadcpaeiccabGreatO11
set_option maxHeartbeats 8000000
set_option maxRecDepth 100000
namespace Go.Proofs.YtakaadcpaeiccabGreat
open Go.RowKit Go.Maps
variable{fd:Bool}{seq cZ:Int}{B C N T c:Nat}{o:Obj}{ao:Option Addr}{p:aC}{x y:Rt}{s:St}{u v:Value}{W W0 W1 a w w2:World}
theorem cell_later{W':World}{b i:Nat}(h:W.cell? ⟨b,i,none⟩=some v)(hb:Below W.heap.size W W')(hl:b<W.heap.size):W'.cell? ⟨b,i,none⟩=some v:=(hb.cell (p:=⟨b,i,none⟩) hl).trans h
@[reducible] def HC(N B T C : Nat)(me seq cZ now : Int)(p : aC)(W : World): Prop :=
 (W.cell? ⟨N,2,none⟩=some (.int .u32 me)∧W.cell? ⟨N,3,none⟩=some (.int .u32 seq)∧W.cell? ⟨N,4,none⟩=some (.int .u64 cZ)∧W.cell? ⟨N,7,none⟩=some (.pointer (some ⟨T,0,none⟩))∧W.cell? ⟨B,0,none⟩=some (.int .u64 now))∧
 (W.cell? ⟨C,0,none⟩=some (.int .i64 p.ttl)∧W.cell? ⟨C,1,none⟩=some (.int .i64 p.kind)∧W.cell? ⟨C,2,none⟩=some (.int .i64 p.hops)∧W.cell? ⟨C,3,none⟩=some (.bool p.unk)∧W.cell? ⟨C,4,none⟩=some (.int .u32 p.id)∧W.cell? ⟨C,5,none⟩=some (.int .u32 p.dest)∧W.cell? ⟨C,6,none⟩=some (.int .u32 p.aX)∧W.cell? ⟨C,7,none⟩=some (.int .u32 p.aI)∧W.cell? ⟨C,8,none⟩=some (.int .u32 p.dw)∧W.cell? ⟨C,9,none⟩=some (.int .u32 p.life)∧W.cell? ⟨C,10,none⟩=some (.slice p.la p.ln p.lc)∧W.cell? ⟨C,11,none⟩=some (.string p.pay))
@[reducible] def HB(N B T C : Nat)(me seq cZ now : Int)(p : aC)(W0 W : World): Prop := HC N B T C me seq cZ now p W ∧ Below W0.heap.size W0 W
theorem HC.of{g:bI}{TL:List Hp.Tm}(n:Nd N B g s TL W)(h:PB p C W):HC N B g.x.T C s.me s.seq s.cZ s.now p W:=⟨n.cell,h.cell⟩
theorem HB.drew{me now:Int}(h:HB N B T C me seq cZ now p W0 W):HB N B T C me seq cZ now p W0 W.drew:=⟨h.1,h.2.drew⟩
theorem HB.mk'{g:bI}{TL:List Hp.Tm}(n:Nd N B g s TL W0)(h:PB p C W0)(hb:Below W0.heap.size W0 W):HB N B g.x.T C s.me s.seq s.cZ s.now p W0 W:=⟨.of (n.later hb) (h.below hb),hb⟩
theorem Up.box{F F':Nat->Prop}{b:World}(u:Up B F F' a b)(h:PB p C a)(hn:¬F C):PB p C b:=u.block C _ h hn (.inl (EL p))
theorem Nd.new{g:bI}{TL:List Hp.Tm}(n:Nd N B g s TL W){k:Nat}(hk:W.heap.size<=k):¬Ft N g s k:=λh=>by have:=n.nn.lt h;omega
theorem PB.acW(h:PB p C W)(t k:Int):PB {p with ttl:=t,kind:=k} C ((W.setCell ⟨C,0,none⟩ (.int .i64 t)).setCell ⟨C,1,none⟩ (.int .i64 k)):=by
 unfold PB at h ⊢;simp[World.setCell,d_,h]
theorem uK{n D:Nat}(h:Below n a w)(hD:n<=D)(v0 v1 v2 v3 v4 v5 v6:Value):Below n a (((((((w.setCell ⟨D,0,none⟩ v0).setCell ⟨D,1,none⟩ v1).setCell ⟨D,2,none⟩ v2).setCell ⟨D,3,none⟩ v3).setCell ⟨D,4,none⟩ v4).setCell ⟨D,5,none⟩ v5).setCell ⟨D,6,none⟩ v6):=
 ((((((h.setCell (p:=⟨D,0,none⟩) hD _).setCell (p:=⟨D,1,none⟩) hD _).setCell (p:=⟨D,2,none⟩) hD _).setCell (p:=⟨D,3,none⟩) hD _).setCell (p:=⟨D,4,none⟩) hD _).setCell (p:=⟨D,5,none⟩) hD _).setCell (p:=⟨D,6,none⟩) hD _
theorem eB.aeB{D:Nat}(h:eB D x u w):eB D y v (((((((w.setCell ⟨D,0,none⟩ (.int .u32 y.dest)).setCell ⟨D,1,none⟩ (.int .u32 y.seq)).setCell ⟨D,2,none⟩ (.int .i64 y.hops)).setCell ⟨D,3,none⟩ (.int .u32 y.next)).setCell ⟨D,4,none⟩ (.bool y.valid)).setCell ⟨D,5,none⟩ (.int .u64 y.exp)).setCell ⟨D,6,none⟩ v):=by
 unfold eB at h ⊢;simp[World.setCell,d_,h]
theorem nT{g:bI}{TL:List Hp.Tm}(n0:Nd N B g s TL W1)(d now:Int)(hd:a_ d){y:Rt}{fd:Bool}(hr:bH s.A d now=(y,fd)):
  ∀W5,Below W1.heap.size W1 W5->Calls Tryz.prog 79 #[.pointer (some ⟨g.x.T,0,none⟩),.int .u32 d,.int .u64 now] W5 λe w'=>∃ao c,e=.returned (.tuple #[JW y (.slice ao y.bN.length c),.bool fd])∧Below W1.heap.size W1 w'∧∀x u,eB W1.heap.size x u W5->eB W1.heap.size x u w':=by
 intro W5 h5;have h:=acF (n0.later h5) d now hd;rw[hr]at h;refine h.mono ?_;rintro e w' ⟨ao,c,rfl,hb⟩;exact⟨ao,c,rfl,h5.trans (hb.mono h5.size),λx u h=>h.later hb⟩
theorem lH(W:World):eB W.heap.size di (.slice none 0 0) (W.alloc (.cells #[.int .u32 0,.int .u32 0,.int .i64 0,.int .u32 0,.bool false,.int .u64 0,.slice none 0 0] 38)).drew:=bS W _
def oh(y:Rt)(fd:Bool)(W1:World)(pv fv:Value)(W:World):Prop:=∃D ao c,pv=.pointer (some ⟨D,0,none⟩)∧fv=.bool fd∧eB D y (.slice ao y.bN.length c) W∧W1.heap.size<=D∧Below W1.heap.size W1 W
theorem iA(hb:Below W1.heap.size W1 w2):oh y fd W1 (.pointer (some ⟨w2.heap.size,0,none⟩)) (.bool fd) (w2.alloc (.cells #[.int .u32 y.dest,.int .u32 y.seq,.int .i64 y.hops,.int .u32 y.next,.bool y.valid,.int .u64 y.exp,.slice ao y.bN.length c] 38)):=
 ⟨_,ao,c,rfl,rfl,bS _ _,hb.size,hb.alloc hb.size _⟩
theorem j3(hb:Below W1.heap.size W1 w2)(hD:Hid (eB W1.heap.size x u w2)):oh y fd W1 (.pointer (some ⟨W1.heap.size,0,none⟩)) (.bool fd) (((((((w2.setCell ⟨W1.heap.size,0,none⟩ (.int .u32 y.dest)).setCell ⟨W1.heap.size,1,none⟩ (.int .u32 y.seq)).setCell ⟨W1.heap.size,2,none⟩ (.int .i64 y.hops)).setCell ⟨W1.heap.size,3,none⟩ (.int .u32 y.next)).setCell ⟨W1.heap.size,4,none⟩ (.bool y.valid)).setCell ⟨W1.heap.size,5,none⟩ (.int .u64 y.exp)).setCell ⟨W1.heap.size,6,none⟩ (.slice ao y.bN.length c)):=
 ⟨_,ao,c,rfl,rfl,hD.out.aeB,aA _,uK hb (aA _) _ _ _ _ _ _ _⟩
theorem HB.kG{me now:Int}(hk:Hid (∀W5,Below W0.heap.size W0 W5->HB N B T C me seq cZ now p W0 W5))(h:Below W0.heap.size W0 W):HB N B T C me seq cZ now p W0 (W.alloc o):=hk.out _ (h.alloc h.size _)
theorem HB.eY{me now:Int}(hk:Hid (∀W5,Below W0.heap.size W0 W5->HB N B T C me seq cZ now p W0 W5)):HB N B T C me seq cZ now p W0 (W0.alloc o).drew:=hk.out _ (bC).drew
theorem HB.vR{me now:Int}{v0 v1 v2 v3 v4 v5 v6:Value}(hk:Hid (∀W5,Below W0.heap.size W0 W5->HB N B T C me seq cZ now p W0 W5))(h:Below W0.heap.size W0 W):HB N B T C me seq cZ now p W0 (((((((W.setCell ⟨W0.heap.size,0,none⟩ v0).setCell ⟨W0.heap.size,1,none⟩ v1).setCell ⟨W0.heap.size,2,none⟩ v2).setCell ⟨W0.heap.size,3,none⟩ v3).setCell ⟨W0.heap.size,4,none⟩ v4).setCell ⟨W0.heap.size,5,none⟩ v5).setCell ⟨W0.heap.size,6,none⟩ v6):=hk.out _ (uK h (aA _) _ _ _ _ _ _ _)
theorem Co{g:bI}{TL:List Hp.Tm}(n:Nd N B g s TL w)(p:aC)(hp:p.Wf)(hL:fJ w p [])(hfl:s.aH.length<=1000000)(hdl:s.aQ.length<=1000000):
  Calls Tryz.prog 181 #[.pointer (some ⟨N,0,none⟩),.pointer (some ⟨B,0,none⟩),p.val] w λe w'=>e=.returned (.tuple #[])∧lW N B g s (s.answer p) TL w w':=by
 have hb0:Below w.heap.size w (w.alloc p.box):=bC;have gW:=PB.new p w;have n0:=n.later hb0;have hfr:a_ p.aI:=⟨hp.aec,by have:=hp.aeb;omega⟩;obtain⟨s2,dB⟩:∃s2,s.answer p=s2:=⟨_,rfl⟩;rw[dB];replace dB:=(show Hid _ from dB);dsimp only[aC.box]at hb0 n0;unfold PB at gW;dsimp only[aC.box]at gW;go_enter Tryz.func181,Tryz.ntmps181;go_upto_region 1 with(fail);generalize World.alloc _ _=W1 at hb0 gW n0 ⊢;have rH:=(show Hid _ from HB.mk' n0 gW (aU _ _));obtain⟨⟨y,fd⟩,hr⟩:∃r,bH s.A p.aI s.now=r:=⟨_,rfl⟩;have HF:=(show Hid _ from nT n0 p.aI s.now hfr hr);generalize l5:w.heap.size=C at gW rH ⊢;replace l5:=(show Hid _ from l5);go_cut [6,7]from 8 to 21 (oh y fd W1)
 case first=>
  have hS:HB N B g.x.T C s.me s.seq s.cZ s.now p W1 W1.drew:=HB.drew rH.out;have hkB:=(show Hid _ from λW5 h5=>HB.mk' (W:=W5) n0 gW h5);go_region_held3 (HB N B g.x.T C s.me s.seq s.cZ s.now p W1) (first|with_reducible exact hS|with_reducible assumption|(with_reducible apply HB.vR hkB;assumption)|(with_reducible apply HB.kG hkB;assumption)|(with_reducible apply HB.eY hkB)|(with_reducible apply hkB.out;assumption)) ((go_at_call 79;refine(HF.out _ (And.right (by assumption))).mono ?_;rintro e w2 ⟨ao,c,rfl,hb2,hpr⟩;try ((with_reducible have hD:=hpr di (.slice none 0 0) (lH W1));obtain⟨d0,d1,d2,d3,d4,d5,d6⟩:=hD.cell;have q0:=hD.free 0;have q1:=hD.free 1;have q2:=hD.free 2;have q3:=hD.free 3;have q4:=hD.free 4;have q5:=hD.free 5;have q6:=hD.free 6;have hD':Hid (eB W1.heap.size di (.slice none 0 0) w2):=hD;clear hD);clear hpr))
  all_goals
   go_wp2_with fail;go_meet;first|with_reducible exact iA hb2|with_reducible exact j3 hb2 hD'
 case rest=>
  obtain⟨D,ao,c,rfl,rfl,hD,hDl,hb2⟩:=hcut;have n2:=n0.later hb2;have hP2:=PB.below gW hb2;have hz:=hb0.size;have hCD:C≠D:=by have:=PB.lt gW;omega
  clear rH gW n0 HF;have hs2:=dB.out;unfold St.answer at hs2;rw[hr]at hs2;dsimp only at hs2;obtain⟨d0,d1,d2,d3,d4,d5,d6⟩:=hD.cell;obtain⟨p0,p1,p2,p3,p4,p5,p6,p7,p8,p9,jL,jF⟩:=PB.cell hP2;cases fd
  ·rw[aG (by simp)]at hs2;subst hs2;have HD:=(show Hid _ from jB n2 3 hdl);clear d0 d1 d2 d3 d4 d5 d6 p0 p1 p2 p3 p4 p5 p6 p7 p8 p9 jL jF dB;go_wp2_with fail;refine aT HD.out ?_;rintro e w3 ⟨rfl,hN⟩;go_wp2;go_returns;exact⟨rfl,(hN.pre hb2).pre hb0⟩
  ·rw[aM rfl]at hs2;subst hs2;have q0:=PB.free hP2 0;have q1:=PB.free hP2 1;have hb3:Below w.heap.size w ((wc.setCell ⟨C,0,none⟩ (.int .i64 8)).setCell ⟨C,1,none⟩ (.int .i64 2)):=((hb0.trans (hb2.mono hb0.size)).setCell (p:=⟨C,0,none⟩) (by rw[l5.out];exact aA _) _).setCell (p:=⟨C,1,none⟩) (by rw[l5.out];exact aA _) _;have hP3:=hP2.acW 8 2;have n3:=n.later hb3;have HS:Hid (Calls Tryz.prog 80 #[.pointer (some ⟨B,0,none⟩),.int .u32 y.next,({p with ttl:=8,kind:=2}:aC).val] ((wc.setCell ⟨C,0,none⟩ (.int .i64 8)).setCell ⟨C,1,none⟩ (.int .i64 2)) λe w'=>e=.returned (.tuple #[])∧lW N B g s (s.send y.next {p with ttl:=8,kind:=2} []) TL _ w'):=
    Cn n3 y.next {p with ttl:=8,kind:=2} ⟨by dsimp only;omega,by dsimp only;omega,by dsimp only;omega,by dsimp only;omega,hp.Nz,hp.Ny,hp.id0,hp.id1,hp.aef,hp.aee,hp.Z6,hp.Z5,hp.aec,hp.aeb,hp.aea,hp.ad9,hp.ade,hp.adb,hp.ln1,hp.aeE⟩ [] (hL.below hb3) hfl
   have hD3:eB D y (.slice ao y.bN.length c) ((wc.setCell ⟨C,0,none⟩ (.int .i64 8)).setCell ⟨C,1,none⟩ (.int .i64 2)):=(kS _ _ _ _ (Ne.symm hCD)).trans ((kS _ _ _ _ (Ne.symm hCD)).trans hD);clear n2 dB l5;dsimp only[aC.val]at HS;go_upto_region 5 with(fail);generalize World.setCell _ _ _=W3 at hb3 hP3 n3 HS hD3 ⊢;clear d0 d1 d2 d3 d4 d5 d6 p0 p1 p2 p3 p4 p5 p6 p7 p8 p9 jL jF q0 q1;obtain⟨d0,d1,d2,d3,d4,d5,d6⟩:=hD3.cell;obtain⟨p0,p1,p2,p3,p4,p5,p6,p7,p8,p9,jL,jF⟩:=PB.cell hP3;dsimp only at p0 p1 p2 p3 p4 p5 p6 p7 p8 p9 jL jF;go_wp2_with fail;refine aT HS.out ?_;rintro e w3 ⟨rfl,hN⟩;go_wp2;go_returns;exact⟨rfl,hN.pre hb3⟩
variable{C:Nat}{p:aC}{W:World}
theorem PB.pq(h:PB p C W)(t:Int):PB {p with ttl:=t} C (W.setCell ⟨C,0,none⟩ (.int .i64 t)):=by
 unfold PB at h ⊢;simp[World.setCell,d_,h]
theorem PB.EB(h:PB p C W)(t:Int):PB {p with hops:=t} C (W.setCell ⟨C,2,none⟩ (.int .i64 t)):=by
 unfold PB at h ⊢;simp[World.setCell,d_,h]
theorem PB.ac0(h:PB p C W)(t:Int)(b:Bool):PB {p with aX:=t,unk:=b} C ((W.setCell ⟨C,6,none⟩ (.int .u32 t)).setCell ⟨C,3,none⟩ (.bool b)):=by
 unfold PB at h ⊢;simp[World.setCell,d_,h]
theorem vX(h:Int)(h0:0<=h∧h<=255)(w:World):Calls Tryz.prog 162 #[.int .i64 h] w λe w'=>e=.returned (.int .i64 (St.far h))∧w'=w:=by
 have hw:wrap64 (h+1)=h+1:=by unfold wrap64;omega
 have hf:∀y,y=min (h+1) 255->y=St.far h:=λy hy=>hy;go_enter Tryz.func162,Tryz.ntmps162;go_wp2;all_goals (go_ret;exact⟨vC (by unfold St.far;omega),rfl⟩)
theorem aC.Wf.num(h:p.Wf):a_ p.id∧a_ p.dest∧a_ p.aX∧a_ p.aI∧a_ p.dw∧a_ p.life:=by
 obtain⟨_,_,_,_,_,_,h1,h2,h3,h4,h5,h6,h7,h8,h9,h10,h11,h12,_,_⟩:=h;unfold a_;omega
structure aC.Hd(p:aC):Prop where
 wf:p.Wf
 ttl:1<=p.ttl∧p.ttl<=255
 hops:0<=p.hops∧p.hops<=255
theorem Oj{N B:Nat}{g:bI}{s:St}{TL:List Hp.Tm}{w:World}(n:Nd N B g s TL w)(p:aC)(hq:p.Hd)(hL:fJ w p [])(hfl:s.aH.length<=1000000):
  Calls Tryz.prog 165 #[.pointer (some ⟨N,0,none⟩),.pointer (some ⟨B,0,none⟩),p.val] w λe w'=>e=.returned (.tuple #[])∧lW N B g s (s.askOn p) TL w w':=by
 have hp:=hq.wf;obtain⟨_,hde,hds,_,_,_⟩:=hp.num;have hb0:Below w.heap.size w (w.alloc p.box):=bC;have gW:=PB.new p w;have n0:=n.later hb0;obtain⟨s2,dB⟩:∃s2,s.askOn p=s2:=⟨_,rfl⟩;rw[dB];replace dB:=(show Hid _ from dB);have hnu:a_ (eU s.A p.dest):=by
  unfold eU;cases hl:aK s.A p.dest with
  |none=>exact⟨by simp,by simp⟩
  |some y=>exact(n.nn.cr.tb.ok y (bU hl).1).seq
 dsimp only[aC.box]at hb0 n0;unfold PB at gW;dsimp only[aC.box]at gW;go_enter Tryz.func165,Tryz.ntmps165;go_upto_region 1 with(fail);generalize World.alloc _ _=W1 at hb0 gW n0 ⊢;have rH:=(show Hid _ from HB.mk' n0 gW (aU _ _));have HF:=(show Hid _ from λW5 (h5:Below W1.heap.size W1 W5)=>aac (n0.later h5) p.dest hde);generalize xP:(aK s.A p.dest).isSome=fd at HF;generalize hnm:eU s.A p.dest=nm at HF hnu;generalize l5:w.heap.size=C at gW rH ⊢;replace l5:=(show Hid _ from l5);have hS:HB N B g.x.T C s.me s.seq s.cZ s.now p W1 W1.drew:=HB.drew rH.out;go_region_held3 (HB N B g.x.T C s.me s.seq s.cZ s.now p W1) (first|with_reducible exact hS|with_reducible assumption) ((go_at_call 157;refine(HF.out _ (And.right (by assumption))).mono ?_;rintro e w2 ⟨rfl,rfl⟩))
 have hbd:Below W1.heap.size W1 W1.drew:=(aU _ _).drew;have n2:=n0.later hbd;have hP2:=PB.below gW hbd;have hb2:=hb0.trans (hbd.mono hb0.size);clear hS rH HF gW n0 hb0 hbd;generalize World.drew _=W2 at n2 hP2 hb2 ⊢;have hwt:wrap64 (p.ttl - 1)=p.ttl - 1:=by
  have:=hq.ttl;unfold wrap64;omega
 cases fd
 ·have Uv:Hid (s.send 0 ({p with ttl:=p.ttl - 1,hops:=St.far p.hops}:aC) []=s2):=by
   rw[<-dB.out];unfold St.askOn;rw[xP];rfl
  have hwf:({p with ttl:=p.ttl - 1,hops:=St.far p.hops}:aC).Wf:=by
   have h1:=hq.ttl;have h2:=hq.hops;refine {hp with WE:=?_,Wz:=?_,Nz:=?_,Ny:=?_}<;>(unfold St.far;dsimp only;omega)
  go_upto_region 4 with(fail);have hbC:w.heap.size<=C:=by rw[l5.out];exact aA _
  have l_:=hP2.pq (p.ttl - 1);have hb4:Below w.heap.size w (W2.setCell ⟨C,0,none⟩ (.int .i64 (p.ttl - 1))):=hb2.setCell (p:=⟨C,0,none⟩) hbC _;obtain⟨p0,p1,p2,p3,p4,p5,p6,p7,p8,p9,jL,jF⟩:=PB.cell hP2;have f0:=PB.free hP2 0;try dsimp only at p0 p1 p2 p3 p4 p5 p6 p7 p8 p9 jL jF
  go_upto_region 5 with(fail);generalize World.setCell _ _ _=W4 at l_ hb4 ⊢;clear p0 p1 p2 p3 p4 p5 p6 p7 p8 p9 jL jF f0 hP2 hb2;obtain⟨p0,p1,p2,p3,p4,p5,p6,p7,p8,p9,jL,jF⟩:=PB.cell l_;have f2:=PB.free l_ 2;try dsimp only at p0 p1 p2 p3 p4 p5 p6 p7 p8 p9 jL jF
  have xR:=l_.EB (St.far p.hops);have hb5:Below w.heap.size w (W4.setCell ⟨C,2,none⟩ (.int .i64 (St.far p.hops))):=hb4.setCell (p:=⟨C,2,none⟩) hbC _;have n5:=n.later hb5;have HS:=(show Hid _ from Cn n5 0 ({p with ttl:=p.ttl - 1,hops:=St.far p.hops}:aC) hwf [] (hL.below hb5) hfl);rw[Uv.out]at HS;dsimp only[aC.val]at HS;go_wp2_with fail;refine aT (vX p.hops hq.hops W4) ?_;rintro e w4 ⟨rfl,rfl⟩;clear l_ hb4;go_upto_region 6 with(fail);generalize World.setCell _ _ _=W5 at xR hb5 n5 HS ⊢;clear p0 p1 p2 p3 p4 p5 p6 p7 p8 p9 jL jF f2;obtain⟨p0,p1,p2,p3,p4,p5,p6,p7,p8,p9,jL,jF⟩:=PB.cell xR;try dsimp only at p0 p1 p2 p3 p4 p5 p6 p7 p8 p9 jL jF
  go_wp2_with fail;refine aT HS.out ?_;rintro e w6 ⟨rfl,hN⟩;go_wp2;go_returns;exact⟨rfl,hN.pre hb5⟩
 ·have Uv:Hid (s.send 0 ({p with ttl:=p.ttl - 1,hops:=St.far p.hops,aX:=max p.aX nm,unk:=false}:aC) []=s2):=by
   rw[<-dB.out];unfold St.askOn;rw[xP,hnm];rfl
  have hwf:({p with ttl:=p.ttl - 1,hops:=St.far p.hops,aX:=max p.aX nm,unk:=false}:aC).Wf:=by
   have h1:=hq.ttl;have h2:=hq.hops;have h3:=hds;have h4:=hnu;unfold a_ at h3 h4;refine {hp with WE:=?_,Wz:=?_,Nz:=?_,Ny:=?_,Z6:=?_,Z5:=?_}<;>(unfold St.far;dsimp only;omega)
  have adV:w.heap.size<=C:=by rw[l5.out];exact aA _
  have hP3:=hP2.ac0 (max p.aX nm) false;have hb3:Below w.heap.size w ((W2.setCell ⟨C,6,none⟩ (.int .u32 (max p.aX nm))).setCell ⟨C,3,none⟩ (.bool false)):=(hb2.setCell (p:=⟨C,6,none⟩) adV _).setCell (p:=⟨C,3,none⟩) adV _;obtain⟨p0,p1,p2,p3,p4,p5,p6,p7,p8,p9,jL,jF⟩:=PB.cell hP2;have f6:=PB.free hP2 6;have f3:=PB.free hP2 3;go_upto_region 4 with(fail);generalize World.setCell _ _ _=W3 at hP3 hb3 ⊢;clear p0 p1 p2 p3 p4 p5 p6 p7 p8 p9 jL jF f6 f3 hP2 hb2;have hbC:w.heap.size<=C:=by rw[l5.out];exact aA _
  have l_:=hP3.pq (p.ttl - 1);have hb4:Below w.heap.size w (W3.setCell ⟨C,0,none⟩ (.int .i64 (p.ttl - 1))):=hb3.setCell (p:=⟨C,0,none⟩) hbC _;obtain⟨p0,p1,p2,p3,p4,p5,p6,p7,p8,p9,jL,jF⟩:=PB.cell hP3;have f0:=PB.free hP3 0;try dsimp only at p0 p1 p2 p3 p4 p5 p6 p7 p8 p9 jL jF
  go_upto_region 5 with(fail);generalize World.setCell _ _ _=W4 at l_ hb4 ⊢;clear p0 p1 p2 p3 p4 p5 p6 p7 p8 p9 jL jF f0 hP3 hb3;obtain⟨p0,p1,p2,p3,p4,p5,p6,p7,p8,p9,jL,jF⟩:=PB.cell l_;have f2:=PB.free l_ 2;try dsimp only at p0 p1 p2 p3 p4 p5 p6 p7 p8 p9 jL jF
  have xR:=l_.EB (St.far p.hops);have hb5:Below w.heap.size w (W4.setCell ⟨C,2,none⟩ (.int .i64 (St.far p.hops))):=hb4.setCell (p:=⟨C,2,none⟩) hbC _;have n5:=n.later hb5;have HS:=(show Hid _ from Cn n5 0 ({p with ttl:=p.ttl - 1,hops:=St.far p.hops,aX:=max p.aX nm,unk:=false}:aC) hwf [] (hL.below hb5) hfl);rw[Uv.out]at HS;dsimp only[aC.val]at HS;go_wp2_with fail;refine aT (vX p.hops hq.hops W4) ?_;rintro e w4 ⟨rfl,rfl⟩;clear l_ hb4;go_upto_region 6 with(fail);generalize World.setCell _ _ _=W5 at xR hb5 n5 HS ⊢;clear p0 p1 p2 p3 p4 p5 p6 p7 p8 p9 jL jF f2;obtain⟨p0,p1,p2,p3,p4,p5,p6,p7,p8,p9,jL,jF⟩:=PB.cell xR;try dsimp only at p0 p1 p2 p3 p4 p5 p6 p7 p8 p9 jL jF
  go_wp2_with fail;refine aT HS.out ?_;rintro e w6 ⟨rfl,hN⟩;go_wp2;go_returns;exact⟨rfl,hN.pre hb5⟩
variable{B C N:Nat}{p:aC}{s:St}{W:World}
theorem qW(s:St)(p:aC):Cf s (s.answer p)∧(s.answer p).now=s.now:=by
 unfold St.answer;split
 ·exact⟨ug _ _ _ _,rfl⟩
 ·exact⟨uh _ _,rfl⟩
theorem HC.next{g g':bI}{s':St}{dW:List Hp.Tm}(n:Nd N B g' s' dW W)(h:PB p C W)(t:g'.x.T=g.x.T)(h1:s'.me=s.me)(h2:s'.seq=s.seq)(h3:s'.cZ=s.cZ)(h4:s'.now=s.now):HC N B g.x.T C s.me s.seq s.cZ s.now p W:=by
 have:=HC.of n h;rw[t,h1,h2,h3,h4]at this;exact this
theorem Nd.drew{g:bI}{TL:List Hp.Tm}(n:Nd N B g s TL W):Nd N B g s TL W.drew:=n.later (aU _ _).drew
theorem HC.xZ{g:bI}{TL:List Hp.Tm}(n:Nd N B g s TL W)(h:PB p C W):HC N B g.x.T C s.me s.seq s.cZ s.now p W.drew:=HC.of n.drew h
theorem EF{hops d q fm life:Int}(hh:oZ hops)(hd:a_ d)(hq:a_ q)(hf:a_ fm)(hl:a_ life):(St.um hops d q fm life).Wf:=by
 have hz:(⟨#[]⟩:ByteArray).size=0:=rfl;unfold a_ at hd hq hf hl;unfold oZ at hh;constructor<;>(dsimp only[St.um];omega)
theorem Kr(W:World)(hops d q fm life:Int):fJ W (St.um hops d q fm life) []:=⟨rfl,λj hj=>by simp at hj⟩
theorem wI{g:bI}{TL:List Hp.Tm}{w:World}(n:Nd N B g s TL w)(p:aC)(hq:p.Hd)(hme:a_ s.me)(T9:a_ s.seq)(hfl:s.aH.length<=1000000)(hdl:s.aQ.length<=1000000):
  Calls Tryz.prog 163 #[.pointer (some ⟨N,0,none⟩),.pointer (some ⟨B,0,none⟩),p.val] w λe w'=>e=.returned (.tuple #[])∧lW N B g s (s.iF p) TL w w':=by
 have hp:=hq.wf;obtain⟨_,hde,hds,hfr,_,_⟩:=hp.num;have hb0:Below w.heap.size w (w.alloc p.box):=bC;have gW:=PB.new p w;have n0:=n.later hb0;have hmx:a_ (max s.seq p.aX):=by
  unfold a_ at T9 hds ⊢;omega
 obtain⟨s2,dB⟩:∃s2,s.iF p=s2:=⟨_,rfl⟩;rw[dB];replace dB:=(show Hid _ from dB);dsimp only[aC.box]at hb0 n0;unfold PB at gW;dsimp only[aC.box]at gW;go_enter Tryz.func163,Tryz.ntmps163;go_upto_region 1 with(fail);generalize World.alloc _ _=W1 at hb0 gW n0 ⊢;have kK:=n.new (k:=w.heap.size) (aA _);generalize w.heap.size=C at gW kK ⊢;obtain⟨p0,p1,p2,p3,p4,p5,p6,p7,p8,p9,jL,jF⟩:=PB.cell gW;obtain⟨m0,m1,m2,m3,m4⟩:=n0.cell;have f3:=n0.nn.cr.nd.free 3;have hg1:W1.grownBy (W1.setCell ⟨N,3,none⟩ (.int .u32 (max s.seq p.aX))) (some N):=ah (aB _ (some N)) 3 _;obtain⟨e1,e2,e3,e4,e5,e6,e7,e8,e9⟩:=n0.nn.eq;obtain⟨n1,u1⟩:=n0.cells (s':={s with seq:=max s.seq p.aX}) (n0.nn.cr.nd.RI (max s.seq p.aX)) (Fx.grown hg1 λk e=>by cases e;rfl) ⟨e1,rfl,e3,e4,e5,e6,e7,e8,e9⟩ ⟨rfl,rfl,rfl,rfl,rfl,rfl⟩ ⟨rfl,rfl,rfl,rfl,rfl,rfl,rfl,rfl,rfl⟩ ⟨rfl,rfl,rfl,rfl,rfl⟩;obtain⟨hP1,hnC⟩:=u1.keep gW kK (EL p);go_region
 have n2:=n1.drew;have hP2:PB p C (W1.setCell ⟨N,3,none⟩ (.int .u32 (max s.seq p.aX))).drew:=hP1;have u2:=(u1.trans (.below (aU _ _).drew):Up B _ _ W1 (W1.setCell ⟨N,3,none⟩ (.int .u32 (max s.seq p.aX))).drew);have t2:({g with x:={g.x with seq:=max s.seq p.aX}}:bI).x.T=g.x.T:=rfl;generalize ({g with x:={g.x with seq:=max s.seq p.aX}}:bI)=g2 at n2 u2 t2 hnC;clear n1 hP1 u1 hg1 e1 e2 e3 e4 e5 e6 e7 e8 e9 p0 p1 p2 p3 p4 p5 p6 p7 p8 p9 jL jF m0 m1 m2 m3 m4 f3 gW n0;generalize World.drew _=W2 at n2 hP2 u2 ⊢;have hs2:=dB.out;unfold St.iF at hs2;generalize max s.seq p.aX=q at hs2 n2 u2 hmx hnC ⊢;have hsm:=qW {s with seq:=q} (St.um 0 s.me q p.aI 6000);have HA:=hide (Co n2.drew (St.um 0 s.me q p.aI 6000) (EF (by unfold oZ;omega) hme hmx hfr (by unfold a_;omega)) (Kr _ _ _ _ _ _) hfl hdl);rw[hs2]at HA hsm;dsimp only[aC.val,St.um]at HA;have hS:=HC.xZ n2 hP2;go_wp2_with fail;go_region_held3 (HC N B g2.x.T C s.me q s.cZ s.now p) (first|with_reducible exact hS|with_reducible assumption) ((go_at_call 181;refine HA.out.mono ?_;rintro e w3 ⟨rfl,hN⟩;obtain⟨g3,n3,u3,t3⟩:=hN;have hk3:=HC.next n3 (u3.box hP2 hnC) t3.out hsm.1.1 hsm.1.2.1 hsm.1.2.2.1 hsm.2))
 go_wp2;go_returns;exact⟨rfl,lW.pre hb0 ⟨g3,n3,(u2.trans (.below (aU _ _).drew)).trans u3,t3.out.trans t2⟩⟩
variable{seq cZ:Int}{B C N T:Nat}{F F':Nat->Prop}{p:aC}{y:Rt}{s:St}{v:Value}{W a b:World}
theorem Xk(y:Rt)(v:Value):oD (bZ y v):=⟨λc e=>(by cases e),λc e=>(by cases e),λc e=>(by cases e),λc e=>(by cases e),λc e=>(by cases e)⟩
@[reducible] def HR(N B T C D : Nat)(me seq cZ now : Int)(p : aC)(y : Rt)(v : Value)(W : World): Prop :=
 HC N B T C me seq cZ now p W∧W.cell? ⟨D,0,none⟩=some (.int .u32 y.dest)∧W.cell? ⟨D,1,none⟩=some (.int .u32 y.seq)∧W.cell? ⟨D,2,none⟩=some (.int .i64 y.hops)∧W.cell? ⟨D,3,none⟩=some (.int .u32 y.next)∧W.cell? ⟨D,4,none⟩=some (.bool y.valid)∧W.cell? ⟨D,5,none⟩=some (.int .u64 y.exp)∧W.cell? ⟨D,6,none⟩=some v
theorem HC.at{g:bI}{TL:List Hp.Tm}{me now:Int}(n:Nd N B g s TL W)(h:PB p C W)(t:g.x.T=T)(h1:s.me=me)(h2:s.seq=seq)(h3:s.cZ=cZ)(h4:s.now=now):HC N B T C me seq cZ now p W:=by
 subst t h1 h2 h3 h4;exact HC.of n h
theorem HR.at{D:Nat}{g:bI}{TL:List Hp.Tm}{me now:Int}(n:Nd N B g s TL W)(h:PB p C W)(hD:eB D y v W)(t:g.x.T=T)(h1:s.me=me)(h2:s.seq=seq)(h3:s.cZ=cZ)(h4:s.now=now):HR N B T C D me seq cZ now p y v W:=⟨HC.at n h t h1 h2 h3 h4,hD.cell⟩
theorem HR.jW{D:Nat}{g:bI}{TL:List Hp.Tm}{me now:Int}(n:Nd N B g s TL W)(h:PB p C W)(hD:eB D y v W)(t:g.x.T=T)(h1:s.me=me)(h2:s.seq=seq)(h3:s.cZ=cZ)(h4:s.now=now):HR N B T C D me seq cZ now p y v W.drew:=HR.at n.drew h hD t h1 h2 h3 h4
theorem Nl(a b:Int):IntKind.u32.wrap (IntKind.u64.wrap (a - b))=(a - b)%4294967296:=by
 simp only[IntKind.wrap,IntKind.signed,IntKind.bits];simp
theorem IC{l:Int}{h d q f:Int}{Q:Ending->World->Prop}(H:Hid (Calls Tryz.prog 181 #[.pointer (some ⟨N,0,none⟩),.pointer (some ⟨B,0,none⟩),.agg #[.int .i64 0,.int .i64 0,.int .i64 h,.bool false,.int .u32 0,.int .u32 d,.int .u32 q,.int .u32 f,.int .u32 0,.int .u32 l,.slice none 0 0,.string ⟨#[]⟩]] W Q)):
  Hid (∀l',l'=l->Calls Tryz.prog 181 #[.pointer (some ⟨N,0,none⟩),.pointer (some ⟨B,0,none⟩),.agg #[.int .i64 0,.int .i64 0,.int .i64 h,.bool false,.int .u32 0,.int .u32 d,.int .u32 q,.int .u32 f,.int .u32 0,.int .u32 l',.slice none 0 0,.string ⟨#[]⟩]] W Q):=by
 rintro _ rfl;exact H
theorem Up.kF(u:Up B F F' a b)(h:PB p C a)(hn:¬F C):PB p C b∧¬F' C:=u.keep h hn (EL p)
theorem Up.keepR{D:Nat}(u:Up B F F' a b)(h:eB D y v a)(hn:¬F D):eB D y v b∧¬F' D:=u.keep h hn (Xk y v)
theorem oO{A:List Rt}(hA:∀y∈A,y.Ok)(d now:Int):(bH A d now).1.Ok∨(bH A d now).2=false:=by
 unfold bH;cases hl:aK A d with
 |none=>exact .inr rfl
 |some y=>
  by_cases hc:(y.valid&&decide (now<y.exp))=true
  ·left;have:=hA y (bU hl).1
   simp_all
  ·right;by_cases hv:y.valid=true
   ·by_cases he:now<y.exp
    ·simp[hv,he]at hc
    ·simp[hv,he]
   ·simp[hv]
theorem tO{g:bI}{TL:List Hp.Tm}{w:World}(n:Nd N B g s TL w)(p:aC)(hq:p.Hd)(r:Rt)(hr:r.Ok)(ra:Option Addr)(rn rc:Nat)(_hnow:Ca s.now)(hfl:s.aH.length<=1000000)(hdl:s.aQ.length<=1000000):
  Calls Tryz.prog 164 #[.pointer (some ⟨N,0,none⟩),.pointer (some ⟨B,0,none⟩),p.val,JW r (.slice ra rn rc)] w λe w'=>e=.returned (.tuple #[])∧lW N B g s (s.gJ p r) TL w w':=by
 have hp:=hq.wf;obtain⟨_,hde,hds,hfr,_,_⟩:=hp.num;have hb0:Below w.heap.size w ((w.alloc p.box).alloc (bZ r (.slice ra rn rc))):=(bC).alloc (by simp) _;have gW:PB p w.heap.size ((w.alloc p.box).alloc (bZ r (.slice ra rn rc))):=(((aU _ (w.alloc p.box)).alloc (aA _) _).block _ (by simp)).trans (PB.new p w);have hR0:eB (w.heap.size+1) r (.slice ra rn rc) ((w.alloc p.box).alloc (bZ r (.slice ra rn rc))):=by
  have:=bS (w.alloc p.box) (bZ r (.slice ra rn rc));rw[World.size_alloc]at this;exact this
 have n0:=n.later hb0;obtain⟨s2,dB⟩:∃s2,s.gJ p r=s2:=⟨_,rfl⟩;rw[dB];replace dB:=hide dB;dsimp only[aC.box,bZ]at hb0 n0;unfold PB at gW;unfold eB at hR0;dsimp only[aC.box,bZ]at gW hR0;go_enter Tryz.func164,Tryz.ntmps164;go_upto_region 1 with(fail);generalize World.alloc (World.alloc _ _) _=W1 at hb0 gW hR0 n0 ⊢;have kK:=n.new (k:=w.heap.size) (aA _);have hRn:=n.new (k:=w.heap.size+1) (Nat.le_succ _);obtain⟨⟨y,fd⟩,hy⟩:∃r,bH s.A p.aI s.now=r:=⟨_,rfl⟩;have rz:fd=true->a_ y.next:=λh=>by
  have:=oO n.nn.cr.tb.ok p.aI s.now;rw[hy]at this;rcases this with h1|h1
  ·exact h1.next
  ·rw[h]at h1;cases h1
 have HF:=hide (nT n0 p.aI s.now hfr hy);generalize l5:w.heap.size=C at gW hR0 kK hRn ⊢;replace l5:=hide l5;go_cut [8,9]from 10 to 23 (oh y fd W1)
 case first=>
  have hS:HB N B g.x.T C s.me s.seq s.cZ s.now p W1 W1.drew:=HB.drew (HB.mk' n0 gW (aU _ _));have hkB:=hide λW5 h5=>HB.mk' (W:=W5) n0 gW h5;go_region_held3 (HB N B g.x.T C s.me s.seq s.cZ s.now p W1) (first|with_reducible exact hS|with_reducible assumption|(with_reducible apply HB.vR hkB;assumption)|(with_reducible apply HB.kG hkB;assumption)|(with_reducible apply HB.eY hkB)|(with_reducible apply hkB.out;assumption)) ((go_at_call 79;refine(HF.out _ (And.right (by assumption))).mono ?_;rintro e w2 ⟨ao,c,rfl,hb2,hpr⟩;try ((with_reducible have hD:=hpr di (.slice none 0 0) (lH W1));obtain⟨d0,d1,d2,d3,d4,d5,d6⟩:=hD.cell;have q0:=hD.free 0;have q1:=hD.free 1;have q2:=hD.free 2;have q3:=hD.free 3;have q4:=hD.free 4;have q5:=hD.free 5;have q6:=hD.free 6;have hD':Hid (eB W1.heap.size di (.slice none 0 0) w2):=hD;clear hD);clear hpr))
  all_goals
   go_wp2_with fail;go_meet;first|with_reducible exact iA hb2|with_reducible exact j3 hb2 hD'
 case rest=>
  obtain⟨E,ao,c,rfl,rfl,hE,hEl,hb2⟩:=hcut;have Yz:¬Ft N g s E:=n0.new hEl;have n2:=n0.later hb2;have hP2:=PB.below gW hb2;have hR2:eB (C+1) r (.slice ra rn rc) wc:=eB.later hR0 hb2;have hbb:=hb0.trans (hb2.mono hb0.size);have hs2:=dB.out;unfold St.gJ at hs2;rw[hy]at hs2;dsimp only at hs2;clear HF gW hR0 n0 hb0 hb2 dB;cases fd
  ·rw[aG (by simp)]at hs2;have HB4:=hide (rU n2.drew p.aI r.next hfr hr.next);have hS:HR N B g.x.T C (C+1) s.me s.seq s.cZ s.now p r (.slice ra rn rc) wc.drew:=HR.jW n2 hP2 hR2 rfl rfl rfl rfl rfl;go_wp2_with fail;go_region_held3 (HR N B g.x.T C (C+1) s.me s.seq s.cZ s.now p r (.slice ra rn rc)) (first|with_reducible exact hS|with_reducible assumption) ((go_at_call 182;refine HB4.out.mono ?_;rintro e w4 ⟨rfl,hN⟩;obtain⟨g4,n4,u4,t4⟩:=hN;obtain⟨l_,rG⟩:=u4.kF hP2 kK;obtain⟨NH,abK⟩:=u4.keepR hR2 hRn;have hk4:HR N B g.x.T C (C+1) s.me s.seq s.cZ s.now p r (.slice ra rn rc) w4:=HR.at n4 l_ NH t4.out rfl rfl rfl rfl))
   clear hS hk4;rename_i iV;clear iV;clear HB4;have hsm:=qW {s with A:=kZ s.A p.aI r.next} (St.um r.hops p.dest r.seq p.aI ((r.exp - s.now)%4294967296));have HA:=hide (Co n4.drew (St.um r.hops p.dest r.seq p.aI ((r.exp - s.now)%4294967296)) (EF hr.hops hde hr.seq hfr (by unfold a_;omega)) (Kr _ _ _ _ _ _) hfl hdl);rw[hs2]at HA hsm;dsimp only[aC.val,St.um]at HA;have HA':=IC HA;clear HA;have hS:HR N B g4.x.T C (C+1) s.me s.seq s.cZ s.now p r (.slice ra rn rc) w4.drew:=HR.jW n4 l_ NH rfl rfl rfl rfl rfl;go_wp2_with fail;go_region_held3 (HR N B g4.x.T C (C+1) s.me s.seq s.cZ s.now p r (.slice ra rn rc)) (first|with_reducible exact hS|with_reducible assumption) ((go_at_call 181;refine(HA'.out _ (by first|exact Nl _ _|exact Tw _ _|rfl)).mono ?_;rintro e w5 ⟨rfl,hN⟩;obtain⟨g5,n5,u5,t5⟩:=hN;obtain⟨xR,ad6⟩:=u5.kF l_ rG;obtain⟨V9,afG⟩:=u5.keepR NH abK;have hk5:HR N B g4.x.T C (C+1) s.me s.seq s.cZ s.now p r (.slice ra rn rc) w5:=HR.at n5 xR V9 t5.out hsm.1.1 hsm.1.2.1 hsm.1.2.2.1 hsm.2))
   clear hS hk5;rename_i iV;clear iV;go_wp2;go_returns;exact⟨rfl,lW.pre hbb ⟨g5,n5,(Up.trans (.below (aU _ _).drew) u4).trans (Up.trans (.below (aU _ _).drew) u5),t5.out.trans t4.out⟩⟩
  ·rw[aM rfl]at hs2;have hny:=rz rfl;obtain⟨e0,e1,e2,e3,e4,e5,e6⟩:=hE.cell;have HB3:=hide (rU n2.drew p.dest y.next hde hny);have hS:HR N B g.x.T C E s.me s.seq s.cZ s.now p y (.slice ao y.bN.length c) wc.drew:=HR.jW n2 hP2 hE rfl rfl rfl rfl rfl;go_wp2_with fail;go_region_held3 (HR N B g.x.T C E s.me s.seq s.cZ s.now p y (.slice ao y.bN.length c)) (first|with_reducible exact hS|with_reducible assumption) ((go_at_call 182;refine HB3.out.mono ?_;rintro e w3 ⟨rfl,hN⟩;obtain⟨g3,n3,u3,t3⟩:=hN;obtain⟨hP3,Qe⟩:=u3.kF hP2 kK;obtain⟨P_,adY⟩:=u3.keepR hR2 hRn;obtain⟨hE3,UD⟩:=u3.keepR hE Yz;have hk3:HR N B g.x.T C E s.me s.seq s.cZ s.now p y (.slice ao y.bN.length c) w3:=HR.at n3 hP3 hE3 t3.out rfl rfl rfl rfl))
   clear hS hk3;rename_i iV;clear iV;clear e0 e1 e2 e3 e4 e5 e6 HB3 hE hP2 hR2;obtain⟨s1,hs1⟩:∃s1,({s with A:=kZ s.A p.dest y.next}:St)=s1:=⟨_,rfl⟩;have xO:({s1 with A:=kZ s1.A p.aI r.next}:St).answer (St.um r.hops p.dest r.seq p.aI ((r.exp - s1.now)%4294967296))=s2:=by
    rw[<-hs1];exact hs2
   have Bp:s1.aH.length<=1000000:=by rw[<-hs1];exact hfl
   have FD:s1.aQ.length<=1000000:=by rw[<-hs1];exact hdl
   rw[hs1]at n3 u3 Qe adY;clear hs2 hs1 UD;have hs2:=xO;clear xO;have HB4:=hide (rU n3.drew p.aI r.next hfr hr.next);have hS:HR N B g3.x.T C (C+1) s1.me s1.seq s1.cZ s1.now p r (.slice ra rn rc) w3.drew:=HR.jW n3 hP3 P_ rfl rfl rfl rfl rfl;go_wp2_with fail;go_region_held3 (HR N B g3.x.T C (C+1) s1.me s1.seq s1.cZ s1.now p r (.slice ra rn rc)) (first|with_reducible exact hS|with_reducible assumption) ((go_at_call 182;refine HB4.out.mono ?_;rintro e w4 ⟨rfl,hN⟩;obtain⟨g4,n4,u4,t4⟩:=hN;obtain⟨l_,rG⟩:=u4.kF hP3 Qe;obtain⟨NH,abK⟩:=u4.keepR P_ adY;have hk4:HR N B g3.x.T C (C+1) s1.me s1.seq s1.cZ s1.now p r (.slice ra rn rc) w4:=HR.at n4 l_ NH t4.out rfl rfl rfl rfl))
   clear hS hk4;rename_i iV;clear iV;clear HB4;have hsm:=qW {s1 with A:=kZ s1.A p.aI r.next} (St.um r.hops p.dest r.seq p.aI ((r.exp - s1.now)%4294967296));have HA:=hide (Co n4.drew (St.um r.hops p.dest r.seq p.aI ((r.exp - s1.now)%4294967296)) (EF hr.hops hde hr.seq hfr (by unfold a_;omega)) (Kr _ _ _ _ _ _) Bp FD);rw[hs2]at HA hsm;dsimp only[aC.val,St.um]at HA;have HA':=IC HA;clear HA;have hS:HR N B g4.x.T C (C+1) s1.me s1.seq s1.cZ s1.now p r (.slice ra rn rc) w4.drew:=HR.jW n4 l_ NH rfl rfl rfl rfl rfl;go_wp2_with fail;go_region_held3 (HR N B g4.x.T C (C+1) s1.me s1.seq s1.cZ s1.now p r (.slice ra rn rc)) (first|with_reducible exact hS|with_reducible assumption) ((go_at_call 181;refine(HA'.out _ (by first|exact Nl _ _|exact Tw _ _|rfl)).mono ?_;rintro e w5 ⟨rfl,hN⟩;obtain⟨g5,n5,u5,t5⟩:=hN;obtain⟨xR,ad6⟩:=u5.kF l_ rG;obtain⟨V9,afG⟩:=u5.keepR NH abK;have hk5:HR N B g4.x.T C (C+1) s1.me s1.seq s1.cZ s1.now p r (.slice ra rn rc) w5:=HR.at n5 xR V9 t5.out hsm.1.1 hsm.1.2.1 hsm.1.2.2.1 hsm.2))
   clear hS hk5;rename_i iV;clear iV;go_wp2;go_returns;exact⟨rfl,lW.pre hbb ⟨g5,n5,((Up.trans (.below (aU _ _).drew) u3).trans (Up.trans (.below (aU _ _).drew) u4)).trans (Up.trans (.below (aU _ _).drew) u5),t5.out.trans (t4.out.trans t3.out)⟩⟩
theorem fJ.nil{W W':World}{p:aC}(h:fJ W p []):fJ W' p []:=⟨h.1,λj hj=>by simp at hj⟩
theorem mM{a c:Int}(h:0<=a∧a<=4611686018427387904)(hc:0<=c∧c<=8589934592):IntKind.u64.wrap (a+c)=a+c:=by
 simp only[IntKind.wrap,IntKind.signed,IntKind.bits];simp;omega
theorem QR{N B:Nat}{g:bI}{s:St}{TL:List Hp.Tm}{w:World}(n:Nd N B g s TL w)(fr:Int)(PX:a_ fr)(p:aC)(hq:p.Hd)(hL:fJ w p [])(fM:0<=s.now∧s.now<=4611686018427387904)(hfl:s.aH.length<=1000000)(hdl:s.aQ.length<=1000000):
  Calls Tryz.prog 166 #[.pointer (some ⟨N,0,none⟩),.pointer (some ⟨B,0,none⟩),.int .u32 fr,p.val] w λe w'=>e=.returned (.tuple #[])∧lW N B g s (s.iC fr p) TL w w':=by
 have hp:=hq.wf;obtain⟨hid,hde,hds,hfr,hfs,_⟩:=hp.num;have hb0:Below w.heap.size w (w.alloc p.box):=bC;have gW:=PB.new p w;have n0:=n.later hb0;obtain⟨s2,dB⟩:∃s2,s.iC fr p=s2:=⟨_,rfl⟩;rw[dB];have hs2:=dB;replace dB:=hide dB;unfold St.iC at hs2;replace hs2:=hide hs2;dsimp only[aC.box]at hb0 n0;unfold PB at gW;dsimp only[aC.box]at gW;go_enter Tryz.func166,Tryz.ntmps166;go_upto_region 1 with(fail);generalize World.alloc _ _=W1 at hb0 gW n0 ⊢;have kK:=n.new (k:=w.heap.size) (aA _);obtain⟨⟨y,fd⟩,hy⟩:∃r,bH s.A p.aI s.now=r:=⟨_,rfl⟩;have HF:=hide (nT n0 p.aI s.now hfr hy);generalize l5:w.heap.size=C at gW kK ⊢;replace l5:=hide l5;go_cut [8,9]from 10 to 23 (oh y fd W1)
 case first=>
  have hS:HB N B g.x.T C s.me s.seq s.cZ s.now p W1 W1.drew:=HB.drew (HB.mk' n0 gW (aU _ _));have hkB:=hide λW5 h5=>HB.mk' (W:=W5) n0 gW h5;go_region_held3 (HB N B g.x.T C s.me s.seq s.cZ s.now p W1) (first|with_reducible exact hS|with_reducible assumption|(with_reducible apply HB.vR hkB;assumption)|(with_reducible apply HB.kG hkB;assumption)|(with_reducible apply HB.eY hkB)|(with_reducible apply hkB.out;assumption)) ((go_at_call 79;refine(HF.out _ (And.right (by assumption))).mono ?_;rintro e w2 ⟨ao,c,rfl,hb2,hpr⟩;try ((with_reducible have hD:=hpr di (.slice none 0 0) (lH W1));obtain⟨d0,d1,d2,d3,d4,d5,d6⟩:=hD.cell;have q0:=hD.free 0;have q1:=hD.free 1;have q2:=hD.free 2;have q3:=hD.free 3;have q4:=hD.free 4;have q5:=hD.free 5;have q6:=hD.free 6;have hD':Hid (eB W1.heap.size di (.slice none 0 0) w2):=hD;clear hD);clear hpr))
  all_goals
   go_wp2_with fail;go_meet;first|with_reducible exact iA hb2|with_reducible exact j3 hb2 hD'
 case rest=>
  obtain⟨E,ao,c,rfl,rfl,hE,hEl,hb2⟩:=hcut;have Yz:¬Ft N g s E:=n0.new hEl;have rz:fd=true->a_ y.next:=λh=>by
   have:=oO n.nn.cr.tb.ok p.aI s.now;rw[hy]at this;rcases this with h1|h1
   ·exact h1.next
   ·rw[h]at h1;cases h1
  have n2:=n0.later hb2;have hP2:PB p C wc:=PB.below gW hb2;have hbb:=hb0.trans (hb2.mono hb0.size);have hCE:C≠E:=by have:=PB.lt gW;omega
  have hs3:=hs2.out;rw[hy]at hs3;dsimp only at hs3;clear HF gW n0 hb0 hb2 dB hs2;cases fd
  ·rw[aG (by simp)]at hs3;have HX:=hide (jB n2 3 hdl);rw[hs3]at HX;clear hP2 hE;go_wp2_with fail;refine aT HX.out ?_;rintro e w9 ⟨rfl,hN⟩;go_wp2;go_returns;exact⟨rfl,hN.pre hbb⟩
  ·rw[aM rfl]at hs3;have hyn:=rz rfl;have hwt:wrap64 (p.ttl - 1)=p.ttl - 1:=by
    have:=hq.ttl;unfold wrap64;omega
   have hbC:w.heap.size<=C:=by rw[l5.out];exact aA _
   have l_:=hP2.pq (p.ttl - 1);have hb4:Below w.heap.size w (wc.setCell ⟨C,0,none⟩ (.int .i64 (p.ttl - 1))):=hbb.setCell (p:=⟨C,0,none⟩) hbC _;have K5:eB E y (.slice ao y.bN.length c) (wc.setCell ⟨C,0,none⟩ (.int .i64 (p.ttl - 1))):=(kS _ _ _ _ (Ne.symm hCE)).trans hE;obtain⟨p0,p1,p2,p3,p4,p5,p6,p7,p8,p9,jL,jF⟩:=PB.cell hP2;have f0:=PB.free hP2 0;clear n2 hP2 hE hbb;go_upto_region 5 with(fail);generalize World.setCell _ _ _=W4 at l_ hb4 K5 ⊢;clear p0 p1 p2 p3 p4 p5 p6 p7 p8 p9 jL jF f0;obtain⟨p0,p1,p2,p3,p4,p5,p6,p7,p8,p9,jL,jF⟩:=PB.cell l_;have f2:=PB.free l_ 2;dsimp only at p0 p1 p2 p3 p4 p5 p6 p7 p8 p9 jL jF;have xR:PB ({p with ttl:=p.ttl - 1,hops:=St.far p.hops}:aC) C (W4.setCell ⟨C,2,none⟩ (.int .i64 (St.far p.hops))):=l_.EB (St.far p.hops);have hb5:Below w.heap.size w (W4.setCell ⟨C,2,none⟩ (.int .i64 (St.far p.hops))):=hb4.setCell (p:=⟨C,2,none⟩) hbC _;have Wj:eB E y (.slice ao y.bN.length c) (W4.setCell ⟨C,2,none⟩ (.int .i64 (St.far p.hops))):=(kS _ _ _ _ (Ne.symm hCE)).trans K5;have n5:=n.later hb5;have hwf:({p with ttl:=p.ttl - 1,hops:=St.far p.hops}:aC).Wf:=by
    have h1:=hq.ttl;have h2:=hq.hops;refine {hp with WE:=?_,Wz:=?_,Nz:=?_,Ny:=?_}<;>(unfold St.far;dsimp only;omega)
   have HS:=hide (Cn n5 y.next ({p with ttl:=p.ttl - 1,hops:=St.far p.hops}:aC) hwf [] (hL.below hb5) hfl);obtain⟨s6,hs6⟩:∃z,s.send y.next ({p with ttl:=p.ttl - 1,hops:=St.far p.hops}:aC) []=z:=⟨_,rfl⟩;rw[hs6]at HS;dsimp only[aC.val]at HS;have h6:Hid (s6.now=s.now∧s6.A=s.A∧ {s6 with A:=iN (kZ (kZ s6.A p.dest y.next) p.aI fr) p.aI (s.now+3000)}=s2):=by
    show _∧_∧_;rw[<-hs6];exact⟨rfl,rfl,hs3⟩
   clear hs3 hs6;go_wp2_with fail;refine aT (vX p.hops hq.hops W4) ?_;rintro e w4 ⟨rfl,rfl⟩;clear l_ hb4 K5;go_upto_region 6 with(fail);generalize World.setCell _ _ _=W5 at xR hb5 Wj n5 HS ⊢;clear p0 p1 p2 p3 p4 p5 p6 p7 p8 p9 jL jF f2;obtain⟨p0,p1,p2,p3,p4,p5,p6,p7,p8,p9,jL,jF⟩:=PB.cell xR;obtain⟨e0,e1,e2,e3,e4,e5,e6⟩:=Wj.cell;dsimp only at p0 p1 p2 p3 p4 p5 p6 p7 p8 p9 jL jF;go_wp2_with fail;refine aT HS.out ?_;rintro e w6 ⟨rfl,hN⟩;obtain⟨g6,n6,u6,t6⟩:=hN;clear p0 p1 p2 p3 p4 p5 p6 p7 p8 p9 jL jF e0 e1 e2 e3 e4 e5 e6 HS;obtain⟨J2,kP⟩:=u6.kF xR kK;obtain⟨YB,UB⟩:=u6.keepR Wj Yz;have nH:Up B (Ft N g s) (Ft N g6 s6) w w6:=(Up.below hb5).trans u6;clear xR Wj n5 u6 hb5;have HB:=hide (rU n6.drew p.dest y.next hde hyn);have hS:HR N B g6.x.T C E s6.me s6.seq s6.cZ s6.now ({p with ttl:=p.ttl - 1,hops:=St.far p.hops}:aC) y (.slice ao y.bN.length c) w6.drew:=HR.jW n6 J2 YB rfl rfl rfl rfl rfl;go_wp2_with fail;go_region_held3 (HR N B g6.x.T C E s6.me s6.seq s6.cZ s6.now ({p with ttl:=p.ttl - 1,hops:=St.far p.hops}:aC) y (.slice ao y.bN.length c)) (first|with_reducible exact hS|with_reducible assumption) ((go_at_call 182;refine(HB.out).mono ?_;rintro e w7 ⟨rfl,hN⟩;obtain⟨g7,n7,u7,t7⟩:=hN;obtain⟨Yq,Qd⟩:=u7.kF J2 kP;obtain⟨YA,Qb⟩:=u7.keepR YB UB;have hk7:HR N B g6.x.T C E s6.me s6.seq s6.cZ s6.now ({p with ttl:=p.ttl - 1,hops:=St.far p.hops}:aC) y (.slice ao y.bN.length c) w7:=HR.at n7 Yq YA t7.out rfl rfl rfl rfl))
   clear hS hk7;rename_i iV;clear iV;clear HB;have ua7:=(nH.trans (.below (aU _ _).drew)).trans u7;obtain⟨s7,hs7⟩:∃z,({s6 with A:=kZ s6.A p.dest y.next}:St)=z:=⟨_,rfl⟩;have h7:Hid (s7.now=s.now∧ {s7 with A:=iN (kZ s7.A p.aI fr) p.aI (s.now+3000)}=s2):=by
    show _∧_;rw[<-hs7];exact⟨h6.out.1,h6.out.2.2⟩
   rw[hs7]at n7 ua7 Qd Qb;clear hs7 nH u7 n6 J2 YB kP UB h6;have HB:=hide (rU n7.drew p.aI fr hfr PX);have hS:HR N B g7.x.T C E s7.me s7.seq s7.cZ s7.now ({p with ttl:=p.ttl - 1,hops:=St.far p.hops}:aC) y (.slice ao y.bN.length c) w7.drew:=HR.jW n7 Yq YA rfl rfl rfl rfl rfl;go_wp2_with fail;go_region_held3 (HR N B g7.x.T C E s7.me s7.seq s7.cZ s7.now ({p with ttl:=p.ttl - 1,hops:=St.far p.hops}:aC) y (.slice ao y.bN.length c)) (first|with_reducible exact hS|with_reducible assumption) ((go_at_call 182;refine(HB.out).mono ?_;rintro e w8 ⟨rfl,hN⟩;obtain⟨g8,n8,u8,t8⟩:=hN;obtain⟨KZ,abR⟩:=u8.kF Yq Qd;obtain⟨UE,abQ⟩:=u8.keepR YA Qb;have hk8:HR N B g7.x.T C E s7.me s7.seq s7.cZ s7.now ({p with ttl:=p.ttl - 1,hops:=St.far p.hops}:aC) y (.slice ao y.bN.length c) w8:=HR.at n8 KZ UE t8.out rfl rfl rfl rfl))
   clear hS hk8;rename_i iV;clear iV;clear HB;have VY:=(ua7.trans (.below (aU _ _).drew)).trans u8;obtain⟨s8,hs8⟩:∃z,({s7 with A:=kZ s7.A p.aI fr}:St)=z:=⟨_,rfl⟩;have h8:Hid (s8.now=s.now∧ {s8 with A:=iN s8.A p.aI (s.now+3000)}=s2):=by
    show _∧_;rw[<-hs8];exact⟨h7.out.1,h7.out.2⟩
   rw[hs8]at n8 VY abR abQ;clear hs8 ua7 u8 n7 Yq YA Qd Qb h7;have HV:Hid (∀t,t=s8.now+3000->Calls Tryz.prog 81 #[.pointer (some ⟨g8.x.T,0,none⟩),.int .u32 p.aI,.int .u64 t] w8.drew λr w'=>r=.returned (.tuple #[])∧lW N B g8 s8 s2 TL w8.drew w'):=by
    rintro _ rfl;have:=Oh n8.drew p.aI (s8.now+3000) hfr (by have:=h8.out.1;unfold Ca;omega);rw[show({s8 with A:=iN s8.A p.aI (s8.now+3000)}:St)=s2 from by have e:=h8.out.2;rw[<-h8.out.1]at e;exact e]at this;exact this
   have hn8:0<=s8.now∧s8.now<=4611686018427387904:=by rw[h8.out.1];exact fM
   have hsm:Hid (s2.me=s8.me∧s2.seq=s8.seq∧s2.cZ=s8.cZ∧s2.now=s8.now):=by
    show _∧_;rw[<-h8.out.2];exact⟨rfl,rfl,rfl,rfl⟩
   have hS:HR N B g8.x.T C E s8.me s8.seq s8.cZ s8.now ({p with ttl:=p.ttl - 1,hops:=St.far p.hops}:aC) y (.slice ao y.bN.length c) w8.drew:=HR.jW n8 KZ UE rfl rfl rfl rfl rfl;go_wp2_with fail;go_region_held3 (HR N B g8.x.T C E s8.me s8.seq s8.cZ s8.now ({p with ttl:=p.ttl - 1,hops:=St.far p.hops}:aC) y (.slice ao y.bN.length c)) (first|with_reducible exact hS|with_reducible assumption) ((go_at_call 81;refine(HV.out _ (by first|rfl|exact mM hn8 (by decide))).mono ?_;rintro e w9 ⟨rfl,hN⟩;obtain⟨g9,n9,u9,t9⟩:=hN;obtain⟨JZ,agP⟩:=u9.kF KZ abR;obtain⟨Rf,agO⟩:=u9.keepR UE abQ;have hk9:HR N B g8.x.T C E s8.me s8.seq s8.cZ s8.now ({p with ttl:=p.ttl - 1,hops:=St.far p.hops}:aC) y (.slice ao y.bN.length c) w9:=HR.at n9 JZ Rf t9.out hsm.out.1 hsm.out.2.1 hsm.out.2.2.1 hsm.out.2.2.2))
   clear hS hk9;rename_i iV;clear iV;have wV:=(VY.trans (.below (aU _ _).drew)).trans u9;have ta:g9.x.T=g.x.T:=t9.out.trans (t8.out.trans (t7.out.trans t6.out));clear KZ UE JZ Rf;go_wp2;go_returns;exact⟨rfl,g9,n9,wV,ta⟩
variable{f:Int->Option Nat}{A:List Rt}{B M N T:Nat}{s:St}{w:World}
def yA(A:List Rt)(d:Int):Bool:=(aK A d).any λy=>decide (0<y.bN.length)
theorem Ov{me:Int}{g:Int->Value}(h:MT me T M f g A w)(d:Int)(hd:a_ d):
  Calls Tryz.prog 167 #[.pointer (some ⟨T,0,none⟩),.int .u32 d] w λe w'=>e=.returned (.bool (yA A d))∧w'=w:=by
 obtain⟨t0,t1⟩:=h.blk.cell;have hlk:=h.map.look hd;cases hl:aK A d with
 |none=>
  rw[h.off hd hl]at hlk;simp only[gG]at hlk;have hn:yA A d=false:=by simp[yA,hl]
  rw[hn];clear h hn hl;go_enter Tryz.func167,Tryz.ntmps167;go_wp2;go_ret;exact⟨rfl,rfl⟩
 |some x=>
  obtain⟨_,_,B,hB,hL,hR⟩:=h.line hl;rw[hB]at hlk;simp only[gG]at hlk;obtain⟨ag,cg,hg,_⟩:=ay hR;obtain⟨b0,b1,b2,b3,b4,b5,b6⟩:=hL.cell;rw[hg]at b6;have hn:yA A d=decide (0<x.bN.length):=by simp[yA,hl]
  rw[hn];clear h hn hl hL hB hR;by_cases h0:0<x.bN.length
  ·have h1:(0:Int)<(x.bN.length:Int):=by omega
   go_enter Tryz.func167,Tryz.ntmps167;go_wp2;go_ret;exact⟨by simp[h0],rfl⟩
  ·have h1:¬(0:Int)<(x.bN.length:Int):=by omega
   go_enter Tryz.func167,Tryz.ntmps167;go_wp2;go_ret;exact⟨by simp,rfl⟩
def NP(A:List Rt)(d:Int):List Rt:=gU A d St.oN
theorem Ox{me:Int}{g:Int->Value}(h:MT me T M f g A w)(d:Int)(hd:a_ d):
  Calls Tryz.prog 169 #[.pointer (some ⟨T,0,none⟩),.int .u32 d] w λe w'=>∃g',e=.returned (.tuple #[])∧MT me T M f g' (NP A d) w'∧(∀k,mZ T M f g' (NP A d) k->mZ T M f g A k)∧Fx (mZ T M f g A) w w':=by
 obtain⟨t0,t1⟩:=h.blk.cell;have hlk:=h.map.look hd;cases hl:aK A d with
 |none=>
  rw[h.off hd hl]at hlk;simp only[gG]at hlk;have hn:NP A d=A:=oI hl St.oN;rw[hn];go_enter Tryz.func169,Tryz.ntmps169;go_wp2;go_returns;exact⟨g,rfl,h,λ_ h=>h,Fx.refl _ _⟩
 |some x=>
  obtain⟨KR,hxd,B,hB,hL,hR⟩:=h.line hl;rw[hB]at hlk;simp only[gG]at hlk;obtain⟨b0,b1,b2,b3,b4,b5,b6⟩:=hL.cell;have fz:=hL.free 1;have IX:=h.ok x KR;have hg1:w.grownBy (w.setCell ⟨B,1,none⟩ (.int .u32 (gr x.seq))) (some B):=ah (aB _ (some B)) 1 _;have hL1:=hL.set1 (gr x.seq);have YD:∀c,bZ x (g d)≠ .cells c 34 (0,0):=λc e=>(by cases e);have hR1:=hR.kept hg1 (.inr (aJ hR hL YD));obtain⟨k1,k2⟩:=h.turn hl hB St.oN (λ_=>rfl) ⟨IX.dest,uI IX.seq,IX.hops,IX.next,IX.exp,IX.Vf,IX.bN,IX.zh⟩ (g d) hL1 hR1 (.inr (.inl rfl)) (λk hk hkB _=>hg1.block k (h.lt hk) (λe=>hkB (by cases e;rfl)));have hfx:Fx (mZ T M f g A) w (w.setCell ⟨B,1,none⟩ (.int .u32 (gr x.seq))):=Fx.grown hg1 λk e=>by
   cases e;exact .inr (.inr ⟨x,KR,.inl (by rw[hxd];exact hB)⟩)
  have hin:∀k,mZ T M f (λe=>if e=d then g d else g e) (NP A d) k->mZ T M f g A k:=λk hk=>by
   rcases k2 k hk with h1|h1
   ·exact h1
   ·exact .inr (.inr ⟨x,KR,.inr (by rw[hxd];exact h1)⟩)
  clear h hL hR hg1 hL1 hR1 k2 hB;go_enter Tryz.func169,Tryz.ntmps169;go_wp2_with(go_at_call 42;refine(oM _ _).mono ?_;rintro e w5 ⟨rfl,rfl⟩);go_returns;exact⟨_,rfl,k1,hin,hfx⟩
theorem acv{g:bI}{TL:List Hp.Tm}(n:Nd N B g s TL w)(d:Int)(hd:a_ d):
  Calls Tryz.prog 167 #[.pointer (some ⟨g.x.T,0,none⟩),.int .u32 d] w λe w'=>e=.returned (.bool (yA s.A d))∧w'=w:=Ov n.nn.cr.tb d hd
theorem acC{g:bI}{TL:List Hp.Tm}(n:Nd N B g s TL w)(d:Int)(hd:a_ d):
  Calls Tryz.prog 169 #[.pointer (some ⟨g.x.T,0,none⟩),.int .u32 d] w λe w'=>e=.returned (.tuple #[])∧lW N B g s {s with A:=gU s.A d St.oN} TL w w':=by
 have h:=n.nn.cr.tb;rw[n.nn.eq.self]at h;refine(Ox h d hd).mono ?_;rintro e w' ⟨g',rfl,h1,h2,h3⟩;exact⟨rfl,n.wW ⟨_,_,_,h1,λk hk=> .inl (h2 k hk)⟩ h3⟩
theorem X5:(Tryz.prog.info? 56).map (λi=>(i.zero,i.size,i.bytes))=some (some (.agg #[.int .u32 0,.string ⟨#[]⟩]),2,24):=by kernel_rfl
theorem U6(W:World)(t:Int)(s:ByteArray):∀(j:Nat) (u:Value),(uN [(t,s)])[j]?=some u->(W.alloc (.cells #[.int .u32 t,.string s] 56)).cell? ((⟨W.heap.size,0,none⟩:Addr).add j)=some u:=by
 intro j u hj;have h:=bS W (.cells #[.int .u32 t,.string s] 56);rw[Addr.add_lit,Nat.zero_add]
 match j,hj with
 |0,hj=>exact(aF _ _ 0 _ _ _ h).trans hj
 |1,hj=>exact(aF _ _ 1 _ _ _ h).trans hj
 |j+2,hj=>simp[uN]at hj
theorem jJ.comes{base:Nat}{a:qz}{bg:List (Bool×Int×Int)}{aH aR acd:List (Int×ByteArray)}{aQ:List Int}{W W7:World}(h:jJ B base a bg aH aR aQ W){v7:Value}(ho:W7.ownsRow base 56 2 v7 acd.length (uN acd))(hg:W.grownBy W7 a.bL.ownBlock):
  oW B a W7∧jJ B base {a with bL:=v7} bg aH acd aQ (W7.setCell ⟨B,5,none⟩ v7)∧Fx (jD B a) W (W7.setCell ⟨B,5,none⟩ v7):=by
 have hBr:a.bL.ownBlock≠some B:=aJ h.bL h.blk (λc e=>(by cases e));have je:oW B a W7:=h.blk.block (hg.block _ h.blk.lt (λe=>hBr e.symm));have hg2:W7.grownBy (W7.setCell ⟨B,5,none⟩ v7) (some B):=ah (aB _ (some B)) 5 v7;have f1:=h.bO.kept hg (bX h.bO h.bL (by decide));have f2:=h.aI.kept hg (bX h.aI h.bL (by decide));have f3:=h.nU.kept hg (bX h.nU h.bL (by decide));exact⟨je,⟨je.aay v7,f3.kept hg2 (.inr (aJ f3 je (λc e=>(by cases e)))),f2.kept hg2 (.inr (aJ f2 je (λc e=>(by cases e)))),ho.kept hg2 (.inr (aJ ho je (λc e=>(by cases e)))),f1.kept hg2 (.inr (aJ f1 je (λc e=>(by cases e))))⟩,
  aV (Fx.grown hg λk e=> .inr (.inr (.inr (.inl e)))) hg2 λi _ e=>by cases e;exact .inl rfl⟩
theorem LU{N B:Nat}{g:bI}{s:St}{TL:List Hp.Tm}{w:World}(n:Nd N B g s TL w)(fr:Int)(_hfrm:a_ fr)(p:aC)(hq:p.Hd)(hL:fJ w p [])(fM:0<=s.now∧s.now<=4611686018427387904)(hfl:s.aH.length<=1000000)(hdl:s.aQ.length<=1000000)(hcl:s.aR.length<=1000000):
  Calls Tryz.prog 133 #[.pointer (some ⟨N,0,none⟩),.pointer (some ⟨B,0,none⟩),.int .u32 fr,p.val] w λe w'=>e=.returned (.tuple #[])∧lW N B g s (s.dU fr p) TL w w':=by
 have hp:=hq.wf;obtain⟨hid,hde,hds,hfr,hfs,_⟩:=hp.num;have hb0:Below w.heap.size w (w.alloc p.box):=bC;have gW:=PB.new p w;have n0:=n.later hb0;obtain⟨s2,dB⟩:∃s2,s.dU fr p=s2:=⟨_,rfl⟩;rw[dB];have hs2:=dB;unfold St.dU at hs2;replace hs2:=hide hs2;dsimp only[aC.box]at hb0 n0;unfold PB at gW;dsimp only[aC.box]at gW;go_enter Tryz.func133,Tryz.ntmps133;go_upto_region 1 with(fail);generalize World.alloc _ _=W1 at hb0 gW n0 ⊢;have kK:=n.new (k:=w.heap.size) (aA _);obtain⟨⟨y,fd⟩,hy⟩:∃r,bH s.A p.dest s.now=r:=⟨_,rfl⟩;have HF:=hide (nT n0 p.dest s.now hde hy);generalize l5:w.heap.size=C at gW kK ⊢;replace l5:=hide l5;go_cut [8,9]from 10 to 23 (oh y fd W1)
 case first=>
  have hS:HB N B g.x.T C s.me s.seq s.cZ s.now p W1 W1.drew:=HB.drew (HB.mk' n0 gW (aU _ _));have hkB:=hide λW5 h5=>HB.mk' (W:=W5) n0 gW h5;go_region_held3 (HB N B g.x.T C s.me s.seq s.cZ s.now p W1) (first|with_reducible exact hS|with_reducible assumption|(with_reducible apply HB.vR hkB;assumption)|(with_reducible apply HB.kG hkB;assumption)|(with_reducible apply HB.eY hkB)|(with_reducible apply hkB.out;assumption)) ((go_at_call 79;refine(HF.out _ (And.right (by assumption))).mono ?_;rintro e w2 ⟨ao,c,rfl,hb2,hpr⟩;try ((with_reducible have hD:=hpr di (.slice none 0 0) (lH W1));obtain⟨d0,d1,d2,d3,d4,d5,d6⟩:=hD.cell;have q0:=hD.free 0;have q1:=hD.free 1;have q2:=hD.free 2;have q3:=hD.free 3;have q4:=hD.free 4;have q5:=hD.free 5;have q6:=hD.free 6;have hD':Hid (eB W1.heap.size di (.slice none 0 0) w2):=hD;clear hD);clear hpr))
  all_goals
   go_wp2_with fail;go_meet;first|with_reducible exact iA hb2|with_reducible exact j3 hb2 hD'
 case rest=>
  obtain⟨E,ao,c,rfl,rfl,hE,hEl,hb2⟩:=hcut;have Yz:¬Ft N g s E:=n0.new hEl;have rz:fd=true->a_ y.next:=λh=>by
   have:=oO n.nn.cr.tb.ok p.dest s.now;rw[hy]at this;rcases this with h1|h1
   ·exact h1.next
   ·rw[h]at h1;cases h1
  have hCE:C≠E:=by have:=PB.lt gW;omega
  have hP2:PB p C wc.drew:=PB.below gW hb2.drew;have hE2:eB E y (.slice ao y.bN.length c) wc.drew:=hE;have hbb:Below w.heap.size w wc.drew:=(hb0.trans (hb2.mono hb0.size)).drew;have n2:=n.later hbb;have hS:HC N B g.x.T C s.me s.seq s.cZ s.now p wc.drew:=HC.of n2 hP2;have hs3:=hs2.out;rw[hy]at hs3;dsimp only at hs3;clear HF gW n0 hb0 hb2 dB hs2 hE;by_cases rE:p.dest=s.me
  ·have hbe:(p.dest==s.me)=true:=by simpa using rE
   rw[aM rE]at hs3;clear rE;go_wp2_with fail;go_region_held3 (HC N B g.x.T C s.me s.seq s.cZ s.now p) (first|with_reducible exact hS|with_reducible assumption) (fail)
   rename_i iV;clear iV hS;generalize World.drew _=W2 at hP2 hE2 hbb n2 ⊢;obtain⟨i0,hi,hz0,hz1,hz2⟩:=info_parts X5;have ha2:=n2.ac;have hbs:=n2.base;obtain⟨_,_,_,_,_,_,_,p7,_,_,_,jF⟩:=PB.cell hP2;have c5:=ha2.blk.cell.2.2.2.2.2.1;have haT:=λo=>(ha2.alloc o).blk.cell.2.2.2.2.2.1;have hpT:=λo=>(PB.cell (PB.alloc hP2 o)).2.2.2.2.2.2.2.1;have hqT:=λo=>(PB.cell (PB.alloc hP2 o)).2.2.2.2.2.2.2.2.2.2.2;have hrow:=λo=>(ha2.alloc o).drew.bL;have hcf:=λW=>U6 W p.aI p.pay;have jM:Hid (∀o:Obj,B+1<=(W2.alloc o).drew.heap.size):=by
    intro o;show B+1<=(W2.alloc o).heap.size;rw[World.size_alloc];omega
   have HX:Hid (∀v7 w7,w7.ownsRow (B+1) 56 2 v7 (s.aR.length+1) (uN s.aR++uN [(p.aI,p.pay)])->(W2.alloc (.cells #[.int .u32 p.aI,.string p.pay] 56)).drew.grownBy w7 g.a.bL.ownBlock->(w7.cell? ⟨B,5,none⟩=some g.a.bL∧w7.frozen? ⟨B,5,none⟩=false)∧lW N B g s s2 TL w (w7.setCell ⟨B,5,none⟩ v7)):=by
    intro v7 w7 iw gV;rw[<-Cr,show s.aR.length+1=(s.aR++ [(p.aI,p.pay)]).length by simp]at iw;have hb3:Below W2.heap.size W2 (W2.alloc (.cells #[.int .u32 p.aI,.string p.pay] 56)).drew:=(bC).drew;have n3:=n2.later hb3;obtain⟨je,hm,hf⟩:=n3.ac.comes iw gV;obtain⟨q1,q2⟩:=n3.act (s':=s2) (by rw[<-hs3];exact hm) hf (by rw[<-hs3];exact⟨rfl,rfl,rfl,rfl,rfl,rfl,rfl,rfl,rfl,rfl,rfl,rfl,rfl,rfl,rfl⟩) (by rw[<-hs3];exact n3.now) (by rw[<-hs3];exact n3.bn);exact⟨⟨je.cell.2.2.2.2.2.1,je.free 5⟩,lW.pre (hbb.trans (hb3.mono hbb.size)) ⟨_,q1,q2,rfl⟩⟩
   clear hs3 n2 ha2 hP2 hE2 hbb;go_wp2_with fail;go_region_law (refine gX rfl (.tmp 52) (.tmp 58) 49 rfl (B+1) 56 i0 (.agg #[.int .u32 0,.string ⟨#[]⟩]) 2 24 Tryz.underlying49 hi hz0 hz1 hz2 rfl (by decide) g.a.bL s.aR.length (uN s.aR) (by simp[Act.eval]) (hrow _) ⟨_,0,none⟩ 1 1 (uN [(p.aI,p.pay)]) (by simp[Act.eval]) rfl (hcf _) (SF _) (by unfold maxLen;omega) (by omega) (jM.out _) ?_;intro v7 w7 iw gV _;obtain⟨⟨g1,g2⟩,hm⟩:=HX.out _ _ iw gV;obtain⟨Ri,Vb,rfl,_⟩:=ay iw)
   all_goals
    generalize World.setCell _ _ _=w8 at hm ⊢;clear g1 g2 gV iw;go_wp2;go_returns;exact⟨rfl,hm⟩
  ·have hbe:(p.dest==s.me)=false:=by simpa using rE
   rw[aG rE]at hs3;go_wp2_with fail;go_region_held3 (HC N B g.x.T C s.me s.seq s.cZ s.now p) (first|with_reducible exact hS|with_reducible assumption) (fail)
   rename_i iV;clear iV hS;generalize World.drew _=W2 at hP2 hE2 hbb n2 ⊢;have JU:Up B (Ft N g s) (Ft N g s) w W2:=.below hbb;by_cases htl:p.ttl=1
   ·have hbt:(p.ttl==1)=true:=by simpa using htl
    rw[aM htl]at hs3;clear htl;have HX:=hide (jB n2 4 hdl);rw[hs3]at HX;obtain⟨p0,p1,p2,p3,p4,p5,p6,p7,p8,p9,jL,jF⟩:=PB.cell hP2;clear hP2 hE2;go_wp2_with fail;refine aT HX.out ?_;rintro e w9 ⟨rfl,hN⟩;obtain⟨g9,n9,u9,t9⟩:=hN;go_wp2;go_returns;exact⟨rfl,g9,n9,JU.trans u9,t9.out.trans rfl⟩
   ·have hbt:(p.ttl==1)=false:=by simpa using htl
    rw[aG htl]at hs3;cases fd
    ·rw[aG (by simp)]at hs3;obtain⟨s4,hs4⟩:∃z,s.drop 3=z:=⟨_,rfl⟩;have HD:=hide (jB n2 3 hdl);rw[hs4]at HD;have h4:Hid (s4.now=s.now∧s4.me=s.me∧s4.seq=s.seq∧s4.cZ=s.cZ∧s4.aH=s.aH∧({s4 with A:=gU s4.A p.dest St.oN}:St).kE fr p.dest=s2):=by
      show _∧_;rw[<-hs4];exact⟨rfl,rfl,rfl,rfl,rfl,hs3⟩
     clear hs3 hs4;obtain⟨p0,p1,p2,p3,p4,p5,p6,p7,p8,p9,jL,jF⟩:=PB.cell hP2;go_wp2_with fail;refine aT HD.out ?_;rintro e w4 ⟨rfl,hN⟩;obtain⟨g4,n4,u4,t4⟩:=hN;obtain⟨l_,rG⟩:=u4.kF hP2 kK;obtain⟨K5,afV⟩:=u4.keepR hE2 Yz;have qg:=JU.trans u4;clear p0 p1 p2 p3 p4 p5 p6 p7 p8 p9 jL jF HD hP2 hE2 n2 u4 JU;have HB:=hide (acC n4.drew p.dest hde);have hS:HR N B g4.x.T C E s4.me s4.seq s4.cZ s4.now p y (.slice ao y.bN.length c) w4.drew:=HR.jW n4 l_ K5 rfl rfl rfl rfl rfl;go_wp2_with fail;go_region_held3 (HR N B g4.x.T C E s4.me s4.seq s4.cZ s4.now p y (.slice ao y.bN.length c)) (first|with_reducible exact hS|with_reducible assumption) ((go_at_call 169;refine(HB.out).mono ?_;rintro e w5 ⟨rfl,hN⟩;obtain⟨g5,n5,u5,t5⟩:=hN;obtain⟨xR,ad6⟩:=u5.kF l_ rG;obtain⟨Wj,afU⟩:=u5.keepR K5 afV;have hk5:HR N B g4.x.T C E s4.me s4.seq s4.cZ s4.now p y (.slice ao y.bN.length c) w5:=HR.at n5 xR Wj t5.out rfl rfl rfl rfl))
     clear hS hk5;rename_i iV;clear iV;clear HB;have zn:=(qg.trans (.below (aU _ _).drew)).trans u5;obtain⟨s5,hs5⟩:∃z,({s4 with A:=gU s4.A p.dest St.oN}:St)=z:=⟨_,rfl⟩;have h5:Hid (s5.aH=s.aH∧s5.kE fr p.dest=s2):=by
      show _∧_;rw[<-hs5];exact⟨h4.out.2.2.2.2.1,h4.out.2.2.2.2.2⟩
     rw[hs5]at n5 zn;have HX:=hide (Em n5 fr p.dest hde (by rw[h5.out.1];exact hfl));rw[h5.out.2]at HX;obtain⟨p0,p1,p2,p3,p4,p5,p6,p7,p8,p9,jL,jF⟩:=PB.cell xR;clear hs5 h5 h4 xR l_ K5 Wj n4;go_wp2_with fail;refine aT HX.out ?_;rintro e w9 ⟨rfl,hN⟩;obtain⟨g9,n9,u9,t9⟩:=hN;go_wp2;go_returns;exact⟨rfl,g9,n9,zn.trans u9,t9.out.trans (t5.out.trans t4.out)⟩
    ·rw[aM rfl]at hs3;have hyn:=rz rfl;have hwt:wrap64 (p.ttl - 1)=p.ttl - 1:=by
      have:=hq.ttl;unfold wrap64;omega
     have hbC:w.heap.size<=C:=by rw[l5.out];exact aA _
     have l_:PB ({p with ttl:=p.ttl - 1}:aC) C (W2.setCell ⟨C,0,none⟩ (.int .i64 (p.ttl - 1))):=hP2.pq (p.ttl - 1);have hb4:Below w.heap.size w (W2.setCell ⟨C,0,none⟩ (.int .i64 (p.ttl - 1))):=hbb.setCell (p:=⟨C,0,none⟩) hbC _;have K5:eB E y (.slice ao y.bN.length c) (W2.setCell ⟨C,0,none⟩ (.int .i64 (p.ttl - 1))):=(kS _ _ _ _ (Ne.symm hCE)).trans hE2;have n4:=n.later hb4;have hwf:({p with ttl:=p.ttl - 1}:aC).Wf:=by
      have h1:=hq.ttl;refine {hp with WE:=?_,Wz:=?_}<;>(dsimp only;omega)
     have HS:=hide (Cn n4 y.next ({p with ttl:=p.ttl - 1}:aC) hwf [] (hL.below hb4) hfl);obtain⟨s6,hs6⟩:∃z,s.send y.next ({p with ttl:=p.ttl - 1}:aC) []=z:=⟨_,rfl⟩;rw[hs6]at HS;dsimp only[aC.val]at HS;have h6:Hid (s6.now=s.now∧ {s6 with A:=iN (iN s6.A p.dest (s.now+3000)) p.aI (s.now+3000)}=s2):=by
      show _∧_;rw[<-hs6];exact⟨rfl,hs3⟩
     clear hs3 hs6;obtain⟨p0,p1,p2,p3,p4,p5,p6,p7,p8,p9,jL,jF⟩:=PB.cell hP2;have f0:=PB.free hP2 0;clear n2 hP2 hE2 hbb JU;go_upto_region 11 with(fail);generalize World.setCell _ _ _=W4 at l_ hb4 K5 n4 HS ⊢;clear p0 p1 p2 p3 p4 p5 p6 p7 p8 p9 jL jF f0;obtain⟨p0,p1,p2,p3,p4,p5,p6,p7,p8,p9,jL,jF⟩:=PB.cell l_;obtain⟨e0,e1,e2,e3,e4,e5,e6⟩:=K5.cell;dsimp only at p0 p1 p2 p3 p4 p5 p6 p7 p8 p9 jL jF;clear htl;go_wp2_with fail;refine aT HS.out ?_;rintro e w6 ⟨rfl,hN⟩;obtain⟨g6,n6,u6,t6⟩:=hN;clear p0 p1 p2 p3 p4 p5 p6 p7 p8 p9 jL jF e0 e1 e2 e3 e4 e5 e6 HS;obtain⟨J2,kP⟩:=u6.kF l_ kK;obtain⟨YB,UB⟩:=u6.keepR K5 Yz;have nH:Up B (Ft N g s) (Ft N g6 s6) w w6:=(Up.below hb4).trans u6;clear l_ K5 n4 u6 hb4;have hn6:0<=s6.now∧s6.now<=4611686018427387904:=by rw[h6.out.1];exact fM
     have HV:Hid (∀t,t=s6.now+3000->Calls Tryz.prog 81 #[.pointer (some ⟨g6.x.T,0,none⟩),.int .u32 p.dest,.int .u64 t] w6.drew λr w'=>r=.returned (.tuple #[])∧lW N B g6 s6 {s6 with A:=iN s6.A p.dest (s6.now+3000)} TL w6.drew w'):=by
      rintro _ rfl;exact Oh n6.drew p.dest (s6.now+3000) hde (by unfold Ca;omega)
     have hS:HR N B g6.x.T C E s6.me s6.seq s6.cZ s6.now ({p with ttl:=p.ttl - 1}:aC) y (.slice ao y.bN.length c) w6.drew:=HR.jW n6 J2 YB rfl rfl rfl rfl rfl;go_wp2_with fail;go_region_held3 (HR N B g6.x.T C E s6.me s6.seq s6.cZ s6.now ({p with ttl:=p.ttl - 1}:aC) y (.slice ao y.bN.length c)) (first|with_reducible exact hS|with_reducible assumption) ((go_at_call 81;refine(HV.out _ (by first|rfl|exact mM hn6 (by decide))).mono ?_;rintro e w7 ⟨rfl,hN⟩;obtain⟨g7,n7,u7,t7⟩:=hN;obtain⟨Yq,Qd⟩:=u7.kF J2 kP;obtain⟨YA,Qb⟩:=u7.keepR YB UB;have hk7:HR N B g6.x.T C E s6.me s6.seq s6.cZ s6.now ({p with ttl:=p.ttl - 1}:aC) y (.slice ao y.bN.length c) w7:=HR.at n7 Yq YA t7.out rfl rfl rfl rfl))
     clear hS hk7;rename_i iV;clear iV;clear HV;have ua7:=(nH.trans (.below (aU _ _).drew)).trans u7;obtain⟨s7,hs7⟩:∃z,({s6 with A:=iN s6.A p.dest (s6.now+3000)}:St)=z:=⟨_,rfl⟩;have h7:Hid (s7.now=s.now∧ {s7 with A:=iN s7.A p.aI (s7.now+3000)}=s2):=by
      show _∧_;rw[<-hs7];have e:=h6.out.2;rw[<-h6.out.1]at e;exact⟨h6.out.1,e⟩
     rw[hs7]at n7 ua7 Qd Qb;clear hs7 nH u7 n6 J2 YB kP UB h6;have hn7:0<=s7.now∧s7.now<=4611686018427387904:=by rw[h7.out.1];exact fM
     have HV:Hid (∀t,t=s7.now+3000->Calls Tryz.prog 81 #[.pointer (some ⟨g7.x.T,0,none⟩),.int .u32 p.aI,.int .u64 t] w7.drew λr w'=>r=.returned (.tuple #[])∧lW N B g7 s7 s2 TL w7.drew w'):=by
      rintro _ rfl;have:=Oh n7.drew p.aI (s7.now+3000) hfr (by unfold Ca;omega);rw[h7.out.2]at this;exact this
     have hsm:Hid (s2.me=s7.me∧s2.seq=s7.seq∧s2.cZ=s7.cZ∧s2.now=s7.now):=by
      show _∧_;rw[<-h7.out.2];exact⟨rfl,rfl,rfl,rfl⟩
     have hS:HR N B g7.x.T C E s7.me s7.seq s7.cZ s7.now ({p with ttl:=p.ttl - 1}:aC) y (.slice ao y.bN.length c) w7.drew:=HR.jW n7 Yq YA rfl rfl rfl rfl rfl;go_wp2_with fail;go_region_held3 (HR N B g7.x.T C E s7.me s7.seq s7.cZ s7.now ({p with ttl:=p.ttl - 1}:aC) y (.slice ao y.bN.length c)) (first|with_reducible exact hS|with_reducible assumption) ((go_at_call 81;refine(HV.out _ (by first|rfl|exact mM hn7 (by decide))).mono ?_;rintro e w8 ⟨rfl,hN⟩;obtain⟨g8,n8,u8,t8⟩:=hN;obtain⟨KZ,abR⟩:=u8.kF Yq Qd;obtain⟨UE,abQ⟩:=u8.keepR YA Qb;have hk8:HR N B g7.x.T C E s7.me s7.seq s7.cZ s7.now ({p with ttl:=p.ttl - 1}:aC) y (.slice ao y.bN.length c) w8:=HR.at n8 KZ UE t8.out hsm.out.1 hsm.out.2.1 hsm.out.2.2.1 hsm.out.2.2.2))
     clear hS hk8;rename_i iV;clear iV;have VY:=(ua7.trans (.below (aU _ _).drew)).trans u8;have ta:g8.x.T=g.x.T:=t8.out.trans (t7.out.trans t6.out);clear Yq YA KZ UE;go_wp2;go_returns;exact⟨rfl,g8,n8,VY,ta⟩
end Go.Proofs.YtakaadcpaeiccabGreat
