import Derived.Test.YtakaadcpaeiccabGreatV11
set_option maxHeartbeats 8000000
set_option maxRecDepth 100000
namespace Go.Proofs.YtakaadcpaeiccabGreat
open Go.RowKit Go.Maps
variable{fd:Bool}{seq bN:Int}{B C D N T c:Nat}{o:Obj}{ao:Option Addr}{p:aD}{x y:Rt}{s:St}{u:Value}{W W0 W1 a w w2:World}
@[reducible] def HC(N B T C : Nat)(me seq bN now : Int)(p : aD)(W : World): Prop :=
 (W.cell? ⟨N,2,none⟩=some (.int .u32 me)∧W.cell? ⟨N,3,none⟩=some (.int .u32 seq)∧W.cell? ⟨N,4,none⟩=some (.int .u64 bN)∧W.cell? ⟨N,7,none⟩=some (.pointer (some ⟨T,0,none⟩))∧W.cell? ⟨B,0,none⟩=some (.int .u64 now))∧
 (W.cell? ⟨C,0,none⟩=some (.int .i64 p.ttl)∧W.cell? ⟨C,1,none⟩=some (.int .i64 p.kind)∧W.cell? ⟨C,2,none⟩=some (.int .i64 p.hops)∧W.cell? ⟨C,3,none⟩=some (.bool p.unk)∧W.cell? ⟨C,4,none⟩=some (.int .u32 p.id)∧W.cell? ⟨C,5,none⟩=some (.int .u32 p.dest)∧W.cell? ⟨C,6,none⟩=some (.int .u32 p.bA)∧W.cell? ⟨C,7,none⟩=some (.int .u32 p.aH)∧W.cell? ⟨C,8,none⟩=some (.int .u32 p.dQ)∧W.cell? ⟨C,9,none⟩=some (.int .u32 p.life)∧W.cell? ⟨C,10,none⟩=some (.slice p.la p.ln p.lc)∧W.cell? ⟨C,11,none⟩=some (.string p.pay))
@[reducible] def HB(N B T C : Nat)(me seq bN now : Int)(p : aD)(W0 W : World): Prop := HC N B T C me seq bN now p W ∧ Below W0.heap.size W0 W
theorem HC.of{g:bI}{TL:List Hp.Tm}(n:Nd N B g s TL W)(h:PB p C W):HC N B g.x.T C s.me s.seq s.bN s.now p W:=⟨n.cell,h.cell⟩
theorem HB.drew{me now:Int}(h:HB N B T C me seq bN now p W0 W):HB N B T C me seq bN now p W0 W.drew:=⟨h.1,h.2.drew⟩
theorem HB.mk'{g:bI}{TL:List Hp.Tm}(n:Nd N B g s TL W0)(h:PB p C W0)(hb:Below W0.heap.size W0 W):HB N B g.x.T C s.me s.seq s.bN s.now p W0 W:=⟨.of (n.later hb) (h.below hb),hb⟩
theorem Up.box{F F':Nat->Prop}{b:World}(u:Up B F F' a b)(h:PB p C a)(hn:¬F C):PB p C b:=u.block C _ h hn (.inl (D_ p))
theorem Nd.new{g:bI}{TL:List Hp.Tm}(n:Nd N B g s TL W){k:Nat}(hk:W.heap.size<=k):¬Ft N g s k:=λh=>by have:=n.nn.lt h;omega
theorem PB.abJ(h:PB p C W)(t k:Int):PB {p with ttl:=t,kind:=k} C ((W.setCell ⟨C,0,none⟩ (.int .i64 t)).setCell ⟨C,1,none⟩ (.int .i64 k)):=by
 unfold PB at h ⊢;simp[World.setCell,d_,h]
theorem uE{n:Nat}(h:Below n a w)(hD:n<=D)(v0 v1 v2 v3 v4 v5 v6:Value):Below n a (((((((w.setCell ⟨D,0,none⟩ v0).setCell ⟨D,1,none⟩ v1).setCell ⟨D,2,none⟩ v2).setCell ⟨D,3,none⟩ v3).setCell ⟨D,4,none⟩ v4).setCell ⟨D,5,none⟩ v5).setCell ⟨D,6,none⟩ v6):=
 ((((((h.setCell (p:=⟨D,0,none⟩) hD _).setCell (p:=⟨D,1,none⟩) hD _).setCell (p:=⟨D,2,none⟩) hD _).setCell (p:=⟨D,3,none⟩) hD _).setCell (p:=⟨D,4,none⟩) hD _).setCell (p:=⟨D,5,none⟩) hD _).setCell (p:=⟨D,6,none⟩) hD _
theorem eD.adw{v:Value}(h:eD D x u w):eD D y v (((((((w.setCell ⟨D,0,none⟩ (.int .u32 y.dest)).setCell ⟨D,1,none⟩ (.int .u32 y.seq)).setCell ⟨D,2,none⟩ (.int .i64 y.hops)).setCell ⟨D,3,none⟩ (.int .u32 y.next)).setCell ⟨D,4,none⟩ (.bool y.valid)).setCell ⟨D,5,none⟩ (.int .u64 y.exp)).setCell ⟨D,6,none⟩ v):=by
 unfold eD at h ⊢;simp[World.setCell,d_,h]
theorem nT{g:bI}{TL:List Hp.Tm}(n0:Nd N B g s TL W1)(d now:Int)(hd:a_ d){y:Rt}{fd:Bool}(hr:bE s.A d now=(y,fd)):
  ∀W5,Below W1.heap.size W1 W5->Calls Tryz.prog 79 #[.pointer (some ⟨g.x.T,0,none⟩),.int .u32 d,.int .u64 now] W5 λe w'=>∃ao c,e=.returned (.tuple #[Ja y (.slice ao y.bL.length c),.bool fd])∧Below W1.heap.size W1 w'∧∀x u,eD W1.heap.size x u W5->eD W1.heap.size x u w':=by
 intro W5 h5;have h:=abo (n0.later h5) d now hd;rw[hr]at h;refine h.mono ?_;rintro e w' ⟨ao,c,rfl,hb⟩;exact⟨ao,c,rfl,h5.trans (hb.mono h5.size),λx u h=>h.later hb⟩
theorem lG(W:World):eD W.heap.size cZ (.slice none 0 0) (W.alloc (.cells #[.int .u32 0,.int .u32 0,.int .i64 0,.int .u32 0,.bool false,.int .u64 0,.slice none 0 0] 38)).drew:=bV W _
def og(y:Rt)(fd:Bool)(W1:World)(pv fv:Value)(W:World):Prop:=∃D ao c,pv=.pointer (some ⟨D,0,none⟩)∧fv=.bool fd∧eD D y (.slice ao y.bL.length c) W∧W1.heap.size<=D∧Below W1.heap.size W1 W
theorem iw(hb:Below W1.heap.size W1 w2):og y fd W1 (.pointer (some ⟨w2.heap.size,0,none⟩)) (.bool fd) (w2.alloc (.cells #[.int .u32 y.dest,.int .u32 y.seq,.int .i64 y.hops,.int .u32 y.next,.bool y.valid,.int .u64 y.exp,.slice ao y.bL.length c] 38)):=
 ⟨_,ao,c,rfl,rfl,bV _ _,hb.size,hb.alloc hb.size _⟩
theorem j6(hb:Below W1.heap.size W1 w2)(hD:Hid (eD W1.heap.size x u w2)):og y fd W1 (.pointer (some ⟨W1.heap.size,0,none⟩)) (.bool fd) (((((((w2.setCell ⟨W1.heap.size,0,none⟩ (.int .u32 y.dest)).setCell ⟨W1.heap.size,1,none⟩ (.int .u32 y.seq)).setCell ⟨W1.heap.size,2,none⟩ (.int .i64 y.hops)).setCell ⟨W1.heap.size,3,none⟩ (.int .u32 y.next)).setCell ⟨W1.heap.size,4,none⟩ (.bool y.valid)).setCell ⟨W1.heap.size,5,none⟩ (.int .u64 y.exp)).setCell ⟨W1.heap.size,6,none⟩ (.slice ao y.bL.length c)):=
 ⟨_,ao,c,rfl,rfl,hD.out.adw,aB _,uE hb (aB _) _ _ _ _ _ _ _⟩
theorem HB.kF{me now:Int}(hk:Hid (∀W5,Below W0.heap.size W0 W5->HB N B T C me seq bN now p W0 W5))(h:Below W0.heap.size W0 W):HB N B T C me seq bN now p W0 (W.alloc o):=hk.out _ (h.alloc h.size _)
theorem HB.eT{me now:Int}(hk:Hid (∀W5,Below W0.heap.size W0 W5->HB N B T C me seq bN now p W0 W5)):HB N B T C me seq bN now p W0 (W0.alloc o).drew:=hk.out _ (bC).drew
theorem HB.vK{me now:Int}{v0 v1 v2 v3 v4 v5 v6:Value}(hk:Hid (∀W5,Below W0.heap.size W0 W5->HB N B T C me seq bN now p W0 W5))(h:Below W0.heap.size W0 W):HB N B T C me seq bN now p W0 (((((((W.setCell ⟨W0.heap.size,0,none⟩ v0).setCell ⟨W0.heap.size,1,none⟩ v1).setCell ⟨W0.heap.size,2,none⟩ v2).setCell ⟨W0.heap.size,3,none⟩ v3).setCell ⟨W0.heap.size,4,none⟩ v4).setCell ⟨W0.heap.size,5,none⟩ v5).setCell ⟨W0.heap.size,6,none⟩ v6):=hk.out _ (uE h (aB _) _ _ _ _ _ _ _)
theorem Bt{g:bI}{TL:List Hp.Tm}(n:Nd N B g s TL w)(p:aD)(hp:p.Wf)(hL:fH w p [])(hfl:s.aF.length<=1000000)(hdl:s.aP.length<=1000000):
  Calls Tryz.prog 181 #[.pointer (some ⟨N,0,none⟩),.pointer (some ⟨B,0,none⟩),p.val] w λe w'=>e=.returned (.tuple #[])∧lT N B g s (s.answer p) TL w w':=by
 have hb0:Below w.heap.size w (w.alloc p.box):=bC;have gT:=PB.new p w;have n0:=n.later hb0;have hfr:a_ p.aH:=⟨hp.ac5,by have:=hp.ac2;omega⟩;obtain⟨s2,dB⟩:∃s2,s.answer p=s2:=⟨_,rfl⟩;rw[dB];replace dB:=(show Hid _ from dB);dsimp only[aD.box]at hb0 n0;unfold PB at gT;dsimp only[aD.box]at gT;go_enter Tryz.func181,Tryz.ntmps181;go_upto_region 1 with(fail);generalize World.alloc _ _=W1 at hb0 gT n0 ⊢;have rf:=(show Hid _ from HB.mk' n0 gT (aV _ _));obtain⟨⟨y,fd⟩,hr⟩:∃r,bE s.A p.aH s.now=r:=⟨_,rfl⟩;have HF:=(show Hid _ from nT n0 p.aH s.now hfr hr);generalize lZ:w.heap.size=C at gT rf ⊢;replace lZ:=(show Hid _ from lZ);go_cut [6,7]from 8 to 21 (og y fd W1)
 case first=>
  have hS:HB N B g.x.T C s.me s.seq s.bN s.now p W1 W1.drew:=HB.drew rf.out;have hkB:=(show Hid _ from λW5 h5=>HB.mk' (W:=W5) n0 gT h5);go_region_held3 (HB N B g.x.T C s.me s.seq s.bN s.now p W1) (first|with_reducible exact hS|with_reducible assumption|(with_reducible apply HB.vK hkB;assumption)|(with_reducible apply HB.kF hkB;assumption)|(with_reducible apply HB.eT hkB)|(with_reducible apply hkB.out;assumption)) ((go_at_call 79;refine(HF.out _ (And.right (by assumption))).mono ?_;rintro e w2 ⟨ao,c,rfl,hb2,hpr⟩;try ((with_reducible have hD:=hpr cZ (.slice none 0 0) (lG W1));obtain⟨d0,d1,d2,d3,d4,d5,d6⟩:=hD.cell;have q0:=hD.free 0;have q1:=hD.free 1;have q2:=hD.free 2;have q3:=hD.free 3;have q4:=hD.free 4;have q5:=hD.free 5;have q6:=hD.free 6;have hD':Hid (eD W1.heap.size cZ (.slice none 0 0) w2):=hD;clear hD);clear hpr))
  all_goals
   go_wp2_with fail;go_meet;first|with_reducible exact iw hb2|with_reducible exact j6 hb2 hD'
 case rest=>
  obtain⟨D,ao,c,rfl,rfl,hD,hDl,hb2⟩:=hcut;have n2:=n0.later hb2;have hP2:=PB.below gT hb2;have hz:=hb0.size;have hCD:C≠D:=by have:=PB.lt gT;omega
  clear rf gT n0 HF;have hs2:=dB.out;unfold St.answer at hs2;rw[hr]at hs2;dsimp only at hs2;obtain⟨d0,d1,d2,d3,d4,d5,d6⟩:=hD.cell;obtain⟨p0,p1,p2,p3,p4,p5,p6,p7,p8,p9,iK,je⟩:=PB.cell hP2;cases fd
  ·rw[ay (by simp)]at hs2;subst hs2;have HD:=(show Hid _ from jJ n2 3 hdl);clear d0 d1 d2 d3 d4 d5 d6 p0 p1 p2 p3 p4 p5 p6 p7 p8 p9 iK je dB;go_wp2_with fail;refine aU HD.out ?_;rintro e w3 ⟨rfl,hN⟩;go_wp2;go_returns;exact⟨rfl,(hN.pre hb2).pre hb0⟩
  ·rw[aI rfl]at hs2;subst hs2;have q0:=PB.free hP2 0;have q1:=PB.free hP2 1;have hb3:Below w.heap.size w ((wc.setCell ⟨C,0,none⟩ (.int .i64 8)).setCell ⟨C,1,none⟩ (.int .i64 2)):=((hb0.trans (hb2.mono hb0.size)).setCell (p:=⟨C,0,none⟩) (by rw[lZ.out];exact aB _) _).setCell (p:=⟨C,1,none⟩) (by rw[lZ.out];exact aB _) _;have hP3:=hP2.abJ 8 2;have n3:=n.later hb3;have HS:Hid (Calls Tryz.prog 80 #[.pointer (some ⟨B,0,none⟩),.int .u32 y.next,({p with ttl:=8,kind:=2}:aD).val] ((wc.setCell ⟨C,0,none⟩ (.int .i64 8)).setCell ⟨C,1,none⟩ (.int .i64 2)) λe w'=>e=.returned (.tuple #[])∧lT N B g s (s.send y.next {p with ttl:=8,kind:=2} []) TL _ w'):=
    Br n3 y.next {p with ttl:=8,kind:=2} ⟨by dsimp only;omega,by dsimp only;omega,by dsimp only;omega,by dsimp only;omega,hp.Mg,hp.Mf,hp.id0,hp.id1,hp.ada,hp.ac9,hp.YS,hp.YR,hp.ac5,hp.ac2,hp.ac1,hp.ac0,hp.abX,hp.abW,hp.ln1,hp.ady⟩ [] (hL.below hb3) hfl
   have hD3:eD D y (.slice ao y.bL.length c) ((wc.setCell ⟨C,0,none⟩ (.int .i64 8)).setCell ⟨C,1,none⟩ (.int .i64 2)):=(lV _ _ _ _ (Ne.symm hCD)).trans ((lV _ _ _ _ (Ne.symm hCD)).trans hD);clear n2 dB lZ;dsimp only[aD.val]at HS;go_upto_region 5 with(fail);generalize World.setCell _ _ _=W3 at hb3 hP3 n3 HS hD3 ⊢;clear d0 d1 d2 d3 d4 d5 d6 p0 p1 p2 p3 p4 p5 p6 p7 p8 p9 iK je q0 q1;obtain⟨d0,d1,d2,d3,d4,d5,d6⟩:=hD3.cell;obtain⟨p0,p1,p2,p3,p4,p5,p6,p7,p8,p9,iK,je⟩:=PB.cell hP3;dsimp only at p0 p1 p2 p3 p4 p5 p6 p7 p8 p9 iK je;go_wp2_with fail;refine aU HS.out ?_;rintro e w3 ⟨rfl,hN⟩;go_wp2;go_returns;exact⟨rfl,hN.pre hb3⟩
variable{C:Nat}{p:aD}{W:World}
theorem PB.o6(h:PB p C W)(t:Int):PB {p with ttl:=t} C (W.setCell ⟨C,0,none⟩ (.int .i64 t)):=by
 unfold PB at h ⊢;simp[World.setCell,d_,h]
theorem PB.DX(h:PB p C W)(t:Int):PB {p with hops:=t} C (W.setCell ⟨C,2,none⟩ (.int .i64 t)):=by
 unfold PB at h ⊢;simp[World.setCell,d_,h]
theorem PB.abM(h:PB p C W)(t:Int)(b:Bool):PB {p with bA:=t,unk:=b} C ((W.setCell ⟨C,6,none⟩ (.int .u32 t)).setCell ⟨C,3,none⟩ (.bool b)):=by
 unfold PB at h ⊢;simp[World.setCell,d_,h]
theorem vQ(h:Int)(h0:0<=h∧h<=255)(w:World):Calls Tryz.prog 162 #[.int .i64 h] w λe w'=>e=.returned (.int .i64 (St.far h))∧w'=w:=by
 have hw:wrap64 (h+1)=h+1:=by unfold wrap64;omega
 have hf:∀y,y=min (h+1) 255->y=St.far h:=λy hy=>hy;go_enter Tryz.func162,Tryz.ntmps162;go_wp2;all_goals (go_ret;exact⟨uY (by unfold St.far;omega),rfl⟩)
theorem aD.Wf.num(h:p.Wf):a_ p.id∧a_ p.dest∧a_ p.bA∧a_ p.aH∧a_ p.dQ∧a_ p.life:=by
 obtain⟨_,_,_,_,_,_,h1,h2,h3,h4,h5,h6,h7,h8,h9,h10,h11,h12,_,_⟩:=h;unfold a_;omega
structure aD.Hd(p:aD):Prop where
 wf:p.Wf
 ttl:1<=p.ttl∧p.ttl<=255
 hops:0<=p.hops∧p.hops<=255
theorem M7{N B:Nat}{g:bI}{s:St}{TL:List Hp.Tm}{w:World}(n:Nd N B g s TL w)(p:aD)(hq:p.Hd)(hL:fH w p [])(hfl:s.aF.length<=1000000):
  Calls Tryz.prog 165 #[.pointer (some ⟨N,0,none⟩),.pointer (some ⟨B,0,none⟩),p.val] w λe w'=>e=.returned (.tuple #[])∧lT N B g s (s.askOn p) TL w w':=by
 have hp:=hq.wf;obtain⟨_,hde,hds,_,_,_⟩:=hp.num;have hb0:Below w.heap.size w (w.alloc p.box):=bC;have gT:=PB.new p w;have n0:=n.later hb0;obtain⟨s2,dB⟩:∃s2,s.askOn p=s2:=⟨_,rfl⟩;rw[dB];replace dB:=(show Hid _ from dB);have hnu:a_ (eP s.A p.dest):=by
  unfold eP;cases hl:aK s.A p.dest with
  |none=>exact⟨by simp,by simp⟩
  |some y=>exact(n.nn.cr.tb.ok y (dA hl).1).seq
 dsimp only[aD.box]at hb0 n0;unfold PB at gT;dsimp only[aD.box]at gT;go_enter Tryz.func165,Tryz.ntmps165;go_upto_region 1 with(fail);generalize World.alloc _ _=W1 at hb0 gT n0 ⊢;have rf:=(show Hid _ from HB.mk' n0 gT (aV _ _));have HF:=(show Hid _ from λW5 (h5:Below W1.heap.size W1 W5)=>YZ (n0.later h5) p.dest hde);generalize yO:(aK s.A p.dest).isSome=fd at HF;generalize hnm:eP s.A p.dest=nm at HF hnu;generalize lZ:w.heap.size=C at gT rf ⊢;replace lZ:=(show Hid _ from lZ);have hS:HB N B g.x.T C s.me s.seq s.bN s.now p W1 W1.drew:=HB.drew rf.out;go_region_held3 (HB N B g.x.T C s.me s.seq s.bN s.now p W1) (first|with_reducible exact hS|with_reducible assumption) ((go_at_call 157;refine(HF.out _ (And.right (by assumption))).mono ?_;rintro e w2 ⟨rfl,rfl⟩))
 have hbd:Below W1.heap.size W1 W1.drew:=(aV _ _).drew;have n2:=n0.later hbd;have hP2:=PB.below gT hbd;have hb2:=hb0.trans (hbd.mono hb0.size);clear hS rf HF gT n0 hb0 hbd;generalize World.drew _=W2 at n2 hP2 hb2 ⊢;have hwt:wrap64 (p.ttl - 1)=p.ttl - 1:=by
  have:=hq.ttl;unfold wrap64;omega
 cases fd
 ·have Tf:Hid (s.send 0 ({p with ttl:=p.ttl - 1,hops:=St.far p.hops}:aD) []=s2):=by
   rw[<-dB.out];unfold St.askOn;rw[yO];rfl
  have hwf:({p with ttl:=p.ttl - 1,hops:=St.far p.hops}:aD).Wf:=by
   have h1:=hq.ttl;have h2:=hq.hops;refine {hp with Vr:=?_,Vq:=?_,Mg:=?_,Mf:=?_}<;>(unfold St.far;dsimp only;omega)
  go_upto_region 4 with(fail);have hbC:w.heap.size<=C:=by rw[lZ.out];exact aB _
  have l_:=hP2.o6 (p.ttl - 1);have hb4:Below w.heap.size w (W2.setCell ⟨C,0,none⟩ (.int .i64 (p.ttl - 1))):=hb2.setCell (p:=⟨C,0,none⟩) hbC _;obtain⟨p0,p1,p2,p3,p4,p5,p6,p7,p8,p9,iK,je⟩:=PB.cell hP2;have f0:=PB.free hP2 0;try dsimp only at p0 p1 p2 p3 p4 p5 p6 p7 p8 p9 iK je
  go_upto_region 5 with(fail);generalize World.setCell _ _ _=W4 at l_ hb4 ⊢;clear p0 p1 p2 p3 p4 p5 p6 p7 p8 p9 iK je f0 hP2 hb2;obtain⟨p0,p1,p2,p3,p4,p5,p6,p7,p8,p9,iK,je⟩:=PB.cell l_;have f2:=PB.free l_ 2;try dsimp only at p0 p1 p2 p3 p4 p5 p6 p7 p8 p9 iK je
  have xw:=l_.DX (St.far p.hops);have hb5:Below w.heap.size w (W4.setCell ⟨C,2,none⟩ (.int .i64 (St.far p.hops))):=hb4.setCell (p:=⟨C,2,none⟩) hbC _;have n5:=n.later hb5;have HS:=(show Hid _ from Br n5 0 ({p with ttl:=p.ttl - 1,hops:=St.far p.hops}:aD) hwf [] (hL.below hb5) hfl);rw[Tf.out]at HS;dsimp only[aD.val]at HS;go_wp2_with fail;refine aU (vQ p.hops hq.hops W4) ?_;rintro e w4 ⟨rfl,rfl⟩;clear l_ hb4;go_upto_region 6 with(fail);generalize World.setCell _ _ _=W5 at xw hb5 n5 HS ⊢;clear p0 p1 p2 p3 p4 p5 p6 p7 p8 p9 iK je f2;obtain⟨p0,p1,p2,p3,p4,p5,p6,p7,p8,p9,iK,je⟩:=PB.cell xw;try dsimp only at p0 p1 p2 p3 p4 p5 p6 p7 p8 p9 iK je
  go_wp2_with fail;refine aU HS.out ?_;rintro e w6 ⟨rfl,hN⟩;go_wp2;go_returns;exact⟨rfl,hN.pre hb5⟩
 ·have Tf:Hid (s.send 0 ({p with ttl:=p.ttl - 1,hops:=St.far p.hops,bA:=max p.bA nm,unk:=false}:aD) []=s2):=by
   rw[<-dB.out];unfold St.askOn;rw[yO,hnm];rfl
  have hwf:({p with ttl:=p.ttl - 1,hops:=St.far p.hops,bA:=max p.bA nm,unk:=false}:aD).Wf:=by
   have h1:=hq.ttl;have h2:=hq.hops;have h3:=hds;have h4:=hnu;unfold a_ at h3 h4;refine {hp with Vr:=?_,Vq:=?_,Mg:=?_,Mf:=?_,YS:=?_,YR:=?_}<;>(unfold St.far;dsimp only;omega)
  have acM:w.heap.size<=C:=by rw[lZ.out];exact aB _
  have hP3:=hP2.abM (max p.bA nm) false;have hb3:Below w.heap.size w ((W2.setCell ⟨C,6,none⟩ (.int .u32 (max p.bA nm))).setCell ⟨C,3,none⟩ (.bool false)):=(hb2.setCell (p:=⟨C,6,none⟩) acM _).setCell (p:=⟨C,3,none⟩) acM _;obtain⟨p0,p1,p2,p3,p4,p5,p6,p7,p8,p9,iK,je⟩:=PB.cell hP2;have f6:=PB.free hP2 6;have f3:=PB.free hP2 3;go_upto_region 4 with(fail);generalize World.setCell _ _ _=W3 at hP3 hb3 ⊢;clear p0 p1 p2 p3 p4 p5 p6 p7 p8 p9 iK je f6 f3 hP2 hb2;have hbC:w.heap.size<=C:=by rw[lZ.out];exact aB _
  have l_:=hP3.o6 (p.ttl - 1);have hb4:Below w.heap.size w (W3.setCell ⟨C,0,none⟩ (.int .i64 (p.ttl - 1))):=hb3.setCell (p:=⟨C,0,none⟩) hbC _;obtain⟨p0,p1,p2,p3,p4,p5,p6,p7,p8,p9,iK,je⟩:=PB.cell hP3;have f0:=PB.free hP3 0;try dsimp only at p0 p1 p2 p3 p4 p5 p6 p7 p8 p9 iK je
  go_upto_region 5 with(fail);generalize World.setCell _ _ _=W4 at l_ hb4 ⊢;clear p0 p1 p2 p3 p4 p5 p6 p7 p8 p9 iK je f0 hP3 hb3;obtain⟨p0,p1,p2,p3,p4,p5,p6,p7,p8,p9,iK,je⟩:=PB.cell l_;have f2:=PB.free l_ 2;try dsimp only at p0 p1 p2 p3 p4 p5 p6 p7 p8 p9 iK je
  have xw:=l_.DX (St.far p.hops);have hb5:Below w.heap.size w (W4.setCell ⟨C,2,none⟩ (.int .i64 (St.far p.hops))):=hb4.setCell (p:=⟨C,2,none⟩) hbC _;have n5:=n.later hb5;have HS:=(show Hid _ from Br n5 0 ({p with ttl:=p.ttl - 1,hops:=St.far p.hops,bA:=max p.bA nm,unk:=false}:aD) hwf [] (hL.below hb5) hfl);rw[Tf.out]at HS;dsimp only[aD.val]at HS;go_wp2_with fail;refine aU (vQ p.hops hq.hops W4) ?_;rintro e w4 ⟨rfl,rfl⟩;clear l_ hb4;go_upto_region 6 with(fail);generalize World.setCell _ _ _=W5 at xw hb5 n5 HS ⊢;clear p0 p1 p2 p3 p4 p5 p6 p7 p8 p9 iK je f2;obtain⟨p0,p1,p2,p3,p4,p5,p6,p7,p8,p9,iK,je⟩:=PB.cell xw;try dsimp only at p0 p1 p2 p3 p4 p5 p6 p7 p8 p9 iK je
  go_wp2_with fail;refine aU HS.out ?_;rintro e w6 ⟨rfl,hN⟩;go_wp2;go_returns;exact⟨rfl,hN.pre hb5⟩
variable{B C N:Nat}{p:aD}{s:St}{W:World}
theorem qH(s:St)(p:aD):Bh s (s.answer p)∧(s.answer p).now=s.now:=by
 unfold St.answer;split
 ·exact⟨tT _ _ _ _,rfl⟩
 ·exact⟨tV _ _,rfl⟩
theorem HC.next{g g':bI}{s':St}{dX:List Hp.Tm}(n:Nd N B g' s' dX W)(h:PB p C W)(t:g'.x.T=g.x.T)(h1:s'.me=s.me)(h2:s'.seq=s.seq)(h3:s'.bN=s.bN)(h4:s'.now=s.now):HC N B g.x.T C s.me s.seq s.bN s.now p W:=by
 have:=HC.of n h;rw[t,h1,h2,h3,h4]at this;exact this
theorem Nd.drew{g:bI}{TL:List Hp.Tm}(n:Nd N B g s TL W):Nd N B g s TL W.drew:=n.later (aV _ _).drew
theorem HC.xH{g:bI}{TL:List Hp.Tm}(n:Nd N B g s TL W)(h:PB p C W):HC N B g.x.T C s.me s.seq s.bN s.now p W.drew:=HC.of n.drew h
theorem D5{hops d q fm life:Int}(hh:oV hops)(hd:a_ d)(hq:a_ q)(hf:a_ fm)(hl:a_ life):(St.su hops d q fm life).Wf:=by
 have hz:(⟨#[]⟩:ByteArray).size=0:=rfl;unfold a_ at hd hq hf hl;unfold oV at hh;constructor<;>(dsimp only[St.su];omega)
theorem JC(W:World)(hops d q fm life:Int):fH W (St.su hops d q fm life) []:=⟨rfl,λj hj=>by simp at hj⟩
theorem wo{g:bI}{TL:List Hp.Tm}{w:World}(n:Nd N B g s TL w)(p:aD)(hq:p.Hd)(hme:a_ s.me)(hsq:a_ s.seq)(hfl:s.aF.length<=1000000)(hdl:s.aP.length<=1000000):
  Calls Tryz.prog 163 #[.pointer (some ⟨N,0,none⟩),.pointer (some ⟨B,0,none⟩),p.val] w λe w'=>e=.returned (.tuple #[])∧lT N B g s (s.iG p) TL w w':=by
 have hp:=hq.wf;obtain⟨_,hde,hds,hfr,_,_⟩:=hp.num;have hb0:Below w.heap.size w (w.alloc p.box):=bC;have gT:=PB.new p w;have n0:=n.later hb0;have hmx:a_ (max s.seq p.bA):=by
  unfold a_ at hsq hds ⊢;omega
 obtain⟨s2,dB⟩:∃s2,s.iG p=s2:=⟨_,rfl⟩;rw[dB];replace dB:=(show Hid _ from dB);dsimp only[aD.box]at hb0 n0;unfold PB at gT;dsimp only[aD.box]at gT;go_enter Tryz.func163,Tryz.ntmps163;go_upto_region 1 with(fail);generalize World.alloc _ _=W1 at hb0 gT n0 ⊢;have kJ:=n.new (k:=w.heap.size) (aB _);generalize w.heap.size=C at gT kJ ⊢;obtain⟨p0,p1,p2,p3,p4,p5,p6,p7,p8,p9,iK,je⟩:=PB.cell gT;obtain⟨m0,m1,m2,m3,m4⟩:=n0.cell;have f3:=n0.nn.cr.nd.free 3;have hg1:W1.grownBy (W1.setCell ⟨N,3,none⟩ (.int .u32 (max s.seq p.bA))) (some N):=ah (aC _ (some N)) 3 _;obtain⟨e1,e2,e3,e4,e5,e6,e7,e8,e9⟩:=n0.nn.eq;obtain⟨n1,u1⟩:=n0.cells (s':={s with seq:=max s.seq p.bA}) (n0.nn.cr.nd.Qs (max s.seq p.bA)) (Fx.grown hg1 λk e=>by cases e;rfl) ⟨e1,rfl,e3,e4,e5,e6,e7,e8,e9⟩ ⟨rfl,rfl,rfl,rfl,rfl,rfl⟩ ⟨rfl,rfl,rfl,rfl,rfl,rfl,rfl,rfl,rfl⟩ ⟨rfl,rfl,rfl,rfl,rfl⟩;obtain⟨hP1,hnC⟩:=u1.keep gT kJ (D_ p);go_region
 have n2:=n1.drew;have hP2:PB p C (W1.setCell ⟨N,3,none⟩ (.int .u32 (max s.seq p.bA))).drew:=hP1;have u2:=(u1.trans (.below (aV _ _).drew):Up B _ _ W1 (W1.setCell ⟨N,3,none⟩ (.int .u32 (max s.seq p.bA))).drew);have t2:({g with x:={g.x with seq:=max s.seq p.bA}}:bI).x.T=g.x.T:=rfl;generalize ({g with x:={g.x with seq:=max s.seq p.bA}}:bI)=g2 at n2 u2 t2 hnC;clear n1 hP1 u1 hg1 e1 e2 e3 e4 e5 e6 e7 e8 e9 p0 p1 p2 p3 p4 p5 p6 p7 p8 p9 iK je m0 m1 m2 m3 m4 f3 gT n0;generalize World.drew _=W2 at n2 hP2 u2 ⊢;have hs2:=dB.out;unfold St.iG at hs2;generalize max s.seq p.bA=q at hs2 n2 u2 hmx hnC ⊢;have hsm:=qH {s with seq:=q} (St.su 0 s.me q p.aH 6000);have HA:=hide (Bt n2.drew (St.su 0 s.me q p.aH 6000) (D5 (by unfold oV;omega) hme hmx hfr (by unfold a_;omega)) (JC _ _ _ _ _ _) hfl hdl);rw[hs2]at HA hsm;dsimp only[aD.val,St.su]at HA;have hS:=HC.xH n2 hP2;go_wp2_with fail;go_region_held3 (HC N B g2.x.T C s.me q s.bN s.now p) (first|with_reducible exact hS|with_reducible assumption) ((go_at_call 181;refine HA.out.mono ?_;rintro e w3 ⟨rfl,hN⟩;obtain⟨g3,n3,u3,t3⟩:=hN;have hk3:=HC.next n3 (u3.box hP2 hnC) t3.out hsm.1.1 hsm.1.2.1 hsm.1.2.2.1 hsm.2))
 go_wp2;go_returns;exact⟨rfl,lT.pre hb0 ⟨g3,n3,(u2.trans (.below (aV _ _).drew)).trans u3,t3.out.trans t2⟩⟩
variable{seq bN:Int}{B C D N T:Nat}{F F':Nat->Prop}{p:aD}{y:Rt}{s:St}{v:Value}{W a b:World}
theorem V5(y:Rt)(v:Value):oC (cK y v):=⟨λc e=>(by cases e),λc e=>(by cases e),λc e=>(by cases e),λc e=>(by cases e),λc e=>(by cases e)⟩
@[reducible] def HR(N B T C D : Nat)(me seq bN now : Int)(p : aD)(y : Rt)(v : Value)(W : World): Prop :=
 HC N B T C me seq bN now p W∧W.cell? ⟨D,0,none⟩=some (.int .u32 y.dest)∧W.cell? ⟨D,1,none⟩=some (.int .u32 y.seq)∧W.cell? ⟨D,2,none⟩=some (.int .i64 y.hops)∧W.cell? ⟨D,3,none⟩=some (.int .u32 y.next)∧W.cell? ⟨D,4,none⟩=some (.bool y.valid)∧W.cell? ⟨D,5,none⟩=some (.int .u64 y.exp)∧W.cell? ⟨D,6,none⟩=some v
theorem HC.at{g:bI}{TL:List Hp.Tm}{me now:Int}(n:Nd N B g s TL W)(h:PB p C W)(t:g.x.T=T)(h1:s.me=me)(h2:s.seq=seq)(h3:s.bN=bN)(h4:s.now=now):HC N B T C me seq bN now p W:=by
 subst t h1 h2 h3 h4;exact HC.of n h
theorem HR.at{g:bI}{TL:List Hp.Tm}{me now:Int}(n:Nd N B g s TL W)(h:PB p C W)(hD:eD D y v W)(t:g.x.T=T)(h1:s.me=me)(h2:s.seq=seq)(h3:s.bN=bN)(h4:s.now=now):HR N B T C D me seq bN now p y v W:=⟨HC.at n h t h1 h2 h3 h4,hD.cell⟩
theorem HR.jY{g:bI}{TL:List Hp.Tm}{me now:Int}(n:Nd N B g s TL W)(h:PB p C W)(hD:eD D y v W)(t:g.x.T=T)(h1:s.me=me)(h2:s.seq=seq)(h3:s.bN=bN)(h4:s.now=now):HR N B T C D me seq bN now p y v W.drew:=HR.at n.drew h hD t h1 h2 h3 h4
theorem L6(a b:Int):IntKind.u32.wrap (IntKind.u64.wrap (a - b))=(a - b)%4294967296:=by
 simp only[IntKind.wrap,IntKind.signed,IntKind.bits];simp
theorem G6{l:Int}{h d q f:Int}{Q:Ending->World->Prop}(H:Hid (Calls Tryz.prog 181 #[.pointer (some ⟨N,0,none⟩),.pointer (some ⟨B,0,none⟩),.agg #[.int .i64 0,.int .i64 0,.int .i64 h,.bool false,.int .u32 0,.int .u32 d,.int .u32 q,.int .u32 f,.int .u32 0,.int .u32 l,.slice none 0 0,.string ⟨#[]⟩]] W Q)):
  Hid (∀l',l'=l->Calls Tryz.prog 181 #[.pointer (some ⟨N,0,none⟩),.pointer (some ⟨B,0,none⟩),.agg #[.int .i64 0,.int .i64 0,.int .i64 h,.bool false,.int .u32 0,.int .u32 d,.int .u32 q,.int .u32 f,.int .u32 0,.int .u32 l',.slice none 0 0,.string ⟨#[]⟩]] W Q):=by
 rintro _ rfl;exact H
theorem Up.kE(u:Up B F F' a b)(h:PB p C a)(hn:¬F C):PB p C b∧¬F' C:=u.keep h hn (D_ p)
theorem Up.keepR(u:Up B F F' a b)(h:eD D y v a)(hn:¬F D):eD D y v b∧¬F' D:=u.keep h hn (V5 y v)
theorem oM{A:List Rt}(hA:∀y∈A,y.Ok)(d now:Int):(bE A d now).1.Ok∨(bE A d now).2=false:=by
 unfold bE;cases hl:aK A d with
 |none=>exact .inr rfl
 |some y=>
  by_cases hc:(y.valid&&decide (now<y.exp))=true
  ·left;have:=hA y (dA hl).1
   simp_all
  ·right;by_cases hv:y.valid=true
   ·by_cases he:now<y.exp
    ·simp[hv,he]at hc
    ·simp[hv,he]
   ·simp[hv]
theorem tu{g:bI}{TL:List Hp.Tm}{w:World}(n:Nd N B g s TL w)(p:aD)(hq:p.Hd)(r:Rt)(hr:r.Ok)(ra:Option Addr)(rn rc:Nat)(_hnow:Be s.now)(hfl:s.aF.length<=1000000)(hdl:s.aP.length<=1000000):
  Calls Tryz.prog 164 #[.pointer (some ⟨N,0,none⟩),.pointer (some ⟨B,0,none⟩),p.val,Ja r (.slice ra rn rc)] w λe w'=>e=.returned (.tuple #[])∧lT N B g s (s.iy p r) TL w w':=by
 have hp:=hq.wf;obtain⟨_,hde,hds,hfr,_,_⟩:=hp.num;have hb0:Below w.heap.size w ((w.alloc p.box).alloc (cK r (.slice ra rn rc))):=(bC).alloc (by simp) _;have gT:PB p w.heap.size ((w.alloc p.box).alloc (cK r (.slice ra rn rc))):=(((aV _ (w.alloc p.box)).alloc (aB _) _).block _ (by simp)).trans (PB.new p w);have hR0:eD (w.heap.size+1) r (.slice ra rn rc) ((w.alloc p.box).alloc (cK r (.slice ra rn rc))):=by
  have:=bV (w.alloc p.box) (cK r (.slice ra rn rc));rw[World.size_alloc]at this;exact this
 have n0:=n.later hb0;obtain⟨s2,dB⟩:∃s2,s.iy p r=s2:=⟨_,rfl⟩;rw[dB];replace dB:=hide dB;dsimp only[aD.box,cK]at hb0 n0;unfold PB at gT;unfold eD at hR0;dsimp only[aD.box,cK]at gT hR0;go_enter Tryz.func164,Tryz.ntmps164;go_upto_region 1 with(fail);generalize World.alloc (World.alloc _ _) _=W1 at hb0 gT hR0 n0 ⊢;have kJ:=n.new (k:=w.heap.size) (aB _);have hRn:=n.new (k:=w.heap.size+1) (Nat.le_succ _);obtain⟨⟨y,fd⟩,hy⟩:∃r,bE s.A p.aH s.now=r:=⟨_,rfl⟩;have qU:fd=true->a_ y.next:=λh=>by
  have:=oM n.nn.cr.tb.ok p.aH s.now;rw[hy]at this;rcases this with h1|h1
  ·exact h1.next
  ·rw[h]at h1;cases h1
 have HF:=hide (nT n0 p.aH s.now hfr hy);generalize lZ:w.heap.size=C at gT hR0 kJ hRn ⊢;replace lZ:=hide lZ;go_cut [8,9]from 10 to 23 (og y fd W1)
 case first=>
  have hS:HB N B g.x.T C s.me s.seq s.bN s.now p W1 W1.drew:=HB.drew (HB.mk' n0 gT (aV _ _));have hkB:=hide λW5 h5=>HB.mk' (W:=W5) n0 gT h5;go_region_held3 (HB N B g.x.T C s.me s.seq s.bN s.now p W1) (first|with_reducible exact hS|with_reducible assumption|(with_reducible apply HB.vK hkB;assumption)|(with_reducible apply HB.kF hkB;assumption)|(with_reducible apply HB.eT hkB)|(with_reducible apply hkB.out;assumption)) ((go_at_call 79;refine(HF.out _ (And.right (by assumption))).mono ?_;rintro e w2 ⟨ao,c,rfl,hb2,hpr⟩;try ((with_reducible have hD:=hpr cZ (.slice none 0 0) (lG W1));obtain⟨d0,d1,d2,d3,d4,d5,d6⟩:=hD.cell;have q0:=hD.free 0;have q1:=hD.free 1;have q2:=hD.free 2;have q3:=hD.free 3;have q4:=hD.free 4;have q5:=hD.free 5;have q6:=hD.free 6;have hD':Hid (eD W1.heap.size cZ (.slice none 0 0) w2):=hD;clear hD);clear hpr))
  all_goals
   go_wp2_with fail;go_meet;first|with_reducible exact iw hb2|with_reducible exact j6 hb2 hD'
 case rest=>
  obtain⟨E,ao,c,rfl,rfl,hE,hEl,hb2⟩:=hcut;have Xu:¬Ft N g s E:=n0.new hEl;have n2:=n0.later hb2;have hP2:=PB.below gT hb2;have hR2:eD (C+1) r (.slice ra rn rc) wc:=eD.later hR0 hb2;have hbb:=hb0.trans (hb2.mono hb0.size);have hs2:=dB.out;unfold St.iy at hs2;rw[hy]at hs2;dsimp only at hs2;clear HF gT hR0 n0 hb0 hb2 dB;cases fd
  ·rw[ay (by simp)]at hs2;have HB4:=hide (rG n2.drew p.aH r.next hfr hr.next);have hS:HR N B g.x.T C (C+1) s.me s.seq s.bN s.now p r (.slice ra rn rc) wc.drew:=HR.jY n2 hP2 hR2 rfl rfl rfl rfl rfl;go_wp2_with fail;go_region_held3 (HR N B g.x.T C (C+1) s.me s.seq s.bN s.now p r (.slice ra rn rc)) (first|with_reducible exact hS|with_reducible assumption) ((go_at_call 182;refine HB4.out.mono ?_;rintro e w4 ⟨rfl,hN⟩;obtain⟨g4,n4,u4,t4⟩:=hN;obtain⟨l_,qZ⟩:=u4.kE hP2 kJ;obtain⟨ME,aaE⟩:=u4.keepR hR2 hRn;have hk4:HR N B g.x.T C (C+1) s.me s.seq s.bN s.now p r (.slice ra rn rc) w4:=HR.at n4 l_ ME t4.out rfl rfl rfl rfl))
   clear hS hk4;rename_i iZ;clear iZ;clear HB4;have hsm:=qH {s with A:=kM s.A p.aH r.next} (St.su r.hops p.dest r.seq p.aH ((r.exp - s.now)%4294967296));have HA:=hide (Bt n4.drew (St.su r.hops p.dest r.seq p.aH ((r.exp - s.now)%4294967296)) (D5 hr.hops hde hr.seq hfr (by unfold a_;omega)) (JC _ _ _ _ _ _) hfl hdl);rw[hs2]at HA hsm;dsimp only[aD.val,St.su]at HA;have HA':=G6 HA;clear HA;have hS:HR N B g4.x.T C (C+1) s.me s.seq s.bN s.now p r (.slice ra rn rc) w4.drew:=HR.jY n4 l_ ME rfl rfl rfl rfl rfl;go_wp2_with fail;go_region_held3 (HR N B g4.x.T C (C+1) s.me s.seq s.bN s.now p r (.slice ra rn rc)) (first|with_reducible exact hS|with_reducible assumption) ((go_at_call 181;refine(HA'.out _ (by first|exact L6 _ _|exact RO _ _|rfl)).mono ?_;rintro e w5 ⟨rfl,hN⟩;obtain⟨g5,n5,u5,t5⟩:=hN;obtain⟨xw,acW⟩:=u5.kE l_ qZ;obtain⟨U2,aev⟩:=u5.keepR ME aaE;have hk5:HR N B g4.x.T C (C+1) s.me s.seq s.bN s.now p r (.slice ra rn rc) w5:=HR.at n5 xw U2 t5.out hsm.1.1 hsm.1.2.1 hsm.1.2.2.1 hsm.2))
   clear hS hk5;rename_i iZ;clear iZ;go_wp2;go_returns;exact⟨rfl,lT.pre hbb ⟨g5,n5,(Up.trans (.below (aV _ _).drew) u4).trans (Up.trans (.below (aV _ _).drew) u5),t5.out.trans t4.out⟩⟩
  ·rw[aI rfl]at hs2;have hny:=qU rfl;obtain⟨e0,e1,e2,e3,e4,e5,e6⟩:=hE.cell;have HB3:=hide (rG n2.drew p.dest y.next hde hny);have hS:HR N B g.x.T C E s.me s.seq s.bN s.now p y (.slice ao y.bL.length c) wc.drew:=HR.jY n2 hP2 hE rfl rfl rfl rfl rfl;go_wp2_with fail;go_region_held3 (HR N B g.x.T C E s.me s.seq s.bN s.now p y (.slice ao y.bL.length c)) (first|with_reducible exact hS|with_reducible assumption) ((go_at_call 182;refine HB3.out.mono ?_;rintro e w3 ⟨rfl,hN⟩;obtain⟨g3,n3,u3,t3⟩:=hN;obtain⟨hP3,OV⟩:=u3.kE hP2 kJ;obtain⟨OO,acP⟩:=u3.keepR hR2 hRn;obtain⟨hE3,Tq⟩:=u3.keepR hE Xu;have hk3:HR N B g.x.T C E s.me s.seq s.bN s.now p y (.slice ao y.bL.length c) w3:=HR.at n3 hP3 hE3 t3.out rfl rfl rfl rfl))
   clear hS hk3;rename_i iZ;clear iZ;clear e0 e1 e2 e3 e4 e5 e6 HB3 hE hP2 hR2;obtain⟨s1,hs1⟩:∃s1,({s with A:=kM s.A p.dest y.next}:St)=s1:=⟨_,rfl⟩;have w_:({s1 with A:=kM s1.A p.aH r.next}:St).answer (St.su r.hops p.dest r.seq p.aH ((r.exp - s1.now)%4294967296))=s2:=by
    rw[<-hs1];exact hs2
   have Au:s1.aF.length<=1000000:=by rw[<-hs1];exact hfl
   have EJ:s1.aP.length<=1000000:=by rw[<-hs1];exact hdl
   rw[hs1]at n3 u3 OV acP;clear hs2 hs1 Tq;have hs2:=w_;clear w_;have HB4:=hide (rG n3.drew p.aH r.next hfr hr.next);have hS:HR N B g3.x.T C (C+1) s1.me s1.seq s1.bN s1.now p r (.slice ra rn rc) w3.drew:=HR.jY n3 hP3 OO rfl rfl rfl rfl rfl;go_wp2_with fail;go_region_held3 (HR N B g3.x.T C (C+1) s1.me s1.seq s1.bN s1.now p r (.slice ra rn rc)) (first|with_reducible exact hS|with_reducible assumption) ((go_at_call 182;refine HB4.out.mono ?_;rintro e w4 ⟨rfl,hN⟩;obtain⟨g4,n4,u4,t4⟩:=hN;obtain⟨l_,qZ⟩:=u4.kE hP3 OV;obtain⟨ME,aaE⟩:=u4.keepR OO acP;have hk4:HR N B g3.x.T C (C+1) s1.me s1.seq s1.bN s1.now p r (.slice ra rn rc) w4:=HR.at n4 l_ ME t4.out rfl rfl rfl rfl))
   clear hS hk4;rename_i iZ;clear iZ;clear HB4;have hsm:=qH {s1 with A:=kM s1.A p.aH r.next} (St.su r.hops p.dest r.seq p.aH ((r.exp - s1.now)%4294967296));have HA:=hide (Bt n4.drew (St.su r.hops p.dest r.seq p.aH ((r.exp - s1.now)%4294967296)) (D5 hr.hops hde hr.seq hfr (by unfold a_;omega)) (JC _ _ _ _ _ _) Au EJ);rw[hs2]at HA hsm;dsimp only[aD.val,St.su]at HA;have HA':=G6 HA;clear HA;have hS:HR N B g4.x.T C (C+1) s1.me s1.seq s1.bN s1.now p r (.slice ra rn rc) w4.drew:=HR.jY n4 l_ ME rfl rfl rfl rfl rfl;go_wp2_with fail;go_region_held3 (HR N B g4.x.T C (C+1) s1.me s1.seq s1.bN s1.now p r (.slice ra rn rc)) (first|with_reducible exact hS|with_reducible assumption) ((go_at_call 181;refine(HA'.out _ (by first|exact L6 _ _|exact RO _ _|rfl)).mono ?_;rintro e w5 ⟨rfl,hN⟩;obtain⟨g5,n5,u5,t5⟩:=hN;obtain⟨xw,acW⟩:=u5.kE l_ qZ;obtain⟨U2,aev⟩:=u5.keepR ME aaE;have hk5:HR N B g4.x.T C (C+1) s1.me s1.seq s1.bN s1.now p r (.slice ra rn rc) w5:=HR.at n5 xw U2 t5.out hsm.1.1 hsm.1.2.1 hsm.1.2.2.1 hsm.2))
   clear hS hk5;rename_i iZ;clear iZ;go_wp2;go_returns;exact⟨rfl,lT.pre hbb ⟨g5,n5,((Up.trans (.below (aV _ _).drew) u3).trans (Up.trans (.below (aV _ _).drew) u4)).trans (Up.trans (.below (aV _ _).drew) u5),t5.out.trans (t4.out.trans t3.out)⟩⟩
theorem fH.nil{W W':World}{p:aD}(h:fH W p []):fH W' p []:=⟨h.1,λj hj=>by simp at hj⟩
theorem mK{a c:Int}(h:0<=a∧a<=4611686018427387904)(hc:0<=c∧c<=8589934592):IntKind.u64.wrap (a+c)=a+c:=by
 simp only[IntKind.wrap,IntKind.signed,IntKind.bits];simp;omega
theorem Pz{N B:Nat}{g:bI}{s:St}{TL:List Hp.Tm}{w:World}(n:Nd N B g s TL w)(fr:Int)(OI:a_ fr)(p:aD)(hq:p.Hd)(hL:fH w p [])(di:0<=s.now∧s.now<=4611686018427387904)(hfl:s.aF.length<=1000000)(hdl:s.aP.length<=1000000):
  Calls Tryz.prog 166 #[.pointer (some ⟨N,0,none⟩),.pointer (some ⟨B,0,none⟩),.int .u32 fr,p.val] w λe w'=>e=.returned (.tuple #[])∧lT N B g s (s.iT fr p) TL w w':=by
 have hp:=hq.wf;obtain⟨hid,hde,hds,hfr,hfs,_⟩:=hp.num;have hb0:Below w.heap.size w (w.alloc p.box):=bC;have gT:=PB.new p w;have n0:=n.later hb0;obtain⟨s2,dB⟩:∃s2,s.iT fr p=s2:=⟨_,rfl⟩;rw[dB];have hs2:=dB;replace dB:=hide dB;unfold St.iT at hs2;replace hs2:=hide hs2;dsimp only[aD.box]at hb0 n0;unfold PB at gT;dsimp only[aD.box]at gT;go_enter Tryz.func166,Tryz.ntmps166;go_upto_region 1 with(fail);generalize World.alloc _ _=W1 at hb0 gT n0 ⊢;have kJ:=n.new (k:=w.heap.size) (aB _);obtain⟨⟨y,fd⟩,hy⟩:∃r,bE s.A p.aH s.now=r:=⟨_,rfl⟩;have HF:=hide (nT n0 p.aH s.now hfr hy);generalize lZ:w.heap.size=C at gT kJ ⊢;replace lZ:=hide lZ;go_cut [8,9]from 10 to 23 (og y fd W1)
 case first=>
  have hS:HB N B g.x.T C s.me s.seq s.bN s.now p W1 W1.drew:=HB.drew (HB.mk' n0 gT (aV _ _));have hkB:=hide λW5 h5=>HB.mk' (W:=W5) n0 gT h5;go_region_held3 (HB N B g.x.T C s.me s.seq s.bN s.now p W1) (first|with_reducible exact hS|with_reducible assumption|(with_reducible apply HB.vK hkB;assumption)|(with_reducible apply HB.kF hkB;assumption)|(with_reducible apply HB.eT hkB)|(with_reducible apply hkB.out;assumption)) ((go_at_call 79;refine(HF.out _ (And.right (by assumption))).mono ?_;rintro e w2 ⟨ao,c,rfl,hb2,hpr⟩;try ((with_reducible have hD:=hpr cZ (.slice none 0 0) (lG W1));obtain⟨d0,d1,d2,d3,d4,d5,d6⟩:=hD.cell;have q0:=hD.free 0;have q1:=hD.free 1;have q2:=hD.free 2;have q3:=hD.free 3;have q4:=hD.free 4;have q5:=hD.free 5;have q6:=hD.free 6;have hD':Hid (eD W1.heap.size cZ (.slice none 0 0) w2):=hD;clear hD);clear hpr))
  all_goals
   go_wp2_with fail;go_meet;first|with_reducible exact iw hb2|with_reducible exact j6 hb2 hD'
 case rest=>
  obtain⟨E,ao,c,rfl,rfl,hE,hEl,hb2⟩:=hcut;have Xu:¬Ft N g s E:=n0.new hEl;have qU:fd=true->a_ y.next:=λh=>by
   have:=oM n.nn.cr.tb.ok p.aH s.now;rw[hy]at this;rcases this with h1|h1
   ·exact h1.next
   ·rw[h]at h1;cases h1
  have n2:=n0.later hb2;have hP2:PB p C wc:=PB.below gT hb2;have hbb:=hb0.trans (hb2.mono hb0.size);have hCE:C≠E:=by have:=PB.lt gT;omega
  have hs3:=hs2.out;rw[hy]at hs3;dsimp only at hs3;clear HF gT n0 hb0 hb2 dB hs2;cases fd
  ·rw[ay (by simp)]at hs3;have HX:=hide (jJ n2 3 hdl);rw[hs3]at HX;clear hP2 hE;go_wp2_with fail;refine aU HX.out ?_;rintro e w9 ⟨rfl,hN⟩;go_wp2;go_returns;exact⟨rfl,hN.pre hbb⟩
  ·rw[aI rfl]at hs3;have hyn:=qU rfl;have hwt:wrap64 (p.ttl - 1)=p.ttl - 1:=by
    have:=hq.ttl;unfold wrap64;omega
   have hbC:w.heap.size<=C:=by rw[lZ.out];exact aB _
   have l_:=hP2.o6 (p.ttl - 1);have hb4:Below w.heap.size w (wc.setCell ⟨C,0,none⟩ (.int .i64 (p.ttl - 1))):=hbb.setCell (p:=⟨C,0,none⟩) hbC _;have J7:eD E y (.slice ao y.bL.length c) (wc.setCell ⟨C,0,none⟩ (.int .i64 (p.ttl - 1))):=(lV _ _ _ _ (Ne.symm hCE)).trans hE;obtain⟨p0,p1,p2,p3,p4,p5,p6,p7,p8,p9,iK,je⟩:=PB.cell hP2;have f0:=PB.free hP2 0;clear n2 hP2 hE hbb;go_upto_region 5 with(fail);generalize World.setCell _ _ _=W4 at l_ hb4 J7 ⊢;clear p0 p1 p2 p3 p4 p5 p6 p7 p8 p9 iK je f0;obtain⟨p0,p1,p2,p3,p4,p5,p6,p7,p8,p9,iK,je⟩:=PB.cell l_;have f2:=PB.free l_ 2;dsimp only at p0 p1 p2 p3 p4 p5 p6 p7 p8 p9 iK je;have xw:PB ({p with ttl:=p.ttl - 1,hops:=St.far p.hops}:aD) C (W4.setCell ⟨C,2,none⟩ (.int .i64 (St.far p.hops))):=l_.DX (St.far p.hops);have hb5:Below w.heap.size w (W4.setCell ⟨C,2,none⟩ (.int .i64 (St.far p.hops))):=hb4.setCell (p:=⟨C,2,none⟩) hbC _;have U9:eD E y (.slice ao y.bL.length c) (W4.setCell ⟨C,2,none⟩ (.int .i64 (St.far p.hops))):=(lV _ _ _ _ (Ne.symm hCE)).trans J7;have n5:=n.later hb5;have hwf:({p with ttl:=p.ttl - 1,hops:=St.far p.hops}:aD).Wf:=by
    have h1:=hq.ttl;have h2:=hq.hops;refine {hp with Vr:=?_,Vq:=?_,Mg:=?_,Mf:=?_}<;>(unfold St.far;dsimp only;omega)
   have HS:=hide (Br n5 y.next ({p with ttl:=p.ttl - 1,hops:=St.far p.hops}:aD) hwf [] (hL.below hb5) hfl);obtain⟨s6,hs6⟩:∃z,s.send y.next ({p with ttl:=p.ttl - 1,hops:=St.far p.hops}:aD) []=z:=⟨_,rfl⟩;rw[hs6]at HS;dsimp only[aD.val]at HS;have h6:Hid (s6.now=s.now∧s6.A=s.A∧ {s6 with A:=gU (kM (kM s6.A p.dest y.next) p.aH fr) p.aH (s.now+3000)}=s2):=by
    show _∧_∧_;rw[<-hs6];exact⟨rfl,rfl,hs3⟩
   clear hs3 hs6;go_wp2_with fail;refine aU (vQ p.hops hq.hops W4) ?_;rintro e w4 ⟨rfl,rfl⟩;clear l_ hb4 J7;go_upto_region 6 with(fail);generalize World.setCell _ _ _=W5 at xw hb5 U9 n5 HS ⊢;clear p0 p1 p2 p3 p4 p5 p6 p7 p8 p9 iK je f2;obtain⟨p0,p1,p2,p3,p4,p5,p6,p7,p8,p9,iK,je⟩:=PB.cell xw;obtain⟨e0,e1,e2,e3,e4,e5,e6⟩:=U9.cell;dsimp only at p0 p1 p2 p3 p4 p5 p6 p7 p8 p9 iK je;go_wp2_with fail;refine aU HS.out ?_;rintro e w6 ⟨rfl,hN⟩;obtain⟨g6,n6,u6,t6⟩:=hN;clear p0 p1 p2 p3 p4 p5 p6 p7 p8 p9 iK je e0 e1 e2 e3 e4 e5 e6 HS;obtain⟨Jf,kP⟩:=u6.kE xw kJ;obtain⟨Xw,Tp⟩:=u6.keepR U9 Xu;have nI:Up B (Ft N g s) (Ft N g6 s6) w w6:=(Up.below hb5).trans u6;clear xw U9 n5 u6 hb5;have HB:=hide (rG n6.drew p.dest y.next hde hyn);have hS:HR N B g6.x.T C E s6.me s6.seq s6.bN s6.now ({p with ttl:=p.ttl - 1,hops:=St.far p.hops}:aD) y (.slice ao y.bL.length c) w6.drew:=HR.jY n6 Jf Xw rfl rfl rfl rfl rfl;go_wp2_with fail;go_region_held3 (HR N B g6.x.T C E s6.me s6.seq s6.bN s6.now ({p with ttl:=p.ttl - 1,hops:=St.far p.hops}:aD) y (.slice ao y.bL.length c)) (first|with_reducible exact hS|with_reducible assumption) ((go_at_call 182;refine(HB.out).mono ?_;rintro e w7 ⟨rfl,hN⟩;obtain⟨g7,n7,u7,t7⟩:=hN;obtain⟨Xl,OU⟩:=u7.kE Jf kP;obtain⟨Xv,OQ⟩:=u7.keepR Xw Tp;have hk7:HR N B g6.x.T C E s6.me s6.seq s6.bN s6.now ({p with ttl:=p.ttl - 1,hops:=St.far p.hops}:aD) y (.slice ao y.bL.length c) w7:=HR.at n7 Xl Xv t7.out rfl rfl rfl rfl))
   clear hS hk7;rename_i iZ;clear iZ;clear HB;have ua7:=(nI.trans (.below (aV _ _).drew)).trans u7;obtain⟨s7,hs7⟩:∃z,({s6 with A:=kM s6.A p.dest y.next}:St)=z:=⟨_,rfl⟩;have h7:Hid (s7.now=s.now∧ {s7 with A:=gU (kM s7.A p.aH fr) p.aH (s.now+3000)}=s2):=by
    show _∧_;rw[<-hs7];exact⟨h6.out.1,h6.out.2.2⟩
   rw[hs7]at n7 ua7 OU OQ;clear hs7 nI u7 n6 Jf Xw kP Tp h6;have HB:=hide (rG n7.drew p.aH fr hfr OI);have hS:HR N B g7.x.T C E s7.me s7.seq s7.bN s7.now ({p with ttl:=p.ttl - 1,hops:=St.far p.hops}:aD) y (.slice ao y.bL.length c) w7.drew:=HR.jY n7 Xl Xv rfl rfl rfl rfl rfl;go_wp2_with fail;go_region_held3 (HR N B g7.x.T C E s7.me s7.seq s7.bN s7.now ({p with ttl:=p.ttl - 1,hops:=St.far p.hops}:aD) y (.slice ao y.bL.length c)) (first|with_reducible exact hS|with_reducible assumption) ((go_at_call 182;refine(HB.out).mono ?_;rintro e w8 ⟨rfl,hN⟩;obtain⟨g8,n8,u8,t8⟩:=hN;obtain⟨J6,aaL⟩:=u8.kE Xl OU;obtain⟨Tt,aaK⟩:=u8.keepR Xv OQ;have hk8:HR N B g7.x.T C E s7.me s7.seq s7.bN s7.now ({p with ttl:=p.ttl - 1,hops:=St.far p.hops}:aD) y (.slice ao y.bL.length c) w8:=HR.at n8 J6 Tt t8.out rfl rfl rfl rfl))
   clear hS hk8;rename_i iZ;clear iZ;clear HB;have UY:=(ua7.trans (.below (aV _ _).drew)).trans u8;obtain⟨s8,hs8⟩:∃z,({s7 with A:=kM s7.A p.aH fr}:St)=z:=⟨_,rfl⟩;have h8:Hid (s8.now=s.now∧ {s8 with A:=gU s8.A p.aH (s.now+3000)}=s2):=by
    show _∧_;rw[<-hs8];exact⟨h7.out.1,h7.out.2⟩
   rw[hs8]at n8 UY aaL aaK;clear hs8 ua7 u8 n7 Xl Xv OU OQ h7;have HV:Hid (∀t,t=s8.now+3000->Calls Tryz.prog 81 #[.pointer (some ⟨g8.x.T,0,none⟩),.int .u32 p.aH,.int .u64 t] w8.drew λr w'=>r=.returned (.tuple #[])∧lT N B g8 s8 s2 TL w8.drew w'):=by
    rintro _ rfl;have:=M5 n8.drew p.aH (s8.now+3000) hfr (by have:=h8.out.1;unfold Be;omega);rw[show({s8 with A:=gU s8.A p.aH (s8.now+3000)}:St)=s2 from by have e:=h8.out.2;rw[<-h8.out.1]at e;exact e]at this;exact this
   have hn8:0<=s8.now∧s8.now<=4611686018427387904:=by rw[h8.out.1];exact di
   have hsm:Hid (s2.me=s8.me∧s2.seq=s8.seq∧s2.bN=s8.bN∧s2.now=s8.now):=by
    show _∧_;rw[<-h8.out.2];exact⟨rfl,rfl,rfl,rfl⟩
   have hS:HR N B g8.x.T C E s8.me s8.seq s8.bN s8.now ({p with ttl:=p.ttl - 1,hops:=St.far p.hops}:aD) y (.slice ao y.bL.length c) w8.drew:=HR.jY n8 J6 Tt rfl rfl rfl rfl rfl;go_wp2_with fail;go_region_held3 (HR N B g8.x.T C E s8.me s8.seq s8.bN s8.now ({p with ttl:=p.ttl - 1,hops:=St.far p.hops}:aD) y (.slice ao y.bL.length c)) (first|with_reducible exact hS|with_reducible assumption) ((go_at_call 81;refine(HV.out _ (by first|rfl|exact mK hn8 (by decide))).mono ?_;rintro e w9 ⟨rfl,hN⟩;obtain⟨g9,n9,u9,t9⟩:=hN;obtain⟨Je,afH⟩:=u9.kE J6 aaL;obtain⟨Qa,afG⟩:=u9.keepR Tt aaK;have hk9:HR N B g8.x.T C E s8.me s8.seq s8.bN s8.now ({p with ttl:=p.ttl - 1,hops:=St.far p.hops}:aD) y (.slice ao y.bL.length c) w9:=HR.at n9 Je Qa t9.out hsm.out.1 hsm.out.2.1 hsm.out.2.2.1 hsm.out.2.2.2))
   clear hS hk9;rename_i iZ;clear iZ;have wH:=(UY.trans (.below (aV _ _).drew)).trans u9;have ta:g9.x.T=g.x.T:=t9.out.trans (t8.out.trans (t7.out.trans t6.out));clear J6 Tt Je Qa;go_wp2;go_returns;exact⟨rfl,g9,n9,wH,ta⟩
variable{f:Int->Option Nat}{A:List Rt}{B M N T:Nat}{s:St}{w:World}
def xP(A:List Rt)(d:Int):Bool:=(aK A d).any λy=>decide (0<y.bL.length)
theorem Nh{me:Int}{g:Int->Value}(h:MT me T M f g A w)(d:Int)(hd:a_ d):
  Calls Tryz.prog 167 #[.pointer (some ⟨T,0,none⟩),.int .u32 d] w λe w'=>e=.returned (.bool (xP A d))∧w'=w:=by
 obtain⟨t0,t1⟩:=h.blk.cell;have hlk:=h.map.look hd;cases hl:aK A d with
 |none=>
  rw[h.off hd hl]at hlk;simp only[gJ]at hlk;have hn:xP A d=false:=by simp[xP,hl]
  rw[hn];clear h hn hl;go_enter Tryz.func167,Tryz.ntmps167;go_wp2;go_ret;exact⟨rfl,rfl⟩
 |some x=>
  obtain⟨_,_,B,hB,hL,hR⟩:=h.line hl;rw[hB]at hlk;simp only[gJ]at hlk;obtain⟨ag,cg,hg,_⟩:=ax hR;obtain⟨b0,b1,b2,b3,b4,b5,b6⟩:=hL.cell;rw[hg]at b6;have hn:xP A d=decide (0<x.bL.length):=by simp[xP,hl]
  rw[hn];clear h hn hl hL hB hR;by_cases h0:0<x.bL.length
  ·have h1:(0:Int)<(x.bL.length:Int):=by omega
   go_enter Tryz.func167,Tryz.ntmps167;go_wp2;go_ret;exact⟨by simp[h0],rfl⟩
  ·have h1:¬(0:Int)<(x.bL.length:Int):=by omega
   go_enter Tryz.func167,Tryz.ntmps167;go_wp2;go_ret;exact⟨by simp,rfl⟩
def MJ(A:List Rt)(d:Int):List Rt:=gK A d St.vN
theorem Ni{me:Int}{g:Int->Value}(h:MT me T M f g A w)(d:Int)(hd:a_ d):
  Calls Tryz.prog 169 #[.pointer (some ⟨T,0,none⟩),.int .u32 d] w λe w'=>∃g',e=.returned (.tuple #[])∧MT me T M f g' (MJ A d) w'∧(∀k,mZ T M f g' (MJ A d) k->mZ T M f g A k)∧Fx (mZ T M f g A) w w':=by
 obtain⟨t0,t1⟩:=h.blk.cell;have hlk:=h.map.look hd;cases hl:aK A d with
 |none=>
  rw[h.off hd hl]at hlk;simp only[gJ]at hlk;have hn:MJ A d=A:=oH hl St.vN;rw[hn];go_enter Tryz.func169,Tryz.ntmps169;go_wp2;go_returns;exact⟨g,rfl,h,λ_ h=>h,Fx.refl _ _⟩
 |some x=>
  obtain⟨JX,hxd,B,hB,hL,hR⟩:=h.line hl;rw[hB]at hlk;simp only[gJ]at hlk;obtain⟨b0,b1,b2,b3,b4,b5,b6⟩:=hL.cell;have fz:=hL.free 1;have Hg:=h.ok x JX;have hg1:w.grownBy (w.setCell ⟨B,1,none⟩ (.int .u32 (gr x.seq))) (some B):=ah (aC _ (some B)) 1 _;have hL1:=hL.set1 (gr x.seq);have Xy:∀c,cK x (g d)≠ .cells c 34 (0,0):=λc e=>(by cases e);have hR1:=hR.kept hg1 (.inr (aL hR hL Xy));obtain⟨k1,k2⟩:=h.turn hl hB St.vN (λ_=>rfl) ⟨Hg.dest,uz Hg.seq,Hg.hops,Hg.next,Hg.exp,Hg.Ue,Hg.bL,Hg.yE⟩ (g d) hL1 hR1 (.inr (.inl rfl)) (λk hk hkB _=>hg1.block k (h.lt hk) (λe=>hkB (by cases e;rfl)));have hfx:Fx (mZ T M f g A) w (w.setCell ⟨B,1,none⟩ (.int .u32 (gr x.seq))):=Fx.grown hg1 λk e=>by
   cases e;exact .inr (.inr ⟨x,JX,.inl (by rw[hxd];exact hB)⟩)
  have hin:∀k,mZ T M f (λe=>if e=d then g d else g e) (MJ A d) k->mZ T M f g A k:=λk hk=>by
   rcases k2 k hk with h1|h1
   ·exact h1
   ·exact .inr (.inr ⟨x,JX,.inr (by rw[hxd];exact h1)⟩)
  clear h hL hR hg1 hL1 hR1 k2 hB;go_enter Tryz.func169,Tryz.ntmps169;go_wp2_with(go_at_call 42;refine(oK _ _).mono ?_;rintro e w5 ⟨rfl,rfl⟩);go_returns;exact⟨_,rfl,k1,hin,hfx⟩
theorem abe{g:bI}{TL:List Hp.Tm}(n:Nd N B g s TL w)(d:Int)(hd:a_ d):
  Calls Tryz.prog 167 #[.pointer (some ⟨g.x.T,0,none⟩),.int .u32 d] w λe w'=>e=.returned (.bool (xP s.A d))∧w'=w:=Nh n.nn.cr.tb d hd
theorem abl{g:bI}{TL:List Hp.Tm}(n:Nd N B g s TL w)(d:Int)(hd:a_ d):
  Calls Tryz.prog 169 #[.pointer (some ⟨g.x.T,0,none⟩),.int .u32 d] w λe w'=>e=.returned (.tuple #[])∧lT N B g s {s with A:=gK s.A d St.vN} TL w w':=by
 have h:=n.nn.cr.tb;rw[n.nn.eq.self]at h;refine(Ni h d hd).mono ?_;rintro e w' ⟨g',rfl,h1,h2,h3⟩;exact⟨rfl,n.wI ⟨_,_,_,h1,λk hk=> .inl (h2 k hk)⟩ h3⟩
theorem WU:(Tryz.prog.info? 56).map (λi=>(i.zero,i.size,i.bytes))=some (some (.agg #[.int .u32 0,.string ⟨#[]⟩]),2,24):=by kernel_rfl
theorem TV(W:World)(t:Int)(s:ByteArray):∀(j:Nat) (u:Value),(uH [(t,s)])[j]?=some u->(W.alloc (.cells #[.int .u32 t,.string s] 56)).cell? ((⟨W.heap.size,0,none⟩:Addr).add j)=some u:=by
 intro j u hj;have h:=bV W (.cells #[.int .u32 t,.string s] 56);rw[Addr.add_lit,Nat.zero_add]
 match j,hj with
 |0,hj=>exact(aJ _ _ 0 _ _ _ h).trans hj
 |1,hj=>exact(aJ _ _ 1 _ _ _ h).trans hj
 |j+2,hj=>simp[uH]at hj
theorem jP.comes{base:Nat}{a:qh}{bg:List (Bool×Int×Int)}{aF aO aa3:List (Int×ByteArray)}{aP:List Int}{W W7:World}(h:jP B base a bg aF aO aP W){v7:Value}(ho:W7.ownsRow base 56 2 v7 aa3.length (uH aa3))(hg:W.grownBy W7 a.bO.ownBlock):
  oU B a W7∧jP B base {a with bO:=v7} bg aF aa3 aP (W7.setCell ⟨B,5,none⟩ v7)∧Fx (jL B a) W (W7.setCell ⟨B,5,none⟩ v7):=by
 have hBr:a.bO.ownBlock≠some B:=aL h.bO h.blk (λc e=>(by cases e));have jq:oU B a W7:=h.blk.block (hg.block _ h.blk.lt (λe=>hBr e.symm));have hg2:W7.grownBy (W7.setCell ⟨B,5,none⟩ v7) (some B):=ah (aC _ (some B)) 5 v7;have f1:=h.bP.kept hg (bX h.bP h.bO (by decide));have f2:=h.aH.kept hg (bX h.aH h.bO (by decide));have f3:=h.nV.kept hg (bX h.nV h.bO (by decide));exact⟨jq,⟨jq.Zo v7,f3.kept hg2 (.inr (aL f3 jq (λc e=>(by cases e)))),f2.kept hg2 (.inr (aL f2 jq (λc e=>(by cases e)))),ho.kept hg2 (.inr (aL ho jq (λc e=>(by cases e)))),f1.kept hg2 (.inr (aL f1 jq (λc e=>(by cases e))))⟩,
  aW (Fx.grown hg λk e=> .inr (.inr (.inr (.inl e)))) hg2 λi _ e=>by cases e;exact .inl rfl⟩
theorem KH{N B:Nat}{g:bI}{s:St}{TL:List Hp.Tm}{w:World}(n:Nd N B g s TL w)(fr:Int)(_hfrm:a_ fr)(p:aD)(hq:p.Hd)(hL:fH w p [])(di:0<=s.now∧s.now<=4611686018427387904)(hfl:s.aF.length<=1000000)(hdl:s.aP.length<=1000000)(hcl:s.aO.length<=1000000):
  Calls Tryz.prog 133 #[.pointer (some ⟨N,0,none⟩),.pointer (some ⟨B,0,none⟩),.int .u32 fr,p.val] w λe w'=>e=.returned (.tuple #[])∧lT N B g s (s.dU fr p) TL w w':=by
 have hp:=hq.wf;obtain⟨hid,hde,hds,hfr,hfs,_⟩:=hp.num;have hb0:Below w.heap.size w (w.alloc p.box):=bC;have gT:=PB.new p w;have n0:=n.later hb0;obtain⟨s2,dB⟩:∃s2,s.dU fr p=s2:=⟨_,rfl⟩;rw[dB];have hs2:=dB;unfold St.dU at hs2;replace hs2:=hide hs2;dsimp only[aD.box]at hb0 n0;unfold PB at gT;dsimp only[aD.box]at gT;go_enter Tryz.func133,Tryz.ntmps133;go_upto_region 1 with(fail);generalize World.alloc _ _=W1 at hb0 gT n0 ⊢;have kJ:=n.new (k:=w.heap.size) (aB _);obtain⟨⟨y,fd⟩,hy⟩:∃r,bE s.A p.dest s.now=r:=⟨_,rfl⟩;have HF:=hide (nT n0 p.dest s.now hde hy);generalize lZ:w.heap.size=C at gT kJ ⊢;replace lZ:=hide lZ;go_cut [8,9]from 10 to 23 (og y fd W1)
 case first=>
  have hS:HB N B g.x.T C s.me s.seq s.bN s.now p W1 W1.drew:=HB.drew (HB.mk' n0 gT (aV _ _));have hkB:=hide λW5 h5=>HB.mk' (W:=W5) n0 gT h5;go_region_held3 (HB N B g.x.T C s.me s.seq s.bN s.now p W1) (first|with_reducible exact hS|with_reducible assumption|(with_reducible apply HB.vK hkB;assumption)|(with_reducible apply HB.kF hkB;assumption)|(with_reducible apply HB.eT hkB)|(with_reducible apply hkB.out;assumption)) ((go_at_call 79;refine(HF.out _ (And.right (by assumption))).mono ?_;rintro e w2 ⟨ao,c,rfl,hb2,hpr⟩;try ((with_reducible have hD:=hpr cZ (.slice none 0 0) (lG W1));obtain⟨d0,d1,d2,d3,d4,d5,d6⟩:=hD.cell;have q0:=hD.free 0;have q1:=hD.free 1;have q2:=hD.free 2;have q3:=hD.free 3;have q4:=hD.free 4;have q5:=hD.free 5;have q6:=hD.free 6;have hD':Hid (eD W1.heap.size cZ (.slice none 0 0) w2):=hD;clear hD);clear hpr))
  all_goals
   go_wp2_with fail;go_meet;first|with_reducible exact iw hb2|with_reducible exact j6 hb2 hD'
 case rest=>
  obtain⟨E,ao,c,rfl,rfl,hE,hEl,hb2⟩:=hcut;have Xu:¬Ft N g s E:=n0.new hEl;have qU:fd=true->a_ y.next:=λh=>by
   have:=oM n.nn.cr.tb.ok p.dest s.now;rw[hy]at this;rcases this with h1|h1
   ·exact h1.next
   ·rw[h]at h1;cases h1
  have hCE:C≠E:=by have:=PB.lt gT;omega
  have hP2:PB p C wc.drew:=PB.below gT hb2.drew;have hE2:eD E y (.slice ao y.bL.length c) wc.drew:=hE;have hbb:Below w.heap.size w wc.drew:=(hb0.trans (hb2.mono hb0.size)).drew;have n2:=n.later hbb;have hS:HC N B g.x.T C s.me s.seq s.bN s.now p wc.drew:=HC.of n2 hP2;have hs3:=hs2.out;rw[hy]at hs3;dsimp only at hs3;clear HF gT n0 hb0 hb2 dB hs2 hE;by_cases qX:p.dest=s.me
  ·have hbe:(p.dest==s.me)=true:=by simpa using qX
   rw[aI qX]at hs3;clear qX;go_wp2_with fail;go_region_held3 (HC N B g.x.T C s.me s.seq s.bN s.now p) (first|with_reducible exact hS|with_reducible assumption) (fail)
   rename_i iZ;clear iZ hS;generalize World.drew _=W2 at hP2 hE2 hbb n2 ⊢;obtain⟨i0,hi,hz0,hz1,hz2⟩:=info_parts WU;have ha2:=n2.ac;have hbs:=n2.base;obtain⟨_,_,_,_,_,_,_,p7,_,_,_,je⟩:=PB.cell hP2;have c5:=ha2.blk.cell.2.2.2.2.2.1;have haT:=λo=>(ha2.alloc o).blk.cell.2.2.2.2.2.1;have hpT:=λo=>(PB.cell (PB.alloc hP2 o)).2.2.2.2.2.2.2.1;have hqT:=λo=>(PB.cell (PB.alloc hP2 o)).2.2.2.2.2.2.2.2.2.2.2;have hrow:=λo=>(ha2.alloc o).drew.bO;have hcf:=λW=>TV W p.aH p.pay;have jE:Hid (∀o:Obj,B+1<=(W2.alloc o).drew.heap.size):=by
    intro o;show B+1<=(W2.alloc o).heap.size;rw[World.size_alloc];omega
   have HX:Hid (∀v7 w7,w7.ownsRow (B+1) 56 2 v7 (s.aO.length+1) (uH s.aO++uH [(p.aH,p.pay)])->(W2.alloc (.cells #[.int .u32 p.aH,.string p.pay] 56)).drew.grownBy w7 g.a.bO.ownBlock->(w7.cell? ⟨B,5,none⟩=some g.a.bO∧w7.frozen? ⟨B,5,none⟩=false)∧lT N B g s s2 TL w (w7.setCell ⟨B,5,none⟩ v7)):=by
    intro v7 w7 ig gQ;rw[<-Bv,show s.aO.length+1=(s.aO++ [(p.aH,p.pay)]).length by simp]at ig;have hb3:Below W2.heap.size W2 (W2.alloc (.cells #[.int .u32 p.aH,.string p.pay] 56)).drew:=(bC).drew;have n3:=n2.later hb3;obtain⟨jq,hm,hf⟩:=n3.ac.comes ig gQ;obtain⟨q1,q2⟩:=n3.act (s':=s2) (by rw[<-hs3];exact hm) hf (by rw[<-hs3];exact⟨rfl,rfl,rfl,rfl,rfl,rfl,rfl,rfl,rfl,rfl,rfl,rfl,rfl,rfl,rfl⟩) (by rw[<-hs3];exact n3.now) (by rw[<-hs3];exact n3.bB);exact⟨⟨jq.cell.2.2.2.2.2.1,jq.free 5⟩,lT.pre (hbb.trans (hb3.mono hbb.size)) ⟨_,q1,q2,rfl⟩⟩
   clear hs3 n2 ha2 hP2 hE2 hbb;go_wp2_with fail;go_region_law (refine gW rfl (.tmp 52) (.tmp 58) 49 rfl (B+1) 56 i0 (.agg #[.int .u32 0,.string ⟨#[]⟩]) 2 24 Tryz.underlying49 hi hz0 hz1 hz2 rfl (by decide) g.a.bO s.aO.length (uH s.aO) (by simp[Act.eval]) (hrow _) ⟨_,0,none⟩ 1 1 (uH [(p.aH,p.pay)]) (by simp[Act.eval]) rfl (hcf _) (Rf _) (by unfold maxLen;omega) (by omega) (jE.out _) ?_;intro v7 w7 ig gQ _;obtain⟨⟨g1,g2⟩,hm⟩:=HX.out _ _ ig gQ;obtain⟨Qc,Ua,rfl,_⟩:=ax ig)
   all_goals
    generalize World.setCell _ _ _=w8 at hm ⊢;clear g1 g2 gQ ig;go_wp2;go_returns;exact⟨rfl,hm⟩
  ·have hbe:(p.dest==s.me)=false:=by simpa using qX
   rw[ay qX]at hs3;go_wp2_with fail;go_region_held3 (HC N B g.x.T C s.me s.seq s.bN s.now p) (first|with_reducible exact hS|with_reducible assumption) (fail)
   rename_i iZ;clear iZ hS;generalize World.drew _=W2 at hP2 hE2 hbb n2 ⊢;have I9:Up B (Ft N g s) (Ft N g s) w W2:=.below hbb;by_cases htl:p.ttl=1
   ·have hbt:(p.ttl==1)=true:=by simpa using htl
    rw[aI htl]at hs3;clear htl;have HX:=hide (jJ n2 4 hdl);rw[hs3]at HX;obtain⟨p0,p1,p2,p3,p4,p5,p6,p7,p8,p9,iK,je⟩:=PB.cell hP2;clear hP2 hE2;go_wp2_with fail;refine aU HX.out ?_;rintro e w9 ⟨rfl,hN⟩;obtain⟨g9,n9,u9,t9⟩:=hN;go_wp2;go_returns;exact⟨rfl,g9,n9,I9.trans u9,t9.out.trans rfl⟩
   ·have hbt:(p.ttl==1)=false:=by simpa using htl
    rw[ay htl]at hs3;cases fd
    ·rw[ay (by simp)]at hs3;obtain⟨s4,hs4⟩:∃z,s.drop 3=z:=⟨_,rfl⟩;have HD:=hide (jJ n2 3 hdl);rw[hs4]at HD;have h4:Hid (s4.now=s.now∧s4.me=s.me∧s4.seq=s.seq∧s4.bN=s.bN∧s4.aF=s.aF∧({s4 with A:=gK s4.A p.dest St.vN}:St).lD fr p.dest=s2):=by
      show _∧_;rw[<-hs4];exact⟨rfl,rfl,rfl,rfl,rfl,hs3⟩
     clear hs3 hs4;obtain⟨p0,p1,p2,p3,p4,p5,p6,p7,p8,p9,iK,je⟩:=PB.cell hP2;go_wp2_with fail;refine aU HD.out ?_;rintro e w4 ⟨rfl,hN⟩;obtain⟨g4,n4,u4,t4⟩:=hN;obtain⟨l_,qZ⟩:=u4.kE hP2 kJ;obtain⟨J7,aeK⟩:=u4.keepR hE2 Xu;have pW:=I9.trans u4;clear p0 p1 p2 p3 p4 p5 p6 p7 p8 p9 iK je HD hP2 hE2 n2 u4 I9;have HB:=hide (abl n4.drew p.dest hde);have hS:HR N B g4.x.T C E s4.me s4.seq s4.bN s4.now p y (.slice ao y.bL.length c) w4.drew:=HR.jY n4 l_ J7 rfl rfl rfl rfl rfl;go_wp2_with fail;go_region_held3 (HR N B g4.x.T C E s4.me s4.seq s4.bN s4.now p y (.slice ao y.bL.length c)) (first|with_reducible exact hS|with_reducible assumption) ((go_at_call 169;refine(HB.out).mono ?_;rintro e w5 ⟨rfl,hN⟩;obtain⟨g5,n5,u5,t5⟩:=hN;obtain⟨xw,acW⟩:=u5.kE l_ qZ;obtain⟨U9,aeJ⟩:=u5.keepR J7 aeK;have hk5:HR N B g4.x.T C E s4.me s4.seq s4.bN s4.now p y (.slice ao y.bL.length c) w5:=HR.at n5 xw U9 t5.out rfl rfl rfl rfl))
     clear hS hk5;rename_i iZ;clear iZ;clear HB;have yH:=(pW.trans (.below (aV _ _).drew)).trans u5;obtain⟨s5,hs5⟩:∃z,({s4 with A:=gK s4.A p.dest St.vN}:St)=z:=⟨_,rfl⟩;have h5:Hid (s5.aF=s.aF∧s5.lD fr p.dest=s2):=by
      show _∧_;rw[<-hs5];exact⟨h4.out.2.2.2.2.1,h4.out.2.2.2.2.2⟩
     rw[hs5]at n5 yH;have HX:=hide (Dw n5 fr p.dest hde (by rw[h5.out.1];exact hfl));rw[h5.out.2]at HX;obtain⟨p0,p1,p2,p3,p4,p5,p6,p7,p8,p9,iK,je⟩:=PB.cell xw;clear hs5 h5 h4 xw l_ J7 U9 n4;go_wp2_with fail;refine aU HX.out ?_;rintro e w9 ⟨rfl,hN⟩;obtain⟨g9,n9,u9,t9⟩:=hN;go_wp2;go_returns;exact⟨rfl,g9,n9,yH.trans u9,t9.out.trans (t5.out.trans t4.out)⟩
    ·rw[aI rfl]at hs3;have hyn:=qU rfl;have hwt:wrap64 (p.ttl - 1)=p.ttl - 1:=by
      have:=hq.ttl;unfold wrap64;omega
     have hbC:w.heap.size<=C:=by rw[lZ.out];exact aB _
     have l_:PB ({p with ttl:=p.ttl - 1}:aD) C (W2.setCell ⟨C,0,none⟩ (.int .i64 (p.ttl - 1))):=hP2.o6 (p.ttl - 1);have hb4:Below w.heap.size w (W2.setCell ⟨C,0,none⟩ (.int .i64 (p.ttl - 1))):=hbb.setCell (p:=⟨C,0,none⟩) hbC _;have J7:eD E y (.slice ao y.bL.length c) (W2.setCell ⟨C,0,none⟩ (.int .i64 (p.ttl - 1))):=(lV _ _ _ _ (Ne.symm hCE)).trans hE2;have n4:=n.later hb4;have hwf:({p with ttl:=p.ttl - 1}:aD).Wf:=by
      have h1:=hq.ttl;refine {hp with Vr:=?_,Vq:=?_}<;>(dsimp only;omega)
     have HS:=hide (Br n4 y.next ({p with ttl:=p.ttl - 1}:aD) hwf [] (hL.below hb4) hfl);obtain⟨s6,hs6⟩:∃z,s.send y.next ({p with ttl:=p.ttl - 1}:aD) []=z:=⟨_,rfl⟩;rw[hs6]at HS;dsimp only[aD.val]at HS;have h6:Hid (s6.now=s.now∧ {s6 with A:=gU (gU s6.A p.dest (s.now+3000)) p.aH (s.now+3000)}=s2):=by
      show _∧_;rw[<-hs6];exact⟨rfl,hs3⟩
     clear hs3 hs6;obtain⟨p0,p1,p2,p3,p4,p5,p6,p7,p8,p9,iK,je⟩:=PB.cell hP2;have f0:=PB.free hP2 0;clear n2 hP2 hE2 hbb I9;go_upto_region 11 with(fail);generalize World.setCell _ _ _=W4 at l_ hb4 J7 n4 HS ⊢;clear p0 p1 p2 p3 p4 p5 p6 p7 p8 p9 iK je f0;obtain⟨p0,p1,p2,p3,p4,p5,p6,p7,p8,p9,iK,je⟩:=PB.cell l_;obtain⟨e0,e1,e2,e3,e4,e5,e6⟩:=J7.cell;dsimp only at p0 p1 p2 p3 p4 p5 p6 p7 p8 p9 iK je;clear htl;go_wp2_with fail;refine aU HS.out ?_;rintro e w6 ⟨rfl,hN⟩;obtain⟨g6,n6,u6,t6⟩:=hN;clear p0 p1 p2 p3 p4 p5 p6 p7 p8 p9 iK je e0 e1 e2 e3 e4 e5 e6 HS;obtain⟨Jf,kP⟩:=u6.kE l_ kJ;obtain⟨Xw,Tp⟩:=u6.keepR J7 Xu;have nI:Up B (Ft N g s) (Ft N g6 s6) w w6:=(Up.below hb4).trans u6;clear l_ J7 n4 u6 hb4;have OA:0<=s6.now∧s6.now<=4611686018427387904:=by rw[h6.out.1];exact di
     have HV:Hid (∀t,t=s6.now+3000->Calls Tryz.prog 81 #[.pointer (some ⟨g6.x.T,0,none⟩),.int .u32 p.dest,.int .u64 t] w6.drew λr w'=>r=.returned (.tuple #[])∧lT N B g6 s6 {s6 with A:=gU s6.A p.dest (s6.now+3000)} TL w6.drew w'):=by
      rintro _ rfl;exact M5 n6.drew p.dest (s6.now+3000) hde (by unfold Be;omega)
     have hS:HR N B g6.x.T C E s6.me s6.seq s6.bN s6.now ({p with ttl:=p.ttl - 1}:aD) y (.slice ao y.bL.length c) w6.drew:=HR.jY n6 Jf Xw rfl rfl rfl rfl rfl;go_wp2_with fail;go_region_held3 (HR N B g6.x.T C E s6.me s6.seq s6.bN s6.now ({p with ttl:=p.ttl - 1}:aD) y (.slice ao y.bL.length c)) (first|with_reducible exact hS|with_reducible assumption) ((go_at_call 81;refine(HV.out _ (by first|rfl|exact mK OA (by decide))).mono ?_;rintro e w7 ⟨rfl,hN⟩;obtain⟨g7,n7,u7,t7⟩:=hN;obtain⟨Xl,OU⟩:=u7.kE Jf kP;obtain⟨Xv,OQ⟩:=u7.keepR Xw Tp;have hk7:HR N B g6.x.T C E s6.me s6.seq s6.bN s6.now ({p with ttl:=p.ttl - 1}:aD) y (.slice ao y.bL.length c) w7:=HR.at n7 Xl Xv t7.out rfl rfl rfl rfl))
     clear hS hk7;rename_i iZ;clear iZ;clear HV;have ua7:=(nI.trans (.below (aV _ _).drew)).trans u7;obtain⟨s7,hs7⟩:∃z,({s6 with A:=gU s6.A p.dest (s6.now+3000)}:St)=z:=⟨_,rfl⟩;have h7:Hid (s7.now=s.now∧ {s7 with A:=gU s7.A p.aH (s7.now+3000)}=s2):=by
      show _∧_;rw[<-hs7];have e:=h6.out.2;rw[<-h6.out.1]at e;exact⟨h6.out.1,e⟩
     rw[hs7]at n7 ua7 OU OQ;clear hs7 nI u7 n6 Jf Xw kP Tp h6;have hn7:0<=s7.now∧s7.now<=4611686018427387904:=by rw[h7.out.1];exact di
     have HV:Hid (∀t,t=s7.now+3000->Calls Tryz.prog 81 #[.pointer (some ⟨g7.x.T,0,none⟩),.int .u32 p.aH,.int .u64 t] w7.drew λr w'=>r=.returned (.tuple #[])∧lT N B g7 s7 s2 TL w7.drew w'):=by
      rintro _ rfl;have:=M5 n7.drew p.aH (s7.now+3000) hfr (by unfold Be;omega);rw[h7.out.2]at this;exact this
     have hsm:Hid (s2.me=s7.me∧s2.seq=s7.seq∧s2.bN=s7.bN∧s2.now=s7.now):=by
      show _∧_;rw[<-h7.out.2];exact⟨rfl,rfl,rfl,rfl⟩
     have hS:HR N B g7.x.T C E s7.me s7.seq s7.bN s7.now ({p with ttl:=p.ttl - 1}:aD) y (.slice ao y.bL.length c) w7.drew:=HR.jY n7 Xl Xv rfl rfl rfl rfl rfl;go_wp2_with fail;go_region_held3 (HR N B g7.x.T C E s7.me s7.seq s7.bN s7.now ({p with ttl:=p.ttl - 1}:aD) y (.slice ao y.bL.length c)) (first|with_reducible exact hS|with_reducible assumption) ((go_at_call 81;refine(HV.out _ (by first|rfl|exact mK hn7 (by decide))).mono ?_;rintro e w8 ⟨rfl,hN⟩;obtain⟨g8,n8,u8,t8⟩:=hN;obtain⟨J6,aaL⟩:=u8.kE Xl OU;obtain⟨Tt,aaK⟩:=u8.keepR Xv OQ;have hk8:HR N B g7.x.T C E s7.me s7.seq s7.bN s7.now ({p with ttl:=p.ttl - 1}:aD) y (.slice ao y.bL.length c) w8:=HR.at n8 J6 Tt t8.out hsm.out.1 hsm.out.2.1 hsm.out.2.2.1 hsm.out.2.2.2))
     clear hS hk8;rename_i iZ;clear iZ;have UY:=(ua7.trans (.below (aV _ _).drew)).trans u8;have ta:g8.x.T=g.x.T:=t8.out.trans (t7.out.trans t6.out);clear Xl Xv J6 Tt;go_wp2;go_returns;exact⟨rfl,g8,n8,UY,ta⟩
end Go.Proofs.YtakaadcpaeiccabGreat
