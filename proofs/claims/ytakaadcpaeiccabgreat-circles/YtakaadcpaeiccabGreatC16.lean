import Derived.Test.YtakaadcpaeiccabGreatC15
set_option maxHeartbeats 8000000
set_option maxRecDepth 100000
namespace Go.Proofs.YtakaadcpaeiccabGreat
open Go.RowKit Go.Maps
variable{B C N:Nat}{p:aF}{s:St}{W:World}
theorem qP(s:St)(p:aF):Bl s (s.answer p)∧(s.answer p).now=s.now:=by
 unfold St.answer;split
 ·exact⟨tV _ _ _ _,rfl⟩
 ·exact⟨tX _ _,rfl⟩
theorem HC.next{g g':bI}{s':St}{dR:List Hp.Tm}(n:Nd N B g' s' dR W)(h:PB p C W)(t:g'.x.T=g.x.T)(h1:s'.me=s.me)(h2:s'.seq=s.seq)(h3:s'.cO=s.cO)(h4:s'.now=s.now):HC N B g.x.T C s.me s.seq s.cO s.now p W:=by
 have:=HC.of n h;rw[t,h1,h2,h3,h4]at this;exact this
theorem Nd.drew{g:bI}{TL:List Hp.Tm}(n:Nd N B g s TL W):Nd N B g s TL W.drew:=n.later (aV _ _).drew
theorem HC.xu{g:bI}{TL:List Hp.Tm}(n:Nd N B g s TL W)(h:PB p C W):HC N B g.x.T C s.me s.seq s.cO s.now p W.drew:=HC.of n.drew h
theorem D6{hops d q fm life:Int}(hh:o5 hops)(hd:bB d)(hq:bB q)(hf:bB fm)(hl:bB life):(St.t_ hops d q fm life).Wf:=by
 have hz:(⟨#[]⟩:ByteArray).size=0:=rfl;unfold bB at hd hq hf hl;unfold o5 at hh;constructor<;>(dsimp only[St.t_];omega)
theorem JK(W:World)(hops d q fm life:Int):fH W (St.t_ hops d q fm life) []:=⟨rfl,λj hj=>by simp at hj⟩
theorem vW{g:bI}{TL:List Hp.Tm}{w:World}(n:Nd N B g s TL w)(p:aF)(hq:p.Hd)(hme:bB s.me)(Tp:bB s.seq)(hfl:s.aL.length<=1000000)(hdl:s.aT.length<=1000000):
  Calls Tryz.prog 163 #[.pointer (some ⟨N,0,none⟩),.pointer (some ⟨B,0,none⟩),p.val] w λe w'=>e=.returned (.tuple #[])∧l5 N B g s (s.ja p) TL w w':=by
 have hp:=hq.wf;obtain⟨_,hde,hds,hfr,_,_⟩:=hp.num;have hb0:Below w.heap.size w (w.alloc p.box):=bq;have gQ:=PB.new p w;have n0:=n.later hb0;have hmx:bB (max s.seq p.a_):=by
  unfold bB at Tp hds ⊢;omega
 obtain⟨s2,dD⟩:∃s2,s.ja p=s2:=⟨_,rfl⟩;rw[dD];replace dD:=(show Hid _ from dD);dsimp only[aF.box]at hb0 n0;unfold PB at gQ;dsimp only[aF.box]at gQ;go_enter Tryz.func163,Tryz.ntmps163;go_upto_region 1 with(fail);generalize World.alloc _ _=W1 at hb0 gQ n0 ⊢;have kL:=n.new (k:=w.heap.size) (aD _);generalize w.heap.size=C at gQ kL ⊢;obtain⟨p0,p1,p2,p3,p4,p5,p6,p7,p8,p9,jL,jF⟩:=PB.cell gQ;obtain⟨m0,m1,m2,m3,m4⟩:=n0.cell;have f3:=n0.nn.cr.nd.free 3;have hg1:W1.grownBy (W1.setCell ⟨N,3,none⟩ (.int .u32 (max s.seq p.a_))) (some N):=ah (aC _ (some N)) 3 _;obtain⟨e1,e2,e3,e4,e5,e6,e7,e8,e9⟩:=n0.nn.eq;obtain⟨n1,u1⟩:=n0.cells (s':={s with seq:=max s.seq p.a_}) (n0.nn.cr.nd.Q7 (max s.seq p.a_)) (Fx.grown hg1 λk e=>by cases e;rfl) ⟨e1,rfl,e3,e4,e5,e6,e7,e8,e9⟩ ⟨rfl,rfl,rfl,rfl,rfl,rfl⟩ ⟨rfl,rfl,rfl,rfl,rfl,rfl,rfl,rfl,rfl⟩ ⟨rfl,rfl,rfl,rfl,rfl⟩;obtain⟨hP1,hnC⟩:=u1.keep gQ kL (Eb p);go_region
 have n2:=n1.drew;have hP2:PB p C (W1.setCell ⟨N,3,none⟩ (.int .u32 (max s.seq p.a_))).drew:=hP1;have u2:=(u1.trans (.below (aV _ _).drew):Up B _ _ W1 (W1.setCell ⟨N,3,none⟩ (.int .u32 (max s.seq p.a_))).drew);have t2:({g with x:={g.x with seq:=max s.seq p.a_}}:bI).x.T=g.x.T:=rfl;generalize ({g with x:={g.x with seq:=max s.seq p.a_}}:bI)=g2 at n2 u2 t2 hnC;clear n1 hP1 u1 hg1 e1 e2 e3 e4 e5 e6 e7 e8 e9 p0 p1 p2 p3 p4 p5 p6 p7 p8 p9 jL jF m0 m1 m2 m3 m4 f3 gQ n0;generalize World.drew _=W2 at n2 hP2 u2 ⊢;have hs2:=dD.out;unfold St.ja at hs2;generalize max s.seq p.a_=q at hs2 n2 u2 hmx hnC ⊢;have hsm:=qP {s with seq:=q} (St.t_ 0 s.me q p.aK 6000);have HA:=hide (Bv n2.drew (St.t_ 0 s.me q p.aK 6000) (D6 (by unfold o5;omega) hme hmx hfr (by unfold bB;omega)) (JK _ _ _ _ _ _) hfl hdl);rw[hs2]at HA hsm;dsimp only[aF.val,St.t_]at HA;have hS:=HC.xu n2 hP2;go_wp2_with fail;go_region_held3 (HC N B g2.x.T C s.me q s.cO s.now p) (first|with_reducible exact hS|with_reducible assumption) ((go_at_call 181;refine HA.out.mono ?_;rintro e w3 ⟨rfl,hN⟩;obtain⟨g3,n3,u3,t3⟩:=hN;have hk3:=HC.next n3 (u3.box hP2 hnC) t3.out hsm.1.1 hsm.1.2.1 hsm.1.2.2.1 hsm.2))
 go_wp2;go_returns;exact⟨rfl,l5.pre hb0 ⟨g3,n3,(u2.trans (.below (aV _ _).drew)).trans u3,t3.out.trans t2⟩⟩
variable{seq cO:Int}{B C N T:Nat}{F F':Nat->Prop}{p:aF}{y:Rt}{s:St}{v:Value}{W a b:World}
theorem WO(y:Rt)(v:Value):oG (bZ y v):=⟨λc e=>(by cases e),λc e=>(by cases e),λc e=>(by cases e),λc e=>(by cases e),λc e=>(by cases e)⟩
@[reducible] def HR(N B T C D : Nat)(me seq cO now : Int)(p : aF)(y : Rt)(v : Value)(W : World): Prop :=
 HC N B T C me seq cO now p W∧W.cell? ⟨D,0,none⟩=some (.int .u32 y.dest)∧W.cell? ⟨D,1,none⟩=some (.int .u32 y.seq)∧W.cell? ⟨D,2,none⟩=some (.int .i64 y.hops)∧W.cell? ⟨D,3,none⟩=some (.int .u32 y.next)∧W.cell? ⟨D,4,none⟩=some (.bool y.valid)∧W.cell? ⟨D,5,none⟩=some (.int .u64 y.exp)∧W.cell? ⟨D,6,none⟩=some v
theorem HC.at{g:bI}{TL:List Hp.Tm}{me now:Int}(n:Nd N B g s TL W)(h:PB p C W)(t:g.x.T=T)(h1:s.me=me)(h2:s.seq=seq)(h3:s.cO=cO)(h4:s.now=now):HC N B T C me seq cO now p W:=by
 subst t h1 h2 h3 h4;exact HC.of n h
theorem HR.at{D:Nat}{g:bI}{TL:List Hp.Tm}{me now:Int}(n:Nd N B g s TL W)(h:PB p C W)(hD:dS D y v W)(t:g.x.T=T)(h1:s.me=me)(h2:s.seq=seq)(h3:s.cO=cO)(h4:s.now=now):HR N B T C D me seq cO now p y v W:=⟨HC.at n h t h1 h2 h3 h4,hD.cell⟩
theorem HR.jX{D:Nat}{g:bI}{TL:List Hp.Tm}{me now:Int}(n:Nd N B g s TL W)(h:PB p C W)(hD:dS D y v W)(t:g.x.T=T)(h1:s.me=me)(h2:s.seq=seq)(h3:s.cO=cO)(h4:s.now=now):HR N B T C D me seq cO now p y v W.drew:=HR.at n.drew h hD t h1 h2 h3 h4
theorem MJ(a b:Int):IntKind.u32.wrap (IntKind.u64.wrap (a - b))=(a - b)%4294967296:=by
 simp only[IntKind.wrap,IntKind.signed,IntKind.bits];simp
theorem G9{l:Int}{h d q f:Int}{Q:Ending->World->Prop}(H:Hid (Calls Tryz.prog 181 #[.pointer (some ⟨N,0,none⟩),.pointer (some ⟨B,0,none⟩),.agg #[.int .i64 0,.int .i64 0,.int .i64 h,.bool false,.int .u32 0,.int .u32 d,.int .u32 q,.int .u32 f,.int .u32 0,.int .u32 l,.slice none 0 0,.string ⟨#[]⟩]] W Q)):
  Hid (∀l',l'=l->Calls Tryz.prog 181 #[.pointer (some ⟨N,0,none⟩),.pointer (some ⟨B,0,none⟩),.agg #[.int .i64 0,.int .i64 0,.int .i64 h,.bool false,.int .u32 0,.int .u32 d,.int .u32 q,.int .u32 f,.int .u32 0,.int .u32 l',.slice none 0 0,.string ⟨#[]⟩]] W Q):=by
 rintro _ rfl;exact H
theorem Up.kG(u:Up B F F' a b)(h:PB p C a)(hn:¬F C):PB p C b∧¬F' C:=u.keep h hn (Eb p)
theorem Up.keepR{D:Nat}(u:Up B F F' a b)(h:dS D y v a)(hn:¬F D):dS D y v b∧¬F' D:=u.keep h hn (WO y v)
theorem oO{A:List Rt}(hA:∀y∈A,y.Ok)(d now:Int):(bN A d now).1.Ok∨(bN A d now).2=false:=by
 unfold bN;cases hl:aJ A d with
 |none=>exact .inr rfl
 |some y=>
  by_cases hc:(y.valid&&decide (now<y.exp))=true
  ·left;have:=hA y (bR hl).1
   simp_all
  ·right;by_cases hv:y.valid=true
   ·by_cases he:now<y.exp
    ·simp[hv,he]at hc
    ·simp[hv,he]
   ·simp[hv]
theorem tu{g:bI}{TL:List Hp.Tm}{w:World}(n:Nd N B g s TL w)(p:aF)(hq:p.Hd)(r:Rt)(hr:r.Ok)(ra:Option Addr)(rn rc:Nat)(_hnow:Bg s.now)(hfl:s.aL.length<=1000000)(hdl:s.aT.length<=1000000):
  Calls Tryz.prog 164 #[.pointer (some ⟨N,0,none⟩),.pointer (some ⟨B,0,none⟩),p.val,Jh r (.slice ra rn rc)] w λe w'=>e=.returned (.tuple #[])∧l5 N B g s (s.iC p r) TL w w':=by
 have hp:=hq.wf;obtain⟨_,hde,hds,hfr,_,_⟩:=hp.num;have hb0:Below w.heap.size w ((w.alloc p.box).alloc (bZ r (.slice ra rn rc))):=(bq).alloc (by simp) _;have gQ:PB p w.heap.size ((w.alloc p.box).alloc (bZ r (.slice ra rn rc))):=(((aV _ (w.alloc p.box)).alloc (aD _) _).block _ (by simp)).trans (PB.new p w);have hR0:dS (w.heap.size+1) r (.slice ra rn rc) ((w.alloc p.box).alloc (bZ r (.slice ra rn rc))):=by
  have:=bS (w.alloc p.box) (bZ r (.slice ra rn rc));rw[World.size_alloc]at this;exact this
 have n0:=n.later hb0;obtain⟨s2,dD⟩:∃s2,s.iC p r=s2:=⟨_,rfl⟩;rw[dD];replace dD:=hide dD;dsimp only[aF.box,bZ]at hb0 n0;unfold PB at gQ;unfold dS at hR0;dsimp only[aF.box,bZ]at gQ hR0;go_enter Tryz.func164,Tryz.ntmps164;go_upto_region 1 with(fail);generalize World.alloc (World.alloc _ _) _=W1 at hb0 gQ hR0 n0 ⊢;have kL:=n.new (k:=w.heap.size) (aD _);have hRn:=n.new (k:=w.heap.size+1) (Nat.le_succ _);obtain⟨⟨y,fd⟩,hy⟩:∃r,bN s.A p.aK s.now=r:=⟨_,rfl⟩;have qY:fd=true->bB y.next:=λh=>by
  have:=oO n.nn.cr.tb.ok p.aK s.now;rw[hy]at this;rcases this with h1|h1
  ·exact h1.next
  ·rw[h]at h1;cases h1
 have HF:=hide (nV n0 p.aK s.now hfr hy);generalize l8:w.heap.size=C at gQ hR0 kL hRn ⊢;replace l8:=hide l8;go_cut [8,9]from 10 to 23 (ol y fd W1)
 case first=>
  have hS:HB N B g.x.T C s.me s.seq s.cO s.now p W1 W1.drew:=HB.drew (HB.mk' n0 gQ (aV _ _));have hkB:=hide λW5 h5=>HB.mk' (W:=W5) n0 gQ h5;go_region_held3 (HB N B g.x.T C s.me s.seq s.cO s.now p W1) (first|with_reducible exact hS|with_reducible assumption|(with_reducible apply HB.vF hkB;assumption)|(with_reducible apply HB.kH hkB;assumption)|(with_reducible apply HB.eH hkB)|(with_reducible apply hkB.out;assumption)) ((go_at_call 79;refine(HF.out _ (And.right (by assumption))).mono ?_;rintro e w2 ⟨ao,c,rfl,hb2,hpr⟩;try ((with_reducible have hD:=hpr bW (.slice none 0 0) (lJ W1));obtain⟨d0,d1,d2,d3,d4,d5,d6⟩:=hD.cell;have q0:=hD.free 0;have q1:=hD.free 1;have q2:=hD.free 2;have q3:=hD.free 3;have q4:=hD.free 4;have q5:=hD.free 5;have q6:=hD.free 6;have hD':Hid (dS W1.heap.size bW (.slice none 0 0) w2):=hD;clear hD);clear hpr))
  all_goals
   go_wp2_with fail;go_meet;first|with_reducible exact iB hb2|with_reducible exact j3 hb2 hD'
 case rest=>
  obtain⟨E,ao,c,rfl,rfl,hE,hEl,hb2⟩:=hcut;have Ya:¬Ft N g s E:=n0.new hEl;have n2:=n0.later hb2;have hP2:=PB.below gQ hb2;have hR2:dS (C+1) r (.slice ra rn rc) wc:=dS.later hR0 hb2;have hbb:=hb0.trans (hb2.mono hb0.size);have hs2:=dD.out;unfold St.iC at hs2;rw[hy]at hs2;dsimp only at hs2;clear HF gQ hR0 n0 hb0 hb2 dD;cases fd
  ·rw[aM (by simp)]at hs2;have HB4:=hide (rM n2.drew p.aK r.next hfr hr.next);have hS:HR N B g.x.T C (C+1) s.me s.seq s.cO s.now p r (.slice ra rn rc) wc.drew:=HR.jX n2 hP2 hR2 rfl rfl rfl rfl rfl;go_wp2_with fail;go_region_held3 (HR N B g.x.T C (C+1) s.me s.seq s.cO s.now p r (.slice ra rn rc)) (first|with_reducible exact hS|with_reducible assumption) ((go_at_call 182;refine HB4.out.mono ?_;rintro e w4 ⟨rfl,hN⟩;obtain⟨g4,n4,u4,t4⟩:=hN;obtain⟨mh,rz⟩:=u4.kG hP2 kL;obtain⟨M8,abr⟩:=u4.keepR hR2 hRn;have hk4:HR N B g.x.T C (C+1) s.me s.seq s.cO s.now p r (.slice ra rn rc) w4:=HR.at n4 mh M8 t4.out rfl rfl rfl rfl))
   clear hS hk4;rename_i iR;clear iR;clear HB4;have hsm:=qP {s with A:=lX s.A p.aK r.next} (St.t_ r.hops p.dest r.seq p.aK ((r.exp - s.now)%4294967296));have HA:=hide (Bv n4.drew (St.t_ r.hops p.dest r.seq p.aK ((r.exp - s.now)%4294967296)) (D6 hr.hops hde hr.seq hfr (by unfold bB;omega)) (JK _ _ _ _ _ _) hfl hdl);rw[hs2]at HA hsm;dsimp only[aF.val,St.t_]at HA;have HA':=G9 HA;clear HA;have hS:HR N B g4.x.T C (C+1) s.me s.seq s.cO s.now p r (.slice ra rn rc) w4.drew:=HR.jX n4 mh M8 rfl rfl rfl rfl rfl;go_wp2_with fail;go_region_held3 (HR N B g4.x.T C (C+1) s.me s.seq s.cO s.now p r (.slice ra rn rc)) (first|with_reducible exact hS|with_reducible assumption) ((go_at_call 181;refine(HA'.out _ (by first|exact MJ _ _|exact Sz _ _|rfl)).mono ?_;rintro e w5 ⟨rfl,hN⟩;obtain⟨g5,n5,u5,t5⟩:=hN;obtain⟨wV,ad4⟩:=u5.kG mh rz;obtain⟨VH,afy⟩:=u5.keepR M8 abr;have hk5:HR N B g4.x.T C (C+1) s.me s.seq s.cO s.now p r (.slice ra rn rc) w5:=HR.at n5 wV VH t5.out hsm.1.1 hsm.1.2.1 hsm.1.2.2.1 hsm.2))
   clear hS hk5;rename_i iR;clear iR;go_wp2;go_returns;exact⟨rfl,l5.pre hbb ⟨g5,n5,(Up.trans (.below (aV _ _).drew) u4).trans (Up.trans (.below (aV _ _).drew) u5),t5.out.trans t4.out⟩⟩
  ·rw[aQ rfl]at hs2;have hny:=qY rfl;obtain⟨e0,e1,e2,e3,e4,e5,e6⟩:=hE.cell;have HB3:=hide (rM n2.drew p.dest y.next hde hny);have hS:HR N B g.x.T C E s.me s.seq s.cO s.now p y (.slice ao y.bH.length c) wc.drew:=HR.jX n2 hP2 hE rfl rfl rfl rfl rfl;go_wp2_with fail;go_region_held3 (HR N B g.x.T C E s.me s.seq s.cO s.now p y (.slice ao y.bH.length c)) (first|with_reducible exact hS|with_reducible assumption) ((go_at_call 182;refine HB3.out.mono ?_;rintro e w3 ⟨rfl,hN⟩;obtain⟨g3,n3,u3,t3⟩:=hN;obtain⟨hP3,Pj⟩:=u3.kG hP2 kL;obtain⟨Pd,adM⟩:=u3.keepR hR2 hRn;obtain⟨hE3,Uh⟩:=u3.keepR hE Ya;have hk3:HR N B g.x.T C E s.me s.seq s.cO s.now p y (.slice ao y.bH.length c) w3:=HR.at n3 hP3 hE3 t3.out rfl rfl rfl rfl))
   clear hS hk3;rename_i iR;clear iR;clear e0 e1 e2 e3 e4 e5 e6 HB3 hE hP2 hR2;obtain⟨s1,hs1⟩:∃s1,({s with A:=lX s.A p.dest y.next}:St)=s1:=⟨_,rfl⟩;have wS:({s1 with A:=lX s1.A p.aK r.next}:St).answer (St.t_ r.hops p.dest r.seq p.aK ((r.exp - s1.now)%4294967296))=s2:=by
    rw[<-hs1];exact hs2
   have Au:s1.aL.length<=1000000:=by rw[<-hs1];exact hfl
   have EL:s1.aT.length<=1000000:=by rw[<-hs1];exact hdl
   rw[hs1]at n3 u3 Pj adM;clear hs2 hs1 Uh;have hs2:=wS;clear wS;have HB4:=hide (rM n3.drew p.aK r.next hfr hr.next);have hS:HR N B g3.x.T C (C+1) s1.me s1.seq s1.cO s1.now p r (.slice ra rn rc) w3.drew:=HR.jX n3 hP3 Pd rfl rfl rfl rfl rfl;go_wp2_with fail;go_region_held3 (HR N B g3.x.T C (C+1) s1.me s1.seq s1.cO s1.now p r (.slice ra rn rc)) (first|with_reducible exact hS|with_reducible assumption) ((go_at_call 182;refine HB4.out.mono ?_;rintro e w4 ⟨rfl,hN⟩;obtain⟨g4,n4,u4,t4⟩:=hN;obtain⟨mh,rz⟩:=u4.kG hP3 Pj;obtain⟨M8,abr⟩:=u4.keepR Pd adM;have hk4:HR N B g3.x.T C (C+1) s1.me s1.seq s1.cO s1.now p r (.slice ra rn rc) w4:=HR.at n4 mh M8 t4.out rfl rfl rfl rfl))
   clear hS hk4;rename_i iR;clear iR;clear HB4;have hsm:=qP {s1 with A:=lX s1.A p.aK r.next} (St.t_ r.hops p.dest r.seq p.aK ((r.exp - s1.now)%4294967296));have HA:=hide (Bv n4.drew (St.t_ r.hops p.dest r.seq p.aK ((r.exp - s1.now)%4294967296)) (D6 hr.hops hde hr.seq hfr (by unfold bB;omega)) (JK _ _ _ _ _ _) Au EL);rw[hs2]at HA hsm;dsimp only[aF.val,St.t_]at HA;have HA':=G9 HA;clear HA;have hS:HR N B g4.x.T C (C+1) s1.me s1.seq s1.cO s1.now p r (.slice ra rn rc) w4.drew:=HR.jX n4 mh M8 rfl rfl rfl rfl rfl;go_wp2_with fail;go_region_held3 (HR N B g4.x.T C (C+1) s1.me s1.seq s1.cO s1.now p r (.slice ra rn rc)) (first|with_reducible exact hS|with_reducible assumption) ((go_at_call 181;refine(HA'.out _ (by first|exact MJ _ _|exact Sz _ _|rfl)).mono ?_;rintro e w5 ⟨rfl,hN⟩;obtain⟨g5,n5,u5,t5⟩:=hN;obtain⟨wV,ad4⟩:=u5.kG mh rz;obtain⟨VH,afy⟩:=u5.keepR M8 abr;have hk5:HR N B g4.x.T C (C+1) s1.me s1.seq s1.cO s1.now p r (.slice ra rn rc) w5:=HR.at n5 wV VH t5.out hsm.1.1 hsm.1.2.1 hsm.1.2.2.1 hsm.2))
   clear hS hk5;rename_i iR;clear iR;go_wp2;go_returns;exact⟨rfl,l5.pre hbb ⟨g5,n5,((Up.trans (.below (aV _ _).drew) u3).trans (Up.trans (.below (aV _ _).drew) u4)).trans (Up.trans (.below (aV _ _).drew) u5),t5.out.trans (t4.out.trans t3.out)⟩⟩
theorem fH.nil{W W':World}{p:aF}(h:fH W p []):fH W' p []:=⟨h.1,λj hj=>by simp at hj⟩
theorem mP{a c:Int}(h:0<=a∧a<=4611686018427387904)(hc:0<=c∧c<=8589934592):IntKind.u64.wrap (a+c)=a+c:=by
 simp only[IntKind.wrap,IntKind.signed,IntKind.bits];simp;omega
theorem Qd{N B:Nat}{g:bI}{s:St}{TL:List Hp.Tm}{w:World}(n:Nd N B g s TL w)(fr:Int)(O7:bB fr)(p:aF)(hq:p.Hd)(hL:fH w p [])(fK:0<=s.now∧s.now<=4611686018427387904)(hfl:s.aL.length<=1000000)(hdl:s.aT.length<=1000000):
  Calls Tryz.prog 166 #[.pointer (some ⟨N,0,none⟩),.pointer (some ⟨B,0,none⟩),.int .u32 fr,p.val] w λe w'=>e=.returned (.tuple #[])∧l5 N B g s (s.iM fr p) TL w w':=by
 have hp:=hq.wf;obtain⟨hid,hde,hds,hfr,hfs,_⟩:=hp.num;have hb0:Below w.heap.size w (w.alloc p.box):=bq;have gQ:=PB.new p w;have n0:=n.later hb0;obtain⟨s2,dD⟩:∃s2,s.iM fr p=s2:=⟨_,rfl⟩;rw[dD];have hs2:=dD;replace dD:=hide dD;unfold St.iM at hs2;replace hs2:=hide hs2;dsimp only[aF.box]at hb0 n0;unfold PB at gQ;dsimp only[aF.box]at gQ;go_enter Tryz.func166,Tryz.ntmps166;go_upto_region 1 with(fail);generalize World.alloc _ _=W1 at hb0 gQ n0 ⊢;have kL:=n.new (k:=w.heap.size) (aD _);obtain⟨⟨y,fd⟩,hy⟩:∃r,bN s.A p.aK s.now=r:=⟨_,rfl⟩;have HF:=hide (nV n0 p.aK s.now hfr hy);generalize l8:w.heap.size=C at gQ kL ⊢;replace l8:=hide l8;go_cut [8,9]from 10 to 23 (ol y fd W1)
 case first=>
  have hS:HB N B g.x.T C s.me s.seq s.cO s.now p W1 W1.drew:=HB.drew (HB.mk' n0 gQ (aV _ _));have hkB:=hide λW5 h5=>HB.mk' (W:=W5) n0 gQ h5;go_region_held3 (HB N B g.x.T C s.me s.seq s.cO s.now p W1) (first|with_reducible exact hS|with_reducible assumption|(with_reducible apply HB.vF hkB;assumption)|(with_reducible apply HB.kH hkB;assumption)|(with_reducible apply HB.eH hkB)|(with_reducible apply hkB.out;assumption)) ((go_at_call 79;refine(HF.out _ (And.right (by assumption))).mono ?_;rintro e w2 ⟨ao,c,rfl,hb2,hpr⟩;try ((with_reducible have hD:=hpr bW (.slice none 0 0) (lJ W1));obtain⟨d0,d1,d2,d3,d4,d5,d6⟩:=hD.cell;have q0:=hD.free 0;have q1:=hD.free 1;have q2:=hD.free 2;have q3:=hD.free 3;have q4:=hD.free 4;have q5:=hD.free 5;have q6:=hD.free 6;have hD':Hid (dS W1.heap.size bW (.slice none 0 0) w2):=hD;clear hD);clear hpr))
  all_goals
   go_wp2_with fail;go_meet;first|with_reducible exact iB hb2|with_reducible exact j3 hb2 hD'
 case rest=>
  obtain⟨E,ao,c,rfl,rfl,hE,hEl,hb2⟩:=hcut;have Ya:¬Ft N g s E:=n0.new hEl;have qY:fd=true->bB y.next:=λh=>by
   have:=oO n.nn.cr.tb.ok p.aK s.now;rw[hy]at this;rcases this with h1|h1
   ·exact h1.next
   ·rw[h]at h1;cases h1
  have n2:=n0.later hb2;have hP2:PB p C wc:=PB.below gQ hb2;have hbb:=hb0.trans (hb2.mono hb0.size);have hCE:C≠E:=by have:=PB.lt gQ;omega
  have hs3:=hs2.out;rw[hy]at hs3;dsimp only at hs3;clear HF gQ n0 hb0 hb2 dD hs2;cases fd
  ·rw[aM (by simp)]at hs3;have HX:=hide (jC n2 3 hdl);rw[hs3]at HX;clear hP2 hE;go_wp2_with fail;refine aU HX.out ?_;rintro e w9 ⟨rfl,hN⟩;go_wp2;go_returns;exact⟨rfl,hN.pre hbb⟩
  ·rw[aQ rfl]at hs3;have hyn:=qY rfl;have hwt:wrap64 (p.ttl - 1)=p.ttl - 1:=by
    have:=hq.ttl;unfold wrap64;omega
   have hbC:w.heap.size<=C:=by rw[l8.out];exact aD _
   have mh:=hP2.pq (p.ttl - 1);have hb4:Below w.heap.size w (wc.setCell ⟨C,0,none⟩ (.int .i64 (p.ttl - 1))):=hbb.setCell (p:=⟨C,0,none⟩) hbC _;have Kn:dS E y (.slice ao y.bH.length c) (wc.setCell ⟨C,0,none⟩ (.int .i64 (p.ttl - 1))):=(iV _ _ _ _ (Ne.symm hCE)).trans hE;obtain⟨p0,p1,p2,p3,p4,p5,p6,p7,p8,p9,jL,jF⟩:=PB.cell hP2;have f0:=PB.free hP2 0;clear n2 hP2 hE hbb;go_upto_region 5 with(fail);generalize World.setCell _ _ _=W4 at mh hb4 Kn ⊢;clear p0 p1 p2 p3 p4 p5 p6 p7 p8 p9 jL jF f0;obtain⟨p0,p1,p2,p3,p4,p5,p6,p7,p8,p9,jL,jF⟩:=PB.cell mh;have f2:=PB.free mh 2;dsimp only at p0 p1 p2 p3 p4 p5 p6 p7 p8 p9 jL jF;have wV:PB ({p with ttl:=p.ttl - 1,hops:=St.far p.hops}:aF) C (W4.setCell ⟨C,2,none⟩ (.int .i64 (St.far p.hops))):=mh.DY (St.far p.hops);have hb5:Below w.heap.size w (W4.setCell ⟨C,2,none⟩ (.int .i64 (St.far p.hops))):=hb4.setCell (p:=⟨C,2,none⟩) hbC _;have VN:dS E y (.slice ao y.bH.length c) (W4.setCell ⟨C,2,none⟩ (.int .i64 (St.far p.hops))):=(iV _ _ _ _ (Ne.symm hCE)).trans Kn;have n5:=n.later hb5;have hwf:({p with ttl:=p.ttl - 1,hops:=St.far p.hops}:aF).Wf:=by
    have h1:=hq.ttl;have h2:=hq.hops;refine {hp with V6:=?_,V5:=?_,MW:=?_,MV:=?_}<;>(unfold St.far;dsimp only;omega)
   have HS:=hide (Bu n5 y.next ({p with ttl:=p.ttl - 1,hops:=St.far p.hops}:aF) hwf [] (hL.below hb5) hfl);obtain⟨s6,hs6⟩:∃z,s.send y.next ({p with ttl:=p.ttl - 1,hops:=St.far p.hops}:aF) []=z:=⟨_,rfl⟩;rw[hs6]at HS;dsimp only[aF.val]at HS;have h6:Hid (s6.now=s.now∧s6.A=s.A∧ {s6 with A:=iP (lX (lX s6.A p.dest y.next) p.aK fr) p.aK (s.now+3000)}=s2):=by
    show _∧_∧_;rw[<-hs6];exact⟨rfl,rfl,hs3⟩
   clear hs3 hs6;go_wp2_with fail;refine aU (vM p.hops hq.hops W4) ?_;rintro e w4 ⟨rfl,rfl⟩;clear mh hb4 Kn;go_upto_region 6 with(fail);generalize World.setCell _ _ _=W5 at wV hb5 VN n5 HS ⊢;clear p0 p1 p2 p3 p4 p5 p6 p7 p8 p9 jL jF f2;obtain⟨p0,p1,p2,p3,p4,p5,p6,p7,p8,p9,jL,jF⟩:=PB.cell wV;obtain⟨e0,e1,e2,e3,e4,e5,e6⟩:=VN.cell;dsimp only at p0 p1 p2 p3 p4 p5 p6 p7 p8 p9 jL jF;go_wp2_with fail;refine aU HS.out ?_;rintro e w6 ⟨rfl,hN⟩;obtain⟨g6,n6,u6,t6⟩:=hN;clear p0 p1 p2 p3 p4 p5 p6 p7 p8 p9 jL jF e0 e1 e2 e3 e4 e5 e6 HS;obtain⟨Jl,kR⟩:=u6.kG wV kL;obtain⟨Yc,Ug⟩:=u6.keepR VN Ya;have nL:Up B (Ft N g s) (Ft N g6 s6) w w6:=(Up.below hb5).trans u6;clear wV VN n5 u6 hb5;have HB:=hide (rM n6.drew p.dest y.next hde hyn);have hS:HR N B g6.x.T C E s6.me s6.seq s6.cO s6.now ({p with ttl:=p.ttl - 1,hops:=St.far p.hops}:aF) y (.slice ao y.bH.length c) w6.drew:=HR.jX n6 Jl Yc rfl rfl rfl rfl rfl;go_wp2_with fail;go_region_held3 (HR N B g6.x.T C E s6.me s6.seq s6.cO s6.now ({p with ttl:=p.ttl - 1,hops:=St.far p.hops}:aF) y (.slice ao y.bH.length c)) (first|with_reducible exact hS|with_reducible assumption) ((go_at_call 182;refine(HB.out).mono ?_;rintro e w7 ⟨rfl,hN⟩;obtain⟨g7,n7,u7,t7⟩:=hN;obtain⟨X3,Ph⟩:=u7.kG Jl kR;obtain⟨Yb,Pf⟩:=u7.keepR Yc Ug;have hk7:HR N B g6.x.T C E s6.me s6.seq s6.cO s6.now ({p with ttl:=p.ttl - 1,hops:=St.far p.hops}:aF) y (.slice ao y.bH.length c) w7:=HR.at n7 X3 Yb t7.out rfl rfl rfl rfl))
   clear hS hk7;rename_i iR;clear iR;clear HB;have ua7:=(nL.trans (.below (aV _ _).drew)).trans u7;obtain⟨s7,hs7⟩:∃z,({s6 with A:=lX s6.A p.dest y.next}:St)=z:=⟨_,rfl⟩;have h7:Hid (s7.now=s.now∧ {s7 with A:=iP (lX s7.A p.aK fr) p.aK (s.now+3000)}=s2):=by
    show _∧_;rw[<-hs7];exact⟨h6.out.1,h6.out.2.2⟩
   rw[hs7]at n7 ua7 Ph Pf;clear hs7 nL u7 n6 Jl Yc kR Ug h6;have HB:=hide (rM n7.drew p.aK fr hfr O7);have hS:HR N B g7.x.T C E s7.me s7.seq s7.cO s7.now ({p with ttl:=p.ttl - 1,hops:=St.far p.hops}:aF) y (.slice ao y.bH.length c) w7.drew:=HR.jX n7 X3 Yb rfl rfl rfl rfl rfl;go_wp2_with fail;go_region_held3 (HR N B g7.x.T C E s7.me s7.seq s7.cO s7.now ({p with ttl:=p.ttl - 1,hops:=St.far p.hops}:aF) y (.slice ao y.bH.length c)) (first|with_reducible exact hS|with_reducible assumption) ((go_at_call 182;refine(HB.out).mono ?_;rintro e w8 ⟨rfl,hN⟩;obtain⟨g8,n8,u8,t8⟩:=hN;obtain⟨Kk,abA⟩:=u8.kG X3 Ph;obtain⟨Ui,abz⟩:=u8.keepR Yb Pf;have hk8:HR N B g7.x.T C E s7.me s7.seq s7.cO s7.now ({p with ttl:=p.ttl - 1,hops:=St.far p.hops}:aF) y (.slice ao y.bH.length c) w8:=HR.at n8 Kk Ui t8.out rfl rfl rfl rfl))
   clear hS hk8;rename_i iR;clear iR;clear HB;have Vx:=(ua7.trans (.below (aV _ _).drew)).trans u8;obtain⟨s8,hs8⟩:∃z,({s7 with A:=lX s7.A p.aK fr}:St)=z:=⟨_,rfl⟩;have h8:Hid (s8.now=s.now∧ {s8 with A:=iP s8.A p.aK (s.now+3000)}=s2):=by
    show _∧_;rw[<-hs8];exact⟨h7.out.1,h7.out.2⟩
   rw[hs8]at n8 Vx abA abz;clear hs8 ua7 u8 n7 X3 Yb Ph Pf h7;have HV:Hid (∀t,t=s8.now+3000->Calls Tryz.prog 81 #[.pointer (some ⟨g8.x.T,0,none⟩),.int .u32 p.aK,.int .u64 t] w8.drew λr w'=>r=.returned (.tuple #[])∧l5 N B g8 s8 s2 TL w8.drew w'):=by
    rintro _ rfl;have:=Nw n8.drew p.aK (s8.now+3000) hfr (by have:=h8.out.1;unfold Bg;omega);rw[show({s8 with A:=iP s8.A p.aK (s8.now+3000)}:St)=s2 from by have e:=h8.out.2;rw[<-h8.out.1]at e;exact e]at this;exact this
   have hn8:0<=s8.now∧s8.now<=4611686018427387904:=by rw[h8.out.1];exact fK
   have hsm:Hid (s2.me=s8.me∧s2.seq=s8.seq∧s2.cO=s8.cO∧s2.now=s8.now):=by
    show _∧_;rw[<-h8.out.2];exact⟨rfl,rfl,rfl,rfl⟩
   have hS:HR N B g8.x.T C E s8.me s8.seq s8.cO s8.now ({p with ttl:=p.ttl - 1,hops:=St.far p.hops}:aF) y (.slice ao y.bH.length c) w8.drew:=HR.jX n8 Kk Ui rfl rfl rfl rfl rfl;go_wp2_with fail;go_region_held3 (HR N B g8.x.T C E s8.me s8.seq s8.cO s8.now ({p with ttl:=p.ttl - 1,hops:=St.far p.hops}:aF) y (.slice ao y.bH.length c)) (first|with_reducible exact hS|with_reducible assumption) ((go_at_call 81;refine(HV.out _ (by first|rfl|exact mP hn8 (by decide))).mono ?_;rintro e w9 ⟨rfl,hN⟩;obtain⟨g9,n9,u9,t9⟩:=hN;obtain⟨Jk,agE⟩:=u9.kG Kk abA;obtain⟨Qx,agD⟩:=u9.keepR Ui abz;have hk9:HR N B g8.x.T C E s8.me s8.seq s8.cO s8.now ({p with ttl:=p.ttl - 1,hops:=St.far p.hops}:aF) y (.slice ao y.bH.length c) w9:=HR.at n9 Jk Qx t9.out hsm.out.1 hsm.out.2.1 hsm.out.2.2.1 hsm.out.2.2.2))
   clear hS hk9;rename_i iR;clear iR;have wz:=(Vx.trans (.below (aV _ _).drew)).trans u9;have ta:g9.x.T=g.x.T:=t9.out.trans (t8.out.trans (t7.out.trans t6.out));clear Kk Ui Jk Qx;go_wp2;go_returns;exact⟨rfl,g9,n9,wz,ta⟩
variable{f:Int->Option Nat}{A:List Rt}{B M N T:Nat}{s:St}{w:World}
def xK(A:List Rt)(d:Int):Bool:=(aJ A d).any λy=>decide (0<y.bH.length)
theorem NH{me:Int}{g:Int->Value}(h:MT me T M f g A w)(d:Int)(hd:bB d):
  Calls Tryz.prog 167 #[.pointer (some ⟨T,0,none⟩),.int .u32 d] w λe w'=>e=.returned (.bool (xK A d))∧w'=w:=by
 obtain⟨t0,t1⟩:=h.blk.cell;have hlk:=h.map.look hd;cases hl:aJ A d with
 |none=>
  rw[h.off hd hl]at hlk;simp only[gF]at hlk;have hn:xK A d=false:=by simp[xK,hl]
  rw[hn];clear h hn hl;go_enter Tryz.func167,Tryz.ntmps167;go_wp2;go_ret;exact⟨rfl,rfl⟩
 |some x=>
  obtain⟨_,_,B,hB,hL,hR⟩:=h.line hl;rw[hB]at hlk;simp only[gF]at hlk;obtain⟨ag,cg,hg,_⟩:=ak hR;obtain⟨b0,b1,b2,b3,b4,b5,b6⟩:=hL.cell;rw[hg]at b6;have hn:xK A d=decide (0<x.bH.length):=by simp[xK,hl]
  rw[hn];clear h hn hl hL hB hR;by_cases h0:0<x.bH.length
  ·have h1:(0:Int)<(x.bH.length:Int):=by omega
   go_enter Tryz.func167,Tryz.ntmps167;go_wp2;go_ret;exact⟨by simp[h0],rfl⟩
  ·have h1:¬(0:Int)<(x.bH.length:Int):=by omega
   go_enter Tryz.func167,Tryz.ntmps167;go_wp2;go_ret;exact⟨by simp,rfl⟩
def Nb(A:List Rt)(d:Int):List Rt:=g_ A d St.qi
theorem NJ{me:Int}{g:Int->Value}(h:MT me T M f g A w)(d:Int)(hd:bB d):
  Calls Tryz.prog 169 #[.pointer (some ⟨T,0,none⟩),.int .u32 d] w λe w'=>∃g',e=.returned (.tuple #[])∧MT me T M f g' (Nb A d) w'∧(∀k,nu T M f g' (Nb A d) k->nu T M f g A k)∧Fx (nu T M f g A) w w':=by
 obtain⟨t0,t1⟩:=h.blk.cell;have hlk:=h.map.look hd;cases hl:aJ A d with
 |none=>
  rw[h.off hd hl]at hlk;simp only[gF]at hlk;have hn:Nb A d=A:=oK hl St.qi;rw[hn];go_enter Tryz.func169,Tryz.ntmps169;go_wp2;go_returns;exact⟨g,rfl,h,λ_ h=>h,Fx.refl _ _⟩
 |some x=>
  obtain⟨J_,hxd,B,hB,hL,hR⟩:=h.line hl;rw[hB]at hlk;simp only[gF]at hlk;obtain⟨b0,b1,b2,b3,b4,b5,b6⟩:=hL.cell;have fz:=hL.free 1;have Hy:=h.ok x J_;have hg1:w.grownBy (w.setCell ⟨B,1,none⟩ (.int .u32 (gr x.seq))) (some B):=ah (aC _ (some B)) 1 _;have hL1:=hL.set1 (gr x.seq);have Ye:∀c,bZ x (g d)≠ .cells c 34 (0,0):=λc e=>(by cases e);have hR1:=hR.kept hg1 (.inr (aB hR hL Ye));obtain⟨k1,k2⟩:=h.turn hl hB St.qi (λ_=>rfl) ⟨Hy.dest,uw Hy.seq,Hy.hops,Hy.next,Hy.exp,Hy.PZ,Hy.bH,Hy.xC⟩ (g d) hL1 hR1 (.inr (.inl rfl)) (λk hk hkB _=>hg1.block k (h.lt hk) (λe=>hkB (by cases e;rfl)));have hfx:Fx (nu T M f g A) w (w.setCell ⟨B,1,none⟩ (.int .u32 (gr x.seq))):=Fx.grown hg1 λk e=>by
   cases e;exact .inr (.inr ⟨x,J_,.inl (by rw[hxd];exact hB)⟩)
  have hin:∀k,nu T M f (λe=>if e=d then g d else g e) (Nb A d) k->nu T M f g A k:=λk hk=>by
   rcases k2 k hk with h1|h1
   ·exact h1
   ·exact .inr (.inr ⟨x,J_,.inr (by rw[hxd];exact h1)⟩)
  clear h hL hR hg1 hL1 hR1 k2 hB;go_enter Tryz.func169,Tryz.ntmps169;go_wp2_with(go_at_call 42;refine(oN _ _).mono ?_;rintro e w5 ⟨rfl,rfl⟩);go_returns;exact⟨_,rfl,k1,hin,hfx⟩
theorem ab6{g:bI}{TL:List Hp.Tm}(n:Nd N B g s TL w)(d:Int)(hd:bB d):
  Calls Tryz.prog 167 #[.pointer (some ⟨g.x.T,0,none⟩),.int .u32 d] w λe w'=>e=.returned (.bool (xK s.A d))∧w'=w:=NH n.nn.cr.tb d hd
theorem acf{g:bI}{TL:List Hp.Tm}(n:Nd N B g s TL w)(d:Int)(hd:bB d):
  Calls Tryz.prog 169 #[.pointer (some ⟨g.x.T,0,none⟩),.int .u32 d] w λe w'=>e=.returned (.tuple #[])∧l5 N B g s {s with A:=g_ s.A d St.qi} TL w w':=by
 have h:=n.nn.cr.tb;rw[n.nn.eq.self]at h;refine(NJ h d hd).mono ?_;rintro e w' ⟨g',rfl,h1,h2,h3⟩;exact⟨rfl,n.wB ⟨_,_,_,h1,λk hk=> .inl (h2 k hk)⟩ h3⟩
theorem XE:(Tryz.prog.info? 56).map (λi=>(i.zero,i.size,i.bytes))=some (some (.agg #[.int .u32 0,.string ⟨#[]⟩]),2,24):=by kernel_rfl
theorem UH(W:World)(t:Int)(s:ByteArray):∀(j:Nat) (u:Value),(uE [(t,s)])[j]?=some u->(W.alloc (.cells #[.int .u32 t,.string s] 56)).cell? ((⟨W.heap.size,0,none⟩:Addr).add j)=some u:=by
 intro j u hj;have h:=bS W (.cells #[.int .u32 t,.string s] 56);rw[Addr.add_lit,Nat.zero_add]
 match j,hj with
 |0,hj=>exact(aH _ _ 0 _ _ _ h).trans hj
 |1,hj=>exact(aH _ _ 1 _ _ _ h).trans hj
 |j+2,hj=>simp[uE]at hj
theorem jJ.comes{base:Nat}{a:qy}{bA:List (Bool×Int×Int)}{aL aY abT:List (Int×ByteArray)}{aT:List Int}{W W7:World}(h:jJ B base a bA aL aY aT W){v7:Value}(ho:W7.ownsRow base 56 2 v7 abT.length (uE abT))(hg:W.grownBy W7 a.bP.ownBlock):
  oW B a W7∧jJ B base {a with bP:=v7} bA aL abT aT (W7.setCell ⟨B,5,none⟩ v7)∧Fx (jE B a) W (W7.setCell ⟨B,5,none⟩ v7):=by
 have hBr:a.bP.ownBlock≠some B:=aB h.bP h.blk (λc e=>(by cases e));have je:oW B a W7:=h.blk.block (hg.block _ h.blk.lt (λe=>hBr e.symm));have hg2:W7.grownBy (W7.setCell ⟨B,5,none⟩ v7) (some B):=ah (aC _ (some B)) 5 v7;have f1:=h.bQ.kept hg (bX h.bQ h.bP (by decide));have f2:=h.aK.kept hg (bX h.aK h.bP (by decide));have f3:=h.nW.kept hg (bX h.nW h.bP (by decide));exact⟨je,⟨je.aaj v7,f3.kept hg2 (.inr (aB f3 je (λc e=>(by cases e)))),f2.kept hg2 (.inr (aB f2 je (λc e=>(by cases e)))),ho.kept hg2 (.inr (aB ho je (λc e=>(by cases e)))),f1.kept hg2 (.inr (aB f1 je (λc e=>(by cases e))))⟩,
  aW (Fx.grown hg λk e=> .inr (.inr (.inr (.inl e)))) hg2 λi _ e=>by cases e;exact .inl rfl⟩
theorem KX{N B:Nat}{g:bI}{s:St}{TL:List Hp.Tm}{w:World}(n:Nd N B g s TL w)(fr:Int)(_hfrm:bB fr)(p:aF)(hq:p.Hd)(hL:fH w p [])(fK:0<=s.now∧s.now<=4611686018427387904)(hfl:s.aL.length<=1000000)(hdl:s.aT.length<=1000000)(hcl:s.aY.length<=1000000):
  Calls Tryz.prog 133 #[.pointer (some ⟨N,0,none⟩),.pointer (some ⟨B,0,none⟩),.int .u32 fr,p.val] w λe w'=>e=.returned (.tuple #[])∧l5 N B g s (s.fO fr p) TL w w':=by
 have hp:=hq.wf;obtain⟨hid,hde,hds,hfr,hfs,_⟩:=hp.num;have hb0:Below w.heap.size w (w.alloc p.box):=bq;have gQ:=PB.new p w;have n0:=n.later hb0;obtain⟨s2,dD⟩:∃s2,s.fO fr p=s2:=⟨_,rfl⟩;rw[dD];have hs2:=dD;unfold St.fO at hs2;replace hs2:=hide hs2;dsimp only[aF.box]at hb0 n0;unfold PB at gQ;dsimp only[aF.box]at gQ;go_enter Tryz.func133,Tryz.ntmps133;go_upto_region 1 with(fail);generalize World.alloc _ _=W1 at hb0 gQ n0 ⊢;have kL:=n.new (k:=w.heap.size) (aD _);obtain⟨⟨y,fd⟩,hy⟩:∃r,bN s.A p.dest s.now=r:=⟨_,rfl⟩;have HF:=hide (nV n0 p.dest s.now hde hy);generalize l8:w.heap.size=C at gQ kL ⊢;replace l8:=hide l8;go_cut [8,9]from 10 to 23 (ol y fd W1)
 case first=>
  have hS:HB N B g.x.T C s.me s.seq s.cO s.now p W1 W1.drew:=HB.drew (HB.mk' n0 gQ (aV _ _));have hkB:=hide λW5 h5=>HB.mk' (W:=W5) n0 gQ h5;go_region_held3 (HB N B g.x.T C s.me s.seq s.cO s.now p W1) (first|with_reducible exact hS|with_reducible assumption|(with_reducible apply HB.vF hkB;assumption)|(with_reducible apply HB.kH hkB;assumption)|(with_reducible apply HB.eH hkB)|(with_reducible apply hkB.out;assumption)) ((go_at_call 79;refine(HF.out _ (And.right (by assumption))).mono ?_;rintro e w2 ⟨ao,c,rfl,hb2,hpr⟩;try ((with_reducible have hD:=hpr bW (.slice none 0 0) (lJ W1));obtain⟨d0,d1,d2,d3,d4,d5,d6⟩:=hD.cell;have q0:=hD.free 0;have q1:=hD.free 1;have q2:=hD.free 2;have q3:=hD.free 3;have q4:=hD.free 4;have q5:=hD.free 5;have q6:=hD.free 6;have hD':Hid (dS W1.heap.size bW (.slice none 0 0) w2):=hD;clear hD);clear hpr))
  all_goals
   go_wp2_with fail;go_meet;first|with_reducible exact iB hb2|with_reducible exact j3 hb2 hD'
 case rest=>
  obtain⟨E,ao,c,rfl,rfl,hE,hEl,hb2⟩:=hcut;have Ya:¬Ft N g s E:=n0.new hEl;have qY:fd=true->bB y.next:=λh=>by
   have:=oO n.nn.cr.tb.ok p.dest s.now;rw[hy]at this;rcases this with h1|h1
   ·exact h1.next
   ·rw[h]at h1;cases h1
  have hCE:C≠E:=by have:=PB.lt gQ;omega
  have hP2:PB p C wc.drew:=PB.below gQ hb2.drew;have hE2:dS E y (.slice ao y.bH.length c) wc.drew:=hE;have hbb:Below w.heap.size w wc.drew:=(hb0.trans (hb2.mono hb0.size)).drew;have n2:=n.later hbb;have hS:HC N B g.x.T C s.me s.seq s.cO s.now p wc.drew:=HC.of n2 hP2;have hs3:=hs2.out;rw[hy]at hs3;dsimp only at hs3;clear HF gQ n0 hb0 hb2 dD hs2 hE;by_cases rq:p.dest=s.me
  ·have hbe:(p.dest==s.me)=true:=by simpa using rq
   rw[aQ rq]at hs3;clear rq;go_wp2_with fail;go_region_held3 (HC N B g.x.T C s.me s.seq s.cO s.now p) (first|with_reducible exact hS|with_reducible assumption) (fail)
   rename_i iR;clear iR hS;generalize World.drew _=W2 at hP2 hE2 hbb n2 ⊢;obtain⟨i0,hi,hz0,hz1,hz2⟩:=info_parts XE;have ha2:=n2.ac;have hbs:=n2.base;obtain⟨_,_,_,_,_,_,_,p7,_,_,_,jF⟩:=PB.cell hP2;have c5:=ha2.blk.cell.2.2.2.2.2.1;have haT:=λo=>(ha2.alloc o).blk.cell.2.2.2.2.2.1;have hpT:=λo=>(PB.cell (PB.alloc hP2 o)).2.2.2.2.2.2.2.1;have hqT:=λo=>(PB.cell (PB.alloc hP2 o)).2.2.2.2.2.2.2.2.2.2.2;have hrow:=λo=>(ha2.alloc o).drew.bP;have hcf:=λW=>UH W p.aK p.pay;have jO:Hid (∀o:Obj,B+1<=(W2.alloc o).drew.heap.size):=by
    intro o;show B+1<=(W2.alloc o).heap.size;rw[World.size_alloc];omega
   have HX:Hid (∀v7 w7,w7.ownsRow (B+1) 56 2 v7 (s.aY.length+1) (uE s.aY++uE [(p.aK,p.pay)])->(W2.alloc (.cells #[.int .u32 p.aK,.string p.pay] 56)).drew.grownBy w7 g.a.bP.ownBlock->(w7.cell? ⟨B,5,none⟩=some g.a.bP∧w7.frozen? ⟨B,5,none⟩=false)∧l5 N B g s s2 TL w (w7.setCell ⟨B,5,none⟩ v7)):=by
    intro v7 w7 iy gP;rw[<-Bz,show s.aY.length+1=(s.aY++ [(p.aK,p.pay)]).length by simp]at iy;have hb3:Below W2.heap.size W2 (W2.alloc (.cells #[.int .u32 p.aK,.string p.pay] 56)).drew:=(bq).drew;have n3:=n2.later hb3;obtain⟨je,hm,hf⟩:=n3.ac.comes iy gP;obtain⟨q1,q2⟩:=n3.act (s':=s2) (by rw[<-hs3];exact hm) hf (by rw[<-hs3];exact⟨rfl,rfl,rfl,rfl,rfl,rfl,rfl,rfl,rfl,rfl,rfl,rfl,rfl,rfl,rfl⟩) (by rw[<-hs3];exact n3.now) (by rw[<-hs3];exact n3.bC);exact⟨⟨je.cell.2.2.2.2.2.1,je.free 5⟩,l5.pre (hbb.trans (hb3.mono hbb.size)) ⟨_,q1,q2,rfl⟩⟩
   clear hs3 n2 ha2 hP2 hE2 hbb;go_wp2_with fail;go_region_law (refine gU rfl (.tmp 52) (.tmp 58) 49 rfl (B+1) 56 i0 (.agg #[.int .u32 0,.string ⟨#[]⟩]) 2 24 Tryz.underlying49 hi hz0 hz1 hz2 rfl (by decide) g.a.bP s.aY.length (uE s.aY) (by simp[Act.eval]) (hrow _) ⟨_,0,none⟩ 1 1 (uE [(p.aK,p.pay)]) (by simp[Act.eval]) rfl (hcf _) (RU _) (by unfold maxLen;omega) (by omega) (jO.out _) ?_;intro v7 w7 iy gP _;obtain⟨⟨g1,g2⟩,hm⟩:=HX.out _ _ iy gP;obtain⟨Qz,UM,rfl,_⟩:=ak iy)
   all_goals
    generalize World.setCell _ _ _=w8 at hm ⊢;clear g1 g2 gP iy;go_wp2;go_returns;exact⟨rfl,hm⟩
  ·have hbe:(p.dest==s.me)=false:=by simpa using rq
   rw[aM rq]at hs3;go_wp2_with fail;go_region_held3 (HC N B g.x.T C s.me s.seq s.cO s.now p) (first|with_reducible exact hS|with_reducible assumption) (fail)
   rename_i iR;clear iR hS;generalize World.drew _=W2 at hP2 hE2 hbb n2 ⊢;have Jf:Up B (Ft N g s) (Ft N g s) w W2:=.below hbb;by_cases htl:p.ttl=1
   ·have hbt:(p.ttl==1)=true:=by simpa using htl
    rw[aQ htl]at hs3;clear htl;have HX:=hide (jC n2 4 hdl);rw[hs3]at HX;obtain⟨p0,p1,p2,p3,p4,p5,p6,p7,p8,p9,jL,jF⟩:=PB.cell hP2;clear hP2 hE2;go_wp2_with fail;refine aU HX.out ?_;rintro e w9 ⟨rfl,hN⟩;obtain⟨g9,n9,u9,t9⟩:=hN;go_wp2;go_returns;exact⟨rfl,g9,n9,Jf.trans u9,t9.out.trans rfl⟩
   ·have hbt:(p.ttl==1)=false:=by simpa using htl
    rw[aM htl]at hs3;cases fd
    ·rw[aM (by simp)]at hs3;obtain⟨s4,hs4⟩:∃z,s.drop 3=z:=⟨_,rfl⟩;have HD:=hide (jC n2 3 hdl);rw[hs4]at HD;have h4:Hid (s4.now=s.now∧s4.me=s.me∧s4.seq=s.seq∧s4.cO=s.cO∧s4.aL=s.aL∧({s4 with A:=g_ s4.A p.dest St.qi}:St).lI fr p.dest=s2):=by
      show _∧_;rw[<-hs4];exact⟨rfl,rfl,rfl,rfl,rfl,hs3⟩
     clear hs3 hs4;obtain⟨p0,p1,p2,p3,p4,p5,p6,p7,p8,p9,jL,jF⟩:=PB.cell hP2;go_wp2_with fail;refine aU HD.out ?_;rintro e w4 ⟨rfl,hN⟩;obtain⟨g4,n4,u4,t4⟩:=hN;obtain⟨mh,rz⟩:=u4.kG hP2 kL;obtain⟨Kn,afN⟩:=u4.keepR hE2 Ya;have qf:=Jf.trans u4;clear p0 p1 p2 p3 p4 p5 p6 p7 p8 p9 jL jF HD hP2 hE2 n2 u4 Jf;have HB:=hide (acf n4.drew p.dest hde);have hS:HR N B g4.x.T C E s4.me s4.seq s4.cO s4.now p y (.slice ao y.bH.length c) w4.drew:=HR.jX n4 mh Kn rfl rfl rfl rfl rfl;go_wp2_with fail;go_region_held3 (HR N B g4.x.T C E s4.me s4.seq s4.cO s4.now p y (.slice ao y.bH.length c)) (first|with_reducible exact hS|with_reducible assumption) ((go_at_call 169;refine(HB.out).mono ?_;rintro e w5 ⟨rfl,hN⟩;obtain⟨g5,n5,u5,t5⟩:=hN;obtain⟨wV,ad4⟩:=u5.kG mh rz;obtain⟨VN,afM⟩:=u5.keepR Kn afN;have hk5:HR N B g4.x.T C E s4.me s4.seq s4.cO s4.now p y (.slice ao y.bH.length c) w5:=HR.at n5 wV VN t5.out rfl rfl rfl rfl))
     clear hS hk5;rename_i iR;clear iR;clear HB;have yD:=(qf.trans (.below (aV _ _).drew)).trans u5;obtain⟨s5,hs5⟩:∃z,({s4 with A:=g_ s4.A p.dest St.qi}:St)=z:=⟨_,rfl⟩;have h5:Hid (s5.aL=s.aL∧s5.lI fr p.dest=s2):=by
      show _∧_;rw[<-hs5];exact⟨h4.out.2.2.2.2.1,h4.out.2.2.2.2.2⟩
     rw[hs5]at n5 yD;have HX:=hide (Dy n5 fr p.dest hde (by rw[h5.out.1];exact hfl));rw[h5.out.2]at HX;obtain⟨p0,p1,p2,p3,p4,p5,p6,p7,p8,p9,jL,jF⟩:=PB.cell wV;clear hs5 h5 h4 wV mh Kn VN n4;go_wp2_with fail;refine aU HX.out ?_;rintro e w9 ⟨rfl,hN⟩;obtain⟨g9,n9,u9,t9⟩:=hN;go_wp2;go_returns;exact⟨rfl,g9,n9,yD.trans u9,t9.out.trans (t5.out.trans t4.out)⟩
    ·rw[aQ rfl]at hs3;have hyn:=qY rfl;have hwt:wrap64 (p.ttl - 1)=p.ttl - 1:=by
      have:=hq.ttl;unfold wrap64;omega
     have hbC:w.heap.size<=C:=by rw[l8.out];exact aD _
     have mh:PB ({p with ttl:=p.ttl - 1}:aF) C (W2.setCell ⟨C,0,none⟩ (.int .i64 (p.ttl - 1))):=hP2.pq (p.ttl - 1);have hb4:Below w.heap.size w (W2.setCell ⟨C,0,none⟩ (.int .i64 (p.ttl - 1))):=hbb.setCell (p:=⟨C,0,none⟩) hbC _;have Kn:dS E y (.slice ao y.bH.length c) (W2.setCell ⟨C,0,none⟩ (.int .i64 (p.ttl - 1))):=(iV _ _ _ _ (Ne.symm hCE)).trans hE2;have n4:=n.later hb4;have hwf:({p with ttl:=p.ttl - 1}:aF).Wf:=by
      have h1:=hq.ttl;refine {hp with V6:=?_,V5:=?_}<;>(dsimp only;omega)
     have HS:=hide (Bu n4 y.next ({p with ttl:=p.ttl - 1}:aF) hwf [] (hL.below hb4) hfl);obtain⟨s6,hs6⟩:∃z,s.send y.next ({p with ttl:=p.ttl - 1}:aF) []=z:=⟨_,rfl⟩;rw[hs6]at HS;dsimp only[aF.val]at HS;have h6:Hid (s6.now=s.now∧ {s6 with A:=iP (iP s6.A p.dest (s.now+3000)) p.aK (s.now+3000)}=s2):=by
      show _∧_;rw[<-hs6];exact⟨rfl,hs3⟩
     clear hs3 hs6;obtain⟨p0,p1,p2,p3,p4,p5,p6,p7,p8,p9,jL,jF⟩:=PB.cell hP2;have f0:=PB.free hP2 0;clear n2 hP2 hE2 hbb Jf;go_upto_region 11 with(fail);generalize World.setCell _ _ _=W4 at mh hb4 Kn n4 HS ⊢;clear p0 p1 p2 p3 p4 p5 p6 p7 p8 p9 jL jF f0;obtain⟨p0,p1,p2,p3,p4,p5,p6,p7,p8,p9,jL,jF⟩:=PB.cell mh;obtain⟨e0,e1,e2,e3,e4,e5,e6⟩:=Kn.cell;dsimp only at p0 p1 p2 p3 p4 p5 p6 p7 p8 p9 jL jF;clear htl;go_wp2_with fail;refine aU HS.out ?_;rintro e w6 ⟨rfl,hN⟩;obtain⟨g6,n6,u6,t6⟩:=hN;clear p0 p1 p2 p3 p4 p5 p6 p7 p8 p9 jL jF e0 e1 e2 e3 e4 e5 e6 HS;obtain⟨Jl,kR⟩:=u6.kG mh kL;obtain⟨Yc,Ug⟩:=u6.keepR Kn Ya;have nL:Up B (Ft N g s) (Ft N g6 s6) w w6:=(Up.below hb4).trans u6;clear mh Kn n4 u6 hb4;have VF:0<=s6.now∧s6.now<=4611686018427387904:=by rw[h6.out.1];exact fK
     have HV:Hid (∀t,t=s6.now+3000->Calls Tryz.prog 81 #[.pointer (some ⟨g6.x.T,0,none⟩),.int .u32 p.dest,.int .u64 t] w6.drew λr w'=>r=.returned (.tuple #[])∧l5 N B g6 s6 {s6 with A:=iP s6.A p.dest (s6.now+3000)} TL w6.drew w'):=by
      rintro _ rfl;exact Nw n6.drew p.dest (s6.now+3000) hde (by unfold Bg;omega)
     have hS:HR N B g6.x.T C E s6.me s6.seq s6.cO s6.now ({p with ttl:=p.ttl - 1}:aF) y (.slice ao y.bH.length c) w6.drew:=HR.jX n6 Jl Yc rfl rfl rfl rfl rfl;go_wp2_with fail;go_region_held3 (HR N B g6.x.T C E s6.me s6.seq s6.cO s6.now ({p with ttl:=p.ttl - 1}:aF) y (.slice ao y.bH.length c)) (first|with_reducible exact hS|with_reducible assumption) ((go_at_call 81;refine(HV.out _ (by first|rfl|exact mP VF (by decide))).mono ?_;rintro e w7 ⟨rfl,hN⟩;obtain⟨g7,n7,u7,t7⟩:=hN;obtain⟨X3,Ph⟩:=u7.kG Jl kR;obtain⟨Yb,Pf⟩:=u7.keepR Yc Ug;have hk7:HR N B g6.x.T C E s6.me s6.seq s6.cO s6.now ({p with ttl:=p.ttl - 1}:aF) y (.slice ao y.bH.length c) w7:=HR.at n7 X3 Yb t7.out rfl rfl rfl rfl))
     clear hS hk7;rename_i iR;clear iR;clear HV;have ua7:=(nL.trans (.below (aV _ _).drew)).trans u7;obtain⟨s7,hs7⟩:∃z,({s6 with A:=iP s6.A p.dest (s6.now+3000)}:St)=z:=⟨_,rfl⟩;have h7:Hid (s7.now=s.now∧ {s7 with A:=iP s7.A p.aK (s7.now+3000)}=s2):=by
      show _∧_;rw[<-hs7];have e:=h6.out.2;rw[<-h6.out.1]at e;exact⟨h6.out.1,e⟩
     rw[hs7]at n7 ua7 Ph Pf;clear hs7 nL u7 n6 Jl Yc kR Ug h6;have hn7:0<=s7.now∧s7.now<=4611686018427387904:=by rw[h7.out.1];exact fK
     have HV:Hid (∀t,t=s7.now+3000->Calls Tryz.prog 81 #[.pointer (some ⟨g7.x.T,0,none⟩),.int .u32 p.aK,.int .u64 t] w7.drew λr w'=>r=.returned (.tuple #[])∧l5 N B g7 s7 s2 TL w7.drew w'):=by
      rintro _ rfl;have:=Nw n7.drew p.aK (s7.now+3000) hfr (by unfold Bg;omega);rw[h7.out.2]at this;exact this
     have hsm:Hid (s2.me=s7.me∧s2.seq=s7.seq∧s2.cO=s7.cO∧s2.now=s7.now):=by
      show _∧_;rw[<-h7.out.2];exact⟨rfl,rfl,rfl,rfl⟩
     have hS:HR N B g7.x.T C E s7.me s7.seq s7.cO s7.now ({p with ttl:=p.ttl - 1}:aF) y (.slice ao y.bH.length c) w7.drew:=HR.jX n7 X3 Yb rfl rfl rfl rfl rfl;go_wp2_with fail;go_region_held3 (HR N B g7.x.T C E s7.me s7.seq s7.cO s7.now ({p with ttl:=p.ttl - 1}:aF) y (.slice ao y.bH.length c)) (first|with_reducible exact hS|with_reducible assumption) ((go_at_call 81;refine(HV.out _ (by first|rfl|exact mP hn7 (by decide))).mono ?_;rintro e w8 ⟨rfl,hN⟩;obtain⟨g8,n8,u8,t8⟩:=hN;obtain⟨Kk,abA⟩:=u8.kG X3 Ph;obtain⟨Ui,abz⟩:=u8.keepR Yb Pf;have hk8:HR N B g7.x.T C E s7.me s7.seq s7.cO s7.now ({p with ttl:=p.ttl - 1}:aF) y (.slice ao y.bH.length c) w8:=HR.at n8 Kk Ui t8.out hsm.out.1 hsm.out.2.1 hsm.out.2.2.1 hsm.out.2.2.2))
     clear hS hk8;rename_i iR;clear iR;have Vx:=(ua7.trans (.below (aV _ _).drew)).trans u8;have ta:g8.x.T=g.x.T:=t8.out.trans (t7.out.trans t6.out);clear X3 Yb Kk Ui;go_wp2;go_returns;exact⟨rfl,g8,n8,Vx,ta⟩
end Go.Proofs.YtakaadcpaeiccabGreat
