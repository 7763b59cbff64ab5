import Derived.Test.YtakaadcpaeiccabGreatC15
set_option maxHeartbeats 8000000
set_option maxRecDepth 100000
namespace Go.Proofs.YtakaadcpaeiccabGreat
open Go.RowKit Go.Maps
variable{B C N:Nat}{p:aF}{s:St}{W:World}
theorem qQ(s:St)(p:aF):Bn s (s.answer p)∧(s.answer p).now=s.now:=by
 unfold St.answer;split
 ·exact⟨tX _ _ _ _,rfl⟩
 ·exact⟨tY _ _,rfl⟩
theorem HC.next{g g':bI}{s':St}{dR:List Hp.Tm}(n:Nd N B g' s' dR W)(h:PB p C W)(t:g'.x.T=g.x.T)(h1:s'.me=s.me)(h2:s'.seq=s.seq)(h3:s'.cZ=s.cZ)(h4:s'.now=s.now):HC N B g.x.T C s.me s.seq s.cZ s.now p W:=by
 have:=HC.of n h;rw[t,h1,h2,h3,h4]at this;exact this
theorem Nd.drew{g:bI}{TL:List Hp.Tm}(n:Nd N B g s TL W):Nd N B g s TL W.drew:=n.later (aV _ _).drew
theorem HC.xw{g:bI}{TL:List Hp.Tm}(n:Nd N B g s TL W)(h:PB p C W):HC N B g.x.T C s.me s.seq s.cZ s.now p W.drew:=HC.of n.drew h
theorem D7{hops d q fm life:Int}(hh:o6 hops)(hd:bB d)(hq:bB q)(hf:bB fm)(hl:bB life):(St.uf hops d q fm life).Wf:=by
 have hz:(⟨#[]⟩:ByteArray).size=0:=rfl;unfold bB at hd hq hf hl;unfold o6 at hh;constructor<;>(dsimp only[St.uf];omega)
theorem JL(W:World)(hops d q fm life:Int):fI W (St.uf hops d q fm life) []:=⟨rfl,λj hj=>by simp at hj⟩
theorem vX{g:bI}{TL:List Hp.Tm}{w:World}(n:Nd N B g s TL w)(p:aF)(hq:p.Hd)(hme:bB s.me)(Tq:bB s.seq)(hfl:s.aL.length<=1000000)(hdl:s.aT.length<=1000000):
  Calls Tryz.prog 163 #[.pointer (some ⟨N,0,none⟩),.pointer (some ⟨B,0,none⟩),p.val] w λe w'=>e=.returned (.tuple #[])∧l6 N B g s (s.jc p) TL w w':=by
 have hp:=hq.wf;obtain⟨_,hde,hds,hfr,_,_⟩:=hp.num;have hb0:Below w.heap.size w (w.alloc p.box):=bq;have gT:=PB.new p w;have n0:=n.later hb0;have hmx:bB (max s.seq p.a_):=by
  unfold bB at Tq hds ⊢;omega
 obtain⟨s2,dD⟩:∃s2,s.jc p=s2:=⟨_,rfl⟩;rw[dD];replace dD:=(show Hid _ from dD);dsimp only[aF.box]at hb0 n0;unfold PB at gT;dsimp only[aF.box]at gT;go_enter Tryz.func163,Tryz.ntmps163;go_upto_region 1 with(fail);generalize World.alloc _ _=W1 at hb0 gT n0 ⊢;have kM:=n.new (k:=w.heap.size) (aD _);generalize w.heap.size=C at gT kM ⊢;obtain⟨p0,p1,p2,p3,p4,p5,p6,p7,p8,p9,jM,jG⟩:=PB.cell gT;obtain⟨m0,m1,m2,m3,m4⟩:=n0.cell;have f3:=n0.nn.cr.nd.free 3;have hg1:W1.grownBy (W1.setCell ⟨N,3,none⟩ (.int .u32 (max s.seq p.a_))) (some N):=ah (aC _ (some N)) 3 _;obtain⟨e1,e2,e3,e4,e5,e6,e7,e8,e9⟩:=n0.nn.eq;obtain⟨n1,u1⟩:=n0.cells (s':={s with seq:=max s.seq p.a_}) (n0.nn.cr.nd.Q8 (max s.seq p.a_)) (Fx.grown hg1 λk e=>by cases e;rfl) ⟨e1,rfl,e3,e4,e5,e6,e7,e8,e9⟩ ⟨rfl,rfl,rfl,rfl,rfl,rfl⟩ ⟨rfl,rfl,rfl,rfl,rfl,rfl,rfl,rfl,rfl⟩ ⟨rfl,rfl,rfl,rfl,rfl⟩;obtain⟨hP1,hnC⟩:=u1.keep gT kM (Ec p);go_region
 have n2:=n1.drew;have hP2:PB p C (W1.setCell ⟨N,3,none⟩ (.int .u32 (max s.seq p.a_))).drew:=hP1;have u2:=(u1.trans (.below (aV _ _).drew):Up B _ _ W1 (W1.setCell ⟨N,3,none⟩ (.int .u32 (max s.seq p.a_))).drew);have t2:({g with x:={g.x with seq:=max s.seq p.a_}}:bI).x.T=g.x.T:=rfl;generalize ({g with x:={g.x with seq:=max s.seq p.a_}}:bI)=g2 at n2 u2 t2 hnC;clear n1 hP1 u1 hg1 e1 e2 e3 e4 e5 e6 e7 e8 e9 p0 p1 p2 p3 p4 p5 p6 p7 p8 p9 jM jG m0 m1 m2 m3 m4 f3 gT n0;generalize World.drew _=W2 at n2 hP2 u2 ⊢;have hs2:=dD.out;unfold St.jc at hs2;generalize max s.seq p.a_=q at hs2 n2 u2 hmx hnC ⊢;have hsm:=qQ {s with seq:=q} (St.uf 0 s.me q p.aK 6000);have HA:=hide (Bw n2.drew (St.uf 0 s.me q p.aK 6000) (D7 (by unfold o6;omega) hme hmx hfr (by unfold bB;omega)) (JL _ _ _ _ _ _) hfl hdl);rw[hs2]at HA hsm;dsimp only[aF.val,St.uf]at HA;have hS:=HC.xw n2 hP2;go_wp2_with fail;go_region_held3 (HC N B g2.x.T C s.me q s.cZ s.now p) (first|with_reducible exact hS|with_reducible assumption) ((go_at_call 181;refine HA.out.mono ?_;rintro e w3 ⟨rfl,hN⟩;obtain⟨g3,n3,u3,t3⟩:=hN;have hk3:=HC.next n3 (u3.box hP2 hnC) t3.out hsm.1.1 hsm.1.2.1 hsm.1.2.2.1 hsm.2))
 go_wp2;go_returns;exact⟨rfl,l6.pre hb0 ⟨g3,n3,(u2.trans (.below (aV _ _).drew)).trans u3,t3.out.trans t2⟩⟩
variable{seq cZ:Int}{B C N T:Nat}{F F':Nat->Prop}{p:aF}{y:Rt}{s:St}{v:Value}{W a b:World}
theorem WQ(y:Rt)(v:Value):oH (b_ y v):=⟨λc e=>(by cases e),λc e=>(by cases e),λc e=>(by cases e),λc e=>(by cases e),λc e=>(by cases e)⟩
@[reducible] def HR(N B T C D : Nat)(me seq cZ now : Int)(p : aF)(y : Rt)(v : Value)(W : World): Prop :=
 HC N B T C me seq cZ now p W∧W.cell? ⟨D,0,none⟩=some (.int .u32 y.dest)∧W.cell? ⟨D,1,none⟩=some (.int .u32 y.seq)∧W.cell? ⟨D,2,none⟩=some (.int .i64 y.hops)∧W.cell? ⟨D,3,none⟩=some (.int .u32 y.next)∧W.cell? ⟨D,4,none⟩=some (.bool y.valid)∧W.cell? ⟨D,5,none⟩=some (.int .u64 y.exp)∧W.cell? ⟨D,6,none⟩=some v
theorem HC.at{g:bI}{TL:List Hp.Tm}{me now:Int}(n:Nd N B g s TL W)(h:PB p C W)(t:g.x.T=T)(h1:s.me=me)(h2:s.seq=seq)(h3:s.cZ=cZ)(h4:s.now=now):HC N B T C me seq cZ now p W:=by
 subst t h1 h2 h3 h4;exact HC.of n h
theorem HR.at{D:Nat}{g:bI}{TL:List Hp.Tm}{me now:Int}(n:Nd N B g s TL W)(h:PB p C W)(hD:dS D y v W)(t:g.x.T=T)(h1:s.me=me)(h2:s.seq=seq)(h3:s.cZ=cZ)(h4:s.now=now):HR N B T C D me seq cZ now p y v W:=⟨HC.at n h t h1 h2 h3 h4,hD.cell⟩
theorem HR.jY{D:Nat}{g:bI}{TL:List Hp.Tm}{me now:Int}(n:Nd N B g s TL W)(h:PB p C W)(hD:dS D y v W)(t:g.x.T=T)(h1:s.me=me)(h2:s.seq=seq)(h3:s.cZ=cZ)(h4:s.now=now):HR N B T C D me seq cZ now p y v W.drew:=HR.at n.drew h hD t h1 h2 h3 h4
theorem MK(a b:Int):IntKind.u32.wrap (IntKind.u64.wrap (a - b))=(a - b)%4294967296:=by
 simp only[IntKind.wrap,IntKind.signed,IntKind.bits];simp
theorem G_{l:Int}{h d q f:Int}{Q:Ending->World->Prop}(H:Hid (Calls Tryz.prog 181 #[.pointer (some ⟨N,0,none⟩),.pointer (some ⟨B,0,none⟩),.agg #[.int .i64 0,.int .i64 0,.int .i64 h,.bool false,.int .u32 0,.int .u32 d,.int .u32 q,.int .u32 f,.int .u32 0,.int .u32 l,.slice none 0 0,.string ⟨#[]⟩]] W Q)):
  Hid (∀l',l'=l->Calls Tryz.prog 181 #[.pointer (some ⟨N,0,none⟩),.pointer (some ⟨B,0,none⟩),.agg #[.int .i64 0,.int .i64 0,.int .i64 h,.bool false,.int .u32 0,.int .u32 d,.int .u32 q,.int .u32 f,.int .u32 0,.int .u32 l',.slice none 0 0,.string ⟨#[]⟩]] W Q):=by
 rintro _ rfl;exact H
theorem Up.kH(u:Up B F F' a b)(h:PB p C a)(hn:¬F C):PB p C b∧¬F' C:=u.keep h hn (Ec p)
theorem Up.keepR{D:Nat}(u:Up B F F' a b)(h:dS D y v a)(hn:¬F D):dS D y v b∧¬F' D:=u.keep h hn (WQ y v)
theorem oP{A:List Rt}(hA:∀y∈A,y.Ok)(d now:Int):(bN A d now).1.Ok∨(bN A d now).2=false:=by
 unfold bN;cases hl:aJ A d with
 |none=>exact .inr rfl
 |some y=>
  by_cases hc:(y.valid&&decide (now<y.exp))=true
  ·left;have:=hA y (bR hl).1
   simp_all
  ·right;by_cases hv:y.valid=true
   ·by_cases he:now<y.exp
    ·simp[hv,he]at hc
    ·simp[hv,he]
   ·simp[hv]
theorem tC{g:bI}{TL:List Hp.Tm}{w:World}(n:Nd N B g s TL w)(p:aF)(hq:p.Hd)(r:Rt)(hr:r.Ok)(ra:Option Addr)(rn rc:Nat)(agf:Bh s.now)(hfl:s.aL.length<=1000000)(hdl:s.aT.length<=1000000):
  Calls Tryz.prog 164 #[.pointer (some ⟨N,0,none⟩),.pointer (some ⟨B,0,none⟩),p.val,Ji r (.slice ra rn rc)] w λe w'=>e=.returned (.tuple #[])∧l6 N B g s (s.iD p r) TL w w':=by
 have hp:=hq.wf;obtain⟨_,hde,hds,hfr,_,_⟩:=hp.num;have hb0:Below w.heap.size w ((w.alloc p.box).alloc (b_ r (.slice ra rn rc))):=(bq).alloc (by simp) _;have gT:PB p w.heap.size ((w.alloc p.box).alloc (b_ r (.slice ra rn rc))):=(((aV _ (w.alloc p.box)).alloc (aD _) _).block _ (by simp)).trans (PB.new p w);have hR0:dS (w.heap.size+1) r (.slice ra rn rc) ((w.alloc p.box).alloc (b_ r (.slice ra rn rc))):=by
  have:=bS (w.alloc p.box) (b_ r (.slice ra rn rc));rw[World.size_alloc]at this;exact this
 have n0:=n.later hb0;obtain⟨s2,dD⟩:∃s2,s.iD p r=s2:=⟨_,rfl⟩;rw[dD];replace dD:=hide dD;dsimp only[aF.box,b_]at hb0 n0;unfold PB at gT;unfold dS at hR0;dsimp only[aF.box,b_]at gT hR0;go_enter Tryz.func164,Tryz.ntmps164;go_upto_region 1 with(fail);generalize World.alloc (World.alloc _ _) _=W1 at hb0 gT hR0 n0 ⊢;have kM:=n.new (k:=w.heap.size) (aD _);have hRn:=n.new (k:=w.heap.size+1) (Nat.le_succ _);obtain⟨⟨y,fd⟩,hy⟩:∃r,bN s.A p.aK s.now=r:=⟨_,rfl⟩;have qZ:fd=true->bB y.next:=λh=>by
  have:=oP n.nn.cr.tb.ok p.aK s.now;rw[hy]at this;rcases this with h1|h1
  ·exact h1.next
  ·rw[h]at h1;cases h1
 have HF:=hide (nW n0 p.aK s.now hfr hy);generalize l9:w.heap.size=C at gT hR0 kM hRn ⊢;replace l9:=hide l9;go_cut [8,9]from 10 to 23 (om y fd W1)
 case first=>
  have hS:HB N B g.x.T C s.me s.seq s.cZ s.now p W1 W1.drew:=HB.drew (HB.mk' n0 gT (aV _ _));have hkB:=hide λW5 h5=>HB.mk' (W:=W5) n0 gT h5;go_region_held3 (HB N B g.x.T C s.me s.seq s.cZ s.now p W1) (first|with_reducible exact hS|with_reducible assumption|(with_reducible apply HB.vG hkB;assumption)|(with_reducible apply HB.kI hkB;assumption)|(with_reducible apply HB.eP hkB)|(with_reducible apply hkB.out;assumption)) ((go_at_call 79;refine(HF.out _ (And.right (by assumption))).mono ?_;rintro e w2 ⟨ao,c,rfl,hb2,hpr⟩;try ((with_reducible have hD:=hpr bW (.slice none 0 0) (lK W1));obtain⟨d0,d1,d2,d3,d4,d5,d6⟩:=hD.cell;have q0:=hD.free 0;have q1:=hD.free 1;have q2:=hD.free 2;have q3:=hD.free 3;have q4:=hD.free 4;have q5:=hD.free 5;have q6:=hD.free 6;have hD':Hid (dS W1.heap.size bW (.slice none 0 0) w2):=hD;clear hD);clear hpr))
  all_goals
   go_wp2_with fail;go_meet;first|with_reducible exact iC hb2|with_reducible exact j4 hb2 hD'
 case rest=>
  obtain⟨E,ao,c,rfl,rfl,hE,hEl,hb2⟩:=hcut;have Yb:¬Ft N g s E:=n0.new hEl;have n2:=n0.later hb2;have hP2:=PB.below gT hb2;have hR2:dS (C+1) r (.slice ra rn rc) wc:=dS.later hR0 hb2;have hbb:=hb0.trans (hb2.mono hb0.size);have hs2:=dD.out;unfold St.iD at hs2;rw[hy]at hs2;dsimp only at hs2;clear HF gT hR0 n0 hb0 hb2 dD;cases fd
  ·rw[aM (by simp)]at hs2;have HB4:=hide (rP n2.drew p.aK r.next hfr hr.next);have hS:HR N B g.x.T C (C+1) s.me s.seq s.cZ s.now p r (.slice ra rn rc) wc.drew:=HR.jY n2 hP2 hR2 rfl rfl rfl rfl rfl;go_wp2_with fail;go_region_held3 (HR N B g.x.T C (C+1) s.me s.seq s.cZ s.now p r (.slice ra rn rc)) (first|with_reducible exact hS|with_reducible assumption) ((go_at_call 182;refine HB4.out.mono ?_;rintro e w4 ⟨rfl,hN⟩;obtain⟨g4,n4,u4,t4⟩:=hN;obtain⟨mq,rC⟩:=u4.kH hP2 kM;obtain⟨M9,abt⟩:=u4.keepR hR2 hRn;have hk4:HR N B g.x.T C (C+1) s.me s.seq s.cZ s.now p r (.slice ra rn rc) w4:=HR.at n4 mq M9 t4.out rfl rfl rfl rfl))
   clear hS hk4;rename_i iT;clear iT;clear HB4;have hsm:=qQ {s with A:=lY s.A p.aK r.next} (St.uf r.hops p.dest r.seq p.aK ((r.exp - s.now)%4294967296));have HA:=hide (Bw n4.drew (St.uf r.hops p.dest r.seq p.aK ((r.exp - s.now)%4294967296)) (D7 hr.hops hde hr.seq hfr (by unfold bB;omega)) (JL _ _ _ _ _ _) hfl hdl);rw[hs2]at HA hsm;dsimp only[aF.val,St.uf]at HA;have HA':=G_ HA;clear HA;have hS:HR N B g4.x.T C (C+1) s.me s.seq s.cZ s.now p r (.slice ra rn rc) w4.drew:=HR.jY n4 mq M9 rfl rfl rfl rfl rfl;go_wp2_with fail;go_region_held3 (HR N B g4.x.T C (C+1) s.me s.seq s.cZ s.now p r (.slice ra rn rc)) (first|with_reducible exact hS|with_reducible assumption) ((go_at_call 181;refine(HA'.out _ (by first|exact MK _ _|exact SA _ _|rfl)).mono ?_;rintro e w5 ⟨rfl,hN⟩;obtain⟨g5,n5,u5,t5⟩:=hN;obtain⟨wW,ad5⟩:=u5.kH mq rC;obtain⟨VI,afA⟩:=u5.keepR M9 abt;have hk5:HR N B g4.x.T C (C+1) s.me s.seq s.cZ s.now p r (.slice ra rn rc) w5:=HR.at n5 wW VI t5.out hsm.1.1 hsm.1.2.1 hsm.1.2.2.1 hsm.2))
   clear hS hk5;rename_i iT;clear iT;go_wp2;go_returns;exact⟨rfl,l6.pre hbb ⟨g5,n5,(Up.trans (.below (aV _ _).drew) u4).trans (Up.trans (.below (aV _ _).drew) u5),t5.out.trans t4.out⟩⟩
  ·rw[aQ rfl]at hs2;have hny:=qZ rfl;obtain⟨e0,e1,e2,e3,e4,e5,e6⟩:=hE.cell;have HB3:=hide (rP n2.drew p.dest y.next hde hny);have hS:HR N B g.x.T C E s.me s.seq s.cZ s.now p y (.slice ao y.bH.length c) wc.drew:=HR.jY n2 hP2 hE rfl rfl rfl rfl rfl;go_wp2_with fail;go_region_held3 (HR N B g.x.T C E s.me s.seq s.cZ s.now p y (.slice ao y.bH.length c)) (first|with_reducible exact hS|with_reducible assumption) ((go_at_call 182;refine HB3.out.mono ?_;rintro e w3 ⟨rfl,hN⟩;obtain⟨g3,n3,u3,t3⟩:=hN;obtain⟨hP3,Pk⟩:=u3.kH hP2 kM;obtain⟨Pe,adN⟩:=u3.keepR hR2 hRn;obtain⟨hE3,Ui⟩:=u3.keepR hE Yb;have hk3:HR N B g.x.T C E s.me s.seq s.cZ s.now p y (.slice ao y.bH.length c) w3:=HR.at n3 hP3 hE3 t3.out rfl rfl rfl rfl))
   clear hS hk3;rename_i iT;clear iT;clear e0 e1 e2 e3 e4 e5 e6 HB3 hE hP2 hR2;obtain⟨s1,hs1⟩:∃s1,({s with A:=lY s.A p.dest y.next}:St)=s1:=⟨_,rfl⟩;have wT:({s1 with A:=lY s1.A p.aK r.next}:St).answer (St.uf r.hops p.dest r.seq p.aK ((r.exp - s1.now)%4294967296))=s2:=by
    rw[<-hs1];exact hs2
   have Av:s1.aL.length<=1000000:=by rw[<-hs1];exact hfl
   have EM:s1.aT.length<=1000000:=by rw[<-hs1];exact hdl
   rw[hs1]at n3 u3 Pk adN;clear hs2 hs1 Ui;have hs2:=wT;clear wT;have HB4:=hide (rP n3.drew p.aK r.next hfr hr.next);have hS:HR N B g3.x.T C (C+1) s1.me s1.seq s1.cZ s1.now p r (.slice ra rn rc) w3.drew:=HR.jY n3 hP3 Pe rfl rfl rfl rfl rfl;go_wp2_with fail;go_region_held3 (HR N B g3.x.T C (C+1) s1.me s1.seq s1.cZ s1.now p r (.slice ra rn rc)) (first|with_reducible exact hS|with_reducible assumption) ((go_at_call 182;refine HB4.out.mono ?_;rintro e w4 ⟨rfl,hN⟩;obtain⟨g4,n4,u4,t4⟩:=hN;obtain⟨mq,rC⟩:=u4.kH hP3 Pk;obtain⟨M9,abt⟩:=u4.keepR Pe adN;have hk4:HR N B g3.x.T C (C+1) s1.me s1.seq s1.cZ s1.now p r (.slice ra rn rc) w4:=HR.at n4 mq M9 t4.out rfl rfl rfl rfl))
   clear hS hk4;rename_i iT;clear iT;clear HB4;have hsm:=qQ {s1 with A:=lY s1.A p.aK r.next} (St.uf r.hops p.dest r.seq p.aK ((r.exp - s1.now)%4294967296));have HA:=hide (Bw n4.drew (St.uf r.hops p.dest r.seq p.aK ((r.exp - s1.now)%4294967296)) (D7 hr.hops hde hr.seq hfr (by unfold bB;omega)) (JL _ _ _ _ _ _) Av EM);rw[hs2]at HA hsm;dsimp only[aF.val,St.uf]at HA;have HA':=G_ HA;clear HA;have hS:HR N B g4.x.T C (C+1) s1.me s1.seq s1.cZ s1.now p r (.slice ra rn rc) w4.drew:=HR.jY n4 mq M9 rfl rfl rfl rfl rfl;go_wp2_with fail;go_region_held3 (HR N B g4.x.T C (C+1) s1.me s1.seq s1.cZ s1.now p r (.slice ra rn rc)) (first|with_reducible exact hS|with_reducible assumption) ((go_at_call 181;refine(HA'.out _ (by first|exact MK _ _|exact SA _ _|rfl)).mono ?_;rintro e w5 ⟨rfl,hN⟩;obtain⟨g5,n5,u5,t5⟩:=hN;obtain⟨wW,ad5⟩:=u5.kH mq rC;obtain⟨VI,afA⟩:=u5.keepR M9 abt;have hk5:HR N B g4.x.T C (C+1) s1.me s1.seq s1.cZ s1.now p r (.slice ra rn rc) w5:=HR.at n5 wW VI t5.out hsm.1.1 hsm.1.2.1 hsm.1.2.2.1 hsm.2))
   clear hS hk5;rename_i iT;clear iT;go_wp2;go_returns;exact⟨rfl,l6.pre hbb ⟨g5,n5,((Up.trans (.below (aV _ _).drew) u3).trans (Up.trans (.below (aV _ _).drew) u4)).trans (Up.trans (.below (aV _ _).drew) u5),t5.out.trans (t4.out.trans t3.out)⟩⟩
theorem fI.nil{W W':World}{p:aF}(h:fI W p []):fI W' p []:=⟨h.1,λj hj=>by simp at hj⟩
theorem mQ{a c:Int}(h:0<=a∧a<=4611686018427387904)(hc:0<=c∧c<=8589934592):IntKind.u64.wrap (a+c)=a+c:=by
 simp only[IntKind.wrap,IntKind.signed,IntKind.bits];simp;omega
theorem Qe{N B:Nat}{g:bI}{s:St}{TL:List Hp.Tm}{w:World}(n:Nd N B g s TL w)(fr:Int)(O8:bB fr)(p:aF)(hq:p.Hd)(hL:fI w p [])(fM:0<=s.now∧s.now<=4611686018427387904)(hfl:s.aL.length<=1000000)(hdl:s.aT.length<=1000000):
  Calls Tryz.prog 166 #[.pointer (some ⟨N,0,none⟩),.pointer (some ⟨B,0,none⟩),.int .u32 fr,p.val] w λe w'=>e=.returned (.tuple #[])∧l6 N B g s (s.iN fr p) TL w w':=by
 have hp:=hq.wf;obtain⟨hid,hde,hds,hfr,hfs,_⟩:=hp.num;have hb0:Below w.heap.size w (w.alloc p.box):=bq;have gT:=PB.new p w;have n0:=n.later hb0;obtain⟨s2,dD⟩:∃s2,s.iN fr p=s2:=⟨_,rfl⟩;rw[dD];have hs2:=dD;replace dD:=hide dD;unfold St.iN at hs2;replace hs2:=hide hs2;dsimp only[aF.box]at hb0 n0;unfold PB at gT;dsimp only[aF.box]at gT;go_enter Tryz.func166,Tryz.ntmps166;go_upto_region 1 with(fail);generalize World.alloc _ _=W1 at hb0 gT n0 ⊢;have kM:=n.new (k:=w.heap.size) (aD _);obtain⟨⟨y,fd⟩,hy⟩:∃r,bN s.A p.aK s.now=r:=⟨_,rfl⟩;have HF:=hide (nW n0 p.aK s.now hfr hy);generalize l9:w.heap.size=C at gT kM ⊢;replace l9:=hide l9;go_cut [8,9]from 10 to 23 (om y fd W1)
 case first=>
  have hS:HB N B g.x.T C s.me s.seq s.cZ s.now p W1 W1.drew:=HB.drew (HB.mk' n0 gT (aV _ _));have hkB:=hide λW5 h5=>HB.mk' (W:=W5) n0 gT h5;go_region_held3 (HB N B g.x.T C s.me s.seq s.cZ s.now p W1) (first|with_reducible exact hS|with_reducible assumption|(with_reducible apply HB.vG hkB;assumption)|(with_reducible apply HB.kI hkB;assumption)|(with_reducible apply HB.eP hkB)|(with_reducible apply hkB.out;assumption)) ((go_at_call 79;refine(HF.out _ (And.right (by assumption))).mono ?_;rintro e w2 ⟨ao,c,rfl,hb2,hpr⟩;try ((with_reducible have hD:=hpr bW (.slice none 0 0) (lK W1));obtain⟨d0,d1,d2,d3,d4,d5,d6⟩:=hD.cell;have q0:=hD.free 0;have q1:=hD.free 1;have q2:=hD.free 2;have q3:=hD.free 3;have q4:=hD.free 4;have q5:=hD.free 5;have q6:=hD.free 6;have hD':Hid (dS W1.heap.size bW (.slice none 0 0) w2):=hD;clear hD);clear hpr))
  all_goals
   go_wp2_with fail;go_meet;first|with_reducible exact iC hb2|with_reducible exact j4 hb2 hD'
 case rest=>
  obtain⟨E,ao,c,rfl,rfl,hE,hEl,hb2⟩:=hcut;have Yb:¬Ft N g s E:=n0.new hEl;have qZ:fd=true->bB y.next:=λh=>by
   have:=oP n.nn.cr.tb.ok p.aK s.now;rw[hy]at this;rcases this with h1|h1
   ·exact h1.next
   ·rw[h]at h1;cases h1
  have n2:=n0.later hb2;have hP2:PB p C wc:=PB.below gT hb2;have hbb:=hb0.trans (hb2.mono hb0.size);have hCE:C≠E:=by have:=PB.lt gT;omega
  have hs3:=hs2.out;rw[hy]at hs3;dsimp only at hs3;clear HF gT n0 hb0 hb2 dD hs2;cases fd
  ·rw[aM (by simp)]at hs3;have HX:=hide (jD n2 3 hdl);rw[hs3]at HX;clear hP2 hE;go_wp2_with fail;refine aU HX.out ?_;rintro e w9 ⟨rfl,hN⟩;go_wp2;go_returns;exact⟨rfl,hN.pre hbb⟩
  ·rw[aQ rfl]at hs3;have hyn:=qZ rfl;have hwt:wrap64 (p.ttl - 1)=p.ttl - 1:=by
    have:=hq.ttl;unfold wrap64;omega
   have hbC:w.heap.size<=C:=by rw[l9.out];exact aD _
   have mq:=hP2.pu (p.ttl - 1);have hb4:Below w.heap.size w (wc.setCell ⟨C,0,none⟩ (.int .i64 (p.ttl - 1))):=hbb.setCell (p:=⟨C,0,none⟩) hbC _;have Ko:dS E y (.slice ao y.bH.length c) (wc.setCell ⟨C,0,none⟩ (.int .i64 (p.ttl - 1))):=(iW _ _ _ _ (Ne.symm hCE)).trans hE;obtain⟨p0,p1,p2,p3,p4,p5,p6,p7,p8,p9,jM,jG⟩:=PB.cell hP2;have f0:=PB.free hP2 0;clear n2 hP2 hE hbb;go_upto_region 5 with(fail);generalize World.setCell _ _ _=W4 at mq hb4 Ko ⊢;clear p0 p1 p2 p3 p4 p5 p6 p7 p8 p9 jM jG f0;obtain⟨p0,p1,p2,p3,p4,p5,p6,p7,p8,p9,jM,jG⟩:=PB.cell mq;have f2:=PB.free mq 2;dsimp only at p0 p1 p2 p3 p4 p5 p6 p7 p8 p9 jM jG;have wW:PB ({p with ttl:=p.ttl - 1,hops:=St.far p.hops}:aF) C (W4.setCell ⟨C,2,none⟩ (.int .i64 (St.far p.hops))):=mq.DZ (St.far p.hops);have hb5:Below w.heap.size w (W4.setCell ⟨C,2,none⟩ (.int .i64 (St.far p.hops))):=hb4.setCell (p:=⟨C,2,none⟩) hbC _;have VO:dS E y (.slice ao y.bH.length c) (W4.setCell ⟨C,2,none⟩ (.int .i64 (St.far p.hops))):=(iW _ _ _ _ (Ne.symm hCE)).trans Ko;have n5:=n.later hb5;have hwf:({p with ttl:=p.ttl - 1,hops:=St.far p.hops}:aF).Wf:=by
    have h1:=hq.ttl;have h2:=hq.hops;refine {hp with V7:=?_,V6:=?_,MX:=?_,MW:=?_}<;>(unfold St.far;dsimp only;omega)
   have HS:=hide (Bv n5 y.next ({p with ttl:=p.ttl - 1,hops:=St.far p.hops}:aF) hwf [] (hL.below hb5) hfl);obtain⟨s6,hs6⟩:∃z,s.send y.next ({p with ttl:=p.ttl - 1,hops:=St.far p.hops}:aF) []=z:=⟨_,rfl⟩;rw[hs6]at HS;dsimp only[aF.val]at HS;have h6:Hid (s6.now=s.now∧s6.A=s.A∧ {s6 with A:=iQ (lY (lY s6.A p.dest y.next) p.aK fr) p.aK (s.now+3000)}=s2):=by
    show _∧_∧_;rw[<-hs6];exact⟨rfl,rfl,hs3⟩
   clear hs3 hs6;go_wp2_with fail;refine aU (vN p.hops hq.hops W4)?_;rintro e w4 ⟨rfl,rfl⟩;clear mq hb4 Ko;go_upto_region 6 with(fail);generalize World.setCell _ _ _=W5 at wW hb5 VO n5 HS ⊢;clear p0 p1 p2 p3 p4 p5 p6 p7 p8 p9 jM jG f2;obtain⟨p0,p1,p2,p3,p4,p5,p6,p7,p8,p9,jM,jG⟩:=PB.cell wW;obtain⟨e0,e1,e2,e3,e4,e5,e6⟩:=VO.cell;dsimp only at p0 p1 p2 p3 p4 p5 p6 p7 p8 p9 jM jG;go_wp2_with fail;refine aU HS.out ?_;rintro e w6 ⟨rfl,hN⟩;obtain⟨g6,n6,u6,t6⟩:=hN;clear p0 p1 p2 p3 p4 p5 p6 p7 p8 p9 jM jG e0 e1 e2 e3 e4 e5 e6 HS;obtain⟨Jo,kS⟩:=u6.kH wW kM;obtain⟨Yd,Uh⟩:=u6.keepR VO Yb;have nM:Up B (Ft N g s) (Ft N g6 s6) w w6:=(Up.below hb5).trans u6;clear wW VO n5 u6 hb5;have HB:=hide (rP n6.drew p.dest y.next hde hyn);have hS:HR N B g6.x.T C E s6.me s6.seq s6.cZ s6.now ({p with ttl:=p.ttl - 1,hops:=St.far p.hops}:aF) y (.slice ao y.bH.length c) w6.drew:=HR.jY n6 Jo Yd rfl rfl rfl rfl rfl;go_wp2_with fail;go_region_held3 (HR N B g6.x.T C E s6.me s6.seq s6.cZ s6.now ({p with ttl:=p.ttl - 1,hops:=St.far p.hops}:aF) y (.slice ao y.bH.length c)) (first|with_reducible exact hS|with_reducible assumption) ((go_at_call 182;refine(HB.out).mono ?_;rintro e w7 ⟨rfl,hN⟩;obtain⟨g7,n7,u7,t7⟩:=hN;obtain⟨X4,Pj⟩:=u7.kH Jo kS;obtain⟨Yc,Pg⟩:=u7.keepR Yd Uh;have hk7:HR N B g6.x.T C E s6.me s6.seq s6.cZ s6.now ({p with ttl:=p.ttl - 1,hops:=St.far p.hops}:aF) y (.slice ao y.bH.length c) w7:=HR.at n7 X4 Yc t7.out rfl rfl rfl rfl))
   clear hS hk7;rename_i iT;clear iT;clear HB;have ua7:=(nM.trans (.below (aV _ _).drew)).trans u7;obtain⟨s7,hs7⟩:∃z,({s6 with A:=lY s6.A p.dest y.next}:St)=z:=⟨_,rfl⟩;have h7:Hid (s7.now=s.now∧ {s7 with A:=iQ (lY s7.A p.aK fr) p.aK (s.now+3000)}=s2):=by
    show _∧_;rw[<-hs7];exact⟨h6.out.1,h6.out.2.2⟩
   rw[hs7]at n7 ua7 Pj Pg;clear hs7 nM u7 n6 Jo Yd kS Uh h6;have HB:=hide (rP n7.drew p.aK fr hfr O8);have hS:HR N B g7.x.T C E s7.me s7.seq s7.cZ s7.now ({p with ttl:=p.ttl - 1,hops:=St.far p.hops}:aF) y (.slice ao y.bH.length c) w7.drew:=HR.jY n7 X4 Yc rfl rfl rfl rfl rfl;go_wp2_with fail;go_region_held3 (HR N B g7.x.T C E s7.me s7.seq s7.cZ s7.now ({p with ttl:=p.ttl - 1,hops:=St.far p.hops}:aF) y (.slice ao y.bH.length c)) (first|with_reducible exact hS|with_reducible assumption) ((go_at_call 182;refine(HB.out).mono ?_;rintro e w8 ⟨rfl,hN⟩;obtain⟨g8,n8,u8,t8⟩:=hN;obtain⟨Kl,abB⟩:=u8.kH X4 Pj;obtain⟨Uj,abA⟩:=u8.keepR Yc Pg;have hk8:HR N B g7.x.T C E s7.me s7.seq s7.cZ s7.now ({p with ttl:=p.ttl - 1,hops:=St.far p.hops}:aF) y (.slice ao y.bH.length c) w8:=HR.at n8 Kl Uj t8.out rfl rfl rfl rfl))
   clear hS hk8;rename_i iT;clear iT;clear HB;have Vy:=(ua7.trans (.below (aV _ _).drew)).trans u8;obtain⟨s8,hs8⟩:∃z,({s7 with A:=lY s7.A p.aK fr}:St)=z:=⟨_,rfl⟩;have h8:Hid (s8.now=s.now∧ {s8 with A:=iQ s8.A p.aK (s.now+3000)}=s2):=by
    show _∧_;rw[<-hs8];exact⟨h7.out.1,h7.out.2⟩
   rw[hs8]at n8 Vy abB abA;clear hs8 ua7 u8 n7 X4 Yc Pj Pg h7;have HV:Hid (∀t,t=s8.now+3000->Calls Tryz.prog 81 #[.pointer (some ⟨g8.x.T,0,none⟩),.int .u32 p.aK,.int .u64 t] w8.drew λr w'=>r=.returned (.tuple #[])∧l6 N B g8 s8 s2 TL w8.drew w'):=by
    rintro _ rfl;have:=Ny n8.drew p.aK (s8.now+3000) hfr (by have:=h8.out.1;unfold Bh;omega);rw[show({s8 with A:=iQ s8.A p.aK (s8.now+3000)}:St)=s2 from by have e:=h8.out.2;rw[<-h8.out.1]at e;exact e]at this;exact this
   have hn8:0<=s8.now∧s8.now<=4611686018427387904:=by rw[h8.out.1];exact fM
   have hsm:Hid (s2.me=s8.me∧s2.seq=s8.seq∧s2.cZ=s8.cZ∧s2.now=s8.now):=by
    show _∧_;rw[<-h8.out.2];exact⟨rfl,rfl,rfl,rfl⟩
   have hS:HR N B g8.x.T C E s8.me s8.seq s8.cZ s8.now ({p with ttl:=p.ttl - 1,hops:=St.far p.hops}:aF) y (.slice ao y.bH.length c) w8.drew:=HR.jY n8 Kl Uj rfl rfl rfl rfl rfl;go_wp2_with fail;go_region_held3 (HR N B g8.x.T C E s8.me s8.seq s8.cZ s8.now ({p with ttl:=p.ttl - 1,hops:=St.far p.hops}:aF) y (.slice ao y.bH.length c)) (first|with_reducible exact hS|with_reducible assumption) ((go_at_call 81;refine(HV.out _ (by first|rfl|exact mQ hn8 (by decide))).mono ?_;rintro e w9 ⟨rfl,hN⟩;obtain⟨g9,n9,u9,t9⟩:=hN;obtain⟨Jl,agG⟩:=u9.kH Kl abB;obtain⟨Qy,agF⟩:=u9.keepR Uj abA;have hk9:HR N B g8.x.T C E s8.me s8.seq s8.cZ s8.now ({p with ttl:=p.ttl - 1,hops:=St.far p.hops}:aF) y (.slice ao y.bH.length c) w9:=HR.at n9 Jl Qy t9.out hsm.out.1 hsm.out.2.1 hsm.out.2.2.1 hsm.out.2.2.2))
   clear hS hk9;rename_i iT;clear iT;have wB:=(Vy.trans (.below (aV _ _).drew)).trans u9;have ta:g9.x.T=g.x.T:=t9.out.trans (t8.out.trans (t7.out.trans t6.out));clear Kl Uj Jl Qy;go_wp2;go_returns;exact⟨rfl,g9,n9,wB,ta⟩
variable{f:Int->Option Nat}{A:List Rt}{B M N T:Nat}{s:St}{w:World}
def xL(A:List Rt)(d:Int):Bool:=(aJ A d).any λy=>decide (0<y.bH.length)
theorem NI{me:Int}{g:Int->Value}(h:MT me T M f g A w)(d:Int)(hd:bB d):
  Calls Tryz.prog 167 #[.pointer (some ⟨T,0,none⟩),.int .u32 d] w λe w'=>e=.returned (.bool (xL A d))∧w'=w:=by
 obtain⟨t0,t1⟩:=h.blk.cell;have hlk:=h.map.look hd;cases hl:aJ A d with
 |none=>
  rw[h.off hd hl]at hlk;simp only[gG]at hlk;have hn:xL A d=false:=by simp[xL,hl]
  rw[hn];clear h hn hl;go_enter Tryz.func167,Tryz.ntmps167;go_wp2;go_ret;exact⟨rfl,rfl⟩
 |some x=>
  obtain⟨_,_,B,hB,hL,hR⟩:=h.line hl;rw[hB]at hlk;simp only[gG]at hlk;obtain⟨ag,cg,hg,_⟩:=ak hR;obtain⟨b0,b1,b2,b3,b4,b5,b6⟩:=hL.cell;rw[hg]at b6;have hn:xL A d=decide (0<x.bH.length):=by simp[xL,hl]
  rw[hn];clear h hn hl hL hB hR;by_cases h0:0<x.bH.length
  ·have h1:(0:Int)<(x.bH.length:Int):=by omega
   go_enter Tryz.func167,Tryz.ntmps167;go_wp2;go_ret;exact⟨by simp[h0],rfl⟩
  ·have h1:¬(0:Int)<(x.bH.length:Int):=by omega
   go_enter Tryz.func167,Tryz.ntmps167;go_wp2;go_ret;exact⟨by simp,rfl⟩
def Nc(A:List Rt)(d:Int):List Rt:=h_ A d St.qj
theorem NM{me:Int}{g:Int->Value}(h:MT me T M f g A w)(d:Int)(hd:bB d):
  Calls Tryz.prog 169 #[.pointer (some ⟨T,0,none⟩),.int .u32 d] w λe w'=>∃g',e=.returned (.tuple #[])∧MT me T M f g' (Nc A d) w'∧(∀k,nC T M f g' (Nc A d) k->nC T M f g A k)∧Fx (nC T M f g A) w w':=by
 obtain⟨t0,t1⟩:=h.blk.cell;have hlk:=h.map.look hd;cases hl:aJ A d with
 |none=>
  rw[h.off hd hl]at hlk;simp only[gG]at hlk;have hn:Nc A d=A:=oL hl St.qj;rw[hn];go_enter Tryz.func169,Tryz.ntmps169;go_wp2;go_returns;exact⟨g,rfl,h,λ_ h=>h,Fx.refl _ _⟩
 |some x=>
  obtain⟨Ka,hxd,B,hB,hL,hR⟩:=h.line hl;rw[hB]at hlk;simp only[gG]at hlk;obtain⟨b0,b1,b2,b3,b4,b5,b6⟩:=hL.cell;have fz:=hL.free 1;have Hz:=h.ok x Ka;have hg1:w.grownBy (w.setCell ⟨B,1,none⟩ (.int .u32 (gr x.seq))) (some B):=ah (aC _ (some B)) 1 _;have hL1:=hL.set1 (gr x.seq);have Yf:∀c,b_ x (g d)≠ .cells c 34 (0,0):=λc e=>(by cases e);have hR1:=hR.kept hg1 (.inr (aB hR hL Yf));obtain⟨k1,k2⟩:=h.turn hl hB St.qj (λ_=>rfl) ⟨Hz.dest,uy Hz.seq,Hz.hops,Hz.next,Hz.exp,Hz.P7,Hz.bH,Hz.xD⟩ (g d) hL1 hR1 (.inr (.inl rfl)) (λk hk hkB _=>hg1.block k (h.lt hk) (λe=>hkB (by cases e;rfl)));have hfx:Fx (nC T M f g A) w (w.setCell ⟨B,1,none⟩ (.int .u32 (gr x.seq))):=Fx.grown hg1 λk e=>by
   cases e;exact .inr (.inr ⟨x,Ka,.inl (by rw[hxd];exact hB)⟩)
  have hin:∀k,nC T M f (λe=>if e=d then g d else g e) (Nc A d) k->nC T M f g A k:=λk hk=>by
   rcases k2 k hk with h1|h1
   ·exact h1
   ·exact .inr (.inr ⟨x,Ka,.inr (by rw[hxd];exact h1)⟩)
  clear h hL hR hg1 hL1 hR1 k2 hB;go_enter Tryz.func169,Tryz.ntmps169;go_wp2_with(go_at_call 42;refine(oO _ _).mono ?_;rintro e w5 ⟨rfl,rfl⟩);go_returns;exact⟨_,rfl,k1,hin,hfx⟩
theorem ab7{g:bI}{TL:List Hp.Tm}(n:Nd N B g s TL w)(d:Int)(hd:bB d):
  Calls Tryz.prog 167 #[.pointer (some ⟨g.x.T,0,none⟩),.int .u32 d] w λe w'=>e=.returned (.bool (xL s.A d))∧w'=w:=NI n.nn.cr.tb d hd
theorem acg{g:bI}{TL:List Hp.Tm}(n:Nd N B g s TL w)(d:Int)(hd:bB d):
  Calls Tryz.prog 169 #[.pointer (some ⟨g.x.T,0,none⟩),.int .u32 d] w λe w'=>e=.returned (.tuple #[])∧l6 N B g s {s with A:=h_ s.A d St.qj} TL w w':=by
 have h:=n.nn.cr.tb;rw[n.nn.eq.self]at h;refine(NM h d hd).mono ?_;rintro e w' ⟨g',rfl,h1,h2,h3⟩;exact⟨rfl,n.wC ⟨_,_,_,h1,λk hk=> .inl (h2 k hk)⟩ h3⟩
theorem XF:(Tryz.prog.info? 56).map (λi=>(i.zero,i.size,i.bytes))=some (some (.agg #[.int .u32 0,.string ⟨#[]⟩]),2,24):=by kernel_rfl
theorem UI(W:World)(t:Int)(s:ByteArray):∀(j:Nat) (u:Value),(uF [(t,s)])[j]?=some u->(W.alloc (.cells #[.int .u32 t,.string s] 56)).cell? ((⟨W.heap.size,0,none⟩:Addr).add j)=some u:=by
 intro j u hj;have h:=bS W (.cells #[.int .u32 t,.string s] 56);rw[Addr.add_lit,Nat.zero_add]
 match j,hj with
 |0,hj=>exact(aH _ _ 0 _ _ _ h).trans hj
 |1,hj=>exact(aH _ _ 1 _ _ _ h).trans hj
 |j+2,hj=>simp[uF]at hj
theorem jK.comes{base:Nat}{a:qz}{bA:List (Bool×Int×Int)}{aL aY abU:List (Int×ByteArray)}{aT:List Int}{W W7:World}(h:jK B base a bA aL aY aT W){v7:Value}(ho:W7.ownsRow base 56 2 v7 abU.length (uF abU))(hg:W.grownBy W7 a.bP.ownBlock):
  oZ B a W7∧jK B base {a with bP:=v7} bA aL abU aT (W7.setCell ⟨B,5,none⟩ v7)∧Fx (jF B a) W (W7.setCell ⟨B,5,none⟩ v7):=by
 have hBr:a.bP.ownBlock≠some B:=aB h.bP h.blk (λc e=>(by cases e));have jg:oZ B a W7:=h.blk.block (hg.block _ h.blk.lt (λe=>hBr e.symm));have hg2:W7.grownBy (W7.setCell ⟨B,5,none⟩ v7) (some B):=ah (aC _ (some B)) 5 v7;have f1:=h.bQ.kept hg (bX h.bQ h.bP (by decide));have f2:=h.aK.kept hg (bX h.aK h.bP (by decide));have f3:=h.nX.kept hg (bX h.nX h.bP (by decide));exact⟨jg,⟨jg.aak v7,f3.kept hg2 (.inr (aB f3 jg (λc e=>(by cases e)))),f2.kept hg2 (.inr (aB f2 jg (λc e=>(by cases e)))),ho.kept hg2 (.inr (aB ho jg (λc e=>(by cases e)))),f1.kept hg2 (.inr (aB f1 jg (λc e=>(by cases e))))⟩,
  aW (Fx.grown hg λk e=> .inr (.inr (.inr (.inl e)))) hg2 λi _ e=>by cases e;exact .inl rfl⟩
theorem KY{N B:Nat}{g:bI}{s:St}{TL:List Hp.Tm}{w:World}(n:Nd N B g s TL w)(fr:Int)(aej:bB fr)(p:aF)(hq:p.Hd)(hL:fI w p [])(fM:0<=s.now∧s.now<=4611686018427387904)(hfl:s.aL.length<=1000000)(hdl:s.aT.length<=1000000)(hcl:s.aY.length<=1000000):
  Calls Tryz.prog 133 #[.pointer (some ⟨N,0,none⟩),.pointer (some ⟨B,0,none⟩),.int .u32 fr,p.val] w λe w'=>e=.returned (.tuple #[])∧l6 N B g s (s.fP fr p) TL w w':=by
 have hp:=hq.wf;obtain⟨hid,hde,hds,hfr,hfs,_⟩:=hp.num;have hb0:Below w.heap.size w (w.alloc p.box):=bq;have gT:=PB.new p w;have n0:=n.later hb0;obtain⟨s2,dD⟩:∃s2,s.fP fr p=s2:=⟨_,rfl⟩;rw[dD];have hs2:=dD;unfold St.fP at hs2;replace hs2:=hide hs2;dsimp only[aF.box]at hb0 n0;unfold PB at gT;dsimp only[aF.box]at gT;go_enter Tryz.func133,Tryz.ntmps133;go_upto_region 1 with(fail);generalize World.alloc _ _=W1 at hb0 gT n0 ⊢;have kM:=n.new (k:=w.heap.size) (aD _);obtain⟨⟨y,fd⟩,hy⟩:∃r,bN s.A p.dest s.now=r:=⟨_,rfl⟩;have HF:=hide (nW n0 p.dest s.now hde hy);generalize l9:w.heap.size=C at gT kM ⊢;replace l9:=hide l9;go_cut [8,9]from 10 to 23 (om y fd W1)
 case first=>
  have hS:HB N B g.x.T C s.me s.seq s.cZ s.now p W1 W1.drew:=HB.drew (HB.mk' n0 gT (aV _ _));have hkB:=hide λW5 h5=>HB.mk' (W:=W5) n0 gT h5;go_region_held3 (HB N B g.x.T C s.me s.seq s.cZ s.now p W1) (first|with_reducible exact hS|with_reducible assumption|(with_reducible apply HB.vG hkB;assumption)|(with_reducible apply HB.kI hkB;assumption)|(with_reducible apply HB.eP hkB)|(with_reducible apply hkB.out;assumption)) ((go_at_call 79;refine(HF.out _ (And.right (by assumption))).mono ?_;rintro e w2 ⟨ao,c,rfl,hb2,hpr⟩;try ((with_reducible have hD:=hpr bW (.slice none 0 0) (lK W1));obtain⟨d0,d1,d2,d3,d4,d5,d6⟩:=hD.cell;have q0:=hD.free 0;have q1:=hD.free 1;have q2:=hD.free 2;have q3:=hD.free 3;have q4:=hD.free 4;have q5:=hD.free 5;have q6:=hD.free 6;have hD':Hid (dS W1.heap.size bW (.slice none 0 0) w2):=hD;clear hD);clear hpr))
  all_goals
   go_wp2_with fail;go_meet;first|with_reducible exact iC hb2|with_reducible exact j4 hb2 hD'
 case rest=>
  obtain⟨E,ao,c,rfl,rfl,hE,hEl,hb2⟩:=hcut;have Yb:¬Ft N g s E:=n0.new hEl;have qZ:fd=true->bB y.next:=λh=>by
   have:=oP n.nn.cr.tb.ok p.dest s.now;rw[hy]at this;rcases this with h1|h1
   ·exact h1.next
   ·rw[h]at h1;cases h1
  have hCE:C≠E:=by have:=PB.lt gT;omega
  have hP2:PB p C wc.drew:=PB.below gT hb2.drew;have hE2:dS E y (.slice ao y.bH.length c) wc.drew:=hE;have hbb:Below w.heap.size w wc.drew:=(hb0.trans (hb2.mono hb0.size)).drew;have n2:=n.later hbb;have hS:HC N B g.x.T C s.me s.seq s.cZ s.now p wc.drew:=HC.of n2 hP2;have hs3:=hs2.out;rw[hy]at hs3;dsimp only at hs3;clear HF gT n0 hb0 hb2 dD hs2 hE;by_cases ru:p.dest=s.me
  ·have hbe:(p.dest==s.me)=true:=by simpa using ru
   rw[aQ ru]at hs3;clear ru;go_wp2_with fail;go_region_held3 (HC N B g.x.T C s.me s.seq s.cZ s.now p) (first|with_reducible exact hS|with_reducible assumption) (fail)
   rename_i iT;clear iT hS;generalize World.drew _=W2 at hP2 hE2 hbb n2 ⊢;obtain⟨i0,hi,hz0,hz1,hz2⟩:=info_parts XF;have ha2:=n2.ac;have hbs:=n2.base;obtain⟨_,_,_,_,_,_,_,p7,_,_,_,jG⟩:=PB.cell hP2;have c5:=ha2.blk.cell.2.2.2.2.2.1;have haT:=λo=>(ha2.alloc o).blk.cell.2.2.2.2.2.1;have hpT:=λo=>(PB.cell (PB.alloc hP2 o)).2.2.2.2.2.2.2.1;have hqT:=λo=>(PB.cell (PB.alloc hP2 o)).2.2.2.2.2.2.2.2.2.2.2;have hrow:=λo=>(ha2.alloc o).drew.bP;have hcf:=λW=>UI W p.aK p.pay;have jP:Hid (∀o:Obj,B+1<=(W2.alloc o).drew.heap.size):=by
    intro o;show B+1<=(W2.alloc o).heap.size;rw[World.size_alloc];omega
   have HX:Hid (∀v7 w7,w7.ownsRow (B+1) 56 2 v7 (s.aY.length+1) (uF s.aY++uF [(p.aK,p.pay)])->(W2.alloc (.cells #[.int .u32 p.aK,.string p.pay] 56)).drew.grownBy w7 g.a.bP.ownBlock->(w7.cell? ⟨B,5,none⟩=some g.a.bP∧w7.frozen? ⟨B,5,none⟩=false)∧l6 N B g s s2 TL w (w7.setCell ⟨B,5,none⟩ v7)):=by
    intro v7 w7 iA gQ;rw[<-BD,show s.aY.length+1=(s.aY++ [(p.aK,p.pay)]).length by simp]at iA;have hb3:Below W2.heap.size W2 (W2.alloc (.cells #[.int .u32 p.aK,.string p.pay] 56)).drew:=(bq).drew;have n3:=n2.later hb3;obtain⟨jg,hm,hf⟩:=n3.ac.comes iA gQ;obtain⟨q1,q2⟩:=n3.act (s':=s2) (by rw[<-hs3];exact hm) hf (by rw[<-hs3];exact⟨rfl,rfl,rfl,rfl,rfl,rfl,rfl,rfl,rfl,rfl,rfl,rfl,rfl,rfl,rfl⟩) (by rw[<-hs3];exact n3.now) (by rw[<-hs3];exact n3.bC);exact⟨⟨jg.cell.2.2.2.2.2.1,jg.free 5⟩,l6.pre (hbb.trans (hb3.mono hbb.size)) ⟨_,q1,q2,rfl⟩⟩
   clear hs3 n2 ha2 hP2 hE2 hbb;go_wp2_with fail;go_region_law (refine gV rfl (.tmp 52) (.tmp 58) 49 rfl (B+1) 56 i0 (.agg #[.int .u32 0,.string ⟨#[]⟩]) 2 24 Tryz.underlying49 hi hz0 hz1 hz2 rfl (by decide) g.a.bP s.aY.length (uF s.aY) (by simp[Act.eval]) (hrow _) ⟨_,0,none⟩ 1 1 (uF [(p.aK,p.pay)]) (by simp[Act.eval]) rfl (hcf _) (RV _) (by unfold maxLen;omega) (by omega) (jP.out _)?_;intro v7 w7 iA gQ _;obtain⟨⟨g1,g2⟩,hm⟩:=HX.out _ _ iA gQ;obtain⟨QA,UN,rfl,_⟩:=ak iA)
   all_goals
    generalize World.setCell _ _ _=w8 at hm ⊢;clear g1 g2 gQ iA;go_wp2;go_returns;exact⟨rfl,hm⟩
  ·have hbe:(p.dest==s.me)=false:=by simpa using ru
   rw[aM ru]at hs3;go_wp2_with fail;go_region_held3 (HC N B g.x.T C s.me s.seq s.cZ s.now p) (first|with_reducible exact hS|with_reducible assumption) (fail)
   rename_i iT;clear iT hS;generalize World.drew _=W2 at hP2 hE2 hbb n2 ⊢;have Jg:Up B (Ft N g s) (Ft N g s) w W2:=.below hbb;by_cases htl:p.ttl=1
   ·have hbt:(p.ttl==1)=true:=by simpa using htl
    rw[aQ htl]at hs3;clear htl;have HX:=hide (jD n2 4 hdl);rw[hs3]at HX;obtain⟨p0,p1,p2,p3,p4,p5,p6,p7,p8,p9,jM,jG⟩:=PB.cell hP2;clear hP2 hE2;go_wp2_with fail;refine aU HX.out ?_;rintro e w9 ⟨rfl,hN⟩;obtain⟨g9,n9,u9,t9⟩:=hN;go_wp2;go_returns;exact⟨rfl,g9,n9,Jg.trans u9,t9.out.trans rfl⟩
   ·have hbt:(p.ttl==1)=false:=by simpa using htl
    rw[aM htl]at hs3;cases fd
    ·rw[aM (by simp)]at hs3;obtain⟨s4,hs4⟩:∃z,s.drop 3=z:=⟨_,rfl⟩;have HD:=hide (jD n2 3 hdl);rw[hs4]at HD;have h4:Hid (s4.now=s.now∧s4.me=s.me∧s4.seq=s.seq∧s4.cZ=s.cZ∧s4.aL=s.aL∧({s4 with A:=h_ s4.A p.dest St.qj}:St).lJ fr p.dest=s2):=by
      show _∧_;rw[<-hs4];exact⟨rfl,rfl,rfl,rfl,rfl,hs3⟩
     clear hs3 hs4;obtain⟨p0,p1,p2,p3,p4,p5,p6,p7,p8,p9,jM,jG⟩:=PB.cell hP2;go_wp2_with fail;refine aU HD.out ?_;rintro e w4 ⟨rfl,hN⟩;obtain⟨g4,n4,u4,t4⟩:=hN;obtain⟨mq,rC⟩:=u4.kH hP2 kM;obtain⟨Ko,afP⟩:=u4.keepR hE2 Yb;have qg:=Jg.trans u4;clear p0 p1 p2 p3 p4 p5 p6 p7 p8 p9 jM jG HD hP2 hE2 n2 u4 Jg;have HB:=hide (acg n4.drew p.dest hde);have hS:HR N B g4.x.T C E s4.me s4.seq s4.cZ s4.now p y (.slice ao y.bH.length c) w4.drew:=HR.jY n4 mq Ko rfl rfl rfl rfl rfl;go_wp2_with fail;go_region_held3 (HR N B g4.x.T C E s4.me s4.seq s4.cZ s4.now p y (.slice ao y.bH.length c)) (first|with_reducible exact hS|with_reducible assumption) ((go_at_call 169;refine(HB.out).mono ?_;rintro e w5 ⟨rfl,hN⟩;obtain⟨g5,n5,u5,t5⟩:=hN;obtain⟨wW,ad5⟩:=u5.kH mq rC;obtain⟨VO,afO⟩:=u5.keepR Ko afP;have hk5:HR N B g4.x.T C E s4.me s4.seq s4.cZ s4.now p y (.slice ao y.bH.length c) w5:=HR.at n5 wW VO t5.out rfl rfl rfl rfl))
     clear hS hk5;rename_i iT;clear iT;clear HB;have yE:=(qg.trans (.below (aV _ _).drew)).trans u5;obtain⟨s5,hs5⟩:∃z,({s4 with A:=h_ s4.A p.dest St.qj}:St)=z:=⟨_,rfl⟩;have h5:Hid (s5.aL=s.aL∧s5.lJ fr p.dest=s2):=by
      show _∧_;rw[<-hs5];exact⟨h4.out.2.2.2.2.1,h4.out.2.2.2.2.2⟩
     rw[hs5]at n5 yE;have HX:=hide (Dz n5 fr p.dest hde (by rw[h5.out.1];exact hfl));rw[h5.out.2]at HX;obtain⟨p0,p1,p2,p3,p4,p5,p6,p7,p8,p9,jM,jG⟩:=PB.cell wW;clear hs5 h5 h4 wW mq Ko VO n4;go_wp2_with fail;refine aU HX.out ?_;rintro e w9 ⟨rfl,hN⟩;obtain⟨g9,n9,u9,t9⟩:=hN;go_wp2;go_returns;exact⟨rfl,g9,n9,yE.trans u9,t9.out.trans (t5.out.trans t4.out)⟩
    ·rw[aQ rfl]at hs3;have hyn:=qZ rfl;have hwt:wrap64 (p.ttl - 1)=p.ttl - 1:=by
      have:=hq.ttl;unfold wrap64;omega
     have hbC:w.heap.size<=C:=by rw[l9.out];exact aD _
     have mq:PB ({p with ttl:=p.ttl - 1}:aF) C (W2.setCell ⟨C,0,none⟩ (.int .i64 (p.ttl - 1))):=hP2.pu (p.ttl - 1);have hb4:Below w.heap.size w (W2.setCell ⟨C,0,none⟩ (.int .i64 (p.ttl - 1))):=hbb.setCell (p:=⟨C,0,none⟩) hbC _;have Ko:dS E y (.slice ao y.bH.length c) (W2.setCell ⟨C,0,none⟩ (.int .i64 (p.ttl - 1))):=(iW _ _ _ _ (Ne.symm hCE)).trans hE2;have n4:=n.later hb4;have hwf:({p with ttl:=p.ttl - 1}:aF).Wf:=by
      have h1:=hq.ttl;refine {hp with V7:=?_,V6:=?_}<;>(dsimp only;omega)
     have HS:=hide (Bv n4 y.next ({p with ttl:=p.ttl - 1}:aF) hwf [] (hL.below hb4) hfl);obtain⟨s6,hs6⟩:∃z,s.send y.next ({p with ttl:=p.ttl - 1}:aF) []=z:=⟨_,rfl⟩;rw[hs6]at HS;dsimp only[aF.val]at HS;have h6:Hid (s6.now=s.now∧ {s6 with A:=iQ (iQ s6.A p.dest (s.now+3000)) p.aK (s.now+3000)}=s2):=by
      show _∧_;rw[<-hs6];exact⟨rfl,hs3⟩
     clear hs3 hs6;obtain⟨p0,p1,p2,p3,p4,p5,p6,p7,p8,p9,jM,jG⟩:=PB.cell hP2;have f0:=PB.free hP2 0;clear n2 hP2 hE2 hbb Jg;go_upto_region 11 with(fail);generalize World.setCell _ _ _=W4 at mq hb4 Ko n4 HS ⊢;clear p0 p1 p2 p3 p4 p5 p6 p7 p8 p9 jM jG f0;obtain⟨p0,p1,p2,p3,p4,p5,p6,p7,p8,p9,jM,jG⟩:=PB.cell mq;obtain⟨e0,e1,e2,e3,e4,e5,e6⟩:=Ko.cell;dsimp only at p0 p1 p2 p3 p4 p5 p6 p7 p8 p9 jM jG;clear htl;go_wp2_with fail;refine aU HS.out ?_;rintro e w6 ⟨rfl,hN⟩;obtain⟨g6,n6,u6,t6⟩:=hN;clear p0 p1 p2 p3 p4 p5 p6 p7 p8 p9 jM jG e0 e1 e2 e3 e4 e5 e6 HS;obtain⟨Jo,kS⟩:=u6.kH mq kM;obtain⟨Yd,Uh⟩:=u6.keepR Ko Yb;have nM:Up B (Ft N g s) (Ft N g6 s6) w w6:=(Up.below hb4).trans u6;clear mq Ko n4 u6 hb4;have VG:0<=s6.now∧s6.now<=4611686018427387904:=by rw[h6.out.1];exact fM
     have HV:Hid (∀t,t=s6.now+3000->Calls Tryz.prog 81 #[.pointer (some ⟨g6.x.T,0,none⟩),.int .u32 p.dest,.int .u64 t] w6.drew λr w'=>r=.returned (.tuple #[])∧l6 N B g6 s6 {s6 with A:=iQ s6.A p.dest (s6.now+3000)} TL w6.drew w'):=by
      rintro _ rfl;exact Ny n6.drew p.dest (s6.now+3000) hde (by unfold Bh;omega)
     have hS:HR N B g6.x.T C E s6.me s6.seq s6.cZ s6.now ({p with ttl:=p.ttl - 1}:aF) y (.slice ao y.bH.length c) w6.drew:=HR.jY n6 Jo Yd rfl rfl rfl rfl rfl;go_wp2_with fail;go_region_held3 (HR N B g6.x.T C E s6.me s6.seq s6.cZ s6.now ({p with ttl:=p.ttl - 1}:aF) y (.slice ao y.bH.length c)) (first|with_reducible exact hS|with_reducible assumption) ((go_at_call 81;refine(HV.out _ (by first|rfl|exact mQ VG (by decide))).mono ?_;rintro e w7 ⟨rfl,hN⟩;obtain⟨g7,n7,u7,t7⟩:=hN;obtain⟨X4,Pj⟩:=u7.kH Jo kS;obtain⟨Yc,Pg⟩:=u7.keepR Yd Uh;have hk7:HR N B g6.x.T C E s6.me s6.seq s6.cZ s6.now ({p with ttl:=p.ttl - 1}:aF) y (.slice ao y.bH.length c) w7:=HR.at n7 X4 Yc t7.out rfl rfl rfl rfl))
     clear hS hk7;rename_i iT;clear iT;clear HV;have ua7:=(nM.trans (.below (aV _ _).drew)).trans u7;obtain⟨s7,hs7⟩:∃z,({s6 with A:=iQ s6.A p.dest (s6.now+3000)}:St)=z:=⟨_,rfl⟩;have h7:Hid (s7.now=s.now∧ {s7 with A:=iQ s7.A p.aK (s7.now+3000)}=s2):=by
      show _∧_;rw[<-hs7];have e:=h6.out.2;rw[<-h6.out.1]at e;exact⟨h6.out.1,e⟩
     rw[hs7]at n7 ua7 Pj Pg;clear hs7 nM u7 n6 Jo Yd kS Uh h6;have hn7:0<=s7.now∧s7.now<=4611686018427387904:=by rw[h7.out.1];exact fM
     have HV:Hid (∀t,t=s7.now+3000->Calls Tryz.prog 81 #[.pointer (some ⟨g7.x.T,0,none⟩),.int .u32 p.aK,.int .u64 t] w7.drew λr w'=>r=.returned (.tuple #[])∧l6 N B g7 s7 s2 TL w7.drew w'):=by
      rintro _ rfl;have:=Ny n7.drew p.aK (s7.now+3000) hfr (by unfold Bh;omega);rw[h7.out.2]at this;exact this
     have hsm:Hid (s2.me=s7.me∧s2.seq=s7.seq∧s2.cZ=s7.cZ∧s2.now=s7.now):=by
      show _∧_;rw[<-h7.out.2];exact⟨rfl,rfl,rfl,rfl⟩
     have hS:HR N B g7.x.T C E s7.me s7.seq s7.cZ s7.now ({p with ttl:=p.ttl - 1}:aF) y (.slice ao y.bH.length c) w7.drew:=HR.jY n7 X4 Yc rfl rfl rfl rfl rfl;go_wp2_with fail;go_region_held3 (HR N B g7.x.T C E s7.me s7.seq s7.cZ s7.now ({p with ttl:=p.ttl - 1}:aF) y (.slice ao y.bH.length c)) (first|with_reducible exact hS|with_reducible assumption) ((go_at_call 81;refine(HV.out _ (by first|rfl|exact mQ hn7 (by decide))).mono ?_;rintro e w8 ⟨rfl,hN⟩;obtain⟨g8,n8,u8,t8⟩:=hN;obtain⟨Kl,abB⟩:=u8.kH X4 Pj;obtain⟨Uj,abA⟩:=u8.keepR Yc Pg;have hk8:HR N B g7.x.T C E s7.me s7.seq s7.cZ s7.now ({p with ttl:=p.ttl - 1}:aF) y (.slice ao y.bH.length c) w8:=HR.at n8 Kl Uj t8.out hsm.out.1 hsm.out.2.1 hsm.out.2.2.1 hsm.out.2.2.2))
     clear hS hk8;rename_i iT;clear iT;have Vy:=(ua7.trans (.below (aV _ _).drew)).trans u8;have ta:g8.x.T=g.x.T:=t8.out.trans (t7.out.trans t6.out);clear X4 Yc Kl Uj;go_wp2;go_returns;exact⟨rfl,g8,n8,Vy,ta⟩
end Go.Proofs.YtakaadcpaeiccabGreat
