import Derived.Test.YtakaadcpaeiccabGreatC15
set_option maxHeartbeats 8000000
set_option maxRecDepth 100000
namespace Go.Proofs.YtakaadcpaeiccabGreat
open Go.RowKit Go.Maps
variable{B C N:Nat}{p:aD}{s:St}{W:World}
theorem qV(s:St)(p:aD):Cc s (s.answer p)∧(s.answer p).now=s.now:=by
 unfold St.answer;split
 ·exact⟨t_ _ _ _ _,rfl⟩
 ·exact⟨uf _ _,rfl⟩
theorem HC.next{g g':bI}{s':St}{dW:List Hp.Tm}(n:Nd N B g' s' dW W)(h:PB p C W)(t:g'.x.T=g.x.T)(h1:s'.me=s.me)(h2:s'.seq=s.seq)(h3:s'.cZ=s.cZ)(h4:s'.now=s.now):HC N B g.x.T C s.me s.seq s.cZ s.now p W:=by
 have:=HC.of n h;rw[t,h1,h2,h3,h4]at this;exact this
theorem Nd.drew{g:bI}{TL:List Hp.Tm}(n:Nd N B g s TL W):Nd N B g s TL W.drew:=n.later (aU _ _).drew
theorem HC.xX{g:bI}{TL:List Hp.Tm}(n:Nd N B g s TL W)(h:PB p C W):HC N B g.x.T C s.me s.seq s.cZ s.now p W.drew:=HC.of n.drew h
theorem EC{hops d q fm life:Int}(hh:oW hops)(hd:a_ d)(hq:a_ q)(hf:a_ fm)(hl:a_ life):(St.uj hops d q fm life).Wf:=by
 have hz:(⟨#[]⟩:ByteArray).size=0:=rfl;unfold a_ at hd hq hf hl;unfold oW at hh;constructor<;>(dsimp only[St.uj];omega)
theorem Ko(W:World)(hops d q fm life:Int):fI W (St.uj hops d q fm life) []:=⟨rfl,λj hj=>by simp at hj⟩
theorem wG{g:bI}{TL:List Hp.Tm}{w:World}(n:Nd N B g s TL w)(p:aD)(hq:p.Hd)(hme:a_ s.me)(TW:a_ s.seq)(hfl:s.aI.length<=1000000)(hdl:s.aQ.length<=1000000):
  Calls Tryz.prog 163 #[.pointer (some ⟨N,0,none⟩),.pointer (some ⟨B,0,none⟩),p.val] w λe w'=>e=.returned (.tuple #[])∧lV N B g s (s.iG p) TL w w':=by
 have hp:=hq.wf;obtain⟨_,hde,hds,hfr,_,_⟩:=hp.num;have hb0:Below w.heap.size w (w.alloc p.box):=bC;have gX:=PB.new p w;have n0:=n.later hb0;have hmx:a_ (max s.seq p.aX):=by
  unfold a_ at TW hds ⊢;omega
 obtain⟨s2,dB⟩:∃s2,s.iG p=s2:=⟨_,rfl⟩;rw[dB];replace dB:=(show Hid _ from dB);dsimp only[aD.box]at hb0 n0;unfold PB at gX;dsimp only[aD.box]at gX;go_enter Tryz.func163,Tryz.ntmps163;go_upto_region 1 with(fail);generalize World.alloc _ _=W1 at hb0 gX n0 ⊢;have kK:=n.new (k:=w.heap.size) (aB _);generalize w.heap.size=C at gX kK ⊢;obtain⟨p0,p1,p2,p3,p4,p5,p6,p7,p8,p9,jK,jE⟩:=PB.cell gX;obtain⟨m0,m1,m2,m3,m4⟩:=n0.cell;have f3:=n0.nn.cr.nd.free 3;have hg1:W1.grownBy (W1.setCell ⟨N,3,none⟩ (.int .u32 (max s.seq p.aX))) (some N):=ah (aC _ (some N)) 3 _;obtain⟨e1,e2,e3,e4,e5,e6,e7,e8,e9⟩:=n0.nn.eq;obtain⟨n1,u1⟩:=n0.cells (s':={s with seq:=max s.seq p.aX}) (n0.nn.cr.nd.RG (max s.seq p.aX)) (Fx.grown hg1 λk e=>by cases e;rfl) ⟨e1,rfl,e3,e4,e5,e6,e7,e8,e9⟩ ⟨rfl,rfl,rfl,rfl,rfl,rfl⟩ ⟨rfl,rfl,rfl,rfl,rfl,rfl,rfl,rfl,rfl⟩ ⟨rfl,rfl,rfl,rfl,rfl⟩;obtain⟨hP1,hnC⟩:=u1.keep gX kK (EJ p);go_region
 have n2:=n1.drew;have hP2:PB p C (W1.setCell ⟨N,3,none⟩ (.int .u32 (max s.seq p.aX))).drew:=hP1;have u2:=(u1.trans (.below (aU _ _).drew):Up B _ _ W1 (W1.setCell ⟨N,3,none⟩ (.int .u32 (max s.seq p.aX))).drew);have t2:({g with x:={g.x with seq:=max s.seq p.aX}}:bI).x.T=g.x.T:=rfl;generalize ({g with x:={g.x with seq:=max s.seq p.aX}}:bI)=g2 at n2 u2 t2 hnC;clear n1 hP1 u1 hg1 e1 e2 e3 e4 e5 e6 e7 e8 e9 p0 p1 p2 p3 p4 p5 p6 p7 p8 p9 jK jE m0 m1 m2 m3 m4 f3 gX n0;generalize World.drew _=W2 at n2 hP2 u2 ⊢;have hs2:=dB.out;unfold St.iG at hs2;generalize max s.seq p.aX=q at hs2 n2 u2 hmx hnC ⊢;have hsm:=qV {s with seq:=q} (St.uj 0 s.me q p.aJ 6000);have HA:=hide (Cm n2.drew (St.uj 0 s.me q p.aJ 6000) (EC (by unfold oW;omega) hme hmx hfr (by unfold a_;omega)) (Ko _ _ _ _ _ _) hfl hdl);rw[hs2]at HA hsm;dsimp only[aD.val,St.uj]at HA;have hS:=HC.xX n2 hP2;go_wp2_with fail;go_region_held3 (HC N B g2.x.T C s.me q s.cZ s.now p) (first|with_reducible exact hS|with_reducible assumption) ((go_at_call 181;refine HA.out.mono ?_;rintro e w3 ⟨rfl,hN⟩;obtain⟨g3,n3,u3,t3⟩:=hN;have hk3:=HC.next n3 (u3.box hP2 hnC) t3.out hsm.1.1 hsm.1.2.1 hsm.1.2.2.1 hsm.2))
 go_wp2;go_returns;exact⟨rfl,lV.pre hb0 ⟨g3,n3,(u2.trans (.below (aU _ _).drew)).trans u3,t3.out.trans t2⟩⟩
variable{seq cZ:Int}{B C N T:Nat}{F F':Nat->Prop}{p:aD}{y:Rt}{s:St}{v:Value}{W a b:World}
theorem Xi(y:Rt)(v:Value):oC (bZ y v):=⟨λc e=>(by cases e),λc e=>(by cases e),λc e=>(by cases e),λc e=>(by cases e),λc e=>(by cases e)⟩
@[reducible] def HR(N B T C D : Nat)(me seq cZ now : Int)(p : aD)(y : Rt)(v : Value)(W : World): Prop :=
 HC N B T C me seq cZ now p W∧W.cell? ⟨D,0,none⟩=some (.int .u32 y.dest)∧W.cell? ⟨D,1,none⟩=some (.int .u32 y.seq)∧W.cell? ⟨D,2,none⟩=some (.int .i64 y.hops)∧W.cell? ⟨D,3,none⟩=some (.int .u32 y.next)∧W.cell? ⟨D,4,none⟩=some (.bool y.valid)∧W.cell? ⟨D,5,none⟩=some (.int .u64 y.exp)∧W.cell? ⟨D,6,none⟩=some v
theorem HC.at{g:bI}{TL:List Hp.Tm}{me now:Int}(n:Nd N B g s TL W)(h:PB p C W)(t:g.x.T=T)(h1:s.me=me)(h2:s.seq=seq)(h3:s.cZ=cZ)(h4:s.now=now):HC N B T C me seq cZ now p W:=by
 subst t h1 h2 h3 h4;exact HC.of n h
theorem HR.at{D:Nat}{g:bI}{TL:List Hp.Tm}{me now:Int}(n:Nd N B g s TL W)(h:PB p C W)(hD:eu D y v W)(t:g.x.T=T)(h1:s.me=me)(h2:s.seq=seq)(h3:s.cZ=cZ)(h4:s.now=now):HR N B T C D me seq cZ now p y v W:=⟨HC.at n h t h1 h2 h3 h4,hD.cell⟩
theorem HR.jW{D:Nat}{g:bI}{TL:List Hp.Tm}{me now:Int}(n:Nd N B g s TL W)(h:PB p C W)(hD:eu D y v W)(t:g.x.T=T)(h1:s.me=me)(h2:s.seq=seq)(h3:s.cZ=cZ)(h4:s.now=now):HR N B T C D me seq cZ now p y v W.drew:=HR.at n.drew h hD t h1 h2 h3 h4
theorem Nj(a b:Int):IntKind.u32.wrap (IntKind.u64.wrap (a - b))=(a - b)%4294967296:=by
 simp only[IntKind.wrap,IntKind.signed,IntKind.bits];simp
theorem IA{l:Int}{h d q f:Int}{Q:Ending->World->Prop}(H:Hid (Calls Tryz.prog 181 #[.pointer (some ⟨N,0,none⟩),.pointer (some ⟨B,0,none⟩),.agg #[.int .i64 0,.int .i64 0,.int .i64 h,.bool false,.int .u32 0,.int .u32 d,.int .u32 q,.int .u32 f,.int .u32 0,.int .u32 l,.slice none 0 0,.string ⟨#[]⟩]] W Q)):
  Hid (∀l',l'=l->Calls Tryz.prog 181 #[.pointer (some ⟨N,0,none⟩),.pointer (some ⟨B,0,none⟩),.agg #[.int .i64 0,.int .i64 0,.int .i64 h,.bool false,.int .u32 0,.int .u32 d,.int .u32 q,.int .u32 f,.int .u32 0,.int .u32 l',.slice none 0 0,.string ⟨#[]⟩]] W Q):=by
 rintro _ rfl;exact H
theorem Up.kF(u:Up B F F' a b)(h:PB p C a)(hn:¬F C):PB p C b∧¬F' C:=u.keep h hn (EJ p)
theorem Up.keepR{D:Nat}(u:Up B F F' a b)(h:eu D y v a)(hn:¬F D):eu D y v b∧¬F' D:=u.keep h hn (Xi y v)
theorem oN{A:List Rt}(hA:∀y∈A,y.Ok)(d now:Int):(bH A d now).1.Ok∨(bH A d now).2=false:=by
 unfold bH;cases hl:aK A d with
 |none=>exact .inr rfl
 |some y=>
  by_cases hc:(y.valid&&decide (now<y.exp))=true
  ·left;have:=hA y (bU hl).1
   simp_all
  ·right;by_cases hv:y.valid=true
   ·by_cases he:now<y.exp
    ·simp[hv,he]at hc
    ·simp[hv,he]
   ·simp[hv]
theorem tL{g:bI}{TL:List Hp.Tm}{w:World}(n:Nd N B g s TL w)(p:aD)(hq:p.Hd)(r:Rt)(hr:r.Ok)(ra:Option Addr)(rn rc:Nat)(_hnow:BZ s.now)(hfl:s.aI.length<=1000000)(hdl:s.aQ.length<=1000000):
  Calls Tryz.prog 164 #[.pointer (some ⟨N,0,none⟩),.pointer (some ⟨B,0,none⟩),p.val,JU r (.slice ra rn rc)] w λe w'=>e=.returned (.tuple #[])∧lV N B g s (s.gK p r) TL w w':=by
 have hp:=hq.wf;obtain⟨_,hde,hds,hfr,_,_⟩:=hp.num;have hb0:Below w.heap.size w ((w.alloc p.box).alloc (bZ r (.slice ra rn rc))):=(bC).alloc (by simp) _;have gX:PB p w.heap.size ((w.alloc p.box).alloc (bZ r (.slice ra rn rc))):=(((aU _ (w.alloc p.box)).alloc (aB _) _).block _ (by simp)).trans (PB.new p w);have hR0:eu (w.heap.size+1) r (.slice ra rn rc) ((w.alloc p.box).alloc (bZ r (.slice ra rn rc))):=by
  have:=bS (w.alloc p.box) (bZ r (.slice ra rn rc));rw[World.size_alloc]at this;exact this
 have n0:=n.later hb0;obtain⟨s2,dB⟩:∃s2,s.gK p r=s2:=⟨_,rfl⟩;rw[dB];replace dB:=hide dB;dsimp only[aD.box,bZ]at hb0 n0;unfold PB at gX;unfold eu at hR0;dsimp only[aD.box,bZ]at gX hR0;go_enter Tryz.func164,Tryz.ntmps164;go_upto_region 1 with(fail);generalize World.alloc (World.alloc _ _) _=W1 at hb0 gX hR0 n0 ⊢;have kK:=n.new (k:=w.heap.size) (aB _);have hRn:=n.new (k:=w.heap.size+1) (Nat.le_succ _);obtain⟨⟨y,fd⟩,hy⟩:∃r,bH s.A p.aJ s.now=r:=⟨_,rfl⟩;have ru:fd=true->a_ y.next:=λh=>by
  have:=oN n.nn.cr.tb.ok p.aJ s.now;rw[hy]at this;rcases this with h1|h1
  ·exact h1.next
  ·rw[h]at h1;cases h1
 have HF:=hide (nS n0 p.aJ s.now hfr hy);generalize lZ:w.heap.size=C at gX hR0 kK hRn ⊢;replace lZ:=hide lZ;go_cut [8,9]from 10 to 23 (og y fd W1)
 case first=>
  have hS:HB N B g.x.T C s.me s.seq s.cZ s.now p W1 W1.drew:=HB.drew (HB.mk' n0 gX (aU _ _));have hkB:=hide λW5 h5=>HB.mk' (W:=W5) n0 gX h5;go_region_held3 (HB N B g.x.T C s.me s.seq s.cZ s.now p W1) (first|with_reducible exact hS|with_reducible assumption|(with_reducible apply HB.vP hkB;assumption)|(with_reducible apply HB.kG hkB;assumption)|(with_reducible apply HB.eX hkB)|(with_reducible apply hkB.out;assumption)) ((go_at_call 79;refine(HF.out _ (And.right (by assumption))).mono ?_;rintro e w2 ⟨ao,c,rfl,hb2,hpr⟩;try ((with_reducible have hD:=hpr di (.slice none 0 0) (lG W1));obtain⟨d0,d1,d2,d3,d4,d5,d6⟩:=hD.cell;have q0:=hD.free 0;have q1:=hD.free 1;have q2:=hD.free 2;have q3:=hD.free 3;have q4:=hD.free 4;have q5:=hD.free 5;have q6:=hD.free 6;have hD':Hid (eu W1.heap.size di (.slice none 0 0) w2):=hD;clear hD);clear hpr))
  all_goals
   go_wp2_with fail;go_meet;first|with_reducible exact iB hb2|with_reducible exact j3 hb2 hD'
 case rest=>
  obtain⟨E,ao,c,rfl,rfl,hE,hEl,hb2⟩:=hcut;have Yx:¬Ft N g s E:=n0.new hEl;have n2:=n0.later hb2;have hP2:=PB.below gX hb2;have hR2:eu (C+1) r (.slice ra rn rc) wc:=eu.later hR0 hb2;have hbb:=hb0.trans (hb2.mono hb0.size);have hs2:=dB.out;unfold St.gK at hs2;rw[hy]at hs2;dsimp only at hs2;clear HF gX hR0 n0 hb0 hb2 dB;cases fd
  ·rw[aH (by simp)]at hs2;have HB4:=hide (rT n2.drew p.aJ r.next hfr hr.next);have hS:HR N B g.x.T C (C+1) s.me s.seq s.cZ s.now p r (.slice ra rn rc) wc.drew:=HR.jW n2 hP2 hR2 rfl rfl rfl rfl rfl;go_wp2_with fail;go_region_held3 (HR N B g.x.T C (C+1) s.me s.seq s.cZ s.now p r (.slice ra rn rc)) (first|with_reducible exact hS|with_reducible assumption) ((go_at_call 182;refine HB4.out.mono ?_;rintro e w4 ⟨rfl,hN⟩;obtain⟨g4,n4,u4,t4⟩:=hN;obtain⟨l9,rF⟩:=u4.kF hP2 kK;obtain⟨NF,abK⟩:=u4.keepR hR2 hRn;have hk4:HR N B g.x.T C (C+1) s.me s.seq s.cZ s.now p r (.slice ra rn rc) w4:=HR.at n4 l9 NF t4.out rfl rfl rfl rfl))
   clear hS hk4;rename_i iV;clear iV;clear HB4;have hsm:=qV {s with A:=kZ s.A p.aJ r.next} (St.uj r.hops p.dest r.seq p.aJ ((r.exp - s.now)%4294967296));have HA:=hide (Cm n4.drew (St.uj r.hops p.dest r.seq p.aJ ((r.exp - s.now)%4294967296)) (EC hr.hops hde hr.seq hfr (by unfold a_;omega)) (Ko _ _ _ _ _ _) hfl hdl);rw[hs2]at HA hsm;dsimp only[aD.val,St.uj]at HA;have HA':=IA HA;clear HA;have hS:HR N B g4.x.T C (C+1) s.me s.seq s.cZ s.now p r (.slice ra rn rc) w4.drew:=HR.jW n4 l9 NF rfl rfl rfl rfl rfl;go_wp2_with fail;go_region_held3 (HR N B g4.x.T C (C+1) s.me s.seq s.cZ s.now p r (.slice ra rn rc)) (first|with_reducible exact hS|with_reducible assumption) ((go_at_call 181;refine(HA'.out _ (by first|exact Nj _ _|exact Tt _ _|rfl)).mono ?_;rintro e w5 ⟨rfl,hN⟩;obtain⟨g5,n5,u5,t5⟩:=hN;obtain⟨xP,ad6⟩:=u5.kF l9 rF;obtain⟨V7,afG⟩:=u5.keepR NF abK;have hk5:HR N B g4.x.T C (C+1) s.me s.seq s.cZ s.now p r (.slice ra rn rc) w5:=HR.at n5 xP V7 t5.out hsm.1.1 hsm.1.2.1 hsm.1.2.2.1 hsm.2))
   clear hS hk5;rename_i iV;clear iV;go_wp2;go_returns;exact⟨rfl,lV.pre hbb ⟨g5,n5,(Up.trans (.below (aU _ _).drew) u4).trans (Up.trans (.below (aU _ _).drew) u5),t5.out.trans t4.out⟩⟩
  ·rw[aM rfl]at hs2;have hny:=ru rfl;obtain⟨e0,e1,e2,e3,e4,e5,e6⟩:=hE.cell;have HB3:=hide (rT n2.drew p.dest y.next hde hny);have hS:HR N B g.x.T C E s.me s.seq s.cZ s.now p y (.slice ao y.bN.length c) wc.drew:=HR.jW n2 hP2 hE rfl rfl rfl rfl rfl;go_wp2_with fail;go_region_held3 (HR N B g.x.T C E s.me s.seq s.cZ s.now p y (.slice ao y.bN.length c)) (first|with_reducible exact hS|with_reducible assumption) ((go_at_call 182;refine HB3.out.mono ?_;rintro e w3 ⟨rfl,hN⟩;obtain⟨g3,n3,u3,t3⟩:=hN;obtain⟨hP3,Qc⟩:=u3.kF hP2 kK;obtain⟨P8,adY⟩:=u3.keepR hR2 hRn;obtain⟨hE3,UA⟩:=u3.keepR hE Yx;have hk3:HR N B g.x.T C E s.me s.seq s.cZ s.now p y (.slice ao y.bN.length c) w3:=HR.at n3 hP3 hE3 t3.out rfl rfl rfl rfl))
   clear hS hk3;rename_i iV;clear iV;clear e0 e1 e2 e3 e4 e5 e6 HB3 hE hP2 hR2;obtain⟨s1,hs1⟩:∃s1,({s with A:=kZ s.A p.dest y.next}:St)=s1:=⟨_,rfl⟩;have xM:({s1 with A:=kZ s1.A p.aJ r.next}:St).answer (St.uj r.hops p.dest r.seq p.aJ ((r.exp - s1.now)%4294967296))=s2:=by
    rw[<-hs1];exact hs2
   have Bn:s1.aI.length<=1000000:=by rw[<-hs1];exact hfl
   have FB:s1.aQ.length<=1000000:=by rw[<-hs1];exact hdl
   rw[hs1]at n3 u3 Qc adY;clear hs2 hs1 UA;have hs2:=xM;clear xM;have HB4:=hide (rT n3.drew p.aJ r.next hfr hr.next);have hS:HR N B g3.x.T C (C+1) s1.me s1.seq s1.cZ s1.now p r (.slice ra rn rc) w3.drew:=HR.jW n3 hP3 P8 rfl rfl rfl rfl rfl;go_wp2_with fail;go_region_held3 (HR N B g3.x.T C (C+1) s1.me s1.seq s1.cZ s1.now p r (.slice ra rn rc)) (first|with_reducible exact hS|with_reducible assumption) ((go_at_call 182;refine HB4.out.mono ?_;rintro e w4 ⟨rfl,hN⟩;obtain⟨g4,n4,u4,t4⟩:=hN;obtain⟨l9,rF⟩:=u4.kF hP3 Qc;obtain⟨NF,abK⟩:=u4.keepR P8 adY;have hk4:HR N B g3.x.T C (C+1) s1.me s1.seq s1.cZ s1.now p r (.slice ra rn rc) w4:=HR.at n4 l9 NF t4.out rfl rfl rfl rfl))
   clear hS hk4;rename_i iV;clear iV;clear HB4;have hsm:=qV {s1 with A:=kZ s1.A p.aJ r.next} (St.uj r.hops p.dest r.seq p.aJ ((r.exp - s1.now)%4294967296));have HA:=hide (Cm n4.drew (St.uj r.hops p.dest r.seq p.aJ ((r.exp - s1.now)%4294967296)) (EC hr.hops hde hr.seq hfr (by unfold a_;omega)) (Ko _ _ _ _ _ _) Bn FB);rw[hs2]at HA hsm;dsimp only[aD.val,St.uj]at HA;have HA':=IA HA;clear HA;have hS:HR N B g4.x.T C (C+1) s1.me s1.seq s1.cZ s1.now p r (.slice ra rn rc) w4.drew:=HR.jW n4 l9 NF rfl rfl rfl rfl rfl;go_wp2_with fail;go_region_held3 (HR N B g4.x.T C (C+1) s1.me s1.seq s1.cZ s1.now p r (.slice ra rn rc)) (first|with_reducible exact hS|with_reducible assumption) ((go_at_call 181;refine(HA'.out _ (by first|exact Nj _ _|exact Tt _ _|rfl)).mono ?_;rintro e w5 ⟨rfl,hN⟩;obtain⟨g5,n5,u5,t5⟩:=hN;obtain⟨xP,ad6⟩:=u5.kF l9 rF;obtain⟨V7,afG⟩:=u5.keepR NF abK;have hk5:HR N B g4.x.T C (C+1) s1.me s1.seq s1.cZ s1.now p r (.slice ra rn rc) w5:=HR.at n5 xP V7 t5.out hsm.1.1 hsm.1.2.1 hsm.1.2.2.1 hsm.2))
   clear hS hk5;rename_i iV;clear iV;go_wp2;go_returns;exact⟨rfl,lV.pre hbb ⟨g5,n5,((Up.trans (.below (aU _ _).drew) u3).trans (Up.trans (.below (aU _ _).drew) u4)).trans (Up.trans (.below (aU _ _).drew) u5),t5.out.trans (t4.out.trans t3.out)⟩⟩
theorem fI.nil{W W':World}{p:aD}(h:fI W p []):fI W' p []:=⟨h.1,λj hj=>by simp at hj⟩
theorem mK{a c:Int}(h:0<=a∧a<=4611686018427387904)(hc:0<=c∧c<=8589934592):IntKind.u64.wrap (a+c)=a+c:=by
 simp only[IntKind.wrap,IntKind.signed,IntKind.bits];simp;omega
theorem QN{N B:Nat}{g:bI}{s:St}{TL:List Hp.Tm}{w:World}(n:Nd N B g s TL w)(fr:Int)(PV:a_ fr)(p:aD)(hq:p.Hd)(hL:fI w p [])(fK:0<=s.now∧s.now<=4611686018427387904)(hfl:s.aI.length<=1000000)(hdl:s.aQ.length<=1000000):
  Calls Tryz.prog 166 #[.pointer (some ⟨N,0,none⟩),.pointer (some ⟨B,0,none⟩),.int .u32 fr,p.val] w λe w'=>e=.returned (.tuple #[])∧lV N B g s (s.iD fr p) TL w w':=by
 have hp:=hq.wf;obtain⟨hid,hde,hds,hfr,hfs,_⟩:=hp.num;have hb0:Below w.heap.size w (w.alloc p.box):=bC;have gX:=PB.new p w;have n0:=n.later hb0;obtain⟨s2,dB⟩:∃s2,s.iD fr p=s2:=⟨_,rfl⟩;rw[dB];have hs2:=dB;replace dB:=hide dB;unfold St.iD at hs2;replace hs2:=hide hs2;dsimp only[aD.box]at hb0 n0;unfold PB at gX;dsimp only[aD.box]at gX;go_enter Tryz.func166,Tryz.ntmps166;go_upto_region 1 with(fail);generalize World.alloc _ _=W1 at hb0 gX n0 ⊢;have kK:=n.new (k:=w.heap.size) (aB _);obtain⟨⟨y,fd⟩,hy⟩:∃r,bH s.A p.aJ s.now=r:=⟨_,rfl⟩;have HF:=hide (nS n0 p.aJ s.now hfr hy);generalize lZ:w.heap.size=C at gX kK ⊢;replace lZ:=hide lZ;go_cut [8,9]from 10 to 23 (og y fd W1)
 case first=>
  have hS:HB N B g.x.T C s.me s.seq s.cZ s.now p W1 W1.drew:=HB.drew (HB.mk' n0 gX (aU _ _));have hkB:=hide λW5 h5=>HB.mk' (W:=W5) n0 gX h5;go_region_held3 (HB N B g.x.T C s.me s.seq s.cZ s.now p W1) (first|with_reducible exact hS|with_reducible assumption|(with_reducible apply HB.vP hkB;assumption)|(with_reducible apply HB.kG hkB;assumption)|(with_reducible apply HB.eX hkB)|(with_reducible apply hkB.out;assumption)) ((go_at_call 79;refine(HF.out _ (And.right (by assumption))).mono ?_;rintro e w2 ⟨ao,c,rfl,hb2,hpr⟩;try ((with_reducible have hD:=hpr di (.slice none 0 0) (lG W1));obtain⟨d0,d1,d2,d3,d4,d5,d6⟩:=hD.cell;have q0:=hD.free 0;have q1:=hD.free 1;have q2:=hD.free 2;have q3:=hD.free 3;have q4:=hD.free 4;have q5:=hD.free 5;have q6:=hD.free 6;have hD':Hid (eu W1.heap.size di (.slice none 0 0) w2):=hD;clear hD);clear hpr))
  all_goals
   go_wp2_with fail;go_meet;first|with_reducible exact iB hb2|with_reducible exact j3 hb2 hD'
 case rest=>
  obtain⟨E,ao,c,rfl,rfl,hE,hEl,hb2⟩:=hcut;have Yx:¬Ft N g s E:=n0.new hEl;have ru:fd=true->a_ y.next:=λh=>by
   have:=oN n.nn.cr.tb.ok p.aJ s.now;rw[hy]at this;rcases this with h1|h1
   ·exact h1.next
   ·rw[h]at h1;cases h1
  have n2:=n0.later hb2;have hP2:PB p C wc:=PB.below gX hb2;have hbb:=hb0.trans (hb2.mono hb0.size);have hCE:C≠E:=by have:=PB.lt gX;omega
  have hs3:=hs2.out;rw[hy]at hs3;dsimp only at hs3;clear HF gX n0 hb0 hb2 dB hs2;cases fd
  ·rw[aH (by simp)]at hs3;have HX:=hide (jA n2 3 hdl);rw[hs3]at HX;clear hP2 hE;go_wp2_with fail;refine aT HX.out ?_;rintro e w9 ⟨rfl,hN⟩;go_wp2;go_returns;exact⟨rfl,hN.pre hbb⟩
  ·rw[aM rfl]at hs3;have hyn:=ru rfl;have hwt:wrap64 (p.ttl - 1)=p.ttl - 1:=by
    have:=hq.ttl;unfold wrap64;omega
   have hbC:w.heap.size<=C:=by rw[lZ.out];exact aB _
   have l9:=hP2.o_ (p.ttl - 1);have hb4:Below w.heap.size w (wc.setCell ⟨C,0,none⟩ (.int .i64 (p.ttl - 1))):=hbb.setCell (p:=⟨C,0,none⟩) hbC _;have KY:eu E y (.slice ao y.bN.length c) (wc.setCell ⟨C,0,none⟩ (.int .i64 (p.ttl - 1))):=(kS _ _ _ _ (Ne.symm hCE)).trans hE;obtain⟨p0,p1,p2,p3,p4,p5,p6,p7,p8,p9,jK,jE⟩:=PB.cell hP2;have f0:=PB.free hP2 0;clear n2 hP2 hE hbb;go_upto_region 5 with(fail);generalize World.setCell _ _ _=W4 at l9 hb4 KY ⊢;clear p0 p1 p2 p3 p4 p5 p6 p7 p8 p9 jK jE f0;obtain⟨p0,p1,p2,p3,p4,p5,p6,p7,p8,p9,jK,jE⟩:=PB.cell l9;have f2:=PB.free l9 2;dsimp only at p0 p1 p2 p3 p4 p5 p6 p7 p8 p9 jK jE;have xP:PB ({p with ttl:=p.ttl - 1,hops:=St.far p.hops}:aD) C (W4.setCell ⟨C,2,none⟩ (.int .i64 (St.far p.hops))):=l9.Ez (St.far p.hops);have hb5:Below w.heap.size w (W4.setCell ⟨C,2,none⟩ (.int .i64 (St.far p.hops))):=hb4.setCell (p:=⟨C,2,none⟩) hbC _;have Wh:eu E y (.slice ao y.bN.length c) (W4.setCell ⟨C,2,none⟩ (.int .i64 (St.far p.hops))):=(kS _ _ _ _ (Ne.symm hCE)).trans KY;have n5:=n.later hb5;have hwf:({p with ttl:=p.ttl - 1,hops:=St.far p.hops}:aD).Wf:=by
    have h1:=hq.ttl;have h2:=hq.hops;refine {hp with Wy:=?_,Wx:=?_,Nw:=?_,Nv:=?_}<;>(unfold St.far;dsimp only;omega)
   have HS:=hide (Ck n5 y.next ({p with ttl:=p.ttl - 1,hops:=St.far p.hops}:aD) hwf [] (hL.below hb5) hfl);obtain⟨s6,hs6⟩:∃z,s.send y.next ({p with ttl:=p.ttl - 1,hops:=St.far p.hops}:aD) []=z:=⟨_,rfl⟩;rw[hs6]at HS;dsimp only[aD.val]at HS;have h6:Hid (s6.now=s.now∧s6.A=s.A∧ {s6 with A:=iO (kZ (kZ s6.A p.dest y.next) p.aJ fr) p.aJ (s.now+3000)}=s2):=by
    show _∧_∧_;rw[<-hs6];exact⟨rfl,rfl,hs3⟩
   clear hs3 hs6;go_wp2_with fail;refine aT (vV p.hops hq.hops W4) ?_;rintro e w4 ⟨rfl,rfl⟩;clear l9 hb4 KY;go_upto_region 6 with(fail);generalize World.setCell _ _ _=W5 at xP hb5 Wh n5 HS ⊢;clear p0 p1 p2 p3 p4 p5 p6 p7 p8 p9 jK jE f2;obtain⟨p0,p1,p2,p3,p4,p5,p6,p7,p8,p9,jK,jE⟩:=PB.cell xP;obtain⟨e0,e1,e2,e3,e4,e5,e6⟩:=Wh.cell;dsimp only at p0 p1 p2 p3 p4 p5 p6 p7 p8 p9 jK jE;go_wp2_with fail;refine aT HS.out ?_;rintro e w6 ⟨rfl,hN⟩;obtain⟨g6,n6,u6,t6⟩:=hN;clear p0 p1 p2 p3 p4 p5 p6 p7 p8 p9 jK jE e0 e1 e2 e3 e4 e5 e6 HS;obtain⟨JY,kP⟩:=u6.kF xP kK;obtain⟨Yz,Uz⟩:=u6.keepR Wh Yx;have nG:Up B (Ft N g s) (Ft N g6 s6) w w6:=(Up.below hb5).trans u6;clear xP Wh n5 u6 hb5;have HB:=hide (rT n6.drew p.dest y.next hde hyn);have hS:HR N B g6.x.T C E s6.me s6.seq s6.cZ s6.now ({p with ttl:=p.ttl - 1,hops:=St.far p.hops}:aD) y (.slice ao y.bN.length c) w6.drew:=HR.jW n6 JY Yz rfl rfl rfl rfl rfl;go_wp2_with fail;go_region_held3 (HR N B g6.x.T C E s6.me s6.seq s6.cZ s6.now ({p with ttl:=p.ttl - 1,hops:=St.far p.hops}:aD) y (.slice ao y.bN.length c)) (first|with_reducible exact hS|with_reducible assumption) ((go_at_call 182;refine(HB.out).mono ?_;rintro e w7 ⟨rfl,hN⟩;obtain⟨g7,n7,u7,t7⟩:=hN;obtain⟨Yo,Qb⟩:=u7.kF JY kP;obtain⟨Yy,P_⟩:=u7.keepR Yz Uz;have hk7:HR N B g6.x.T C E s6.me s6.seq s6.cZ s6.now ({p with ttl:=p.ttl - 1,hops:=St.far p.hops}:aD) y (.slice ao y.bN.length c) w7:=HR.at n7 Yo Yy t7.out rfl rfl rfl rfl))
   clear hS hk7;rename_i iV;clear iV;clear HB;have ua7:=(nG.trans (.below (aU _ _).drew)).trans u7;obtain⟨s7,hs7⟩:∃z,({s6 with A:=kZ s6.A p.dest y.next}:St)=z:=⟨_,rfl⟩;have h7:Hid (s7.now=s.now∧ {s7 with A:=iO (kZ s7.A p.aJ fr) p.aJ (s.now+3000)}=s2):=by
    show _∧_;rw[<-hs7];exact⟨h6.out.1,h6.out.2.2⟩
   rw[hs7]at n7 ua7 Qb P_;clear hs7 nG u7 n6 JY Yz kP Uz h6;have HB:=hide (rT n7.drew p.aJ fr hfr PV);have hS:HR N B g7.x.T C E s7.me s7.seq s7.cZ s7.now ({p with ttl:=p.ttl - 1,hops:=St.far p.hops}:aD) y (.slice ao y.bN.length c) w7.drew:=HR.jW n7 Yo Yy rfl rfl rfl rfl rfl;go_wp2_with fail;go_region_held3 (HR N B g7.x.T C E s7.me s7.seq s7.cZ s7.now ({p with ttl:=p.ttl - 1,hops:=St.far p.hops}:aD) y (.slice ao y.bN.length c)) (first|with_reducible exact hS|with_reducible assumption) ((go_at_call 182;refine(HB.out).mono ?_;rintro e w8 ⟨rfl,hN⟩;obtain⟨g8,n8,u8,t8⟩:=hN;obtain⟨KX,abR⟩:=u8.kF Yo Qb;obtain⟨UB,abQ⟩:=u8.keepR Yy P_;have hk8:HR N B g7.x.T C E s7.me s7.seq s7.cZ s7.now ({p with ttl:=p.ttl - 1,hops:=St.far p.hops}:aD) y (.slice ao y.bN.length c) w8:=HR.at n8 KX UB t8.out rfl rfl rfl rfl))
   clear hS hk8;rename_i iV;clear iV;clear HB;have VW:=(ua7.trans (.below (aU _ _).drew)).trans u8;obtain⟨s8,hs8⟩:∃z,({s7 with A:=kZ s7.A p.aJ fr}:St)=z:=⟨_,rfl⟩;have h8:Hid (s8.now=s.now∧ {s8 with A:=iO s8.A p.aJ (s.now+3000)}=s2):=by
    show _∧_;rw[<-hs8];exact⟨h7.out.1,h7.out.2⟩
   rw[hs8]at n8 VW abR abQ;clear hs8 ua7 u8 n7 Yo Yy Qb P_ h7;have HV:Hid (∀t,t=s8.now+3000->Calls Tryz.prog 81 #[.pointer (some ⟨g8.x.T,0,none⟩),.int .u32 p.aJ,.int .u64 t] w8.drew λr w'=>r=.returned (.tuple #[])∧lV N B g8 s8 s2 TL w8.drew w'):=by
    rintro _ rfl;have:=Oe n8.drew p.aJ (s8.now+3000) hfr (by have:=h8.out.1;unfold BZ;omega);rw[show({s8 with A:=iO s8.A p.aJ (s8.now+3000)}:St)=s2 from by have e:=h8.out.2;rw[<-h8.out.1]at e;exact e]at this;exact this
   have hn8:0<=s8.now∧s8.now<=4611686018427387904:=by rw[h8.out.1];exact fK
   have hsm:Hid (s2.me=s8.me∧s2.seq=s8.seq∧s2.cZ=s8.cZ∧s2.now=s8.now):=by
    show _∧_;rw[<-h8.out.2];exact⟨rfl,rfl,rfl,rfl⟩
   have hS:HR N B g8.x.T C E s8.me s8.seq s8.cZ s8.now ({p with ttl:=p.ttl - 1,hops:=St.far p.hops}:aD) y (.slice ao y.bN.length c) w8.drew:=HR.jW n8 KX UB rfl rfl rfl rfl rfl;go_wp2_with fail;go_region_held3 (HR N B g8.x.T C E s8.me s8.seq s8.cZ s8.now ({p with ttl:=p.ttl - 1,hops:=St.far p.hops}:aD) y (.slice ao y.bN.length c)) (first|with_reducible exact hS|with_reducible assumption) ((go_at_call 81;refine(HV.out _ (by first|rfl|exact mK hn8 (by decide))).mono ?_;rintro e w9 ⟨rfl,hN⟩;obtain⟨g9,n9,u9,t9⟩:=hN;obtain⟨JX,agQ⟩:=u9.kF KX abR;obtain⟨Rb,agP⟩:=u9.keepR UB abQ;have hk9:HR N B g8.x.T C E s8.me s8.seq s8.cZ s8.now ({p with ttl:=p.ttl - 1,hops:=St.far p.hops}:aD) y (.slice ao y.bN.length c) w9:=HR.at n9 JX Rb t9.out hsm.out.1 hsm.out.2.1 hsm.out.2.2.1 hsm.out.2.2.2))
   clear hS hk9;rename_i iV;clear iV;have wT:=(VW.trans (.below (aU _ _).drew)).trans u9;have ta:g9.x.T=g.x.T:=t9.out.trans (t8.out.trans (t7.out.trans t6.out));clear KX UB JX Rb;go_wp2;go_returns;exact⟨rfl,g9,n9,wT,ta⟩
variable{f:Int->Option Nat}{A:List Rt}{B M N T:Nat}{s:St}{w:World}
def yw(A:List Rt)(d:Int):Bool:=(aK A d).any λy=>decide (0<y.bN.length)
theorem Oq{me:Int}{g:Int->Value}(h:MT me T M f g A w)(d:Int)(hd:a_ d):
  Calls Tryz.prog 167 #[.pointer (some ⟨T,0,none⟩),.int .u32 d] w λe w'=>e=.returned (.bool (yw A d))∧w'=w:=by
 obtain⟨t0,t1⟩:=h.blk.cell;have hlk:=h.map.look hd;cases hl:aK A d with
 |none=>
  rw[h.off hd hl]at hlk;simp only[gH]at hlk;have hn:yw A d=false:=by simp[yw,hl]
  rw[hn];clear h hn hl;go_enter Tryz.func167,Tryz.ntmps167;go_wp2;go_ret;exact⟨rfl,rfl⟩
 |some x=>
  obtain⟨_,_,B,hB,hL,hR⟩:=h.line hl;rw[hB]at hlk;simp only[gH]at hlk;obtain⟨ag,cg,hg,_⟩:=ay hR;obtain⟨b0,b1,b2,b3,b4,b5,b6⟩:=hL.cell;rw[hg]at b6;have hn:yw A d=decide (0<x.bN.length):=by simp[yw,hl]
  rw[hn];clear h hn hl hL hB hR;by_cases h0:0<x.bN.length
  ·have h1:(0:Int)<(x.bN.length:Int):=by omega
   go_enter Tryz.func167,Tryz.ntmps167;go_wp2;go_ret;exact⟨by simp[h0],rfl⟩
  ·have h1:¬(0:Int)<(x.bN.length:Int):=by omega
   go_enter Tryz.func167,Tryz.ntmps167;go_wp2;go_ret;exact⟨by simp,rfl⟩
def NM(A:List Rt)(d:Int):List Rt:=gV A d St.oM
theorem Ov{me:Int}{g:Int->Value}(h:MT me T M f g A w)(d:Int)(hd:a_ d):
  Calls Tryz.prog 169 #[.pointer (some ⟨T,0,none⟩),.int .u32 d] w λe w'=>∃g',e=.returned (.tuple #[])∧MT me T M f g' (NM A d) w'∧(∀k,mY T M f g' (NM A d) k->mY T M f g A k)∧Fx (mY T M f g A) w w':=by
 obtain⟨t0,t1⟩:=h.blk.cell;have hlk:=h.map.look hd;cases hl:aK A d with
 |none=>
  rw[h.off hd hl]at hlk;simp only[gH]at hlk;have hn:NM A d=A:=oH hl St.oM;rw[hn];go_enter Tryz.func169,Tryz.ntmps169;go_wp2;go_returns;exact⟨g,rfl,h,λ_ h=>h,Fx.refl _ _⟩
 |some x=>
  obtain⟨KP,hxd,B,hB,hL,hR⟩:=h.line hl;rw[hB]at hlk;simp only[gH]at hlk;obtain⟨b0,b1,b2,b3,b4,b5,b6⟩:=hL.cell;have fz:=hL.free 1;have IV:=h.ok x KP;have hg1:w.grownBy (w.setCell ⟨B,1,none⟩ (.int .u32 (gr x.seq))) (some B):=ah (aC _ (some B)) 1 _;have hL1:=hL.set1 (gr x.seq);have YB:∀c,bZ x (g d)≠ .cells c 34 (0,0):=λc e=>(by cases e);have hR1:=hR.kept hg1 (.inr (aA hR hL YB));obtain⟨k1,k2⟩:=h.turn hl hB St.oM (λ_=>rfl) ⟨IV.dest,uG IV.seq,IV.hops,IV.next,IV.exp,IV.Vd,IV.bN,IV.y_⟩ (g d) hL1 hR1 (.inr (.inl rfl)) (λk hk hkB _=>hg1.block k (h.lt hk) (λe=>hkB (by cases e;rfl)));have hfx:Fx (mY T M f g A) w (w.setCell ⟨B,1,none⟩ (.int .u32 (gr x.seq))):=Fx.grown hg1 λk e=>by
   cases e;exact .inr (.inr ⟨x,KP,.inl (by rw[hxd];exact hB)⟩)
  have hin:∀k,mY T M f (λe=>if e=d then g d else g e) (NM A d) k->mY T M f g A k:=λk hk=>by
   rcases k2 k hk with h1|h1
   ·exact h1
   ·exact .inr (.inr ⟨x,KP,.inr (by rw[hxd];exact h1)⟩)
  clear h hL hR hg1 hL1 hR1 k2 hB;go_enter Tryz.func169,Tryz.ntmps169;go_wp2_with(go_at_call 42;refine(oL _ _).mono ?_;rintro e w5 ⟨rfl,rfl⟩);go_returns;exact⟨_,rfl,k1,hin,hfx⟩
theorem acv{g:bI}{TL:List Hp.Tm}(n:Nd N B g s TL w)(d:Int)(hd:a_ d):
  Calls Tryz.prog 167 #[.pointer (some ⟨g.x.T,0,none⟩),.int .u32 d] w λe w'=>e=.returned (.bool (yw s.A d))∧w'=w:=Oq n.nn.cr.tb d hd
theorem acC{g:bI}{TL:List Hp.Tm}(n:Nd N B g s TL w)(d:Int)(hd:a_ d):
  Calls Tryz.prog 169 #[.pointer (some ⟨g.x.T,0,none⟩),.int .u32 d] w λe w'=>e=.returned (.tuple #[])∧lV N B g s {s with A:=gV s.A d St.oM} TL w w':=by
 have h:=n.nn.cr.tb;rw[n.nn.eq.self]at h;refine(Ov h d hd).mono ?_;rintro e w' ⟨g',rfl,h1,h2,h3⟩;exact⟨rfl,n.wU ⟨_,_,_,h1,λk hk=> .inl (h2 k hk)⟩ h3⟩
theorem X3:(Tryz.prog.info? 56).map (λi=>(i.zero,i.size,i.bytes))=some (some (.agg #[.int .u32 0,.string ⟨#[]⟩]),2,24):=by kernel_rfl
theorem U4(W:World)(t:Int)(s:ByteArray):∀(j:Nat) (u:Value),(uL [(t,s)])[j]?=some u->(W.alloc (.cells #[.int .u32 t,.string s] 56)).cell? ((⟨W.heap.size,0,none⟩:Addr).add j)=some u:=by
 intro j u hj;have h:=bS W (.cells #[.int .u32 t,.string s] 56);rw[Addr.add_lit,Nat.zero_add]
 match j,hj with
 |0,hj=>exact(aG _ _ 0 _ _ _ h).trans hj
 |1,hj=>exact(aG _ _ 1 _ _ _ h).trans hj
 |j+2,hj=>simp[uL]at hj
theorem jI.comes{base:Nat}{a:qy}{bg:List (Bool×Int×Int)}{aI aR acd:List (Int×ByteArray)}{aQ:List Int}{W W7:World}(h:jI B base a bg aI aR aQ W){v7:Value}(ho:W7.ownsRow base 56 2 v7 acd.length (uL acd))(hg:W.grownBy W7 a.bL.ownBlock):
  oV B a W7∧jI B base {a with bL:=v7} bg aI acd aQ (W7.setCell ⟨B,5,none⟩ v7)∧Fx (jC B a) W (W7.setCell ⟨B,5,none⟩ v7):=by
 have hBr:a.bL.ownBlock≠some B:=aA h.bL h.blk (λc e=>(by cases e));have jd:oV B a W7:=h.blk.block (hg.block _ h.blk.lt (λe=>hBr e.symm));have hg2:W7.grownBy (W7.setCell ⟨B,5,none⟩ v7) (some B):=ah (aC _ (some B)) 5 v7;have f1:=h.bO.kept hg (bX h.bO h.bL (by decide));have f2:=h.aJ.kept hg (bX h.aJ h.bL (by decide));have f3:=h.nT.kept hg (bX h.nT h.bL (by decide));exact⟨jd,⟨jd.aay v7,f3.kept hg2 (.inr (aA f3 jd (λc e=>(by cases e)))),f2.kept hg2 (.inr (aA f2 jd (λc e=>(by cases e)))),ho.kept hg2 (.inr (aA ho jd (λc e=>(by cases e)))),f1.kept hg2 (.inr (aA f1 jd (λc e=>(by cases e))))⟩,
  aV (Fx.grown hg λk e=> .inr (.inr (.inr (.inl e)))) hg2 λi _ e=>by cases e;exact .inl rfl⟩
theorem LP{N B:Nat}{g:bI}{s:St}{TL:List Hp.Tm}{w:World}(n:Nd N B g s TL w)(fr:Int)(_hfrm:a_ fr)(p:aD)(hq:p.Hd)(hL:fI w p [])(fK:0<=s.now∧s.now<=4611686018427387904)(hfl:s.aI.length<=1000000)(hdl:s.aQ.length<=1000000)(hcl:s.aR.length<=1000000):
  Calls Tryz.prog 133 #[.pointer (some ⟨N,0,none⟩),.pointer (some ⟨B,0,none⟩),.int .u32 fr,p.val] w λe w'=>e=.returned (.tuple #[])∧lV N B g s (s.dU fr p) TL w w':=by
 have hp:=hq.wf;obtain⟨hid,hde,hds,hfr,hfs,_⟩:=hp.num;have hb0:Below w.heap.size w (w.alloc p.box):=bC;have gX:=PB.new p w;have n0:=n.later hb0;obtain⟨s2,dB⟩:∃s2,s.dU fr p=s2:=⟨_,rfl⟩;rw[dB];have hs2:=dB;unfold St.dU at hs2;replace hs2:=hide hs2;dsimp only[aD.box]at hb0 n0;unfold PB at gX;dsimp only[aD.box]at gX;go_enter Tryz.func133,Tryz.ntmps133;go_upto_region 1 with(fail);generalize World.alloc _ _=W1 at hb0 gX n0 ⊢;have kK:=n.new (k:=w.heap.size) (aB _);obtain⟨⟨y,fd⟩,hy⟩:∃r,bH s.A p.dest s.now=r:=⟨_,rfl⟩;have HF:=hide (nS n0 p.dest s.now hde hy);generalize lZ:w.heap.size=C at gX kK ⊢;replace lZ:=hide lZ;go_cut [8,9]from 10 to 23 (og y fd W1)
 case first=>
  have hS:HB N B g.x.T C s.me s.seq s.cZ s.now p W1 W1.drew:=HB.drew (HB.mk' n0 gX (aU _ _));have hkB:=hide λW5 h5=>HB.mk' (W:=W5) n0 gX h5;go_region_held3 (HB N B g.x.T C s.me s.seq s.cZ s.now p W1) (first|with_reducible exact hS|with_reducible assumption|(with_reducible apply HB.vP hkB;assumption)|(with_reducible apply HB.kG hkB;assumption)|(with_reducible apply HB.eX hkB)|(with_reducible apply hkB.out;assumption)) ((go_at_call 79;refine(HF.out _ (And.right (by assumption))).mono ?_;rintro e w2 ⟨ao,c,rfl,hb2,hpr⟩;try ((with_reducible have hD:=hpr di (.slice none 0 0) (lG W1));obtain⟨d0,d1,d2,d3,d4,d5,d6⟩:=hD.cell;have q0:=hD.free 0;have q1:=hD.free 1;have q2:=hD.free 2;have q3:=hD.free 3;have q4:=hD.free 4;have q5:=hD.free 5;have q6:=hD.free 6;have hD':Hid (eu W1.heap.size di (.slice none 0 0) w2):=hD;clear hD);clear hpr))
  all_goals
   go_wp2_with fail;go_meet;first|with_reducible exact iB hb2|with_reducible exact j3 hb2 hD'
 case rest=>
  obtain⟨E,ao,c,rfl,rfl,hE,hEl,hb2⟩:=hcut;have Yx:¬Ft N g s E:=n0.new hEl;have ru:fd=true->a_ y.next:=λh=>by
   have:=oN n.nn.cr.tb.ok p.dest s.now;rw[hy]at this;rcases this with h1|h1
   ·exact h1.next
   ·rw[h]at h1;cases h1
  have hCE:C≠E:=by have:=PB.lt gX;omega
  have hP2:PB p C wc.drew:=PB.below gX hb2.drew;have hE2:eu E y (.slice ao y.bN.length c) wc.drew:=hE;have hbb:Below w.heap.size w wc.drew:=(hb0.trans (hb2.mono hb0.size)).drew;have n2:=n.later hbb;have hS:HC N B g.x.T C s.me s.seq s.cZ s.now p wc.drew:=HC.of n2 hP2;have hs3:=hs2.out;rw[hy]at hs3;dsimp only at hs3;clear HF gX n0 hb0 hb2 dB hs2 hE;by_cases rD:p.dest=s.me
  ·have hbe:(p.dest==s.me)=true:=by simpa using rD
   rw[aM rD]at hs3;clear rD;go_wp2_with fail;go_region_held3 (HC N B g.x.T C s.me s.seq s.cZ s.now p) (first|with_reducible exact hS|with_reducible assumption) (fail)
   rename_i iV;clear iV hS;generalize World.drew _=W2 at hP2 hE2 hbb n2 ⊢;obtain⟨i0,hi,hz0,hz1,hz2⟩:=info_parts X3;have ha2:=n2.ac;have hbs:=n2.base;obtain⟨_,_,_,_,_,_,_,p7,_,_,_,jE⟩:=PB.cell hP2;have c5:=ha2.blk.cell.2.2.2.2.2.1;have haT:=λo=>(ha2.alloc o).blk.cell.2.2.2.2.2.1;have hpT:=λo=>(PB.cell (PB.alloc hP2 o)).2.2.2.2.2.2.2.1;have hqT:=λo=>(PB.cell (PB.alloc hP2 o)).2.2.2.2.2.2.2.2.2.2.2;have hrow:=λo=>(ha2.alloc o).drew.bL;have hcf:=λW=>U4 W p.aJ p.pay;have jM:Hid (∀o:Obj,B+1<=(W2.alloc o).drew.heap.size):=by
    intro o;show B+1<=(W2.alloc o).heap.size;rw[World.size_alloc];omega
   have HX:Hid (∀v7 w7,w7.ownsRow (B+1) 56 2 v7 (s.aR.length+1) (uL s.aR++uL [(p.aJ,p.pay)])->(W2.alloc (.cells #[.int .u32 p.aJ,.string p.pay] 56)).drew.grownBy w7 g.a.bL.ownBlock->(w7.cell? ⟨B,5,none⟩=some g.a.bL∧w7.frozen? ⟨B,5,none⟩=false)∧lV N B g s s2 TL w (w7.setCell ⟨B,5,none⟩ v7)):=by
    intro v7 w7 iy gW;rw[<-Co,show s.aR.length+1=(s.aR++ [(p.aJ,p.pay)]).length by simp]at iy;have hb3:Below W2.heap.size W2 (W2.alloc (.cells #[.int .u32 p.aJ,.string p.pay] 56)).drew:=(bC).drew;have n3:=n2.later hb3;obtain⟨jd,hm,hf⟩:=n3.ac.comes iy gW;obtain⟨q1,q2⟩:=n3.act (s':=s2) (by rw[<-hs3];exact hm) hf (by rw[<-hs3];exact⟨rfl,rfl,rfl,rfl,rfl,rfl,rfl,rfl,rfl,rfl,rfl,rfl,rfl,rfl,rfl⟩) (by rw[<-hs3];exact n3.now) (by rw[<-hs3];exact n3.bn);exact⟨⟨jd.cell.2.2.2.2.2.1,jd.free 5⟩,lV.pre (hbb.trans (hb3.mono hbb.size)) ⟨_,q1,q2,rfl⟩⟩
   clear hs3 n2 ha2 hP2 hE2 hbb;go_wp2_with fail;go_region_law (refine gY rfl (.tmp 52) (.tmp 58) 49 rfl (B+1) 56 i0 (.agg #[.int .u32 0,.string ⟨#[]⟩]) 2 24 Tryz.underlying49 hi hz0 hz1 hz2 rfl (by decide) g.a.bL s.aR.length (uL s.aR) (by simp[Act.eval]) (hrow _) ⟨_,0,none⟩ 1 1 (uL [(p.aJ,p.pay)]) (by simp[Act.eval]) rfl (hcf _) (SC _) (by unfold maxLen;omega) (by omega) (jM.out _) ?_;intro v7 w7 iy gW _;obtain⟨⟨g1,g2⟩,hm⟩:=HX.out _ _ iy gW;obtain⟨Rf,U_,rfl,_⟩:=ay iy)
   all_goals
    generalize World.setCell _ _ _=w8 at hm ⊢;clear g1 g2 gW iy;go_wp2;go_returns;exact⟨rfl,hm⟩
  ·have hbe:(p.dest==s.me)=false:=by simpa using rD
   rw[aH rD]at hs3;go_wp2_with fail;go_region_held3 (HC N B g.x.T C s.me s.seq s.cZ s.now p) (first|with_reducible exact hS|with_reducible assumption) (fail)
   rename_i iV;clear iV hS;generalize World.drew _=W2 at hP2 hE2 hbb n2 ⊢;have JR:Up B (Ft N g s) (Ft N g s) w W2:=.below hbb;by_cases htl:p.ttl=1
   ·have hbt:(p.ttl==1)=true:=by simpa using htl
    rw[aM htl]at hs3;clear htl;have HX:=hide (jA n2 4 hdl);rw[hs3]at HX;obtain⟨p0,p1,p2,p3,p4,p5,p6,p7,p8,p9,jK,jE⟩:=PB.cell hP2;clear hP2 hE2;go_wp2_with fail;refine aT HX.out ?_;rintro e w9 ⟨rfl,hN⟩;obtain⟨g9,n9,u9,t9⟩:=hN;go_wp2;go_returns;exact⟨rfl,g9,n9,JR.trans u9,t9.out.trans rfl⟩
   ·have hbt:(p.ttl==1)=false:=by simpa using htl
    rw[aH htl]at hs3;cases fd
    ·rw[aH (by simp)]at hs3;obtain⟨s4,hs4⟩:∃z,s.drop 3=z:=⟨_,rfl⟩;have HD:=hide (jA n2 3 hdl);rw[hs4]at HD;have h4:Hid (s4.now=s.now∧s4.me=s.me∧s4.seq=s.seq∧s4.cZ=s.cZ∧s4.aI=s.aI∧({s4 with A:=gV s4.A p.dest St.oM}:St).kE fr p.dest=s2):=by
      show _∧_;rw[<-hs4];exact⟨rfl,rfl,rfl,rfl,rfl,hs3⟩
     clear hs3 hs4;obtain⟨p0,p1,p2,p3,p4,p5,p6,p7,p8,p9,jK,jE⟩:=PB.cell hP2;go_wp2_with fail;refine aT HD.out ?_;rintro e w4 ⟨rfl,hN⟩;obtain⟨g4,n4,u4,t4⟩:=hN;obtain⟨l9,rF⟩:=u4.kF hP2 kK;obtain⟨KY,afV⟩:=u4.keepR hE2 Yx;have qf:=JR.trans u4;clear p0 p1 p2 p3 p4 p5 p6 p7 p8 p9 jK jE HD hP2 hE2 n2 u4 JR;have HB:=hide (acC n4.drew p.dest hde);have hS:HR N B g4.x.T C E s4.me s4.seq s4.cZ s4.now p y (.slice ao y.bN.length c) w4.drew:=HR.jW n4 l9 KY rfl rfl rfl rfl rfl;go_wp2_with fail;go_region_held3 (HR N B g4.x.T C E s4.me s4.seq s4.cZ s4.now p y (.slice ao y.bN.length c)) (first|with_reducible exact hS|with_reducible assumption) ((go_at_call 169;refine(HB.out).mono ?_;rintro e w5 ⟨rfl,hN⟩;obtain⟨g5,n5,u5,t5⟩:=hN;obtain⟨xP,ad6⟩:=u5.kF l9 rF;obtain⟨Wh,afU⟩:=u5.keepR KY afV;have hk5:HR N B g4.x.T C E s4.me s4.seq s4.cZ s4.now p y (.slice ao y.bN.length c) w5:=HR.at n5 xP Wh t5.out rfl rfl rfl rfl))
     clear hS hk5;rename_i iV;clear iV;clear HB;have zl:=(qf.trans (.below (aU _ _).drew)).trans u5;obtain⟨s5,hs5⟩:∃z,({s4 with A:=gV s4.A p.dest St.oM}:St)=z:=⟨_,rfl⟩;have h5:Hid (s5.aI=s.aI∧s5.kE fr p.dest=s2):=by
      show _∧_;rw[<-hs5];exact⟨h4.out.2.2.2.2.1,h4.out.2.2.2.2.2⟩
     rw[hs5]at n5 zl;have HX:=hide (Ej n5 fr p.dest hde (by rw[h5.out.1];exact hfl));rw[h5.out.2]at HX;obtain⟨p0,p1,p2,p3,p4,p5,p6,p7,p8,p9,jK,jE⟩:=PB.cell xP;clear hs5 h5 h4 xP l9 KY Wh n4;go_wp2_with fail;refine aT HX.out ?_;rintro e w9 ⟨rfl,hN⟩;obtain⟨g9,n9,u9,t9⟩:=hN;go_wp2;go_returns;exact⟨rfl,g9,n9,zl.trans u9,t9.out.trans (t5.out.trans t4.out)⟩
    ·rw[aM rfl]at hs3;have hyn:=ru rfl;have hwt:wrap64 (p.ttl - 1)=p.ttl - 1:=by
      have:=hq.ttl;unfold wrap64;omega
     have hbC:w.heap.size<=C:=by rw[lZ.out];exact aB _
     have l9:PB ({p with ttl:=p.ttl - 1}:aD) C (W2.setCell ⟨C,0,none⟩ (.int .i64 (p.ttl - 1))):=hP2.o_ (p.ttl - 1);have hb4:Below w.heap.size w (W2.setCell ⟨C,0,none⟩ (.int .i64 (p.ttl - 1))):=hbb.setCell (p:=⟨C,0,none⟩) hbC _;have KY:eu E y (.slice ao y.bN.length c) (W2.setCell ⟨C,0,none⟩ (.int .i64 (p.ttl - 1))):=(kS _ _ _ _ (Ne.symm hCE)).trans hE2;have n4:=n.later hb4;have hwf:({p with ttl:=p.ttl - 1}:aD).Wf:=by
      have h1:=hq.ttl;refine {hp with Wy:=?_,Wx:=?_}<;>(dsimp only;omega)
     have HS:=hide (Ck n4 y.next ({p with ttl:=p.ttl - 1}:aD) hwf [] (hL.below hb4) hfl);obtain⟨s6,hs6⟩:∃z,s.send y.next ({p with ttl:=p.ttl - 1}:aD) []=z:=⟨_,rfl⟩;rw[hs6]at HS;dsimp only[aD.val]at HS;have h6:Hid (s6.now=s.now∧ {s6 with A:=iO (iO s6.A p.dest (s.now+3000)) p.aJ (s.now+3000)}=s2):=by
      show _∧_;rw[<-hs6];exact⟨rfl,hs3⟩
     clear hs3 hs6;obtain⟨p0,p1,p2,p3,p4,p5,p6,p7,p8,p9,jK,jE⟩:=PB.cell hP2;have f0:=PB.free hP2 0;clear n2 hP2 hE2 hbb JR;go_upto_region 11 with(fail);generalize World.setCell _ _ _=W4 at l9 hb4 KY n4 HS ⊢;clear p0 p1 p2 p3 p4 p5 p6 p7 p8 p9 jK jE f0;obtain⟨p0,p1,p2,p3,p4,p5,p6,p7,p8,p9,jK,jE⟩:=PB.cell l9;obtain⟨e0,e1,e2,e3,e4,e5,e6⟩:=KY.cell;dsimp only at p0 p1 p2 p3 p4 p5 p6 p7 p8 p9 jK jE;clear htl;go_wp2_with fail;refine aT HS.out ?_;rintro e w6 ⟨rfl,hN⟩;obtain⟨g6,n6,u6,t6⟩:=hN;clear p0 p1 p2 p3 p4 p5 p6 p7 p8 p9 jK jE e0 e1 e2 e3 e4 e5 e6 HS;obtain⟨JY,kP⟩:=u6.kF l9 kK;obtain⟨Yz,Uz⟩:=u6.keepR KY Yx;have nG:Up B (Ft N g s) (Ft N g6 s6) w w6:=(Up.below hb4).trans u6;clear l9 KY n4 u6 hb4;have hn6:0<=s6.now∧s6.now<=4611686018427387904:=by rw[h6.out.1];exact fK
     have HV:Hid (∀t,t=s6.now+3000->Calls Tryz.prog 81 #[.pointer (some ⟨g6.x.T,0,none⟩),.int .u32 p.dest,.int .u64 t] w6.drew λr w'=>r=.returned (.tuple #[])∧lV N B g6 s6 {s6 with A:=iO s6.A p.dest (s6.now+3000)} TL w6.drew w'):=by
      rintro _ rfl;exact Oe n6.drew p.dest (s6.now+3000) hde (by unfold BZ;omega)
     have hS:HR N B g6.x.T C E s6.me s6.seq s6.cZ s6.now ({p with ttl:=p.ttl - 1}:aD) y (.slice ao y.bN.length c) w6.drew:=HR.jW n6 JY Yz rfl rfl rfl rfl rfl;go_wp2_with fail;go_region_held3 (HR N B g6.x.T C E s6.me s6.seq s6.cZ s6.now ({p with ttl:=p.ttl - 1}:aD) y (.slice ao y.bN.length c)) (first|with_reducible exact hS|with_reducible assumption) ((go_at_call 81;refine(HV.out _ (by first|rfl|exact mK hn6 (by decide))).mono ?_;rintro e w7 ⟨rfl,hN⟩;obtain⟨g7,n7,u7,t7⟩:=hN;obtain⟨Yo,Qb⟩:=u7.kF JY kP;obtain⟨Yy,P_⟩:=u7.keepR Yz Uz;have hk7:HR N B g6.x.T C E s6.me s6.seq s6.cZ s6.now ({p with ttl:=p.ttl - 1}:aD) y (.slice ao y.bN.length c) w7:=HR.at n7 Yo Yy t7.out rfl rfl rfl rfl))
     clear hS hk7;rename_i iV;clear iV;clear HV;have ua7:=(nG.trans (.below (aU _ _).drew)).trans u7;obtain⟨s7,hs7⟩:∃z,({s6 with A:=iO s6.A p.dest (s6.now+3000)}:St)=z:=⟨_,rfl⟩;have h7:Hid (s7.now=s.now∧ {s7 with A:=iO s7.A p.aJ (s7.now+3000)}=s2):=by
      show _∧_;rw[<-hs7];have e:=h6.out.2;rw[<-h6.out.1]at e;exact⟨h6.out.1,e⟩
     rw[hs7]at n7 ua7 Qb P_;clear hs7 nG u7 n6 JY Yz kP Uz h6;have hn7:0<=s7.now∧s7.now<=4611686018427387904:=by rw[h7.out.1];exact fK
     have HV:Hid (∀t,t=s7.now+3000->Calls Tryz.prog 81 #[.pointer (some ⟨g7.x.T,0,none⟩),.int .u32 p.aJ,.int .u64 t] w7.drew λr w'=>r=.returned (.tuple #[])∧lV N B g7 s7 s2 TL w7.drew w'):=by
      rintro _ rfl;have:=Oe n7.drew p.aJ (s7.now+3000) hfr (by unfold BZ;omega);rw[h7.out.2]at this;exact this
     have hsm:Hid (s2.me=s7.me∧s2.seq=s7.seq∧s2.cZ=s7.cZ∧s2.now=s7.now):=by
      show _∧_;rw[<-h7.out.2];exact⟨rfl,rfl,rfl,rfl⟩
     have hS:HR N B g7.x.T C E s7.me s7.seq s7.cZ s7.now ({p with ttl:=p.ttl - 1}:aD) y (.slice ao y.bN.length c) w7.drew:=HR.jW n7 Yo Yy rfl rfl rfl rfl rfl;go_wp2_with fail;go_region_held3 (HR N B g7.x.T C E s7.me s7.seq s7.cZ s7.now ({p with ttl:=p.ttl - 1}:aD) y (.slice ao y.bN.length c)) (first|with_reducible exact hS|with_reducible assumption) ((go_at_call 81;refine(HV.out _ (by first|rfl|exact mK hn7 (by decide))).mono ?_;rintro e w8 ⟨rfl,hN⟩;obtain⟨g8,n8,u8,t8⟩:=hN;obtain⟨KX,abR⟩:=u8.kF Yo Qb;obtain⟨UB,abQ⟩:=u8.keepR Yy P_;have hk8:HR N B g7.x.T C E s7.me s7.seq s7.cZ s7.now ({p with ttl:=p.ttl - 1}:aD) y (.slice ao y.bN.length c) w8:=HR.at n8 KX UB t8.out hsm.out.1 hsm.out.2.1 hsm.out.2.2.1 hsm.out.2.2.2))
     clear hS hk8;rename_i iV;clear iV;have VW:=(ua7.trans (.below (aU _ _).drew)).trans u8;have ta:g8.x.T=g.x.T:=t8.out.trans (t7.out.trans t6.out);clear Yo Yy KX UB;go_wp2;go_returns;exact⟨rfl,g8,n8,VW,ta⟩
end Go.Proofs.YtakaadcpaeiccabGreat
