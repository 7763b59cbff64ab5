import Derived.Test.YtakaadcpaeiccabGreatC18
import Derived.Conc.MuLone
import Derived.KernelRfl
set_option maxHeartbeats 8000000
set_option maxRecDepth 100000
namespace Go.Proofs.YtakaadcpaeiccabGreat
open Go.RowKit Go.Maps
variable{a:qz}{bA:List (Bool×Int×Int)}{aY aL:List (Int×ByteArray)}{aT:List Int}{B N:Nat}{s:St}{W:World}
theorem Nd.off{g:bI}{TL:List Hp.Tm}{W':World}(n:Nd N B g s TL W){S:Nat->Prop}(hf:Fx S W W')(hS:∀k,S k->¬Ft N g s k∧¬jF B g.a k):Nd N B g s TL W':=
 ⟨n.nn.kept λk hk=>hf.block k (n.nn.lt hk) λh=>(hS k h).1 hk,n.ac.kept λk hk=>hf.block k (n.ac.lt hk) λh=>(hS k h).2 hk,n.now,n.bC⟩
theorem Up.fresh{F F':Nat->Prop}{a b c:World}(u:Up B F F' a b){C:Nat}(h:b.grownBy c (some C))(hC:a.heap.size<=C):Up B F F' a c:=
 ⟨λk hk=>(u.sub k hk).imp_right λ⟨h1,h2⟩=>⟨h1,f_ h2 h.size⟩,h.os.trans u.os,h.tape.trans u.tape,h.output.trans u.output,dH u.size h.size,λk o ho hn hA=>by
  have h1:=u.block k o ho hn hA;exact(h.block k (aG h1) λe=>by
   have:=aG ho;have:=Option.some.inj e;omega).trans h1⟩
theorem Eg(c:Array Value):oH (.cells c 52 (0,0)):=⟨λc e=>(by cases e),λc e=>(by cases e),λc e=>(by cases e),λc e=>(by cases e),λc e=>(by cases e)⟩
theorem abV(ha:Asc s.A)(hd:∀d,(s.f d).isSome=true->∃y∈s.A,y.dest=d)(hall:∀y∈s.A,(s.f y.dest).isSome=true):iP s.f (some s.own) s.cmp:=by
 refine⟨s.A.map (λy=>y.dest),(List.pairwise_map (f:=λy:Rt=>y.dest) (R:=λa b:Int=>a<b)).2 ha,λa=>⟨λh=> ?_,λh=> ?_⟩,rfl⟩
 ·obtain⟨y,hy,rfl⟩:=di.1 h;exact hall y hy
 ·obtain⟨y,hy,rfl⟩:=hd a h;exact di.2 ⟨y,hy,rfl⟩
theorem jK.reset{base:Nat}(h:jK B base a bA aL aY aT W){v:Value}{aaw:List (Bool×Int×Int)}(ho:W.ownsRow base 82 3 v aaw.length (RC aaw)):
  jK B base {a with nX:=v,bC:=true} aaw aL aY aT ((W.setCell ⟨B,1,none⟩ v).setCell ⟨B,3,none⟩ (.bool true))∧W.grownBy ((W.setCell ⟨B,1,none⟩ v).setCell ⟨B,3,none⟩ (.bool true)) (some B):=by
 have hg:=ah (ah (aC W (some B)) 1 v) 3 (.bool true);have hB:=(h.blk.Q_ v).Q9 true;exact⟨⟨hB,ho.kept hg (.inr (aB ho h.blk (λc e=>(by cases e)))),h.aK.kept hg (.inr (aB h.aK h.blk (λc e=>(by cases e)))),h.bP.kept hg (.inr (aB h.bP h.blk (λc e=>(by cases e)))),h.bQ.kept hg (.inr (aB h.bQ h.blk (λc e=>(by cases e))))⟩,hg⟩
theorem jK.DY{base:Nat}(h:jK B base a bA aL aY aT W)(b:ByteArray):
  jK B base {a with bn:=b} bA aL aY aT (W.setCell ⟨B,2,none⟩ (.string b))∧W.grownBy (W.setCell ⟨B,2,none⟩ (.string b)) (some B):=by
 have hg:=ah (aC W (some B)) 2 (.string b);exact⟨⟨h.blk.DY b,h.nX.kept hg (.inr (aB h.nX h.blk (λc e=>(by cases e)))),h.aK.kept hg (.inr (aB h.aK h.blk (λc e=>(by cases e)))),h.bP.kept hg (.inr (aB h.bP h.blk (λc e=>(by cases e)))),h.bQ.kept hg (.inr (aB h.bQ h.blk (λc e=>(by cases e))))⟩,hg⟩
def af9(N B:Nat)(g:bI)(s s':St)(TL:List Hp.Tm)(w:World)(e:Ending)(w':World):Prop:=∃g',e=.returned (iZ s'.bn s'.bC g'.a.aK g'.a.bP g'.a.bQ)∧Nd N B g' s' TL w'∧Up B (Ft N g s) (Ft N g' s') w w'∧Hid (g'.x.T=g.x.T)
theorem oW{g:bI}{TL:List Hp.Tm}{w:World}(n:Nd N B g s TL w)(hd:s.Dom)(hc:0<=s.cnt∧s.cnt<=900000)(hw:s.bA.length<=80000)(hbd:qy s.bA)(hq:bB s.seq):
  Calls Tryz.prog 48 #[.pointer (some ⟨N,0,none⟩),.pointer (some ⟨B,0,none⟩)] w (af9 N B g s s.finish TL w):=by
 have hA:=n.nn.cr.tb.ok;have hb0:Below w.heap.size w (w.alloc jo):=bq;have hC0:(w.alloc jo).heap[w.heap.size]?=some jo:=bS _ _;have kM:¬Ft N g s w.heap.size:=n.new (aD _);have hBC:B<w.heap.size:=n.ac.blk.lt;have n0:=n.later hb0;have HW:=hide (YX n0 hd (by omega) (by omega));obtain⟨s1,hs1⟩:∃z,s.write=z:=⟨_,rfl⟩;have hd1:s1.Dom:=by rw[<-hs1];exact Dr hd hA hq
 have hall:∀y∈s1.A,(s1.f y.dest).isSome=true:=by rw[<-hs1];exact OI
 have Ua:qy s1.bA:=by rw[<-hs1];exact Br hbd (GK hq s.f hA)
 have hlen:=oJ s.seq s.own s.f s.A;have hA8:=n.nn.cr.tb.len;have hn1:s1.bA.length<=90000:=by
  rw[<-hs1];show(s.bA++_).length<=_;rw[dw];omega
 have hc1:0<=s1.cnt∧s1.cnt<=1000000:=by
  rw[<-hs1];show 0<=s.cnt+_∧s.cnt+_<=_;omega
 obtain⟨s2,hs2⟩:∃z,s.finish=z:=⟨_,rfl⟩;rw[hs2];have wT:Hid ((if s1.cnt>24 then {s1 with bA:=s1.cmp,cnt:=s1.cmp.length,bC:=true}else s1)=s2):=by
  show _=_;rw[<-hs2,<-hs1];rfl
 rw[hs1]at HW;have hd1:=hide hd1;have hall:=hide hall;have Ua:=hide Ua;have hn1:=hide hn1;clear hs1 hs2 hd hc hw hbd hlen hA8 n;dsimp only[jo]at hb0 hC0 HW;go_enter Tryz.func48,Tryz.ntmps48;go_upto_region 1 with(fail);generalize World.alloc _ _=W1 at hb0 hC0 HW n0 ⊢;go_wp2_with fail;refine aU HW.out ?_;rintro e w2 ⟨rfl,g2,n2,u2,t2⟩;obtain⟨hC2,Ik⟩:=u2.keep hC0 kM (Eg _);have Jg:=(Up.below hb0:Up B (Ft N g s) (Ft N g s) w W1).trans u2;clear HW hC0 hb0 u2 n0 kM;obtain⟨m0,m2,m3,m4,m5,m6,m7,m8,m9,m10⟩:=n2.nn.cr.nd.cell;rw[n2.nn.eq.cnt]at m10;obtain⟨b0,b1,b2,b3,b4,b5,b6⟩:=n2.ac.blk.cell;have hCg:w.heap.size<=w.heap.size:=aD _;generalize l9:w.heap.size=C at hC2 Ik hBC hCg ⊢;replace l9:=hide l9;by_cases h24:s1.cnt>24
 ·have hd24:decide (24<s1.cnt)=true:=gu (by omega);replace wT:=hide ((aQ h24).symm.trans wT.out);clear h24;have hz2:=n2.nn.cr.size_le hd1.out.on;have hown:=hd1.out.own;rw[<-n2.nn.eq.own]at hown;have HC:=hide (IK N g2.x s1.f g2.sz w2 n2.nn.cr.nd n2.nn.cr.mo hd1.out.mb hown (by omega) ⟨s1.A.map (·.dest),by have:=n2.nn.cr.tb.len;rw[iL];omega,λa ha=>by obtain⟨y,hy,e⟩:=hd1.out.on a ha;exact di.2 ⟨y,hy,e⟩⟩);go_wp2_with fail;refine aU HC.out ?_;rintro e w3 ⟨v3,out,rfl,hcmp,hr3,AB,hM3,hf3⟩;have hout:out=s1.cmp:=by
   rw[n2.nn.eq.own]at hcmp;exact hcmp.unique (abV n2.nn.cr.tb.xD hd1.out.on hall.out)
  have FN:out.length<=9:=by
   rw[hout];have:=n2.nn.cr.tb.len;simp only[St.cmp,dz,gM,dw,iL,dU,List.length_nil];omega
  clear HC hcmp;have hNA:∀k,jF B g2.a k->¬k=N:=λk hk e=>n2.ac.JW n2.nn (.inl (.inl e)) hk;have ac3:=n2.ac.kept (W':=w3) λk hk=>hf3.block k (n2.ac.lt hk) (hNA k hk);have ac2:w3.ownsRow (B+1) 82 3 v3 out.length (RC out):=ownsRow_base_a hr3 n2.base;obtain⟨ac4,hg4⟩:=ac3.reset ac2;have hB3:=ac3.blk;have afD:N≠B:=λe=>hNA B (.inl rfl) e.symm;have BQ:iI N {g2.x with cnt:=out.length} ((w3.setCell ⟨B,1,none⟩ v3).setCell ⟨B,3,none⟩ (.bool true)):=AB.kept hg4 (λe=>afD (Option.some.inj e).symm);have hMB:g2.x.Mo≠B:=λe=>n2.ac.JW n2.nn (.inl (.inr (.inl rfl))) (.inl e);have Cf:MapU ((w3.setCell ⟨B,1,none⟩ v3).setCell ⟨B,3,none⟩ (.bool true)) g2.x.Mo s1.f g2.sz:=hM3.kept hg4 (λe=>hMB (Option.some.inj e));have hfx:Fx (λk=>k=N∨k=B) w2 ((w3.setCell ⟨B,1,none⟩ v3).setCell ⟨B,3,none⟩ (.bool true)):=aW (hf3.mono λ_ h=> .inl h) hg4 (λi _ e=> .inr (Option.some.inj e).symm);have hT4:MT g2.x.self g2.x.T g2.M g2.ff g2.gg s1.A ((w3.setCell ⟨B,1,none⟩ v3).setCell ⟨B,3,none⟩ (.bool true)):=n2.nn.cr.tb.kept λk hk=>hfx.block k (n2.nn.cr.tb.lt hk) (by
   rintro(rfl|rfl)
   ·exact n2.nn.cr.tb.not (λe=>by
     obtain⟨es,cl,hm⟩:=n2.nn.cr.tb.map.obj;rw[<-e,show w2.heap[k]?=_ from n2.nn.cr.nd]at hm;cases hm) n2.nn.cr.nd (rV _) hk
   ·exact n2.ac.JW n2.nn (.inl (.inr (.inr hk))) (.inl rfl))
  have hCf:((w3.setCell ⟨B,1,none⟩ v3).setCell ⟨B,3,none⟩ (.bool true)).heap[C]?=w2.heap[C]?:=hfx.block C (aG hC2) (by
   rintro(rfl|h)
   ·exact Ik (.inl (.inl rfl))
   ·omega)
  obtain⟨e1,e2,e3,e4,e5,e6,e7,e8,e9⟩:=n2.nn.eq;obtain⟨n4,u4⟩:=n2.core (s':={s1 with bA:=out,cnt:=out.length,bC:=true}) ⟨BQ,Cf,hT4,n2.nn.cr.ne⟩ ac4 (hfx.mono λk h=>by
   rcases h with rfl|rfl
   ·exact .inl (.inl rfl)
   ·exact .inr (.inl rfl)) (λk hk=>hk) ⟨rfl,rfl,rfl,rfl,rfl⟩ ⟨e1,e2,e3,e4,e5,e6,e7,rfl,e9⟩ ⟨rfl,rfl,rfl,rfl,rfl⟩ n2.nn.Jh n2.now rfl
  have yh:=hCf.trans hC2;have hs4:Hid (({s1 with bA:=out,cnt:=out.length,bC:=true}:St)=s2):=by
   show _=_;rw[hout];exact wT.out
  have hb4:Hid (qy s2.bA):=by
   show qy _;rw[<-hs4.out];intro x hx;have hx':x∈out:=hx;rw[hout]at hx';simp only[St.cmp,dz,gM,d_,fe,di]at hx';have h1:=hd1.out.own;rcases hx' with rfl|⟨a,ha,rfl⟩
   ·unfold bB at h1;dsimp only;omega
   ·obtain⟨y,hy,rfl⟩:=ha;have h2:=(n2.nn.cr.tb.ok y hy).dest;have h3:=hd1.out.mb.getD y.dest;unfold bB at h2 h3;dsimp only;omega
  have hl4:Hid (s2.bA.length<=90000):=by
   show _<=_;rw[<-hs4.out];show out.length<=_;omega
  rw[hs4.out]at n4 u4;have rC:¬Ft N _ s2 C:=λh=>(u4.sub C h).elim Ik (by have:=aG hC2;omega);have qg:=Jg.trans u4;have t4:Hid (({g2 with x:={g2.x with cnt:=(out.length:Int)},a:={g2.a with nX:=v3,bC:=true}}:bI).x.T=g.x.T):=t2;have afR:B<C:=hBC;obtain⟨a3',c3',hv3,_⟩:=ak hr3;have fB1:=hB3.free 1;have fB3:=hB3.free 3;obtain⟨x0,x1,x2,x3,x4,x5,x6⟩:=hB3.cell;subst hv3;generalize ({g2 with x:={g2.x with cnt:=(out.length:Int)},a:={g2.a with nX:=.slice a3' out.length c3',bC:=true}}:bI)=g4 at n4 u4 rC qg t4;clear n2 Jg AB hM3 hf3 hr3 ac2 ac3 ac4 hg4 hB3 BQ Cf hfx hT4 hCf hC2 Ik u4 m0 m2 m3 m4 m5 m6 m7 m8 m9 m10 b0 b1 b2 b3 b4 b5 b6 e1 e2 e3 e4 e5 e6 e7 e8 e9 wT hNA hout FN hown hz2 hall Ua hn1 hd1 hs4;go_upto_region 5 with(fail);generalize World.setCell _ _ _=W4 at n4 qg yh ⊢;clear x0 x1 x2 x3 x4 x5 x6 fB1 fB3;obtain⟨b0,b1,b2,b3,b4,b5,b6⟩:=n4.ac.blk.cell;obtain⟨a7,k7,hv7,hH7⟩:=ak n4.ac.nX;rw[hv7]at b1;have HJ:=hide (qi a7 s2.bA.length k7 s2.bA rfl (by have:=hl4.out;omega) hb4.out W4 hH7);clear hv7 hH7;go_wp2_with fail;refine aU HJ.out ?_;rintro e w5 ⟨rfl,hb5⟩;have n5:=n4.later hb5;have rW:=(hb5.block C (aG yh)).trans yh;have yE:=qg.trans (.below hb5:Up B (Ft N g4 s2) (Ft N g4 s2) W4 w5);have abC:¬jF B g4.a C:=λh=>n5.ac.kinds h rW (Eg _);clear HJ n4 qg yh hb5 b0 b1 b2 b3 b4 b5 b6;obtain⟨b0,b1,b2,b3,b4,b5,b6⟩:=n5.ac.blk.cell;have f2:=n5.ac.blk.free 2;rw[show strOfNums (bE s2.bA)=s2.bn from rfl];obtain⟨ac6,jr⟩:=n5.ac.DY s2.bn;obtain⟨n6,u6⟩:=n5.act (s':=s2) ac6 (Fx.grown jr λk e=>by cases e;exact .inl rfl) ⟨rfl,rfl,rfl,rfl,rfl,rfl,rfl,rfl,rfl,rfl,rfl,rfl,rfl,rfl,rfl⟩ n5.now n5.bC;have gF:=(jr.block C (aG rW) (λe=>by have:=Option.some.inj e;omega)).trans rW;have nM:=yE.trans u6;have kS:¬Ft N {g4 with a:={g4.a with bn:=s2.bn}} s2 C:=rC;have Ul:¬jF B ({g4 with a:={g4.a with bn:=s2.bn}}:bI).a C:=abC;have t6:Hid (({g4 with a:={g4.a with bn:=s2.bn}}:bI).x.T=g.x.T):=t4;have hj6:({g4 with a:={g4.a with bn:=s2.bn}}:bI).a.bn=s2.bn:=rfl;generalize ({g4 with a:={g4.a with bn:=s2.bn}}:bI)=g6 at n6 nM kS Ul t6 hj6;clear ac6 jr u6 n5 yE rW;go_upto_region 6 with(fail);generalize World.setCell _ _ _=W6 at n6 nM gF ⊢;clear b0 b1 b2 b3 b4 b5 b6 f2;obtain⟨b0,b1,b2,b3,b4,b5,b6⟩:=n6.ac.blk.cell;rw[hj6]at b2;rw[n6.bC]at b3;obtain⟨af,kf,hf,_⟩:=ak n6.ac.aK;obtain⟨ac,kc,hc,_⟩:=ak n6.ac.bP;obtain⟨ad,kd,hdd,_⟩:=ak n6.ac.bQ;rw[hf]at b4;rw[hc]at b5;rw[hdd]at b6;have q0:W6.cell? ⟨C,0,none⟩=some (.string ⟨#[]⟩):=aH _ _ 0 _ _ _ gF;have q1:W6.cell? ⟨C,1,none⟩=some (.bool false):=aH _ _ 1 _ _ _ gF;have q2:W6.cell? ⟨C,2,none⟩=some (.slice none 0 0):=aH _ _ 2 _ _ _ gF;have q3:W6.cell? ⟨C,3,none⟩=some (.slice none 0 0):=aH _ _ 3 _ _ _ gF;have q4:W6.cell? ⟨C,4,none⟩=some (.slice none 0 0):=aH _ _ 4 _ _ _ gF;have z0:=mO W6 C 0 _ _ gF;have z1:=mO W6 C 1 _ _ gF;have z2:=mO W6 C 2 _ _ gF;have z3:=mO W6 C 3 _ _ gF;have z4:=mO W6 C 4 _ _ gF;have gW:=ah (ah (ah (ah (ah (aC W6 (some C)) 0 (.string s2.bn)) 1 (.bool s2.bC)) 2 (.slice af s2.aL.length kf)) 3 (.slice ac s2.aY.length kc)) 4 (.slice ad s2.aT.length kd);have gK:(((((W6.setCell ⟨C,0,none⟩ (.string s2.bn)).setCell ⟨C,1,none⟩ (.bool s2.bC)).setCell ⟨C,2,none⟩ (.slice af s2.aL.length kf)).setCell ⟨C,3,none⟩ (.slice ac s2.aY.length kc)).setCell ⟨C,4,none⟩ (.slice ad s2.aT.length kd)).heap[C]?=some (.cells #[.string s2.bn,.bool s2.bC,.slice af s2.aL.length kf,.slice ac s2.aY.length kc,.slice ad s2.aT.length kd] 52):=by
   simp[World.setCell,dX,gF]
  have n7:=n6.off (S:=λk=>k=C) (Fx.grown gW λk e=>by cases e;rfl) (by rintro k rfl;exact⟨kS,Ul⟩);have u7:=nM.fresh gW (by rw[l9.out];exact aD _);have afQ:C≠B:=by omega
  clear gW n6 nM;go_wp2;generalize World.setCell _ _ _=W7 at gK n7 u7 ⊢;have p0:W7.cell? ⟨C,0,none⟩=some (.string s2.bn):=aH _ _ 0 _ _ _ gK;have p1:W7.cell? ⟨C,1,none⟩=some (.bool s2.bC):=aH _ _ 1 _ _ _ gK;have p2:W7.cell? ⟨C,2,none⟩=some (.slice af s2.aL.length kf):=aH _ _ 2 _ _ _ gK;have p3:W7.cell? ⟨C,3,none⟩=some (.slice ac s2.aY.length kc):=aH _ _ 3 _ _ _ gK;have p4:W7.cell? ⟨C,4,none⟩=some (.slice ad s2.aT.length kd):=aH _ _ 4 _ _ _ gK;refine bodyPost_ret (v:=.agg #[.string s2.bn,.bool s2.bC,.slice af s2.aL.length kf,.slice ac s2.aY.length kc,.slice ad s2.aT.length kd]) (by simp[results,Tryz.results48,go_sem,p0,p1,p2,p3,p4]) rfl ⟨g6,?_,n7,u7,t6⟩;rw[hf,hc,hdd];rfl
 ·have hd24:decide (24<s1.cnt)=false:=fB (by omega);replace wT:=hide ((aM h24).symm.trans wT.out);have hb4:Hid (qy s2.bA):=by rw[<-wT.out];exact Ua
  have hl4:Hid (s2.bA.length<=90000):=by rw[<-wT.out];exact hn1
  have n4:=n2;have qg:=Jg;have yh:=hC2;have rC:=Ik;rw[wT.out]at n4 qg rC;have t4:=t2;have afR:=hBC;clear n2 Jg hC2 Ik wT h24 b0 b1 b2 b3 b4 b5 b6 m0 m2 m3 m4 m5 m6 m7 m8 m9 hall Ua hn1 hd1;go_upto_region 5 with(fail);clear m10;obtain⟨b0,b1,b2,b3,b4,b5,b6⟩:=n4.ac.blk.cell;obtain⟨a7,k7,hv7,hH7⟩:=ak n4.ac.nX;rw[hv7]at b1;have HJ:=hide (qi a7 s2.bA.length k7 s2.bA rfl (by have:=hl4.out;omega) hb4.out w2 hH7);clear hv7 hH7;go_wp2_with fail;refine aU HJ.out ?_;rintro e w5 ⟨rfl,hb5⟩;have n5:=n4.later hb5;have rW:=(hb5.block C (aG yh)).trans yh;have yE:=qg.trans (.below hb5:Up B (Ft N g2 s2) (Ft N g2 s2) w2 w5);have abC:¬jF B g2.a C:=λh=>n5.ac.kinds h rW (Eg _);clear HJ n4 qg yh hb5 b0 b1 b2 b3 b4 b5 b6;obtain⟨b0,b1,b2,b3,b4,b5,b6⟩:=n5.ac.blk.cell;have f2:=n5.ac.blk.free 2;rw[show strOfNums (bE s2.bA)=s2.bn from rfl];obtain⟨ac6,jr⟩:=n5.ac.DY s2.bn;obtain⟨n6,u6⟩:=n5.act (s':=s2) ac6 (Fx.grown jr λk e=>by cases e;exact .inl rfl) ⟨rfl,rfl,rfl,rfl,rfl,rfl,rfl,rfl,rfl,rfl,rfl,rfl,rfl,rfl,rfl⟩ n5.now n5.bC;have gF:=(jr.block C (aG rW) (λe=>by have:=Option.some.inj e;omega)).trans rW;have nM:=yE.trans u6;have kS:¬Ft N {g2 with a:={g2.a with bn:=s2.bn}} s2 C:=rC;have Ul:¬jF B ({g2 with a:={g2.a with bn:=s2.bn}}:bI).a C:=abC;have t6:Hid (({g2 with a:={g2.a with bn:=s2.bn}}:bI).x.T=g.x.T):=t4;have hj6:({g2 with a:={g2.a with bn:=s2.bn}}:bI).a.bn=s2.bn:=rfl;generalize ({g2 with a:={g2.a with bn:=s2.bn}}:bI)=g6 at n6 nM kS Ul t6 hj6;clear ac6 jr u6 n5 yE rW;go_upto_region 6 with(fail);generalize World.setCell _ _ _=W6 at n6 nM gF ⊢;clear b0 b1 b2 b3 b4 b5 b6 f2;obtain⟨b0,b1,b2,b3,b4,b5,b6⟩:=n6.ac.blk.cell;rw[hj6]at b2;rw[n6.bC]at b3;obtain⟨af,kf,hf,_⟩:=ak n6.ac.aK;obtain⟨ac,kc,hc,_⟩:=ak n6.ac.bP;obtain⟨ad,kd,hdd,_⟩:=ak n6.ac.bQ;rw[hf]at b4;rw[hc]at b5;rw[hdd]at b6;have q0:W6.cell? ⟨C,0,none⟩=some (.string ⟨#[]⟩):=aH _ _ 0 _ _ _ gF;have q1:W6.cell? ⟨C,1,none⟩=some (.bool false):=aH _ _ 1 _ _ _ gF;have q2:W6.cell? ⟨C,2,none⟩=some (.slice none 0 0):=aH _ _ 2 _ _ _ gF;have q3:W6.cell? ⟨C,3,none⟩=some (.slice none 0 0):=aH _ _ 3 _ _ _ gF;have q4:W6.cell? ⟨C,4,none⟩=some (.slice none 0 0):=aH _ _ 4 _ _ _ gF;have z0:=mO W6 C 0 _ _ gF;have z1:=mO W6 C 1 _ _ gF;have z2:=mO W6 C 2 _ _ gF;have z3:=mO W6 C 3 _ _ gF;have z4:=mO W6 C 4 _ _ gF;have gW:=ah (ah (ah (ah (ah (aC W6 (some C)) 0 (.string s2.bn)) 1 (.bool s2.bC)) 2 (.slice af s2.aL.length kf)) 3 (.slice ac s2.aY.length kc)) 4 (.slice ad s2.aT.length kd);have gK:(((((W6.setCell ⟨C,0,none⟩ (.string s2.bn)).setCell ⟨C,1,none⟩ (.bool s2.bC)).setCell ⟨C,2,none⟩ (.slice af s2.aL.length kf)).setCell ⟨C,3,none⟩ (.slice ac s2.aY.length kc)).setCell ⟨C,4,none⟩ (.slice ad s2.aT.length kd)).heap[C]?=some (.cells #[.string s2.bn,.bool s2.bC,.slice af s2.aL.length kf,.slice ac s2.aY.length kc,.slice ad s2.aT.length kd] 52):=by
   simp[World.setCell,dX,gF]
  have n7:=n6.off (S:=λk=>k=C) (Fx.grown gW λk e=>by cases e;rfl) (by rintro k rfl;exact⟨kS,Ul⟩);have u7:=nM.fresh gW (by rw[l9.out];exact aD _);have afQ:C≠B:=by omega
  clear gW n6 nM;go_wp2;generalize World.setCell _ _ _=W7 at gK n7 u7 ⊢;have p0:W7.cell? ⟨C,0,none⟩=some (.string s2.bn):=aH _ _ 0 _ _ _ gK;have p1:W7.cell? ⟨C,1,none⟩=some (.bool s2.bC):=aH _ _ 1 _ _ _ gK;have p2:W7.cell? ⟨C,2,none⟩=some (.slice af s2.aL.length kf):=aH _ _ 2 _ _ _ gK;have p3:W7.cell? ⟨C,3,none⟩=some (.slice ac s2.aY.length kc):=aH _ _ 3 _ _ _ gK;have p4:W7.cell? ⟨C,4,none⟩=some (.slice ad s2.aT.length kd):=aH _ _ 4 _ _ _ gK;refine bodyPost_ret (v:=.agg #[.string s2.bn,.bool s2.bC,.slice af s2.aL.length kf,.slice ac s2.aY.length kc,.slice ad s2.aT.length kd]) (by simp[results,Tryz.results48,go_sem,p0,p1,p2,p3,p4]) rfl ⟨g6,?_,n7,u7,t6⟩;rw[hf,hc,hdd];rfl
variable{seq cZ:Int}{q:Int×Int}{B C N Q T:Nat}{p:aF}{s:St}{W a b:World}
theorem aap(q:Int×Int):oH (fQ q):=⟨λc e=>(by cases e),λc e=>(by cases e),λc e=>(by cases e),λc e=>(by cases e),λc e=>(by cases e)⟩
theorem Up.SH{D:Nat}{F F':Nat->Prop}(u:Up B F F' a b)(h:QB D q a)(hn:¬F D):QB D q b∧¬F' D:=u.keep h hn (aap q)
theorem QB.later{D:Nat}(h:QB D q a)(hb:Below a.heap.size a b):QB D q b:=(hb.block _ (aG h)).trans h
@[reducible] def HQ(N B T C Q : Nat)(me seq cZ now : Int)(p : aF)(W : World): Prop :=
 HC N B T C me seq cZ now p W∧W.cell? ⟨Q,0,none⟩=some (.int .u32 p.aK)∧W.cell? ⟨Q,1,none⟩=some (.int .u32 p.id)
theorem HQ.at{g:bI}{TL:List Hp.Tm}{me now:Int}(n:Nd N B g s TL W)(h:PB p C W)(hQ:QB Q (p.aK,p.id) W)(t:g.x.T=T)(h1:s.me=me)(h2:s.seq=seq)(h3:s.cZ=cZ)(h4:s.now=now):HQ N B T C Q me seq cZ now p W:=⟨HC.at n h t h1 h2 h3 h4,hQ.cell⟩
theorem HQ.jY{g:bI}{TL:List Hp.Tm}{me now:Int}(n:Nd N B g s TL W)(h:PB p C W)(hQ:QB Q (p.aK,p.id) W)(t:g.x.T=T)(h1:s.me=me)(h2:s.seq=seq)(h3:s.cZ=cZ)(h4:s.now=now):HQ N B T C Q me seq cZ now p W.drew:=HQ.at n.drew h hQ t h1 h2 h3 h4
theorem xP{E:List Mm}{now t:Int}(h:∀e∈E,e.dK<=now+1280){e:Mm}(he:e∈dW E q (now+1280) t):e.dK<=now+1280:=by
 have hp:∀e∈dZ E q (now+1280) t,e.dK<=now+1280:=by
  intro e he;unfold dZ at he;rcases d_.1 he with he|he
  ·exact h e (List.mem_filter.1 he).1
  ·rw[fe]at he;subst he;exact eZ _
 unfold dW at he;split at he
 ·exact hp e (List.mem_of_mem_tail he)
 ·exact hp e he
structure St.Qn(s:St):Prop where
 me:bB s.me
 seq:bB s.seq
 now:0<=s.now∧s.now<=4611686018427387904
 mem:∀e∈s.mem,e.dK<=s.now+1280
 aL:s.aL.length<=900000
 aT:s.aT.length<=900000
 aY:s.aY.length<=900000
theorem Co{g:bI}{TL:List Hp.Tm}{w:World}(n:Nd N B g s TL w)(hF:s.Qn)(htn:s.tn<=4000000000000000000)(fr:Int)(O8:bB fr)(p:aF)(hq:p.Hd)(hL:fI w p []):
  Calls Tryz.prog 130 #[.pointer (some ⟨N,0,none⟩),.pointer (some ⟨B,0,none⟩),.int .u32 fr,p.val] w λe w'=>e=.returned (.tuple #[])∧l6 N B g s (s.dJ fr p) TL w w':=by
 have hp:=hq.wf;have hfl:s.aL.length<=1000000:=by have:=hF.aL;omega
 have hdl:s.aT.length<=1000000:=by have:=hF.aT;omega
 obtain⟨hid,hde,hds,hfr,hfs,_⟩:=hp.num;have hb0:Below w.heap.size w ((w.alloc p.box).alloc (fQ (p.aK,p.id))):=(bq).alloc (by simp) _;have gT:PB p w.heap.size ((w.alloc p.box).alloc (fQ (p.aK,p.id))):=(((aV _ (w.alloc p.box)).alloc (aD _) _).block _ (by simp)).trans (PB.new p w);have Ii:QB (w.heap.size+1) (p.aK,p.id) ((w.alloc p.box).alloc (fQ (p.aK,p.id))):=by
  have:=bS (w.alloc p.box) (fQ (p.aK,p.id));rw[World.size_alloc]at this;exact this
 have n0:=n.later hb0;obtain⟨s2,dD⟩:∃s2,s.dJ fr p=s2:=⟨_,rfl⟩;rw[dD];replace dD:=hide dD;dsimp only[aF.box,fQ]at hb0 n0;unfold PB at gT;unfold QB at Ii;dsimp only[aF.box,fQ]at gT Ii;go_enter Tryz.func130,Tryz.ntmps130;go_upto_region 2 with(fail);generalize World.alloc (World.alloc _ _) _=W1 at hb0 gT Ii n0 ⊢;have kM:=n.new (k:=w.heap.size) (aD _);have hQn:=n.new (k:=w.heap.size+1) (Nat.le_succ _);generalize w.heap.size+1=Q at Ii hQn ⊢;generalize l9:w.heap.size=C at gT kM ⊢;replace l9:=hide l9;have hs2:=dD.out;unfold St.dJ at hs2;have HH:=hide λW5 (h5:Below W1.heap.size W1 W5)=>Qb (n0.later h5) (p.aK,p.id) ⟨hfr,hid⟩ s.now hF.now.1;obtain⟨cb,hcb⟩:∃cb,(decide (p.aK=s.me)||pE s.mem (p.aK,p.id) s.now)=cb:=⟨_,rfl⟩;replace hcb:=hide hcb;go_cut [33]from 16 to 32 (λbv W=>bv=.bool cb∧Below W1.heap.size W1 W)
 case first=>
  obtain⟨⟨⟨m0,m1,m2,m3,m4⟩,p0,p1,p2,p3,p4,p5,p6,p7,p8,p9,jM,jG⟩,q0,q1⟩:=HQ.at n0 gT Ii rfl rfl rfl rfl rfl;have hbd:Below W1.heap.size W1 W1.drew:=(aV _ _).drew;by_cases hse:p.aK=s.me
  ·have hbe:(p.aK==s.me)=true:=by simpa using hse
   obtain rfl:true=cb:=by rw[<-hcb.out,gu hse];rfl
   clear hse HH p0 p1 p2 p3 p5 p6 p8 p9 jM jG m1 m2 m3;go_region
   all_goals
    go_wp2_with fail;go_meet;exact⟨rfl,hbd⟩
  ·have hbe:(p.aK==s.me)=false:=by simpa using hse
   have hd:pE s.mem (p.aK,p.id) s.now=cb:=by rw[<-hcb.out,fB hse];rfl
   rw[hd]at HH;dsimp only[jX]at HH;clear hd hse p0 p1 p2 p3 p5 p6 p8 p9 jM jG m1 m2 m3;go_region_law (first|(go_simp;go_at_call 160;refine(HH.out _ hbd).mono ?_;rintro e w2 ⟨rfl,hb2⟩))
   all_goals
    go_wp2_with fail;go_meet;exact⟨rfl,hbd.trans (hb2.mono hbd.size)⟩
 case rest=>
  obtain⟨rfl,hb2⟩:=hcut;have fM:=hF.now;have n2:=n0.later hb2;have hP2:PB p C wc:=PB.below gT hb2;have hQ2:QB Q (p.aK,p.id) wc:=QB.later Ii hb2;have ua0:Up B (Ft N g s) (Ft N g s) w wc:=.below (hb0.trans (hb2.mono hb0.size));have hLq:=hL.below (hb0.trans (hb2.mono hb0.size));clear HH gT Ii n0 hb0 hb2 dD l9;cases cb
  ·have Ig:=hcb.out;simp only[Bool.or_eq_false_iff,decide_eq_false_iff_not]at Ig;rw[aM (by rintro(h|h);exact Ig.1 h;rw[Ig.2]at h;cases h)]at hs2;clear hcb Ig;have HA:Hid (∀t,t=s.now+1280->Calls Tryz.prog 156 #[.pointer (some ⟨N,8,none⟩),.agg #[.int .u32 p.aK,.int .u32 p.id],.int .u64 t] wc.drew λe w'=>e=.returned (.tuple #[])∧l6 N B g s {s with mem:=dW s.mem (p.aK,p.id) (s.now+1280) s.tn,tn:=s.tn+1} TL wc.drew w'):=by
    rintro _ rfl;exact Qc n2.drew (p.aK,p.id) ⟨hfr,hid⟩ (s.now+1280) (by omega) hF.mem (by omega)
   have hS:HQ N B g.x.T C Q s.me s.seq s.cZ s.now p wc.drew:=HQ.jY n2 hP2 hQ2 rfl rfl rfl rfl rfl;go_wp2_with fail;go_region_held3 (HQ N B g.x.T C Q s.me s.seq s.cZ s.now p) (first|with_reducible exact hS|with_reducible assumption) ((go_at_call 156;refine(HA.out _ (by first|rfl|exact mQ fM (by decide))).mono ?_;rintro e w3 ⟨rfl,hN⟩;obtain⟨g3,n3,u3,t3⟩:=hN;obtain⟨hP3,Pk⟩:=u3.kH hP2 kM;obtain⟨M_,abw⟩:=u3.SH hQ2 hQn;have hk3:HQ N B g.x.T C Q s.me s.seq s.cZ s.now p w3:=HQ.at n3 hP3 M_ t3.out rfl rfl rfl rfl))
   clear hS hk3;rename_i iT;clear iT;have Qr:=(ua0.trans (.below (aV _ _).drew)).trans u3;obtain⟨s1,hs1⟩:∃s1,({s with mem:=dW s.mem (p.aK,p.id) (s.now+1280) s.tn,tn:=s.tn+1}:St)=s1:=⟨_,rfl⟩;have hF1:s1.Qn:=by
    rw[<-hs1];refine⟨hF.me,hF.seq,hF.now,λe he=> ?_,hF.aL,hF.aT,hF.aY⟩;exact xP hF.mem he
   have adQ:fI w3 p []:=hLq.nil;rw[hs1]at n3 Qr Pk abw hs2;clear hs1 HA ua0 hLq n2 hQ2 hP2;unfold St.learn at hs2;have MZ:=hF1.now;obtain⟨u,hu⟩:∃u,iX s1.me s1.A p.aK p.dx (St.far p.hops) fr (s1.now+3000)=u:=⟨_,rfl⟩;have HU:Hid (∀t,t=s1.now+3000->Calls Tryz.prog 161 #[.pointer (some ⟨g3.x.T,0,none⟩),.int .u32 p.aK,.int .u32 p.dx,.int .i64 (St.far p.hops),.int .u32 fr,.int .u64 t] w3.drew λr w'=>r=.returned (.int .i64 u.2)∧l6 N B g3 s1 {s1 with A:=u.1} TL w3.drew w'):=by
    rintro _ rfl;have:=I4 n3.drew p.aK p.dx (St.far p.hops) fr (s1.now+3000) hfr hfs (by have:=hq.hops;unfold o6 St.far;omega) O8 (by unfold Bh;omega);rw[hu]at this;exact this
   rw[hu]at hs2;obtain⟨A2,E2⟩:=u;dsimp only at hs2 HU;clear hu;have hS:HQ N B g3.x.T C Q s1.me s1.seq s1.cZ s1.now p w3.drew:=HQ.jY n3 hP3 M_ rfl rfl rfl rfl rfl;go_wp2_with fail;go_region_held3 (HQ N B g3.x.T C Q s1.me s1.seq s1.cZ s1.now p) (first|with_reducible exact hS|with_reducible assumption) (first
    |(go_at_call 162;refine(vN p.hops hq.hops _).mono ?_;rintro e w3f ⟨rfl,rfl⟩)
    |(go_at_call 161;refine(HU.out _ (by first|rfl|exact mQ MZ (by decide))).mono ?_;rintro e w4 ⟨rfl,hN⟩;obtain⟨g4,n4,u4,t4⟩:=hN;obtain⟨mq,rC⟩:=u4.kH hP3 Pk;obtain⟨BO,X3⟩:=u4.SH M_ abw;have hk4:HQ N B g3.x.T C Q s1.me s1.seq s1.cZ s1.now p w4:=HQ.at n4 mq BO t4.out rfl rfl rfl rfl))
   clear hS;rename_i iT;clear iT;have qg:=(Qr.trans (.below (aV _ _).drew)).trans u4;have t43:Hid (g4.x.T=g.x.T):=t4.out.trans t3.out;obtain⟨s4,hs4⟩:∃s4,({s1 with A:=A2}:St)=s4:=⟨_,rfl⟩;have sS:s4.Qn:=by
    rw[<-hs4];exact⟨hF1.me,hF1.seq,hF1.now,hF1.mem,hF1.aL,hF1.aT,hF1.aY⟩
   have X7:fI w4 p []:=adQ.nil;have adn:Hid (s4.now=s1.now):=by show _=_;rw[<-hs4]
   have hA4:({s1 with A:=iQ A2 p.aK (s1.now+3000)}:St)={s4 with A:=iQ s4.A p.aK (s1.now+3000)}:=by rw[<-hs4]
   rw[hs4,hA4]at hs2;rw[hs4]at n4 qg rC X3;clear hs4 hA4 Qr u4 hk4 n3 hP3 M_ Pk abw HU adQ u3 hF1;by_cases h4:E2=4
   ·subst h4;rw[aQ rfl]at hs2;have HX:=hide (jD n4 2 (by have:=sS.aT;omega));rw[hs2]at HX;go_wp2_with fail;refine aU HX.out ?_;rintro e w9 ⟨rfl,hN⟩;obtain⟨g9,n9,u9,t9⟩:=hN;go_wp2;go_returns;exact⟨rfl,g9,n9,qg.trans u9,t9.out.trans t43⟩
   ·have b4:(E2==4)=false:=by simpa using h4
    rw[aM h4]at hs2;by_cases h3:E2=3
    ·subst h3;rw[aQ rfl]at hs2;have HV:Hid (∀t,t=s1.now+3000->Calls Tryz.prog 81 #[.pointer (some ⟨g4.x.T,0,none⟩),.int .u32 p.aK,.int .u64 t] w4.drew λr w'=>r=.returned (.tuple #[])∧l6 N B g4 s4 {s4 with A:=iQ s4.A p.aK (s1.now+3000)} TL w4.drew w'):=by
      rintro _ rfl;exact Ny n4.drew p.aK (s1.now+3000) hfr (by unfold Bh;omega)
     have hS:HQ N B g4.x.T C Q s4.me s4.seq s4.cZ s1.now p w4.drew:=HQ.jY n4 mq BO rfl rfl rfl rfl adn.out;go_wp2_with fail;go_region_held3 (HQ N B g4.x.T C Q s4.me s4.seq s4.cZ s1.now p) (first|with_reducible exact hS|with_reducible assumption) ((go_at_call 81;refine(HV.out _ (by first|rfl|exact mQ MZ (by decide))).mono ?_;rintro e w6 ⟨rfl,hN⟩;obtain⟨g6,n6,u6,t6⟩:=hN;obtain⟨Jo,kS⟩:=u6.kH mq rC;obtain⟨hQ6,afC⟩:=u6.SH BO X3;have Zt:HQ N B g4.x.T C Q s4.me s4.seq s4.cZ s1.now p w6:=HQ.at n6 Jo hQ6 t6.out rfl rfl rfl adn.out))
     clear hS Zt;rename_i iT;clear iT;have nM:=(qg.trans (.below (aV _ _).drew)).trans u6;have t63:Hid (g6.x.T=g.x.T):=t6.out.trans t43.out;obtain⟨s6,hs6⟩:∃s6,({s4 with A:=iQ s4.A p.aK (s1.now+3000)}:St)=s6:=⟨_,rfl⟩;have VN:s6.Qn:=by
      rw[<-hs6];exact⟨sS.me,sS.seq,sS.now,sS.mem,sS.aL,sS.aT,sS.aY⟩
     have hLq:fI w6 p []:=X7.nil;rw[hs6]at n6 nM kS hs2;clear hs6 qg u6 n4 mq BO rC X3 hQ6 afC HV X7 sS b4;obtain⟨⟨y,fd⟩,hy⟩:∃r,bN s6.A p.dest s6.now=r:=⟨_,rfl⟩;have HF:=hide (nW n6 p.dest s6.now hde hy);go_wp2_with fail;go_cut [9,10]from 82 to 95 (om y fd w6)
     case first=>
      have hS:HB N B g6.x.T C s6.me s6.seq s6.cZ s6.now p w6 w6.drew:=HB.drew (HB.mk' n6 Jo (aV _ _));have hkB:=hide λW5 h5=>HB.mk' (W:=W5) n6 Jo h5;go_region_held3 (HB N B g6.x.T C s6.me s6.seq s6.cZ s6.now p w6) (first|with_reducible exact hS|with_reducible assumption|(with_reducible apply HB.vG hkB;assumption)|(with_reducible apply HB.kI hkB;assumption)|(with_reducible apply HB.eP hkB)|(with_reducible apply hkB.out;assumption)) ((go_at_call 79;refine(HF.out _ (And.right (by assumption))).mono ?_;rintro e w2 ⟨ao,c,rfl,hb2,hpr⟩;try ((with_reducible have hD:=hpr bW (.slice none 0 0) (lK w6));obtain⟨d0,d1,d2,d3,d4,d5,d6⟩:=hD.cell;have q0:=hD.free 0;have q1:=hD.free 1;have q2:=hD.free 2;have q3:=hD.free 3;have q4:=hD.free 4;have q5:=hD.free 5;have q6:=hD.free 6;have hD':Hid (dS w6.heap.size bW (.slice none 0 0) w2):=hD;clear hD);clear hpr))
      all_goals
       go_wp2_with fail;go_meet;first|with_reducible exact iC hb2|with_reducible exact j4 hb2 hD'
     case rest=>
      obtain⟨E,ao,c,rfl,rfl,hE,hEl,l8⟩:=hcut;have n8:=n6.later l8;have Kl:PB p C wc:=PB.below Jo l8;have hL8:=hLq.below l8;have qZ:fd=true->y.Ok:=λh=>by
       have:=oP n6.nn.cr.tb.ok p.dest s6.now;rw[hy]at this;rcases this with h1|h1
       ·exact h1
       ·rw[h]at h1;cases h1
      unfold St.asked at hs2;rw[hy]at hs2;dsimp only at hs2;have Vy:=nM.trans (.below l8);have Av:s6.aL.length<=1000000:=by have:=VN.aL;omega
      have EM:s6.aT.length<=1000000:=by have:=VN.aT;omega
      have hS:HC N B g6.x.T C s6.me s6.seq s6.cZ s6.now p wc.drew:=HC.xw n8 Kl;have Qy:dS E y (.slice ao y.bH.length c) wc.drew:=hE;have n9:=n8.drew;have Jl:PB p C wc.drew:=Kl;have hL9:fI wc.drew p []:=hL8.below (aV _ _).drew;have wB:=Vy.trans (.below (aV _ _).drew);clear HF Jo n6 l8 nM hE n8 Kl hL8 Vy;by_cases ru:p.dest=s6.me
      ·have hbe:(p.dest==s6.me)=true:=by simpa using ru
       rw[aQ ru]at hs2;clear ru;go_wp2_with fail;go_region_held3 (HC N B g6.x.T C s6.me s6.seq s6.cZ s6.now p) (first|with_reducible exact hS|with_reducible assumption) (fail)
       rename_i iT;clear iT hS;generalize World.drew _=W9 at n9 Jl hL9 wB Qy ⊢;have HX:=hide (vX n9 p hq VN.me VN.seq Av EM);rw[hs2]at HX;dsimp only[aF.val]at HX;obtain⟨p0,p1,p2,p3,p4,p5,p6,p7,p8,p9,jM,jG⟩:=PB.cell Jl;clear Jl;go_wp2_with fail;refine aU HX.out ?_;rintro e w9 ⟨rfl,hN⟩;obtain⟨g9,n9,u9,t9⟩:=hN;go_wp2;go_returns;exact⟨rfl,g9,n9,wB.trans u9,t9.out.trans t63.out⟩
      ·have hbe:(p.dest==s6.me)=false:=by simpa using ru
       rw[aM ru]at hs2;go_wp2_with fail;go_region_held3 (HC N B g6.x.T C s6.me s6.seq s6.cZ s6.now p) (first|with_reducible exact hS|with_reducible assumption) (fail)
       rename_i iT;clear iT hS;generalize World.drew _=W9 at n9 Jl hL9 wB Qy ⊢;obtain⟨p0,p1,p2,p3,p4,p5,p6,p7,p8,p9,jM,jG⟩:=PB.cell Jl;obtain⟨e0,e1,e2,e3,e4,e5,e6⟩:=Qy.cell;clear Jl Qy;by_cases hfo:(fd&&(p.unk||decide (y.seq>=p.a_)))=true
       ·rw[aQ hfo]at hs2;have wU:fd=true:=by revert hfo;cases fd<;>simp
        subst wU;have hyk:=qZ rfl;have HX:=hide (tC n9 p hq y hyk ao y.bH.length c (by have:=VN.now;unfold Bh;omega) Av EM);rw[hs2]at HX;dsimp only[aF.val,Ji]at HX;cases hun:p.unk
        ·rw[hun,Bool.true_and,Bool.false_or]at hfo;have hge:decide (p.a_<=y.seq)=true:=hfo;rw[hun]at HX p3;go_wp2_with fail;refine aU HX.out ?_;rintro e w9 ⟨rfl,hN⟩;obtain⟨g9,n9,u9,t9⟩:=hN;go_wp2;go_returns;exact⟨rfl,g9,n9,wB.trans u9,t9.out.trans t63.out⟩
        ·rw[hun]at HX p3;go_wp2_with fail;refine aU HX.out ?_;rintro e w9 ⟨rfl,hN⟩;obtain⟨g9,n9,u9,t9⟩:=hN;go_wp2;go_returns;exact⟨rfl,g9,n9,wB.trans u9,t9.out.trans t63.out⟩
       ·rw[aM hfo]at hs2;have TQ:fd=false∨(fd=true∧p.unk=false∧decide (p.a_<=y.seq)=false):=by
         revert hfo
         cases fd<;>cases p.unk<;>simp
        by_cases htl:p.ttl=1
        ·have hbt:(p.ttl==1)=true:=by simpa using htl
         rw[aQ htl]at hs2;clear htl;have HX:=hide (jD n9 4 EM);rw[hs2]at HX;rcases TQ with rfl|⟨rfl,hun,hge⟩
         ·
          go_wp2_with fail;refine aU HX.out ?_;rintro e w9 ⟨rfl,hN⟩;obtain⟨g9,n9,u9,t9⟩:=hN;go_wp2;go_returns;exact⟨rfl,g9,n9,wB.trans u9,t9.out.trans t63.out⟩
         ·rw[hun]at p3;go_wp2_with fail;refine aU HX.out ?_;rintro e w9 ⟨rfl,hN⟩;obtain⟨g9,n9,u9,t9⟩:=hN;go_wp2;go_returns;exact⟨rfl,g9,n9,wB.trans u9,t9.out.trans t63.out⟩
        ·have hbt:(p.ttl==1)=false:=by simpa using htl
         rw[aM htl]at hs2;have HX:=hide (NA n9 p hq hL9 Av);rw[hs2]at HX;dsimp only[aF.val]at HX;rcases TQ with rfl|⟨rfl,hun,hge⟩
         ·
          go_wp2_with fail;refine aU HX.out ?_;rintro e w9 ⟨rfl,hN⟩;obtain⟨g9,n9,u9,t9⟩:=hN;go_wp2;go_returns;exact⟨rfl,g9,n9,wB.trans u9,t9.out.trans t63.out⟩
         ·rw[hun]at HX p3;go_wp2_with fail;refine aU HX.out ?_;rintro e w9 ⟨rfl,hN⟩;obtain⟨g9,n9,u9,t9⟩:=hN;go_wp2;go_returns;exact⟨rfl,g9,n9,wB.trans u9,t9.out.trans t63.out⟩
    ·have b3:(E2==3)=false:=by simpa using h3
     rw[aM h3]at hs2;have hLq:=X7;clear BO X3 X7;obtain⟨⟨y,fd⟩,hy⟩:∃r,bN s4.A p.dest s4.now=r:=⟨_,rfl⟩;have HF:=hide (nW n4 p.dest s4.now hde hy);go_wp2_with fail;go_cut [9,10]from 82 to 95 (om y fd w4)
     case first=>
      have hS:HB N B g4.x.T C s4.me s4.seq s4.cZ s4.now p w4 w4.drew:=HB.drew (HB.mk' n4 mq (aV _ _));have hkB:=hide λW5 h5=>HB.mk' (W:=W5) n4 mq h5;go_region_held3 (HB N B g4.x.T C s4.me s4.seq s4.cZ s4.now p w4) (first|with_reducible exact hS|with_reducible assumption|(with_reducible apply HB.vG hkB;assumption)|(with_reducible apply HB.kI hkB;assumption)|(with_reducible apply HB.eP hkB)|(with_reducible apply hkB.out;assumption)) ((go_at_call 79;refine(HF.out _ (And.right (by assumption))).mono ?_;rintro e w2 ⟨ao,c,rfl,hb2,hpr⟩;try ((with_reducible have hD:=hpr bW (.slice none 0 0) (lK w4));obtain⟨d0,d1,d2,d3,d4,d5,d6⟩:=hD.cell;have q0:=hD.free 0;have q1:=hD.free 1;have q2:=hD.free 2;have q3:=hD.free 3;have q4:=hD.free 4;have q5:=hD.free 5;have q6:=hD.free 6;have hD':Hid (dS w4.heap.size bW (.slice none 0 0) w2):=hD;clear hD);clear hpr))
      all_goals
       go_wp2_with fail;go_meet;first|with_reducible exact iC hb2|with_reducible exact j4 hb2 hD'
     case rest=>
      obtain⟨E,ao,c,rfl,rfl,hE,hEl,l8⟩:=hcut;have n8:=n4.later l8;have Kl:PB p C wc:=PB.below mq l8;have hL8:=hLq.below l8;have qZ:fd=true->y.Ok:=λh=>by
       have:=oP n4.nn.cr.tb.ok p.dest s4.now;rw[hy]at this;rcases this with h1|h1
       ·exact h1
       ·rw[h]at h1;cases h1
      unfold St.asked at hs2;rw[hy]at hs2;dsimp only at hs2;have Vy:=qg.trans (.below l8);have Av:s4.aL.length<=1000000:=by have:=sS.aL;omega
      have EM:s4.aT.length<=1000000:=by have:=sS.aT;omega
      have hS:HC N B g4.x.T C s4.me s4.seq s4.cZ s4.now p wc.drew:=HC.xw n8 Kl;have Qy:dS E y (.slice ao y.bH.length c) wc.drew:=hE;have n9:=n8.drew;have Jl:PB p C wc.drew:=Kl;have hL9:fI wc.drew p []:=hL8.below (aV _ _).drew;have wB:=Vy.trans (.below (aV _ _).drew);clear HF mq n4 l8 qg hE n8 Kl hL8 Vy;by_cases ru:p.dest=s4.me
      ·have hbe:(p.dest==s4.me)=true:=by simpa using ru
       rw[aQ ru]at hs2;clear ru;go_wp2_with fail;go_region_held3 (HC N B g4.x.T C s4.me s4.seq s4.cZ s4.now p) (first|with_reducible exact hS|with_reducible assumption) (fail)
       rename_i iT;clear iT hS;generalize World.drew _=W9 at n9 Jl hL9 wB Qy ⊢;have HX:=hide (vX n9 p hq sS.me sS.seq Av EM);rw[hs2]at HX;dsimp only[aF.val]at HX;obtain⟨p0,p1,p2,p3,p4,p5,p6,p7,p8,p9,jM,jG⟩:=PB.cell Jl;clear Jl;go_wp2_with fail;refine aU HX.out ?_;rintro e w9 ⟨rfl,hN⟩;obtain⟨g9,n9,u9,t9⟩:=hN;go_wp2;go_returns;exact⟨rfl,g9,n9,wB.trans u9,t9.out.trans t43.out⟩
      ·have hbe:(p.dest==s4.me)=false:=by simpa using ru
       rw[aM ru]at hs2;go_wp2_with fail;go_region_held3 (HC N B g4.x.T C s4.me s4.seq s4.cZ s4.now p) (first|with_reducible exact hS|with_reducible assumption) (fail)
       rename_i iT;clear iT hS;generalize World.drew _=W9 at n9 Jl hL9 wB Qy ⊢;obtain⟨p0,p1,p2,p3,p4,p5,p6,p7,p8,p9,jM,jG⟩:=PB.cell Jl;obtain⟨e0,e1,e2,e3,e4,e5,e6⟩:=Qy.cell;clear Jl Qy;by_cases hfo:(fd&&(p.unk||decide (y.seq>=p.a_)))=true
       ·rw[aQ hfo]at hs2;have wU:fd=true:=by revert hfo;cases fd<;>simp
        subst wU;have hyk:=qZ rfl;have HX:=hide (tC n9 p hq y hyk ao y.bH.length c (by have:=sS.now;unfold Bh;omega) Av EM);rw[hs2]at HX;dsimp only[aF.val,Ji]at HX;cases hun:p.unk
        ·rw[hun,Bool.true_and,Bool.false_or]at hfo;have hge:decide (p.a_<=y.seq)=true:=hfo;rw[hun]at HX p3;go_wp2_with fail;refine aU HX.out ?_;rintro e w9 ⟨rfl,hN⟩;obtain⟨g9,n9,u9,t9⟩:=hN;go_wp2;go_returns;exact⟨rfl,g9,n9,wB.trans u9,t9.out.trans t43.out⟩
        ·rw[hun]at HX p3;go_wp2_with fail;refine aU HX.out ?_;rintro e w9 ⟨rfl,hN⟩;obtain⟨g9,n9,u9,t9⟩:=hN;go_wp2;go_returns;exact⟨rfl,g9,n9,wB.trans u9,t9.out.trans t43.out⟩
       ·rw[aM hfo]at hs2;have TQ:fd=false∨(fd=true∧p.unk=false∧decide (p.a_<=y.seq)=false):=by
         revert hfo
         cases fd<;>cases p.unk<;>simp
        by_cases htl:p.ttl=1
        ·have hbt:(p.ttl==1)=true:=by simpa using htl
         rw[aQ htl]at hs2;clear htl;have HX:=hide (jD n9 4 EM);rw[hs2]at HX;rcases TQ with rfl|⟨rfl,hun,hge⟩
         ·
          go_wp2_with fail;refine aU HX.out ?_;rintro e w9 ⟨rfl,hN⟩;obtain⟨g9,n9,u9,t9⟩:=hN;go_wp2;go_returns;exact⟨rfl,g9,n9,wB.trans u9,t9.out.trans t43.out⟩
         ·rw[hun]at p3;go_wp2_with fail;refine aU HX.out ?_;rintro e w9 ⟨rfl,hN⟩;obtain⟨g9,n9,u9,t9⟩:=hN;go_wp2;go_returns;exact⟨rfl,g9,n9,wB.trans u9,t9.out.trans t43.out⟩
        ·have hbt:(p.ttl==1)=false:=by simpa using htl
         rw[aM htl]at hs2;have HX:=hide (NA n9 p hq hL9 Av);rw[hs2]at HX;dsimp only[aF.val]at HX;rcases TQ with rfl|⟨rfl,hun,hge⟩
         ·
          go_wp2_with fail;refine aU HX.out ?_;rintro e w9 ⟨rfl,hN⟩;obtain⟨g9,n9,u9,t9⟩:=hN;go_wp2;go_returns;exact⟨rfl,g9,n9,wB.trans u9,t9.out.trans t43.out⟩
         ·rw[hun]at HX p3;go_wp2_with fail;refine aU HX.out ?_;rintro e w9 ⟨rfl,hN⟩;obtain⟨g9,n9,u9,t9⟩:=hN;go_wp2;go_returns;exact⟨rfl,g9,n9,wB.trans u9,t9.out.trans t43.out⟩
  ·have Ig:=hcb.out;simp only[Bool.or_eq_true,jh]at Ig;rw[aQ Ig]at hs2;subst hs2;have HD:=hide (jD n2 1 hdl);clear hcb Ig hP2 hQ2;go_wp2_with fail;refine aU HD.out ?_;rintro e w3 ⟨rfl,hN⟩;go_wp2;go_returns;obtain⟨g9,n9,u9,t9⟩:=hN;exact⟨rfl,g9,n9,ua0.trans u9,t9⟩
variable{k:Int}{j:Nat}{s:St}
structure St.Inv(k:Int)(s:St):Prop where
 me:bB s.me
 seq:bB s.seq
 now:0<=s.now
 mem:∀e∈s.mem,e.dK<=s.now+1280
 dom:s.Dom
 cnt:0<=s.cnt∧s.cnt<=24
 tn:s.tn<=10000 * k
 tl:0<=s.tl∧s.tl<=10000 * k
 lk:s.lk=0
 BK:s.pc.length<=5
 Aa:s.pc.Pairwise (·<=·)
 Ab:∀t∈s.pc,t<=s.now
 D8:∀q∈s.Q,q.id<=s.tl
 bd:qy s.bA
 nwl:s.bA.length<=100000
 frl:s.aL.length<=100000
 cml:s.aY.length<=100000
 drl:s.aT.length<=100000
structure St.Mid(k:Int)(j:Nat)(s:St):Prop where
 me:bB s.me
 seq:bB s.seq
 now:0<=s.now∧s.now<=4611686018427387904
 mem:∀e∈s.mem,e.dK<=s.now+1280
 dom:s.Dom
 cnt:0<=s.cnt∧s.cnt<=24+10 * j
 bA:s.bA.length<=10 * j
 bd:qy s.bA
 aL:s.aL.length<=10 * j
 aT:s.aT.length<=10 * j
 aY:s.aY.length<=10 * j
 tn:s.tn<=10000 * k+j
 tl:0<=s.tl∧s.tl<=10000 * k+j
 BK:s.pc.length<=5
 Aa:s.pc.Pairwise (·<=·)
 Ab:∀t∈s.pc,t<=s.now
 D8:∀q∈s.Q,q.id<=s.tl
theorem St.Mid.fine(h:s.Mid k j)(hj:j<=50000):s.Qn:=
 ⟨h.me,h.seq,h.now,h.mem,by have:=h.aL;omega,by have:=h.aT;omega,by have:=h.aY;omega⟩
theorem NG(s:St)(hA:s.A.length<=8):s.write.bA.length<=s.bA.length+9∧0<=s.write.cnt - s.cnt∧s.write.cnt<=s.cnt+9:=by
 have h:=oJ s.seq s.own s.f s.A;refine⟨?_,?_,?_⟩
 ·show(s.bA++_).length<=_;rw[dw];omega
 ·show 0<=s.cnt+_ - s.cnt;omega
 ·show s.cnt+_<=s.cnt+9;omega
theorem wO(h:s.Mid k j)(hA:∀y∈s.A,y.Ok)(hl:s.A.length<=8):s.write.Mid k (j+1):=by
 obtain⟨w1,w2,w3⟩:=NG s hl;have c:=h.cnt;exact⟨h.me,h.seq,h.now,h.mem,Dr h.dom hA h.seq,by omega,by have:=h.bA;omega,Br h.bd (GK h.seq s.f hA),by have:=h.aL;show s.aL.length<=_;omega,by have:=h.aT;show s.aT.length<=_;omega,by have:=h.aY;show s.aY.length<=_;omega,by have:=h.tn;show s.tn<=_;omega,by have:=h.tl;show 0<=s.tl∧s.tl<=_;omega,h.BK,h.Aa,h.Ab,h.D8⟩
theorem Nf{A:List Rt}(hA:∀y∈A,y.Ok)(now:Int):∀y∈ja A now,y.Ok:=by
 intro y hy;obtain⟨z,hz,rfl⟩:=di.1 hy;unfold oQ;split
 ·exact vO (hA z hz) (by simp[bB])
 ·exact hA z hz
theorem OL(h:s.Inv k)(hA:∀y∈s.A,y.Ok)(hl:s.A.length<=8)(now:Int)(hn:s.now<=now∧now<=4611686018427387904):(s.begin now).Mid k 1:=by
 have h0:({s with now:=now,A:=ja s.A now,bA:=[],aL:=[],aY:=[],aT:=[],bC:=false}:St).Mid k 0:=
  ⟨h.me,h.seq,⟨by have:=h.now;dsimp only;omega,hn.2⟩,λe he=>by have:=h.mem e he;dsimp only;omega,⟨h.dom.mb,λd hd=>by
   obtain⟨y,hy,rfl⟩:=h.dom.on d hd;exact⟨oQ now y,di.2 ⟨y,hy,rfl⟩,gY now y⟩,h.dom.own⟩,by have:=h.cnt;dsimp only;omega,aD _,λ_ h=>(by cases h),aD _,aD _,aD _,by have:=h.tn;dsimp only;omega,by have:=h.tl;dsimp only;omega,h.BK,h.Aa,λt ht=>by have:=h.Ab t ht;dsimp only;omega,h.D8⟩
 exact wO h0 (Nf hA now) (by dsimp only[ja];rw[iL];exact hl)
theorem vz{i:Nat}{s':St}(h:s.Mid k j)(e:Eff i s s'):s'.Mid k (j+i):=by
 refine⟨by rw[e.me];exact h.me,e.seq h.seq,by rw[e.now];exact h.now,e.mem h.mem,⟨by rw[e.f];exact h.dom.mb,λd hd=> ?_,by rw[e.own];exact h.dom.own⟩,by rw[e.cnt];have:=h.cnt;omega,by rw[e.bA];have:=h.bA;omega,by rw[e.bA];exact h.bd,by have:=e.aL;have:=h.aL;omega,by have:=e.aT;have:=h.aT;omega,by have:=e.aY;have:=h.aY;omega,by have:=e.tn;have:=h.tn;omega,by rw[e.tl];have:=h.tl;omega,by rw[e.pc];exact h.BK,by rw[e.pc];exact h.Aa,by rw[e.pc,e.now];exact h.Ab,λq hq=>by rw[e.tl];exact h.D8 q (e.qs q hq)⟩;rw[e.f]at hd;obtain⟨y,hy,rfl⟩:=h.dom.on d hd;obtain⟨z,hz,e⟩:=e.sub y hy;exact⟨z,hz,e⟩
structure af8(s s':St):Prop where
 me:s'.me=s.me
 seq:s'.seq=s.seq
 cZ:s'.cZ=s.cZ
 dB:s'.dB=s.dB
 fu:s'.fu=s.fu
 A:s'.A=s.A
 mem:s'.mem=s.mem
 tn:s'.tn=s.tn
 Q:s'.Q=s.Q
 tl:s'.tl=s.tl
 pc:s'.pc=s.pc
 now:s'.now=s.now
 aL:s'.aL=s.aL
 aY:s'.aY=s.aY
 aT:s'.aT=s.aT
 lk:s'.lk=s.lk
theorem aP(s:St):af8 s s.finish:=by
 unfold St.finish;split<;>exact⟨rfl,rfl,rfl,rfl,rfl,rfl,rfl,rfl,rfl,rfl,rfl,rfl,rfl,rfl,rfl,rfl⟩
theorem zk(s:St):s.cmp.length=s.A.length+1:=by
 simp only[St.cmp,dz,gM,dw,iL,dU,List.length_nil];omega
theorem abW(h1:bB s.own)(h2:MB s.f)(hA:∀y∈s.A,y.Ok):qy s.cmp:=by
 intro x hx;simp only[St.cmp,dz,gM,d_,fe,di]at hx;rcases hx with rfl|⟨a,ha,rfl⟩
 ·unfold bB at h1;dsimp only;omega
 ·obtain⟨y,hy,rfl⟩:=ha;have h2':=(hA y hy).dest;have h3:=h2.getD y.dest;unfold bB at h2' h3;dsimp only;omega
theorem Ao(h:s.Mid k j)(hj:j<=9000)(hlk:s.lk=0)(hA:∀y∈s.A,y.Ok)(hl:s.A.length<=8):s.finish.Inv (k+1):=by
 have e:=aP s;have hw:=wO h hA hl;have Dj:s.finish.Dom:=by
  have:=hw.dom;unfold St.finish;split
  ·exact⟨this.mb,this.on,this.own⟩
  ·exact this
 have hcn:0<=s.finish.cnt∧s.finish.cnt<=24:=by
  unfold St.finish;split
  ·have:=zk s.write;have h8:s.write.A.length<=8:=hl;dsimp only;omega
  ·have:=hw.cnt;omega
 have hbd:qy s.finish.bA∧s.finish.bA.length<=100000:=by
  unfold St.finish;split
  ·have h8:s.write.A.length<=8:=hl;refine⟨abW hw.dom.own hw.dom.mb hA,?_⟩;have:=zk s.write;dsimp only;omega
  ·have:=hw.bA;exact⟨hw.bd,by omega⟩
 exact⟨by rw[e.me];exact h.me,by rw[e.seq];exact h.seq,by rw[e.now];exact h.now.1,by rw[e.mem,e.now];exact h.mem,Dj,hcn,by rw[e.tn];have:=h.tn;omega,by rw[e.tl];have:=h.tl;omega,by rw[e.lk];exact hlk,by rw[e.pc];exact h.BK,by rw[e.pc];exact h.Aa,by rw[e.pc,e.now];exact h.Ab,by rw[e.Q,e.tl];exact h.D8,hbd.1,hbd.2,by rw[e.aL];have:=h.aL;omega,by rw[e.aY];have:=h.aY;omega,by rw[e.aT];have:=h.aT;omega⟩
def dQ(s:St)(TL:List Hp.Tm):Prop:=TL.Perm (s.Q.map kX)
theorem Ir{Q:List Sr}(hn:Q.Pairwise λa b=>a.dest≠b.dest){q:Sr}(hq:q∈Q):Q.Perm (q::Q.filter λz=>!decide (z.dest=q.dest)):=by
 induction Q with
 |nil=>cases hq
 |cons a Q ih=>
  rw[List.pairwise_cons]at hn;rcases fo.1 hq with rfl|h
  ·have h1:Q.filter (λz=>!decide (z.dest=q.dest))=Q:=List.filter_eq_self.2 λz hz=>by simpa using(hn.1 z hz).symm
   simp[h1]
  ·have h1:=ih hn.2 h;have h2:a.dest≠q.dest:=hn.1 q h;rw[List.filter_cons_of_pos (by simpa using h2)];exact(h1.cons a).trans (.swap _ _ _)
theorem Z4{d:Int}{s2:St}{TL dR:List Hp.Tm}(h:YT d s TL s2 dR)(ht:dQ s TL)(hid:TL.Pairwise λa b=>a.2.1≠b.2.1)(hn:s.Q.Pairwise λa b=>a.dest≠b.dest):dQ s2 dR:=by
 unfold dQ at ht ⊢;rcases h with⟨rfl,e⟩|⟨q,hq,htk,e⟩
 ·rw[e];exact ht
 ·obtain⟨hqm,rfl⟩:=jk hq;have hqt:kX q∈TL:=ht.mem_iff.2 (di.2 ⟨q,hqm,rfl⟩);rcases htk with⟨x,hx,hp⟩|⟨hno,_⟩
  ·have hxT:x∈TL:=hp.mem_iff.1 iK;have hxe:x=kX q:=by
    refine Classical.byContradiction λhne=> ?_;have:∀(L:List Hp.Tm),L.Pairwise (λa b=>a.2.1≠b.2.1)->x∈L->kX q∈L->False:=by
     intro L
     induction L with
     |nil=>intro _ h;cases h
     |cons a L ih=>
      intro hp h1 h2;rw[List.pairwise_cons]at hp;rcases fo.1 h1 with k1|k1
      ·rcases fo.1 h2 with k2|k2
       ·exact hne (k1.trans k2.symm)
       ·exact hp.1 _ k2 (k1▸hx)
      ·rcases fo.1 h2 with k2|k2
       ·exact hp.1 _ k1 ((k2▸rfl:a.2.1=(kX q).2.1).trans hx.symm)
       ·exact ih hp.2 k1 k2
    exact this TL hid hxT hqt
   subst hxe;rw[e];have h1:=(hp.trans ht).trans ((Ir hn hqm).map kX);rw[List.map_cons]at h1;exact(List.perm_cons _).1 h1
  ·exact absurd rfl (hno _ hqt)
abbrev aaA:Go.Conc.Locks.MuLink:={lock:=49,unlock:=50,ilock:=74,iunlock:=75,lockSlow:=109,unlockSlow:=112,disable:=105,enable:=107,acquire:=108,relMerge:=110,cas32:=106,add32:=111,tMutex:=127,tIMutex:=125,tPMutex:=168,tPIMutex:=215,tPI32:=217,tUP:=219,tNoCopy:=123,tU32:=34}
theorem mg:Go.Conc.Locks.MuLib Tryz.prog aaA:=
 ⟨Tryz.func49,Tryz.func50,Tryz.func74,Tryz.func75,Tryz.func105,Tryz.func107,Tryz.func108,Tryz.func110,Tryz.func106,Tryz.func111,Tryz.underlying125,Tryz.runUnderlying125,Tryz.sizeOf125,Tryz.isAgg125,Tryz.zeroValue125,Tryz.underlying127,Tryz.runUnderlying127,Tryz.sizeOf127,Tryz.isAgg127,Tryz.zeroValue127,Tryz.underlying168,Tryz.runUnderlying168,Tryz.sizeOf168,Tryz.isAgg168,Tryz.zeroValue168,Tryz.underlying215,Tryz.runUnderlying215,Tryz.sizeOf215,Tryz.isAgg215,Tryz.zeroValue215,Tryz.underlying217,Tryz.runUnderlying217,Tryz.sizeOf217,Tryz.isAgg217,Tryz.zeroValue217,Tryz.underlying219,Tryz.runUnderlying219,Tryz.sizeOf219,Tryz.isAgg219,Tryz.zeroValue219,Tryz.underlying123,Tryz.runUnderlying123,Tryz.sizeOf123,Tryz.isAgg123,Tryz.zeroValue123,Tryz.underlying21,Tryz.runUnderlying21,Tryz.sizeOf21,Tryz.isAgg21,Tryz.zeroValue21,(by kernel_rfl)⟩
end Go.Proofs.YtakaadcpaeiccabGreat
