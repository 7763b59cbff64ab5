import Derived.Test.YtakaadcpaeiccabGreatC18
import Derived.Conc.MuLone
import Derived.KernelRfl
set_option maxHeartbeats 8000000
set_option maxRecDepth 100000
namespace Go.Proofs.YtakaadcpaeiccabGreat
open Go.RowKit Go.Maps
variable{a:qy}{bg:List (Bool×Int×Int)}{aR aI:List (Int×ByteArray)}{aQ:List Int}{B N:Nat}{s:St}{W:World}
theorem Nd.off{g:bI}{TL:List Hp.Tm}{W':World}(n:Nd N B g s TL W){S:Nat->Prop}(hf:Fx S W W')(hS:∀k,S k->¬Ft N g s k∧¬jC B g.a k):Nd N B g s TL W':=
 ⟨n.nn.kept λk hk=>hf.block k (n.nn.lt hk) λh=>(hS k h).1 hk,n.ac.kept λk hk=>hf.block k (n.ac.lt hk) λh=>(hS k h).2 hk,n.now,n.bn⟩
theorem Up.fresh{F F':Nat->Prop}{a b c:World}(u:Up B F F' a b){C:Nat}(h:b.grownBy c (some C))(hC:a.heap.size<=C):Up B F F' a c:=
 ⟨λk hk=>(u.sub k hk).imp_right λ⟨h1,h2⟩=>⟨h1,fO h2 h.size⟩,h.os.trans u.os,h.tape.trans u.tape,h.output.trans u.output,dH u.size h.size,λk o ho hn hA=>by
  have h1:=u.block k o ho hn hA;exact(h.block k (aF h1) λe=>by
   have:=aF ho;have:=Option.some.inj e;omega).trans h1⟩
theorem EN(c:Array Value):oC (.cells c 52 (0,0)):=⟨λc e=>(by cases e),λc e=>(by cases e),λc e=>(by cases e),λc e=>(by cases e),λc e=>(by cases e)⟩
theorem ace(ha:Asc s.A)(hd:∀d,(s.f d).isSome=true->∃y∈s.A,y.dest=d)(hall:∀y∈s.A,(s.f y.dest).isSome=true):iT s.f (some s.own) s.cmp:=by
 refine⟨s.A.map (λy=>y.dest),(List.pairwise_map (f:=λy:Rt=>y.dest) (R:=λa b:Int=>a<b)).2 ha,λa=>⟨λh=> ?_,λh=> ?_⟩,rfl⟩
 ·obtain⟨y,hy,rfl⟩:=dh.1 h;exact hall y hy
 ·obtain⟨y,hy,rfl⟩:=hd a h;exact dh.2 ⟨y,hy,rfl⟩
theorem jI.reset{base:Nat}(h:jI B base a bg aI aR aQ W){v:Value}{aaO:List (Bool×Int×Int)}(ho:W.ownsRow base 82 3 v aaO.length (RC aaO)):
  jI B base {a with nT:=v,bn:=true} aaO aI aR aQ ((W.setCell ⟨B,1,none⟩ v).setCell ⟨B,3,none⟩ (.bool true))∧W.grownBy ((W.setCell ⟨B,1,none⟩ v).setCell ⟨B,3,none⟩ (.bool true)) (some B):=by
 have hg:=ah (ah (aC W (some B)) 1 v) 3 (.bool true);have hB:=(h.blk.RI v).RH true;exact⟨⟨hB,ho.kept hg (.inr (aA ho h.blk (λc e=>(by cases e)))),h.aJ.kept hg (.inr (aA h.aJ h.blk (λc e=>(by cases e)))),h.bL.kept hg (.inr (aA h.bL h.blk (λc e=>(by cases e)))),h.bO.kept hg (.inr (aA h.bO h.blk (λc e=>(by cases e))))⟩,hg⟩
theorem jI.Ey{base:Nat}(h:jI B base a bg aI aR aQ W)(b:ByteArray):
  jI B base {a with aZ:=b} bg aI aR aQ (W.setCell ⟨B,2,none⟩ (.string b))∧W.grownBy (W.setCell ⟨B,2,none⟩ (.string b)) (some B):=by
 have hg:=ah (aC W (some B)) 2 (.string b);exact⟨⟨h.blk.Ey b,h.nT.kept hg (.inr (aA h.nT h.blk (λc e=>(by cases e)))),h.aJ.kept hg (.inr (aA h.aJ h.blk (λc e=>(by cases e)))),h.bL.kept hg (.inr (aA h.bL h.blk (λc e=>(by cases e)))),h.bO.kept hg (.inr (aA h.bO h.blk (λc e=>(by cases e))))⟩,hg⟩
def agh(N B:Nat)(g:bI)(s s':St)(TL:List Hp.Tm)(w:World)(e:Ending)(w':World):Prop:=∃g',e=.returned (iZ s'.aZ s'.bn g'.a.aJ g'.a.bL g'.a.bO)∧Nd N B g' s' TL w'∧Up B (Ft N g s) (Ft N g' s') w w'∧Hid (g'.x.T=g.x.T)
theorem oU{g:bI}{TL:List Hp.Tm}{w:World}(n:Nd N B g s TL w)(hd:s.Dom)(hc:0<=s.cnt∧s.cnt<=900000)(hw:s.bg.length<=80000)(hbd:qx s.bg)(hq:a_ s.seq):
  Calls Tryz.prog 48 #[.pointer (some ⟨N,0,none⟩),.pointer (some ⟨B,0,none⟩)] w (agh N B g s s.finish TL w):=by
 have hA:=n.nn.cr.tb.ok;have hb0:Below w.heap.size w (w.alloc je):=bC;have hC0:(w.alloc je).heap[w.heap.size]?=some je:=bS _ _;have kK:¬Ft N g s w.heap.size:=n.new (aB _);have hBC:B<w.heap.size:=n.ac.blk.lt;have n0:=n.later hb0;have HW:=hide (Zk n0 hd (by omega) (by omega));obtain⟨s1,hs1⟩:∃z,s.write=z:=⟨_,rfl⟩;have hd1:s1.Dom:=by rw[<-hs1];exact Eb hd hA hq
 have hall:∀y∈s1.A,(s1.f y.dest).isSome=true:=by rw[<-hs1];exact Pj
 have Us:qx s1.bg:=by rw[<-hs1];exact Cg hbd (Ih hq s.f hA)
 have hlen:=oF s.seq s.own s.f s.A;have hA8:=n.nn.cr.tb.len;have hn1:s1.bg.length<=90000:=by
  rw[<-hs1];show(s.bg++_).length<=_;rw[dx];omega
 have hc1:0<=s1.cnt∧s1.cnt<=1000000:=by
  rw[<-hs1];show 0<=s.cnt+_∧s.cnt+_<=_;omega
 obtain⟨s2,hs2⟩:∃z,s.finish=z:=⟨_,rfl⟩;rw[hs2];have xM:Hid ((if s1.cnt>24 then {s1 with bg:=s1.cmp,cnt:=s1.cmp.length,bn:=true}else s1)=s2):=by
  show _=_;rw[<-hs2,<-hs1];rfl
 rw[hs1]at HW;have hd1:=hide hd1;have hall:=hide hall;have Us:=hide Us;have hn1:=hide hn1;clear hs1 hs2 hd hc hw hbd hlen hA8 n;dsimp only[je]at hb0 hC0 HW;go_enter Tryz.func48,Tryz.ntmps48;go_upto_region 1 with(fail);generalize World.alloc _ _=W1 at hb0 hC0 HW n0 ⊢;go_wp2_with fail;refine aT HW.out ?_;rintro e w2 ⟨rfl,g2,n2,u2,t2⟩;obtain⟨hC2,Ja⟩:=u2.keep hC0 kK (EN _);have JR:=(Up.below hb0:Up B (Ft N g s) (Ft N g s) w W1).trans u2;clear HW hC0 hb0 u2 n0 kK;obtain⟨m0,m2,m3,m4,m5,m6,m7,m8,m9,m10⟩:=n2.nn.cr.nd.cell;rw[n2.nn.eq.cnt]at m10;obtain⟨b0,b1,b2,b3,b4,b5,b6⟩:=n2.ac.blk.cell;have hCg:w.heap.size<=w.heap.size:=aB _;generalize lZ:w.heap.size=C at hC2 Ja hBC hCg ⊢;replace lZ:=hide lZ;by_cases h24:s1.cnt>24
 ·have hd24:decide (24<s1.cnt)=true:=gu (by omega);replace xM:=hide ((aM h24).symm.trans xM.out);clear h24;have hz2:=n2.nn.cr.size_le hd1.out.on;have hown:=hd1.out.own;rw[<-n2.nn.eq.own]at hown;have HC:=hide (Jv N g2.x s1.f g2.sz w2 n2.nn.cr.nd n2.nn.cr.mo hd1.out.mb hown (by omega) ⟨s1.A.map (·.dest),by have:=n2.nn.cr.tb.len;rw[iL];omega,λa ha=>by obtain⟨y,hy,e⟩:=hd1.out.on a ha;exact dh.2 ⟨y,hy,e⟩⟩);go_wp2_with fail;refine aT HC.out ?_;rintro e w3 ⟨v3,out,rfl,hcmp,hr3,Bt,hM3,hf3⟩;have hout:out=s1.cmp:=by
   rw[n2.nn.eq.own]at hcmp;exact hcmp.unique (ace n2.nn.cr.tb.y_ hd1.out.on hall.out)
  have Gq:out.length<=9:=by
   rw[hout];have:=n2.nn.cr.tb.len;simp only[St.cmp,dz,gM,dx,iL,dY,List.length_nil];omega
  clear HC hcmp;have hNA:∀k,jC B g2.a k->¬k=N:=λk hk e=>n2.ac.KD n2.nn (.inl (.inl e)) hk;have ac3:=n2.ac.kept (W':=w3) λk hk=>hf3.block k (n2.ac.lt hk) (hNA k hk);have adn:w3.ownsRow (B+1) 82 3 v3 out.length (RC out):=ownsRow_base_a hr3 n2.base;obtain⟨ac4,hg4⟩:=ac3.reset adn;have hB3:=ac3.blk;have afJ:N≠B:=λe=>hNA B (.inl rfl) e.symm;have CB:iI N {g2.x with cnt:=out.length} ((w3.setCell ⟨B,1,none⟩ v3).setCell ⟨B,3,none⟩ (.bool true)):=Bt.kept hg4 (λe=>afJ (Option.some.inj e).symm);have hMB:g2.x.Mo≠B:=λe=>n2.ac.KD n2.nn (.inl (.inr (.inl rfl))) (.inl e);have CW:MapU ((w3.setCell ⟨B,1,none⟩ v3).setCell ⟨B,3,none⟩ (.bool true)) g2.x.Mo s1.f g2.sz:=hM3.kept hg4 (λe=>hMB (Option.some.inj e));have hfx:Fx (λk=>k=N∨k=B) w2 ((w3.setCell ⟨B,1,none⟩ v3).setCell ⟨B,3,none⟩ (.bool true)):=aV (hf3.mono λ_ h=> .inl h) hg4 (λi _ e=> .inr (Option.some.inj e).symm);have hT4:MT g2.x.self g2.x.T g2.M g2.ff g2.gg s1.A ((w3.setCell ⟨B,1,none⟩ v3).setCell ⟨B,3,none⟩ (.bool true)):=n2.nn.cr.tb.kept λk hk=>hfx.block k (n2.nn.cr.tb.lt hk) (by
   rintro(rfl|rfl)
   ·exact n2.nn.cr.tb.not (λe=>by
     obtain⟨es,cl,hm⟩:=n2.nn.cr.tb.map.obj;rw[<-e,show w2.heap[k]?=_ from n2.nn.cr.nd]at hm;cases hm) n2.nn.cr.nd (rZ _) hk
   ·exact n2.ac.KD n2.nn (.inl (.inr (.inr hk))) (.inl rfl))
  have hCf:((w3.setCell ⟨B,1,none⟩ v3).setCell ⟨B,3,none⟩ (.bool true)).heap[C]?=w2.heap[C]?:=hfx.block C (aF hC2) (by
   rintro(rfl|h)
   ·exact Ja (.inl (.inl rfl))
   ·omega)
  obtain⟨e1,e2,e3,e4,e5,e6,e7,e8,e9⟩:=n2.nn.eq;obtain⟨n4,u4⟩:=n2.core (s':={s1 with bg:=out,cnt:=out.length,bn:=true}) ⟨CB,CW,hT4,n2.nn.cr.ne⟩ ac4 (hfx.mono λk h=>by
   rcases h with rfl|rfl
   ·exact .inl (.inl rfl)
   ·exact .inr (.inl rfl)) (λk hk=>hk) ⟨rfl,rfl,rfl,rfl,rfl⟩ ⟨e1,e2,e3,e4,e5,e6,e7,rfl,e9⟩ ⟨rfl,rfl,rfl,rfl,rfl⟩ n2.nn.JS n2.now rfl
  have yQ:=hCf.trans hC2;have hs4:Hid (({s1 with bg:=out,cnt:=out.length,bn:=true}:St)=s2):=by
   show _=_;rw[hout];exact xM.out
  have hb4:Hid (qx s2.bg):=by
   show qx _;rw[<-hs4.out];intro x hx;have hx':x∈out:=hx;rw[hout]at hx';simp only[St.cmp,dz,gM,dG,dO,dh]at hx';have h1:=hd1.out.own;rcases hx' with rfl|⟨a,ha,rfl⟩
   ·unfold a_ at h1;dsimp only;omega
   ·obtain⟨y,hy,rfl⟩:=ha;have h2:=(n2.nn.cr.tb.ok y hy).dest;have h3:=hd1.out.mb.getD y.dest;unfold a_ at h2 h3;dsimp only;omega
  have hl4:Hid (s2.bg.length<=90000):=by
   show _<=_;rw[<-hs4.out];show out.length<=_;omega
  rw[hs4.out]at n4 u4;have rF:¬Ft N _ s2 C:=λh=>(u4.sub C h).elim Ja (by have:=aF hC2;omega);have qf:=JR.trans u4;have t4:Hid (({g2 with x:={g2.x with cnt:=(out.length:Int)},a:={g2.a with nT:=v3,bn:=true}}:bI).x.T=g.x.T):=t2;have afX:B<C:=hBC;obtain⟨a3',c3',hv3,_⟩:=ay hr3;have fB1:=hB3.free 1;have fB3:=hB3.free 3;obtain⟨x0,x1,x2,x3,x4,x5,x6⟩:=hB3.cell;subst hv3;generalize ({g2 with x:={g2.x with cnt:=(out.length:Int)},a:={g2.a with nT:=.slice a3' out.length c3',bn:=true}}:bI)=g4 at n4 u4 rF qf t4;clear n2 JR Bt hM3 hf3 hr3 adn ac3 ac4 hg4 hB3 CB CW hfx hT4 hCf hC2 Ja u4 m0 m2 m3 m4 m5 m6 m7 m8 m9 m10 b0 b1 b2 b3 b4 b5 b6 e1 e2 e3 e4 e5 e6 e7 e8 e9 xM hNA hout Gq hown hz2 hall Us hn1 hd1 hs4;go_upto_region 5 with(fail);generalize World.setCell _ _ _=W4 at n4 qf yQ ⊢;clear x0 x1 x2 x3 x4 x5 x6 fB1 fB3;obtain⟨b0,b1,b2,b3,b4,b5,b6⟩:=n4.ac.blk.cell;obtain⟨a7,k7,hv7,hH7⟩:=ay n4.ac.nT;rw[hv7]at b1;have HJ:=hide (qh a7 s2.bg.length k7 s2.bg rfl (by have:=hl4.out;omega) hb4.out W4 hH7);clear hv7 hH7;go_wp2_with fail;refine aT HJ.out ?_;rintro e w5 ⟨rfl,hb5⟩;have n5:=n4.later hb5;have su:=(hb5.block C (aF yQ)).trans yQ;have zl:=qf.trans (.below hb5:Up B (Ft N g4 s2) (Ft N g4 s2) W4 w5);have abS:¬jC B g4.a C:=λh=>n5.ac.kinds h su (EN _);clear HJ n4 qf yQ hb5 b0 b1 b2 b3 b4 b5 b6;obtain⟨b0,b1,b2,b3,b4,b5,b6⟩:=n5.ac.blk.cell;have f2:=n5.ac.blk.free 2;rw[show strOfNums (bB s2.bg)=s2.aZ from rfl];obtain⟨ac6,jk⟩:=n5.ac.Ey s2.aZ;obtain⟨n6,u6⟩:=n5.act (s':=s2) ac6 (Fx.grown jk λk e=>by cases e;exact .inl rfl) ⟨rfl,rfl,rfl,rfl,rfl,rfl,rfl,rfl,rfl,rfl,rfl,rfl,rfl,rfl,rfl⟩ n5.now n5.bn;have gG:=(jk.block C (aF su) (λe=>by have:=Option.some.inj e;omega)).trans su;have nG:=zl.trans u6;have kP:¬Ft N {g4 with a:={g4.a with aZ:=s2.aZ}} s2 C:=rF;have UE:¬jC B ({g4 with a:={g4.a with aZ:=s2.aZ}}:bI).a C:=abS;have t6:Hid (({g4 with a:={g4.a with aZ:=s2.aZ}}:bI).x.T=g.x.T):=t4;have hj6:({g4 with a:={g4.a with aZ:=s2.aZ}}:bI).a.aZ=s2.aZ:=rfl;generalize ({g4 with a:={g4.a with aZ:=s2.aZ}}:bI)=g6 at n6 nG kP UE t6 hj6;clear ac6 jk u6 n5 zl su;go_upto_region 6 with(fail);generalize World.setCell _ _ _=W6 at n6 nG gG ⊢;clear b0 b1 b2 b3 b4 b5 b6 f2;obtain⟨b0,b1,b2,b3,b4,b5,b6⟩:=n6.ac.blk.cell;rw[hj6]at b2;rw[n6.bn]at b3;obtain⟨af,kf,hf,_⟩:=ay n6.ac.aJ;obtain⟨ac,kc,hc,_⟩:=ay n6.ac.bL;obtain⟨ad,kd,hdd,_⟩:=ay n6.ac.bO;rw[hf]at b4;rw[hc]at b5;rw[hdd]at b6;have q0:W6.cell? ⟨C,0,none⟩=some (.string ⟨#[]⟩):=aG _ _ 0 _ _ _ gG;have q1:W6.cell? ⟨C,1,none⟩=some (.bool false):=aG _ _ 1 _ _ _ gG;have q2:W6.cell? ⟨C,2,none⟩=some (.slice none 0 0):=aG _ _ 2 _ _ _ gG;have q3:W6.cell? ⟨C,3,none⟩=some (.slice none 0 0):=aG _ _ 3 _ _ _ gG;have q4:W6.cell? ⟨C,4,none⟩=some (.slice none 0 0):=aG _ _ 4 _ _ _ gG;have z0:=lW W6 C 0 _ _ gG;have z1:=lW W6 C 1 _ _ gG;have z2:=lW W6 C 2 _ _ gG;have z3:=lW W6 C 3 _ _ gG;have z4:=lW W6 C 4 _ _ gG;have g_:=ah (ah (ah (ah (ah (aC W6 (some C)) 0 (.string s2.aZ)) 1 (.bool s2.bn)) 2 (.slice af s2.aI.length kf)) 3 (.slice ac s2.aR.length kc)) 4 (.slice ad s2.aQ.length kd);have gL:(((((W6.setCell ⟨C,0,none⟩ (.string s2.aZ)).setCell ⟨C,1,none⟩ (.bool s2.bn)).setCell ⟨C,2,none⟩ (.slice af s2.aI.length kf)).setCell ⟨C,3,none⟩ (.slice ac s2.aR.length kc)).setCell ⟨C,4,none⟩ (.slice ad s2.aQ.length kd)).heap[C]?=some (.cells #[.string s2.aZ,.bool s2.bn,.slice af s2.aI.length kf,.slice ac s2.aR.length kc,.slice ad s2.aQ.length kd] 52):=by
   simp[World.setCell,Array.getElem?_modify,gG]
  have n7:=n6.off (S:=λk=>k=C) (Fx.grown g_ λk e=>by cases e;rfl) (by rintro k rfl;exact⟨kP,UE⟩);have u7:=nG.fresh g_ (by rw[lZ.out];exact aB _);have afW:C≠B:=by omega
  clear g_ n6 nG;go_wp2;generalize World.setCell _ _ _=W7 at gL n7 u7 ⊢;have p0:W7.cell? ⟨C,0,none⟩=some (.string s2.aZ):=aG _ _ 0 _ _ _ gL;have p1:W7.cell? ⟨C,1,none⟩=some (.bool s2.bn):=aG _ _ 1 _ _ _ gL;have p2:W7.cell? ⟨C,2,none⟩=some (.slice af s2.aI.length kf):=aG _ _ 2 _ _ _ gL;have p3:W7.cell? ⟨C,3,none⟩=some (.slice ac s2.aR.length kc):=aG _ _ 3 _ _ _ gL;have p4:W7.cell? ⟨C,4,none⟩=some (.slice ad s2.aQ.length kd):=aG _ _ 4 _ _ _ gL;refine bodyPost_ret (v:=.agg #[.string s2.aZ,.bool s2.bn,.slice af s2.aI.length kf,.slice ac s2.aR.length kc,.slice ad s2.aQ.length kd]) (by simp[results,Tryz.results48,go_sem,p0,p1,p2,p3,p4]) rfl ⟨g6,?_,n7,u7,t6⟩;rw[hf,hc,hdd];rfl
 ·have hd24:decide (24<s1.cnt)=false:=fD (by omega);replace xM:=hide ((aH h24).symm.trans xM.out);have hb4:Hid (qx s2.bg):=by rw[<-xM.out];exact Us
  have hl4:Hid (s2.bg.length<=90000):=by rw[<-xM.out];exact hn1
  have n4:=n2;have qf:=JR;have yQ:=hC2;have rF:=Ja;rw[xM.out]at n4 qf rF;have t4:=t2;have afX:=hBC;clear n2 JR hC2 Ja xM h24 b0 b1 b2 b3 b4 b5 b6 m0 m2 m3 m4 m5 m6 m7 m8 m9 hall Us hn1 hd1;go_upto_region 5 with(fail);clear m10;obtain⟨b0,b1,b2,b3,b4,b5,b6⟩:=n4.ac.blk.cell;obtain⟨a7,k7,hv7,hH7⟩:=ay n4.ac.nT;rw[hv7]at b1;have HJ:=hide (qh a7 s2.bg.length k7 s2.bg rfl (by have:=hl4.out;omega) hb4.out w2 hH7);clear hv7 hH7;go_wp2_with fail;refine aT HJ.out ?_;rintro e w5 ⟨rfl,hb5⟩;have n5:=n4.later hb5;have su:=(hb5.block C (aF yQ)).trans yQ;have zl:=qf.trans (.below hb5:Up B (Ft N g2 s2) (Ft N g2 s2) w2 w5);have abS:¬jC B g2.a C:=λh=>n5.ac.kinds h su (EN _);clear HJ n4 qf yQ hb5 b0 b1 b2 b3 b4 b5 b6;obtain⟨b0,b1,b2,b3,b4,b5,b6⟩:=n5.ac.blk.cell;have f2:=n5.ac.blk.free 2;rw[show strOfNums (bB s2.bg)=s2.aZ from rfl];obtain⟨ac6,jk⟩:=n5.ac.Ey s2.aZ;obtain⟨n6,u6⟩:=n5.act (s':=s2) ac6 (Fx.grown jk λk e=>by cases e;exact .inl rfl) ⟨rfl,rfl,rfl,rfl,rfl,rfl,rfl,rfl,rfl,rfl,rfl,rfl,rfl,rfl,rfl⟩ n5.now n5.bn;have gG:=(jk.block C (aF su) (λe=>by have:=Option.some.inj e;omega)).trans su;have nG:=zl.trans u6;have kP:¬Ft N {g2 with a:={g2.a with aZ:=s2.aZ}} s2 C:=rF;have UE:¬jC B ({g2 with a:={g2.a with aZ:=s2.aZ}}:bI).a C:=abS;have t6:Hid (({g2 with a:={g2.a with aZ:=s2.aZ}}:bI).x.T=g.x.T):=t4;have hj6:({g2 with a:={g2.a with aZ:=s2.aZ}}:bI).a.aZ=s2.aZ:=rfl;generalize ({g2 with a:={g2.a with aZ:=s2.aZ}}:bI)=g6 at n6 nG kP UE t6 hj6;clear ac6 jk u6 n5 zl su;go_upto_region 6 with(fail);generalize World.setCell _ _ _=W6 at n6 nG gG ⊢;clear b0 b1 b2 b3 b4 b5 b6 f2;obtain⟨b0,b1,b2,b3,b4,b5,b6⟩:=n6.ac.blk.cell;rw[hj6]at b2;rw[n6.bn]at b3;obtain⟨af,kf,hf,_⟩:=ay n6.ac.aJ;obtain⟨ac,kc,hc,_⟩:=ay n6.ac.bL;obtain⟨ad,kd,hdd,_⟩:=ay n6.ac.bO;rw[hf]at b4;rw[hc]at b5;rw[hdd]at b6;have q0:W6.cell? ⟨C,0,none⟩=some (.string ⟨#[]⟩):=aG _ _ 0 _ _ _ gG;have q1:W6.cell? ⟨C,1,none⟩=some (.bool false):=aG _ _ 1 _ _ _ gG;have q2:W6.cell? ⟨C,2,none⟩=some (.slice none 0 0):=aG _ _ 2 _ _ _ gG;have q3:W6.cell? ⟨C,3,none⟩=some (.slice none 0 0):=aG _ _ 3 _ _ _ gG;have q4:W6.cell? ⟨C,4,none⟩=some (.slice none 0 0):=aG _ _ 4 _ _ _ gG;have z0:=lW W6 C 0 _ _ gG;have z1:=lW W6 C 1 _ _ gG;have z2:=lW W6 C 2 _ _ gG;have z3:=lW W6 C 3 _ _ gG;have z4:=lW W6 C 4 _ _ gG;have g_:=ah (ah (ah (ah (ah (aC W6 (some C)) 0 (.string s2.aZ)) 1 (.bool s2.bn)) 2 (.slice af s2.aI.length kf)) 3 (.slice ac s2.aR.length kc)) 4 (.slice ad s2.aQ.length kd);have gL:(((((W6.setCell ⟨C,0,none⟩ (.string s2.aZ)).setCell ⟨C,1,none⟩ (.bool s2.bn)).setCell ⟨C,2,none⟩ (.slice af s2.aI.length kf)).setCell ⟨C,3,none⟩ (.slice ac s2.aR.length kc)).setCell ⟨C,4,none⟩ (.slice ad s2.aQ.length kd)).heap[C]?=some (.cells #[.string s2.aZ,.bool s2.bn,.slice af s2.aI.length kf,.slice ac s2.aR.length kc,.slice ad s2.aQ.length kd] 52):=by
   simp[World.setCell,Array.getElem?_modify,gG]
  have n7:=n6.off (S:=λk=>k=C) (Fx.grown g_ λk e=>by cases e;rfl) (by rintro k rfl;exact⟨kP,UE⟩);have u7:=nG.fresh g_ (by rw[lZ.out];exact aB _);have afW:C≠B:=by omega
  clear g_ n6 nG;go_wp2;generalize World.setCell _ _ _=W7 at gL n7 u7 ⊢;have p0:W7.cell? ⟨C,0,none⟩=some (.string s2.aZ):=aG _ _ 0 _ _ _ gL;have p1:W7.cell? ⟨C,1,none⟩=some (.bool s2.bn):=aG _ _ 1 _ _ _ gL;have p2:W7.cell? ⟨C,2,none⟩=some (.slice af s2.aI.length kf):=aG _ _ 2 _ _ _ gL;have p3:W7.cell? ⟨C,3,none⟩=some (.slice ac s2.aR.length kc):=aG _ _ 3 _ _ _ gL;have p4:W7.cell? ⟨C,4,none⟩=some (.slice ad s2.aQ.length kd):=aG _ _ 4 _ _ _ gL;refine bodyPost_ret (v:=.agg #[.string s2.aZ,.bool s2.bn,.slice af s2.aI.length kf,.slice ac s2.aR.length kc,.slice ad s2.aQ.length kd]) (by simp[results,Tryz.results48,go_sem,p0,p1,p2,p3,p4]) rfl ⟨g6,?_,n7,u7,t6⟩;rw[hf,hc,hdd];rfl
variable{seq cZ:Int}{q:Int×Int}{B C N Q T:Nat}{p:aD}{s:St}{W a b:World}
theorem aaD(q:Int×Int):oC (fQ q):=⟨λc e=>(by cases e),λc e=>(by cases e),λc e=>(by cases e),λc e=>(by cases e),λc e=>(by cases e)⟩
theorem Up.Tz{D:Nat}{F F':Nat->Prop}(u:Up B F F' a b)(h:QB D q a)(hn:¬F D):QB D q b∧¬F' D:=u.keep h hn (aaD q)
theorem QB.later{D:Nat}(h:QB D q a)(hb:Below a.heap.size a b):QB D q b:=(hb.block _ (aF h)).trans h
@[reducible] def HQ(N B T C Q : Nat)(me seq cZ now : Int)(p : aD)(W : World): Prop :=
 HC N B T C me seq cZ now p W∧W.cell? ⟨Q,0,none⟩=some (.int .u32 p.aJ)∧W.cell? ⟨Q,1,none⟩=some (.int .u32 p.id)
theorem HQ.at{g:bI}{TL:List Hp.Tm}{me now:Int}(n:Nd N B g s TL W)(h:PB p C W)(hQ:QB Q (p.aJ,p.id) W)(t:g.x.T=T)(h1:s.me=me)(h2:s.seq=seq)(h3:s.cZ=cZ)(h4:s.now=now):HQ N B T C Q me seq cZ now p W:=⟨HC.at n h t h1 h2 h3 h4,hQ.cell⟩
theorem HQ.jW{g:bI}{TL:List Hp.Tm}{me now:Int}(n:Nd N B g s TL W)(h:PB p C W)(hQ:QB Q (p.aJ,p.id) W)(t:g.x.T=T)(h1:s.me=me)(h2:s.seq=seq)(h3:s.cZ=cZ)(h4:s.now=now):HQ N B T C Q me seq cZ now p W.drew:=HQ.at n.drew h hQ t h1 h2 h3 h4
theorem yC{E:List Mm}{now t:Int}(h:∀e∈E,e.dL<=now+1280){e:Mm}(he:e∈dP E q (now+1280) t):e.dL<=now+1280:=by
 have hp:∀e∈eB E q (now+1280) t,e.dL<=now+1280:=by
  intro e he;unfold eB at he;rcases dG.1 he with he|he
  ·exact h e (List.mem_filter.1 he).1
  ·rw[dO]at he;subst he;exact fo _
 unfold dP at he;split at he
 ·exact hp e (List.mem_of_mem_tail he)
 ·exact hp e he
structure St.QY(s:St):Prop where
 me:a_ s.me
 seq:a_ s.seq
 now:0<=s.now∧s.now<=4611686018427387904
 mem:∀e∈s.mem,e.dL<=s.now+1280
 aI:s.aI.length<=900000
 aQ:s.aQ.length<=900000
 aR:s.aR.length<=900000
theorem Dc{g:bI}{TL:List Hp.Tm}{w:World}(n:Nd N B g s TL w)(hF:s.QY)(htn:s.tn<=4000000000000000000)(fr:Int)(PV:a_ fr)(p:aD)(hq:p.Hd)(hL:fI w p []):
  Calls Tryz.prog 130 #[.pointer (some ⟨N,0,none⟩),.pointer (some ⟨B,0,none⟩),.int .u32 fr,p.val] w λe w'=>e=.returned (.tuple #[])∧lV N B g s (s.bV fr p) TL w w':=by
 have hp:=hq.wf;have hfl:s.aI.length<=1000000:=by have:=hF.aI;omega
 have hdl:s.aQ.length<=1000000:=by have:=hF.aQ;omega
 obtain⟨hid,hde,hds,hfr,hfs,_⟩:=hp.num;have hb0:Below w.heap.size w ((w.alloc p.box).alloc (fQ (p.aJ,p.id))):=(bC).alloc (by simp) _;have gX:PB p w.heap.size ((w.alloc p.box).alloc (fQ (p.aJ,p.id))):=(((aU _ (w.alloc p.box)).alloc (aB _) _).block _ (by simp)).trans (PB.new p w);have NH:QB (w.heap.size+1) (p.aJ,p.id) ((w.alloc p.box).alloc (fQ (p.aJ,p.id))):=by
  have:=bS (w.alloc p.box) (fQ (p.aJ,p.id));rw[World.size_alloc]at this;exact this
 have n0:=n.later hb0;obtain⟨s2,dB⟩:∃s2,s.bV fr p=s2:=⟨_,rfl⟩;rw[dB];replace dB:=hide dB;dsimp only[aD.box,fQ]at hb0 n0;unfold PB at gX;unfold QB at NH;dsimp only[aD.box,fQ]at gX NH;go_enter Tryz.func130,Tryz.ntmps130;go_upto_region 2 with(fail);generalize World.alloc (World.alloc _ _) _=W1 at hb0 gX NH n0 ⊢;have kK:=n.new (k:=w.heap.size) (aB _);have hQn:=n.new (k:=w.heap.size+1) (Nat.le_succ _);generalize w.heap.size+1=Q at NH hQn ⊢;generalize lZ:w.heap.size=C at gX kK ⊢;replace lZ:=hide lZ;have hs2:=dB.out;unfold St.bV at hs2;have HH:=hide λW5 (h5:Below W1.heap.size W1 W5)=>QJ (n0.later h5) (p.aJ,p.id) ⟨hfr,hid⟩ s.now hF.now.1;obtain⟨cb,hcb⟩:∃cb,(decide (p.aJ=s.me)||pu s.mem (p.aJ,p.id) s.now)=cb:=⟨_,rfl⟩;replace hcb:=hide hcb;go_cut [33]from 16 to 32 (λbv W=>bv=.bool cb∧Below W1.heap.size W1 W)
 case first=>
  obtain⟨⟨⟨m0,m1,m2,m3,m4⟩,p0,p1,p2,p3,p4,p5,p6,p7,p8,p9,jK,jE⟩,q0,q1⟩:=HQ.at n0 gX NH rfl rfl rfl rfl rfl;have hbd:Below W1.heap.size W1 W1.drew:=(aU _ _).drew;by_cases hse:p.aJ=s.me
  ·have hbe:(p.aJ==s.me)=true:=by simpa using hse
   obtain rfl:true=cb:=by rw[<-hcb.out,gu hse];rfl
   clear hse HH p0 p1 p2 p3 p5 p6 p8 p9 jK jE m1 m2 m3;go_region
   all_goals
    go_wp2_with fail;go_meet;exact⟨rfl,hbd⟩
  ·have hbe:(p.aJ==s.me)=false:=by simpa using hse
   have hd:pu s.mem (p.aJ,p.id) s.now=cb:=by rw[<-hcb.out,fD hse];rfl
   rw[hd]at HH;dsimp only[jV]at HH;clear hd hse p0 p1 p2 p3 p5 p6 p8 p9 jK jE m1 m2 m3;go_region_law (first|(go_simp;go_at_call 160;refine(HH.out _ hbd).mono ?_;rintro e w2 ⟨rfl,hb2⟩))
   all_goals
    go_wp2_with fail;go_meet;exact⟨rfl,hbd.trans (hb2.mono hbd.size)⟩
 case rest=>
  obtain⟨rfl,hb2⟩:=hcut;have fK:=hF.now;have n2:=n0.later hb2;have hP2:PB p C wc:=PB.below gX hb2;have hQ2:QB Q (p.aJ,p.id) wc:=QB.later NH hb2;have ua0:Up B (Ft N g s) (Ft N g s) w wc:=.below (hb0.trans (hb2.mono hb0.size));have hLq:=hL.below (hb0.trans (hb2.mono hb0.size));clear HH gX NH n0 hb0 hb2 dB lZ;cases cb
  ·have I9:=hcb.out;simp only[Bool.or_eq_false_iff,decide_eq_false_iff_not]at I9;rw[aH (by rintro(h|h);exact I9.1 h;rw[I9.2]at h;cases h)]at hs2;clear hcb I9;have HA:Hid (∀t,t=s.now+1280->Calls Tryz.prog 156 #[.pointer (some ⟨N,8,none⟩),.agg #[.int .u32 p.aJ,.int .u32 p.id],.int .u64 t] wc.drew λe w'=>e=.returned (.tuple #[])∧lV N B g s {s with mem:=dP s.mem (p.aJ,p.id) (s.now+1280) s.tn,tn:=s.tn+1} TL wc.drew w'):=by
    rintro _ rfl;exact QL n2.drew (p.aJ,p.id) ⟨hfr,hid⟩ (s.now+1280) (by omega) hF.mem (by omega)
   have hS:HQ N B g.x.T C Q s.me s.seq s.cZ s.now p wc.drew:=HQ.jW n2 hP2 hQ2 rfl rfl rfl rfl rfl;go_wp2_with fail;go_region_held3 (HQ N B g.x.T C Q s.me s.seq s.cZ s.now p) (first|with_reducible exact hS|with_reducible assumption) ((go_at_call 156;refine(HA.out _ (by first|rfl|exact mK fK (by decide))).mono ?_;rintro e w3 ⟨rfl,hN⟩;obtain⟨g3,n3,u3,t3⟩:=hN;obtain⟨hP3,Qc⟩:=u3.kF hP2 kK;obtain⟨NG,abM⟩:=u3.Tz hQ2 hQn;have hk3:HQ N B g.x.T C Q s.me s.seq s.cZ s.now p w3:=HQ.at n3 hP3 NG t3.out rfl rfl rfl rfl))
   clear hS hk3;rename_i iV;clear iV;have Q7:=(ua0.trans (.below (aU _ _).drew)).trans u3;obtain⟨s1,hs1⟩:∃s1,({s with mem:=dP s.mem (p.aJ,p.id) (s.now+1280) s.tn,tn:=s.tn+1}:St)=s1:=⟨_,rfl⟩;have hF1:s1.QY:=by
    rw[<-hs1];refine⟨hF.me,hF.seq,hF.now,λe he=> ?_,hF.aI,hF.aQ,hF.aR⟩;exact yC hF.mem he
   have ad2:fI w3 p []:=hLq.nil;rw[hs1]at n3 Q7 Qc abM hs2;clear hs1 HA ua0 hLq n2 hQ2 hP2;unfold St.learn at hs2;have Ny:=hF1.now;obtain⟨u,hu⟩:∃u,iP s1.me s1.A p.aJ p.dw (St.far p.hops) fr (s1.now+3000)=u:=⟨_,rfl⟩;have HU:Hid (∀t,t=s1.now+3000->Calls Tryz.prog 161 #[.pointer (some ⟨g3.x.T,0,none⟩),.int .u32 p.aJ,.int .u32 p.dw,.int .i64 (St.far p.hops),.int .u32 fr,.int .u64 t] w3.drew λr w'=>r=.returned (.int .i64 u.2)∧lV N B g3 s1 {s1 with A:=u.1} TL w3.drew w'):=by
    rintro _ rfl;have:=JG n3.drew p.aJ p.dw (St.far p.hops) fr (s1.now+3000) hfr hfs (by have:=hq.hops;unfold oW St.far;omega) PV (by unfold BZ;omega);rw[hu]at this;exact this
   rw[hu]at hs2;obtain⟨A2,E2⟩:=u;dsimp only at hs2 HU;clear hu;have hS:HQ N B g3.x.T C Q s1.me s1.seq s1.cZ s1.now p w3.drew:=HQ.jW n3 hP3 NG rfl rfl rfl rfl rfl;go_wp2_with fail;go_region_held3 (HQ N B g3.x.T C Q s1.me s1.seq s1.cZ s1.now p) (first|with_reducible exact hS|with_reducible assumption) (first
    |(go_at_call 162;refine(vV p.hops hq.hops _).mono ?_;rintro e w3f ⟨rfl,rfl⟩)
    |(go_at_call 161;refine(HU.out _ (by first|rfl|exact mK Ny (by decide))).mono ?_;rintro e w4 ⟨rfl,hN⟩;obtain⟨g4,n4,u4,t4⟩:=hN;obtain⟨l9,rF⟩:=u4.kF hP3 Qc;obtain⟨Cy,Yn⟩:=u4.Tz NG abM;have hk4:HQ N B g3.x.T C Q s1.me s1.seq s1.cZ s1.now p w4:=HQ.at n4 l9 Cy t4.out rfl rfl rfl rfl))
   clear hS;rename_i iV;clear iV;have qf:=(Q7.trans (.below (aU _ _).drew)).trans u4;have t43:Hid (g4.x.T=g.x.T):=t4.out.trans t3.out;obtain⟨s4,hs4⟩:∃s4,({s1 with A:=A2}:St)=s4:=⟨_,rfl⟩;have tu:s4.QY:=by
    rw[<-hs4];exact⟨hF1.me,hF1.seq,hF1.now,hF1.mem,hF1.aI,hF1.aQ,hF1.aR⟩
   have Yr:fI w4 p []:=ad2.nil;have adB:Hid (s4.now=s1.now):=by show _=_;rw[<-hs4]
   have hA4:({s1 with A:=iO A2 p.aJ (s1.now+3000)}:St)={s4 with A:=iO s4.A p.aJ (s1.now+3000)}:=by rw[<-hs4]
   rw[hs4,hA4]at hs2;rw[hs4]at n4 qf rF Yn;clear hs4 hA4 Q7 u4 hk4 n3 hP3 NG Qc abM HU ad2 u3 hF1;by_cases h4:E2=4
   ·subst h4;rw[aM rfl]at hs2;have HX:=hide (jA n4 2 (by have:=tu.aQ;omega));rw[hs2]at HX;go_wp2_with fail;refine aT HX.out ?_;rintro e w9 ⟨rfl,hN⟩;obtain⟨g9,n9,u9,t9⟩:=hN;go_wp2;go_returns;exact⟨rfl,g9,n9,qf.trans u9,t9.out.trans t43⟩
   ·have b4:(E2==4)=false:=by simpa using h4
    rw[aH h4]at hs2;by_cases h3:E2=3
    ·subst h3;rw[aM rfl]at hs2;have HV:Hid (∀t,t=s1.now+3000->Calls Tryz.prog 81 #[.pointer (some ⟨g4.x.T,0,none⟩),.int .u32 p.aJ,.int .u64 t] w4.drew λr w'=>r=.returned (.tuple #[])∧lV N B g4 s4 {s4 with A:=iO s4.A p.aJ (s1.now+3000)} TL w4.drew w'):=by
      rintro _ rfl;exact Oe n4.drew p.aJ (s1.now+3000) hfr (by unfold BZ;omega)
     have hS:HQ N B g4.x.T C Q s4.me s4.seq s4.cZ s1.now p w4.drew:=HQ.jW n4 l9 Cy rfl rfl rfl rfl adB.out;go_wp2_with fail;go_region_held3 (HQ N B g4.x.T C Q s4.me s4.seq s4.cZ s1.now p) (first|with_reducible exact hS|with_reducible assumption) ((go_at_call 81;refine(HV.out _ (by first|rfl|exact mK Ny (by decide))).mono ?_;rintro e w6 ⟨rfl,hN⟩;obtain⟨g6,n6,u6,t6⟩:=hN;obtain⟨JY,kP⟩:=u6.kF l9 rF;obtain⟨hQ6,afI⟩:=u6.Tz Cy Yn;have ZP:HQ N B g4.x.T C Q s4.me s4.seq s4.cZ s1.now p w6:=HQ.at n6 JY hQ6 t6.out rfl rfl rfl adB.out))
     clear hS ZP;rename_i iV;clear iV;have nG:=(qf.trans (.below (aU _ _).drew)).trans u6;have t63:Hid (g6.x.T=g.x.T):=t6.out.trans t43.out;obtain⟨s6,hs6⟩:∃s6,({s4 with A:=iO s4.A p.aJ (s1.now+3000)}:St)=s6:=⟨_,rfl⟩;have Wd:s6.QY:=by
      rw[<-hs6];exact⟨tu.me,tu.seq,tu.now,tu.mem,tu.aI,tu.aQ,tu.aR⟩
     have hLq:fI w6 p []:=Yr.nil;rw[hs6]at n6 nG kP hs2;clear hs6 qf u6 n4 l9 Cy rF Yn hQ6 afI HV Yr tu b4;obtain⟨⟨y,fd⟩,hy⟩:∃r,bH s6.A p.dest s6.now=r:=⟨_,rfl⟩;have HF:=hide (nS n6 p.dest s6.now hde hy);go_wp2_with fail;go_cut [9,10]from 82 to 95 (og y fd w6)
     case first=>
      have hS:HB N B g6.x.T C s6.me s6.seq s6.cZ s6.now p w6 w6.drew:=HB.drew (HB.mk' n6 JY (aU _ _));have hkB:=hide λW5 h5=>HB.mk' (W:=W5) n6 JY h5;go_region_held3 (HB N B g6.x.T C s6.me s6.seq s6.cZ s6.now p w6) (first|with_reducible exact hS|with_reducible assumption|(with_reducible apply HB.vP hkB;assumption)|(with_reducible apply HB.kG hkB;assumption)|(with_reducible apply HB.eX hkB)|(with_reducible apply hkB.out;assumption)) ((go_at_call 79;refine(HF.out _ (And.right (by assumption))).mono ?_;rintro e w2 ⟨ao,c,rfl,hb2,hpr⟩;try ((with_reducible have hD:=hpr di (.slice none 0 0) (lG w6));obtain⟨d0,d1,d2,d3,d4,d5,d6⟩:=hD.cell;have q0:=hD.free 0;have q1:=hD.free 1;have q2:=hD.free 2;have q3:=hD.free 3;have q4:=hD.free 4;have q5:=hD.free 5;have q6:=hD.free 6;have hD':Hid (eu w6.heap.size di (.slice none 0 0) w2):=hD;clear hD);clear hpr))
      all_goals
       go_wp2_with fail;go_meet;first|with_reducible exact iB hb2|with_reducible exact j3 hb2 hD'
     case rest=>
      obtain⟨E,ao,c,rfl,rfl,hE,hEl,r_⟩:=hcut;have n8:=n6.later r_;have KX:PB p C wc:=PB.below JY r_;have hL8:=hLq.below r_;have ru:fd=true->y.Ok:=λh=>by
       have:=oN n6.nn.cr.tb.ok p.dest s6.now;rw[hy]at this;rcases this with h1|h1
       ·exact h1
       ·rw[h]at h1;cases h1
      unfold St.asked at hs2;rw[hy]at hs2;dsimp only at hs2;have VW:=nG.trans (.below r_);have Bn:s6.aI.length<=1000000:=by have:=Wd.aI;omega
      have FB:s6.aQ.length<=1000000:=by have:=Wd.aQ;omega
      have hS:HC N B g6.x.T C s6.me s6.seq s6.cZ s6.now p wc.drew:=HC.xX n8 KX;have Rb:eu E y (.slice ao y.bN.length c) wc.drew:=hE;have n9:=n8.drew;have JX:PB p C wc.drew:=KX;have hL9:fI wc.drew p []:=hL8.below (aU _ _).drew;have wT:=VW.trans (.below (aU _ _).drew);clear HF JY n6 r_ nG hE n8 KX hL8 VW;by_cases rD:p.dest=s6.me
      ·have hbe:(p.dest==s6.me)=true:=by simpa using rD
       rw[aM rD]at hs2;clear rD;go_wp2_with fail;go_region_held3 (HC N B g6.x.T C s6.me s6.seq s6.cZ s6.now p) (first|with_reducible exact hS|with_reducible assumption) (fail)
       rename_i iV;clear iV hS;generalize World.drew _=W9 at n9 JX hL9 wT Rb ⊢;have HX:=hide (wG n9 p hq Wd.me Wd.seq Bn FB);rw[hs2]at HX;dsimp only[aD.val]at HX;obtain⟨p0,p1,p2,p3,p4,p5,p6,p7,p8,p9,jK,jE⟩:=PB.cell JX;clear JX;go_wp2_with fail;refine aT HX.out ?_;rintro e w9 ⟨rfl,hN⟩;obtain⟨g9,n9,u9,t9⟩:=hN;go_wp2;go_returns;exact⟨rfl,g9,n9,wT.trans u9,t9.out.trans t63.out⟩
      ·have hbe:(p.dest==s6.me)=false:=by simpa using rD
       rw[aH rD]at hs2;go_wp2_with fail;go_region_held3 (HC N B g6.x.T C s6.me s6.seq s6.cZ s6.now p) (first|with_reducible exact hS|with_reducible assumption) (fail)
       rename_i iV;clear iV hS;generalize World.drew _=W9 at n9 JX hL9 wT Rb ⊢;obtain⟨p0,p1,p2,p3,p4,p5,p6,p7,p8,p9,jK,jE⟩:=PB.cell JX;obtain⟨e0,e1,e2,e3,e4,e5,e6⟩:=Rb.cell;clear JX Rb;by_cases hfo:(fd&&(p.unk||decide (y.seq>=p.aX)))=true
       ·rw[aM hfo]at hs2;have xN:fd=true:=by revert hfo;cases fd<;>simp
        subst xN;have hyk:=ru rfl;have HX:=hide (tL n9 p hq y hyk ao y.bN.length c (by have:=Wd.now;unfold BZ;omega) Bn FB);rw[hs2]at HX;dsimp only[aD.val,JU]at HX;cases hun:p.unk
        ·rw[hun,Bool.true_and,Bool.false_or]at hfo;have hge:decide (p.aX<=y.seq)=true:=hfo;rw[hun]at HX p3;go_wp2_with fail;refine aT HX.out ?_;rintro e w9 ⟨rfl,hN⟩;obtain⟨g9,n9,u9,t9⟩:=hN;go_wp2;go_returns;exact⟨rfl,g9,n9,wT.trans u9,t9.out.trans t63.out⟩
        ·rw[hun]at HX p3;go_wp2_with fail;refine aT HX.out ?_;rintro e w9 ⟨rfl,hN⟩;obtain⟨g9,n9,u9,t9⟩:=hN;go_wp2;go_returns;exact⟨rfl,g9,n9,wT.trans u9,t9.out.trans t63.out⟩
       ·rw[aH hfo]at hs2;have Ul:fd=false∨(fd=true∧p.unk=false∧decide (p.aX<=y.seq)=false):=by
         revert hfo
         cases fd<;>cases p.unk<;>simp
        by_cases htl:p.ttl=1
        ·have hbt:(p.ttl==1)=true:=by simpa using htl
         rw[aM htl]at hs2;clear htl;have HX:=hide (jA n9 4 FB);rw[hs2]at HX;rcases Ul with rfl|⟨rfl,hun,hge⟩
         ·
          go_wp2_with fail;refine aT HX.out ?_;rintro e w9 ⟨rfl,hN⟩;obtain⟨g9,n9,u9,t9⟩:=hN;go_wp2;go_returns;exact⟨rfl,g9,n9,wT.trans u9,t9.out.trans t63.out⟩
         ·rw[hun]at p3;go_wp2_with fail;refine aT HX.out ?_;rintro e w9 ⟨rfl,hN⟩;obtain⟨g9,n9,u9,t9⟩:=hN;go_wp2;go_returns;exact⟨rfl,g9,n9,wT.trans u9,t9.out.trans t63.out⟩
        ·have hbt:(p.ttl==1)=false:=by simpa using htl
         rw[aH htl]at hs2;have HX:=hide (Oh n9 p hq hL9 Bn);rw[hs2]at HX;dsimp only[aD.val]at HX;rcases Ul with rfl|⟨rfl,hun,hge⟩
         ·
          go_wp2_with fail;refine aT HX.out ?_;rintro e w9 ⟨rfl,hN⟩;obtain⟨g9,n9,u9,t9⟩:=hN;go_wp2;go_returns;exact⟨rfl,g9,n9,wT.trans u9,t9.out.trans t63.out⟩
         ·rw[hun]at HX p3;go_wp2_with fail;refine aT HX.out ?_;rintro e w9 ⟨rfl,hN⟩;obtain⟨g9,n9,u9,t9⟩:=hN;go_wp2;go_returns;exact⟨rfl,g9,n9,wT.trans u9,t9.out.trans t63.out⟩
    ·have b3:(E2==3)=false:=by simpa using h3
     rw[aH h3]at hs2;have hLq:=Yr;clear Cy Yn Yr;obtain⟨⟨y,fd⟩,hy⟩:∃r,bH s4.A p.dest s4.now=r:=⟨_,rfl⟩;have HF:=hide (nS n4 p.dest s4.now hde hy);go_wp2_with fail;go_cut [9,10]from 82 to 95 (og y fd w4)
     case first=>
      have hS:HB N B g4.x.T C s4.me s4.seq s4.cZ s4.now p w4 w4.drew:=HB.drew (HB.mk' n4 l9 (aU _ _));have hkB:=hide λW5 h5=>HB.mk' (W:=W5) n4 l9 h5;go_region_held3 (HB N B g4.x.T C s4.me s4.seq s4.cZ s4.now p w4) (first|with_reducible exact hS|with_reducible assumption|(with_reducible apply HB.vP hkB;assumption)|(with_reducible apply HB.kG hkB;assumption)|(with_reducible apply HB.eX hkB)|(with_reducible apply hkB.out;assumption)) ((go_at_call 79;refine(HF.out _ (And.right (by assumption))).mono ?_;rintro e w2 ⟨ao,c,rfl,hb2,hpr⟩;try ((with_reducible have hD:=hpr di (.slice none 0 0) (lG w4));obtain⟨d0,d1,d2,d3,d4,d5,d6⟩:=hD.cell;have q0:=hD.free 0;have q1:=hD.free 1;have q2:=hD.free 2;have q3:=hD.free 3;have q4:=hD.free 4;have q5:=hD.free 5;have q6:=hD.free 6;have hD':Hid (eu w4.heap.size di (.slice none 0 0) w2):=hD;clear hD);clear hpr))
      all_goals
       go_wp2_with fail;go_meet;first|with_reducible exact iB hb2|with_reducible exact j3 hb2 hD'
     case rest=>
      obtain⟨E,ao,c,rfl,rfl,hE,hEl,r_⟩:=hcut;have n8:=n4.later r_;have KX:PB p C wc:=PB.below l9 r_;have hL8:=hLq.below r_;have ru:fd=true->y.Ok:=λh=>by
       have:=oN n4.nn.cr.tb.ok p.dest s4.now;rw[hy]at this;rcases this with h1|h1
       ·exact h1
       ·rw[h]at h1;cases h1
      unfold St.asked at hs2;rw[hy]at hs2;dsimp only at hs2;have VW:=qf.trans (.below r_);have Bn:s4.aI.length<=1000000:=by have:=tu.aI;omega
      have FB:s4.aQ.length<=1000000:=by have:=tu.aQ;omega
      have hS:HC N B g4.x.T C s4.me s4.seq s4.cZ s4.now p wc.drew:=HC.xX n8 KX;have Rb:eu E y (.slice ao y.bN.length c) wc.drew:=hE;have n9:=n8.drew;have JX:PB p C wc.drew:=KX;have hL9:fI wc.drew p []:=hL8.below (aU _ _).drew;have wT:=VW.trans (.below (aU _ _).drew);clear HF l9 n4 r_ qf hE n8 KX hL8 VW;by_cases rD:p.dest=s4.me
      ·have hbe:(p.dest==s4.me)=true:=by simpa using rD
       rw[aM rD]at hs2;clear rD;go_wp2_with fail;go_region_held3 (HC N B g4.x.T C s4.me s4.seq s4.cZ s4.now p) (first|with_reducible exact hS|with_reducible assumption) (fail)
       rename_i iV;clear iV hS;generalize World.drew _=W9 at n9 JX hL9 wT Rb ⊢;have HX:=hide (wG n9 p hq tu.me tu.seq Bn FB);rw[hs2]at HX;dsimp only[aD.val]at HX;obtain⟨p0,p1,p2,p3,p4,p5,p6,p7,p8,p9,jK,jE⟩:=PB.cell JX;clear JX;go_wp2_with fail;refine aT HX.out ?_;rintro e w9 ⟨rfl,hN⟩;obtain⟨g9,n9,u9,t9⟩:=hN;go_wp2;go_returns;exact⟨rfl,g9,n9,wT.trans u9,t9.out.trans t43.out⟩
      ·have hbe:(p.dest==s4.me)=false:=by simpa using rD
       rw[aH rD]at hs2;go_wp2_with fail;go_region_held3 (HC N B g4.x.T C s4.me s4.seq s4.cZ s4.now p) (first|with_reducible exact hS|with_reducible assumption) (fail)
       rename_i iV;clear iV hS;generalize World.drew _=W9 at n9 JX hL9 wT Rb ⊢;obtain⟨p0,p1,p2,p3,p4,p5,p6,p7,p8,p9,jK,jE⟩:=PB.cell JX;obtain⟨e0,e1,e2,e3,e4,e5,e6⟩:=Rb.cell;clear JX Rb;by_cases hfo:(fd&&(p.unk||decide (y.seq>=p.aX)))=true
       ·rw[aM hfo]at hs2;have xN:fd=true:=by revert hfo;cases fd<;>simp
        subst xN;have hyk:=ru rfl;have HX:=hide (tL n9 p hq y hyk ao y.bN.length c (by have:=tu.now;unfold BZ;omega) Bn FB);rw[hs2]at HX;dsimp only[aD.val,JU]at HX;cases hun:p.unk
        ·rw[hun,Bool.true_and,Bool.false_or]at hfo;have hge:decide (p.aX<=y.seq)=true:=hfo;rw[hun]at HX p3;go_wp2_with fail;refine aT HX.out ?_;rintro e w9 ⟨rfl,hN⟩;obtain⟨g9,n9,u9,t9⟩:=hN;go_wp2;go_returns;exact⟨rfl,g9,n9,wT.trans u9,t9.out.trans t43.out⟩
        ·rw[hun]at HX p3;go_wp2_with fail;refine aT HX.out ?_;rintro e w9 ⟨rfl,hN⟩;obtain⟨g9,n9,u9,t9⟩:=hN;go_wp2;go_returns;exact⟨rfl,g9,n9,wT.trans u9,t9.out.trans t43.out⟩
       ·rw[aH hfo]at hs2;have Ul:fd=false∨(fd=true∧p.unk=false∧decide (p.aX<=y.seq)=false):=by
         revert hfo
         cases fd<;>cases p.unk<;>simp
        by_cases htl:p.ttl=1
        ·have hbt:(p.ttl==1)=true:=by simpa using htl
         rw[aM htl]at hs2;clear htl;have HX:=hide (jA n9 4 FB);rw[hs2]at HX;rcases Ul with rfl|⟨rfl,hun,hge⟩
         ·
          go_wp2_with fail;refine aT HX.out ?_;rintro e w9 ⟨rfl,hN⟩;obtain⟨g9,n9,u9,t9⟩:=hN;go_wp2;go_returns;exact⟨rfl,g9,n9,wT.trans u9,t9.out.trans t43.out⟩
         ·rw[hun]at p3;go_wp2_with fail;refine aT HX.out ?_;rintro e w9 ⟨rfl,hN⟩;obtain⟨g9,n9,u9,t9⟩:=hN;go_wp2;go_returns;exact⟨rfl,g9,n9,wT.trans u9,t9.out.trans t43.out⟩
        ·have hbt:(p.ttl==1)=false:=by simpa using htl
         rw[aH htl]at hs2;have HX:=hide (Oh n9 p hq hL9 Bn);rw[hs2]at HX;dsimp only[aD.val]at HX;rcases Ul with rfl|⟨rfl,hun,hge⟩
         ·
          go_wp2_with fail;refine aT HX.out ?_;rintro e w9 ⟨rfl,hN⟩;obtain⟨g9,n9,u9,t9⟩:=hN;go_wp2;go_returns;exact⟨rfl,g9,n9,wT.trans u9,t9.out.trans t43.out⟩
         ·rw[hun]at HX p3;go_wp2_with fail;refine aT HX.out ?_;rintro e w9 ⟨rfl,hN⟩;obtain⟨g9,n9,u9,t9⟩:=hN;go_wp2;go_returns;exact⟨rfl,g9,n9,wT.trans u9,t9.out.trans t43.out⟩
  ·have I9:=hcb.out;simp only[Bool.or_eq_true,iM]at I9;rw[aM I9]at hs2;subst hs2;have HD:=hide (jA n2 1 hdl);clear hcb I9 hP2 hQ2;go_wp2_with fail;refine aT HD.out ?_;rintro e w3 ⟨rfl,hN⟩;go_wp2;go_returns;obtain⟨g9,n9,u9,t9⟩:=hN;exact⟨rfl,g9,n9,ua0.trans u9,t9⟩
variable{k:Int}{j:Nat}{s:St}
structure St.Inv(k:Int)(s:St):Prop where
 me:a_ s.me
 seq:a_ s.seq
 now:0<=s.now
 mem:∀e∈s.mem,e.dL<=s.now+1280
 dom:s.Dom
 cnt:0<=s.cnt∧s.cnt<=24
 tn:s.tn<=10000 * k
 tl:0<=s.tl∧s.tl<=10000 * k
 lk:s.lk=0
 Cv:s.pc.length<=5
 AR:s.pc.Pairwise (·<=·)
 AU:∀t∈s.pc,t<=s.now
 EF:∀q∈s.Q,q.id<=s.tl
 bd:qx s.bg
 nwl:s.bg.length<=100000
 frl:s.aI.length<=100000
 cml:s.aR.length<=100000
 drl:s.aQ.length<=100000
structure St.Mid(k:Int)(j:Nat)(s:St):Prop where
 me:a_ s.me
 seq:a_ s.seq
 now:0<=s.now∧s.now<=4611686018427387904
 mem:∀e∈s.mem,e.dL<=s.now+1280
 dom:s.Dom
 cnt:0<=s.cnt∧s.cnt<=24+10 * j
 bg:s.bg.length<=10 * j
 bd:qx s.bg
 aI:s.aI.length<=10 * j
 aQ:s.aQ.length<=10 * j
 aR:s.aR.length<=10 * j
 tn:s.tn<=10000 * k+j
 tl:0<=s.tl∧s.tl<=10000 * k+j
 Cv:s.pc.length<=5
 AR:s.pc.Pairwise (·<=·)
 AU:∀t∈s.pc,t<=s.now
 EF:∀q∈s.Q,q.id<=s.tl
theorem St.Mid.fine(h:s.Mid k j)(hj:j<=50000):s.QY:=
 ⟨h.me,h.seq,h.now,h.mem,by have:=h.aI;omega,by have:=h.aQ;omega,by have:=h.aR;omega⟩
theorem Om(s:St)(hA:s.A.length<=8):s.write.bg.length<=s.bg.length+9∧0<=s.write.cnt - s.cnt∧s.write.cnt<=s.cnt+9:=by
 have h:=oF s.seq s.own s.f s.A;refine⟨?_,?_,?_⟩
 ·show(s.bg++_).length<=_;rw[dx];omega
 ·show 0<=s.cnt+_ - s.cnt;omega
 ·show s.cnt+_<=s.cnt+9;omega
theorem xI(h:s.Mid k j)(hA:∀y∈s.A,y.Ok)(hl:s.A.length<=8):s.write.Mid k (j+1):=by
 obtain⟨w1,w2,w3⟩:=Om s hl;have c:=h.cnt;exact⟨h.me,h.seq,h.now,h.mem,Eb h.dom hA h.seq,by omega,by have:=h.bg;omega,Cg h.bd (Ih h.seq s.f hA),by have:=h.aI;show s.aI.length<=_;omega,by have:=h.aQ;show s.aQ.length<=_;omega,by have:=h.aR;show s.aR.length<=_;omega,by have:=h.tn;show s.tn<=_;omega,by have:=h.tl;show 0<=s.tl∧s.tl<=_;omega,h.Cv,h.AR,h.AU,h.EF⟩
theorem NN{A:List Rt}(hA:∀y∈A,y.Ok)(now:Int):∀y∈iW A now,y.Ok:=by
 intro y hy;obtain⟨z,hz,rfl⟩:=dh.1 hy;unfold n_;split
 ·exact vW (hA z hz) (by simp[a_])
 ·exact hA z hz
theorem Pn(h:s.Inv k)(hA:∀y∈s.A,y.Ok)(hl:s.A.length<=8)(now:Int)(hn:s.now<=now∧now<=4611686018427387904):(s.begin now).Mid k 1:=by
 have h0:({s with now:=now,A:=iW s.A now,bg:=[],aI:=[],aR:=[],aQ:=[],bn:=false}:St).Mid k 0:=
  ⟨h.me,h.seq,⟨by have:=h.now;dsimp only;omega,hn.2⟩,λe he=>by have:=h.mem e he;dsimp only;omega,⟨h.dom.mb,λd hd=>by
   obtain⟨y,hy,rfl⟩:=h.dom.on d hd;exact⟨n_ now y,dh.2 ⟨y,hy,rfl⟩,h_ now y⟩,h.dom.own⟩,by have:=h.cnt;dsimp only;omega,aB _,λ_ h=>(by cases h),aB _,aB _,aB _,by have:=h.tn;dsimp only;omega,by have:=h.tl;dsimp only;omega,h.Cv,h.AR,λt ht=>by have:=h.AU t ht;dsimp only;omega,h.EF⟩
 exact xI h0 (NN hA now) (by dsimp only[iW];rw[iL];exact hl)
theorem vK{i:Nat}{s':St}(h:s.Mid k j)(e:Eff i s s'):s'.Mid k (j+i):=by
 refine⟨by rw[e.me];exact h.me,e.seq h.seq,by rw[e.now];exact h.now,e.mem h.mem,⟨by rw[e.f];exact h.dom.mb,λd hd=> ?_,by rw[e.own];exact h.dom.own⟩,by rw[e.cnt];have:=h.cnt;omega,by rw[e.bg];have:=h.bg;omega,by rw[e.bg];exact h.bd,by have:=e.aI;have:=h.aI;omega,by have:=e.aQ;have:=h.aQ;omega,by have:=e.aR;have:=h.aR;omega,by have:=e.tn;have:=h.tn;omega,by rw[e.tl];have:=h.tl;omega,by rw[e.pc];exact h.Cv,by rw[e.pc];exact h.AR,by rw[e.pc,e.now];exact h.AU,λq hq=>by rw[e.tl];exact h.EF q (e.qs q hq)⟩;rw[e.f]at hd;obtain⟨y,hy,rfl⟩:=h.dom.on d hd;obtain⟨z,hz,e⟩:=e.sub y hy;exact⟨z,hz,e⟩
structure agf(s s':St):Prop where
 me:s'.me=s.me
 seq:s'.seq=s.seq
 cZ:s'.cZ=s.cZ
 dm:s'.dm=s.dm
 eG:s'.eG=s.eG
 A:s'.A=s.A
 mem:s'.mem=s.mem
 tn:s'.tn=s.tn
 Q:s'.Q=s.Q
 tl:s'.tl=s.tl
 pc:s'.pc=s.pc
 now:s'.now=s.now
 aI:s'.aI=s.aI
 aR:s'.aR=s.aR
 aQ:s'.aQ=s.aQ
 lk:s'.lk=s.lk
theorem aO(s:St):agf s s.finish:=by
 unfold St.finish;split<;>exact⟨rfl,rfl,rfl,rfl,rfl,rfl,rfl,rfl,rfl,rfl,rfl,rfl,rfl,rfl,rfl,rfl⟩
theorem zU(s:St):s.cmp.length=s.A.length+1:=by
 simp only[St.cmp,dz,gM,dx,iL,dY,List.length_nil];omega
theorem acf(h1:a_ s.own)(h2:MB s.f)(hA:∀y∈s.A,y.Ok):qx s.cmp:=by
 intro x hx;simp only[St.cmp,dz,gM,dG,dO,dh]at hx;rcases hx with rfl|⟨a,ha,rfl⟩
 ·unfold a_ at h1;dsimp only;omega
 ·obtain⟨y,hy,rfl⟩:=ha;have h2':=(hA y hy).dest;have h3:=h2.getD y.dest;unfold a_ at h2' h3;dsimp only;omega
theorem Be(h:s.Mid k j)(hj:j<=9000)(hlk:s.lk=0)(hA:∀y∈s.A,y.Ok)(hl:s.A.length<=8):s.finish.Inv (k+1):=by
 have e:=aO s;have hw:=xI h hA hl;have D5:s.finish.Dom:=by
  have:=hw.dom;unfold St.finish;split
  ·exact⟨this.mb,this.on,this.own⟩
  ·exact this
 have hcn:0<=s.finish.cnt∧s.finish.cnt<=24:=by
  unfold St.finish;split
  ·have:=zU s.write;have h8:s.write.A.length<=8:=hl;dsimp only;omega
  ·have:=hw.cnt;omega
 have hbd:qx s.finish.bg∧s.finish.bg.length<=100000:=by
  unfold St.finish;split
  ·have h8:s.write.A.length<=8:=hl;refine⟨acf hw.dom.own hw.dom.mb hA,?_⟩;have:=zU s.write;dsimp only;omega
  ·have:=hw.bg;exact⟨hw.bd,by omega⟩
 exact⟨by rw[e.me];exact h.me,by rw[e.seq];exact h.seq,by rw[e.now];exact h.now.1,by rw[e.mem,e.now];exact h.mem,D5,hcn,by rw[e.tn];have:=h.tn;omega,by rw[e.tl];have:=h.tl;omega,by rw[e.lk];exact hlk,by rw[e.pc];exact h.Cv,by rw[e.pc];exact h.AR,by rw[e.pc,e.now];exact h.AU,by rw[e.Q,e.tl];exact h.EF,hbd.1,hbd.2,by rw[e.aI];have:=h.aI;omega,by rw[e.aR];have:=h.aR;omega,by rw[e.aQ];have:=h.aQ;omega⟩
def dV(s:St)(TL:List Hp.Tm):Prop:=TL.Perm (s.Q.map kT)
theorem Jh{Q:List Sr}(hn:Q.Pairwise λa b=>a.dest≠b.dest){q:Sr}(hq:q∈Q):Q.Perm (q::Q.filter λz=>!decide (z.dest=q.dest)):=by
 induction Q with
 |nil=>cases hq
 |cons a Q ih=>
  rw[List.pairwise_cons]at hn;rcases eD.1 hq with rfl|h
  ·have h1:Q.filter (λz=>!decide (z.dest=q.dest))=Q:=List.filter_eq_self.2 λz hz=>by simpa using(hn.1 z hz).symm
   simp[h1]
  ·have h1:=ih hn.2 h;have h2:a.dest≠q.dest:=hn.1 q h;rw[List.filter_cons_of_pos (by simpa using h2)];exact(h1.cons a).trans (.swap _ _ _)
theorem aak{d:Int}{s2:St}{TL dW:List Hp.Tm}(h:Ze d s TL s2 dW)(ht:dV s TL)(hid:TL.Pairwise λa b=>a.2.1≠b.2.1)(hn:s.Q.Pairwise λa b=>a.dest≠b.dest):dV s2 dW:=by
 unfold dV at ht ⊢;rcases h with⟨rfl,e⟩|⟨q,hq,htk,e⟩
 ·rw[e];exact ht
 ·obtain⟨hqm,rfl⟩:=gZ hq;have hqt:kT q∈TL:=ht.mem_iff.2 (dh.2 ⟨q,hqm,rfl⟩);rcases htk with⟨x,hx,hp⟩|⟨hno,_⟩
  ·have hxT:x∈TL:=hp.mem_iff.1 gm;have hxe:x=kT q:=by
    refine Classical.byContradiction λhne=> ?_;have:∀(L:List Hp.Tm),L.Pairwise (λa b=>a.2.1≠b.2.1)->x∈L->kT q∈L->False:=by
     intro L
     induction L with
     |nil=>intro _ h;cases h
     |cons a L ih=>
      intro hp h1 h2;rw[List.pairwise_cons]at hp;rcases eD.1 h1 with k1|k1
      ·rcases eD.1 h2 with k2|k2
       ·exact hne (k1.trans k2.symm)
       ·exact hp.1 _ k2 (k1▸hx)
      ·rcases eD.1 h2 with k2|k2
       ·exact hp.1 _ k1 ((k2▸rfl:a.2.1=(kT q).2.1).trans hx.symm)
       ·exact ih hp.2 k1 k2
    exact this TL hid hxT hqt
   subst hxe;rw[e];have h1:=(hp.trans ht).trans ((Jh hn hqm).map kT);rw[List.map_cons]at h1;exact(List.perm_cons _).1 h1
  ·exact absurd rfl (hno _ hqt)
abbrev aaS:Go.Conc.Locks.MuLink:={lock:=49,unlock:=50,ilock:=74,iunlock:=75,lockSlow:=109,unlockSlow:=112,disable:=105,enable:=107,acquire:=108,relMerge:=110,cas32:=106,add32:=111,tMutex:=127,tIMutex:=125,tPMutex:=168,tPIMutex:=215,tPI32:=217,tUP:=219,tNoCopy:=123,tU32:=34}
theorem nK:Go.Conc.Locks.MuLib Tryz.prog aaS:=
 ⟨Tryz.func49,Tryz.func50,Tryz.func74,Tryz.func75,Tryz.func105,Tryz.func107,Tryz.func108,Tryz.func110,Tryz.func106,Tryz.func111,Tryz.underlying125,Tryz.runUnderlying125,Tryz.sizeOf125,Tryz.isAgg125,Tryz.zeroValue125,Tryz.underlying127,Tryz.runUnderlying127,Tryz.sizeOf127,Tryz.isAgg127,Tryz.zeroValue127,Tryz.underlying168,Tryz.runUnderlying168,Tryz.sizeOf168,Tryz.isAgg168,Tryz.zeroValue168,Tryz.underlying215,Tryz.runUnderlying215,Tryz.sizeOf215,Tryz.isAgg215,Tryz.zeroValue215,Tryz.underlying217,Tryz.runUnderlying217,Tryz.sizeOf217,Tryz.isAgg217,Tryz.zeroValue217,Tryz.underlying219,Tryz.runUnderlying219,Tryz.sizeOf219,Tryz.isAgg219,Tryz.zeroValue219,Tryz.underlying123,Tryz.runUnderlying123,Tryz.sizeOf123,Tryz.isAgg123,Tryz.zeroValue123,Tryz.underlying21,Tryz.runUnderlying21,Tryz.sizeOf21,Tryz.isAgg21,Tryz.zeroValue21,(by kernel_rfl)⟩
end Go.Proofs.YtakaadcpaeiccabGreat
