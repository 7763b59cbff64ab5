import Derived.Test.YtakaadcpaeiccabGreatC18
import Derived.Conc.MuLone
import Derived.KernelRfl
set_option maxHeartbeats 8000000
set_option maxRecDepth 100000
namespace Go.Proofs.YtakaadcpaeiccabGreat
open Go.RowKit Go.Maps
variable{a:qy}{bA:List (Bool×Int×Int)}{aY aL:List (Int×ByteArray)}{aT:List Int}{B N:Nat}{s:St}{W:World}
theorem Nd.off{g:bI}{TL:List Hp.Tm}{W':World}(n:Nd N B g s TL W){S:Nat->Prop}(hf:Fx S W W')(hS:∀k,S k->¬Ft N g s k∧¬jE B g.a k):Nd N B g s TL W':=
 ⟨n.nn.kept λk hk=>hf.block k (n.nn.lt hk) λh=>(hS k h).1 hk,n.ac.kept λk hk=>hf.block k (n.ac.lt hk) λh=>(hS k h).2 hk,n.now,n.bC⟩
theorem Up.fresh{F F':Nat->Prop}{a b c:World}(u:Up B F F' a b){C:Nat}(h:b.grownBy c (some C))(hC:a.heap.size<=C):Up B F F' a c:=
 ⟨λk hk=>(u.sub k hk).imp_right λ⟨h1,h2⟩=>⟨h1,fZ h2 h.size⟩,h.os.trans u.os,h.tape.trans u.tape,h.output.trans u.output,dH u.size h.size,λk o ho hn hA=>by
  have h1:=u.block k o ho hn hA;exact(h.block k (aG h1) λe=>by
   have:=aG ho;have:=Option.some.inj e;omega).trans h1⟩
theorem Ef(c:Array Value):oG (.cells c 52 (0,0)):=⟨λc e=>(by cases e),λc e=>(by cases e),λc e=>(by cases e),λc e=>(by cases e),λc e=>(by cases e)⟩
theorem abU(ha:Asc s.A)(hd:∀d,(s.f d).isSome=true->∃y∈s.A,y.dest=d)(hall:∀y∈s.A,(s.f y.dest).isSome=true):iO s.f (some s.own) s.cmp:=by
 refine⟨s.A.map (λy=>y.dest),(List.pairwise_map (f:=λy:Rt=>y.dest) (R:=λa b:Int=>a<b)).2 ha,λa=>⟨λh=> ?_,λh=> ?_⟩,rfl⟩
 ·obtain⟨y,hy,rfl⟩:=di.1 h;exact hall y hy
 ·obtain⟨y,hy,rfl⟩:=hd a h;exact di.2 ⟨y,hy,rfl⟩
theorem jJ.reset{base:Nat}(h:jJ B base a bA aL aY aT W){v:Value}{aav:List (Bool×Int×Int)}(ho:W.ownsRow base 82 3 v aav.length (RC aav)):
  jJ B base {a with nW:=v,bC:=true} aav aL aY aT ((W.setCell ⟨B,1,none⟩ v).setCell ⟨B,3,none⟩ (.bool true))∧W.grownBy ((W.setCell ⟨B,1,none⟩ v).setCell ⟨B,3,none⟩ (.bool true)) (some B):=by
 have hg:=ah (ah (aC W (some B)) 1 v) 3 (.bool true);have hB:=(h.blk.Q9 v).Q8 true;exact⟨⟨hB,ho.kept hg (.inr (aB ho h.blk (λc e=>(by cases e)))),h.aK.kept hg (.inr (aB h.aK h.blk (λc e=>(by cases e)))),h.bP.kept hg (.inr (aB h.bP h.blk (λc e=>(by cases e)))),h.bQ.kept hg (.inr (aB h.bQ h.blk (λc e=>(by cases e))))⟩,hg⟩
theorem jJ.DX{base:Nat}(h:jJ B base a bA aL aY aT W)(b:ByteArray):
  jJ B base {a with bn:=b} bA aL aY aT (W.setCell ⟨B,2,none⟩ (.string b))∧W.grownBy (W.setCell ⟨B,2,none⟩ (.string b)) (some B):=by
 have hg:=ah (aC W (some B)) 2 (.string b);exact⟨⟨h.blk.DX b,h.nW.kept hg (.inr (aB h.nW h.blk (λc e=>(by cases e)))),h.aK.kept hg (.inr (aB h.aK h.blk (λc e=>(by cases e)))),h.bP.kept hg (.inr (aB h.bP h.blk (λc e=>(by cases e)))),h.bQ.kept hg (.inr (aB h.bQ h.blk (λc e=>(by cases e))))⟩,hg⟩
def af7(N B:Nat)(g:bI)(s s':St)(TL:List Hp.Tm)(w:World)(e:Ending)(w':World):Prop:=∃g',e=.returned (iY s'.bn s'.bC g'.a.aK g'.a.bP g'.a.bQ)∧Nd N B g' s' TL w'∧Up B (Ft N g s) (Ft N g' s') w w'∧Hid (g'.x.T=g.x.T)
theorem oV{g:bI}{TL:List Hp.Tm}{w:World}(n:Nd N B g s TL w)(hd:s.Dom)(hc:0<=s.cnt∧s.cnt<=900000)(hw:s.bA.length<=80000)(hbd:qx s.bA)(hq:bB s.seq):
  Calls Tryz.prog 48 #[.pointer (some ⟨N,0,none⟩),.pointer (some ⟨B,0,none⟩)] w (af7 N B g s s.finish TL w):=by
 have hA:=n.nn.cr.tb.ok;have hb0:Below w.heap.size w (w.alloc jm):=bq;have hC0:(w.alloc jm).heap[w.heap.size]?=some jm:=bS _ _;have kL:¬Ft N g s w.heap.size:=n.new (aD _);have hBC:B<w.heap.size:=n.ac.blk.lt;have n0:=n.later hb0;have HW:=hide (YW n0 hd (by omega) (by omega));obtain⟨s1,hs1⟩:∃z,s.write=z:=⟨_,rfl⟩;have hd1:s1.Dom:=by rw[<-hs1];exact Dq hd hA hq
 have hall:∀y∈s1.A,(s1.f y.dest).isSome=true:=by rw[<-hs1];exact OH
 have T_:qx s1.bA:=by rw[<-hs1];exact Bp hbd (GJ hq s.f hA)
 have hlen:=oI s.seq s.own s.f s.A;have hA8:=n.nn.cr.tb.len;have hn1:s1.bA.length<=90000:=by
  rw[<-hs1];show(s.bA++_).length<=_;rw[dw];omega
 have hc1:0<=s1.cnt∧s1.cnt<=1000000:=by
  rw[<-hs1];show 0<=s.cnt+_∧s.cnt+_<=_;omega
 obtain⟨s2,hs2⟩:∃z,s.finish=z:=⟨_,rfl⟩;rw[hs2];have wS:Hid ((if s1.cnt>24 then {s1 with bA:=s1.cmp,cnt:=s1.cmp.length,bC:=true}else s1)=s2):=by
  show _=_;rw[<-hs2,<-hs1];rfl
 rw[hs1]at HW;have hd1:=hide hd1;have hall:=hide hall;have T_:=hide T_;have hn1:=hide hn1;clear hs1 hs2 hd hc hw hbd hlen hA8 n;dsimp only[jm]at hb0 hC0 HW;go_enter Tryz.func48,Tryz.ntmps48;go_upto_region 1 with(fail);generalize World.alloc _ _=W1 at hb0 hC0 HW n0 ⊢;go_wp2_with fail;refine aU HW.out ?_;rintro e w2 ⟨rfl,g2,n2,u2,t2⟩;obtain⟨hC2,Ij⟩:=u2.keep hC0 kL (Ef _);have Jf:=(Up.below hb0:Up B (Ft N g s) (Ft N g s) w W1).trans u2;clear HW hC0 hb0 u2 n0 kL;obtain⟨m0,m2,m3,m4,m5,m6,m7,m8,m9,m10⟩:=n2.nn.cr.nd.cell;rw[n2.nn.eq.cnt]at m10;obtain⟨b0,b1,b2,b3,b4,b5,b6⟩:=n2.ac.blk.cell;have hCg:w.heap.size<=w.heap.size:=aD _;generalize l8:w.heap.size=C at hC2 Ij hBC hCg ⊢;replace l8:=hide l8;by_cases h24:s1.cnt>24
 ·have hd24:decide (24<s1.cnt)=true:=gm (by omega);replace wS:=hide ((aQ h24).symm.trans wS.out);clear h24;have hz2:=n2.nn.cr.size_le hd1.out.on;have hown:=hd1.out.own;rw[<-n2.nn.eq.own]at hown;have HC:=hide (IJ N g2.x s1.f g2.sz w2 n2.nn.cr.nd n2.nn.cr.mo hd1.out.mb hown (by omega) ⟨s1.A.map (·.dest),by have:=n2.nn.cr.tb.len;rw[iK];omega,λa ha=>by obtain⟨y,hy,e⟩:=hd1.out.on a ha;exact di.2 ⟨y,hy,e⟩⟩);go_wp2_with fail;refine aU HC.out ?_;rintro e w3 ⟨v3,out,rfl,hcmp,hr3,AA,hM3,hf3⟩;have hout:out=s1.cmp:=by
   rw[n2.nn.eq.own]at hcmp;exact hcmp.unique (abU n2.nn.cr.tb.xC hd1.out.on hall.out)
  have FM:out.length<=9:=by
   rw[hout];have:=n2.nn.cr.tb.len;simp only[St.cmp,dz,gL,dw,iK,dU,List.length_nil];omega
  clear HC hcmp;have hNA:∀k,jE B g2.a k->¬k=N:=λk hk e=>n2.ac.JV n2.nn (.inl (.inl e)) hk;have ac3:=n2.ac.kept (W':=w3) λk hk=>hf3.block k (n2.ac.lt hk) (hNA k hk);have ac1:w3.ownsRow (B+1) 82 3 v3 out.length (RC out):=ownsRow_base_a hr3 n2.base;obtain⟨ac4,hg4⟩:=ac3.reset ac1;have hB3:=ac3.blk;have afB:N≠B:=λe=>hNA B (.inl rfl) e.symm;have BP:iH N {g2.x with cnt:=out.length} ((w3.setCell ⟨B,1,none⟩ v3).setCell ⟨B,3,none⟩ (.bool true)):=AA.kept hg4 (λe=>afB (Option.some.inj e).symm);have hMB:g2.x.Mo≠B:=λe=>n2.ac.JV n2.nn (.inl (.inr (.inl rfl))) (.inl e);have Ce:MapU ((w3.setCell ⟨B,1,none⟩ v3).setCell ⟨B,3,none⟩ (.bool true)) g2.x.Mo s1.f g2.sz:=hM3.kept hg4 (λe=>hMB (Option.some.inj e));have hfx:Fx (λk=>k=N∨k=B) w2 ((w3.setCell ⟨B,1,none⟩ v3).setCell ⟨B,3,none⟩ (.bool true)):=aW (hf3.mono λ_ h=> .inl h) hg4 (λi _ e=> .inr (Option.some.inj e).symm);have hT4:MT g2.x.self g2.x.T g2.M g2.ff g2.gg s1.A ((w3.setCell ⟨B,1,none⟩ v3).setCell ⟨B,3,none⟩ (.bool true)):=n2.nn.cr.tb.kept λk hk=>hfx.block k (n2.nn.cr.tb.lt hk) (by
   rintro(rfl|rfl)
   ·exact n2.nn.cr.tb.not (λe=>by
     obtain⟨es,cl,hm⟩:=n2.nn.cr.tb.map.obj;rw[<-e,show w2.heap[k]?=_ from n2.nn.cr.nd]at hm;cases hm) n2.nn.cr.nd (rU _) hk
   ·exact n2.ac.JV n2.nn (.inl (.inr (.inr hk))) (.inl rfl))
  have hCf:((w3.setCell ⟨B,1,none⟩ v3).setCell ⟨B,3,none⟩ (.bool true)).heap[C]?=w2.heap[C]?:=hfx.block C (aG hC2) (by
   rintro(rfl|h)
   ·exact Ij (.inl (.inl rfl))
   ·omega)
  obtain⟨e1,e2,e3,e4,e5,e6,e7,e8,e9⟩:=n2.nn.eq;obtain⟨n4,u4⟩:=n2.core (s':={s1 with bA:=out,cnt:=out.length,bC:=true}) ⟨BP,Ce,hT4,n2.nn.cr.ne⟩ ac4 (hfx.mono λk h=>by
   rcases h with rfl|rfl
   ·exact .inl (.inl rfl)
   ·exact .inr (.inl rfl)) (λk hk=>hk) ⟨rfl,rfl,rfl,rfl,rfl⟩ ⟨e1,e2,e3,e4,e5,e6,e7,rfl,e9⟩ ⟨rfl,rfl,rfl,rfl,rfl⟩ n2.nn.Jg n2.now rfl
  have yg:=hCf.trans hC2;have hs4:Hid (({s1 with bA:=out,cnt:=out.length,bC:=true}:St)=s2):=by
   show _=_;rw[hout];exact wS.out
  have hb4:Hid (qx s2.bA):=by
   show qx _;rw[<-hs4.out];intro x hx;have hx':x∈out:=hx;rw[hout]at hx';simp only[St.cmp,dz,gL,eu,eZ,di]at hx';have h1:=hd1.out.own;rcases hx' with rfl|⟨a,ha,rfl⟩
   ·unfold bB at h1;dsimp only;omega
   ·obtain⟨y,hy,rfl⟩:=ha;have h2:=(n2.nn.cr.tb.ok y hy).dest;have h3:=hd1.out.mb.getD y.dest;unfold bB at h2 h3;dsimp only;omega
  have hl4:Hid (s2.bA.length<=90000):=by
   show _<=_;rw[<-hs4.out];show out.length<=_;omega
  rw[hs4.out]at n4 u4;have rz:¬Ft N _ s2 C:=λh=>(u4.sub C h).elim Ij (by have:=aG hC2;omega);have qf:=Jf.trans u4;have t4:Hid (({g2 with x:={g2.x with cnt:=(out.length:Int)},a:={g2.a with nW:=v3,bC:=true}}:bI).x.T=g.x.T):=t2;have afP:B<C:=hBC;obtain⟨a3',c3',hv3,_⟩:=ak hr3;have fB1:=hB3.free 1;have fB3:=hB3.free 3;obtain⟨x0,x1,x2,x3,x4,x5,x6⟩:=hB3.cell;subst hv3;generalize ({g2 with x:={g2.x with cnt:=(out.length:Int)},a:={g2.a with nW:=.slice a3' out.length c3',bC:=true}}:bI)=g4 at n4 u4 rz qf t4;clear n2 Jf AA hM3 hf3 hr3 ac1 ac3 ac4 hg4 hB3 BP Ce hfx hT4 hCf hC2 Ij u4 m0 m2 m3 m4 m5 m6 m7 m8 m9 m10 b0 b1 b2 b3 b4 b5 b6 e1 e2 e3 e4 e5 e6 e7 e8 e9 wS hNA hout FM hown hz2 hall T_ hn1 hd1 hs4;go_upto_region 5 with(fail);generalize World.setCell _ _ _=W4 at n4 qf yg ⊢;clear x0 x1 x2 x3 x4 x5 x6 fB1 fB3;obtain⟨b0,b1,b2,b3,b4,b5,b6⟩:=n4.ac.blk.cell;obtain⟨a7,k7,hv7,hH7⟩:=ak n4.ac.nW;rw[hv7]at b1;have HJ:=hide (qh a7 s2.bA.length k7 s2.bA rfl (by have:=hl4.out;omega) hb4.out W4 hH7);clear hv7 hH7;go_wp2_with fail;refine aU HJ.out ?_;rintro e w5 ⟨rfl,hb5⟩;have n5:=n4.later hb5;have rV:=(hb5.block C (aG yg)).trans yg;have yD:=qf.trans (.below hb5:Up B (Ft N g4 s2) (Ft N g4 s2) W4 w5);have abB:¬jE B g4.a C:=λh=>n5.ac.kinds h rV (Ef _);clear HJ n4 qf yg hb5 b0 b1 b2 b3 b4 b5 b6;obtain⟨b0,b1,b2,b3,b4,b5,b6⟩:=n5.ac.blk.cell;have f2:=n5.ac.blk.free 2;rw[show strOfNums (bE s2.bA)=s2.bn from rfl];obtain⟨ac6,jq⟩:=n5.ac.DX s2.bn;obtain⟨n6,u6⟩:=n5.act (s':=s2) ac6 (Fx.grown jq λk e=>by cases e;exact .inl rfl) ⟨rfl,rfl,rfl,rfl,rfl,rfl,rfl,rfl,rfl,rfl,rfl,rfl,rfl,rfl,rfl⟩ n5.now n5.bC;have gD:=(jq.block C (aG rV) (λe=>by have:=Option.some.inj e;omega)).trans rV;have nL:=yD.trans u6;have kR:¬Ft N {g4 with a:={g4.a with bn:=s2.bn}} s2 C:=rz;have Uk:¬jE B ({g4 with a:={g4.a with bn:=s2.bn}}:bI).a C:=abB;have t6:Hid (({g4 with a:={g4.a with bn:=s2.bn}}:bI).x.T=g.x.T):=t4;have hj6:({g4 with a:={g4.a with bn:=s2.bn}}:bI).a.bn=s2.bn:=rfl;generalize ({g4 with a:={g4.a with bn:=s2.bn}}:bI)=g6 at n6 nL kR Uk t6 hj6;clear ac6 jq u6 n5 yD rV;go_upto_region 6 with(fail);generalize World.setCell _ _ _=W6 at n6 nL gD ⊢;clear b0 b1 b2 b3 b4 b5 b6 f2;obtain⟨b0,b1,b2,b3,b4,b5,b6⟩:=n6.ac.blk.cell;rw[hj6]at b2;rw[n6.bC]at b3;obtain⟨af,kf,hf,_⟩:=ak n6.ac.aK;obtain⟨ac,kc,hc,_⟩:=ak n6.ac.bP;obtain⟨ad,kd,hdd,_⟩:=ak n6.ac.bQ;rw[hf]at b4;rw[hc]at b5;rw[hdd]at b6;have q0:W6.cell? ⟨C,0,none⟩=some (.string ⟨#[]⟩):=aH _ _ 0 _ _ _ gD;have q1:W6.cell? ⟨C,1,none⟩=some (.bool false):=aH _ _ 1 _ _ _ gD;have q2:W6.cell? ⟨C,2,none⟩=some (.slice none 0 0):=aH _ _ 2 _ _ _ gD;have q3:W6.cell? ⟨C,3,none⟩=some (.slice none 0 0):=aH _ _ 3 _ _ _ gD;have q4:W6.cell? ⟨C,4,none⟩=some (.slice none 0 0):=aH _ _ 4 _ _ _ gD;have z0:=mM W6 C 0 _ _ gD;have z1:=mM W6 C 1 _ _ gD;have z2:=mM W6 C 2 _ _ gD;have z3:=mM W6 C 3 _ _ gD;have z4:=mM W6 C 4 _ _ gD;have gV:=ah (ah (ah (ah (ah (aC W6 (some C)) 0 (.string s2.bn)) 1 (.bool s2.bC)) 2 (.slice af s2.aL.length kf)) 3 (.slice ac s2.aY.length kc)) 4 (.slice ad s2.aT.length kd);have gJ:(((((W6.setCell ⟨C,0,none⟩ (.string s2.bn)).setCell ⟨C,1,none⟩ (.bool s2.bC)).setCell ⟨C,2,none⟩ (.slice af s2.aL.length kf)).setCell ⟨C,3,none⟩ (.slice ac s2.aY.length kc)).setCell ⟨C,4,none⟩ (.slice ad s2.aT.length kd)).heap[C]?=some (.cells #[.string s2.bn,.bool s2.bC,.slice af s2.aL.length kf,.slice ac s2.aY.length kc,.slice ad s2.aT.length kd] 52):=by
   simp[World.setCell,Array.getElem?_modify,gD]
  have n7:=n6.off (S:=λk=>k=C) (Fx.grown gV λk e=>by cases e;rfl) (by rintro k rfl;exact⟨kR,Uk⟩);have u7:=nL.fresh gV (by rw[l8.out];exact aD _);have afO:C≠B:=by omega
  clear gV n6 nL;go_wp2;generalize World.setCell _ _ _=W7 at gJ n7 u7 ⊢;have p0:W7.cell? ⟨C,0,none⟩=some (.string s2.bn):=aH _ _ 0 _ _ _ gJ;have p1:W7.cell? ⟨C,1,none⟩=some (.bool s2.bC):=aH _ _ 1 _ _ _ gJ;have p2:W7.cell? ⟨C,2,none⟩=some (.slice af s2.aL.length kf):=aH _ _ 2 _ _ _ gJ;have p3:W7.cell? ⟨C,3,none⟩=some (.slice ac s2.aY.length kc):=aH _ _ 3 _ _ _ gJ;have p4:W7.cell? ⟨C,4,none⟩=some (.slice ad s2.aT.length kd):=aH _ _ 4 _ _ _ gJ;refine bodyPost_ret (v:=.agg #[.string s2.bn,.bool s2.bC,.slice af s2.aL.length kf,.slice ac s2.aY.length kc,.slice ad s2.aT.length kd]) (by simp[results,Tryz.results48,go_sem,p0,p1,p2,p3,p4]) rfl ⟨g6,?_,n7,u7,t6⟩;rw[hf,hc,hdd];rfl
 ·have hd24:decide (24<s1.cnt)=false:=fA (by omega);replace wS:=hide ((aM h24).symm.trans wS.out);have hb4:Hid (qx s2.bA):=by rw[<-wS.out];exact T_
  have hl4:Hid (s2.bA.length<=90000):=by rw[<-wS.out];exact hn1
  have n4:=n2;have qf:=Jf;have yg:=hC2;have rz:=Ij;rw[wS.out]at n4 qf rz;have t4:=t2;have afP:=hBC;clear n2 Jf hC2 Ij wS h24 b0 b1 b2 b3 b4 b5 b6 m0 m2 m3 m4 m5 m6 m7 m8 m9 hall T_ hn1 hd1;go_upto_region 5 with(fail);clear m10;obtain⟨b0,b1,b2,b3,b4,b5,b6⟩:=n4.ac.blk.cell;obtain⟨a7,k7,hv7,hH7⟩:=ak n4.ac.nW;rw[hv7]at b1;have HJ:=hide (qh a7 s2.bA.length k7 s2.bA rfl (by have:=hl4.out;omega) hb4.out w2 hH7);clear hv7 hH7;go_wp2_with fail;refine aU HJ.out ?_;rintro e w5 ⟨rfl,hb5⟩;have n5:=n4.later hb5;have rV:=(hb5.block C (aG yg)).trans yg;have yD:=qf.trans (.below hb5:Up B (Ft N g2 s2) (Ft N g2 s2) w2 w5);have abB:¬jE B g2.a C:=λh=>n5.ac.kinds h rV (Ef _);clear HJ n4 qf yg hb5 b0 b1 b2 b3 b4 b5 b6;obtain⟨b0,b1,b2,b3,b4,b5,b6⟩:=n5.ac.blk.cell;have f2:=n5.ac.blk.free 2;rw[show strOfNums (bE s2.bA)=s2.bn from rfl];obtain⟨ac6,jq⟩:=n5.ac.DX s2.bn;obtain⟨n6,u6⟩:=n5.act (s':=s2) ac6 (Fx.grown jq λk e=>by cases e;exact .inl rfl) ⟨rfl,rfl,rfl,rfl,rfl,rfl,rfl,rfl,rfl,rfl,rfl,rfl,rfl,rfl,rfl⟩ n5.now n5.bC;have gD:=(jq.block C (aG rV) (λe=>by have:=Option.some.inj e;omega)).trans rV;have nL:=yD.trans u6;have kR:¬Ft N {g2 with a:={g2.a with bn:=s2.bn}} s2 C:=rz;have Uk:¬jE B ({g2 with a:={g2.a with bn:=s2.bn}}:bI).a C:=abB;have t6:Hid (({g2 with a:={g2.a with bn:=s2.bn}}:bI).x.T=g.x.T):=t4;have hj6:({g2 with a:={g2.a with bn:=s2.bn}}:bI).a.bn=s2.bn:=rfl;generalize ({g2 with a:={g2.a with bn:=s2.bn}}:bI)=g6 at n6 nL kR Uk t6 hj6;clear ac6 jq u6 n5 yD rV;go_upto_region 6 with(fail);generalize World.setCell _ _ _=W6 at n6 nL gD ⊢;clear b0 b1 b2 b3 b4 b5 b6 f2;obtain⟨b0,b1,b2,b3,b4,b5,b6⟩:=n6.ac.blk.cell;rw[hj6]at b2;rw[n6.bC]at b3;obtain⟨af,kf,hf,_⟩:=ak n6.ac.aK;obtain⟨ac,kc,hc,_⟩:=ak n6.ac.bP;obtain⟨ad,kd,hdd,_⟩:=ak n6.ac.bQ;rw[hf]at b4;rw[hc]at b5;rw[hdd]at b6;have q0:W6.cell? ⟨C,0,none⟩=some (.string ⟨#[]⟩):=aH _ _ 0 _ _ _ gD;have q1:W6.cell? ⟨C,1,none⟩=some (.bool false):=aH _ _ 1 _ _ _ gD;have q2:W6.cell? ⟨C,2,none⟩=some (.slice none 0 0):=aH _ _ 2 _ _ _ gD;have q3:W6.cell? ⟨C,3,none⟩=some (.slice none 0 0):=aH _ _ 3 _ _ _ gD;have q4:W6.cell? ⟨C,4,none⟩=some (.slice none 0 0):=aH _ _ 4 _ _ _ gD;have z0:=mM W6 C 0 _ _ gD;have z1:=mM W6 C 1 _ _ gD;have z2:=mM W6 C 2 _ _ gD;have z3:=mM W6 C 3 _ _ gD;have z4:=mM W6 C 4 _ _ gD;have gV:=ah (ah (ah (ah (ah (aC W6 (some C)) 0 (.string s2.bn)) 1 (.bool s2.bC)) 2 (.slice af s2.aL.length kf)) 3 (.slice ac s2.aY.length kc)) 4 (.slice ad s2.aT.length kd);have gJ:(((((W6.setCell ⟨C,0,none⟩ (.string s2.bn)).setCell ⟨C,1,none⟩ (.bool s2.bC)).setCell ⟨C,2,none⟩ (.slice af s2.aL.length kf)).setCell ⟨C,3,none⟩ (.slice ac s2.aY.length kc)).setCell ⟨C,4,none⟩ (.slice ad s2.aT.length kd)).heap[C]?=some (.cells #[.string s2.bn,.bool s2.bC,.slice af s2.aL.length kf,.slice ac s2.aY.length kc,.slice ad s2.aT.length kd] 52):=by
   simp[World.setCell,Array.getElem?_modify,gD]
  have n7:=n6.off (S:=λk=>k=C) (Fx.grown gV λk e=>by cases e;rfl) (by rintro k rfl;exact⟨kR,Uk⟩);have u7:=nL.fresh gV (by rw[l8.out];exact aD _);have afO:C≠B:=by omega
  clear gV n6 nL;go_wp2;generalize World.setCell _ _ _=W7 at gJ n7 u7 ⊢;have p0:W7.cell? ⟨C,0,none⟩=some (.string s2.bn):=aH _ _ 0 _ _ _ gJ;have p1:W7.cell? ⟨C,1,none⟩=some (.bool s2.bC):=aH _ _ 1 _ _ _ gJ;have p2:W7.cell? ⟨C,2,none⟩=some (.slice af s2.aL.length kf):=aH _ _ 2 _ _ _ gJ;have p3:W7.cell? ⟨C,3,none⟩=some (.slice ac s2.aY.length kc):=aH _ _ 3 _ _ _ gJ;have p4:W7.cell? ⟨C,4,none⟩=some (.slice ad s2.aT.length kd):=aH _ _ 4 _ _ _ gJ;refine bodyPost_ret (v:=.agg #[.string s2.bn,.bool s2.bC,.slice af s2.aL.length kf,.slice ac s2.aY.length kc,.slice ad s2.aT.length kd]) (by simp[results,Tryz.results48,go_sem,p0,p1,p2,p3,p4]) rfl ⟨g6,?_,n7,u7,t6⟩;rw[hf,hc,hdd];rfl
variable{seq cO:Int}{q:Int×Int}{B C N Q T:Nat}{p:aF}{s:St}{W a b:World}
theorem aao(q:Int×Int):oG (fP q):=⟨λc e=>(by cases e),λc e=>(by cases e),λc e=>(by cases e),λc e=>(by cases e),λc e=>(by cases e)⟩
theorem Up.SF{D:Nat}{F F':Nat->Prop}(u:Up B F F' a b)(h:QB D q a)(hn:¬F D):QB D q b∧¬F' D:=u.keep h hn (aao q)
theorem QB.later{D:Nat}(h:QB D q a)(hb:Below a.heap.size a b):QB D q b:=(hb.block _ (aG h)).trans h
@[reducible] def HQ(N B T C Q : Nat)(me seq cO now : Int)(p : aF)(W : World): Prop :=
 HC N B T C me seq cO now p W∧W.cell? ⟨Q,0,none⟩=some (.int .u32 p.aK)∧W.cell? ⟨Q,1,none⟩=some (.int .u32 p.id)
theorem HQ.at{g:bI}{TL:List Hp.Tm}{me now:Int}(n:Nd N B g s TL W)(h:PB p C W)(hQ:QB Q (p.aK,p.id) W)(t:g.x.T=T)(h1:s.me=me)(h2:s.seq=seq)(h3:s.cO=cO)(h4:s.now=now):HQ N B T C Q me seq cO now p W:=⟨HC.at n h t h1 h2 h3 h4,hQ.cell⟩
theorem HQ.jX{g:bI}{TL:List Hp.Tm}{me now:Int}(n:Nd N B g s TL W)(h:PB p C W)(hQ:QB Q (p.aK,p.id) W)(t:g.x.T=T)(h1:s.me=me)(h2:s.seq=seq)(h3:s.cO=cO)(h4:s.now=now):HQ N B T C Q me seq cO now p W.drew:=HQ.at n.drew h hQ t h1 h2 h3 h4
theorem xO{E:List Mm}{now t:Int}(h:∀e∈E,e.dK<=now+1280){e:Mm}(he:e∈dW E q (now+1280) t):e.dK<=now+1280:=by
 have hp:∀e∈dY E q (now+1280) t,e.dK<=now+1280:=by
  intro e he;unfold dY at he;rcases eu.1 he with he|he
  ·exact h e (List.mem_filter.1 he).1
  ·rw[eZ]at he;subst he;exact eY _
 unfold dW at he;split at he
 ·exact hp e (List.mem_of_mem_tail he)
 ·exact hp e he
structure St.Qm(s:St):Prop where
 me:bB s.me
 seq:bB s.seq
 now:0<=s.now∧s.now<=4611686018427387904
 mem:∀e∈s.mem,e.dK<=s.now+1280
 aL:s.aL.length<=900000
 aT:s.aT.length<=900000
 aY:s.aY.length<=900000
theorem Cn{g:bI}{TL:List Hp.Tm}{w:World}(n:Nd N B g s TL w)(hF:s.Qm)(htn:s.tn<=4000000000000000000)(fr:Int)(O7:bB fr)(p:aF)(hq:p.Hd)(hL:fH w p []):
  Calls Tryz.prog 130 #[.pointer (some ⟨N,0,none⟩),.pointer (some ⟨B,0,none⟩),.int .u32 fr,p.val] w λe w'=>e=.returned (.tuple #[])∧l5 N B g s (s.dJ fr p) TL w w':=by
 have hp:=hq.wf;have hfl:s.aL.length<=1000000:=by have:=hF.aL;omega
 have hdl:s.aT.length<=1000000:=by have:=hF.aT;omega
 obtain⟨hid,hde,hds,hfr,hfs,_⟩:=hp.num;have hb0:Below w.heap.size w ((w.alloc p.box).alloc (fP (p.aK,p.id))):=(bq).alloc (by simp) _;have gQ:PB p w.heap.size ((w.alloc p.box).alloc (fP (p.aK,p.id))):=(((aV _ (w.alloc p.box)).alloc (aD _) _).block _ (by simp)).trans (PB.new p w);have Ih:QB (w.heap.size+1) (p.aK,p.id) ((w.alloc p.box).alloc (fP (p.aK,p.id))):=by
  have:=bS (w.alloc p.box) (fP (p.aK,p.id));rw[World.size_alloc]at this;exact this
 have n0:=n.later hb0;obtain⟨s2,dD⟩:∃s2,s.dJ fr p=s2:=⟨_,rfl⟩;rw[dD];replace dD:=hide dD;dsimp only[aF.box,fP]at hb0 n0;unfold PB at gQ;unfold QB at Ih;dsimp only[aF.box,fP]at gQ Ih;go_enter Tryz.func130,Tryz.ntmps130;go_upto_region 2 with(fail);generalize World.alloc (World.alloc _ _) _=W1 at hb0 gQ Ih n0 ⊢;have kL:=n.new (k:=w.heap.size) (aD _);have hQn:=n.new (k:=w.heap.size+1) (Nat.le_succ _);generalize w.heap.size+1=Q at Ih hQn ⊢;generalize l8:w.heap.size=C at gQ kL ⊢;replace l8:=hide l8;have hs2:=dD.out;unfold St.dJ at hs2;have HH:=hide λW5 (h5:Below W1.heap.size W1 W5)=>Qa (n0.later h5) (p.aK,p.id) ⟨hfr,hid⟩ s.now hF.now.1;obtain⟨cb,hcb⟩:∃cb,(decide (p.aK=s.me)||pz s.mem (p.aK,p.id) s.now)=cb:=⟨_,rfl⟩;replace hcb:=hide hcb;go_cut [33]from 16 to 32 (λbv W=>bv=.bool cb∧Below W1.heap.size W1 W)
 case first=>
  obtain⟨⟨⟨m0,m1,m2,m3,m4⟩,p0,p1,p2,p3,p4,p5,p6,p7,p8,p9,jL,jF⟩,q0,q1⟩:=HQ.at n0 gQ Ih rfl rfl rfl rfl rfl;have hbd:Below W1.heap.size W1 W1.drew:=(aV _ _).drew;by_cases hse:p.aK=s.me
  ·have hbe:(p.aK==s.me)=true:=by simpa using hse
   obtain rfl:true=cb:=by rw[<-hcb.out,gm hse];rfl
   clear hse HH p0 p1 p2 p3 p5 p6 p8 p9 jL jF m1 m2 m3;go_region
   all_goals
    go_wp2_with fail;go_meet;exact⟨rfl,hbd⟩
  ·have hbe:(p.aK==s.me)=false:=by simpa using hse
   have hd:pz s.mem (p.aK,p.id) s.now=cb:=by rw[<-hcb.out,fA hse];rfl
   rw[hd]at HH;dsimp only[jW]at HH;clear hd hse p0 p1 p2 p3 p5 p6 p8 p9 jL jF m1 m2 m3;go_region_law (first|(go_simp;go_at_call 160;refine(HH.out _ hbd).mono ?_;rintro e w2 ⟨rfl,hb2⟩))
   all_goals
    go_wp2_with fail;go_meet;exact⟨rfl,hbd.trans (hb2.mono hbd.size)⟩
 case rest=>
  obtain⟨rfl,hb2⟩:=hcut;have fK:=hF.now;have n2:=n0.later hb2;have hP2:PB p C wc:=PB.below gQ hb2;have hQ2:QB Q (p.aK,p.id) wc:=QB.later Ih hb2;have ua0:Up B (Ft N g s) (Ft N g s) w wc:=.below (hb0.trans (hb2.mono hb0.size));have hLq:=hL.below (hb0.trans (hb2.mono hb0.size));clear HH gQ Ih n0 hb0 hb2 dD l8;cases cb
  ·have Ie:=hcb.out;simp only[Bool.or_eq_false_iff,decide_eq_false_iff_not]at Ie;rw[aM (by rintro(h|h);exact Ie.1 h;rw[Ie.2]at h;cases h)]at hs2;clear hcb Ie;have HA:Hid (∀t,t=s.now+1280->Calls Tryz.prog 156 #[.pointer (some ⟨N,8,none⟩),.agg #[.int .u32 p.aK,.int .u32 p.id],.int .u64 t] wc.drew λe w'=>e=.returned (.tuple #[])∧l5 N B g s {s with mem:=dW s.mem (p.aK,p.id) (s.now+1280) s.tn,tn:=s.tn+1} TL wc.drew w'):=by
    rintro _ rfl;exact Qb n2.drew (p.aK,p.id) ⟨hfr,hid⟩ (s.now+1280) (by omega) hF.mem (by omega)
   have hS:HQ N B g.x.T C Q s.me s.seq s.cO s.now p wc.drew:=HQ.jX n2 hP2 hQ2 rfl rfl rfl rfl rfl;go_wp2_with fail;go_region_held3 (HQ N B g.x.T C Q s.me s.seq s.cO s.now p) (first|with_reducible exact hS|with_reducible assumption) ((go_at_call 156;refine(HA.out _ (by first|rfl|exact mP fK (by decide))).mono ?_;rintro e w3 ⟨rfl,hN⟩;obtain⟨g3,n3,u3,t3⟩:=hN;obtain⟨hP3,Pj⟩:=u3.kG hP2 kL;obtain⟨M9,abu⟩:=u3.SF hQ2 hQn;have hk3:HQ N B g.x.T C Q s.me s.seq s.cO s.now p w3:=HQ.at n3 hP3 M9 t3.out rfl rfl rfl rfl))
   clear hS hk3;rename_i iR;clear iR;have Qq:=(ua0.trans (.below (aV _ _).drew)).trans u3;obtain⟨s1,hs1⟩:∃s1,({s with mem:=dW s.mem (p.aK,p.id) (s.now+1280) s.tn,tn:=s.tn+1}:St)=s1:=⟨_,rfl⟩;have hF1:s1.Qm:=by
    rw[<-hs1];refine⟨hF.me,hF.seq,hF.now,λe he=> ?_,hF.aL,hF.aT,hF.aY⟩;exact xO hF.mem he
   have adP:fH w3 p []:=hLq.nil;rw[hs1]at n3 Qq Pj abu hs2;clear hs1 HA ua0 hLq n2 hQ2 hP2;unfold St.learn at hs2;have MX:=hF1.now;obtain⟨u,hu⟩:∃u,iW s1.me s1.A p.aK p.dx (St.far p.hops) fr (s1.now+3000)=u:=⟨_,rfl⟩;have HU:Hid (∀t,t=s1.now+3000->Calls Tryz.prog 161 #[.pointer (some ⟨g3.x.T,0,none⟩),.int .u32 p.aK,.int .u32 p.dx,.int .i64 (St.far p.hops),.int .u32 fr,.int .u64 t] w3.drew λr w'=>r=.returned (.int .i64 u.2)∧l5 N B g3 s1 {s1 with A:=u.1} TL w3.drew w'):=by
    rintro _ rfl;have:=IZ n3.drew p.aK p.dx (St.far p.hops) fr (s1.now+3000) hfr hfs (by have:=hq.hops;unfold o5 St.far;omega) O7 (by unfold Bg;omega);rw[hu]at this;exact this
   rw[hu]at hs2;obtain⟨A2,E2⟩:=u;dsimp only at hs2 HU;clear hu;have hS:HQ N B g3.x.T C Q s1.me s1.seq s1.cO s1.now p w3.drew:=HQ.jX n3 hP3 M9 rfl rfl rfl rfl rfl;go_wp2_with fail;go_region_held3 (HQ N B g3.x.T C Q s1.me s1.seq s1.cO s1.now p) (first|with_reducible exact hS|with_reducible assumption) (first
    |(go_at_call 162;refine(vM p.hops hq.hops _).mono ?_;rintro e w3f ⟨rfl,rfl⟩)
    |(go_at_call 161;refine(HU.out _ (by first|rfl|exact mP MX (by decide))).mono ?_;rintro e w4 ⟨rfl,hN⟩;obtain⟨g4,n4,u4,t4⟩:=hN;obtain⟨mh,rz⟩:=u4.kG hP3 Pj;obtain⟨BN,X0⟩:=u4.SF M9 abu;have hk4:HQ N B g3.x.T C Q s1.me s1.seq s1.cO s1.now p w4:=HQ.at n4 mh BN t4.out rfl rfl rfl rfl))
   clear hS;rename_i iR;clear iR;have qf:=(Qq.trans (.below (aV _ _).drew)).trans u4;have t43:Hid (g4.x.T=g.x.T):=t4.out.trans t3.out;obtain⟨s4,hs4⟩:∃s4,({s1 with A:=A2}:St)=s4:=⟨_,rfl⟩;have sQ:s4.Qm:=by
    rw[<-hs4];exact⟨hF1.me,hF1.seq,hF1.now,hF1.mem,hF1.aL,hF1.aT,hF1.aY⟩
   have X6:fH w4 p []:=adP.nil;have adm:Hid (s4.now=s1.now):=by show _=_;rw[<-hs4]
   have hA4:({s1 with A:=iP A2 p.aK (s1.now+3000)}:St)={s4 with A:=iP s4.A p.aK (s1.now+3000)}:=by rw[<-hs4]
   rw[hs4,hA4]at hs2;rw[hs4]at n4 qf rz X0;clear hs4 hA4 Qq u4 hk4 n3 hP3 M9 Pj abu HU adP u3 hF1;by_cases h4:E2=4
   ·subst h4;rw[aQ rfl]at hs2;have HX:=hide (jC n4 2 (by have:=sQ.aT;omega));rw[hs2]at HX;go_wp2_with fail;refine aU HX.out ?_;rintro e w9 ⟨rfl,hN⟩;obtain⟨g9,n9,u9,t9⟩:=hN;go_wp2;go_returns;exact⟨rfl,g9,n9,qf.trans u9,t9.out.trans t43⟩
   ·have b4:(E2==4)=false:=by simpa using h4
    rw[aM h4]at hs2;by_cases h3:E2=3
    ·subst h3;rw[aQ rfl]at hs2;have HV:Hid (∀t,t=s1.now+3000->Calls Tryz.prog 81 #[.pointer (some ⟨g4.x.T,0,none⟩),.int .u32 p.aK,.int .u64 t] w4.drew λr w'=>r=.returned (.tuple #[])∧l5 N B g4 s4 {s4 with A:=iP s4.A p.aK (s1.now+3000)} TL w4.drew w'):=by
      rintro _ rfl;exact Nw n4.drew p.aK (s1.now+3000) hfr (by unfold Bg;omega)
     have hS:HQ N B g4.x.T C Q s4.me s4.seq s4.cO s1.now p w4.drew:=HQ.jX n4 mh BN rfl rfl rfl rfl adm.out;go_wp2_with fail;go_region_held3 (HQ N B g4.x.T C Q s4.me s4.seq s4.cO s1.now p) (first|with_reducible exact hS|with_reducible assumption) ((go_at_call 81;refine(HV.out _ (by first|rfl|exact mP MX (by decide))).mono ?_;rintro e w6 ⟨rfl,hN⟩;obtain⟨g6,n6,u6,t6⟩:=hN;obtain⟨Jl,kR⟩:=u6.kG mh rz;obtain⟨hQ6,afA⟩:=u6.SF BN X0;have Zr:HQ N B g4.x.T C Q s4.me s4.seq s4.cO s1.now p w6:=HQ.at n6 Jl hQ6 t6.out rfl rfl rfl adm.out))
     clear hS Zr;rename_i iR;clear iR;have nL:=(qf.trans (.below (aV _ _).drew)).trans u6;have t63:Hid (g6.x.T=g.x.T):=t6.out.trans t43.out;obtain⟨s6,hs6⟩:∃s6,({s4 with A:=iP s4.A p.aK (s1.now+3000)}:St)=s6:=⟨_,rfl⟩;have VL:s6.Qm:=by
      rw[<-hs6];exact⟨sQ.me,sQ.seq,sQ.now,sQ.mem,sQ.aL,sQ.aT,sQ.aY⟩
     have hLq:fH w6 p []:=X6.nil;rw[hs6]at n6 nL kR hs2;clear hs6 qf u6 n4 mh BN rz X0 hQ6 afA HV X6 sQ b4;obtain⟨⟨y,fd⟩,hy⟩:∃r,bN s6.A p.dest s6.now=r:=⟨_,rfl⟩;have HF:=hide (nV n6 p.dest s6.now hde hy);go_wp2_with fail;go_cut [9,10]from 82 to 95 (ol y fd w6)
     case first=>
      have hS:HB N B g6.x.T C s6.me s6.seq s6.cO s6.now p w6 w6.drew:=HB.drew (HB.mk' n6 Jl (aV _ _));have hkB:=hide λW5 h5=>HB.mk' (W:=W5) n6 Jl h5;go_region_held3 (HB N B g6.x.T C s6.me s6.seq s6.cO s6.now p w6) (first|with_reducible exact hS|with_reducible assumption|(with_reducible apply HB.vF hkB;assumption)|(with_reducible apply HB.kH hkB;assumption)|(with_reducible apply HB.eH hkB)|(with_reducible apply hkB.out;assumption)) ((go_at_call 79;refine(HF.out _ (And.right (by assumption))).mono ?_;rintro e w2 ⟨ao,c,rfl,hb2,hpr⟩;try ((with_reducible have hD:=hpr bW (.slice none 0 0) (lJ w6));obtain⟨d0,d1,d2,d3,d4,d5,d6⟩:=hD.cell;have q0:=hD.free 0;have q1:=hD.free 1;have q2:=hD.free 2;have q3:=hD.free 3;have q4:=hD.free 4;have q5:=hD.free 5;have q6:=hD.free 6;have hD':Hid (dS w6.heap.size bW (.slice none 0 0) w2):=hD;clear hD);clear hpr))
      all_goals
       go_wp2_with fail;go_meet;first|with_reducible exact iB hb2|with_reducible exact j3 hb2 hD'
     case rest=>
      obtain⟨E,ao,c,rfl,rfl,hE,hEl,l7⟩:=hcut;have n8:=n6.later l7;have Kk:PB p C wc:=PB.below Jl l7;have hL8:=hLq.below l7;have qY:fd=true->y.Ok:=λh=>by
       have:=oO n6.nn.cr.tb.ok p.dest s6.now;rw[hy]at this;rcases this with h1|h1
       ·exact h1
       ·rw[h]at h1;cases h1
      unfold St.asked at hs2;rw[hy]at hs2;dsimp only at hs2;have Vx:=nL.trans (.below l7);have Au:s6.aL.length<=1000000:=by have:=VL.aL;omega
      have EL:s6.aT.length<=1000000:=by have:=VL.aT;omega
      have hS:HC N B g6.x.T C s6.me s6.seq s6.cO s6.now p wc.drew:=HC.xu n8 Kk;have Qx:dS E y (.slice ao y.bH.length c) wc.drew:=hE;have n9:=n8.drew;have Jk:PB p C wc.drew:=Kk;have hL9:fH wc.drew p []:=hL8.below (aV _ _).drew;have wz:=Vx.trans (.below (aV _ _).drew);clear HF Jl n6 l7 nL hE n8 Kk hL8 Vx;by_cases rq:p.dest=s6.me
      ·have hbe:(p.dest==s6.me)=true:=by simpa using rq
       rw[aQ rq]at hs2;clear rq;go_wp2_with fail;go_region_held3 (HC N B g6.x.T C s6.me s6.seq s6.cO s6.now p) (first|with_reducible exact hS|with_reducible assumption) (fail)
       rename_i iR;clear iR hS;generalize World.drew _=W9 at n9 Jk hL9 wz Qx ⊢;have HX:=hide (vW n9 p hq VL.me VL.seq Au EL);rw[hs2]at HX;dsimp only[aF.val]at HX;obtain⟨p0,p1,p2,p3,p4,p5,p6,p7,p8,p9,jL,jF⟩:=PB.cell Jk;clear Jk;go_wp2_with fail;refine aU HX.out ?_;rintro e w9 ⟨rfl,hN⟩;obtain⟨g9,n9,u9,t9⟩:=hN;go_wp2;go_returns;exact⟨rfl,g9,n9,wz.trans u9,t9.out.trans t63.out⟩
      ·have hbe:(p.dest==s6.me)=false:=by simpa using rq
       rw[aM rq]at hs2;go_wp2_with fail;go_region_held3 (HC N B g6.x.T C s6.me s6.seq s6.cO s6.now p) (first|with_reducible exact hS|with_reducible assumption) (fail)
       rename_i iR;clear iR hS;generalize World.drew _=W9 at n9 Jk hL9 wz Qx ⊢;obtain⟨p0,p1,p2,p3,p4,p5,p6,p7,p8,p9,jL,jF⟩:=PB.cell Jk;obtain⟨e0,e1,e2,e3,e4,e5,e6⟩:=Qx.cell;clear Jk Qx;by_cases hfo:(fd&&(p.unk||decide (y.seq>=p.a_)))=true
       ·rw[aQ hfo]at hs2;have wT:fd=true:=by revert hfo;cases fd<;>simp
        subst wT;have hyk:=qY rfl;have HX:=hide (tu n9 p hq y hyk ao y.bH.length c (by have:=VL.now;unfold Bg;omega) Au EL);rw[hs2]at HX;dsimp only[aF.val,Jh]at HX;cases hun:p.unk
        ·rw[hun,Bool.true_and,Bool.false_or]at hfo;have hge:decide (p.a_<=y.seq)=true:=hfo;rw[hun]at HX p3;go_wp2_with fail;refine aU HX.out ?_;rintro e w9 ⟨rfl,hN⟩;obtain⟨g9,n9,u9,t9⟩:=hN;go_wp2;go_returns;exact⟨rfl,g9,n9,wz.trans u9,t9.out.trans t63.out⟩
        ·rw[hun]at HX p3;go_wp2_with fail;refine aU HX.out ?_;rintro e w9 ⟨rfl,hN⟩;obtain⟨g9,n9,u9,t9⟩:=hN;go_wp2;go_returns;exact⟨rfl,g9,n9,wz.trans u9,t9.out.trans t63.out⟩
       ·rw[aM hfo]at hs2;have TP:fd=false∨(fd=true∧p.unk=false∧decide (p.a_<=y.seq)=false):=by
         revert hfo
         cases fd<;>cases p.unk<;>simp
        by_cases htl:p.ttl=1
        ·have hbt:(p.ttl==1)=true:=by simpa using htl
         rw[aQ htl]at hs2;clear htl;have HX:=hide (jC n9 4 EL);rw[hs2]at HX;rcases TP with rfl|⟨rfl,hun,hge⟩
         ·
          go_wp2_with fail;refine aU HX.out ?_;rintro e w9 ⟨rfl,hN⟩;obtain⟨g9,n9,u9,t9⟩:=hN;go_wp2;go_returns;exact⟨rfl,g9,n9,wz.trans u9,t9.out.trans t63.out⟩
         ·rw[hun]at p3;go_wp2_with fail;refine aU HX.out ?_;rintro e w9 ⟨rfl,hN⟩;obtain⟨g9,n9,u9,t9⟩:=hN;go_wp2;go_returns;exact⟨rfl,g9,n9,wz.trans u9,t9.out.trans t63.out⟩
        ·have hbt:(p.ttl==1)=false:=by simpa using htl
         rw[aM htl]at hs2;have HX:=hide (Nz n9 p hq hL9 Au);rw[hs2]at HX;dsimp only[aF.val]at HX;rcases TP with rfl|⟨rfl,hun,hge⟩
         ·
          go_wp2_with fail;refine aU HX.out ?_;rintro e w9 ⟨rfl,hN⟩;obtain⟨g9,n9,u9,t9⟩:=hN;go_wp2;go_returns;exact⟨rfl,g9,n9,wz.trans u9,t9.out.trans t63.out⟩
         ·rw[hun]at HX p3;go_wp2_with fail;refine aU HX.out ?_;rintro e w9 ⟨rfl,hN⟩;obtain⟨g9,n9,u9,t9⟩:=hN;go_wp2;go_returns;exact⟨rfl,g9,n9,wz.trans u9,t9.out.trans t63.out⟩
    ·have b3:(E2==3)=false:=by simpa using h3
     rw[aM h3]at hs2;have hLq:=X6;clear BN X0 X6;obtain⟨⟨y,fd⟩,hy⟩:∃r,bN s4.A p.dest s4.now=r:=⟨_,rfl⟩;have HF:=hide (nV n4 p.dest s4.now hde hy);go_wp2_with fail;go_cut [9,10]from 82 to 95 (ol y fd w4)
     case first=>
      have hS:HB N B g4.x.T C s4.me s4.seq s4.cO s4.now p w4 w4.drew:=HB.drew (HB.mk' n4 mh (aV _ _));have hkB:=hide λW5 h5=>HB.mk' (W:=W5) n4 mh h5;go_region_held3 (HB N B g4.x.T C s4.me s4.seq s4.cO s4.now p w4) (first|with_reducible exact hS|with_reducible assumption|(with_reducible apply HB.vF hkB;assumption)|(with_reducible apply HB.kH hkB;assumption)|(with_reducible apply HB.eH hkB)|(with_reducible apply hkB.out;assumption)) ((go_at_call 79;refine(HF.out _ (And.right (by assumption))).mono ?_;rintro e w2 ⟨ao,c,rfl,hb2,hpr⟩;try ((with_reducible have hD:=hpr bW (.slice none 0 0) (lJ w4));obtain⟨d0,d1,d2,d3,d4,d5,d6⟩:=hD.cell;have q0:=hD.free 0;have q1:=hD.free 1;have q2:=hD.free 2;have q3:=hD.free 3;have q4:=hD.free 4;have q5:=hD.free 5;have q6:=hD.free 6;have hD':Hid (dS w4.heap.size bW (.slice none 0 0) w2):=hD;clear hD);clear hpr))
      all_goals
       go_wp2_with fail;go_meet;first|with_reducible exact iB hb2|with_reducible exact j3 hb2 hD'
     case rest=>
      obtain⟨E,ao,c,rfl,rfl,hE,hEl,l7⟩:=hcut;have n8:=n4.later l7;have Kk:PB p C wc:=PB.below mh l7;have hL8:=hLq.below l7;have qY:fd=true->y.Ok:=λh=>by
       have:=oO n4.nn.cr.tb.ok p.dest s4.now;rw[hy]at this;rcases this with h1|h1
       ·exact h1
       ·rw[h]at h1;cases h1
      unfold St.asked at hs2;rw[hy]at hs2;dsimp only at hs2;have Vx:=qf.trans (.below l7);have Au:s4.aL.length<=1000000:=by have:=sQ.aL;omega
      have EL:s4.aT.length<=1000000:=by have:=sQ.aT;omega
      have hS:HC N B g4.x.T C s4.me s4.seq s4.cO s4.now p wc.drew:=HC.xu n8 Kk;have Qx:dS E y (.slice ao y.bH.length c) wc.drew:=hE;have n9:=n8.drew;have Jk:PB p C wc.drew:=Kk;have hL9:fH wc.drew p []:=hL8.below (aV _ _).drew;have wz:=Vx.trans (.below (aV _ _).drew);clear HF mh n4 l7 qf hE n8 Kk hL8 Vx;by_cases rq:p.dest=s4.me
      ·have hbe:(p.dest==s4.me)=true:=by simpa using rq
       rw[aQ rq]at hs2;clear rq;go_wp2_with fail;go_region_held3 (HC N B g4.x.T C s4.me s4.seq s4.cO s4.now p) (first|with_reducible exact hS|with_reducible assumption) (fail)
       rename_i iR;clear iR hS;generalize World.drew _=W9 at n9 Jk hL9 wz Qx ⊢;have HX:=hide (vW n9 p hq sQ.me sQ.seq Au EL);rw[hs2]at HX;dsimp only[aF.val]at HX;obtain⟨p0,p1,p2,p3,p4,p5,p6,p7,p8,p9,jL,jF⟩:=PB.cell Jk;clear Jk;go_wp2_with fail;refine aU HX.out ?_;rintro e w9 ⟨rfl,hN⟩;obtain⟨g9,n9,u9,t9⟩:=hN;go_wp2;go_returns;exact⟨rfl,g9,n9,wz.trans u9,t9.out.trans t43.out⟩
      ·have hbe:(p.dest==s4.me)=false:=by simpa using rq
       rw[aM rq]at hs2;go_wp2_with fail;go_region_held3 (HC N B g4.x.T C s4.me s4.seq s4.cO s4.now p) (first|with_reducible exact hS|with_reducible assumption) (fail)
       rename_i iR;clear iR hS;generalize World.drew _=W9 at n9 Jk hL9 wz Qx ⊢;obtain⟨p0,p1,p2,p3,p4,p5,p6,p7,p8,p9,jL,jF⟩:=PB.cell Jk;obtain⟨e0,e1,e2,e3,e4,e5,e6⟩:=Qx.cell;clear Jk Qx;by_cases hfo:(fd&&(p.unk||decide (y.seq>=p.a_)))=true
       ·rw[aQ hfo]at hs2;have wT:fd=true:=by revert hfo;cases fd<;>simp
        subst wT;have hyk:=qY rfl;have HX:=hide (tu n9 p hq y hyk ao y.bH.length c (by have:=sQ.now;unfold Bg;omega) Au EL);rw[hs2]at HX;dsimp only[aF.val,Jh]at HX;cases hun:p.unk
        ·rw[hun,Bool.true_and,Bool.false_or]at hfo;have hge:decide (p.a_<=y.seq)=true:=hfo;rw[hun]at HX p3;go_wp2_with fail;refine aU HX.out ?_;rintro e w9 ⟨rfl,hN⟩;obtain⟨g9,n9,u9,t9⟩:=hN;go_wp2;go_returns;exact⟨rfl,g9,n9,wz.trans u9,t9.out.trans t43.out⟩
        ·rw[hun]at HX p3;go_wp2_with fail;refine aU HX.out ?_;rintro e w9 ⟨rfl,hN⟩;obtain⟨g9,n9,u9,t9⟩:=hN;go_wp2;go_returns;exact⟨rfl,g9,n9,wz.trans u9,t9.out.trans t43.out⟩
       ·rw[aM hfo]at hs2;have TP:fd=false∨(fd=true∧p.unk=false∧decide (p.a_<=y.seq)=false):=by
         revert hfo
         cases fd<;>cases p.unk<;>simp
        by_cases htl:p.ttl=1
        ·have hbt:(p.ttl==1)=true:=by simpa using htl
         rw[aQ htl]at hs2;clear htl;have HX:=hide (jC n9 4 EL);rw[hs2]at HX;rcases TP with rfl|⟨rfl,hun,hge⟩
         ·
          go_wp2_with fail;refine aU HX.out ?_;rintro e w9 ⟨rfl,hN⟩;obtain⟨g9,n9,u9,t9⟩:=hN;go_wp2;go_returns;exact⟨rfl,g9,n9,wz.trans u9,t9.out.trans t43.out⟩
         ·rw[hun]at p3;go_wp2_with fail;refine aU HX.out ?_;rintro e w9 ⟨rfl,hN⟩;obtain⟨g9,n9,u9,t9⟩:=hN;go_wp2;go_returns;exact⟨rfl,g9,n9,wz.trans u9,t9.out.trans t43.out⟩
        ·have hbt:(p.ttl==1)=false:=by simpa using htl
         rw[aM htl]at hs2;have HX:=hide (Nz n9 p hq hL9 Au);rw[hs2]at HX;dsimp only[aF.val]at HX;rcases TP with rfl|⟨rfl,hun,hge⟩
         ·
          go_wp2_with fail;refine aU HX.out ?_;rintro e w9 ⟨rfl,hN⟩;obtain⟨g9,n9,u9,t9⟩:=hN;go_wp2;go_returns;exact⟨rfl,g9,n9,wz.trans u9,t9.out.trans t43.out⟩
         ·rw[hun]at HX p3;go_wp2_with fail;refine aU HX.out ?_;rintro e w9 ⟨rfl,hN⟩;obtain⟨g9,n9,u9,t9⟩:=hN;go_wp2;go_returns;exact⟨rfl,g9,n9,wz.trans u9,t9.out.trans t43.out⟩
  ·have Ie:=hcb.out;simp only[Bool.or_eq_true,jg]at Ie;rw[aQ Ie]at hs2;subst hs2;have HD:=hide (jC n2 1 hdl);clear hcb Ie hP2 hQ2;go_wp2_with fail;refine aU HD.out ?_;rintro e w3 ⟨rfl,hN⟩;go_wp2;go_returns;obtain⟨g9,n9,u9,t9⟩:=hN;exact⟨rfl,g9,n9,ua0.trans u9,t9⟩
variable{k:Int}{j:Nat}{s:St}
structure St.Inv(k:Int)(s:St):Prop where
 me:bB s.me
 seq:bB s.seq
 now:0<=s.now
 mem:∀e∈s.mem,e.dK<=s.now+1280
 dom:s.Dom
 cnt:0<=s.cnt∧s.cnt<=24
 tn:s.tn<=10000 * k
 tl:0<=s.tl∧s.tl<=10000 * k
 lk:s.lk=0
 BJ:s.pc.length<=5
 z_:s.pc.Pairwise (·<=·)
 Aa:∀t∈s.pc,t<=s.now
 D7:∀q∈s.Q,q.id<=s.tl
 bd:qx s.bA
 nwl:s.bA.length<=100000
 frl:s.aL.length<=100000
 cml:s.aY.length<=100000
 drl:s.aT.length<=100000
structure St.Mid(k:Int)(j:Nat)(s:St):Prop where
 me:bB s.me
 seq:bB s.seq
 now:0<=s.now∧s.now<=4611686018427387904
 mem:∀e∈s.mem,e.dK<=s.now+1280
 dom:s.Dom
 cnt:0<=s.cnt∧s.cnt<=24+10 * j
 bA:s.bA.length<=10 * j
 bd:qx s.bA
 aL:s.aL.length<=10 * j
 aT:s.aT.length<=10 * j
 aY:s.aY.length<=10 * j
 tn:s.tn<=10000 * k+j
 tl:0<=s.tl∧s.tl<=10000 * k+j
 BJ:s.pc.length<=5
 z_:s.pc.Pairwise (·<=·)
 Aa:∀t∈s.pc,t<=s.now
 D7:∀q∈s.Q,q.id<=s.tl
theorem St.Mid.fine(h:s.Mid k j)(hj:j<=50000):s.Qm:=
 ⟨h.me,h.seq,h.now,h.mem,by have:=h.aL;omega,by have:=h.aT;omega,by have:=h.aY;omega⟩
theorem NF(s:St)(hA:s.A.length<=8):s.write.bA.length<=s.bA.length+9∧0<=s.write.cnt - s.cnt∧s.write.cnt<=s.cnt+9:=by
 have h:=oI s.seq s.own s.f s.A;refine⟨?_,?_,?_⟩
 ·show(s.bA++_).length<=_;rw[dw];omega
 ·show 0<=s.cnt+_ - s.cnt;omega
 ·show s.cnt+_<=s.cnt+9;omega
theorem wN(h:s.Mid k j)(hA:∀y∈s.A,y.Ok)(hl:s.A.length<=8):s.write.Mid k (j+1):=by
 obtain⟨w1,w2,w3⟩:=NF s hl;have c:=h.cnt;exact⟨h.me,h.seq,h.now,h.mem,Dq h.dom hA h.seq,by omega,by have:=h.bA;omega,Bp h.bd (GJ h.seq s.f hA),by have:=h.aL;show s.aL.length<=_;omega,by have:=h.aT;show s.aT.length<=_;omega,by have:=h.aY;show s.aY.length<=_;omega,by have:=h.tn;show s.tn<=_;omega,by have:=h.tl;show 0<=s.tl∧s.tl<=_;omega,h.BJ,h.z_,h.Aa,h.D7⟩
theorem Nc{A:List Rt}(hA:∀y∈A,y.Ok)(now:Int):∀y∈iZ A now,y.Ok:=by
 intro y hy;obtain⟨z,hz,rfl⟩:=di.1 hy;unfold oP;split
 ·exact vN (hA z hz) (by simp[bB])
 ·exact hA z hz
theorem OJ(h:s.Inv k)(hA:∀y∈s.A,y.Ok)(hl:s.A.length<=8)(now:Int)(hn:s.now<=now∧now<=4611686018427387904):(s.begin now).Mid k 1:=by
 have h0:({s with now:=now,A:=iZ s.A now,bA:=[],aL:=[],aY:=[],aT:=[],bC:=false}:St).Mid k 0:=
  ⟨h.me,h.seq,⟨by have:=h.now;dsimp only;omega,hn.2⟩,λe he=>by have:=h.mem e he;dsimp only;omega,⟨h.dom.mb,λd hd=>by
   obtain⟨y,hy,rfl⟩:=h.dom.on d hd;exact⟨oP now y,di.2 ⟨y,hy,rfl⟩,gX now y⟩,h.dom.own⟩,by have:=h.cnt;dsimp only;omega,aD _,λ_ h=>(by cases h),aD _,aD _,aD _,by have:=h.tn;dsimp only;omega,by have:=h.tl;dsimp only;omega,h.BJ,h.z_,λt ht=>by have:=h.Aa t ht;dsimp only;omega,h.D7⟩
 exact wN h0 (Nc hA now) (by dsimp only[iZ];rw[iK];exact hl)
theorem vw{i:Nat}{s':St}(h:s.Mid k j)(e:Eff i s s'):s'.Mid k (j+i):=by
 refine⟨by rw[e.me];exact h.me,e.seq h.seq,by rw[e.now];exact h.now,e.mem h.mem,⟨by rw[e.f];exact h.dom.mb,λd hd=> ?_,by rw[e.own];exact h.dom.own⟩,by rw[e.cnt];have:=h.cnt;omega,by rw[e.bA];have:=h.bA;omega,by rw[e.bA];exact h.bd,by have:=e.aL;have:=h.aL;omega,by have:=e.aT;have:=h.aT;omega,by have:=e.aY;have:=h.aY;omega,by have:=e.tn;have:=h.tn;omega,by rw[e.tl];have:=h.tl;omega,by rw[e.pc];exact h.BJ,by rw[e.pc];exact h.z_,by rw[e.pc,e.now];exact h.Aa,λq hq=>by rw[e.tl];exact h.D7 q (e.qs q hq)⟩;rw[e.f]at hd;obtain⟨y,hy,rfl⟩:=h.dom.on d hd;obtain⟨z,hz,e⟩:=e.sub y hy;exact⟨z,hz,e⟩
structure af6(s s':St):Prop where
 me:s'.me=s.me
 seq:s'.seq=s.seq
 cO:s'.cO=s.cO
 dB:s'.dB=s.dB
 fq:s'.fq=s.fq
 A:s'.A=s.A
 mem:s'.mem=s.mem
 tn:s'.tn=s.tn
 Q:s'.Q=s.Q
 tl:s'.tl=s.tl
 pc:s'.pc=s.pc
 now:s'.now=s.now
 aL:s'.aL=s.aL
 aY:s'.aY=s.aY
 aT:s'.aT=s.aT
 lk:s'.lk=s.lk
theorem aP(s:St):af6 s s.finish:=by
 unfold St.finish;split<;>exact⟨rfl,rfl,rfl,rfl,rfl,rfl,rfl,rfl,rfl,rfl,rfl,rfl,rfl,rfl,rfl,rfl⟩
theorem zi(s:St):s.cmp.length=s.A.length+1:=by
 simp only[St.cmp,dz,gL,dw,iK,dU,List.length_nil];omega
theorem abV(h1:bB s.own)(h2:MB s.f)(hA:∀y∈s.A,y.Ok):qx s.cmp:=by
 intro x hx;simp only[St.cmp,dz,gL,eu,eZ,di]at hx;rcases hx with rfl|⟨a,ha,rfl⟩
 ·unfold bB at h1;dsimp only;omega
 ·obtain⟨y,hy,rfl⟩:=ha;have h2':=(hA y hy).dest;have h3:=h2.getD y.dest;unfold bB at h2' h3;dsimp only;omega
theorem Am(h:s.Mid k j)(hj:j<=9000)(hlk:s.lk=0)(hA:∀y∈s.A,y.Ok)(hl:s.A.length<=8):s.finish.Inv (k+1):=by
 have e:=aP s;have hw:=wN h hA hl;have Di:s.finish.Dom:=by
  have:=hw.dom;unfold St.finish;split
  ·exact⟨this.mb,this.on,this.own⟩
  ·exact this
 have hcn:0<=s.finish.cnt∧s.finish.cnt<=24:=by
  unfold St.finish;split
  ·have:=zi s.write;have h8:s.write.A.length<=8:=hl;dsimp only;omega
  ·have:=hw.cnt;omega
 have hbd:qx s.finish.bA∧s.finish.bA.length<=100000:=by
  unfold St.finish;split
  ·have h8:s.write.A.length<=8:=hl;refine⟨abV hw.dom.own hw.dom.mb hA,?_⟩;have:=zi s.write;dsimp only;omega
  ·have:=hw.bA;exact⟨hw.bd,by omega⟩
 exact⟨by rw[e.me];exact h.me,by rw[e.seq];exact h.seq,by rw[e.now];exact h.now.1,by rw[e.mem,e.now];exact h.mem,Di,hcn,by rw[e.tn];have:=h.tn;omega,by rw[e.tl];have:=h.tl;omega,by rw[e.lk];exact hlk,by rw[e.pc];exact h.BJ,by rw[e.pc];exact h.z_,by rw[e.pc,e.now];exact h.Aa,by rw[e.Q,e.tl];exact h.D7,hbd.1,hbd.2,by rw[e.aL];have:=h.aL;omega,by rw[e.aY];have:=h.aY;omega,by rw[e.aT];have:=h.aT;omega⟩
def dQ(s:St)(TL:List Hp.Tm):Prop:=TL.Perm (s.Q.map kW)
theorem Iq{Q:List Sr}(hn:Q.Pairwise λa b=>a.dest≠b.dest){q:Sr}(hq:q∈Q):Q.Perm (q::Q.filter λz=>!decide (z.dest=q.dest)):=by
 induction Q with
 |nil=>cases hq
 |cons a Q ih=>
  rw[List.pairwise_cons]at hn;rcases fe.1 hq with rfl|h
  ·have h1:Q.filter (λz=>!decide (z.dest=q.dest))=Q:=List.filter_eq_self.2 λz hz=>by simpa using(hn.1 z hz).symm
   simp[h1]
  ·have h1:=ih hn.2 h;have h2:a.dest≠q.dest:=hn.1 q h;rw[List.filter_cons_of_pos (by simpa using h2)];exact(h1.cons a).trans (.swap _ _ _)
theorem Z0{d:Int}{s2:St}{TL dR:List Hp.Tm}(h:YS d s TL s2 dR)(ht:dQ s TL)(hid:TL.Pairwise λa b=>a.2.1≠b.2.1)(hn:s.Q.Pairwise λa b=>a.dest≠b.dest):dQ s2 dR:=by
 unfold dQ at ht ⊢;rcases h with⟨rfl,e⟩|⟨q,hq,htk,e⟩
 ·rw[e];exact ht
 ·obtain⟨hqm,rfl⟩:=jh hq;have hqt:kW q∈TL:=ht.mem_iff.2 (di.2 ⟨q,hqm,rfl⟩);rcases htk with⟨x,hx,hp⟩|⟨hno,_⟩
  ·have hxT:x∈TL:=hp.mem_iff.1 iJ;have hxe:x=kW q:=by
    refine Classical.byContradiction λhne=> ?_;have:∀(L:List Hp.Tm),L.Pairwise (λa b=>a.2.1≠b.2.1)->x∈L->kW q∈L->False:=by
     intro L
     induction L with
     |nil=>intro _ h;cases h
     |cons a L ih=>
      intro hp h1 h2;rw[List.pairwise_cons]at hp;rcases fe.1 h1 with k1|k1
      ·rcases fe.1 h2 with k2|k2
       ·exact hne (k1.trans k2.symm)
       ·exact hp.1 _ k2 (k1▸hx)
      ·rcases fe.1 h2 with k2|k2
       ·exact hp.1 _ k1 ((k2▸rfl:a.2.1=(kW q).2.1).trans hx.symm)
       ·exact ih hp.2 k1 k2
    exact this TL hid hxT hqt
   subst hxe;rw[e];have h1:=(hp.trans ht).trans ((Iq hn hqm).map kW);rw[List.map_cons]at h1;exact(List.perm_cons _).1 h1
  ·exact absurd rfl (hno _ hqt)
abbrev aaz:Go.Conc.Locks.MuLink:={lock:=49,unlock:=50,ilock:=74,iunlock:=75,lockSlow:=109,unlockSlow:=112,disable:=105,enable:=107,acquire:=108,relMerge:=110,cas32:=106,add32:=111,tMutex:=127,tIMutex:=125,tPMutex:=168,tPIMutex:=215,tPI32:=217,tUP:=219,tNoCopy:=123,tU32:=34}
theorem l_:Go.Conc.Locks.MuLib Tryz.prog aaz:=
 ⟨Tryz.func49,Tryz.func50,Tryz.func74,Tryz.func75,Tryz.func105,Tryz.func107,Tryz.func108,Tryz.func110,Tryz.func106,Tryz.func111,Tryz.underlying125,Tryz.runUnderlying125,Tryz.sizeOf125,Tryz.isAgg125,Tryz.zeroValue125,Tryz.underlying127,Tryz.runUnderlying127,Tryz.sizeOf127,Tryz.isAgg127,Tryz.zeroValue127,Tryz.underlying168,Tryz.runUnderlying168,Tryz.sizeOf168,Tryz.isAgg168,Tryz.zeroValue168,Tryz.underlying215,Tryz.runUnderlying215,Tryz.sizeOf215,Tryz.isAgg215,Tryz.zeroValue215,Tryz.underlying217,Tryz.runUnderlying217,Tryz.sizeOf217,Tryz.isAgg217,Tryz.zeroValue217,Tryz.underlying219,Tryz.runUnderlying219,Tryz.sizeOf219,Tryz.isAgg219,Tryz.zeroValue219,Tryz.underlying123,Tryz.runUnderlying123,Tryz.sizeOf123,Tryz.isAgg123,Tryz.zeroValue123,Tryz.underlying21,Tryz.runUnderlying21,Tryz.sizeOf21,Tryz.isAgg21,Tryz.zeroValue21,(by kernel_rfl)⟩
end Go.Proofs.YtakaadcpaeiccabGreat
