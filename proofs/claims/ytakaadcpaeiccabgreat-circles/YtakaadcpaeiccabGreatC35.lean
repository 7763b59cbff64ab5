import Derived.Test.YtakaadcpaeiccabGreatC34
set_option maxHeartbeats 8000000
set_option maxRecDepth 100000
namespace Go.Proofs.YtakaadcpaeiccabGreat
open Go.RowKit Go.Maps
theorem Nd.off {N B:Nat} {g:bA} {s:St} {TL:List Hp.Tm} {W W':World}(n:Nd N B g s TL W) {S:Nat→Prop}(hf:Fx S W W')(hS:∀k,S k→¬Ft N g s k∧¬iW B g.a k):Nd N B g s TL W':=
 ⟨n.nn.kept fun k hk=>hf.block k(n.nn.lt hk)fun h=>(hS k h).1 hk,n.ac.kept fun k hk=>hf.block k(n.ac.lt hk)fun h=>(hS k h).2 hk,n.now,n.aZ⟩
theorem Up.fresh {B:Nat} {F F':Nat→Prop} {a b c:World}(u:Up B F F' a b) {C:Nat}(h:b.grownBy c(some C))(hC:a.heap.size≤C):Up B F F' a c:=
 ⟨fun k hk=>(u.sub k hk).dh fun⟨h1,h2⟩=>⟨h1,Nat.lt_of_lt_of_le h2 h.size⟩,h.os.trans u.os,h.tape.trans u.tape,h.output.trans u.output,Nat.le_trans u.size h.size,fun k o ho hn hA=>by
  have h1:=u.block k o ho hn hA;exact(h.block k(aD h1)fun e=>by
   have:=aD ho;have:=Option.some.inj e;omega).trans h1⟩
theorem Dc(c:Array Value):nS(.cells c 52(0,0)):=⟨fun c e=>(by cases e),fun c e=>(by cases e),fun c e=>(by cases e),fun c e=>(by cases e),fun c e=>(by cases e)⟩
theorem abe {s:St}(ha:Asc s.A)(hd:∀d,(s.f d).isSome=true→∃y∈s.A,y.dest=d)(hall:∀y∈s.A,(s.f y.dest).isSome=true):iw s.f(some s.own)s.cmp:=by
 refine⟨s.A.map(fun y=>y.dest),(List.pairwise_map(f:=fun y:Rt=>y.dest)(R:=fun a b:Int=>a<b)).2 ha,fun a=>⟨fun h=> ?_,fun h=> ?_⟩,rfl⟩
 ·obtain⟨y,hy,rfl⟩:=List.mem_map.1 h;exact hall y hy
 ·obtain⟨y,hy,rfl⟩:=hd a h;exact List.mem_map.2⟨y,hy,rfl⟩
theorem jc.reset {B base:Nat} {a:nK} {a_:List(Bool×Int×Int)} {aH aR:List(Int×ByteArray)} {aN:List Int} {W:World}(h:jc B base a a_ aH aR aN W) {v:Value} {ZL:List(Bool×Int×Int)}(ho:W.ownsRow base 82 3 v ZL.length(RC ZL)):
  jc B base {a with mZ:=v,aZ:=true}ZL aH aR aN((W.setCell⟨B,1,none⟩v).setCell⟨B,3,none⟩(.bool true))∧W.grownBy((W.setCell⟨B,1,none⟩v).setCell⟨B,3,none⟩(.bool true))(some B):=by
 have hg:=aa(aa(aC W(some B))1 v)3(.bool true);have hB:=(h.blk.Qr v).Qq true;exact⟨⟨hB,ho.kept hg(.inr(aA ho h.blk(fun c e=>(by cases e)))),h.aI.kept hg(.inr(aA h.aI h.blk(fun c e=>(by cases e)))),h.bH.kept hg(.inr(aA h.bH h.blk(fun c e=>(by cases e)))),h.bI.kept hg(.inr(aA h.bI h.blk(fun c e=>(by cases e))))⟩,hg⟩
theorem jc.CP {B base:Nat} {a:nK} {a_:List(Bool×Int×Int)} {aH aR:List(Int×ByteArray)} {aN:List Int} {W:World}(h:jc B base a a_ aH aR aN W)(b:ByteArray):
  jc B base {a with aY:=b}a_ aH aR aN(W.setCell⟨B,2,none⟩(.string b))∧W.grownBy(W.setCell⟨B,2,none⟩(.string b))(some B):=by
 have hg:=aa(aC W(some B))2(.string b);exact⟨⟨h.blk.CP b,h.mZ.kept hg(.inr(aA h.mZ h.blk(fun c e=>(by cases e)))),h.aI.kept hg(.inr(aA h.aI h.blk(fun c e=>(by cases e)))),h.bH.kept hg(.inr(aA h.bH h.blk(fun c e=>(by cases e)))),h.bI.kept hg(.inr(aA h.bI h.blk(fun c e=>(by cases e))))⟩,hg⟩
def afy(N B:Nat)(g:bA)(s s':St)(TL:List Hp.Tm)(w:World)(e:Ending)(w':World):Prop:=∃g',e=.returned(iE s'.aY s'.aZ g'.a.aI g'.a.bH g'.a.bI)∧Nd N B g' s' TL w'∧Up B(Ft N g s)(Ft N g' s')w w'∧Hid(g'.x.T=g.x.T)
theorem oq {N B:Nat} {g:bA} {s:St} {TL:List Hp.Tm} {w:World}(n:Nd N B g s TL w)(hd:s.PX)(hc:0≤s.cnt∧s.cnt≤900000)(hw:s.a_.length≤80000)(hbd:pW s.a_)(hq:bg s.seq):
  Calls Tryz.prog 48 #[.pointer(some⟨N,0,none⟩),.pointer(some⟨B,0,none⟩)]w(afy N B g s s.finish TL w):=by
 have hA:=n.nn.cr.tb.ok;have hb0:Below w.heap.size w(w.alloc iN):=(Below.refl _ _).alloc(Nat.le_refl _)_;have hC0:(w.alloc iN).heap[w.heap.size]?=some iN:=heap_alloc_new _ _;have jS:¬Ft N g s w.heap.size:=n.new(Nat.le_refl _);have hBC:B<w.heap.size:=n.ac.blk.lt;have n0:=n.later hb0;have HW:=hide(Yb n0 hd(by omega)(by omega));obtain⟨s1,hs1⟩:∃z,s.write=z:=⟨_,rfl⟩;have hd1:s1.PX:=by rw [←hs1];exact Ck hd hA hq
 have hall:∀y∈s1.A,(s1.f y.dest).isSome=true:=by rw [←hs1];exact NR
 have S9:pW s1.a_:=by rw [←hs1];exact Al hbd(FJ hq s.f hA)
 have hlen:=nT s.seq s.own s.f s.A;have hA8:=n.nn.cr.tb.len;have hn1:s1.a_.length≤90000:=by
  rw [←hs1];show(s.a_++_).length≤_;rw [List.length_append];omega
 have hc1:0≤s1.cnt∧s1.cnt≤1000000:=by
  rw [←hs1];show 0≤s.cnt+_∧s.cnt+_≤_;omega
 obtain⟨s2,hs2⟩:∃z,s.finish=z:=⟨_,rfl⟩;rw [hs2];have vT:Hid((if s1.cnt>24 then {s1 with a_:=s1.cmp,cnt:=s1.cmp.length,aZ:=true}else s1)=s2):=by
  show _=_;rw [←hs2,←hs1];rfl
 rw [hs1]at HW;have hd1:=hide hd1;have hall:=hide hall;have S9:=hide S9;have hn1:=hide hn1;clear hs1 hs2 hd hc hw hbd hlen hA8 n;dsimp only [iN]at hb0 hC0 HW;go_enter Tryz.func48,Tryz.ntmps48
 go_upto_region 1 with(fail)
 generalize World.alloc _ _=W1 at hb0 hC0 HW n0 ⊢;go_wp2_with fail
 refine Calls.mono HW.out ?_;rintro e w2⟨rfl,g2,n2,u2,t2⟩;obtain⟨hC2,Gz⟩:=u2.keep hC0 jS(Dc _);have H9:=(Up.below hb0:Up B(Ft N g s)(Ft N g s)w W1).trans u2;clear HW hC0 hb0 u2 n0 jS;obtain⟨m0,m2,m3,m4,m5,m6,m7,m8,m9,m10⟩:=n2.nn.cr.nd.cell;rw [n2.nn.eq.cnt]at m10;obtain⟨b0,b1,b2,b3,b4,b5,b6⟩:=n2.ac.blk.cell;have hCg:w.heap.size≤w.heap.size:=Nat.le_refl _;generalize lm:w.heap.size=C at hC2 Gz hBC hCg ⊢;replace lm:=hide lm;by_cases h24:s1.cnt>24
 ·have hd24:decide(24<s1.cnt)=true:=decide_eq_true(by omega);replace vT:=hide((if_pos h24).symm.trans vT.out);clear h24;have hz2:=n2.nn.cr.size_le hd1.out.on;have hown:=hd1.out.own;rw [←n2.nn.eq.own]at hown;have HC:=hide(GZ N g2.x s1.f g2.sz w2 n2.nn.cr.nd n2.nn.cr.mo hd1.out.mb hown(by omega)⟨s1.A.map(·.dest),by have:=n2.nn.cr.tb.len;rw [List.length_map];omega,fun a ha=>by obtain⟨y,hy,e⟩:=hd1.out.on a ha;exact List.mem_map.2⟨y,hy,e⟩⟩);go_wp2_with fail
  refine Calls.mono HC.out ?_;rintro e w3⟨v3,out,rfl,hcmp,hr3,zI,hM3,hf3⟩;have hout:out=s1.cmp:=by
   rw [n2.nn.eq.own]at hcmp;exact hcmp.unique(abe n2.nn.cr.tb.wC hd1.out.on hall.out)
  have EE:out.length≤9:=by
   rw [hout];have:=n2.nn.cr.tb.len;simp only [St.cmp,dw,fV,List.length_append,List.length_map,List.length_cons,List.length_nil];omega
  clear HC hcmp;have hNA:∀k,iW B g2.a k→¬k=N:=fun k hk e=>n2.ac.I7 n2.nn(.inl(.inl e))hk;have ac3:=n2.ac.kept(W':=w3)fun k hk=>hf3.block k(n2.ac.lt hk)(hNA k hk);have acm:w3.ownsRow(B+1)82 3 v3 out.length(RC out):=ownsRow_base_a hr3 n2.base;obtain⟨ac4,hg4⟩:=ac3.reset acm;have hB3:=ac3.blk;have ae3:N≠B:=fun e=>hNA B(.inl rfl)e.symm;have AP:ib N {g2.x with cnt:=out.length}((w3.setCell⟨B,1,none⟩v3).setCell⟨B,3,none⟩(.bool true)):=zI.kept hg4(fun e=>ae3(Option.some.inj e).symm);have hMB:g2.x.Mo≠B:=fun e=>n2.ac.I7 n2.nn(.inl(.inr(.inl rfl)))(.inl e);have Bb:MapU((w3.setCell⟨B,1,none⟩v3).setCell⟨B,3,none⟩(.bool true))g2.x.Mo s1.f g2.sz:=hM3.kept hg4(fun e=>hMB(Option.some.inj e));have hfx:Fx(fun k=>k=N∨k=B)w2((w3.setCell⟨B,1,none⟩v3).setCell⟨B,3,none⟩(.bool true)):=aT(hf3.mono fun _ h=> .inl h)hg4(fun i _ e=> .inr(Option.some.inj e).symm);have hT4:MT g2.x.self g2.x.T g2.M g2.ff g2.gg s1.A((w3.setCell⟨B,1,none⟩v3).setCell⟨B,3,none⟩(.bool true)):=n2.nn.cr.tb.kept fun k hk=>hfx.block k(n2.nn.cr.tb.lt hk)(by
   rintro(rfl|rfl)
   ·exact n2.nn.cr.tb.not(fun e=>by
     obtain⟨es,cl,hm⟩:=n2.nn.cr.tb.map.obj;rw [←e,show w2.heap[k]?=_ from n2.nn.cr.nd]at hm;cases hm)n2.nn.cr.nd(rz _)hk
   ·exact n2.ac.I7 n2.nn(.inl(.inr(.inr hk)))(.inl rfl))
  have hCf:((w3.setCell⟨B,1,none⟩v3).setCell⟨B,3,none⟩(.bool true)).heap[C]?=w2.heap[C]?:=hfx.block C(aD hC2)(by
   rintro(rfl|h)
   ·exact Gz(.inl(.inl rfl))
   ·omega)
  obtain⟨e1,e2,e3,e4,e5,e6,e7,e8,e9⟩:=n2.nn.eq;obtain⟨n4,u4⟩:=n2.core(s':={s1 with a_:=out,cnt:=out.length,aZ:=true})⟨AP,Bb,hT4,n2.nn.cr.ne⟩ac4(hfx.mono fun k h=>by
   rcases h with rfl|rfl
   ·exact .inl(.inl rfl)
   ·exact .inr(.inl rfl))(fun k hk=>hk)⟨rfl,rfl,rfl,rfl,rfl⟩⟨e1,e2,e3,e4,e5,e6,e7,rfl,e9⟩⟨rfl,rfl,rfl,rfl,rfl⟩n2.nn.H_ n2.now rfl
  have nX:=hCf.trans hC2;have hs4:Hid(({s1 with a_:=out,cnt:=out.length,aZ:=true}:St)=s2):=by
   show _=_;rw [hout];exact vT.out
  have hb4:Hid(pW s2.a_):=by
   show pW _;rw [←hs4.out];intro x hx;have hx':x∈out:=hx;rw [hout]at hx';simp only [St.cmp,dw,fV,List.mem_append,List.mem_singleton,List.mem_map]at hx';have h1:=hd1.out.own;rcases hx' with rfl|⟨a,ha,rfl⟩
   ·unfold bg at h1;dsimp only;omega
   ·obtain⟨y,hy,rfl⟩:=ha;have h2:=(n2.nn.cr.tb.ok y hy).dest;have h3:=hd1.out.mb.getD y.dest;unfold bg at h2 h3;dsimp only;omega
  have hl4:Hid(s2.a_.length≤90000):=by
   show _≤_;rw [←hs4.out];show out.length≤_;omega
  rw [hs4.out]at n4 u4;have qK:¬Ft N _ s2 C:=fun h=>(u4.sub C h).elim Gz(by have:=aD hC2;omega);have pI:=H9.trans u4;have t4:Hid(({g2 with x:={g2.x with cnt:=(out.length:Int)},a:={g2.a with mZ:=v3,aZ:=true}}:bA).x.T=g.x.T):=t2;have afh:B<C:=hBC;obtain⟨a3',c3',hv3,_⟩:=ak hr3;have fB1:=hB3.free 1;have fB3:=hB3.free 3;obtain⟨x0,x1,x2,x3,x4,x5,x6⟩:=hB3.cell;subst hv3;generalize({g2 with x:={g2.x with cnt:=(out.length:Int)},a:={g2.a with mZ:=.slice a3' out.length c3',aZ:=true}}:bA)=g4 at n4 u4 qK pI t4;clear n2 H9 zI hM3 hf3 hr3 acm ac3 ac4 hg4 hB3 AP Bb hfx hT4 hCf hC2 Gz u4 m0 m2 m3 m4 m5 m6 m7 m8 m9 m10 b0 b1 b2 b3 b4 b5 b6 e1 e2 e3 e4 e5 e6 e7 e8 e9 vT hNA hout EE hown hz2 hall S9 hn1 hd1 hs4;go_upto_region 5 with(fail)
  generalize World.setCell _ _ _=W4 at n4 pI nX ⊢;clear x0 x1 x2 x3 x4 x5 x6 fB1 fB3;obtain⟨b0,b1,b2,b3,b4,b5,b6⟩:=n4.ac.blk.cell;obtain⟨a7,k7,hv7,hH7⟩:=ak n4.ac.mZ;rw [hv7]at b1;have HJ:=hide(pM a7 s2.a_.length k7 s2.a_ rfl(by have:=hl4.out;omega)hb4.out W4 hH7);clear hv7 hH7;go_wp2_with fail
  refine Calls.mono HJ.out ?_;rintro e w5⟨rfl,hb5⟩;have n5:=n4.later hb5;have lJ:=(hb5.block C(aD nX)).trans nX;have xE:=pI.trans(.below hb5:Up B(Ft N g4 s2)(Ft N g4 s2)W4 w5);have aaU:¬iW B g4.a C:=fun h=>n5.ac.kinds h lJ(Dc _);clear HJ n4 pI nX hb5 b0 b1 b2 b3 b4 b5 b6;obtain⟨b0,b1,b2,b3,b4,b5,b6⟩:=n5.ac.blk.cell;have f2:=n5.ac.blk.free 2;rw [show strOfNums(bn s2.a_)=s2.aY from rfl];obtain⟨ac6,fB⟩:=n5.ac.CP s2.aY;obtain⟨n6,u6⟩:=n5.act(s':=s2)ac6(Fx.grown fB fun k e=>by cases e;exact .inl rfl)⟨rfl,rfl,rfl,rfl,rfl,rfl,rfl,rfl,rfl,rfl,rfl,rfl,rfl,rfl,rfl⟩n5.now n5.aZ;have cK:=(fB.block C(aD lJ)(fun e=>by have:=Option.some.inj e;omega)).trans lJ;have mI:=xE.trans u6;have jY:¬Ft N {g4 with a:={g4.a with aY:=s2.aY}}s2 C:=qK;have Tn:¬iW B({g4 with a:={g4.a with aY:=s2.aY}}:bA).a C:=aaU;have t6:Hid(({g4 with a:={g4.a with aY:=s2.aY}}:bA).x.T=g.x.T):=t4;have hj6:({g4 with a:={g4.a with aY:=s2.aY}}:bA).a.aY=s2.aY:=rfl;generalize({g4 with a:={g4.a with aY:=s2.aY}}:bA)=g6 at n6 mI jY Tn t6 hj6;clear ac6 fB u6 n5 xE lJ;go_upto_region 6 with(fail)
  generalize World.setCell _ _ _=W6 at n6 mI cK ⊢;clear b0 b1 b2 b3 b4 b5 b6 f2;obtain⟨b0,b1,b2,b3,b4,b5,b6⟩:=n6.ac.blk.cell;rw [hj6]at b2;rw [n6.aZ]at b3;obtain⟨af,kf,hf,_⟩:=ak n6.ac.aI;obtain⟨ac,kc,hc,_⟩:=ak n6.ac.bH;obtain⟨ad,kd,hdd,_⟩:=ak n6.ac.bI;rw [hf]at b4;rw [hc]at b5;rw [hdd]at b6;have q0:W6.cell?⟨C,0,none⟩=some(.string⟨#[]⟩):=cell_of_row _ _ 0 _ _ _ cK;have q1:W6.cell?⟨C,1,none⟩=some(.bool false):=cell_of_row _ _ 1 _ _ _ cK;have q2:W6.cell?⟨C,2,none⟩=some(.slice none 0 0):=cell_of_row _ _ 2 _ _ _ cK;have q3:W6.cell?⟨C,3,none⟩=some(.slice none 0 0):=cell_of_row _ _ 3 _ _ _ cK;have q4:W6.cell?⟨C,4,none⟩=some(.slice none 0 0):=cell_of_row _ _ 4 _ _ _ cK;have z0:=frozen_of_row W6 C 0 _ _ cK;have z1:=frozen_of_row W6 C 1 _ _ cK;have z2:=frozen_of_row W6 C 2 _ _ cK;have z3:=frozen_of_row W6 C 3 _ _ cK;have z4:=frozen_of_row W6 C 4 _ _ cK;have gB:=aa(aa(aa(aa(aa(aC W6(some C))0(.string s2.aY))1(.bool s2.aZ))2(.slice af s2.aH.length kf))3(.slice ac s2.aR.length kc))4(.slice ad s2.aN.length kd);have dI:(((((W6.setCell⟨C,0,none⟩(.string s2.aY)).setCell⟨C,1,none⟩(.bool s2.aZ)).setCell⟨C,2,none⟩(.slice af s2.aH.length kf)).setCell⟨C,3,none⟩(.slice ac s2.aR.length kc)).setCell⟨C,4,none⟩(.slice ad s2.aN.length kd)).heap[C]?=some(.cells #[.string s2.aY,.bool s2.aZ,.slice af s2.aH.length kf,.slice ac s2.aR.length kc,.slice ad s2.aN.length kd]52):=by
   simp [World.setCell,Array.getElem?_modify,cK]
  have n7:=n6.off(S:=fun k=>k=C)(Fx.grown gB fun k e=>by cases e;rfl)(by rintro k rfl;exact⟨jY,Tn⟩);have u7:=mI.fresh gB(by rw [lm.out];exact Nat.le_refl _);have afg:C≠B:=by omega
  clear gB n6 mI;go_wp2
  generalize World.setCell _ _ _=W7 at dI n7 u7 ⊢;have p0:W7.cell?⟨C,0,none⟩=some(.string s2.aY):=cell_of_row _ _ 0 _ _ _ dI;have p1:W7.cell?⟨C,1,none⟩=some(.bool s2.aZ):=cell_of_row _ _ 1 _ _ _ dI;have p2:W7.cell?⟨C,2,none⟩=some(.slice af s2.aH.length kf):=cell_of_row _ _ 2 _ _ _ dI;have p3:W7.cell?⟨C,3,none⟩=some(.slice ac s2.aR.length kc):=cell_of_row _ _ 3 _ _ _ dI;have p4:W7.cell?⟨C,4,none⟩=some(.slice ad s2.aN.length kd):=cell_of_row _ _ 4 _ _ _ dI;refine bodyPost_ret(v:=.agg #[.string s2.aY,.bool s2.aZ,.slice af s2.aH.length kf,.slice ac s2.aR.length kc,.slice ad s2.aN.length kd])(by simp [results,Tryz.results48,go_sem,p0,p1,p2,p3,p4])rfl⟨g6,?_,n7,u7,t6⟩;rw [hf,hc,hdd];rfl
 ·have hd24:decide(24<s1.cnt)=false:=decide_eq_false(by omega);replace vT:=hide((if_neg h24).symm.trans vT.out);have hb4:Hid(pW s2.a_):=by rw [←vT.out];exact S9
  have hl4:Hid(s2.a_.length≤90000):=by rw [←vT.out];exact hn1
  have n4:=n2;have pI:=H9;have nX:=hC2;have qK:=Gz;rw [vT.out]at n4 pI qK;have t4:=t2;have afh:=hBC;clear n2 H9 hC2 Gz vT h24 b0 b1 b2 b3 b4 b5 b6 m0 m2 m3 m4 m5 m6 m7 m8 m9 hall S9 hn1 hd1;go_upto_region 5 with(fail)
  clear m10;obtain⟨b0,b1,b2,b3,b4,b5,b6⟩:=n4.ac.blk.cell;obtain⟨a7,k7,hv7,hH7⟩:=ak n4.ac.mZ;rw [hv7]at b1;have HJ:=hide(pM a7 s2.a_.length k7 s2.a_ rfl(by have:=hl4.out;omega)hb4.out w2 hH7);clear hv7 hH7;go_wp2_with fail
  refine Calls.mono HJ.out ?_;rintro e w5⟨rfl,hb5⟩;have n5:=n4.later hb5;have lJ:=(hb5.block C(aD nX)).trans nX;have xE:=pI.trans(.below hb5:Up B(Ft N g2 s2)(Ft N g2 s2)w2 w5);have aaU:¬iW B g2.a C:=fun h=>n5.ac.kinds h lJ(Dc _);clear HJ n4 pI nX hb5 b0 b1 b2 b3 b4 b5 b6;obtain⟨b0,b1,b2,b3,b4,b5,b6⟩:=n5.ac.blk.cell;have f2:=n5.ac.blk.free 2;rw [show strOfNums(bn s2.a_)=s2.aY from rfl];obtain⟨ac6,fB⟩:=n5.ac.CP s2.aY;obtain⟨n6,u6⟩:=n5.act(s':=s2)ac6(Fx.grown fB fun k e=>by cases e;exact .inl rfl)⟨rfl,rfl,rfl,rfl,rfl,rfl,rfl,rfl,rfl,rfl,rfl,rfl,rfl,rfl,rfl⟩n5.now n5.aZ;have cK:=(fB.block C(aD lJ)(fun e=>by have:=Option.some.inj e;omega)).trans lJ;have mI:=xE.trans u6;have jY:¬Ft N {g2 with a:={g2.a with aY:=s2.aY}}s2 C:=qK;have Tn:¬iW B({g2 with a:={g2.a with aY:=s2.aY}}:bA).a C:=aaU;have t6:Hid(({g2 with a:={g2.a with aY:=s2.aY}}:bA).x.T=g.x.T):=t4;have hj6:({g2 with a:={g2.a with aY:=s2.aY}}:bA).a.aY=s2.aY:=rfl;generalize({g2 with a:={g2.a with aY:=s2.aY}}:bA)=g6 at n6 mI jY Tn t6 hj6;clear ac6 fB u6 n5 xE lJ;go_upto_region 6 with(fail)
  generalize World.setCell _ _ _=W6 at n6 mI cK ⊢;clear b0 b1 b2 b3 b4 b5 b6 f2;obtain⟨b0,b1,b2,b3,b4,b5,b6⟩:=n6.ac.blk.cell;rw [hj6]at b2;rw [n6.aZ]at b3;obtain⟨af,kf,hf,_⟩:=ak n6.ac.aI;obtain⟨ac,kc,hc,_⟩:=ak n6.ac.bH;obtain⟨ad,kd,hdd,_⟩:=ak n6.ac.bI;rw [hf]at b4;rw [hc]at b5;rw [hdd]at b6;have q0:W6.cell?⟨C,0,none⟩=some(.string⟨#[]⟩):=cell_of_row _ _ 0 _ _ _ cK;have q1:W6.cell?⟨C,1,none⟩=some(.bool false):=cell_of_row _ _ 1 _ _ _ cK;have q2:W6.cell?⟨C,2,none⟩=some(.slice none 0 0):=cell_of_row _ _ 2 _ _ _ cK;have q3:W6.cell?⟨C,3,none⟩=some(.slice none 0 0):=cell_of_row _ _ 3 _ _ _ cK;have q4:W6.cell?⟨C,4,none⟩=some(.slice none 0 0):=cell_of_row _ _ 4 _ _ _ cK;have z0:=frozen_of_row W6 C 0 _ _ cK;have z1:=frozen_of_row W6 C 1 _ _ cK;have z2:=frozen_of_row W6 C 2 _ _ cK;have z3:=frozen_of_row W6 C 3 _ _ cK;have z4:=frozen_of_row W6 C 4 _ _ cK;have gB:=aa(aa(aa(aa(aa(aC W6(some C))0(.string s2.aY))1(.bool s2.aZ))2(.slice af s2.aH.length kf))3(.slice ac s2.aR.length kc))4(.slice ad s2.aN.length kd);have dI:(((((W6.setCell⟨C,0,none⟩(.string s2.aY)).setCell⟨C,1,none⟩(.bool s2.aZ)).setCell⟨C,2,none⟩(.slice af s2.aH.length kf)).setCell⟨C,3,none⟩(.slice ac s2.aR.length kc)).setCell⟨C,4,none⟩(.slice ad s2.aN.length kd)).heap[C]?=some(.cells #[.string s2.aY,.bool s2.aZ,.slice af s2.aH.length kf,.slice ac s2.aR.length kc,.slice ad s2.aN.length kd]52):=by
   simp [World.setCell,Array.getElem?_modify,cK]
  have n7:=n6.off(S:=fun k=>k=C)(Fx.grown gB fun k e=>by cases e;rfl)(by rintro k rfl;exact⟨jY,Tn⟩);have u7:=mI.fresh gB(by rw [lm.out];exact Nat.le_refl _);have afg:C≠B:=by omega
  clear gB n6 mI;go_wp2
  generalize World.setCell _ _ _=W7 at dI n7 u7 ⊢;have p0:W7.cell?⟨C,0,none⟩=some(.string s2.aY):=cell_of_row _ _ 0 _ _ _ dI;have p1:W7.cell?⟨C,1,none⟩=some(.bool s2.aZ):=cell_of_row _ _ 1 _ _ _ dI;have p2:W7.cell?⟨C,2,none⟩=some(.slice af s2.aH.length kf):=cell_of_row _ _ 2 _ _ _ dI;have p3:W7.cell?⟨C,3,none⟩=some(.slice ac s2.aR.length kc):=cell_of_row _ _ 3 _ _ _ dI;have p4:W7.cell?⟨C,4,none⟩=some(.slice ad s2.aN.length kd):=cell_of_row _ _ 4 _ _ _ dI;refine bodyPost_ret(v:=.agg #[.string s2.aY,.bool s2.aZ,.slice af s2.aH.length kf,.slice ac s2.aR.length kc,.slice ad s2.aN.length kd])(by simp [results,Tryz.results48,go_sem,p0,p1,p2,p3,p4])rfl⟨g6,?_,n7,u7,t6⟩;rw [hf,hc,hdd];rfl
end Go.Proofs.YtakaadcpaeiccabGreat
