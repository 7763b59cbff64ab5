import Derived.Test.YtakaadcpaeiccabGreatC50
set_option maxHeartbeats 4000000
set_option maxRecDepth 100000
namespace Go.Proofs.YtakaadcpaeiccabGreat
open Go.RowKit Go.Maps
theorem tO {n D:Nat} {a w:World}(h:Below n a w)(hD:n≤D)(v0 v1 v2 v3 v4:Value):Below n a(((((w.setCell⟨D,0,none⟩v0).setCell⟨D,1,none⟩v1).setCell⟨D,2,none⟩v2).setCell⟨D,3,none⟩v3).setCell⟨D,4,none⟩v4):=
 ((((h.setCell(p:=⟨D,0,none⟩)hD _).setCell(p:=⟨D,1,none⟩)hD _).setCell(p:=⟨D,2,none⟩)hD _).setCell(p:=⟨D,3,none⟩)hD _).setCell(p:=⟨D,4,none⟩)hD _
def pG(D:Nat)(j:ByteArray)(aZ:Bool)(aI bH bI:Value)(W:World):Prop:=W.heap[D]?=some(.cells #[.string j,.bool aZ,aI,bH,bI]52)
theorem pG.M4 {D:Nat} {j j':ByteArray} {aZ ZA:Bool} {aI bH bI aa3 abk aba:Value} {w:World}(h:pG D j aZ aI bH bI w):pG D j' ZA aa3 abk aba(((((w.setCell⟨D,0,none⟩(.string j')).setCell⟨D,1,none⟩(.bool ZA)).setCell⟨D,2,none⟩aa3).setCell⟨D,3,none⟩abk).setCell⟨D,4,none⟩aba):=by
 unfold pG at h ⊢;simp [World.setCell,Array.getElem?_modify,h]
theorem pG.cell {D:Nat} {j:ByteArray} {aZ:Bool} {aI bH bI:Value} {W:World}(h:pG D j aZ aI bH bI W):W.cell?⟨D,0,none⟩=some(.string j)∧W.cell?⟨D,1,none⟩=some(.bool aZ)∧W.cell?⟨D,2,none⟩=some aI∧W.cell?⟨D,3,none⟩=some bH∧W.cell?⟨D,4,none⟩=some bI∧∀i,W.frozen?⟨D,i,none⟩=false:=
 ⟨cell_of_row _ _ 0 _ _ _ h,cell_of_row _ _ 1 _ _ _ h,cell_of_row _ _ 2 _ _ _ h,cell_of_row _ _ 3 _ _ _ h,cell_of_row _ _ 4 _ _ _ h,fun i=>frozen_of_row W D i _ _ h⟩
theorem tJ(w:World)(D:Nat)(v0 v1 v2 v3 v4:Value):w.grownBy(((((w.setCell⟨D,0,none⟩v0).setCell⟨D,1,none⟩v1).setCell⟨D,2,none⟩v2).setCell⟨D,3,none⟩v3).setCell⟨D,4,none⟩v4)(some D):=
 aa(aa(aa(aa(aa(aC w(some D))0 v0)1 v1)2 v2)3 v3)4 v4
structure h_(b:Nat)(aH aR:List(Int×ByteArray))(aN:List Int)(aI bH bI:Value)(W:World):Prop where
 aI:W.ownsRow b 77 2 aI aH.length(tT aH)
 bH:W.ownsRow b 56 2 bH aR.length(tT aR)
 bI:W.ownsRow b 195 1 bI aN.length(Im aN)
theorem h_.at {b:Nat} {aH aR:List(Int×ByteArray)} {aN:List Int} {aI bH bI:Value} {W W':World}(h:h_ b aH aR aN aI bH bI W)(he:∀(k:Nat)(c:Array Value)(t:Nat),t∈([77,56,195]:List Nat)→W.heap[k]?=some(Obj.cells c t(0,0))→W'.heap[k]?=W.heap[k]?):h_ b aH aR aN aI bH bI W':=by
 refine⟨bD h.aI fun k hk=> ?_,bD h.bH fun k hk=> ?_,bD h.bI fun k hk=> ?_⟩
 ·obtain⟨c,hc⟩:=aP h.aI hk;exact he k c 77(by decide)hc
 ·obtain⟨c,hc⟩:=aP h.bH hk;exact he k c 56(by decide)hc
 ·obtain⟨c,hc⟩:=aP h.bI hk;exact he k c 195(by decide)hc
theorem h_.later {b:Nat} {aH aR:List(Int×ByteArray)} {aN:List Int} {aI bH bI:Value} {W W':World}(h:h_ b aH aR aN aI bH bI W)(hb:Below W.heap.size W W'):h_ b aH aR aN aI bH bI W':=h.at fun k _ _ _ hk=>hb.block k(aD hk)
theorem h_.lower {b b':Nat} {aH aR:List(Int×ByteArray)} {aN:List Int} {aI bH bI:Value} {W:World}(h:h_ b aH aR aN aI bH bI W)(hb:b'≤b):h_ b' aH aR aN aI bH bI W:=⟨ownsRow_base_a h.aI hb,ownsRow_base_a h.bH hb,ownsRow_base_a h.bI hb⟩
structure Am(z:St)(b:Nat)(N:Nat)(g:bA)(aI bH bI:Value)(W:World):Prop where
 nn:Nn N g z []W
 out:h_ b z.aH z.aR z.aN aI bH bI W
 ge:∀k,Ft N g z k→b≤k
theorem Am.set {z:St} {b N D:Nat} {g:bA} {aI bH bI:Value} {W W':World}(h:Am z b N g aI bH bI W) {c:Array Value}(hD:W.heap[D]?=some(.cells c 52(0,0)))(hg:W.grownBy W'(some D)):Am z b N g aI bH bI W':=by
 refine⟨h.nn.kept fun k hk=>hg.block k(h.nn.lt hk)fun e=> ?_,h.out.at fun k c' t ht hk=>hg.block k(aD hk)fun e=> ?_,h.ge⟩
 ·cases e;obtain⟨o,ho,hK⟩:=h.nn.kind hk;rw [hD]at ho;cases ho;exact hK.not(by decide)
 ·cases e;rw [hD]at hk;cases hk;exact absurd ht(by decide)
theorem Am.later {z:St} {b N:Nat} {g:bA} {aI bH bI:Value} {W W':World}(h:Am z b N g aI bH bI W)(hb:Below W.heap.size W W'):Am z b N g aI bH bI W':=⟨h.nn.later hb,h.out.later hb,h.ge⟩
def UM(z:St)(W1:World)(nv ov:Value)(W:World):Prop:=∃N g aI bH bI D,nv=.pointer(some⟨N,0,none⟩)∧ov=.pointer(some⟨D,0,none⟩)∧pG D z.aY z.aZ aI bH bI W∧Am z W1.heap.size N g aI bH bI W∧W1.heap.size≤D∧Below W1.heap.size W1 W
theorem JJ {z:St} {W1 w2:World} {N:Nat} {g:bA} {aI bH bI:Value}(hb:Below W1.heap.size W1 w2)(h:Am z W1.heap.size N g aI bH bI w2):UM z W1(.pointer(some⟨N,0,none⟩))(.pointer(some⟨w2.heap.size,0,none⟩))(w2.alloc(.cells #[.string z.aY,.bool z.aZ,aI,bH,bI]52)):=
 ⟨N,g,aI,bH,bI,_,rfl,rfl,heap_alloc_new _ _,h.later((Below.refl _ _).alloc(Nat.le_refl _)_),hb.size,hb.alloc hb.size _⟩
theorem TY {z:St} {W1 w2:World} {N:Nat} {g:bA} {aI bH bI:Value} {j0:ByteArray} {r0:Bool} {f0 c0 d0:Value}(hb:Below W1.heap.size W1 w2)(h:Am z W1.heap.size N g aI bH bI w2)(hD:Hid(pG W1.heap.size j0 r0 f0 c0 d0 w2)):UM z W1(.pointer(some⟨N,0,none⟩))(.pointer(some⟨W1.heap.size,0,none⟩))(((((w2.setCell⟨W1.heap.size,0,none⟩(.string z.aY)).setCell⟨W1.heap.size,1,none⟩(.bool z.aZ)).setCell⟨W1.heap.size,2,none⟩aI).setCell⟨W1.heap.size,3,none⟩bH).setCell⟨W1.heap.size,4,none⟩bI):=
 ⟨N,g,aI,bH,bI,_,rfl,rfl,hD.out.M4,h.set hD.out(tJ _ _ _ _ _ _ _),Nat.le_refl _,tO hb(Nat.le_refl _)_ _ _ _ _⟩
theorem KQ(W:World):pG W.heap.size⟨#[]⟩false(.slice none 0 0)(.slice none 0 0)(.slice none 0 0)(W.alloc(.cells #[.string⟨#[]⟩,.bool false,.slice none 0 0,.slice none 0 0,.slice none 0 0]52)).drew:=heap_alloc_new W _
@[reducible] def He (B : Nat) (a : Int) (jv : Value) (W0 W : World) : Prop := (W.cell? ⟨B, 0, none⟩ = some (.int .u32 a) ∧ W.cell? ⟨B, 1, none⟩ = some jv) ∧ Below W0.heap.size W0 W
theorem He.of {x:SG} {s:bi} {W0 W:World}(h:mf x s W0)(hb:Below W0.heap.size W0 W):He x.B s.addr x.jv W0 W:=⟨⟨(h.later hb).cell.1,(h.later hb).cell.2.1⟩,hb⟩
theorem He.jO {B:Nat} {a:Int} {jv:Value} {W0 W:World} {o:Obj}(hk:Hid(∀W5,Below W0.heap.size W0 W5→He B a jv W0 W5))(h:Below W0.heap.size W0 W):He B a jv W0(W.alloc o):=hk.out _(h.alloc h.size _)
theorem He.d_ {B:Nat} {a:Int} {jv:Value} {W0:World} {o:Obj}(hk:Hid(∀W5,Below W0.heap.size W0 W5→He B a jv W0 W5)):He B a jv W0(W0.alloc o).drew:=hk.out _((Below.refl _ _).alloc(Nat.le_refl _)_).drew
theorem He.RG {B:Nat} {a:Int} {jv:Value} {W0 W:World} {v0 v1 v2 v3 v4:Value}(hk:Hid(∀W5,Below W0.heap.size W0 W5→He B a jv W0 W5))(h:Below W0.heap.size W0 W):He B a jv W0(((((W.setCell⟨W0.heap.size,0,none⟩v0).setCell⟨W0.heap.size,1,none⟩v1).setCell⟨W0.heap.size,2,none⟩v2).setCell⟨W0.heap.size,3,none⟩v3).setCell⟨W0.heap.size,4,none⟩v4):=hk.out _(tO h(Nat.le_refl _)_ _ _ _ _)
structure EC(s:bi)(now:Int):Prop where
 addr:bg s.addr
 a0:s.addr≠0
 jb:∀x∈s.aY,0≤x∧x≤255
 jl:s.aY.length≤50000
 few:Yh(Go.Proofs.YtakaadcpaeiccabGreat.jl s.aY)
 now:0≤now∧now≤4611686018427387904
theorem KI:∀(f:Nat)(xs:List Int),(IM f xs).length≤f
 |0,_=>Nat.le_refl _
 |f+1,xs=>by
  unfold IM;split
  ·have:=KI f(xs.drop 13);simp only [List.length_cons];omega
  ·simp
theorem ZX(xs:List Int):(jl xs).length≤xs.length:=KI _ _
theorem qM {xs:List Int}(h:∀x∈xs,0≤x∧x≤255)(i:Nat):0≤xs.getD i 0∧xs.getD i 0≤255:=by
 rw [List.getD_eq_getElem?_getD];cases hi:xs[i]? with
 |none=>simp
 |some v=>exact h v(List.mem_of_getElem? hi)
theorem QD:∀(f:Nat)(xs:List Int),(∀x∈xs,0≤x∧x≤255)→pW(IM f xs)
 |0,_,_=>fun _ h=>by cases h
 |f+1,xs,h=>by
  unfold IM;split
  ·intro x hx;rcases List.mem_cons.1 hx with rfl|hx
   ·exact⟨kz(qM h _)(qM h _)(qM h _)(qM h _),kz(qM h _)(qM h _)(qM h _)(qM h _)⟩
   ·exact QD f(xs.drop 13)(fun x hx=>h x(List.mem_of_mem_drop hx))x hx
  ·intro x hx;cases hx
theorem RI {xs:List Int}(h:∀x∈xs,0≤x∧x≤255):pW(jl xs):=QD _ _ h
theorem O8 {x:SG} {s:bi} {W1:World}(h:mf x s W1)(now:Int)(hs:EC s now):∀W5,Below W1.heap.size W1 W5→Calls Tryz.prog 19 #[.int .u32 s.addr,x.jv,.int .u64 now]W5 fun e w'=>∃N g af kf ac kc ad kd,e=.returned(.tuple #[.pointer(some⟨N,0,none⟩),.agg #[.string(St.new s.addr s.aY now).aY,.bool(St.new s.addr s.aY now).aZ,.slice af(St.new s.addr s.aY now).aH.length kf,.slice ac(St.new s.addr s.aY now).aR.length kc,.slice ad(St.new s.addr s.aY now).aN.length kd],.int .i64 0])∧Below W1.heap.size W1 w'∧(∀j r f c d,pG W1.heap.size j r f c d W5→pG W1.heap.size j r f c d w')∧Am(St.new s.addr s.aY now)W1.heap.size N g(.slice af(St.new s.addr s.aY now).aH.length kf)(.slice ac(St.new s.addr s.aY now).aR.length kc)(.slice ad(St.new s.addr s.aY now).aN.length kd)w':=by
 intro W5 hb;refine(Pp s.addr now hs.addr hs.a0 x.jv s.aY W5(qz(h.later hb).row hs.jb)(by have:=hs.jl;omega)(RI hs.jb)hs.few(by have:=ZX s.aY;have:=hs.jl;omega)hs.now).mono ?_;rintro e w'⟨N,g,aI,bH,bI,rfl,nn,r1,r2,r3,hb',hge⟩;have:=hb.size;obtain⟨af,kf,rfl,_⟩:=ak r1;obtain⟨ac,kc,rfl,_⟩:=ak r2;obtain⟨ad,kd,rfl,_⟩:=ak r3;exact⟨N,g,af,kf,ac,kc,ad,kd,rfl,hb.trans(hb'.mono hb.size),fun j r f c d ho=>(hb'.block _(aD(show W5.heap[W1.heap.size]?=_ from ho))).trans ho,nn,(⟨r1,r2,r3⟩:h_ _ _ _ _ _ _ _ w').lower hb.size,fun k hk=>by have:=hge k hk;omega⟩
theorem Mq {x:SG} {s:bi} {w:World}(h:mf x s w)(hnd:s.nd=none)(now:Int)(hs:EC s now):Calls Tryz.prog 37 #[.pointer(some⟨x.B,0,none⟩),.int .u64 now]w fun e w'=>∃aI bH bI,e=.returned(iE(St.new s.addr s.aY now).aY(St.new s.addr s.aY now).aZ aI bH bI)∧mG x s {s with nd:=some(St.new s.addr s.aY now)}w w'∧h_ w.heap.size(St.new s.addr s.aY now).aH(St.new s.addr s.aY now).aR(St.new s.addr s.aY now).aN aI bH bI w':=by
 have hb0:Below w.heap.size w(w.alloc(.cells #[.string⟨#[]⟩,.bool false,.slice none 0 0,.slice none 0 0,.slice none 0 0]52)):=(Below.refl _ _).alloc(Nat.le_refl _)_;have hC:=heap_alloc_new w(.cells #[.string⟨#[]⟩,.bool false,.slice none 0 0,.slice none 0 0,.slice none 0 0]52);have h1:=h.later hb0;have hQz:(St.new s.addr s.aY now).Q=[]:=by rw [St.tC,(aO _).Q];rfl
 have HN0:=hide(fun W1(h1:mf x s W1)=>O8 h1 now hs);obtain⟨z,hz⟩:∃z,St.new s.addr s.aY now=z:=⟨_,rfl⟩;rw [hz]at hQz HN0 ⊢;clear hz;replace hQz:=hide hQz;go_enter Tryz.func37,Tryz.ntmps37
 go_upto_region 1 with(fail)
 generalize World.alloc _ _=W1 at hb0 hC h1 ⊢;have HN:=hide(HN0.out W1 h1);clear HN0;have hkB:=(show Hid _ from fun W5(h5:Below W1.heap.size W1 W5)=>He.of h1 h5);have hS:He x.B s.addr x.jv W1 W1.drew:=hkB.out _(Below.refl _ _).drew;have hwC:w.heap.size<W1.heap.size:=aD hC;go_cut [5,6]from 9 to 21(UM z W1)
 case first=>
  clear hs hnd h h1 hb0 hC;go_region_held3(He x.B s.addr x.jv W1)(first|with_reducible exact hS|with_reducible assumption|(with_reducible apply He.RG hkB;assumption)|(with_reducible apply He.jO hkB;assumption)|(with_reducible apply He.d_ hkB)|(with_reducible apply hkB.out;assumption))((go_at_call 19;refine(HN.out _(And.right(by assumption))).mono ?_;rintro e w2⟨N,g,af,kf,ac,kc,ad,kd,rfl,hb2,hpr,hnr⟩;try((with_reducible have hD:=hpr _ _ _ _ _(KQ W1));have hD':Hid(pG W1.heap.size⟨#[]⟩false(.slice none 0 0)(.slice none 0 0)(.slice none 0 0)w2):=hD;obtain⟨d0,d1,d2,d3,d4,dq⟩:=hD'.out.cell;have q0:=dq 0;have q1:=dq 1;have q2:=dq 2;have q3:=dq 3;have q4:=dq 4;clear hD dq);clear hpr))
  all_goals
   go_wp2_with fail
   go_meet
   first|with_reducible exact JJ hb2 hnr|with_reducible exact TY hb2 hnr hD'
 case rest=>
  obtain⟨N,g,aI,bH,bI,D,rfl,rfl,hD,hnr,hDl,hb2⟩:=hcut;have hm2:=h1.later hb2;have Oz:=(hb2.block _ hwC).trans hC;have f2:=hm2.cell.2.2.2.2.2.2 2;have c2:=hm2.cell.2.2.1;have hg:wc.grownBy(wc.setCell⟨x.B,2,none⟩(.pointer(some⟨N,0,none⟩)))(some x.B):=aa(aC _(some x.B))2 _;have hBl:=aD hm2.blk;have hBw:=aD h.blk;have AQ:w.heap.size≠x.B:=by omega
  have hDB:D≠x.B:=by have:=aD h1.blk;omega
  have hD3:pG D z.aY z.aZ aI bH bI(wc.setCell⟨x.B,2,none⟩(.pointer(some⟨N,0,none⟩))):=(hg.block D(aD hD)fun e=>hDB(Option.some.inj e)).trans hD;have jZ:pG w.heap.size⟨#[]⟩false(.slice none 0 0)(.slice none 0 0)(.slice none 0 0)(wc.setCell⟨x.B,2,none⟩(.pointer(some⟨N,0,none⟩))):=(hg.block w.heap.size(aD Oz)fun e=>AQ(Option.some.inj e)).trans Oz;have Od:Am z W1.heap.size N g aI bH bI(wc.setCell⟨x.B,2,none⟩(.pointer(some⟨N,0,none⟩))):=
   ⟨hnr.nn.kept fun k hk=>hg.block k(hnr.nn.lt hk)(fun e=>by cases e;have:=hnr.ge _ hk;have:=aD h1.blk;omega),hnr.out.at fun k c t ht hk=>hg.block k(aD hk)(fun e=>by
    cases e;rw [hm2.blk]at hk;cases hk;exact absurd ht(by decide)),hnr.ge⟩
  have Xa:=ym(j:=2)(v:=.pointer(some⟨N,0,none⟩))hm2.blk;have hrow3:=hm2.row.kept hg(.inr(aA hm2.row hm2.blk(fun c e=>(by cases e))));have hf3:Fx(kJ x s)w(wc.setCell⟨x.B,2,none⟩(.pointer(some⟨N,0,none⟩))):=aT(Fx.below(hb0.trans(hb2.mono hb0.size)))hg fun i _ e=>by cases e;exact .inl rfl
  have hz3:=hb2.size;clear hnr hD Oz hm2 hg h1 hs hC hkB hS HN;go_upto_region 3 with(fail)
  generalize World.setCell _ _ _=W3 at hD3 jZ Od Xa hrow3 hf3 ⊢;obtain⟨d0,d1,d2,d3,d4,_⟩:=hD3.cell;obtain⟨z0,z1,z2,z3,z4,zf⟩:=jZ.cell;have y0:=zf 0;have y1:=zf 1;have y2:=zf 2;have y3:=zf 3;have y4:=zf 4;obtain⟨af,kf,rfl,_⟩:=ak Od.out.aI;obtain⟨ac,kc,rfl,_⟩:=ak Od.out.bH;obtain⟨ad,kd,rfl,_⟩:=ak Od.out.bI;have gB:=tJ W3 w.heap.size(.string z.aY)(.bool z.aZ)(.slice af z.aH.length kf)(.slice ac z.aR.length kc)(.slice ad z.aN.length kd);have nX:=jZ.M4(j':=z.aY)(ZA:=z.aZ)(aa3:=.slice af z.aH.length kf)(abk:=.slice ac z.aR.length kc)(aba:=.slice ad z.aN.length kd);have hfin:mG x s {s with nd:=some z}w(((((W3.setCell⟨w.heap.size,0,none⟩(.string z.aY)).setCell⟨w.heap.size,1,none⟩(.bool z.aZ)).setCell⟨w.heap.size,2,none⟩(.slice af z.aH.length kf)).setCell⟨w.heap.size,3,none⟩(.slice ac z.aR.length kc)).setCell⟨w.heap.size,4,none⟩(.slice ad z.aN.length kd))∧h_ w.heap.size z.aH z.aR z.aN(.slice af z.aH.length kf)(.slice ac z.aR.length kc)(.slice ad z.aN.length kd)(((((W3.setCell⟨w.heap.size,0,none⟩(.string z.aY)).setCell⟨w.heap.size,1,none⟩(.bool z.aZ)).setCell⟨w.heap.size,2,none⟩(.slice af z.aH.length kf)).setCell⟨w.heap.size,3,none⟩(.slice ac z.aR.length kc)).setCell⟨w.heap.size,4,none⟩(.slice ad z.aN.length kd)):=by
   have WW:=Od.set jZ gB;have hsz:=gB.size;have afL:=aD jZ;refine⟨⟨{x with N:=N,g:=g,TL:=[]},rfl,⟨?_,h.hl,?_,fun u hu=> ?_⟩,aT hf3 gB fun i hi e=>by cases e;omega,fun k hk=> ?_⟩,WW.out.lower(by omega)⟩
   ·exact(gB.block x.B(aD Xa)fun e=>AQ(Option.some.inj e).symm).trans Xa
   ·exact hrow3.kept gB(.inr(aA hrow3 jZ(fun c e=>(by cases e))))
   ·cases hu;refine⟨WW.nn,?_⟩;unfold dM;rw [hQz.out];exact List.Perm.refl _
   ·rcases hk with hk|hk|⟨u,hu,hk⟩
    ·exact .inl(.inl hk)
    ·exact .inl(.inr(.inl hk))
    ·cases hu;have h2:=WW.ge k hk;have h3:=WW.nn.lt hk;exact .inr⟨by omega,h3⟩
  clear gB Od jZ hD3 hrow3 Xa hf3 zf;go_wp2_with fail
  generalize World.setCell _ _ _=W7 at nX hfin ⊢;obtain⟨p0,p1,p2,p3,p4,_⟩:=nX.cell;exact bodyPost_ret(v:=.agg #[.string z.aY,.bool z.aZ,.slice af z.aH.length kf,.slice ac z.aR.length kc,.slice ad z.aN.length kd])(by simp [results,Tryz.results37,go_sem,p0,p1,p2,p3,p4])rfl⟨_,_,_,rfl,hfin.1,hfin.2⟩
end Go.Proofs.YtakaadcpaeiccabGreat
namespace Go.Proofs.YtakaadcpaeiccabGreat.DF
theorem kv {base e g m cap size:Nat}:∀(vs:List Value)(o:Nat)(xs:List Value)(W:World),W.ownsRow base e size(.slice(some⟨g,0,none⟩)m cap)m xs→o+vs.length≤m * size→
  (W.setCells g o vs).ownsRow base e size(.slice(some⟨g,0,none⟩)m cap)m(xs.take o++vs++xs.drop(o+vs.length))∧W.grownBy(W.setCells g o vs)(some g)
 | [],o,xs,W,h,_=>by
  simp only [World.setCells,List.append_nil,List.length_nil,Nat.add_zero,List.take_append_drop];exact⟨h,aC _ _⟩
 |v::r,o,xs,W,h,hl=>by
  simp only [List.length_cons]at hl;have hx:xs.length=m * size:=h.1;obtain⟨h1,g1⟩:=h.stored o v;obtain⟨h2,g2⟩:=kv r(o+1)(xs.set o v)(W.setCell⟨g,o,none⟩v)h1(by omega);refine⟨?_,⟨g2.os.trans g1.os,g2.tape.trans g1.tape,g2.output.trans g1.output,Nat.le_trans g1.size g2.size,fun k hk hn=>(g2.block k(Nat.lt_of_lt_of_le hk g1.size)hn).trans(g1.block k hk hn)⟩⟩;have e1:(xs.set o v).take(o+1)=xs.take o++ [v]:=by
   rw [List.bJ(by simp;omega),List.take_set_of_le(Nat.le_refl o)];simp
  have e2:(xs.set o v).drop(o+1+r.length)=xs.drop(o+(r.length+1)):=by
   rw [List.qQ(by omega),show o+1+r.length=o+(r.length+1)by omega]
  rw [e1,e2]at h2;show((W.setCell⟨g,o,none⟩v).setCells g(o+1)r).ownsRow _ _ _ _ _ _;simpa using h2
theorem vO {base e g n m cap size:Nat} {W:World} {xs:List Value}(h:W.ownsRow base e size(.slice(some⟨g,0,none⟩)n cap)n xs)(hm:m≤n):
  W.ownsRow base e size(.slice(some⟨g,0,none⟩)m cap)m(xs.take(m * size)):=by
 rcases h.2 with⟨he,_⟩|⟨g',cap',cur,he,hb,hg,h1,h2,h3,h4⟩
 ·cases he
 ·cases he;have hx:=h.1;have hms:m * size≤n * size:=Nat.mul_le_mul_right _ hm;refine⟨by rw [List.length_take,hx];omega,.inr⟨g,cap,cur,rfl,hb,hg,by omega,h2,h3,?_⟩⟩;rw [←h4,List.take_take,Nat.min_eq_left hms]
theorem CL(a:Option Addr)(n c k:Nat)(hk:k≤c)(W:World):(Instr.slice 45(.slice a n c)none(some(.int .i64 k))none).run Tryz.prog W=.ok(.slice a k c)W:=by
 have ht:Tryz.prog.underlying 45=some(.slice(Tryz.prog.elem 45)):=by simp [Program.elem,Tryz.underlying45]
 have hz:∀w,(Go.sizeOf(Tryz.prog.elem 45)).run Tryz.prog w=.ok 3 w:=by
  intro w;simp [go_sem,Program.elem,Tryz.underlying45]
 rw [run_slice_h W 45 _ _ _ ht .i64 _(by omega)(by omega),hz];simp only [Result.andThen,sliced];rw [Nat.sub_zero,Nat.sub_zero,Int.toNat_natCast];cases a<;>(split<;>simp [Addr.add])
theorem CK(g n c k:Nat)(hk:k≤n):∃ad:Addr,(∀W,(Instr.slice 45(.slice(some⟨g,0,none⟩)n c)(some(.int .i64 k))none none).run Tryz.prog W=.ok(.slice(some ad)(n - k)(c - k))W)∧(k<c→ad=⟨g,k * 3,none⟩):=by
 have ht:Tryz.prog.underlying 45=some(.slice(Tryz.prog.elem 45)):=by simp [Program.elem,Tryz.underlying45]
 have hz:∀w,(Go.sizeOf(Tryz.prog.elem 45)).run Tryz.prog w=.ok 3 w:=by
  intro w;simp [go_sem,Program.elem,Tryz.underlying45]
 refine⟨if c=k then⟨g,0,none⟩else⟨g,k * 3,none⟩,fun W=> ?_,fun h=>by rw [if_neg(by omega)]⟩;rw [run_slice_l W 45 _ _ _ ht .i64 _(by omega)(by omega),hz];simp only [Result.andThen,sliced];rw [Int.toNat_natCast];split<;>simp [Addr.add_lit]
theorem yH(g n c k m:Nat)(hk:k<m)(hm:m≤c)(W:World):(Instr.slice 45(.slice(some⟨g,0,none⟩)n c)(some(.int .i64 k))(some(.int .i64 m))none).run Tryz.prog W=.ok(.slice(some⟨g,k * 3,none⟩)(m - k)(c - k))W:=by
 have ht:Tryz.prog.underlying 45=some(.slice(Tryz.prog.elem 45)):=by simp [Program.elem,Tryz.underlying45]
 have hz:∀w,(Go.sizeOf(Tryz.prog.elem 45)).run Tryz.prog w=.ok 3 w:=by
  intro w;simp [go_sem,Program.elem,Tryz.underlying45]
 rw [run_slice_lh W 45 _ _ _ ht .i64 .i64 _ _(by omega)(by omega)(by omega),hz];simp only [Result.andThen,sliced];rw [Int.toNat_natCast,Int.toNat_natCast,if_neg(by omega)];simp [Addr.add_lit]
theorem vJ(a:Option Addr)(n c k m l:Nat)(hk:k≤m)(hm:m≤l)(hl:l≤c):∃v,∀W,(Instr.slice 45(.slice a n c)(some(.int .i64 k))(some(.int .i64 m))(some(.int .i64 l))).run Tryz.prog W=.ok v W:=by
 have ht:Tryz.prog.underlying 45=some(.slice(Tryz.prog.elem 45)):=by simp [Program.elem,Tryz.underlying45]
 have hz:∀w,(Go.sizeOf(Tryz.prog.elem 45)).run Tryz.prog w=.ok 3 w:=by
  intro w;simp [go_sem,Program.elem,Tryz.underlying45]
 refine⟨sliced a k m l 3,fun W=> ?_⟩;rw [run_slice_lhm W 45 _ _ _ ht .i64 .i64 .i64 _ _ _(by omega)(by omega)(by omega)(by omega),hz];simp only [Result.andThen,Int.toNat_natCast]
theorem sU(w:World)(ty:TypeId)(b o c:Nat)(hc:∀j,j<3→(w.cell?⟨b,o+j,none⟩).isSome=true)(hf:∀j,j<3→w.frozen?⟨b,o+j,none⟩=false):
  (Builtin.clear_ #[45]ty #[.slice(some⟨b,o,none⟩)1 c]).run Tryz.prog w=.ok(.tuple #[])(w.setCells b o([.int .i64 0,.int .i64 0,.string⟨#[]⟩]:List Value)):=by
 have hzc:(Builtin.zeroCells(.agg #[.int .i64 0,.int .i64 0,.string⟨#[]⟩]:Value).cells 1).toList=([.int .i64 0,.int .i64 0,.string⟨#[]⟩]:List Value):=by kernel_rfl
 have hst:=run_storeCells_cells(P:=Tryz.prog)b o([.int .i64 0,.int .i64 0,.string⟨#[]⟩]:List Value)0 w(by simpa using hc)(by simpa using hf)(by intro v hv;simp at hv;rcases hv with rfl|rfl<;>rfl);simp only [Nat.add_zero]at hst;simp [Builtin.clear_,run_underlying Tryz.underlying45,abN,hzc,hst]
theorem Jh:(Tryz.prog.info? 149).map(fun i=>(i.zero,i.size,i.bytes))=some(some(.agg #[.int .i64 0,.int .i64 0,.string⟨#[]⟩]),3,32):=by kernel_rfl
theorem tX(base g n cap i:Nat)(xs:List Value)(w:World)(h:w.ownsRow base 149 3(.slice(some⟨g,0,none⟩)n cap)n xs)(hi:i<n)(hn:n≤1000000)(h1c:∀u∈xs,u.oneCell'=true):
  Calls Tryz.prog 99 #[.slice(some⟨g,0,none⟩)n cap,.int .i64 i,.int .i64((i:Int)+1)]w fun e w'=>e=.returned(.slice(some⟨g,0,none⟩)(n - 1)cap)∧w'.ownsRow base 149 3(.slice(some⟨g,0,none⟩)(n - 1)cap)(n - 1)(xs.take(i * 3)++xs.drop((i+1)* 3))∧w.grownBy w'(some g):=by
 obtain⟨i0,hii,hz0,hz1,hz2⟩:=info_parts Jh;have hcap:n≤cap:=by
  rcases h.2 with⟨he,_⟩|⟨g',cap',cur,he,hb,hg,h1,h2,h3,h4⟩
  ·cases he
  ·cases he;exact h1
 have hx:=h.1;obtain⟨v13,aaf⟩:=vJ(some⟨g,0,none⟩)n cap i(i+1)n(by omega)(by omega)hcap;have aeo:=CL(some⟨g,0,none⟩)n cap i(by omega);obtain⟨ad,aae,had⟩:=CK g n cap(i+1)(by omega);have hd:w.drew.ownsRow base 149 3(.slice(some⟨g,0,none⟩)n cap)n xs:=h;have hnl:(xs.drop((i+1)* 3)).length=(n - (i+1))* 3:=by
  rw [List.length_drop,hx,Nat.sub_mul]
 have hcell:∀ {W:World} {ys:List Value},W.ownsRow base 149 3(.slice(some⟨g,0,none⟩)n cap)n ys→∀j,j<n * 3→(W.cell?⟨g,j,none⟩).isSome=true:=fun hW j hj=>by
  rw [hW.cellAt j hj,List.getElem?_eq_getElem(by rw [hW.1];exact hj)];rfl
 have hjl:∀j,j<(n - (i+1))* 3→(i+1)* 3+j<n * 3∧i * 3+j<n * 3:=fun j hj=>by
  rw [Nat.sub_mul]at hj;have:(i+1)* 3≤n * 3:=Nat.mul_le_mul_right _(by omega);rw [Nat.add_mul]at hj this ⊢;try omega
 have hcA:Hid(∀j u,(xs.drop((i+1)* 3))[j]?=some u→w.drew.cell?(ad.add j)=some u):=fun j u hj=>by
  have hl:=(List.getElem?_eq_some_iff.1 hj).1;rw [hnl]at hl;rw [had(by omega),Addr.add_lit];rw [List.getElem?_drop]at hj;exact(hd.cellAt _(hjl j hl).1).trans hj
 have aac:Hid(∀j,j<(xs.drop((i+1)* 3)).length→(w.drew.cell?⟨g,0+i * 3+j,none⟩).isSome=true∧w.drew.frozen?⟨g,0+i * 3+j,none⟩=false):=fun j hj=>by
  rw [hnl]at hj;rw [Nat.zero_add];exact⟨hcell hd _(hjl j hj).2,hd.frozenAt _⟩
 have hE1:Hid(i+(n - (i+1))=n - 1):=by show _=_;omega
 have hE2:Hid(0+i * 3=i * 3):=Nat.zero_add _;have aao:=(show Hid _ from hnl);have aaW:Hid(∀u∈xs.drop((i+1)* 3),u.oneCell'=true):=fun u hu=>h1c u(List.mem_of_mem_drop hu);obtain⟨h1,g1⟩:=kv(xs.drop((i+1)* 3))(i * 3)xs _ hd(by
  rw [hnl,←Nat.add_mul];exact Nat.mul_le_mul_right _(by omega))
 have R_:=yH g(n - 1)cap(n - 1)n(by omega)hcap;rw [show n - (n - 1)=1 by omega]at R_;have hlast:(n - 1)* 3+3=n * 3:=by
  rw [←Nat.succ_mul,show(n - 1).succ=n by omega]
 have hcl:∀ty,(Builtin.clear_ #[45]ty #[.slice(some⟨g,(n - 1)* 3,none⟩)1(cap - (n - 1))]).run Tryz.prog(w.drew.setCells g(i * 3)(xs.drop((i+1)* 3)))=.ok(.tuple #[])((w.drew.setCells g(i * 3)(xs.drop((i+1)* 3))).setCells g((n - 1)* 3)([.int .i64 0,.int .i64 0,.string⟨#[]⟩]:List Value)):=fun ty=>
  sU _ ty g _ _(fun j hj=>hcell h1 _(by omega))(fun j hj=>h1.frozenAt _)
 obtain⟨h2,g2⟩:=kv([.int .i64 0,.int .i64 0,.string⟨#[]⟩]:List Value)((n - 1)* 3)_ _ h1(by simp only [List.length_cons,List.length_nil];omega);have h3:=vO h2(m:=n - 1)(by omega);have hgg:w.grownBy((w.drew.setCells g(i * 3)(xs.drop((i+1)* 3))).setCells g((n - 1)* 3)([.int .i64 0,.int .i64 0,.string⟨#[]⟩]:List Value))(some g):=⟨g2.os.trans g1.os,g2.tape.trans g1.tape,g2.output.trans g1.output,Nat.le_trans g1.size g2.size,fun k hk hn=>(g2.block k(Nat.lt_of_lt_of_le hk g1.size)hn).trans(g1.block k hk hn)⟩;have jo:((xs.take(i * 3)++xs.drop((i+1)* 3)++xs.drop(i * 3+(xs.drop((i+1)* 3)).length)).take((n - 1)* 3)++([.int .i64 0,.int .i64 0,.string⟨#[]⟩]:List Value)++(xs.take(i * 3)++xs.drop((i+1)* 3)++xs.drop(i * 3+(xs.drop((i+1)* 3)).length)).drop((n - 1)* 3+([.int .i64 0,.int .i64 0,.string⟨#[]⟩]:List Value).length)).take((n - 1)* 3)=xs.take(i * 3)++xs.drop((i+1)* 3):=by
  have hl:(xs.take(i * 3)++xs.drop((i+1)* 3)).length=(n - 1)* 3:=by
   have:i * 3≤n * 3:=Nat.mul_le_mul_right _(by omega);rw [List.length_append,hnl,List.length_take,hx,Nat.min_eq_left this,←Nat.add_mul]
   congr 1
   all_goals omega
  rw [List.take_left' hl,List.append_assoc,List.take_left' hl]
 rw [jo]at h3;clear h1 g1 h2 g2 hcell hd h hnl hlast hx had h1c hjl;have hfin:=(show Hid _ from And.intro h3 hgg);clear h3 hgg jo;have hne:((i:Int)==(i:Int)+1)=false:=by
  have:¬((i:Int)=(i:Int)+1):=by omega
  simpa using this
 rw [show((i+1:Nat):Int)=(i:Int)+1 from rfl]at aaf aae;try simp only [Nat.mul_one]at hcl R_ hfin
 go_enter Tryz.func99,Tryz.ntmps99
 go_wp2_with fail
 go_region_law(refine step_append_room rfl(.tmp 22)(.tmp 25)45 rfl 149 i0 3 Tryz.underlying45 hii hz1 g 0 i cap rfl ad(n - (i+1))(cap - (i+1))(xs.drop((i+1)* 3))rfl aao.out hcA.out aaW.out(by omega)aac.out ?_;rw [hE1.out,hE2.out])
 all_goals
  generalize(w.drew.setCells g(i * 3)(xs.drop((i+1)* 3)))=X at hcl hfin ⊢;go_wp2
  go_returns
  exact⟨rfl,hfin.out⟩
end Go.Proofs.YtakaadcpaeiccabGreat.DF
