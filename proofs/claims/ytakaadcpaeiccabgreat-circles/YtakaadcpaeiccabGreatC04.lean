import Derived.Test.YtakaadcpaeiccabGreatC03
import Derived.Lib.Bytes
set_option maxHeartbeats 2000000
set_option maxRecDepth 100000
namespace Go.Proofs.YtakaadcpaeiccabGreat
open Go.RowKit
@[reducible] def Fe (o : Bool) (a s : Int) : Value := .agg #[.bool o, .int .u32 a, .int .u32 s]
@[reducible] def aV (o : Bool) (a s : Int) : Obj := .cells #[.bool o, .int .u32 a, .int .u32 s] 82
def tq(o:Bool)(a s:Int):List Int:=(if o then 1 else 2)::(b4(if o then 0 else a)++b4 s)
def yS(o:Bool)(a s:Int):List Int:=tq o a s++b4(crc(tq o a s))
theorem wR(o:Bool)(a s:Int):(tq o a s).length=9:=rfl
theorem IL {o:Bool} {a s:Int}(a0:0≤a)(a1:a<4294967296)(s0:0≤s)(s1:s<4294967296):∀x∈tq o a s,0≤x∧x≤255:=by
 intro x hx;simp only [tq,List.mem_cons,List.mem_append]at hx;rcases hx with rfl|hx|hx
 ·cases o<;>simp
 ·cases o
  ·exact XZ a0 a1 x hx
  ·exact XZ(by simp)(by simp)x hx
 ·exact XZ s0 s1 x hx
theorem Qz {o:Bool} {a s:Int}(a0:0≤a)(a1:a<4294967296)(s0:0≤s)(s1:s<4294967296):∀x∈yS o a s,0≤x∧x≤255:=by
 have hh:=IL(o:=o)a0 a1 s0 s1;intro x hx;rcases List.mem_append.1 hx with hx|hx
 ·exact hh x hx
 ·have:=TH hh;exact XZ this.1 this.2 x hx
@[reducible] def Ak (a s : Int) (w W : World) : Prop :=
 W.cell?⟨w.heap.size,1,none⟩=some(.int .u32 a)∧W.cell?⟨w.heap.size,2,none⟩=some(.int .u32 s)∧w.heap.size<W.heap.size∧Below w.heap.size w W
theorem Ak.start(o:Bool)(a s:Int)(w:World):Ak a s w(w.alloc(aV o a s)):=
 ⟨World.cell?_alloc_new w _ _ _,World.cell?_alloc_new w _ _ _,by simp,(Below.refl _ _).alloc(Nat.le_refl _)_⟩
theorem Ak.drew {a s:Int} {w W:World}(h:Ak a s w W):Ak a s w W.drew:=⟨h.1,h.2.1,h.2.2.1,h.2.2.2.drew⟩
theorem Ak.alloc {a s:Int} {w W:World}(h:Ak a s w W)(o:Obj):Ak a s w(W.alloc o):=by
 have hb:Below W.heap.size W(W.alloc o):=(Below.refl _ _).alloc(Nat.le_refl _)_;exact⟨(hb.cell(p:=⟨w.heap.size,1,none⟩)h.2.2.1).trans h.1,(hb.cell(p:=⟨w.heap.size,2,none⟩)h.2.2.1).trans h.2.1,by simp;have:=h.2.2.1;omega,h.2.2.2.alloc(Nat.le_of_lt h.2.2.1)_⟩
theorem Ak.grown {a s:Int} {w W W1:World} {v:Value} {n:Nat} {xs:List Value}(h:Ak a s w W)(ho:W.ownsRow(w.heap.size+1)5 1 v n xs)(hg:W.grownBy W1 v.ownBlock):Ak a s w W1:=by
 have hne:some w.heap.size≠v.ownBlock:=fun e=>by have:=(ho.lt _ e.symm).1;omega
 have hb:Below(w.heap.size+1)W W1:=(Below.refl _ _).grown hg h.2.2.1 fun k hk=>(ho.lt k hk).1;exact⟨hg.cell h.1 hne,hg.cell h.2.1 hne,Nat.lt_of_lt_of_le h.2.2.1 hg.size,h.2.2.2.trans(hb.mono(Nat.le_succ _))⟩
theorem KP(base:Nat)(w:World)(x0:Int)(hb:base≤w.heap.size):
  (w.alloc(.cells #[.int .u8 x0]5)).ownsRow base 5 1(.slice(some⟨w.heap.size,0,none⟩)1 1) [x0].length(U [x0]):=
 ⟨rfl,.inr⟨w.heap.size,1,_,rfl,hb,heap_alloc_new w _,Nat.le_refl _,by decide,rfl,rfl⟩⟩
theorem pV(o:Bool)(a s:Int)(a0:0≤a)(a1:a<4294967296)(s0:0≤s)(s1:s<4294967296)(w:World):
  Calls Tryz.prog 23 #[Fe o a s]w fun e w'=>∃v,e=.returned v∧Below w.heap.size w w'∧v≠ .slice none 0 0∧w'.ownsRow(w.heap.size+1)5 1 v 13(U(yS o a s)):=by
 cases o
 ·have hS:=Ak.start false a s w;dsimp only [aV]at hS;have hl1:w.heap.size<(w.alloc(aV false a s)).heap.size:=by simp
  dsimp only [aV]at hl1;go_enter Tryz.func23,Tryz.ntmps23
  go_wp2_with fail
  generalize World.alloc _ _=W0 at hS hl1 ⊢;have xJ:=(KP(w.heap.size+1)W0 2 hl1).drew;go_region_held3(Ak a s w)(first|exact Ak.drew(by assumption)|assumption|exact Ak.alloc(by assumption)_|exact Ak.grown(by assumption)xJ lh|exact Ak.grown(by assumption)hown5 o_)(first
   |(go_at_call_of 57(Value.int IntKind.u32 a);refine(dB(w.heap.size+1)_ a [2]_ a0 a1 xJ(by simp)(by simp;omega)(by simp)).mono ?_;rintro e w5⟨v5,rfl,hown5,lh,A9⟩)
   |(go_at_call_of 57(Value.int IntKind.u32 s);refine(dB(w.heap.size+1)_ s([2]++b4 a)_ s0 s1 hown5 A9(Nat.le_trans(Nat.le_of_lt(by simp;omega))lh.size)(by simp [kH])).mono ?_;rintro e w6⟨v6,rfl,hown6,o_,Gn⟩))
  rename_i Xe;have hb:∀x∈tq false a s,0≤x∧x≤255:=IL a0 a1 s0 s1;have zx:w6.ownsRow(w.heap.size+1)5 1 v6(tq false a s).length(U(tq false a s)):=hown6;have hr:=qz zx hb;have hc:=TH hb;clear hown6 o_ hown5 lh xJ hS hl1 A9;go_wp2_with fail
  refine(Kv _(tq false a s)_ hr).mono ?_;rintro e w7⟨rfl,rfl⟩;go_wp2_with fail
  refine(dB(w.heap.size+1)_ _(tq false a s)_ hc.1 hc.2 zx Gn Xe.2.2.1(by rw [wR];omega)).mono ?_;rintro e w8⟨v8,rfl,Sk,Jk,aam⟩;go_wp2_with fail
  go_ret
  exact⟨v8,rfl,Xe.2.2.2.grown Jk(Nat.le_of_lt Xe.2.2.1)(fun k hk=>Nat.ig(zx.lt k hk).1),aam,Sk⟩
 ·have hS:=Ak.start true 0 s w;dsimp only [aV]at hS;have hl1:w.heap.size<(w.alloc(aV true 0 s)).heap.size:=by simp
  dsimp only [aV]at hl1;go_enter Tryz.func23,Tryz.ntmps23
  go_wp2_with fail
  generalize World.alloc _ _=W0 at hS hl1 ⊢;have xJ:=(KP(w.heap.size+1)W0 1 hl1).drew;go_region_held3(Ak 0 s w)(first|exact Ak.drew(by assumption)|assumption|exact Ak.alloc(by assumption)_|exact Ak.grown(by assumption)xJ lh|exact Ak.grown(by assumption)hown5 o_)(first
   |(go_at_call_of 57(Value.int IntKind.u32 0);refine(dB(w.heap.size+1)_ 0 [1]_(by decide)(by decide)xJ(by simp)(by simp;omega)(by simp)).mono ?_;rintro e w5⟨v5,rfl,hown5,lh,A9⟩)
   |(go_at_call_of 57(Value.int IntKind.u32 s);refine(dB(w.heap.size+1)_ s([1]++b4 0)_ s0 s1 hown5 A9(Nat.le_trans(Nat.le_of_lt(by simp;omega))lh.size)(by simp [kH])).mono ?_;rintro e w6⟨v6,rfl,hown6,o_,Gn⟩))
  rename_i Xe;have hb:∀x∈tq true 0 s,0≤x∧x≤255:=IL(by decide)(by decide)s0 s1;have zx:w6.ownsRow(w.heap.size+1)5 1 v6(tq true 0 s).length(U(tq true 0 s)):=hown6;have hr:=qz zx hb;have hc:=TH hb;clear hown6 o_ hown5 lh xJ hS hl1 A9;go_wp2_with fail
  refine(Kv _(tq true 0 s)_ hr).mono ?_;rintro e w7⟨rfl,rfl⟩;go_wp2_with fail
  refine(dB(w.heap.size+1)_ _(tq true 0 s)_ hc.1 hc.2 zx Gn Xe.2.2.1(by rw [wR];omega)).mono ?_;rintro e w8⟨v8,rfl,Sk,Jk,aam⟩;go_wp2_with fail
  go_ret
  exact⟨v8,rfl,Xe.2.2.2.grown Jk(Nat.le_of_lt Xe.2.2.1)(fun k hk=>Nat.ig(zx.lt k hk).1),aam,Sk⟩
def n4(a b c d:Int):Int:=a * 16777216+b * 65536+c * 256+d
theorem De(x y:Int)(hx:0≤x)(hx1:x<16777216)(hy:0≤y)(hy1:y≤255):bits .or .u32(x * 256)y=x * 256+y:=by
 rw [bits_join .u32 32(by decide)wraps_u32 8(x * 256)y(by omega)(by omega)(by omega)hy(by omega)(by omega)]
theorem bq(R:Nat)(xs:List Int)(W:World)(h:Rd R xs W):
  Calls Tryz.prog 87 #[.pointer(some⟨R,0,none⟩)]W fun e w'=>(∃a b c d ys,xs=a::b::c::d::ys∧e=.returned(.int .u32(n4 a b c d))∧Rd R ys w'∧W.grownBy w'(some R)∧Below R W w')∨(xs.length<4∧e=.panicked broken∧w'=W):=by
 go_enter Tryz.func87,Tryz.ntmps87
 go_wp2_with fail
 refine(uh R 4 xs W h).mono ?_;rintro e w1(⟨hn,⟨v,rfl,hv⟩,hrd,hg,hbl⟩|⟨hn,rfl,rfl⟩)
 ·obtain⟨x0,x1,x2,x3,ys,rfl⟩:∃a b c d ys,xs=a::b::c::d::ys:=by
   match xs,hn with
   |a::b::c::d::ys,_=>exact⟨a,b,c,d,ys,rfl⟩
  obtain⟨p0,q0,b,o,c,hv',c0⟩:=lT hv(j:=0)(x:=x0)rfl;simp only [List.take_succ_cons,List.take_zero,List.length_cons,List.length_nil,Nat.zero_add,Nat.add_zero,Nat.reduceAdd]at hv' c0;subst hv';obtain⟨p1,q1,b1,o1,d1,e1,c1⟩:=lT hv(j:=1)(x:=x1)rfl;obtain⟨p2,q2,b2,o2,d2,e2,c2⟩:=lT hv(j:=2)(x:=x2)rfl;obtain⟨p3,q3,b3,o3,d3,e3,c3⟩:=lT hv(j:=3)(x:=x3)rfl;simp only [Value.slice.injEq,Option.some.injEq,Addr.mk.injEq,and_true]at e1 e2 e3;obtain⟨⟨rfl,rfl⟩,h41,rfl⟩:=e1;clear h41;obtain⟨⟨rfl,rfl⟩,h42,rfl⟩:=e2;clear h42;obtain⟨⟨rfl,rfl⟩,h43,rfl⟩:=e3;clear h43;have aeq:Rd R ys w1:=hrd;clear hv hrd hn h;go_wp2_with fail
  go_loop [3,9](fun n i=>(i=.int .i64 0∧n=.int .u32 0)∨(i=.int .i64 1∧n=.int .u32 x0)∨(i=.int .i64 2∧n=.int .u32(x0 * 256+x1))∨(i=.int .i64 3∧n=.int .u32((x0 * 256+x1)* 256+x2))∨(i=.int .i64 4∧n=.int .u32(((x0 * 256+x1)* 256+x2)* 256+x3)))(fun _ i=>4 - (intOf i).toNat)
  case atStart=>exact .inl⟨rfl,rfl⟩
  case round=>
   have k0:Hid(bits .or .u32 0 x0=x0):=by
    have:=De 0 x0(by omega)(by omega)p0 q0;show bits .or .u32 0 x0=x0;simpa using this
   have k1:Hid _:=De x0 x1 p0(by omega)p1 q1;have k2:Hid _:=De(x0 * 256+x1)x2(by omega)(by omega)p2 q2;have k3:Hid _:=De((x0 * 256+x1)* 256+x2)x3(by omega)(by omega)p3 q3;rcases hrel with⟨rfl,rfl⟩|⟨rfl,rfl⟩|⟨rfl,rfl⟩|⟨rfl,rfl⟩|⟨rfl,rfl⟩
   ·clear c1 c2 c3;go_wp2
    go_round
    case rel=>exact .inr(.inl⟨rfl,by rw [k0.out]⟩)
    case measure=>simp [intOf]
   ·clear c0 c2 c3;go_wp2
    go_round
    case rel=>exact .inr(.inr(.inl⟨rfl,by rw [k1.out]⟩))
    case measure=>simp [intOf]
   ·clear c0 c1 c3;go_wp2
    go_round
    case rel=>exact .inr(.inr(.inr(.inl⟨rfl,by rw [k2.out]⟩)))
    case measure=>simp [intOf]
   ·clear c0 c1 c2;go_wp2
    go_round
    case rel=>exact .inr(.inr(.inr(.inr⟨rfl,by rw [k3.out]⟩)))
    case measure=>simp [intOf]
   ·go_wp2
    go_ret
    refine .inl⟨x0,x1,x2,x3,ys,⟨rfl,rfl,rfl,rfl,rfl⟩,uw ?_,aeq,hg,hbl⟩;unfold n4;omega
 ·exact⟨rfl,.inr⟨by omega,rfl,rfl⟩⟩
theorem sJ {xs:List Int}(h:∀x∈xs,0≤x∧x≤255):aF(strOfNums xs)=xs:=by
 unfold aF;rw [strOfNums_data,List.map_map];conv=>rhs;rw [←List.map_id xs]
 refine List.map_congr_left fun x hx=> ?_;have:=h x hx;simp only [Function.pE,id,UInt8.toNat_ofNat'];omega
theorem abO {xs ys:List Int}(hx:∀x∈xs,0≤x∧x≤255)(hy:∀x∈ys,0≤x∧x≤255):((strOfNums xs).toList==(strOfNums ys).toList)=decide(xs=ys):=by
 rw [Bool.eq_iff_iff];simp only [beq_iff_eq,decide_eq_true_eq];constructor
 ·intro h;rw [←sJ hx,←sJ hy];unfold aF;have:(strOfNums xs).data.toList=(strOfNums ys).data.toList:=by
   rw [Lib.strOfNums_toList,Lib.strOfNums_toList]at h;exact h
  rw [this]
 ·rintro rfl;rfl
theorem Py(v u:Value)(xs ys:List Int)(w:World)(hv:eH w v xs)(hu:eH w u ys):
  Calls Tryz.prog 101 #[v,u]w fun e w'=>e=.returned(.bool(decide(xs=ys)))∧w'=w:=by
 have h1:=ol hv;have h2:=ol hu;have hx:=hv.1;have hy:=hu.1;clear hv hu;go_enter Tryz.func101,Tryz.ntmps101
 go_wp2
 go_ret
 exact⟨kT(abO hx hy),rfl⟩
def qd(B:Nat)(o:Bool)(a s:Int)(W:World):Prop:=W.heap[B]?=some(aV o a s)
theorem qd.cell {B:Nat} {o:Bool} {a s:Int} {W:World}(h:qd B o a s W):
  W.cell?⟨B,0,none⟩=some(.bool o)∧W.cell?⟨B,1,none⟩=some(.int .u32 a)∧W.cell?⟨B,2,none⟩=some(.int .u32 s):=
 ⟨cell_of_row W B 0 _ _ _ h,cell_of_row W B 1 _ _ _ h,cell_of_row W B 2 _ _ _ h⟩
theorem qd.free {B:Nat} {o:Bool} {a s:Int} {W:World}(h:qd B o a s W)(i:Nat):W.frozen?⟨B,i,none⟩=false:=by
 unfold qd at h;simp [World.frozen?,h]
theorem qd.lt {B:Nat} {o:Bool} {a s:Int} {W:World}(h:qd B o a s W):B<W.heap.size:=(Array.getElem?_eq_some_iff.1 h).1
theorem qd.below {B N:Nat} {o:Bool} {a s:Int} {W W':World}(h:qd B o a s W)(hb:Below N W W')(hN:B<N):qd B o a s W':=(hb.block _ hN).trans h
theorem qd.later {B:Nat} {o:Bool} {a s:Int} {W W':World}(h:qd B o a s W)(hb:Below W.heap.size W W'):qd B o a s W':=h.below hb h.lt
theorem qd.new(o:Bool)(a s:Int)(W:World):qd W.heap.size o a s(W.alloc(aV o a s)):=heap_alloc_new W _
@[reducible] def CF (W : World) (B : Nat) (o : Bool) (a s : Int) : World := ((W.setCell ⟨B, 0, none⟩ (.bool o)).setCell ⟨B, 1, none⟩ (.int .u32 a)).setCell ⟨B, 2, none⟩ (.int .u32 s)
theorem qd.store {B:Nat} {o:Bool} {a s:Int} {W:World}(h:qd B o a s W)(o':Bool)(a' s':Int):qd B o' a' s'(CF W B o' a' s'):=by
 unfold qd at h ⊢;simp [World.setCell,Array.getElem?_modify,h]
theorem u_ {N B:Nat} {w W:World}(h:Below N w W)(hN:N≤B)(o:Bool)(a s:Int):Below N w(CF W B o a s):=
 ((h.setCell(p:=⟨B,0,none⟩)hN _).setCell(p:=⟨B,1,none⟩)hN _).setCell(p:=⟨B,2,none⟩)hN _
theorem Xy {W:World} {B:Nat} {c:Array Value} {e:TypeId}(h:W.heap[B]?=some(.cells c e(0,0)))(i:Nat):W.frozen?⟨B,i,none⟩=false:=by
 simp [World.frozen?,h]
def rO(xs:List Int):Bool:=xs.getD 0 0==1
def rA(xs:List Int):Int:=n4(xs.getD 1 0)(xs.getD 2 0)(xs.getD 3 0)(xs.getD 4 0)
def rS(xs:List Int):Int:=n4(xs.getD 5 0)(xs.getD 6 0)(xs.getD 7 0)(xs.getD 8 0)
def AX(xs:List Int):Bool:=decide(13≤xs.length)&&decide(xs.take 13=yS(rO xs)(rA xs)(rS xs))
theorem Yy {a b c d:Int}(ha:0≤a∧a≤255)(hb:0≤b∧b≤255)(hc:0≤c∧c≤255)(hd:0≤d∧d≤255):0≤n4 a b c d∧n4 a b c d<4294967296:=by
 unfold n4;omega
theorem ZW {xs:List Int}(h:13≤xs.length):∃x0 x1 x2 x3 x4 x5 x6 x7 x8 x9 Zb Za Y_ ys,xs=x0::x1::x2::x3::x4::x5::x6::x7::x8::x9::Zb::Za::Y_::ys:=by
 match xs,h with
 |x0::x1::x2::x3::x4::x5::x6::x7::x8::x9::Zb::Za::Y_::ys,_=>exact⟨x0,x1,x2,x3,x4,x5,x6,x7,x8,x9,Zb,Za,Y_,ys,rfl⟩
theorem vN(v:Value)(xs:List Int)(w:World)(hv:eH w v xs)(hs:xs.length<13):
  Calls Tryz.prog 68 #[v]w fun e w'=>e=.returned(.tuple #[Fe false 0 0,.bool false])∧Below w.heap.size w w':=by
 obtain⟨a,c,rfl⟩:∃a c,v=.slice a xs.length c:=by
  rcases hv.2 with⟨rfl,rfl⟩|⟨b,o,c,rfl,_⟩
  ·exact⟨_,_,rfl⟩
  ·exact⟨_,_,rfl⟩
 have hd:decide((xs.length:Int)<13)=true:=decide_eq_true(by omega);clear hv;go_enter Tryz.func68,Tryz.ntmps68
 go_wp2
 go_returns
 exact⟨rfl,(Below.refl _ _).alloc(Nat.le_refl _)_⟩
theorem xH(v:Value)(xs:List Int)(w:World)(hv:eH w v xs)(hs:13≤xs.length):
  Calls Tryz.prog 68 #[v]w fun e w'=>e=.returned(.tuple #[if AX xs then Fe(rO xs)(rA xs)(rS xs)else Fe false 0 0,.bool(AX xs)])∧Below w.heap.size w w':=by
 obtain⟨b,o,c,rfl,h1,h2,h3⟩:∃b o c,v=.slice(some⟨b,o,none⟩)xs.length c∧xs.length≤c∧c≤9223372036854775807∧∀(j:Nat)(x:Int),xs[j]?=some x→w.cell?⟨b,o+j,none⟩=some(.int .u8 x):=by
  rcases hv.2 with⟨rfl,rfl⟩|h
  ·simp at hs
  ·exact h
 have hp:=(eH.part hv.1 h1 h2 h3 13 hs).1;have hd:decide((xs.length:Int)<13)=false:=decide_eq_false(by omega);have hx:=hv.1;obtain⟨x0,x1,x2,x3,x4,x5,x6,x7,x8,x9,Zb,Za,Y_,ys,hxs⟩:=ZW hs;have hO:rO xs=(x0==1):=by rw [hxs];rfl
 have hA:rA xs=n4 x1 x2 x3 x4:=by rw [hxs];rfl
 have hS:rS xs=n4 x5 x6 x7 x8:=by rw [hxs];rfl
 have ht:xs.take 13=[x0,x1,x2,x3,x4,x5,x6,x7,x8,x9,Zb,Za,Y_]:=by rw [hxs];rfl
 have hk:AX xs=decide([x0,x1,x2,x3,x4,x5,x6,x7,x8,x9,Zb,Za,Y_]=yS(x0==1)(n4 x1 x2 x3 x4)(n4 x5 x6 x7 x8)):=by
  unfold AX;rw [hO,hA,hS,ht,decide_eq_true hs,Bool.true_and]
 have jk:0≤n4 x1 x2 x3 x4∧n4 x1 x2 x3 x4<4294967296:=by
  rw [hxs]at hx;exact Yy(hx x1(by simp))(hx x2(by simp))(hx x3(by simp))(hx x4(by simp))
 have hbS:0≤n4 x5 x6 x7 x8∧n4 x5 x6 x7 x8<4294967296:=by
  rw [hxs]at hx;exact Yy(hx x5(by simp))(hx x6(by simp))(hx x7(by simp))(hx x8(by simp))
 rw [hO,hA,hS];rw [ht]at hp;have hk':=(show Hid _ from hk);generalize AX xs=ok at hk' ⊢;clear hv h3 hx hxs hO hA hS ht hk;have hZ:qd w.heap.size false 0 0((w.alloc(aV false 0 0)).alloc(.cells #[.slice(some⟨b,o,none⟩)13 c]141)):=(qd.new false 0 0 w).later((Below.refl _ _).alloc(Nat.le_refl _)_);have hB:Below w.heap.size w((w.alloc(aV false 0 0)).alloc(.cells #[.slice(some⟨b,o,none⟩)13 c]141)):=((Below.refl _ _).alloc(Nat.le_refl _)_).alloc(by simp)_;have hR:Rd(w.heap.size+1) [x0,x1,x2,x3,x4,x5,x6,x7,x8,x9,Zb,Za,Y_]((w.alloc(aV false 0 0)).alloc(.cells #[.slice(some⟨b,o,none⟩)13 c]141)):=by
  have hh:=heap_alloc_new(w.alloc(aV false 0 0))(.cells #[.slice(some⟨b,o,none⟩)13 c]141);rw [World.size_alloc]at hh;exact⟨_,cell_of_row _ _ 0 _ _ _ hh,Xy hh 0,hp.kept hB⟩
 dsimp only [aV]at hZ hB hR;go_enter Tryz.func68,Tryz.ntmps68
 go_wp2_with fail
 generalize World.alloc _ _=W1 at hZ hB hR ⊢;refine(Df _ _ _ hR).mono ?_;rintro e W2(⟨x,zs,he,hx0,hx1,rfl,hR2,hg2,hb2⟩|⟨he,_⟩)
 case inr=>cases he
 cases he;have hZ2:=hZ.below hb2(Nat.lt_succ_self _);have hB2:=hB.trans(hb2.mono(Nat.le_succ _));clear hZ hB hR hg2 hb2;go_wp2_with fail
 refine(bq _ _ _ hR2).mono ?_;rintro e W3(⟨a',b',c',d',zs,he,rfl,Ow,hg3,hb3⟩|⟨he,_⟩)
 case inr=>simp at he
 cases he;have hZ3:=hZ2.below hb3(Nat.lt_succ_self _);have hB3:=hB2.trans(hb3.mono(Nat.le_succ _));clear hZ2 hB2 hR2 hg3 hb3;go_wp2_with fail
 refine(bq _ _ _ Ow).mono ?_;rintro e W4(⟨a',b',c',d',zs,he,rfl,LV,hg4,hb4⟩|⟨he,_⟩)
 case inr=>simp at he
 cases he;have hZ4:=hZ3.below hb4(Nat.lt_succ_self _);have hB4:=hB3.trans(hb4.mono(Nat.le_succ _));clear hZ3 hB3 Ow hg4 hb4 LV;have hN:=qd.new(x0==1)(n4 x1 x2 x3 x4)(n4 x5 x6 x7 x8)W4;have hbn:Below W4.heap.size W4(W4.alloc(aV(x0==1)(n4 x1 x2 x3 x4)(n4 x5 x6 x7 x8))):=(Below.refl _ _).alloc(Nat.le_refl _)_;have hZ5:=hZ4.later hbn;have mE:=hB4.trans(hbn.mono hB4.size);dsimp only [aV]at hN hZ5 mE;clear hbn hZ4 hB4;go_wp2_with fail
 clear hN;have hN:=qd.new(x0==1)(n4 x1 x2 x3 x4)(n4 x5 x6 x7 x8)W4;dsimp only [aV]at hN;generalize W4.heap.size=R5 at hN ⊢;generalize World.alloc _ _=W5 at hN hZ5 mE ⊢;refine(pV(x0==1)(n4 x1 x2 x3 x4)(n4 x5 x6 x7 x8)jk.1 jk.2 hbS.1 hbS.2 _).mono ?_;rintro e W6⟨v6,rfl,hb6,Gn,hown6⟩;have PO:=hN.later hb6;have hZ6:=hZ5.later hb6;have qc:=mE.trans(hb6.mono mE.size);have hp6:=hp.kept qc;have lw:eH W6 v6(yS(x0==1)(n4 x1 x2 x3 x4)(n4 x5 x6 x7 x8)):=qz(base:=W5.heap.size+1)hown6(Qz jk.1 jk.2 hbS.1 hbS.2);clear hN hZ5 mE hb6 Gn hown6 hp;go_wp2_with fail
 refine(Py _ _ _ _ _ hp6 lw).mono ?_;rintro e W7⟨rfl,rfl⟩;rw [←hk'.out];clear hk' lw hp6 jk hbS;obtain⟨n0,n1,n2⟩:=PO.cell;obtain⟨z0,z1,z2⟩:=hZ6.cell;have zf:=hZ6.free;have hw:=hZ6.lt;cases ok
 ·have hF:=hZ6.store false 0 0;have hG:=u_ qc(Nat.le_refl _)false 0 0;go_wp2
  dsimp only [CF]at hF hG;generalize World.setCell _ _ _=W8 at hF hG ⊢;obtain⟨q0,q1,q2⟩:=hF.cell;exact bodyPost_ret(v:=.tuple #[Fe false 0 0,.bool false])(by simp [results,Tryz.results68,go_sem,q0,q1,q2])rfl⟨rfl,hG⟩
 ·have hF:=hZ6.store(x0==1)(n4 x1 x2 x3 x4)(n4 x5 x6 x7 x8);have hG:=u_ qc(Nat.le_refl _)(x0==1)(n4 x1 x2 x3 x4)(n4 x5 x6 x7 x8);go_wp2
  dsimp only [CF]at hF hG;generalize World.setCell _ _ _=W8 at hF hG ⊢;obtain⟨q0,q1,q2⟩:=hF.cell;exact bodyPost_ret(v:=.tuple #[Fe(x0==1)(n4 x1 x2 x3 x4)(n4 x5 x6 x7 x8),.bool true])(by simp [results,Tryz.results68,go_sem,q0,q1,q2])rfl⟨rfl,hG⟩
theorem yT(v:Value)(xs:List Int)(w:World)(hv:eH w v xs):
  Calls Tryz.prog 68 #[v]w fun e w'=>e=.returned(.tuple #[if AX xs then Fe(rO xs)(rA xs)(rS xs)else Fe false 0 0,.bool(AX xs)])∧Below w.heap.size w w':=by
 by_cases hs:13≤xs.length
 ·exact xH v xs w hv hs
 ·have hk:AX xs=false:=by simp [AX,hs]
  rw [hk];exact vN v xs w hv(by omega)
theorem qE:(Tryz.prog.info? 82).map(fun i=>(i.zero,i.size,i.bytes))=some(some(.agg #[.bool false,.int .u32 0,.int .u32 0]),3,12):=by kernel_rfl
theorem Iy {w:World} {v:Value} {xs:List Int}(hv:eH w v xs)(k:Nat)(hk:k≤xs.length)(i:Int)(hi:i=k):
  ∃u,(∀W:World,(Instr.slice 58 v(some(.int .i64 i))none none).run Tryz.prog W=.ok u W)∧∀W:World,eH W v xs→eH W u(xs.drop k):=by
 have ht:Tryz.prog.underlying 58=some(.slice(Tryz.prog.elem 58)):=by simp [Program.elem,Tryz.underlying58]
 have hz:∀w,(Go.sizeOf(Tryz.prog.elem 58)).run Tryz.prog w=.ok 1 w:=by
  intro w;simp [go_sem,Program.elem,Tryz.underlying58]
 subst hi;rcases hv.2 with⟨rfl,rfl⟩|⟨b,o,c,rfl,h1,h2,_⟩
 ·obtain rfl:k=0:=by simpa using hk
  refine⟨.slice none 0 0,fun W=> ?_,fun W h=>h⟩;rw [run_slice_l W 58 _ _ _ ht .i64 _(by omega)(by omega),hz];rfl
 ·refine⟨sliced(some⟨b,o,none⟩)k xs.length c 1,fun W=> ?_,fun W h=> ?_⟩
  ·rw [run_slice_l W 58 _ _ _ ht .i64 _(by omega)(by omega),hz];rfl
  ·rcases h.2 with⟨he,_⟩|⟨b',o',c',he,_,_,h3⟩
   ·cases he
   ·simp only [Value.slice.injEq,Option.some.injEq,Addr.mk.injEq,and_true]at he;obtain⟨⟨rfl,rfl⟩,_,rfl⟩:=he;have hp:=(eH.part h.1 h1 h2 h3 k hk).2;unfold sliced;split
    ·rename_i hc;have hx:xs.drop k=[]:=List.drop_eq_nil_of_le(by omega);rw [hx];refine⟨by simp,.inr⟨b,o,c - k,?_,by simp,by omega,by simp⟩⟩;rw [show xs.length - k=([]:List Int).length by simp;omega]
    ·have e:(some(⟨b,o,none⟩:Addr)).map(·.add(k * 1))=some⟨b,o+k,none⟩:=by simp [Addr.add]
     rw [e];exact hp
def RC(L:List(Bool×Int×Int)):List Value:=L.flatMap fun x=> [.bool x.1,.int .u32 x.2.1,.int .u32 x.2.2]
theorem kK(a b:List(Bool×Int×Int)):RC(a++b)=RC a++RC b:=by simp [RC]
theorem Uk(x:Bool×Int×Int):RC [x]=[.bool x.1,.int .u32 x.2.1,.int .u32 x.2.2]:=rfl
def IM:Nat→List Int→List(Bool×Int×Int)
 |0,_=> []
 |f+1,xs=>if AX xs then(rO xs,rA xs,rS xs)::IM f(xs.drop 13)else []
def jl(xs:List Int):List(Bool×Int×Int):=IM xs.length xs
theorem KU {xs:List Int}(h:AX xs=true):13≤xs.length:=by
 simp only [AX,Bool.and_eq_true,decide_eq_true_eq]at h;exact h.1
theorem QA {xs:List Int}(h:AX xs=false)(f:Nat):IM f xs=[]:=by
 cases f<;>simp [IM,h]
theorem KH {xs:List Int}(h:AX xs=true) {f:Nat}(hf:xs.length≤f):IM f xs=(rO xs,rA xs,rS xs)::IM(f - 1)(xs.drop 13):=by
 have:=KU h;obtain⟨g,rfl⟩:∃g,f=g+1:=⟨f - 1,by omega⟩;simp [IM,h]
theorem kF(W:World)(o:Bool)(a s:Int):∀(j:Nat)(u:Value),(RC [(o,a,s)])[j]?=some u→(W.alloc(aV o a s)).cell?((⟨W.heap.size,0,none⟩:Addr).add j)=some u:=by
 intro j u hj;have hh:=heap_alloc_new W(aV o a s);rw [Uk]at hj
 match j,hj with
 |0,hj=>exact(cell_of_row _ _ 0 _ _ _ hh).trans hj
 |1,hj=>exact(cell_of_row _ _ 1 _ _ _ hh).trans hj
 |2,hj=>exact(cell_of_row _ _ 2 _ _ _ hh).trans hj
 |j+3,hj=>simp at hj
theorem mM(o:Bool)(a s:Int):∀u∈RC [(o,a,s)],u.oneCell'=true:=by
 intro u hu;simp only [Uk,List.mem_cons,List.not_mem_nil,or_false]at hu;rcases hu with rfl|rfl|rfl<;>rfl
theorem xY(v:Value)(xs:List Int)(hxs:xs.length≤1000000)(w:World)(hv:eH w v xs):
  Calls Tryz.prog 41 #[v]w fun e w'=>∃u,e=.returned(.tuple #[u,.int .i64(13 * (jl xs).length:Nat)])∧Below w.heap.size w w'∧w'.ownsRow w.heap.size 82 3 u(jl xs).length(RC(jl xs)):=by
 obtain⟨i0,hi,hz0,hz1,hz2⟩:=info_parts qE;go_enter Tryz.func41,Tryz.ntmps41
 go_wp2_with fail
 go_loopw [4,5](fun l t wr=>∃(k:Nat)(L:List(Bool×Int×Int)),L.length=k∧13 * k≤xs.length∧t=.int .i64(13 * (k:Int))∧wr.ownsRow w.heap.size 82 3 l k(RC L)∧Below w.heap.size w wr∧jl xs=L++IM(xs.length - k)(xs.drop(13 * k)))(fun _ t _=>xs.length - (intOf t).toNat)
 case atStart=>exact⟨0,[],rfl,by omega,rfl,⟨rfl,.inl⟨rfl,rfl⟩⟩,Below.refl _ _,rfl⟩
 case round=>
  obtain⟨k,L,hLk,U5,rfl,ho,hB,hj⟩:=hrel;obtain⟨u,hsl,hu⟩:=Iy hv(13 * k)U5(13 * (k:Int))(by omega);have hur:=hu _(hv.kept hB);have hj':=(show Hid _ from hj);have hLk':=(show Hid _ from hLk);clear hj hu hLk;go_wp2_with fail
  refine(yT _ _ _ hur).mono ?_;rintro e W1⟨rfl,hb1⟩;have ho1:=ho.kept(w':=W1)(row:=none)⟨hb1.os,hb1.tape,hb1.output,hb1.size,fun k hk _=>hb1.block k hk⟩(by cases u4.ownBlock<;>simp);have hB1:=hB.trans(hb1.mono hB.size);clear ho hB hb1 hsl hur;have hdl:(xs.drop(13 * k)).length=xs.length - 13 * k:=List.length_drop;cases hok:AX(xs.drop(13 * k))
  ·have hj0:jl xs=L:=by rw [hj'.out,QA hok,List.append_nil]
   have hj1:Hid((jl xs).length=k):=by
    show(jl xs).length=k;rw [hj0];exact hLk'.out
   have hj2:Hid(RC(jl xs)=RC L):=by
    show RC(jl xs)=RC L;rw [hj0]
   clear hj0 hok hdl;have ho2:=ho1.alloc(aV false 0 0);have hB2:Below w.heap.size w(W1.alloc(aV false 0 0)):=hB1.alloc hB1.size _;dsimp only [aV]at ho2 hB2;go_wp2
   go_ret2
   refine⟨u4,?_,hB2,?_⟩
   ·rw [hj1.out];simp
   ·rw [hj1.out,hj2.out];exact ho2
  ·have hge:=KU hok;have hst:Hid(IM(xs.length - k)(xs.drop(13 * k))=(rO(xs.drop(13 * k)),rA(xs.drop(13 * k)),rS(xs.drop(13 * k)))::IM(xs.length - (k+1))(xs.drop(13 * (k+1)))):=by
    show _=_;rw [KH hok(by omega),List.drop_drop,show 13 * k+13=13 * (k+1)by omega,show xs.length - k - 1=xs.length - (k+1)by omega]
   generalize rO(xs.drop(13 * k))=o at hst ⊢;generalize rA(xs.drop(13 * k))=a at hst ⊢;generalize rS(xs.drop(13 * k))=s at hst ⊢;clear hok;have ho2:=(ho1.alloc(aV o a s)).alloc(aV o a s);have hc2:=kF(W1.alloc(aV o a s))o a s;have hB2:Below w.heap.size w((W1.alloc(aV o a s)).alloc(aV o a s)):=(hB1.alloc hB1.size _).alloc(by have:=hB1.size;simp;omega)_;have hs1:=hB1.size;have hlt:=ho2.lt;rw [World.size_alloc]at hc2;dsimp only [aV]at ho2 hc2 hB2 hlt;go_wp2_with(at_builtin;refine wpList_append_own _ rfl _ _ 79 rfl w.heap.size 82 i0(.agg #[.bool false,.int .u32 0,.int .u32 0])3 12 Tryz.underlying79 hi hz0 hz1 hz2 rfl(by decide)u4 k(RC L)rfl ho2⟨W1.heap.size+1,0,none⟩1 1(RC [(o,a,s)])rfl rfl hc2(mM o a s) ?c1 ?c2 ?c3 ?_)
   case c1=>unfold maxLen;omega
   case c2=>omega
   case c3=>simp;omega
   intro v' W3 ho3 hg3 _;have hB3:=hB2.grown hg3 hB2.size(fun k hk=>(hlt k hk).1);clear ho2 hc2 hB2 hg3 hlt;go_wp2
   go_roundw
   case rel=>
    refine⟨k+1,L++ [(o,a,s)],by rw [List.length_append,hLk'.out];rfl,by omega,by go_num,?_,hB3,?_⟩
    ·rw [kK];exact ho3
    ·rw [hj'.out,hst.out,List.append_assoc];rfl
   case measure=>simp [intOf];omega
end Go.Proofs.YtakaadcpaeiccabGreat
