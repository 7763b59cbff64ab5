import Derived.Test.YtakaadcpaeiccabGreatV03
import Derived.Lib.Bytes
import Derived.Shelf.SlIter.Collect
import Derived.Maps.AppendAt
import Derived.RangeFuncBound
import Derived.Sort.MapsRangeIn
import Derived.Sort.KeysCollected
import Derived.OwnWalkIn
import Derived.TacticsInMore
import Derived.RegionIn
import Derived.LoopNIn
import Derived.LoopIn
import Derived.RangeFuncLeaves
set_option maxHeartbeats 2000000
set_option maxRecDepth 100000
namespace Go.Proofs.YtakaadcpaeiccabGreat
open Go.RowKit
def n4(a b c d:Int):Int:=a * 16777216+b * 65536+c * 256+d
theorem Ed(x y:Int)(hx:0<=x)(hx1:x<16777216)(hy:0<=y)(hy1:y<=255):bits .or .u32 (x * 256) y=x * 256+y:=by
 rw[bits_join .u32 32 (by decide) wraps_u32 8 (x * 256) y (by omega) (by omega) (by omega) hy (by omega) (by omega)]
theorem dJ(R:Nat)(xs:List Int)(W:World)(h:Rd R xs W):
  Calls Tryz.prog 87 #[.pointer (some ⟨R,0,none⟩)] W λe w'=>(∃a b c d ys,xs=a::b::c::d::ys∧e=.returned (.int .u32 (n4 a b c d))∧Rd R ys w'∧W.grownBy w' (some R)∧Below R W w')∨(xs.length<4∧e=.panicked broken∧w'=W):=by
 go_enter Tryz.func87,Tryz.ntmps87;go_wp2_with fail;refine(zH R 4 xs W h).mono ?_;rintro e w1 (⟨hn,⟨v,rfl,hv⟩,hrd,hg,hbl⟩|⟨hn,rfl,rfl⟩)
 ·obtain⟨x0,x1,x2,x3,ys,rfl⟩:∃a b c d ys,xs=a::b::c::d::ys:=by
   match xs,hn with
   |a::b::c::d::ys,_=>exact⟨a,b,c,d,ys,rfl⟩
  obtain⟨p0,q0,b,o,c,hv',c0⟩:=mr hv (j:=0) (x:=x0) rfl;simp only[List.take_succ_cons,List.take_zero,dZ,List.length_nil,Nat.zero_add,Nat.add_zero,Nat.reduceAdd]at hv' c0;subst hv';obtain⟨p1,q1,b1,o1,d1,e1,c1⟩:=mr hv (j:=1) (x:=x1) rfl;obtain⟨p2,q2,b2,o2,d2,e2,c2⟩:=mr hv (j:=2) (x:=x2) rfl;obtain⟨p3,q3,b3,o3,d3,e3,c3⟩:=mr hv (j:=3) (x:=x3) rfl;simp only[Value.slice.injEq,Option.some.injEq,Addr.mk.injEq,and_true]at e1 e2 e3;obtain⟨⟨rfl,rfl⟩,h41,rfl⟩:=e1;clear h41;obtain⟨⟨rfl,rfl⟩,h42,rfl⟩:=e2;clear h42;obtain⟨⟨rfl,rfl⟩,h43,rfl⟩:=e3;clear h43;have adW:Rd R ys w1:=hrd;clear hv hrd hn h;go_wp2_with fail;go_loop [3,9] (λn i=>(i=.int .i64 0∧n=.int .u32 0)∨(i=.int .i64 1∧n=.int .u32 x0)∨(i=.int .i64 2∧n=.int .u32 (x0 * 256+x1))∨(i=.int .i64 3∧n=.int .u32 ((x0 * 256+x1)* 256+x2))∨(i=.int .i64 4∧n=.int .u32 (((x0 * 256+x1)* 256+x2)* 256+x3))) (λ_ i=>4 - (intOf i).toNat)
  case atStart=>exact .inl ⟨rfl,rfl⟩
  case round=>
   have k0:Hid (bits .or .u32 0 x0=x0):=by
    have:=Ed 0 x0 (by omega) (by omega) p0 q0;show bits .or .u32 0 x0=x0;simpa using this
   have k1:Hid _:=Ed x0 x1 p0 (by omega) p1 q1;have k2:Hid _:=Ed (x0 * 256+x1) x2 (by omega) (by omega) p2 q2;have k3:Hid _:=Ed ((x0 * 256+x1)* 256+x2) x3 (by omega) (by omega) p3 q3;rcases hrel with⟨rfl,rfl⟩|⟨rfl,rfl⟩|⟨rfl,rfl⟩|⟨rfl,rfl⟩|⟨rfl,rfl⟩
   ·clear c1 c2 c3;go_wp2;go_round
    case rel=>exact .inr (.inl ⟨rfl,by rw[k0.out]⟩)
    case measure=>simp[intOf]
   ·clear c0 c2 c3;go_wp2;go_round
    case rel=>exact .inr (.inr (.inl ⟨rfl,by rw[k1.out]⟩))
    case measure=>simp[intOf]
   ·clear c0 c1 c3;go_wp2;go_round
    case rel=>exact .inr (.inr (.inr (.inl ⟨rfl,by rw[k2.out]⟩)))
    case measure=>simp[intOf]
   ·clear c0 c1 c2;go_wp2;go_round
    case rel=>exact .inr (.inr (.inr (.inr ⟨rfl,by rw[k3.out]⟩)))
    case measure=>simp[intOf]
   ·go_wp2;go_ret;refine .inl ⟨x0,x1,x2,x3,ys,⟨rfl,rfl,rfl,rfl,rfl⟩,uY ?_,adW,hg,hbl⟩;unfold n4;omega
 ·exact⟨rfl,.inr ⟨by omega,rfl,rfl⟩⟩
variable{xs:List Int}
theorem tJ(h:∀x∈xs,0<=x∧x<=255):aA (strOfNums xs)=xs:=by
 unfold aA;rw[strOfNums_data,List.map_map];conv=>rhs;rw[<-List.map_id xs]
 refine List.map_congr_left λx hx=> ?_;have:=h x hx;simp only[Function.comp_apply,id,UInt8.toNat_ofNat'];omega
theorem abF{ys:List Int}(hx:∀x∈xs,0<=x∧x<=255)(hy:∀x∈ys,0<=x∧x<=255):((strOfNums xs).toList==(strOfNums ys).toList)=decide (xs=ys):=by
 rw[Bool.eq_iff_iff];simp only[beq_iff_eq,qi];constructor
 ·intro h;rw[<-tJ hx,<-tJ hy];unfold aA;have:(strOfNums xs).data.toList=(strOfNums ys).data.toList:=by
   rw[Lib.strOfNums_toList,Lib.strOfNums_toList]at h;exact h
  rw[this]
 ·rintro rfl;rfl
theorem PW(v u:Value)(xs ys:List Int)(w:World)(hv:fo w v xs)(hu:fo w u ys):
  Calls Tryz.prog 101 #[v,u] w λe w'=>e=.returned (.bool (decide (xs=ys)))∧w'=w:=by
 have h1:=rZ hv;have h2:=rZ hu;have hx:=hv.1;have hy:=hu.1;clear hv hu;go_enter Tryz.func101,Tryz.ntmps101;go_wp2;go_ret;exact⟨lI (abF hx hy),rfl⟩
variable{o:Bool}{a s:Int}{B N:Nat}{W W':World}
def qx(B:Nat)(o:Bool)(a s:Int)(W:World):Prop:=W.heap[B]?=some (aY o a s)
theorem qx.cell(h:qx B o a s W):
  W.cell? ⟨B,0,none⟩=some (.bool o)∧W.cell? ⟨B,1,none⟩=some (.int .u32 a)∧W.cell? ⟨B,2,none⟩=some (.int .u32 s):=
 ⟨aJ W B 0 _ _ _ h,aJ W B 1 _ _ _ h,aJ W B 2 _ _ _ h⟩
theorem qx.free(h:qx B o a s W)(i:Nat):W.frozen? ⟨B,i,none⟩=false:=by
 unfold qx at h;simp[World.frozen?,h]
theorem qx.lt(h:qx B o a s W):B<W.heap.size:=(iA.1 h).1
theorem qx.below(h:qx B o a s W)(hb:Below N W W')(hN:B<N):qx B o a s W':=(hb.block _ hN).trans h
theorem qx.later(h:qx B o a s W)(hb:Below W.heap.size W W'):qx B o a s W':=h.below hb h.lt
theorem qx.new(o:Bool)(a s:Int)(W:World):qx W.heap.size o a s (W.alloc (aY o a s)):=bV W _
@[reducible] def DL(W : World)(B : Nat)(o : Bool)(a s : Int): World := ((W.setCell ⟨B, 0, none⟩ (.bool o)).setCell ⟨B, 1, none⟩ (.int .u32 a)).setCell ⟨B, 2, none⟩ (.int .u32 s)
theorem qx.store(h:qx B o a s W)(o':Bool)(a' s':Int):qx B o' a' s' (DL W B o' a' s'):=by
 unfold qx at h ⊢;simp[World.setCell,d_,h]
theorem vX{w:World}(h:Below N w W)(hN:N<=B)(o:Bool)(a s:Int):Below N w (DL W B o a s):=
 ((h.setCell (p:=⟨B,0,none⟩) hN _).setCell (p:=⟨B,1,none⟩) hN _).setCell (p:=⟨B,2,none⟩) hN _
theorem XD{c:Array Value}{e:TypeId}(h:W.heap[B]?=some (.cells c e (0,0)))(i:Nat):W.frozen? ⟨B,i,none⟩=false:=by
 simp[World.frozen?,h]
def rO(xs:List Int):Bool:=xs.getD 0 0==1
def rA(xs:List Int):Int:=n4 (xs.getD 1 0) (xs.getD 2 0) (xs.getD 3 0) (xs.getD 4 0)
def rS(xs:List Int):Int:=n4 (xs.getD 5 0) (xs.getD 6 0) (xs.getD 7 0) (xs.getD 8 0)
def BR(xs:List Int):Bool:=decide (13<=xs.length)&&decide (xs.take 13=zV (rO xs) (rA xs) (rS xs))
theorem Yw{b c d:Int}(ha:0<=a∧a<=255)(hb:0<=b∧b<=255)(hc:0<=c∧c<=255)(hd:0<=d∧d<=255):0<=n4 a b c d∧n4 a b c d<4294967296:=by
 unfold n4;omega
theorem ZO{xs:List Int}(h:13<=xs.length):∃x0 x1 x2 x3 x4 x5 x6 x7 x8 x9 x10 Y4 Y3 ys,xs=x0::x1::x2::x3::x4::x5::x6::x7::x8::x9::x10::Y4::Y3::ys:=by
 match xs,h with
 |x0::x1::x2::x3::x4::x5::x6::x7::x8::x9::x10::Y4::Y3::ys,_=>exact⟨x0,x1,x2,x3,x4,x5,x6,x7,x8,x9,x10,Y4,Y3,ys,rfl⟩
theorem wQ(v:Value)(xs:List Int)(w:World)(hv:fo w v xs)(hs:xs.length<13):
  Calls Tryz.prog 68 #[v] w λe w'=>e=.returned (.tuple #[Gj false 0 0,.bool false])∧Below w.heap.size w w':=by
 obtain⟨a,c,rfl⟩:∃a c,v=.slice a xs.length c:=by
  rcases hv.2 with⟨rfl,rfl⟩|⟨b,o,c,rfl,_⟩
  ·exact⟨_,_,rfl⟩
  ·exact⟨_,_,rfl⟩
 have hd:decide ((xs.length:Int)<13)=true:=f_ (by omega);clear hv;go_enter Tryz.func68,Tryz.ntmps68;go_wp2;go_returns;exact⟨rfl,bC⟩
theorem yJ(v:Value)(xs:List Int)(w:World)(hv:fo w v xs)(hs:13<=xs.length):
  Calls Tryz.prog 68 #[v] w λe w'=>e=.returned (.tuple #[if BR xs then Gj (rO xs) (rA xs) (rS xs)else Gj false 0 0,.bool (BR xs)])∧Below w.heap.size w w':=by
 obtain⟨b,o,c,rfl,h1,h2,h3⟩:∃b o c,v=.slice (some ⟨b,o,none⟩) xs.length c∧xs.length<=c∧c<=9223372036854775807∧∀(j:Nat) (x:Int),xs[j]?=some x->w.cell? ⟨b,o+j,none⟩=some (.int .u8 x):=by
  rcases hv.2 with⟨rfl,rfl⟩|h
  ·simp at hs
  ·exact h
 have hp:=(fo.part hv.1 h1 h2 h3 13 hs).1;have hd:decide ((xs.length:Int)<13)=false:=eU (by omega);have hx:=hv.1;obtain⟨x0,x1,x2,x3,x4,x5,x6,x7,x8,x9,x10,Y4,Y3,ys,hxs⟩:=ZO hs;have hO:rO xs=(x0==1):=by rw[hxs];rfl
 have hA:rA xs=n4 x1 x2 x3 x4:=by rw[hxs];rfl
 have hS:rS xs=n4 x5 x6 x7 x8:=by rw[hxs];rfl
 have ht:xs.take 13=[x0,x1,x2,x3,x4,x5,x6,x7,x8,x9,x10,Y4,Y3]:=by rw[hxs];rfl
 have hk:BR xs=decide ([x0,x1,x2,x3,x4,x5,x6,x7,x8,x9,x10,Y4,Y3]=zV (x0==1) (n4 x1 x2 x3 x4) (n4 x5 x6 x7 x8)):=by
  unfold BR;rw[hO,hA,hS,ht,f_ hs,Bool.true_and]
 have jE:0<=n4 x1 x2 x3 x4∧n4 x1 x2 x3 x4<4294967296:=by
  rw[hxs]at hx;exact Yw (hx x1 (by simp)) (hx x2 (by simp)) (hx x3 (by simp)) (hx x4 (by simp))
 have hbS:0<=n4 x5 x6 x7 x8∧n4 x5 x6 x7 x8<4294967296:=by
  rw[hxs]at hx;exact Yw (hx x5 (by simp)) (hx x6 (by simp)) (hx x7 (by simp)) (hx x8 (by simp))
 rw[hO,hA,hS];rw[ht]at hp;have hk':=(show Hid _ from hk);generalize BR xs=ok at hk' ⊢;clear hv h3 hx hxs hO hA hS ht hk;have hZ:qx w.heap.size false 0 0 ((w.alloc (aY false 0 0)).alloc (.cells #[.slice (some ⟨b,o,none⟩) 13 c] 141)):=(qx.new false 0 0 w).later (bC);have hB:Below w.heap.size w ((w.alloc (aY false 0 0)).alloc (.cells #[.slice (some ⟨b,o,none⟩) 13 c] 141)):=(bC).alloc (by simp) _;have hR:Rd (w.heap.size+1) [x0,x1,x2,x3,x4,x5,x6,x7,x8,x9,x10,Y4,Y3] ((w.alloc (aY false 0 0)).alloc (.cells #[.slice (some ⟨b,o,none⟩) 13 c] 141)):=by
  have hh:=bV (w.alloc (aY false 0 0)) (.cells #[.slice (some ⟨b,o,none⟩) 13 c] 141);rw[World.size_alloc]at hh;exact⟨_,aJ _ _ 0 _ _ _ hh,XD hh 0,hp.kept hB⟩
 dsimp only[aY]at hZ hB hR;go_enter Tryz.func68,Tryz.ntmps68;go_wp2_with fail;generalize World.alloc _ _=W1 at hZ hB hR ⊢;refine(Ef _ _ _ hR).mono ?_;rintro e W2 (⟨x,zs,he,hx0,hx1,rfl,hR2,hg2,hb2⟩|⟨he,_⟩)
 case inr=>cases he
 cases he;have hZ2:=hZ.below hb2 (Nat.lt_succ_self _);have hB2:=hB.trans (hb2.mono (Nat.le_succ _));clear hZ hB hR hg2 hb2;go_wp2_with fail;refine(dJ _ _ _ hR2).mono ?_;rintro e W3 (⟨a',b',c',d',zs,he,rfl,OO,hg3,hb3⟩|⟨he,_⟩)
 case inr=>simp at he
 cases he;have hZ3:=hZ2.below hb3 (Nat.lt_succ_self _);have hB3:=hB2.trans (hb3.mono (Nat.le_succ _));clear hZ2 hB2 hR2 hg3 hb3;go_wp2_with fail;refine(dJ _ _ _ OO).mono ?_;rintro e W4 (⟨a',b',c',d',zs,he,rfl,ME,hg4,hb4⟩|⟨he,_⟩)
 case inr=>simp at he
 cases he;have hZ4:=hZ3.below hb4 (Nat.lt_succ_self _);have hB4:=hB3.trans (hb4.mono (Nat.le_succ _));clear hZ3 hB3 OO hg4 hb4 ME;have hN:=qx.new (x0==1) (n4 x1 x2 x3 x4) (n4 x5 x6 x7 x8) W4;have hbn:Below W4.heap.size W4 (W4.alloc (aY (x0==1) (n4 x1 x2 x3 x4) (n4 x5 x6 x7 x8))):=bC;have hZ5:=hZ4.later hbn;have uL:=hB4.trans (hbn.mono hB4.size);dsimp only[aY]at hN hZ5 uL;clear hbn hZ4 hB4;go_wp2_with fail;clear hN;have hN:=qx.new (x0==1) (n4 x1 x2 x3 x4) (n4 x5 x6 x7 x8) W4;dsimp only[aY]at hN;generalize W4.heap.size=R5 at hN ⊢;generalize World.alloc _ _=W5 at hN hZ5 uL ⊢;refine(qf (x0==1) (n4 x1 x2 x3 x4) (n4 x5 x6 x7 x8) jE.1 jE.2 hbS.1 hbS.2 _).mono ?_;rintro e W6 ⟨v6,rfl,hb6,Ht,hown6⟩;have P9:=hN.later hb6;have hZ6:=hZ5.later hb6;have Cf:=uL.trans (hb6.mono uL.size);have hp6:=hp.kept Cf;have uo:fo W6 v6 (zV (x0==1) (n4 x1 x2 x3 x4) (n4 x5 x6 x7 x8)):=qI (base:=W5.heap.size+1) hown6 (QD jE.1 jE.2 hbS.1 hbS.2);clear hN hZ5 uL hb6 Ht hown6 hp;go_wp2_with fail;refine(PW _ _ _ _ _ hp6 uo).mono ?_;rintro e W7 ⟨rfl,rfl⟩;rw[<-hk'.out];clear hk' uo hp6 jE hbS;obtain⟨n0,n1,n2⟩:=P9.cell;obtain⟨z0,z1,z2⟩:=hZ6.cell;have zf:=hZ6.free;have hw:=hZ6.lt;cases ok
 ·have hF:=hZ6.store false 0 0;have hG:=vX Cf (aB _) false 0 0;go_wp2;dsimp only[DL]at hF hG;generalize World.setCell _ _ _=W8 at hF hG ⊢;obtain⟨q0,q1,q2⟩:=hF.cell;exact bodyPost_ret (v:=.tuple #[Gj false 0 0,.bool false]) (by simp[results,Tryz.results68,go_sem,q0,q1,q2]) rfl ⟨rfl,hG⟩
 ·have hF:=hZ6.store (x0==1) (n4 x1 x2 x3 x4) (n4 x5 x6 x7 x8);have hG:=vX Cf (aB _) (x0==1) (n4 x1 x2 x3 x4) (n4 x5 x6 x7 x8);go_wp2;dsimp only[DL]at hF hG;generalize World.setCell _ _ _=W8 at hF hG ⊢;obtain⟨q0,q1,q2⟩:=hF.cell;exact bodyPost_ret (v:=.tuple #[Gj (x0==1) (n4 x1 x2 x3 x4) (n4 x5 x6 x7 x8),.bool true]) (by simp[results,Tryz.results68,go_sem,q0,q1,q2]) rfl ⟨rfl,hG⟩
theorem zW(v:Value)(xs:List Int)(w:World)(hv:fo w v xs):
  Calls Tryz.prog 68 #[v] w λe w'=>e=.returned (.tuple #[if BR xs then Gj (rO xs) (rA xs) (rS xs)else Gj false 0 0,.bool (BR xs)])∧Below w.heap.size w w':=by
 by_cases hs:13<=xs.length
 ·exact yJ v xs w hv hs
 ·have hk:BR xs=false:=by simp[BR,hs]
  rw[hk];exact wQ v xs w hv (by omega)
variable{xs:List Int}
theorem qR:(Tryz.prog.info? 82).map (λi=>(i.zero,i.size,i.bytes))=some (some (.agg #[.bool false,.int .u32 0,.int .u32 0]),3,12):=by kernel_rfl
theorem Js{w:World}{v:Value}(hv:fo w v xs)(k:Nat)(hk:k<=xs.length)(i:Int)(hi:i=k):
  ∃u,(∀W:World,(Instr.slice 58 v (some (.int .i64 i)) none none).run Tryz.prog W=.ok u W)∧∀W:World,fo W v xs->fo W u (xs.drop k):=by
 have ht:Tryz.prog.underlying 58=some (.slice (Tryz.prog.elem 58)):=by simp[Program.elem,Tryz.underlying58]
 have hz:∀w,(Go.sizeOf (Tryz.prog.elem 58)).run Tryz.prog w=.ok 1 w:=by
  intro w;simp[go_sem,Program.elem,Tryz.underlying58]
 subst hi;rcases hv.2 with⟨rfl,rfl⟩|⟨b,o,c,rfl,h1,h2,_⟩
 ·obtain rfl:k=0:=by simpa using hk
  refine⟨.slice none 0 0,λW=> ?_,λW h=>h⟩;rw[run_slice_l W 58 _ _ _ ht .i64 _ (by omega) (by omega),hz];rfl
 ·refine⟨sliced (some ⟨b,o,none⟩) k xs.length c 1,λW=> ?_,λW h=> ?_⟩
  ·rw[run_slice_l W 58 _ _ _ ht .i64 _ (by omega) (by omega),hz];rfl
  ·rcases h.2 with⟨he,_⟩|⟨b',o',c',he,_,_,h3⟩
   ·cases he
   ·simp only[Value.slice.injEq,Option.some.injEq,Addr.mk.injEq,and_true]at he;obtain⟨⟨rfl,rfl⟩,_,rfl⟩:=he;have hp:=(fo.part h.1 h1 h2 h3 k hk).2;unfold sliced;split
    ·rename_i hc;have hx:xs.drop k=[]:=List.drop_eq_nil_of_le (by omega);rw[hx];refine⟨by simp,.inr ⟨b,o,c - k,?_,by simp,by omega,by simp⟩⟩;rw[show xs.length - k=([]:List Int).length by simp;omega]
    ·have e:(some (⟨b,o,none⟩:Addr)).map (·.add (k * 1))=some ⟨b,o+k,none⟩:=by simp[Addr.add]
     rw[e];exact hp
def RC(L:List (Bool×Int×Int)):List Value:=L.flatMap λx=> [.bool x.1,.int .u32 x.2.1,.int .u32 x.2.2]
theorem lq(a b:List (Bool×Int×Int)):RC (a++b)=RC a++RC b:=by simp[RC]
theorem Ut(x:Bool×Int×Int):RC [x]=[.bool x.1,.int .u32 x.2.1,.int .u32 x.2.2]:=rfl
def JE:Nat->List Int->List (Bool×Int×Int)
 |0,_=> []
 |f+1,xs=>if BR xs then(rO xs,rA xs,rS xs)::JE f (xs.drop 13)else []
def jl(xs:List Int):List (Bool×Int×Int):=JE xs.length xs
theorem LD(h:BR xs=true):13<=xs.length:=by
 simp only[BR,jr,qi]at h;exact h.1
theorem QE(h:BR xs=false)(f:Nat):JE f xs=[]:=by
 cases f<;>simp[JE,h]
theorem Lf(h:BR xs=true){f:Nat}(hf:xs.length<=f):JE f xs=(rO xs,rA xs,rS xs)::JE (f - 1) (xs.drop 13):=by
 have:=LD h;obtain⟨g,rfl⟩:∃g,f=g+1:=⟨f - 1,by omega⟩;simp[JE,h]
theorem kX(W:World)(o:Bool)(a s:Int):∀(j:Nat) (u:Value),(RC [(o,a,s)])[j]?=some u->(W.alloc (aY o a s)).cell? ((⟨W.heap.size,0,none⟩:Addr).add j)=some u:=by
 intro j u hj;have hh:=bV W (aY o a s);rw[Ut]at hj
 match j,hj with
 |0,hj=>exact(aJ _ _ 0 _ _ _ hh).trans hj
 |1,hj=>exact(aJ _ _ 1 _ _ _ hh).trans hj
 |2,hj=>exact(aJ _ _ 2 _ _ _ hh).trans hj
 |j+3,hj=>simp at hj
theorem nM(o:Bool)(a s:Int):∀u∈RC [(o,a,s)],u.oneCell'=true:=by
 intro u hu;simp only[Ut,fE,List.not_mem_nil,or_false]at hu;rcases hu with rfl|rfl|rfl<;>rfl
theorem yX(v:Value)(xs:List Int)(hxs:xs.length<=1000000)(w:World)(hv:fo w v xs):
  Calls Tryz.prog 41 #[v] w λe w'=>∃u,e=.returned (.tuple #[u,.int .i64 (13 * (jl xs).length:Nat)])∧Below w.heap.size w w'∧w'.ownsRow w.heap.size 82 3 u (jl xs).length (RC (jl xs)):=by
 obtain⟨i0,hi,hz0,hz1,hz2⟩:=info_parts qR;go_enter Tryz.func41,Tryz.ntmps41;go_wp2_with fail;go_loopw [4,5] (λl t wr=>∃(k:Nat) (L:List (Bool×Int×Int)),L.length=k∧13 * k<=xs.length∧t=.int .i64 (13 * (k:Int))∧wr.ownsRow w.heap.size 82 3 l k (RC L)∧Below w.heap.size w wr∧jl xs=L++JE (xs.length - k) (xs.drop (13 * k))) (λ_ t _=>xs.length - (intOf t).toNat)
 case atStart=>exact⟨0,[],rfl,by omega,rfl,⟨rfl,.inl ⟨rfl,rfl⟩⟩,aV _ _,rfl⟩
 case round=>
  obtain⟨k,L,hLk,U_,rfl,ho,hB,hj⟩:=hrel;obtain⟨u,hsl,hu⟩:=Js hv (13 * k) U_ (13 * (k:Int)) (by omega);have hur:=hu _ (hv.kept hB);have hj':=(show Hid _ from hj);have hLk':=(show Hid _ from hLk);clear hj hu hLk;go_wp2_with fail;refine(zW _ _ _ hur).mono ?_;rintro e W1 ⟨rfl,hb1⟩;have ho1:=ho.kept (w':=W1) (row:=none) ⟨hb1.os,hb1.tape,hb1.output,hb1.size,λk hk _=>hb1.block k hk⟩ (by cases u4.ownBlock<;>simp);have hB1:=hB.trans (hb1.mono hB.size);clear ho hB hb1 hsl hur;have hdl:(xs.drop (13 * k)).length=xs.length - 13 * k:=List.length_drop;cases hok:BR (xs.drop (13 * k))
  ·have hj0:jl xs=L:=by rw[hj'.out,QE hok,fw]
   have hj1:Hid ((jl xs).length=k):=by
    show(jl xs).length=k;rw[hj0];exact hLk'.out
   have hj2:Hid (RC (jl xs)=RC L):=by
    show RC (jl xs)=RC L;rw[hj0]
   clear hj0 hok hdl;have ho2:=ho1.alloc (aY false 0 0);have hB2:Below w.heap.size w (W1.alloc (aY false 0 0)):=hB1.alloc hB1.size _;dsimp only[aY]at ho2 hB2;go_wp2;go_ret2;refine⟨u4,?_,hB2,?_⟩
   ·rw[hj1.out];simp
   ·rw[hj1.out,hj2.out];exact ho2
  ·have hge:=LD hok;have hst:Hid (JE (xs.length - k) (xs.drop (13 * k))=(rO (xs.drop (13 * k)),rA (xs.drop (13 * k)),rS (xs.drop (13 * k)))::JE (xs.length - (k+1)) (xs.drop (13 * (k+1)))):=by
    show _=_;rw[Lf hok (by omega),List.drop_drop,show 13 * k+13=13 * (k+1)by omega,show xs.length - k - 1=xs.length - (k+1)by omega]
   generalize rO (xs.drop (13 * k))=o at hst ⊢;generalize rA (xs.drop (13 * k))=a at hst ⊢;generalize rS (xs.drop (13 * k))=s at hst ⊢;clear hok;have ho2:=(ho1.alloc (aY o a s)).alloc (aY o a s);have hc2:=kX (W1.alloc (aY o a s)) o a s;have hB2:Below w.heap.size w ((W1.alloc (aY o a s)).alloc (aY o a s)):=(hB1.alloc hB1.size _).alloc (by have:=hB1.size;simp;omega) _;have hs1:=hB1.size;have hlt:=ho2.lt;rw[World.size_alloc]at hc2;dsimp only[aY]at ho2 hc2 hB2 hlt;go_wp2_with(at_builtin;refine wpList_append_own _ rfl _ _ 79 rfl w.heap.size 82 i0 (.agg #[.bool false,.int .u32 0,.int .u32 0]) 3 12 Tryz.underlying79 hi hz0 hz1 hz2 rfl (by decide) u4 k (RC L) rfl ho2 ⟨W1.heap.size+1,0,none⟩ 1 1 (RC [(o,a,s)]) rfl rfl hc2 (nM o a s) ?c1 ?c2 ?c3 ?_)
   case c1=>unfold maxLen;omega
   case c2=>omega
   case c3=>simp;omega
   intro v' W3 ho3 hg3 _;have hB3:=hB2.grown hg3 hB2.size (λk hk=>(hlt k hk).1);clear ho2 hc2 hB2 hg3 hlt;go_wp2;go_roundw
   case rel=>
    refine⟨k+1,L++ [(o,a,s)],by rw[bU,hLk'.out];rfl,by omega,by go_num,?_,hB3,?_⟩
    ·rw[lq];exact ho3
    ·rw[hj'.out,hst.out,List.append_assoc];rfl
   case measure=>simp[intOf];omega
def pY(x:Bool×Int×Int):List Int:=zV x.1 x.2.1 x.2.2
def norm(x:Bool×Int×Int):Bool×Int×Int:=(x.1,if x.1 then 0 else x.2.1,x.2.2)
def bD(L:List (Bool×Int×Int)):List Int:=L.flatMap pY
def qg(L:List (Bool×Int×Int)):Prop:=∀x∈L,(0<=x.2.1∧x.2.1<4294967296)∧0<=x.2.2∧x.2.2<4294967296
theorem iE(L:List (Bool×Int×Int)):(bD L).length=13 * L.length:=by
 induction L with
 |nil=>rfl
 |cons a L ih=>
  simp only[bD,List.flatMap_cons,bU,dZ]at ih ⊢;rw[ih,show(pY a).length=13 from rfl];omega
theorem kL(a b:List (Bool×Int×Int)):bD (a++b)=bD a++bD b:=by simp[bD]
theorem Kb(x:Bool×Int×Int)(L:List (Bool×Int×Int)):bD (x::L)=pY x++bD L:=rfl
theorem EW{L:List (Bool×Int×Int)}(h:qg L):∀x∈bD L,0<=x∧x<=255:=by
 intro x hx;simp only[bD,List.mem_flatMap]at hx;obtain⟨y,hy,hx⟩:=hx;have:=h y hy;exact QD this.1.1 this.1.2 this.2.1 this.2.2 x hx
theorem RA(n:Int):n4 (n / 16777216) (n / 65536%256) (n / 256%256) (n%256)=n:=by
 unfold n4;omega
theorem QJ(x:Bool×Int×Int)(ys:List Int):rO (pY x++ys)=x.1:=by
 obtain⟨o,a,s⟩:=x;cases o<;>rfl
theorem QK(x:Bool×Int×Int)(ys:List Int):rA (pY x++ys)=if x.1 then 0 else x.2.1:=by
 obtain⟨o,a,s⟩:=x;cases o
 ·exact RA a
 ·rfl
theorem QI(x:Bool×Int×Int)(ys:List Int):rS (pY x++ys)=x.2.2:=by
 obtain⟨o,a,s⟩:=x;exact RA s
theorem NJ(x:Bool×Int×Int):zV x.1 (if x.1 then 0 else x.2.1) x.2.2=pY x:=by
 obtain⟨o,a,s⟩:=x;cases o<;>rfl
theorem Ws(x:Bool×Int×Int)(ys:List Int):BR (pY x++ys)=true:=by
 have hl:(pY x).length=13:=rfl;unfold BR;rw[QJ,QK,QI,NJ,List.take_append_of_le_length (by omega),kN (by omega),f_ rfl,Bool.and_true];exact f_ (by rw[bU];omega)
theorem N_{xs:List Int}(h:xs.length<13):BR xs=false:=by
 unfold BR;rw[eU (by omega),Bool.false_and]
theorem QF(L:List (Bool×Int×Int))(r:List Int)(hr:BR r=false):∀f,(bD L++r).length<=f->JE f (bD L++r)=L.map norm:=by
 induction L with
 |nil=>
  intro f _;simp only[bD,List.flatMap_nil,List.nil_append,List.map_nil];exact QE hr f
 |cons x L ih=>
  intro f hf;have hl:(pY x).length=13:=rfl;have he:bD (x::L)++r=pY x++(bD L++r):=by simp[bD]
  rw[he]at hf ⊢;rw[Lf (Ws x _) hf,QJ,QK,QI];rw[List.drop_append_of_le_length (by omega),List.drop_of_length_le (by omega),List.nil_append,ih _ (by rw[bU,hl]at hf;omega)];rfl
theorem L9(L:List (Bool×Int×Int))(r:List Int)(hr:BR r=false):jl (bD L++r)=L.map norm:=QF L r hr _ (aB _)
theorem ul(L:List (Bool×Int×Int)):jl (bD L)=L.map norm:=by
 have:=L9 L [] rfl
 rwa [fw]at this
theorem Ig(L:List (Bool×Int×Int))(k:Nat)(hk:k<13 * L.length):
  ∃x,L[k / 13]?=some x∧bD L=bD (L.take (k / 13))++(pY x++bD (L.drop (k / 13+1))):=by
 have hq:k / 13<L.length:=by omega
 refine⟨L[k / 13],bS hq,?_⟩;have e:L=L.take (k / 13)++L[k / 13]::L.drop (k / 13+1):=by
  rw[List.getElem_cons_drop,List.take_append_drop]
 conv=>lhs;rw[e]
 rw[kL,Kb]
theorem ZU(L:List (Bool×Int×Int))(k:Nat)(hk:k<13 * L.length):jl ((bD L).take k)=(L.take (k / 13)).map norm:=by
 obtain⟨x,_,he⟩:=Ig L k hk;have hl:(bD (L.take (k / 13))).length=13 * (k / 13):=by
  rw[iE,List.length_take,Nat.min_eq_left (by omega)]
 rw[he,List.take_append,kN (by omega)];refine L9 _ _ (N_ ?_);rw[List.length_take,hl];omega
variable{f:Int->Option Int}{c:Option Int}
def stepM(f:Int->Option Int)(r:Bool×Int×Int):Int->Option Int:=if r.1 then f else lX f r.2.1 (some (max ((f r.2.1).getD 0) r.2.2))
def pX(c:Option Int)(r:Bool×Int×Int):Option Int:=if r.1 then some (max (c.getD 0) r.2.2)else c
def BU(L:List (Bool×Int×Int)):Int->Option Int:=L.foldl stepM λ_=>none
def sD(L:List (Bool×Int×Int)):Option Int:=L.foldl pX none
theorem GK(L:List (Bool×Int×Int))(r:Bool×Int×Int):BU (L++ [r])=stepM (BU L) r:=by simp[BU]
theorem Ab(L:List (Bool×Int×Int))(r:Bool×Int×Int):sD (L++ [r])=pX (sD L) r:=by simp[sD]
def dO:Option Int->List (Bool×Int×Int)
 |none=> []
 |some s=> [(true,0,s)]
def iD(f:Int->Option Int)(ss:List Int):List (Bool×Int×Int):=ss.map λa=>(false,a,(f a).getD 0)
def kg(f:Int->Option Int)(c:Option Int)(out:List (Bool×Int×Int)):Prop:=
 ∃ss:List Int,ss.Pairwise (·<·)∧(∀a,a∈ss ↔ (f a).isSome=true)∧out=dO c++iD f ss
theorem C8{l l':List Int}(h:l.Pairwise (·<·))(h':l'.Pairwise (·<·))(hm:∀a,a∈l ↔ a∈l'):l=l':=by
 have n1:l.Nodup:=h.imp (λhab=>by omega);have n2:l'.Nodup:=h'.imp (λhab=>by omega);have hp:=(List.perm_ext_iff_of_nodup n1 n2).2 hm;refine List.Perm.eq_of_pairwise (le:=λa b=>a<b) (λa b _ _ h1 h2=>by omega) h h' hp
theorem kg.unique{o1 o2:List (Bool×Int×Int)}(h1:kg f c o1)(h2:kg f c o2):o1=o2:=by
 obtain⟨s1,p1,m1,rfl⟩:=h1;obtain⟨s2,p2,m2,rfl⟩:=h2;rw[C8 p1 p2 (λa=>by rw[m1,m2])]
def BP:List (Bool×Int×Int)->Bool×Int×Int->List (Bool×Int×Int)
 | [],r=> [r]
 |x::l,r=>if x.1=r.1∧x.2.1=r.2.1 then(x.1,x.2.1,max r.2.2 x.2.2)::l
  else if r.1=true∨(x.1=false∧x.2.1>r.2.1)then r::x::l
  else x::BP l r
def nC(a:Int):List Int->List Int
 | []=> [a]
 |x::l=>if x=a then x::l else if x>a then a::x::l else x::nC a l
theorem Ag(a:Int)(l:List Int)(b:Int):b∈nC a l ↔ b=a∨b∈l:=by
 induction l with
 |nil=>simp[nC]
 |cons x l ih=>
  unfold nC;split
  ·rename_i h;subst h;simp
  ·split
   ·simp
   ·simp[ih];constructor<;>rintro(h|h|h)<;>simp[h]
theorem L_(a:Int)(l:List Int)(h:l.Pairwise (·<·)):(nC a l).Pairwise (·<·):=by
 induction l with
 |nil=>simp[nC]
 |cons x l ih=>
  unfold nC;have hx:=List.pairwise_cons.1 h;split
  ·exact h
  ·split
   ·refine List.pairwise_cons.2 ⟨λb hb=> ?_,h⟩;rcases fE.1 hb with rfl|hb
    ·omega
    ·have:=hx.1 b hb;omega
   ·refine List.pairwise_cons.2 ⟨λb hb=> ?_,ih hx.2⟩;rcases(Ag a l b).1 hb with rfl|hb
    ·omega
    ·exact hx.1 b hb
theorem QM(f:Int->Option Int)(a s:Int)(ss:List Int)(h:ss.Pairwise (·<·))(hm:∀b∈ss,(f b).isSome=true)(hf:a ∉ ss->(f a).getD 0<=s):
  BP (iD f ss) (false,a,s)=iD (lX f a (some (max ((f a).getD 0) s))) (nC a ss):=by
 induction ss with
 |nil=>
  have:=hf (by simp);simp[iD,BP,nC,lX];omega
 |cons x l ih=>
  have hx:=List.pairwise_cons.1 h;have hother:∀m:List Int,(∀b∈m,b≠a)->iD (lX f a (some (max ((f a).getD 0) s))) m=iD f m:=by
   intro m hmm;unfold iD;refine List.map_congr_left λb hb=> ?_;simp[lX,hmm b hb]
  simp only[iD,List.map_cons,BP,nC];by_cases e:x=a
  ·subst e;simp only[and_self,if_true];rw[List.map_cons];have:=hother l (λb hb=>by have:=hx.1 b hb;omega);simp only[iD]at this;rw[this];simp[lX];omega
  ·simp only[e,and_false,if_false,Bool.false_eq_true,false_or,true_and];by_cases g:x>a
   ·simp only[g,if_true];have hn:a ∉ x::l:=by
     intro hb;rcases fE.1 hb with hb|hb
     ·omega
     ·have:=hx.1 a hb;omega
    have h1:=hother (x::l) (λb hb=>by rintro rfl;exact hn hb);simp only[iD]at h1;rw[List.map_cons,h1];have:=hf hn;simp[lX];omega
   ·simp only[g,if_false];have h1:=hother [x] (by simp;exact e);simp only[iD,List.map_cons,List.map_nil,List.cons.injEq,and_true]at h1;have:=ih hx.2 (λb hb=>hm b (by simp[hb])) (λhn=>hf (by simp;exact⟨λe'=>e e'.symm,hn⟩));simp only[iD]at this;rw[List.map_cons,h1,this]
theorem kg.put{out:List (Bool×Int×Int)}(h:kg f c out)(r:Bool×Int×Int)(hs:0<=r.2.2):kg (stepM f r) (pX c r) (BP out (norm r)):=by
 obtain⟨ss,hp,hm,rfl⟩:=h;obtain⟨o,a,s⟩:=r;cases o
 ·refine⟨nC a ss,L_ a ss hp,λb=> ?_,?_⟩
  ·rw[Ag,hm];by_cases e:b=a
   ·simp[stepM,lX,e]
   ·simp[stepM,lX,e]
  ·have hq:=QM f a s ss hp (λb hb=>(hm b).1 hb) (λhn=>by
    have:f a=none:=by
     cases hfa:f a with
     |none=>rfl
     |some v=>exact absurd ((hm a).2 (by simp[hfa])) hn
    simp[this];exact hs)
   cases c with
   |none=>simpa[dO,pX,stepM,norm]using hq
   |some t=>
    simp only[dO,pX,stepM,norm,List.cons_append,List.nil_append,BP,Bool.false_eq_true,if_false];simp only[Bool.true_eq_false,false_and,if_false,or_self];rw[hq]
 ·refine⟨ss,hp,λb=>by simpa[stepM]using hm b,?_⟩;simp only[stepM,pX,if_true,norm];cases c with
  |none=>
   simp only[dO,List.nil_append,Option.getD_none];rw[Int.max_eq_right hs];cases ss<;>simp[iD,BP]
  |some t=>simp[dO,BP,Int.max_comm]
theorem kg.nil:kg (λ_=>none) none []:=⟨[],List.Pairwise.nil,λa=>by simp,rfl⟩
def MB(f:Int->Option Int):Prop:=∀a v,f a=some v->a_ a∧a_ v
def OB(c:Option Int):Prop:=∀v,c=some v->a_ v
theorem DC{a b:Int}(h:a_ a)(h':a_ b):a_ (max a b):=by
 unfold a_ at *;omega
theorem MB.getD(h:MB f)(a:Int):a_ ((f a).getD 0):=by
 cases e:f a with
 |none=>simp[a_]
 |some v=>exact(h a v e).2
theorem OB.getD(h:OB c):a_ (c.getD 0):=by
 cases e:c with
 |none=>simp[a_]
 |some v=>exact h v e
theorem MB.step(h:MB f){r:Bool×Int×Int}(ha:a_ r.2.1)(hs:a_ r.2.2):MB (stepM f r):=by
 obtain⟨o,a,s⟩:=r;cases o
 ·intro b v hb;simp only[stepM,Bool.false_eq_true,if_false,lX]at hb;by_cases e:b=a
  ·simp only[e,if_true,Option.some.injEq]at hb;subst hb;exact⟨e▸ha,DC (h.getD a) hs⟩
  ·simp only[e,if_false]at hb;exact h b v hb
 ·exact h
theorem OB.step(h:OB c){r:Bool×Int×Int}(hs:a_ r.2.2):OB (pX c r):=by
 obtain⟨o,a,s⟩:=r;cases o
 ·exact h
 ·intro v hv;simp only[pX,if_true,Option.some.injEq]at hv;subst hv;exact DC h.getD hs
variable{d:Int}
def Be(k:Int):Prop:=0<=k∧k<=18446744073709551615
structure Rt where
 dest:Int
 seq:Int
 hops:Int
 next:Int
 valid:Bool
 exp:Int
 bL:List Int
structure Rt.Ok(x:Rt):Prop where
 dest:a_ x.dest
 seq:a_ x.seq
 hops:oV x.hops
 next:a_ x.next
 exp:Be x.exp
 Ue:x.bL.length<=4
 bL:∀b∈x.bL,a_ b
 yE:x.bL.Pairwise (·<·)
def gr(s:Int):Int:=max s ((s+1)%4294967296)
theorem uz{s:Int}(h:a_ s):a_ (gr s):=by unfold a_ gr at *;omega
def rk(x:Rt):Int:=if x.valid then x.seq else x.seq - 1
def Va(x y:Rt):Bool:=if rk x=rk y then decide (x.hops<y.hops)else decide (rk x>rk y)
theorem XA(x y:Rt):(!Va x y)=(decide (rk x<rk y)||(decide (rk x=rk y)&&decide (x.hops>=y.hops))):=by
 unfold Va;by_cases h:rk x=rk y
 ·simp only[h,if_true,decide_true,Bool.true_and];by_cases h2:x.hops<y.hops
  ·simp[h2]
  ·simp[h2];omega
 ·simp only[h,if_false,decide_false,Bool.false_and,Bool.or_false];by_cases h2:rk x>rk y
  ·simp[h2];omega
  ·simp[h2];omega
def vS(x:Rt)(s:Int):Rt:={x with seq:=max (gr x.seq) s,valid:=false,exp:=0,bL:=[]}
theorem vR{x:Rt}(h:x.Ok){s:Int}(hs:a_ s):(vS x s).Ok:=
 ⟨h.dest,DC (uz h.seq) hs,h.hops,h.next,by simp[vS,Be],by simp[vS],by simp[vS],by simp[vS]⟩
def Asc(A:List Rt):Prop:=A.Pairwise λx y=>x.dest<y.dest
def pos:List Rt->Int->Nat
 | [],_=>0
 |x::A,d=>if x.dest<d then pos A d+1 else 0
def aK(A:List Rt)(d:Int):Option Rt:=A.find? λx=>x.dest==d
def gK(A:List Rt)(d:Int)(f:Rt->Rt):List Rt:=A.map λx=>if x.dest=d then f x else x
def um(A:List Rt)(x:Rt):List Rt:=A.take (pos A x.dest)++x::A.drop (pos A x.dest)
theorem Zv(A:List Rt)(d:Int):pos A d<=A.length:=by
 induction A with
 |nil=>simp[pos]
 |cons x A ih=>unfold pos;split<;>simp<;>omega
theorem Zu(A:List Rt)(d:Int):∀j,j<pos A d->∃x,A[j]?=some x∧x.dest<d:=by
 induction A with
 |nil=>intro j hj;simp[pos]at hj
 |cons x A ih=>
  intro j hj;unfold pos at hj;split at hj
  ·rename_i h;cases j with
   |zero=>exact⟨x,rfl,h⟩
   |succ j=>simpa using ih j (by omega)
  ·omega
theorem QT{A:List Rt}{x:Rt}(h:A[pos A d]?=some x):d<=x.dest:=by
 induction A with
 |nil=>simp at h
 |cons y A ih=>
  unfold pos at h;split at h
  ·rename_i hy;exact ih (by simpa using h)
  ·rename_i hy;simp at h;subst h;omega
theorem Asc.get{A:List Rt}(h:Asc A){i j:Nat}{x y:Rt}(hi:A[i]?=some x)(hj:A[j]?=some y)(hij:i<j):x.dest<y.dest:=by
 obtain⟨h1,rfl⟩:=fO.1 hi;obtain⟨h2,rfl⟩:=fO.1 hj;exact List.pairwise_iff_getElem.1 h i j h1 h2 hij
theorem Asc.inj{A:List Rt}(h:Asc A){x y:Rt}(hx:x∈A)(hy:y∈A)(he:x.dest=y.dest):x=y:=by
 obtain⟨i,hi⟩:=List.getElem?_of_mem hx;obtain⟨j,hj⟩:=List.getElem?_of_mem hy;rcases Nat.lt_trichotomy i j with hij|hij|hij
 ·have:=h.get hi hj hij;omega
 ·subst hij;rw[hi]at hj;cases hj;rfl
 ·have:=h.get hj hi hij;omega
theorem dA{A:List Rt}{x:Rt}(h:aK A d=some x):x∈A∧x.dest=d:=by
 unfold aK at h;exact⟨List.mem_of_find?_eq_some h,by simpa using List.find?_some h⟩
theorem uj{A:List Rt}(h:Asc A){x:Rt}(hx:x∈A):aK A x.dest=some x:=by
 cases e:aK A x.dest with
 |none=>
  unfold aK at e;rw[List.find?_eq_none]at e;exact absurd (by simp) (e x hx)
 |some y=>
  have:=dA e;rw[h.inj this.1 hx this.2]
theorem j4{A:List Rt}:aK A d=none ↔ ∀x∈A,x.dest≠d:=by
 unfold aK;rw[List.find?_eq_none];simp
theorem jk(A:List Rt)(d:Int)(f:Rt->Rt):(gK A d f).length=A.length:=by simp[gK]
theorem oH{A:List Rt}(h:aK A d=none)(f:Rt->Rt):gK A d f=A:=by
 rw[j4]at h;unfold gK;conv=>rhs;rw[<-List.map_id A]
 exact List.map_congr_left λx hx=>by simp[h x hx]
theorem RD{A:List Rt}(h:Asc A){d:Int}{i:Nat}{x:Rt}(hi:A[i]?=some x)(hd:x.dest=d)(f:Rt->Rt):gK A d f=A.set i (f x):=by
 apply List.ext_getElem?;intro j;unfold gK;rw[l9,List.getElem?_set];by_cases hij:i=j
 ·subst hij;obtain⟨hl,rfl⟩:=fO.1 hi;rw[aI rfl,aI hl,bS hl,Option.map_some,aI hd]
 ·simp only[hij,if_false];cases e:A[j]? with
  |none=>rfl
  |some y=>
   simp only[Option.map_some];rw[ay];intro lS;rcases Nat.lt_or_gt_of_ne hij with hlt|hlt
   ·have:=h.get hi e hlt;omega
   ·have:=h.get e hi hlt;omega
theorem GL{A:List Rt}(h:Asc A)(d:Int)(f:Rt->Rt)(hf:∀x,(f x).dest=x.dest):Asc (gK A d f):=by
 unfold Asc gK;rw[List.pairwise_map];have hd:∀x:Rt,(if x.dest=d then f x else x).dest=x.dest:=by
  intro x;split
  ·exact hf x
  ·rfl
 refine h.imp λ{x y} hxy=> ?_;rw[hd,hd];exact hxy
theorem vD{A:List Rt}{f:Rt->Rt}{y:Rt}(hy:y∈gK A d f):(∃x∈A,x.dest=d∧y=f x)∨(y∈A∧y.dest≠d):=by
 unfold gK at hy;obtain⟨x,hx,rfl⟩:=dW.1 hy;by_cases e:x.dest=d
 ·exact .inl ⟨x,hx,e,by simp[e]⟩
 ·refine .inr ?_;simp only[e,if_false];exact⟨hx,e⟩
theorem nO(A:List Rt)(x:Rt):(um A x).length=A.length+1:=by
 have:=Zv A x.dest;simp[um];omega
theorem qP{A:List Rt}{x y:Rt}:y∈um A x ↔ y=x∨y∈A:=by
 unfold um;rw[fu,fE];constructor
 ·rintro(h|h|h)
  ·exact .inr (List.mem_of_mem_take h)
  ·exact .inl h
  ·exact .inr (List.mem_of_mem_drop h)
 ·rintro(h|h)
  ·exact .inr (.inl h)
  ·rw[<-List.take_append_drop (pos A x.dest) A]at h;rcases fu.1 h with h|h
   ·exact .inl h
   ·exact .inr (.inr h)
theorem R_{A:List Rt}(h:Asc A){x:Rt}(hx:aK A x.dest=none):Asc (um A x):=by
 have hn:=j4.1 hx;unfold Asc um;rw[List.pairwise_append];refine⟨h.sublist (List.take_sublist _ _),?_,?_⟩
 ·rw[List.pairwise_cons];refine⟨λy hy=> ?_,h.sublist (List.drop_sublist _ _)⟩;obtain⟨j,hj⟩:=List.getElem?_of_mem hy;rw[List.getElem?_drop]at hj;have hne:=hn y (iV hj);rcases Nat.eq_zero_or_pos j with e|e
  ·subst e;have:=QT hj;omega
  ·cases e0:A[pos A x.dest]? with
   |none=>
    have:=List.getElem?_eq_none_iff.1 e0;have:=(fO.1 hj).1;omega
   |some z=>
    have h1:=QT e0;have h2:=h.get e0 hj (by omega);omega
 ·intro y hy z hz;obtain⟨j,hj⟩:=List.getElem?_of_mem hy;rw[List.getElem?_take]at hj;split at hj
  ·rename_i hjp;obtain⟨w,hw,hl⟩:=Zu A x.dest j hjp;rw[hj]at hw;cases hw;rcases fE.1 hz with rfl|hz
   ·exact hl
   ·obtain⟨i,hi⟩:=List.getElem?_of_mem hz;rw[List.getElem?_drop]at hi;exact h.get hj hi (by omega)
  ·cases hj
open Go.Maps
variable{f:Int->Option Nat}{M s:Nat}{W:World}
def D7(v:Value):Option (DataW Unit×List MemPlace):=
 match v with
 | .pointer none=>some (.lit (.int .i64 (-1)),[])
 | .pointer (some ⟨b,0,none⟩)=>some (.lit (.int .i64 b),[])
 |_=>none
def gJ:Option Nat->Value
 |none=> .pointer none
 |some b=> .pointer (some ⟨b,0,none⟩)
def lK:Option Nat->Int
 |none=>-1
 |some b=>b
theorem o_(o:Option Nat):D7 (gJ o)=some (.lit (.int .i64 (lK o)),[]):=by cases o<;>rfl
theorem ve{v:Value}{o:Option Nat}{ps:List MemPlace}(h:D7 v=some (.lit (.int .i64 (lK o)),ps)):v=gJ o:=by
 unfold D7 at h;split at h
 ·simp only[Option.some.injEq,Prod.mk.injEq,DataW.lit.injEq,Lit.int.injEq,true_and]at h;cases o with
  |none=>rfl
  |some b=>
   have:=h.1;simp only[lK]at this;omega
 ·rename_i b;simp only[Option.some.injEq,Prod.mk.injEq,DataW.lit.injEq,Lit.int.injEq,true_and]at h;cases o with
  |none=>
   have:=h.1;simp only[lK]at this;omega
  |some c=>
   have:=h.1;simp only[lK]at this;obtain rfl:b=c:=by omega
   rfl
 ·cases h
theorem K5(w:World):(zeroValue 161).run Tryz.prog w=.ok (.pointer none) w:=by kernel_rfl
def eY(f:Int->Option Nat)(k:Int)(v:Option Nat):Int->Option Nat:=λx=>if x=k then v else f x
def fG(W:World)(M:Nat)(f:Int->Option Nat)(s:Nat):Prop:=
 ∃D:DataW Unit,W.ownsMap Tryz.prog 34 D7 M s D∧Maps.size D=s∧
  ∀k,a_ k->Maps.has D (.int .u32 k)=(f k).isSome∧D.atKey (.int .u32 k) (.lit (.int .i64 (-1)))=.lit (.int .i64 (lK (f k)))
theorem fG.block{W':World}(h:fG W M f s)(he:W'.heap[M]?=W.heap[M]?):fG W' M f s:=by
 obtain⟨D,⟨es,clock,hb,Ft,hs,hD⟩,h2,h3⟩:=h;exact⟨D,⟨es,clock,he.trans hb,Ft,hs,hD⟩,h2,h3⟩
theorem fG.lt(h:fG W M f s):M<W.heap.size:=by
 obtain⟨D,h1,_⟩:=h;exact h1.lt
theorem fG.made(w:World):fG (w.alloc (.map #[] 0)) w.heap.size (λ_=>none) 0:=
 ⟨.map [],World.ownsMap_made w _ _ _,rfl,λ_ _=>⟨rfl,rfl⟩⟩
theorem fG.put(h:fG W M f s)(hs:s<maxLen){k:Int}(hk:a_ k)(B:Nat):
  ∃W',(Instr.mapUpdate 156 (.map (some M)) (.int .u32 k) (.pointer (some ⟨B,0,none⟩))).run Tryz.prog W=.ok () W'∧fG W' M (eY f k (some B)) (if (f k).isSome then s else s+1)∧W.grownBy W' (some M):=by
 obtain⟨D,h1,h2,h3⟩:=h;obtain⟨W',hr,ho,ht⟩:=h1.store gu Tryz.underlying156 hs hk.key (o_ (some B));have hm:=h1.isMap;have htd:=h1.tidy gu;have hkl:WideAt.IsKeyLit (.int .u32 k):=by trivial
 have hsz:Maps.size (D.put (.int .u32 k) (.lit (.int .i64 (lK (some B)))))=if (f k).isSome then s else s+1:=by
  rw[size_put htd,(h3 k hk).1,h2]
 refine⟨W',hr,⟨_,?_,hsz,λx hx=> ?_⟩,ht.grown⟩
 ·have:=fU ho;rw[hsz]at this;exact this
 ·by_cases e:x=k
  ·subst e;refine⟨by rw[has_put_same hm hkl];simp[eY],?_⟩;rw[atKey_put_same hm hkl];simp[eY]
  ·have hne:(Lit.int .u32 x)≠ .int .u32 k:=λh=>e (by cases h;rfl);refine⟨by rw[has_put_other hne];simp[eY,e,(h3 x hx).1],?_⟩;rw[atKey_put_other hne,(h3 x hx).2];simp[eY,e]
theorem fG.look(h:fG W M f s){k:Int}(hk:a_ k):
  (Instr.lookup 156 (.map (some M)) (.int .u32 k) false).run Tryz.prog W=.ok (gJ (f k)) W:=by
 obtain⟨D,h1,h2,h3⟩:=h;obtain⟨v,ps,hr,hv⟩:=h1.lookup gu Tryz.underlying156 (K5 W) (o_ none) hk.key;have h4:=(h3 k hk).2;simp only[lK]at hv h4;rw[h4]at hv;rw[hr,ve (o:=f k) hv]
theorem fG.look_ok(h:fG W M f s){k:Int}(hk:a_ k):
  (Instr.lookup 156 (.map (some M)) (.int .u32 k) true).run Tryz.prog W=.ok (.tuple #[gJ (f k),.bool (f k).isSome]) W:=by
 obtain⟨D,h1,h2,h3⟩:=h;obtain⟨v,ps,hr,hv⟩:=h1.look_ok gu Tryz.underlying156 (K5 W) (o_ none) hk.key;have h4:=(h3 k hk).2;simp only[lK]at hv h4;rw[h4]at hv;rw[hr,ve (o:=f k) hv,(h3 k hk).1]
theorem fG.len(h:fG W M f s)(ty:TypeId):
  (Builtin.len_ #[156] ty #[.map (some M)]).run Tryz.prog W=.ok (.int .i64 s) W:=by
 obtain⟨D,h1,h2,h3⟩:=h;rw[h1.len Tryz.underlying156 ty,h2]
theorem KD(L:List (Bool×Int×Int)):∀u∈RC L,u.oneCell'=true:=by
 intro u hu;simp only[RC,List.mem_flatMap,fE,List.not_mem_nil,or_false]at hu;obtain⟨x,_,rfl|rfl|rfl⟩:=hu<;>rfl
theorem qx.kept{B:Nat}{o:Bool}{a s:Int}{W W':World}{r:Option Nat}(h:qx B o a s W)(hg:W.grownBy W' r)(hr:some B≠r):qx B o a s W':=(hg.block B h.lt hr).trans h
theorem below_grown{A B:World}(h:Below A.heap.size A B)(r:Option Nat):A.grownBy B r:=⟨h.os,h.tape,h.output,h.size,λk hk _=>h.block k hk⟩
variable{self:Int}{B M T:Nat}{x:Rt}{v:Value}{W W':World}
@[reducible] def Ja(x : Rt)(v : Value): Value := .agg #[.int .u32 x.dest, .int .u32 x.seq, .int .i64 x.hops, .int .u32 x.next, .bool x.valid, .int .u64 x.exp, v]
@[reducible] def cK(x : Rt)(v : Value): Obj := .cells #[.int .u32 x.dest, .int .u32 x.seq, .int .i64 x.hops, .int .u32 x.next, .bool x.valid, .int .u64 x.exp, v] 38
def eD(B:Nat)(x:Rt)(v:Value)(W:World):Prop:=W.heap[B]?=some (cK x v)
theorem eD.cell(h:eD B x v W):
  W.cell? ⟨B,0,none⟩=some (.int .u32 x.dest)∧W.cell? ⟨B,1,none⟩=some (.int .u32 x.seq)∧W.cell? ⟨B,2,none⟩=some (.int .i64 x.hops)∧W.cell? ⟨B,3,none⟩=some (.int .u32 x.next)∧W.cell? ⟨B,4,none⟩=some (.bool x.valid)∧W.cell? ⟨B,5,none⟩=some (.int .u64 x.exp)∧W.cell? ⟨B,6,none⟩=some v:=
 ⟨aJ W B 0 _ _ _ h,aJ W B 1 _ _ _ h,aJ W B 2 _ _ _ h,aJ W B 3 _ _ _ h,aJ W B 4 _ _ _ h,aJ W B 5 _ _ _ h,aJ W B 6 _ _ _ h⟩
theorem eD.free(h:eD B x v W)(i:Nat):W.frozen? ⟨B,i,none⟩=false:=by
 unfold eD at h;simp[World.frozen?,h]
theorem eD.lt(h:eD B x v W):B<W.heap.size:=(iA.1 h).1
theorem eD.block(h:eD B x v W)(he:W'.heap[B]?=W.heap[B]?):eD B x v W':=he.trans h
theorem eD.later(h:eD B x v W)(hb:Below W.heap.size W W'):eD B x v W':=h.block (hb.block B h.lt)
theorem eD.new(x:Rt)(v:Value)(W:World):eD W.heap.size x v (W.alloc (cK x v)):=bV W _
theorem eD.set1(h:eD B x v W)(s:Int):eD B {x with seq:=s} v (W.setCell ⟨B,1,none⟩ (.int .u32 s)):=by
 unfold eD at h ⊢;simp[World.setCell,d_,h]
theorem eD.adx(h:eD B x v W)(s:Bool):eD B {x with valid:=s} v (W.setCell ⟨B,4,none⟩ (.bool s)):=by
 unfold eD at h ⊢;simp[World.setCell,d_,h]
theorem eD.NC(h:eD B x v W)(s:Int):eD B {x with exp:=s} v (W.setCell ⟨B,5,none⟩ (.int .u64 s)):=by
 unfold eD at h ⊢;simp[World.setCell,d_,h]
theorem eD.Zp(h:eD B x v W)(u:Value)(l:List Int):eD B {x with bL:=l} u (W.setCell ⟨B,6,none⟩ u):=by
 unfold eD at h ⊢;simp[World.setCell,d_,h]
def FP(T:Nat)(self:Int)(M:Nat)(W:World):Prop:=W.heap[T]?=some (.cells #[.int .u32 self,.map (some M)] 158)
theorem FP.cell(h:FP T self M W):W.cell? ⟨T,0,none⟩=some (.int .u32 self)∧W.cell? ⟨T,1,none⟩=some (.map (some M)):=
 ⟨aJ W T 0 _ _ _ h,aJ W T 1 _ _ _ h⟩
theorem FP.lt(h:FP T self M W):T<W.heap.size:=(iA.1 h).1
theorem FP.block(h:FP T self M W)(he:W'.heap[T]?=W.heap[T]?):FP T self M W':=he.trans h
theorem oK(x:Int)(w:World):Calls Tryz.prog 42 #[.int .u32 x] w λe w'=>e=.returned (.int .u32 (gr x))∧w'=w:=by
 have hm:Hid (∀y:Int,y=gr x->Ending.returned (.int .u32 y)=.returned (.int .u32 (gr x))):=λy h=>by rw[h]
 go_enter Tryz.func42,Tryz.ntmps42;go_wp2;all_goals
  go_ret;refine⟨hm.out _ ?_,rfl⟩;unfold gr;omega
theorem yu(a b c d:Int)(w:World):Calls Tryz.prog 180 #[.agg #[.int .i64 a,.int .i64 b],.agg #[.int .i64 c,.int .i64 d]] w λe w'=>e=.returned (.bool (if a=c then decide (b<d)else decide (a>c)))∧Below w.heap.size w w':=by
 have hb:Below w.heap.size w ((w.alloc (.cells #[.int .i64 a,.int .i64 b] 283)).alloc (.cells #[.int .i64 c,.int .i64 d] 283)):=(bC).alloc (by simp) _;by_cases h:a=c
 ·subst h;rw[aI rfl];go_enter Tryz.func180,Tryz.ntmps180;go_wp2;go_ret;exact⟨rfl,hb⟩
 ·have hd:(a==c)=false:=by simpa using h
  rw[ay h];go_enter Tryz.func180,Tryz.ntmps180;go_wp2;go_ret;exact⟨rfl,hb⟩
theorem o8(x:Rt)(hx:a_ x.seq)(v:Value)(w:World):Calls Tryz.prog 179 #[Ja x v] w λe w'=>e=.returned (.agg #[.int .i64 (rk x),.int .i64 x.hops])∧Below w.heap.size w w':=by
 unfold a_ at hx;have hs:IntKind.i64.wrap x.seq=x.seq:=by rw[IntKind.wrap_i64];omega
 have hs1:IntKind.i64.wrap (x.seq - 1)=x.seq - 1:=by rw[IntKind.wrap_i64];omega
 have hb:∀u,Below w.heap.size w ((w.alloc (cK x v)).alloc (.cells u 283)):=λu=>(bC).alloc (by simp) _;obtain⟨xd,xq,xh,xn,xv,xe,xb⟩:=x;dsimp only[cK]at hs hs1 hb;cases xv
 ·go_enter Tryz.func179,Tryz.ntmps179;go_wp2;exact bodyPost_ret (v:=.agg #[.int .i64 (xq - 1),.int .i64 xh]) (by simp[results,Tryz.results179,go_sem]) rfl ⟨rfl,hb _⟩
 ·go_enter Tryz.func179,Tryz.ntmps179;go_wp2;exact bodyPost_ret (v:=.agg #[.int .i64 xq,.int .i64 xh]) (by simp[results,Tryz.results179,go_sem]) rfl ⟨rfl,hb _⟩
theorem Ic(T M s:Nat)(self:Int)(f:Int->Option Nat)(w:World)(hT:FP T self M w)(hm:fG w M f s):Calls Tryz.prog 70 #[.pointer (some ⟨T,0,none⟩)] w λe w'=>e=.returned (.bool (decide (8<=s)))∧w'=w:=by
 obtain⟨c0,c1⟩:=hT.cell;have hl:=hm.len;go_enter Tryz.func70,Tryz.ntmps70;go_wp2;go_ret;refine⟨?_,rfl⟩;have:decide (8<=(s:Int))=decide (8<=s):=decide_eq_decide.2 (by omega);simp[this]
theorem Jl(T M s:Nat)(self:Int)(f:Int->Option Nat)(d:Int)(hd:a_ d)(hf:f d=none)(w:World)(hT:FP T self M w)(hm:fG w M f s):Calls Tryz.prog 116 #[.pointer (some ⟨T,0,none⟩),.int .u32 d] w λe w'=>e=.returned (.pointer none)∧w'=w:=by
 obtain⟨c0,c1⟩:=hT.cell;have hl:=hm.look hd;rw[hf]at hl;simp only[gJ]at hl;go_enter Tryz.func116,Tryz.ntmps116;go_wp2;go_ret;exact⟨rfl,rfl⟩
theorem Jk(T M s B:Nat)(self:Int)(f:Int->Option Nat)(d:Int)(hd:a_ d)(hf:f d=some B)(x:Rt)(v:Value)(w:World)(hT:FP T self M w)(hm:fG w M f s)(hx:eD B x v w):Calls Tryz.prog 116 #[.pointer (some ⟨T,0,none⟩),.int .u32 d] w λe w'=>e=.returned (.pointer (if x.valid then some ⟨B,0,none⟩else none))∧w'=w:=by
 obtain⟨c0,c1⟩:=hT.cell;obtain⟨_,_,_,_,c4,_,_⟩:=hx.cell;have hl:=hm.look hd;rw[hf]at hl;simp only[gJ]at hl;obtain⟨xd,xq,xh,xn,xv,xe,xb⟩:=x;dsimp only at c4;cases xv
 ·go_enter Tryz.func116,Tryz.ntmps116;go_wp2;go_ret;exact⟨rfl,rfl⟩
 ·go_enter Tryz.func116,Tryz.ntmps116;go_wp2;go_ret;exact⟨rfl,rfl⟩
theorem G7(M:Nat)(w:World):
  Calls Tryz.prog 103 #[.map (some M)] w λe w'=>e=.returned (.func (.func 141) #[] #[.pointer (some ⟨w.heap.size,0,none⟩)])∧w'=w.alloc (.cells #[.map (some M)] 115):=by
 go_enter Tryz.func103,Tryz.ntmps103;go_wp2;go_ret;exact⟨rfl,rfl⟩
open Go.Sort
abbrev aX:Int->Value:=Value.int .u32
theorem AP{x y:Int}(h:aX x=aX y):x=y:=by simpa[aX]using h
theorem kV{P:Program}{k:TypeId}(hk:P.underlying k=some (.int .u32)){key:Value}{kl:Lit}(h:keyOf P k key=some kl):∃x:Int,key=aX x∧kl=.int .u32 x∧(Lit.int .u32 x).wf=true:=by
 cases key<;>simp[keyOf,hk,mapKey]at h
 rename_i q a;obtain⟨⟨rfl,hw⟩,rfl⟩:=h;exact⟨a,rfl,rfl,hw⟩
def gH{H:Type}(D0:DataW H)(left:Lit->Bool)(ss:List Int):Prop:=
 ss.Nodup∧(∀x∈ss,(Lit.int .u32 x).wf=true)∧∀x,x∈ss ↔ (has D0 (.int .u32 x)=true∧left (.int .u32 x)=false)
def wB{H:Type}(D0:DataW H)(ss:List Int):Prop:=
 ss.Nodup∧(∀x∈ss,(Lit.int .u32 x).wf=true)∧∀x,x∈ss ↔ has D0 (.int .u32 x)=true
section
variable {H:Type} {D0:DataW H} {left:Lit->Bool} {ss:List Int}
theorem gH.start(D0:DataW H):gH D0 (has D0) []:=⟨List.nodup_nil,by simp,λx=>by cases has D0 (.int .u32 x)<;>simp⟩
theorem gH.step(h:gH D0 left ss){x:Int}{y:DataW H}(hlk:left (.int .u32 x)=true)(hat:∀zd,D0.atKey (.int .u32 x) zd=y)(hw:(Lit.int .u32 x).wf=true):gH D0 (λz=>left z&&!z.sameKey (.int .u32 x)) (ss++ [x]):=by
 have hhas:has D0 (.int .u32 x)=true:=has_true_of_atKey hat;have hnew:x ∉ ss:=λhx=>by have:=((h.2.2 x).1 hx).2;rw[hlk]at this;cases this
 refine⟨List.nodup_append.2 ⟨h.1,by simp,λa ha b hb=>by simp at hb;subst hb;exact λe=>hnew (e▸ha)⟩,?_,λy=> ?_⟩
 ·intro a ha;rcases fu.1 ha with ha|ha
  ·exact h.2.1 a ha
  ·simp at ha;subst ha;exact hw
 ·by_cases hy:y=x
  ·subst hy;simp[hhas,Lit.sameKey]
  ·simp[h.2.2 y,hy,Lit.sameKey]
theorem gH.keys(h:gH D0 left ss)(hl:∀kl,left kl=false):wB D0 ss:=⟨h.1,h.2.1,λx=>by rw[h.2.2 x,hl];simp⟩
end
theorem Ng{H:Type}(F:Fence)(n:Nat)(h10:F.fn 141)(hro:F.round=none)(hn:1<=n)(l Bm b nn:Nat)(D0:DataW H){R:Value->Option (DataW H×List MemPlace)}(J:List Int->World->Prop)
  (hY:∀pre x W,J pre W->pre.length<Maps.size D0->YieldAt F (n - 1) Tryz.prog l #[aX x] W λe W'=>e=.returned (.bool true)∧J (pre++ [x]) W'∧KeepsWalks W W')
  (W:World) (hJ:AbidesFrom W.heap.size J) (hm:W.cell? ⟨Bm,0,none⟩=some (.map (some b))) (hown:W.ownsMap Tryz.prog 34 R b nn D0) (h0:J [] W):
  CallsIn F n Tryz.prog 141 #[.func (.yield l) #[] #[],.pointer (some ⟨Bm,0,none⟩)] W λe W'=>(∃v,e=.returned v)∧∃ss:List Int,wB D0 ss∧J ss W':=by
 refine callsIn_of_wp Tryz.func141 rfl h10 ?_ hro;simp only[Tryz.ntmps141,List.size_toArray,dZ,List.length_nil,Nat.reduceAdd,Nat.reduceSub,Array.replicate_succ,Array.replicate_zero,List.push_toArray,List.append_toArray,List.nil_append,List.cons_append]
 gi_wp2_with (first
  |(gi_at_range;refine wpListIn_range_own _ rfl _ 115 rfl 34 34 gu Tryz.underlying115 _ b nn _ rfl hown ?_;intro w0 hrg0 hg0 hs0)
  |gi_in)
 go_frame
 gi_loopw [3] (λ_ wr=>∃(left:Lit->Bool) (cnt:Nat) (ss:List Int),wr.ranges Tryz.prog 34 R b W.heap.size nn D0 left cnt∧ss.length+cnt<=Maps.size D0∧gH D0 left ss∧J ss wr)
  (λ_ wr=>wr.rangeLeft b W.heap.size)
 case atStart=>
  exact⟨_,_,[],hrg0,by simp,gH.start D0,hJ [] W w0 none h0 hg0 (λr e=>by cases e)⟩
 case round=>
  obtain⟨left,cnt,ss,hrg,hcs,hC,hJs⟩:=hrel
  gi_wp2_with (first
   |(gi_at_next;refine wpListIn_next_ranges _ rfl _ rfl 34 gu R aX id (λkey kl hk=>by obtain⟨x,hx,_⟩:=kV Tryz.underlying34 hk;exact⟨x,hx⟩) (λv _ _=>⟨v,rfl⟩) b W.heap.size nn _ _ _ rfl hrg ?_ ?_)
   |gi_in)
  ·intro hc0 hl0
   gi_wp2
   go_end0
   exact⟨⟨_,rfl⟩,ss,hC.keys hl0,hJs⟩
  ·intro x c kl yd yp w2 cnt2 hkey hlk hv hat hrg2 hlt hg2 hs2 hen;obtain⟨x',ex,rfl,hwf⟩:=kV Tryz.underlying34 hkey;obtain rfl:x=x':=AP ex;have hJ2:J ss w2:=hJ ss wr w2 (some W.heap.size) hJs hg2 (λr e=>by cases e;exact⟨aB _,hrg.iter_walk⟩);obtain⟨fn,tmps,assign,body,hy,hR⟩:=hY ss x w2 hJ2 (by omega);clear hs2
   gi_wp2
   refine hR.mono ?_;rintro e W3 ⟨rfl,hJ3,hk3⟩
   gi_wp2
   have hrg3:=hrg2.of_walks hk3;go_roundw
   case rel=>exact⟨_,cnt2,ss++ [x],hrg3,by simp;omega,hC.step hlk hat hwf,hJ3⟩
   case measure=>rw[hrg3.left_eq,hrg.left_eq];exact hlt
theorem FV{H:Type}(F:Fence)(n:Nat)(h10:F.fn 141)(hro:F.round=none)(hn:1<=n)(Bm b nn:Nat)(D0:DataW H){R:Value->Option (DataW H×List MemPlace)}(w:World)(hBm:Bm<w.heap.size)
  (hm:w.cell? ⟨Bm,0,none⟩=some (.map (some b))) (hown:w.ownsMap Tryz.prog 34 R b nn D0):
  SeqGives F n Tryz.prog 141 #[.pointer (some ⟨Bm,0,none⟩)] aX (wB D0) (Maps.size D0) w:=λl J W hW hJ hY h0=>by
 have hown':W.ownsMap Tryz.prog 34 R b nn D0:=by
  have hbl:=hown.lt;obtain⟨es,clock,hb,Ft,hs,hD⟩:=hown;exact⟨es,clock,(hW.block b hbl).trans hb,Ft,hs,hD⟩
 exact Ng F n h10 hro hn l Bm b nn D0 J hY W hJ ((hW.cell (p:=⟨Bm,0,none⟩) hBm).trans hm) hown' h0
theorem MapU.zh{W:World}{M:Nat}{f:Int->Option Int}{s:Nat}(h:MapU W M f s)(w:World)(Bm:Nat)(hBm:Bm<w.heap.size)(hm:w.cell? ⟨Bm,0,none⟩=some (.map (some M)))(hW:Below W.heap.size W w):
  SeqGives Fence.wide 1 Tryz.prog 141 #[.pointer (some ⟨Bm,0,none⟩)] aX (λss=>ss.Nodup∧∀x,x∈ss ↔ (a_ x∧(f x).isSome=true)) s w:=by
 obtain⟨D,h1,h2,h3⟩:=h;have hl:=h1.lt;have h1':w.ownsMap Tryz.prog 34 (plainElem Tryz.prog 34) M s D:=by
  obtain⟨es,clock,hb,Ft,hs,hD⟩:=h1;exact⟨es,clock,(hW.block M hl).trans hb,Ft,hs,hD⟩
 have hg:=FV Fence.wide 1 trivial rfl (aB _) Bm M s D w hBm hm h1';rw[h2]at hg;intro l J W' hW' hJ hY h0;refine(hg l J W' hW' hJ hY h0).mono ?_;rintro e W2 ⟨hv,ss,hk,hj⟩;refine⟨hv,ss,⟨hk.1,λx=> ?_⟩,hj⟩;constructor
 ·intro hx;have hw:=bounds_u32 (hk.2.1 x hx);have hU:a_ x:=⟨hw.1,by have:=hw.2;omega⟩;exact⟨hU,by rw[<-(h3 x hU).1];exact(hk.2.2 x).1 hx⟩
 ·rintro⟨hU,hs⟩;exact(hk.2.2 x).2 (by rw[(h3 x hU).1];exact hs)
open Go.RowKit Go.Maps Go.Sort
theorem qQ:(Tryz.prog.info? 34).map (λi=>(i.zero,i.size,i.bytes))=some (some (.int .u32 0),1,4):=by kernel_rfl
def apA:Code:=.region 2 #[{dst:=some 5,op:=.assign (.tmp 7),type:=34,pos:="iter.go:51",after:=#[],guard:=none}] false
def apB:Code:=.block 1 (.region 3 #[{dst:=some 8,op:=.load 36 (.tmp 2),type:=36,pos:="iter.go:52",after:=#[],guard:=none},{dst:=some 9,op:=.move (.tmp 5),type:=34,pos:="iter.go:52",after:=#[],guard:=none},{dst:=some 10,op:=.buildSlice 36 1 #[(0,.tmp 9)],type:=36,pos:="iter.go:52",after:=#[{on:=1,ground:=.data}],guard:=none},{dst:=some 11,op:=.call {callee:=.builtin .append,args:=#[.tmp 8,.tmp 10],argTypes:=#[36,36]},type:=36,pos:="iter.go:52",after:=#[{on:=0,ground:=.data},{on:=2,ground:=.data}],guard:=none},{dst:=none,op:=.store 36 (.tmp 2) (.tmp 11),type:=0,pos:="iter.go:52",after:=#[{on:=3,ground:=.data},{on:=3,ground:=.chain},{on:=0,ground:=.phase},{on:=1,ground:=.phase},{on:=2,ground:=.phase},{on:=3,ground:=.phase}],guard:=none}] false)
def apRec(fn:FuncId)(sv:Value)(Bs D:Nat)(st:LoopState)(pend:Option Code):Loop:=
 {state:=st,pending:=pend,fn,tmps:=#[.slice none 0 0,sv,.pointer (some ⟨Bs,0,none⟩),undef,.slice none 0 0,undef,sv,undef,undef,undef,undef,undef,undef],params:=#[7],assign:=apA,body:=apB,defers:=D}
structure ApAt(w0:World)(fn:FuncId)(sv:Value)(Bs l D:Nat)(ss:List Int)(W:World):Prop where
 box:∃v,W.heap[Bs]?=some (.cells #[v] 36 (0,0))∧W.ownsRow w0.heap.size 34 1 v ss.length (ss.map aX)∧(v=.slice none 0 0 ↔ ss=[])
 L:W.heap[l]?=some (.loop (apRec fn sv Bs D .ready none))
 K:W.heap[D]?=some (.deferred (some []))
 below:Below w0.heap.size w0 W
theorem ap_abides(w0:World)(fn:FuncId)(sv:Value)(Bs l D B:Nat)(hB:w0.heap.size<=B):AbidesFrom B (ApAt w0 fn sv Bs l D):=λs W W' row h hg hrow=>by
 have hrow':∀r,row=some r->∃o:Obj,W.heap[r]?=some o∧o.isWalk=true:=λr e=>(hrow r e).2;obtain⟨v,hv,hr,hn⟩:=h.box;exact⟨⟨v,(grownBy_keeps hg hrow' hv rfl).trans hv,ownsRow_abides_a hr hg hrow',hn⟩,(grownBy_keeps hg hrow' h.L rfl).trans h.L,(grownBy_keeps hg hrow' h.K rfl).trans h.K,
  h.below.grown hg h.below.size (λk e=>dN hB (hrow k e).1)⟩
theorem Ul(F:Fence)(m:Nat)(w0:World)(fn:FuncId)(hfn:F.fn fn)(sv:Value)(Bs l D:Nat)(hBl:Bs≠l)(hDl:D≠l)(hDB:D≠Bs)(h0B:w0.heap.size<=Bs)(h0l:w0.heap.size<=l)
  (N:Nat) (hN:N<=maxLen) (hNb:N * 4<=140737488355328) (ss:List Int) (x:Int) (W:World) (h:ApAt w0 fn sv Bs l D ss W) (hlen:ss.length<N):
  YieldAt F m Tryz.prog l #[aX x] W λe W'=>e=.returned (.bool true)∧ApAt w0 fn sv Bs l D (ss++ [x]) W'∧KeepsWalks W W':=by
 obtain⟨i0,hi,hz0,hz1,hz2⟩:=info_parts qQ;obtain⟨v,hv,hrow,_⟩:=h.box;refine⟨fn,#[.slice none 0 0,sv,.pointer (some ⟨Bs,0,none⟩),undef,.slice none 0 0,undef,sv,aX x,undef,undef,undef,undef,undef],apA,apB,by simpa[apRec]using run_yield (P:=Tryz.prog) (args:=#[aX x]) h.L rfl,roundIn_of_wpIn hfn ?_⟩;have hl:l<W.heap.size:=(iA.1 h.L).1;have hbr:=run_beginRound (P:=Tryz.prog) h.L rfl;obtain⟨W2,hW2⟩:∃W2,W.putObj l (.loop {apRec fn sv Bs D .ready none with state:=.busy})=W2:=⟨_,rfl⟩;rw[hW2]at hbr;have hg2:W.grownBy W2 (some l):=by rw[<-hW2];exact grownBy_putObj_a _ _ _
 have hk2:KeepsWalks W W2:=by rw[<-hW2];exact KeepsWalks.putObj _ h.L rfl
 have hv2:W2.heap[Bs]?=some (.cells #[v] 36 (0,0)):=by rw[<-hW2];exact(World.putObj_heap_other hBl).trans hv
 have hK2:W2.heap[D]?=some (.deferred (some [])):=by rw[<-hW2];exact(World.putObj_heap_other hDl).trans h.K
 have hL2:W2.heap[l]?=some (.loop {apRec fn sv Bs D .ready none with state:=.busy}):=by rw[<-hW2];exact World.putObj_heap_same hl
 have hrow2:W2.ownsRow w0.heap.size 34 1 v ss.length (ss.map aX):=hrow.kept hg2 (ownsRow_ne_a hrow h.L (λcur e=>by cases e));have hb2:Below w0.heap.size w0 W2:=h.below.grown hg2 h.below.size (λk e=>by cases e;exact h0l);obtain⟨hc2,hf2⟩:=cell_of_box_a hv2;have hBlt:Bs<W2.heap.size:=(iA.1 hv2).1;have hl2:l<W2.heap.size:=(iA.1 hL2).1;have hDlt:D<W2.heap.size:=(iA.1 hK2).1;have ne_of:∀ {j:Nat} {o:Obj},W2.heap[j]?=some o->(∀cur,o≠ .cells cur 34 (0,0))->some j≠v.ownBlock:=λhj hno=>by
  rcases ownsRow_ne_a hrow2 hj hno with e|e
  ·rw[e];simp
  ·exact λe'=>e e'.symm
 clear hW2;unfold apA
 gi_wp2_with (rw[Oper.semAt_eq _ _ _ (λc h=>by cases h)];go_simp;try go_bits)
 unfold apB
 gi_wp2_with (first
  |(gi_at_builtin;refine wpListIn_append_own _ rfl _ _ 36 rfl w0.heap.size 34 i0 (.int .u32 0) 1 4 Tryz.underlying36 hi hz0 hz1 hz2 rfl (by decide) _ _ _ rfl (hrow2.alloc _) ⟨W2.heap.size,0,none⟩ 1 1 [aX x] rfl rfl (cell_one_new _ _ _) (by simp[Value.oneCell',aX]) (by omega) (by omega) (by have:=hb2.size;simp;omega) ?_;intro v' w3 hown' hg3 hnil3;have hv3:w3.heap[Bs]?=some (.cells #[v] 36 (0,0)):=(hg3.block Bs (by simp;omega) (ne_of hv2 (λcur e=>by cases e))).trans ((Below.heap_alloc _ _ Bs hBlt).trans hv2);obtain⟨hc3,hf3⟩:=cell_of_box_a hv3;obtain⟨g',cap',cur',rfl,hbase',hgb',hr1,hr2,hr3,hr4⟩:∃g' cap' cur',v'=.slice (some ⟨g',0,none⟩) (ss.length+1) cap'∧w0.heap.size<=g'∧w3.heap[g']?=some (.cells cur' 34 (0,0))∧ss.length+1<=cap'∧cap'<=maxLen∧cur'.size=cap' * 1∧cur'.toList.take ((ss.length+1)* 1)=ss.map aX++ [aX x]:=(by rcases hown'.2 with⟨_,h0⟩|h'<;>first|exact absurd h0 (by omega)|exact h');go_frame)
  |(rw[Oper.semAt_eq _ _ _ (λc h=>by cases h)];go_simp;try go_bits))
 have hg3':(W2.alloc (.cells #[aX x] 34)).grownBy w3 v.ownBlock:=hg3;have hL3:w3.heap[l]?=some (.loop {apRec fn sv Bs D .ready none with state:=.busy}):=(hg3'.block l (by simp;omega) (ne_of hL2 (λcur e=>by cases e))).trans ((Below.heap_alloc _ _ l hl2).trans hL2);have hK3:w3.heap[D]?=some (.deferred (some [])):=(hg3'.block D (by simp;omega) (ne_of hK2 (λcur e=>by cases e))).trans ((Below.heap_alloc _ _ D hDlt).trans hK2);obtain⟨w4,hw4⟩:∃w4,w3.setCell ⟨Bs,0,none⟩ (.slice (some ⟨g',0,none⟩) (ss.length+1) cap')=w4:=⟨_,rfl⟩;rw[hw4];have hg4:w3.grownBy w4 (some Bs):=by rw[<-hw4];exact grownBy_setCell0_a _ _ _
 have hv4:w4.heap[Bs]?=some (.cells #[.slice (some ⟨g',0,none⟩) (ss.length+1) cap'] 36 (0,0)):=by rw[<-hw4];exact heap_setCell_box_a _ hv3
 have hL4:w4.heap[l]?=some (.loop {apRec fn sv Bs D .ready none with state:=.busy}):=(hg4.block l (iA.1 hL3).1 (λe=>hBl (by cases e;rfl))).trans hL3;have hK4:w4.heap[D]?=some (.deferred (some [])):=(hg4.block D (iA.1 hK3).1 (λe=>hDB (by cases e;rfl))).trans hK3;have hrow4:=hown'.kept hg4 (ownsRow_ne_a hown' hv3 (λcur e=>by cases e));have hl4:l<w4.heap.size:=(iA.1 hL4).1;have hb3:Below w0.heap.size w0 w3:=(hb2.alloc hb2.size _).grown hg3' (by have:=hb2.size;simp;omega) (λk e=>(hrow2.lt k e).1);have hb4:Below w0.heap.size w0 w4:=hb3.grown hg4 hb3.size (λk e=>by cases e;exact h0B);have hk4:KeepsWalks W w4:=((hk2.trans (KeepsWalks.alloc _ _)).trans (KeepsWalks.of_grownBy hg3' (ownsRow_not_walk_a (hrow2.alloc _)))).trans (by rw[<-hw4];exact KeepsWalks.setCell _ _ _);clear hw4;refine⟨_,_,run_endRound none hL4,rfl,⟨⟨_,(World.putObj_heap_other hBl).trans hv4,?_,by simp⟩,World.putObj_heap_same hl4,(World.putObj_heap_other hDl).trans hK4,hb4.grown (grownBy_putObj_a _ _ _) hb4.size (λk e=>by cases e;exact h0l)⟩,hk4.trans (KeepsWalks.putObj _ hL4 rfl)⟩;have:=hrow4.kept (grownBy_putObj_a w4 l (.loop { {apRec fn sv Bs D .ready none with state:=.busy}with state:=if (none:Option Code).isNone then .ready else .done,pending:=none})) (ownsRow_ne_a hrow4 hL4 (λcur e=>by cases e));simpa using this
theorem appendSeq_in(F:Fence)(n:Nat)(h11:F.fn 171)(hro:F.round=none)(hn:2<=n)(g:Nat)(lb:Array Value)(hFg:F.fn g)(eg:∀args w,(callFunc g args).run Tryz.prog w=.ok (.enter g args) w)
  (S:List Int->Prop) (N:Nat) (hN:N<=maxLen) (hNb:N * 4<=140737488355328) (w:World) (hseq:SeqGives F (n - 1) Tryz.prog g lb aX S N w):
  CallsIn F n Tryz.prog 171 #[.slice none 0 0,.func (.func g) #[] lb] w λe w'=>∃(v:Value) (ss:List Int),e=.returned v∧S ss∧w'.ownsRow w.heap.size 34 1 v ss.length (ss.map aX)∧(v=.slice none 0 0 ↔ ss=[])∧Below w.heap.size w w':=by
 have h1:1<=n:=by omega
 refine callsIn_of_wp_marks Tryz.func171 rfl h11 ?_ hro;simp only[Tryz.ntmps171,List.size_toArray,dZ,List.length_nil,Nat.reduceAdd,Nat.reduceSub,Array.replicate_succ,Array.replicate_zero,List.push_toArray,List.append_toArray,List.nil_append,List.cons_append]
 gi_wp2
 refine wpIn_rangeFunc ?_;intro fn hfn;rw[hro];obtain⟨W0,hW0⟩:∃W0,w.alloc (.cells #[.slice none 0 0] 36)=W0:=⟨_,rfl⟩;have hs0:W0.heap.size=w.heap.size+1:=by rw[<-hW0];simp
 have hv0:W0.heap[w.heap.size]?=some (.cells #[.slice none 0 0] 36 (0,0)):=by rw[<-hW0];exact World.alloc_heap_new w _
 have hb0:Below w.heap.size w W0:=by rw[<-hW0];exact(aV _ w).alloc (aB _) _
 rw[hW0];obtain⟨W1,hW1⟩:∃W1,(W0.alloc (.deferred (some []))).alloc (.loop (apRec fn (.func (.func g) #[] lb) w.heap.size W0.heap.size .ready none))=W1:=⟨_,rfl⟩;have hold:∀k,k<W0.heap.size->W1.heap[k]?=W0.heap[k]?:=λk hk=>by
  rw[<-hW1];exact(Below.heap_alloc _ _ k (by simp;omega)).trans (Below.heap_alloc _ _ k hk)
 have hb1:Below w.heap.size w W1:=by rw[<-hW1];exact(hb0.alloc hb0.size _).alloc (by have:=hb0.size;simp;omega) _
 have hs1:W1.heap.size=W0.heap.size+2:=by rw[<-hW1];simp
 have hM:ApAt w fn (.func (.func g) #[] lb) w.heap.size (W0.heap.size+1) W0.heap.size [] W1:=
  ⟨⟨_,(hold w.heap.size (by omega)).trans hv0,⟨rfl,.inl ⟨rfl,rfl⟩⟩,by simp⟩,
  by rw[<-hW1];have:=World.alloc_heap_new (W0.alloc (.deferred (some []))) (.loop (apRec fn (.func (.func g) #[] lb) w.heap.size W0.heap.size .ready none));rwa [World.size_alloc]at this,
  by rw[<-hW1];exact(Below.heap_alloc _ _ _ (by simp)).trans (World.alloc_heap_new W0 _),hb1⟩
 refine⟨W0.heap.size+1,[{target:=.collected W0.heap.size,args:=#[]}],W1,{target:=.fn (.func g) lb,args:=#[.func (.yield (W0.heap.size+1)) #[] #[]]},W1,g,
  #[.func (.yield (W0.heap.size+1)) #[] #[]]++lb,W1,?_,?_,?_,?_,λ_=>h1,?_⟩
 ·rw[<-hW1];exact run_enterLoop_outer _ _ _ _ _
 ·simp[resolve,go_sem]
 ·intro f' hf';simp[Target.leads]at hf';subst hf';exact hFg
 ·simp[invoke,go_sem,eg]
 ·refine(hseq (W0.heap.size+1) (ApAt w fn (.func (.func g) #[] lb) w.heap.size (W0.heap.size+1) W0.heap.size) W1 hb1 (ap_abides _ _ _ _ _ _ _ hb1.size)
   (λpre x W hJ hl=>Ul F (n - 1 - 1) w fn hfn _ w.heap.size (W0.heap.size+1) W0.heap.size (by omega) (by omega) (by omega) (aB _) (by omega) N hN hNb pre x W hJ hl) hM).mono ?_
  rintro e W2 ⟨⟨v0,rfl⟩,ss,hS,h2⟩;obtain⟨v,hv,hrow,hnil⟩:=h2.box;have hend:=run_endLoop (P:=Tryz.prog) h2.L (by simp[apRec]);obtain⟨W3,hW3⟩:∃W3,W2.putObj (W0.heap.size+1) (.loop {apRec fn (.func (.func g) #[] lb) w.heap.size W0.heap.size .ready none with state:=.exhausted})=W3:=⟨_,rfl⟩;rw[hW3]at hend;have hg3:W2.grownBy W3 (some (W0.heap.size+1)):=by rw[<-hW3];exact grownBy_putObj_a _ _ _
  have hv3:W3.heap[w.heap.size]?=some (.cells #[v] 36 (0,0)):=by rw[<-hW3];exact(World.putObj_heap_other (by omega)).trans hv
  have hK3:W3.heap[W0.heap.size]?=some (.deferred (some [])):=by rw[<-hW3];exact(World.putObj_heap_other (by omega)).trans h2.K
  have hrow3:=hrow.kept hg3 (ownsRow_ne_a hrow h2.L (λcur e=>by cases e));have hb3:Below w.heap.size w W3:=h2.below.grown hg3 h2.below.size (λk e=>by cases e;omega);obtain⟨hc3,hf3⟩:=cell_of_box_a hv3;clear hW3;refine⟨none,W3,hend,?_⟩
  gi_wp2
  rw[<-hs0];refine⟨by simp,.inl ⟨_,_,rfl,run_takeDeferred hK3,?_⟩⟩;exact⟨_,results_tmp rfl _ _ _,v,ss,rfl,hS,hrow3.kept (grownBy_putObj_a _ _ _) (ownsRow_ne_a hrow3 hK3 (λcur e=>by cases e)),hnil,hb3.grown (grownBy_putObj_a _ _ _) hb3.size (λk e=>by cases e;omega)⟩
theorem collect_in(F:Fence)(n:Nat)(h8:F.fn 139)(h11:F.fn 171)(hro:F.round=none)(hn:3<=n)(g:Nat)(lb:Array Value)(hFg:F.fn g)(eg:∀args w,(callFunc g args).run Tryz.prog w=.ok (.enter g args) w)
  (S:List Int->Prop) (N:Nat) (hN:N<=maxLen) (hNb:N * 4<=140737488355328) (w:World) (hseq:SeqGives F (n - 1 - 1) Tryz.prog g lb aX S N w):
  CallsIn F n Tryz.prog 139 #[.func (.func g) #[] lb] w λe w'=>∃(v:Value) (ss:List Int),e=.returned v∧S ss∧w'.ownsRow w.heap.size 34 1 v ss.length (ss.map aX)∧(v=.slice none 0 0 ↔ ss=[])∧Below w.heap.size w w':=by
 have h1:1<=n:=by omega
 refine callsIn_of_wp Tryz.func139 rfl h8 ?_ hro;simp only[Tryz.ntmps139,List.size_toArray,dZ,List.length_nil,Nat.reduceAdd,Nat.reduceSub,Array.replicate_succ,Array.replicate_zero,List.push_toArray,List.append_toArray,List.nil_append,List.cons_append]
 gi_wp2_with (gi_at_call 171;refine(appendSeq_in F (n - 1) h11 hro (by omega) g lb hFg eg S N hN hNb _ hseq).mono ?_;rintro e w' ⟨v,ss,rfl,hS,hrow,hnil,hb⟩)
 go_ret;exact⟨v,ss,rfl,hS,hrow,hnil,hb⟩
end Go.Proofs.YtakaadcpaeiccabGreat
