import Derived.Test.YtakaadcpaeiccabGreatC19
import Derived.Test.YtakaadcpaeiccabGreatC13
set_option maxHeartbeats 4000000
set_option maxRecDepth 100000
namespace Go.Proofs.YtakaadcpaeiccabGreat
open Go.RowKit Go.Maps
open Hp
structure First(h:List Tm)(k b F:Nat):Prop where
 lt:F<h.length
 fst:F=k∨(0<F∧par F=k∧G7(at' h F)(at' h k)=true)
 le:Le(at' h F)(at' h k)
 all:∀d,0<d→d<h.length→par d=k→d<b→Le(at' h F)(at' h d)
theorem First.start {h:List Tm} {k:Nat}(hk:k<h.length):First h k(2 * k+1)k:=by
 refine⟨hk,.inl rfl,Le.refl _,fun d h1 h2 h3 h4=> ?_⟩;unfold par at h3;omega
theorem First.stay {h:List Tm} {k b F:Nat}(f:First h k b F)(ha:G7(at' h b)(at' h F)=false):First h k(b+1)F:=by
 refine⟨f.lt,f.fst,f.le,fun d h1 h2 h3 h4=> ?_⟩;by_cases e:d=b
 ·subst e;exact ha
 ·exact f.all d h1 h2 h3(by omega)
theorem First.next {h:List Tm} {k b F:Nat}(f:First h k b F)(hb:b<h.length)(hp:par b=k)(h0:0<b)(ha:G7(at' h b)(at' h F)=true):First h k(b+1)b:=by
 have hle:=Le.of ha;have hlk:=hle.trans f.le;refine⟨hb,.inr⟨h0,hp,?_⟩,hlk,fun d h1 h2 h3 h4=> ?_⟩
 ·have:=f.le;rw [Le.iff]at this;rw [Mi]at ha ⊢;omega
 ·by_cases e:d=b
  ·subst e;exact Le.refl _
  ·exact hle.trans(f.all d h1 h2 h3(by omega))
theorem First.whole {h:List Tm} {k b F:Nat}(f:First h k b F)(hb:2 * k+2<b∨h.length≤b):∀d,0<d→d<h.length→par d=k→Le(at' h F)(at' h d):=fun d h1 h2 h3=>by
 refine f.all d h1 h2 h3 ?_;unfold par at h3;omega
theorem Qm(base T M:Nat)(last:Int)(h:List Tm)(v:Value)(w:World)(r:TR base T M last h v w)(i:Nat)(hi:i<h.length)(hn:h.length≤1000000)(hb:Down h i):
  Calls Tryz.prog 176 #[.pointer(some⟨T,0,none⟩),.int .i64 i]w fun e w'=>e=.returned(.tuple #[])∧∃h',TR base T M last h' v w'∧Fr T M v w w'∧h'.Perm h∧Heap h':=by
 obtain⟨g,cap,rfl,hg⟩:=r.shape(by omega);have hF:=Fr.refl T M(.slice(some⟨g,0,none⟩)h.length cap)w;generalize hH:h.length=n at hi hn r hF;have Xl:=(show Hid _ from hH);clear hH;go_enter Tryz.func176,Tryz.ntmps176
 go_wp2_with fail
 go_loopw [1](fun iv wr=>∃(k:Nat)(h1:List Tm),iv=.int .i64 k∧k<n∧h1.length=n∧TR base T M last h1(.slice(some⟨g,0,none⟩)n cap)wr∧Fr T M(.slice(some⟨g,0,none⟩)n cap)w wr∧h1.Perm h∧Down h1 k)(fun iv _=>n - (intOf iv).toNat)
 case atStart=>exact⟨i,h,rfl,hi,Xl.out,r,hF,List.Perm.refl _,hb⟩
 case round=>
  clear r hF hb;obtain⟨k,h1,rfl,hk,hl,r1,hF1,hp1,hD⟩:=hrel;have hf0:First h1 k(2 * k+1)k:=First.start(by omega);have hl':=(show Hid _ from hl);have SA:(2:Int)* (k:Int)+2≤9223372036854775807:=by omega
  clear hl;go_wp2_with fail
  go_loopw [4,5](fun fv bv wx=>∃(F b:Nat),fv=.int .i64 F∧bv=.int .i64 b∧2 * k+1≤b∧b≤2 * k+3∧First h1 k b F∧TR base T M last h1(.slice(some⟨g,0,none⟩)n cap)wx∧Fr T M(.slice(some⟨g,0,none⟩)n cap)w wx)(fun _ bv _=>2 * k+3 - (intOf bv).toNat)
  case atStart=>exact⟨k,2 * k+1,rfl,by go_num,Nat.le_refl _,by omega,hf0,r1,hF1⟩
  case round=>
   clear hf0 r1 hF1;obtain⟨F,b,rfl,rfl,hb1,hb2,hf,rx,hFx⟩:=hrel;have hFn:F<n:=by have:=hf.lt;rw [hl'.out]at this;exact this
   have cT:=rx.blk.cell.1;by_cases hlt:b≤2 * k+2∧b<n
   ·obtain⟨hle,hbn⟩:=hlt;have hd1:decide((b:Int)≤2 * (k:Int)+2)=true:=decide_eq_true(by omega);have hd2:decide((b:Int)<(n:Int))=true:=decide_eq_true(by omega);have hbi:(b:Int)<(n:Int):=by omega
    have hFi:(F:Int)<(n:Int):=by omega
    have hS:Two T g n cap b F(at' h1 b)(at' h1 F)wr:=by
     have:=Two.of(g:=g)(cap:=cap)(by rw [hl'.out];exact rx)(i:=b)(j:=F)(by rw [hl'.out];exact hbn)(by rw [hl'.out];exact hFn);rw [hl'.out]at this;exact this
    go_wp2_with fail
    go_region_held3(Two T g n cap b F(at' h1 b)(at' h1 F))(first|exact hS|assumption|exact Two.later(by assumption)hbx)((go_at_call 194;refine(Cq(at' h1 b)(at' h1 F)_).mono ?_;rintro e w2⟨rfl,hbx⟩))
    have r2:=rx.drew.later hbx;have hF2:=hFx.drew.later hbx;clear rx hFx hS hbx cT;cases hA:G7(at' h1 b)(at' h1 F)
    ·have hf1:=hf.stay hA;clear hA hf;go_wp2
     go_roundw
     case rel=>exact⟨F,b+1,rfl,by go_num,by omega,by omega,hf1,r2,hF2⟩
     case measure=>simp [intOf];omega
    ·have hf1:=hf.next(by rw [hl'.out];exact hbn)(by unfold par;omega)(by omega)hA;clear hA hf;go_wp2
     go_roundw
     case rel=>exact⟨b,b+1,rfl,by go_num,by omega,by omega,hf1,r2,hF2⟩
     case measure=>simp [intOf];omega
   ·have hw:=hf.whole(by rw [hl'.out];omega);have hff:=hf.fst;have hd:(decide((b:Int)≤2 * (k:Int)+2)=false)∨(decide((b:Int)≤2 * (k:Int)+2)=true∧decide(b<n)=false):=by
     by_cases h2:b≤2 * k+2
     ·exact .inr⟨decide_eq_true(by omega),decide_eq_false(by omega)⟩
     ·exact .inl(decide_eq_false(by omega))
    by_cases hFk:F=k
    ·subst hFk;have hHp:Heap h1:=hD.done hw;clear hw hff hf hD hlt;rcases hd with hd|⟨hd,hd'⟩;all_goals
      clear hb1 hb2;go_upto_region 6 with(fail)
      clear hd;go_wp2
      go_returns
      exact⟨rfl,h1,rx,hFx,hp1,hHp⟩
    ·obtain⟨hF0,hpF,hA⟩:=hff.resolve_left hFk;have hDn:=OW hD hF0 hf.lt hpF hA hw;have hkF:=iQ hF0;have af1:((F:Int)==(k:Int))=false:=beq_eq_false_iff_ne.2(by omega);have hp3:(sw h1 k F).Perm h:=(ui(by rw [hl'.out];exact hk)(by rw [hl'.out];exact hFn)).trans hp1;have hl3:Hid((sw h1 k F).length=n):=by
      show _=_;rw [dG];exact hl'.out
     clear hw hff hf hD hlt hA;rcases hd with hd|⟨hd,hd'⟩;all_goals
      clear hb1 hb2;go_upto_region 6 with(fail)
      clear hd;go_wp2_with fail
      refine(yC base T M last h1 _ _ rx k F(by rw [hl'.out];exact hk)(by rw [hl'.out];exact hFn)(by rw [hl'.out];exact hn)).mono ?_;rintro e w3⟨rfl,r3,xm⟩;have rW:=hFx.trans xm(.inl rfl);clear hFx xm;go_wp2
      go_roundw
      case rel=>exact⟨F,sw h1 k F,rfl,hFn,hl3.out,r3,rW,hp3,hDn⟩
      case measure=>simp [intOf];omega
open Hp
theorem Qx {W:World} {base e size n cap g:Nat} {xs:List Value}(h:W.ownsRow base e size(.slice(some⟨g,0,none⟩)n cap)n xs) {m:Nat}(hm:m≤n):
  W.ownsRow base e size(.slice(some⟨g,0,none⟩)m cap)m(xs.take(m * size)):=by
 have h1:=h.1;rcases h.2 with⟨he,_⟩|⟨g',cap',cur,he,k1,k2,k3,k4,k5,k6⟩
 ·cases he
 ·cases he;have hle:m * size≤n * size:=Nat.mul_le_mul_right _ hm;refine⟨by rw [List.length_take,h1];omega,.inr⟨g,cap,cur,rfl,k1,k2,by omega,k4,k5,?_⟩⟩;rw [←k6,List.take_take,Nat.min_eq_left hle]
theorem vo.set {T M:Nat} {last:Int} {v:Value} {W:World}(h:vo T M last v W)(v':Value):vo T M last v'(W.setCell⟨T,0,none⟩v'):=by
 unfold vo at h ⊢;simp [World.setCell,Array.getElem?_modify,h]
def kY(B:Nat)(x:Tm)(W:World):Prop:=W.heap[B]?=some(lZ x)
theorem kY.cell {B:Nat} {x:Tm} {W:World}(h:kY B x W):
  W.cell?⟨B,0,none⟩=some(.int .u64 x.1)∧W.cell?⟨B,1,none⟩=some(.int .i64 x.2.1)∧W.cell?⟨B,2,none⟩=some(.int .i64 x.2.2):=
 ⟨cell_of_row W B 0 _ _ _ h,cell_of_row W B 1 _ _ _ h,cell_of_row W B 2 _ _ _ h⟩
theorem kY.free {B:Nat} {x:Tm} {W:World}(h:kY B x W)(i:Nat):W.frozen?⟨B,i,none⟩=false:=by
 unfold kY at h;simp [World.frozen?,h]
theorem kY.lt {B:Nat} {x:Tm} {W:World}(h:kY B x W):B<W.heap.size:=(Array.getElem?_eq_some_iff.1 h).1
theorem kY.new(x:Tm)(W:World):kY W.heap.size x(W.alloc(lZ x)):=heap_alloc_new W _
theorem kY.fr {B:Nat} {x:Tm} {W W':World} {T M:Nat} {v:Value}(h:kY B x W)(hf:Fr T M v W W')(h1:B≠T)(h2:B≠M)(h3:some B≠v.ownBlock):kY B x W':=(hf.block B h.lt h1 h2 h3).trans h
theorem kY.later {B:Nat} {x:Tm} {W W':World}(h:kY B x W)(hb:Below W.heap.size W W'):kY B x W':=(hb.block B h.lt).trans h
theorem kY.grown {B:Nat} {x:Tm} {W W':World} {r:Option Nat}(h:kY B x W)(hg:W.grownBy W' r)(hr:some B≠r):kY B x W':=(hg.block B h.lt hr).trans h
@[reducible] def storeT (W : World) (B : Nat) (x : Tm) : World := ((W.setCell ⟨B, 0, none⟩ (.int .u64 x.1)).setCell ⟨B, 1, none⟩ (.int .i64 x.2.1)).setCell ⟨B, 2, none⟩ (.int .i64 x.2.2)
theorem kY.store {B:Nat} {x:Tm} {W:World}(h:kY B x W)(y:Tm):kY B y(storeT W B y):=by
 unfold kY at h ⊢;simp [World.setCell,Array.getElem?_modify,h]
theorem DW(W:World)(B:Nat)(y:Tm):W.grownBy(storeT W B y)(some B):=dW(dW(dW(lW W(some B))0 _)1 _)2 _
theorem TR.grown {base T M:Nat} {last:Int} {h:List Tm} {v:Value} {W W':World} {r:Option Nat}(q:TR base T M last h v W)(hg:W.grownBy W' r)(h1:some T≠r)(h2:some M≠r)(h3:r=none∨r≠v.ownBlock):TR base T M last h v W':=by
 obtain⟨f,hm,hp⟩:=q.map;have h4:v.ownBlock=none∨v.ownBlock≠r:=by
  rcases h3 with rfl|h3
  ·cases v.ownBlock<;>simp
  ·exact .inr(Ne.symm h3)
 exact⟨q.blk.kept hg h1,q.row.kept hg h4,⟨f,hm.kept hg h2,hp⟩,q.ok,q.bT,q.bM⟩
theorem Ml:∀(h:List Tm)(m:Nat),TC(h.take m)=(TC h).take(m * 3)
 | [],m=>by simp [TC]
 |a::h,0=>by simp [TC]
 |a::h,m+1=>by
  have ih:=Ml h m;simp only [TC,List.take_succ_cons,List.flatMap_cons]at ih ⊢;rw [ih];simp [Kq,show(m+1)* 3=m * 3+1+1+1 by omega]
theorem M3(g n c k:Nat)(hk:k≤c)(W:World):(Instr.slice 163(.slice(some⟨g,0,none⟩)n c)none(some(.int .i64 k))none).run Tryz.prog W=.ok(.slice(some⟨g,0,none⟩)k c)W:=by
 have ht:Tryz.prog.underlying 163=some(.slice(Tryz.prog.elem 163)):=by simp [Program.elem,Tryz.underlying163]
 have hz:∀w,(Go.sizeOf(Tryz.prog.elem 163)).run Tryz.prog w=.ok 3 w:=by
  intro w;simp [go_sem,Program.elem,Tryz.underlying163]
 rw [run_slice_h W 163 _ _ _ ht .i64 _(by omega)(by omega),hz];simp only [Result.andThen,sliced];rw [Nat.sub_zero,Nat.sub_zero,Int.toNat_natCast];split<;>simp [Addr.add]
theorem yR(base T M:Nat)(last:Int)(h:List Tm)(v:Value)(w:World)(r:TR base T M last h v w)(i:Nat)(hi:i<h.length)(hn:h.length≤1000000)(hb:Heap h):
  Calls Tryz.prog 149 #[.pointer(some⟨T,0,none⟩),.int .i64 i]w fun e w'=>e=.returned(tmV(at' h i))∧∃h' v',TR base T M last h' v' w'∧Fr T M v w w'∧v'.ownBlock=v.ownBlock∧(at' h i::h').Perm h∧Heap h':=by
 obtain⟨g,cap,rfl,hg⟩:=r.shape(by omega);have hT:=r.blk.lt;have hM:M<w.heap.size:=by
  obtain⟨_,hm0,_⟩:=r.map;exact hm0.lt
 have hgl:=(r.row.lt g rfl).2;have hb1:Below w.heap.size w(w.alloc(lZ z)):=(Below.refl _ _).alloc(Nat.le_refl _)_;have r1:=r.later hb1;have hR:=kY.new z w;have hF1:=(Fr.refl T M(.slice(some⟨g,0,none⟩)h.length cap)w).later hb1;have cT:=r1.blk.cell.1;have hlen:(1:Int)≤(h.length:Int):=by omega
 have hap:=r.apart;have hidx:=KT r hi;have hTg:¬T=g:=fun e=>hap.2.1(by rw [e];rfl);have hMg:¬M=g:=fun e=>hap.2.2(by rw [e];rfl);have hq:(h.length:Int) - 1=((h.length - 1:Nat):Int):=by omega
 generalize hE:h.length - 1=E at hq;have hE':=(show Hid _ from hE);generalize hRR:w.heap.size=R at hR hT hM hgl;have ac5:=(show Hid _ from hRR);dsimp only [lZ,z]at hb1 r1 hR hF1 cT;clear hE hRR r hb1;go_enter Tryz.func149,Tryz.ntmps149
 go_wp2_with fail
 rw [ac5.out];generalize World.alloc _ _=W1 at r1 hR hF1 cT ⊢;refine(yC base T M last h _ _ r1 i E hi(by have:=hE'.out;omega)hn).mono ?_;rintro e W2⟨rfl,r2,aaR⟩;have hEl:E<h.length:=by have:=hE'.out;omega
 have adl:E<(sw h i E).length:=by rw [dG];exact hEl
 have hxE:at'(sw h i E)E=at' h i:=by rw [xA hi hEl,if_pos rfl]
 have hTC:=r_ adl;rw [hxE]at hTC;have hTl:=oo(sw h i E);have hsl2:(sw h i E).length=h.length:=dG _ _ _;have hF2:=hF1.trans aaR(.inl rfl);have Tc:R≠T∧R≠M∧R≠g:=⟨by omega,by omega,by omega⟩;have hR2:=hR.fr aaR Tc.1 Tc.2.1(by simp only [Value.ownBlock];intro e;cases e;exact Tc.2.2 rfl);have hrow2:=r2.row;rw [hsl2]at hrow2;have b3:E * 3+2<h.length * 3:=by omega
 have d0:=(hrow2.cellAt(E * 3)(Nat.lt_of_le_of_lt(by omega)b3)).trans hTC.1;have d1:=(hrow2.cellAt(E * 3+1)(Nat.lt_of_le_of_lt(by omega)b3)).trans hTC.2.1;have d2:=(hrow2.cellAt(E * 3+2)b3).trans hTC.2.2;have c0:=r2.blk.cell.1;have hEi:(E:Int)<(h.length:Int):=by omega
 have hbn:Below W2.heap.size W2(W2.alloc(lZ(at' h i))):=(Below.refl _ _).alloc(Nat.le_refl _)_;have r3:=r2.later hbn;have Ow:=hR2.later hbn;have xm:=hF2.later hbn;have hG3:=kY.new(at' h i)W2;have hG0:R<W2.heap.size:=hR2.lt;have hTW:T<W2.heap.size:=by omega
 have hMW:M<W2.heap.size:=by omega
 have hgW:g<W2.heap.size:=by omega
 have acR:E≤cap:=by
  rcases hrow2.2 with⟨he,_⟩|⟨_,_,_,he,_,_,k3,_⟩
  ·cases he
  ·cases he;omega
 have hsl:=M3 g h.length cap E acR;clear b3 hrow2 r1 hR hF1 aaR r2 hR2 hF2 hTC hTl hbn cT;generalize hGG:W2.heap.size=G at hG3 hG0 hTW hMW hgW;have afc:=(show Hid _ from hGG);clear hGG;have cG:=hG3.cell;have b0:=r3.blk.cell.1;have fT:=r3.blk.free 0;have Ol:(W2.alloc(lZ(at' h i))).grownBy((W2.alloc(lZ(at' h i))).setCell⟨T,0,none⟩(.slice(some⟨g,0,none⟩)E cap))(some T):=dW(lW _ _)0 _;have hB4:=r3.blk.set(.slice(some⟨g,0,none⟩)E cap);have hrow3:=r3.row;rw [hsl2]at hrow3;have hrow4:=(Qx hrow3(Nat.le_of_lt hEl)).kept Ol(.inr(by simp [Value.ownBlock];exact fun e=>hTg e.symm));rw [←Ml]at hrow4;have hout:(sw h i E).take E=out h i:=by unfold out;rw [hE'.out]
 rw [hout]at hrow4;obtain⟨f,nW,hp3⟩:=r3.map;rw [hsl2]at nW;have A_:=nW.kept Ol(by simpa using hap.1.symm);have hfE:=hp3.1 E _(iT adl);rw [hxE]at hfE;have hp5:=hp3.cut(n:=E)(by rw [hsl2];have:=hE'.out;omega);rw [hout,hxE]at hp5;have acu:∀y∈out h i,TOk y:=fun y hy=>r3.ok y(by rw [←hout]at hy;exact List.mem_of_mem_take hy);have LV:=Ow.grown Ol(by simpa using Tc.1);have hG4:=hG3.grown Ol(by simp;omega);have rW:=xm.trans(Fr.grown(T:=T)(M:=M)(v:=.slice(some⟨g,0,none⟩)h.length cap)Ol(.inr(.inl rfl)))(.inl rfl);have hbT:=r3.bT;have hbM:=r3.bM;have hperm:=QU hi;have hol:(out h i).length=E:=by rw [oZ];exact hE'.out
 clear Ol r3 Ow hG3 xm hrow3 nW hp3;dsimp only [lZ]at hB4 hrow4 A_ LV hG4 rW b0 fT cG;go_wp2_with fail
 clear d0 d1 d2 c0 cG b0 fT hsl;rw [afc.out];generalize World.setCell _ _ _=W4 at hB4 hrow4 A_ LV hG4 rW ⊢;obtain⟨_,b1,_⟩:=hB4.cell;obtain⟨_,g1,_⟩:=hG4.cell;obtain⟨W5,iq,hm5,hg5⟩:=(show j4 W4.drew M f h.length from A_).del hidx 0(by rw [hfE];rfl);go_region
 clear g1 b1;have Oj:W4.grownBy W5(some M):=⟨hg5.os,hg5.tape,hg5.output,hg5.size,hg5.block⟩;rw [hE'.out]at hm5;have r5:TR base T M last(out h i)(.slice(some⟨g,0,none⟩)E cap)W5:=by
  refine⟨hB4.kept Oj(by simpa using hap.1),?_,⟨_,?_,hp5⟩,acu,hbT,hbM⟩
  ·rw [hol];exact hrow4.kept Oj(.inr(by simp [Value.ownBlock];exact fun e=>hMg e.symm))
  ·rw [hol];exact hm5
 have UZ:=LV.grown Oj(by simpa using Tc.2.1);have hG5:=hG4.grown Oj(by simp;omega);have hF5:=rW.trans(Fr.grown(T:=T)(M:=M)(v:=.slice(some⟨g,0,none⟩)h.length cap)Oj(.inr(.inr(.inl rfl))))(.inl rfl);have hfin:∀(h7:List Tm)(W7:World),TR base T M last h7(.slice(some⟨g,0,none⟩)E cap)W7→kY R z W7→Fr T M(.slice(some⟨g,0,none⟩)h.length cap)w W7→h7.Perm(out h i)→Heap h7→
   kY R(at' h i)(storeT W7 R(at' h i))∧∃h' v',TR base T M last h' v'(storeT W7 R(at' h i))∧Fr T M(.slice(some⟨g,0,none⟩)h.length cap)w(storeT W7 R(at' h i))∧v'.ownBlock=(Value.slice(some⟨g,0,none⟩)h.length cap).ownBlock∧(at' h i::h').Perm h∧Heap h':=by
  intro h7 W7 r7 hR7 PP hp7 hH7;have hgs:=DW W7 R(at' h i);refine⟨hR7.store _,h7,_,r7.grown hgs(by simp;omega)(by simp;omega)(.inr(by simp [Value.ownBlock];omega)),?_,rfl,(hp7.cons _).trans hperm,hH7⟩;refine⟨hgs.os.trans PP.os,hgs.tape.trans PP.tape,hgs.output.trans PP.output,Nat.le_trans PP.size hgs.size,fun k hk h1 h2 h3=> ?_⟩;rw [hgs.block k(Nat.lt_of_lt_of_le hk PP.size)(by rw [ac5.out]at hk;simp;omega)];exact PP.block k hk h1 h2 h3
 clear hB4 hrow4 A_ LV hG4 rW hm5 iq hg5 Oj hp5 acu hperm;by_cases hiE:i<E
 ·have hdi:decide(i<E)=true:=decide_eq_true hiE;have Xr:=QW hb(show i<h.length - 1 by rw [hE'.out];exact hiE);go_wp2_with fail
  refine(Fa base T M last(out h i)_ _ r5 i(by rw [hol];exact hiE)(by omega)Xr).mono ?_;rintro e W6⟨rfl,h6,r6,Xn,hp6,hD6⟩;have hl6:h6.length=E:=by rw [hp6.fM];exact hol
  have hR6:=UZ.fr Xn Tc.1 Tc.2.1(by simp only [Value.ownBlock];intro e;cases e;exact Tc.2.2 rfl);have hG6:=hG5.fr Xn(by omega)(by omega)(by simp only [Value.ownBlock];intro e;cases e;omega);have U3:=hF5.trans Xn(.inl rfl);clear r5 UZ hG5 hF5 Xn;go_wp2_with fail
  refine(Qm base T M last h6 _ _ r6 i(by omega)(by omega)hD6).mono ?_;rintro e W7⟨rfl,h7,r7,Xm,hp7,hH7⟩;have hR7:=hR6.fr Xm Tc.1 Tc.2.1(by simp only [Value.ownBlock];intro e;cases e;exact Tc.2.2 rfl);have hG7:=hG6.fr Xm(by omega)(by omega)(by simp only [Value.ownBlock];intro e;cases e;omega);have PP:=U3.trans Xm(.inl rfl);have hend:=hfin h7 W7 r7 hR7 PP(hp7.trans hp6)hH7;obtain⟨g0,g1,g2⟩:=hG7.cell;obtain⟨z0,z1,z2⟩:=hR7.cell;have zf:=hR7.free;have hRl:=hR7.lt;clear r6 hR6 hG6 U3 Xm hfin r7 PP hD6 hp6 hp7 hH7 hl6;dsimp only [storeT,z]at hend z0 z1 z2;go_wp2
  generalize World.setCell _ _ _=W8 at hend ⊢;obtain⟨Tj,hrest⟩:=hend;obtain⟨q0,q1,q2⟩:=Tj.cell;exact bodyPost_ret(v:=tmV(at' h i))(by simp [results,Tryz.results149,go_sem,q0,q1,q2])rfl⟨rfl,hrest⟩
 ·have hdi:decide(i<E)=false:=decide_eq_false hiE;have hHo:Heap(out h i):=by
   have:=QV hb(by omega);rw [show h.length - 1=i by have:=hE'.out;omega]at this;exact this
  have hend:=hfin(out h i)W5 r5 UZ hF5(List.Perm.refl _)hHo;obtain⟨g0,g1,g2⟩:=hG5.cell;obtain⟨z0,z1,z2⟩:=UZ.cell;have zf:=UZ.free;have hRl:=UZ.lt;clear hfin r5 hF5 hHo;dsimp only [storeT,z]at hend z0 z1 z2;go_wp2
  generalize World.setCell _ _ _=W8 at hend ⊢;obtain⟨Tj,hrest⟩:=hend;obtain⟨q0,q1,q2⟩:=Tj.cell;exact bodyPost_ret(v:=tmV(at' h i))(by simp [results,Tryz.results149,go_sem,q0,q1,q2])rfl⟨rfl,hrest⟩
open Hp
theorem Bh(w:World):
  Calls Tryz.prog 47 #[]w fun e w'=>e=.returned(.pointer(some⟨w.heap.size+1,0,none⟩))∧Below w.heap.size w w'∧TR w.heap.size(w.heap.size+1)w.heap.size 0 [](.slice none 0 0)w':=by
 have hmm:=@run_makeMap Tryz.prog;have hm:=j4.made w;have hB:Below w.heap.size w((w.alloc(.map #[]0)).alloc(.cells #[.slice none 0 0,.map(some w.heap.size),.int .i64 0]165)):=((Below.refl _ _).alloc(Nat.le_refl _)_).alloc(by simp)_;have hT:vo(w.heap.size+1)w.heap.size 0(.slice none 0 0)((w.alloc(.map #[]0)).alloc(.cells #[.slice none 0 0,.map(some w.heap.size),.int .i64 0]165)):=by
  have h:=heap_alloc_new(w.alloc(.map #[]0))(.cells #[.slice none 0 0,.map(some w.heap.size),.int .i64 0]165);rw [World.size_alloc]at h;exact h
 have hm2:=hm.kept(World.grownBy_alloc(w.alloc(.map #[]0))(.cells #[.slice none 0 0,.map(some w.heap.size),.int .i64 0]165)none)(by simp);go_enter Tryz.func47,Tryz.ntmps47
 go_wp2
 go_ret
 exact⟨rfl,hB,hT,⟨rfl,.inl⟨rfl,rfl⟩⟩,⟨_,hm2,⟨fun i x hx=>by simp at hx,fun k i hk=>by cases hk⟩⟩,fun x hx=>by simp at hx,Nat.le_succ _,Nat.le_refl _⟩
theorem afl {h:List Tm} {f:Int→Option Nat}(p:PI h f) {k:Int}(hk:∀x∈h,x.2.1≠k):f k=none:=by
 cases e:f k with
 |none=>rfl
 |some i=>
  obtain⟨x,hx,he⟩:=p.2 k i e;exact absurd he(hk x(List.mem_of_getElem? hx))
theorem vo.set2 {T M:Nat} {last:Int} {v:Value} {W:World}(h:vo T M last v W)(l:Int):vo T M l v(W.setCell⟨T,2,none⟩(.int .i64 l)):=by
 unfold vo at h ⊢;simp [World.setCell,Array.getElem?_modify,h]
theorem vo.alloc {T M:Nat} {last:Int} {v:Value} {W:World}(h:vo T M last v W)(o:Obj):vo T M last v(W.alloc o):=h.kept(World.grownBy_alloc W o none)(by simp)
theorem vo.drew {T M:Nat} {last:Int} {v:Value} {W:World}(h:vo T M last v W):vo T M last v W.drew:=h
theorem JG(W:World)(x:Tm):∀(j:Nat)(u:Value),(Kq x)[j]?=some u→(W.alloc(lZ x)).cell?((⟨W.heap.size,0,none⟩:Addr).add j)=some u:=by
 intro j u hj;have hh:=heap_alloc_new W(lZ x)
 match j,hj with
 |0,hj=>exact(cell_of_row _ _ 0 _ _ _ hh).trans hj
 |1,hj=>exact(cell_of_row _ _ 1 _ _ _ hh).trans hj
 |2,hj=>exact(cell_of_row _ _ 2 _ _ _ hh).trans hj
 |j+3,hj=>simp [Kq]at hj
theorem ad2(x:Tm):∀u∈Kq x,u.oneCell'=true:=by
 intro u hu;simp only [Kq,List.mem_cons,List.not_mem_nil,or_false]at hu;rcases hu with rfl|rfl|rfl<;>rfl
theorem Yj(base T M:Nat)(last:Int)(h:List Tm)(v:Value)(w:World)(r:TR base T M last h v w)(hn:h.length≤900000)(hb:Heap h)(l0:0≤last)(l1:last≤4000000000000000000)(hid:∀x∈h,x.2.1≤last)(tm what:Int)(a0:0≤tm∧tm<18446744073709551616)(b0:oC what)(hbs:base≤w.heap.size):
  Calls Tryz.prog 154 #[.pointer(some⟨T,0,none⟩),.int .u64 tm,.int .i64 what]w fun e w'=>e=.returned(.int .i64(last+1))∧∃h' v',TR base T M(last+1)h' v' w'∧Fr T M v w w'∧(v'.ownBlock=v.ownBlock∨∀k,v'.ownBlock=some k→w.heap.size≤k)∧h'.Perm(h++ [(tm,last+1,what)])∧Heap h':=by
 obtain⟨i0,hi,hz0,hz1,hz2⟩:=info_parts WO;obtain⟨c0,c1,c2⟩:=r.blk.cell;have ft:=r.blk.free;have hT:=r.blk.lt;have hap:=r.apart;obtain⟨f,hm,hp⟩:=r.map;have hg2:w.grownBy(w.setCell⟨T,2,none⟩(.int .i64(last+1)))(some T):=dW(lW _ _)2 _;have hBA:=r.blk.set2(last+1);have Sb:=r.row.kept hg2(.inr(Ne.symm hap.2.1));have hmA:=hm.kept hg2(by simpa using hap.1.symm);have hFA:=Fr.grown(T:=T)(M:=M)(v:=v)hg2(.inr(.inl rfl));have hsz:w.heap.size≤(w.setCell⟨T,2,none⟩(.int .i64(last+1))).heap.size:=hg2.size;have hfn:=afl hp(k:=last+1)(fun x hx=>by have:=hid x hx;omega);have hpA:=hp.add(x:=(tm,last+1,what))hfn;have hok:∀x∈h++ [(tm,last+1,what)],TOk x:=by
  intro x hx;rcases List.mem_append.1 hx with hx|hx
  ·exact r.ok x hx
  ·rw [List.mem_singleton]at hx;subst hx;exact⟨a0,by unfold oC;dsimp only;omega,b0⟩
 have hbT:=r.bT;have hbM:=r.bM;have Xr:=Ue hb(tm,last+1,what);have hll:(h++ [(tm,last+1,what)]).length=h.length+1:=by rw [List.length_append,List.length_singleton]
 have hTC:TC(h++ [(tm,last+1,what)])=TC h++Kq(tm,last+1,what):=by
  rw [Pg];rfl
 obtain⟨ao,c,hv,_⟩:=ak r.row;clear r hm hp hg2;subst hv;go_enter Tryz.func154,Tryz.ntmps154
 go_wp2_with fail
 generalize World.setCell _ _ _=A at hBA Sb hmA hFA hsz ⊢;clear c0 c1 c2 ft;obtain⟨b0',b1,b2⟩:=hBA.cell;have ft:=hBA.free;have haT:=fun o=>(hBA.alloc o).cell.1;have haL:=fun o=>(hBA.alloc o).cell.2.2;have hk1:Hid(h.length+1≤maxLen):=by show _≤_;unfold maxLen;omega
 have hk2:Hid((h.length+1)* 24≤140737488355328):=by show _≤_;omega
 have jk:Hid(∀o:Obj,base≤(A.alloc o).drew.heap.size):=by
  intro o;show base≤(A.alloc o).heap.size;rw [World.size_alloc];omega
 have aaL:Hid(some T≠(Value.slice ao h.length c).ownBlock):=hap.2.1;go_region_law(refine gz rfl(.tmp 24)(.tmp 32)163 rfl base 254 i0(.agg #[.int .u64 0,.int .i64 0,.int .i64 0])3 24 Tryz.underlying163 hi hz0 hz1 hz2 rfl(by decide)(.slice ao h.length c)h.length(TC h)(by simp [Act.eval])(Sb.alloc _).drew⟨_,0,none⟩1 1(Kq(tm,last+1,what))(by simp [Act.eval])rfl(JG _ _)(ad2 _)hk1.out hk2.out(jk.out _) ?_;intro v7 w7 gP eu hloc;obtain⟨g7,c7,rfl,afX⟩:=bS gP(Nat.succ_pos _);have fG:=(hBA.alloc(lZ(tm,last+1,what))).drew.kept eu aaL.out;have hc7:=fG.cell.1;have pg:=fG.free 0)
 all_goals
  have YJ:(Value.slice(some⟨g7,0,none⟩)(h.length+1)c7).ownBlock=(Value.slice ao h.length c).ownBlock∨∀k,(Value.slice(some⟨g7,0,none⟩)(h.length+1)c7).ownBlock=some k→w.heap.size≤k:=by
   rcases hloc with e|e
   ·exact .inl e
   ·refine .inr fun k hk=> ?_;rw [e]at hk;cases hk;exact Nat.le_trans hsz(by show A.heap.size≤(A.alloc _).heap.size;rw [World.size_alloc];omega)
  have hgo:A.grownBy(A.alloc(lZ(tm,last+1,what))).drew none:=zL(World.grownBy_alloc A _ none);have hmB:=(hmA.kept hgo(by simp)).kept eu hap.2.2;have PP:=(hFA.trans(Fr.grown(T:=T)(M:=M)(v:=Value.slice ao h.length c)hgo(.inl rfl))(.inl rfl)).trans(Fr.grown(T:=T)(M:=M)(v:=Value.slice ao h.length c)eu(.inr(.inr(.inr rfl))))(.inl rfl);have dN:=fG.set(.slice(some⟨g7,0,none⟩)(h.length+1)c7);have jh:w7.grownBy(w7.setCell⟨T,0,none⟩(.slice(some⟨g7,0,none⟩)(h.length+1)c7))(some T):=dW(lW _ _)0 _;have aeY:T≠g7:=by
   rintro rfl;rcases gP.2 with⟨he,_⟩|⟨_,_,_,he,_,hh,_⟩
   ·cases he
   ·cases he;unfold vo at fG;rw [fG]at hh;simp at hh
  have EE:=gP.kept jh(.inr(by simp [Value.ownBlock];exact fun e=>aeY e.symm));have Oe:=hmB.kept jh(by simpa using hap.1.symm);have hF8:=PP.trans(Fr.grown(T:=T)(M:=M)(v:=Value.slice ao h.length c)jh(.inr(.inl rfl)))(.inl rfl);clear hc7 pg fG gP eu hgo hmB PP jh haT haL b0' b1 b2 ft hBA Sb hmA hFA hloc;generalize World.setCell _ _ _=w8 at dN EE Oe hF8 ⊢;obtain⟨b0',b1,b2⟩:=dN.cell;have hhl:oC((h.length:Nat):Int):=by unfold oC;omega
  have acG:oC(last+1):=by unfold oC;omega
  obtain⟨w9,fZ,LK,bQ⟩:=(show j4 w8.drew M f h.length from Oe).put(by unfold maxLen;omega)acG hhl;go_wp2_with fail
  go_region
  have WY:w8.grownBy w9(some M):=⟨bQ.os,bQ.tape,bQ.output,bQ.size,bQ.block⟩;rw [hfn]at LK;simp only [Option.isSome_none,Bool.false_eq_true,if_false]at LK;have ae9:M≠g7:=by
   rintro rfl;rcases EE.2 with⟨he,_⟩|⟨_,_,_,he,_,hh,_⟩
   ·cases he
   ·cases he;obtain⟨D,⟨es,clock,hmm,_⟩,_⟩:=Oe;rw [hmm]at hh;cases hh
  have r9:TR base T M(last+1)(h++ [(tm,last+1,what)])(.slice(some⟨g7,0,none⟩)(h.length+1)c7)w9:=by
   refine⟨dN.kept WY(by simpa using hap.1),?_,⟨_,?_,hpA⟩,hok,hbT,hbM⟩
   ·rw [hll,hTC];exact EE.kept WY(.inr(by simp [Value.ownBlock];exact fun e=>ae9 e.symm))
   ·rw [hll];exact LK
  have hF9:=hF8.trans(Fr.grown(T:=T)(M:=M)(v:=Value.slice ao h.length c)WY(.inr(.inr(.inl rfl))))(.inl rfl);clear dN EE Oe hF8 fZ LK bQ WY b0' b1 b2 hpA;go_wp2_with fail
  refine(Fa base T M(last+1)_ _ _ r9 h.length(by rw [hll];omega)(by rw [hll];omega)Xr).mono ?_;rintro e Ki⟨rfl,h10,r10,adk,acs,adm⟩;have aeH:h10.length=h.length+1:=by rw [acs.fM];exact hll
  have afb:Heap h10:=adm.leaf(by omega);have afd:=hF9.trans adk YJ;obtain⟨b0',b1,b2⟩:=r10.blk.cell;clear r9 hF9 adk adm aeH;go_wp2
  go_ret
  exact⟨rfl,h10,_,r10,afd,YJ,acs,afb⟩
end Go.Proofs.YtakaadcpaeiccabGreat
