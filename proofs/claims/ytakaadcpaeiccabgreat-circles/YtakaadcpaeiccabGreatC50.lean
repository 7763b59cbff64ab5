import Derived.Test.YtakaadcpaeiccabGreatC49
import Derived.Deep.CutBlock
set_option maxHeartbeats 4000000
set_option maxRecDepth 100000
namespace Go.Proofs.YtakaadcpaeiccabGreat
open Go.RowKit Go.Maps
theorem mf.drew {x:SG} {s:bi} {W:World}(h:mf x s W):mf x s W.drew:=h.kept fun _ _=>rfl
theorem mf.later {x:SG} {s:bi} {W W':World}(h:mf x s W)(hb:Below W.heap.size W W'):mf x s W':=h.kept fun k hk=>hb.block k(h.lt hk)
theorem mf.add {x:SG} {s:bi} {W:World}(h:mf x s W) {ns:List Int} {v7:Value} {w7:World}(ho:w7.ownsRow 0 5 1 v7(s.aY.length+ns.length)(U s.aY++U ns))(hg:W.grownBy w7 x.jv.ownBlock)(hv:v7.ownBlock=x.jv.ownBlock∨v7.ownBlock=some W.heap.size):
  (w7.cell?⟨x.B,1,none⟩=some x.jv∧w7.frozen?⟨x.B,1,none⟩=false)∧mG x s {s with aY:=s.aY++ns}W(w7.setCell⟨x.B,1,none⟩v7):=by
 have hne:x.jv.ownBlock≠some x.B:=aA h.row h.blk(fun c e=>(by cases e));have hblk:=hg.block _(aD h.blk)fun e=>hne e.symm;obtain⟨_,c1,_,_,_,_,fz⟩:=h.cell;refine⟨⟨(World.cell?_of_block(a:=⟨x.B,1,none⟩)hblk).trans c1,(World.frozen?_of_block(a:=⟨x.B,1,none⟩)hblk).trans(fz 1)⟩,h.aY(xs:=s.aY++ns) ?_ hg(hv.dh .inl)⟩;rw [List.length_append];rw [show U(s.aY++ns)=U s.aY++U ns by simp [U]];exact ho
theorem mf.nil {x:SG} {s:bi} {W:World}(h:mf x s W):mG x s {s with aY:=[]}W(W.setCell⟨x.B,1,none⟩(.slice none 0 0)):=
 h.aY(xs:=[])⟨rfl,.inl⟨rfl,rfl⟩⟩(aC _ _)(.inr(.inr rfl))
theorem Dk(s:ByteArray)(a b:Nat):aF(s.extract a b)=((aF s).drop a).take(b - a):=by
 simp only [aF,Go.Lib.extract_data,List.map_take,List.map_drop]
theorem Kz(s:ByteArray)(W:World):Src Tryz.prog 1 9(.string s)s.size(U(aF s))W:=by
 rw [←xy];exact Src.ofString W Tryz.underlying9 s
theorem XQ(s:ByteArray)(k:Nat)(hk:k≤s.size):(s.extract 0 k).size=k∧aF(s.extract 0 k)=(aF s).take k:=by
 refine⟨by rw [ByteArray.size_extract];omega,?_⟩;rw [Dk];simp
theorem En {x:SG} {s:bi} {w:World}(h:mf x s w)(j:ByteArray)(aZ:Bool)(aI bH bI:Value)(hj:j.size≤1000000)(hl:s.aY.length≤1000000)(hw:0≤s.whole):
  Calls Tryz.prog 98 #[.pointer(some⟨x.B,0,none⟩),iE j aZ aI bH bI]w fun e w'=>e=.returned(.tuple #[])∧mG x s {s with aY:=if aZ then s.aY else s.aY++(aF j).take s.whole.toNat}w w':=by
 obtain⟨i0,hi,hz0,hz1,hz2⟩:=info_parts uN;have hb0:Below w.heap.size w(w.alloc(.cells #[.string j,.bool aZ,aI,bH,bI]52)):=(Below.refl _ _).alloc(Nat.le_refl _)_;have hC:=heap_alloc_new w(.cells #[.string j,.bool aZ,aI,bH,bI]52);have h1:=h.later hb0;obtain⟨k,hk⟩:∃k:Nat,s.whole=k:=Int.eq_ofNat_of_zero_le hw;cases aZ
 ·rw [if_neg(by simp)];obtain⟨K,hK⟩:∃K,(min(k:Int)(j.size:Int)).toNat=K:=⟨_,rfl⟩;have hKm:K=min k j.size:=by omega
  have hle:K≤j.size:=by omega
  obtain⟨q1,q2⟩:=XQ j K hle;have ht:(aF j).take s.whole.toNat=aF(j.extract 0 K):=by
   rw [q2,hk,hKm];simp only [Int.toNat_natCast];rw [←dx];by_cases hkj:k≤(aF j).length
   ·rw [Nat.min_eq_left hkj]
   ·rw [Nat.min_eq_right(by omega),List.take_of_length_le(by omega),List.take_of_length_le(Nat.le_refl _)]
  rw [ht];have hsl:=dx(j.extract 0 K);rw [q1]at hsl;have hsrc:∀W,Src Tryz.prog 1 9(.string(j.extract 0 K))(aF(j.extract 0 K)).length(U(aF(j.extract 0 K)))W:=fun W=>by rw [dx];exact Kz(j.extract 0 K)W
  have b1:Hid(s.aY.length+(aF(j.extract 0 K)).length≤maxLen):=by show _≤_;unfold maxLen;omega
  have b2:Hid((s.aY.length+(aF(j.extract 0 K)).length)* 1≤140737488355328):=by show _≤_;omega
  unfold iE;go_enter Tryz.func98,Tryz.ntmps98
  go_upto_region 1 with(fail)
  generalize World.alloc _ _=W1 at hb0 hC h1 ⊢;have hfin:=fun v7 w7(ho:w7.ownsRow 0 5 1 v7(s.aY.length+(aF(j.extract 0 K)).length)(U s.aY++U(aF(j.extract 0 K))))(hg:W1.drew.grownBy w7 x.jv.ownBlock)(hv:v7.ownBlock=x.jv.ownBlock∨v7.ownBlock=some W1.drew.heap.size)=>h1.drew.add ho hg hv;replace hfin:=hide hfin;have hb1':Below w.heap.size w W1.drew:=hb0.drew;replace hb1':=hide hb1';have hrow:=h1.drew.row;obtain⟨_,c1,_,_,c10,_,fz⟩:=h1.cell;generalize w.heap.size=C at hC hb0 ⊢;have t0:W1.cell?⟨C,0,none⟩=some(.string j):=cell_of_row _ _ 0 _ _ _ hC;have t1:W1.cell?⟨C,1,none⟩=some(.bool false):=cell_of_row _ _ 1 _ _ _ hC;have f1:=fz 1;rw [hk]at c10;have hmc:(min(k:Int)(j.size:Int))≤(j.size:Int):=Int.min_le_right _ _;have hm0:0≤(min(k:Int)(j.size:Int)):=by omega
  clear hC h1 fz h hk ht hw hKm hle q1 q2 hsl;replace hK:=hide hK;go_wp2_with fail
  go_region_law(refine ic rfl(.tmp 11)(.tmp 22)58 9 rfl 0 5 i0(.int .u8 0)1 1 Tryz.underlying58 hi hz0 hz1 hz2 rfl x.jv s.aY.length(U s.aY) ?h1 hrow(.string(j.extract 0 K))(aF(j.extract 0 K)).length(U(aF(j.extract 0 K))) ?h2(hsrc _)b1.out b2.out(Nat.zero_le _) ?_;(case h1=>simp [Act.eval,Act.put]);(case h2=>simp [Act.eval,Act.put,hK.out]);intro v7 w7 gP eu hv7;obtain⟨⟨g1,g2⟩,hm⟩:=hfin.out v7 w7 gP eu hv7;obtain⟨PS,TW,rfl,_⟩:=ak gP)
  all_goals
   clear g1 g2 eu gP;go_wp2
   go_returns
   exact⟨rfl,mG.pre hb1'.out hm⟩
 ·rw [if_pos rfl];unfold iE;go_enter Tryz.func98,Tryz.ntmps98
  go_wp2
  go_returns
  exact⟨rfl,mG.pre hb0(mG.refl h1)⟩
theorem MM.cell {y:MG} {m:aK} {W:World}(h:MM y m W):W.cell?⟨y.G,0,none⟩=some(.int .u64 m.now)∧W.cell?⟨y.G,1,none⟩=some y.sv∧W.cell?⟨y.G,2,none⟩=some y.av∧∀j,W.frozen?⟨y.G,j,none⟩=false:=
 ⟨cell_of_row _ _ 0 _ _ _ h.blk,cell_of_row _ _ 1 _ _ _ h.blk,cell_of_row _ _ 2 _ _ _ h.blk,fun j=>by simp [World.frozen?,h.blk]⟩
theorem MM.svf {y:MG} {m:aK} {W:World}(h:MM y m W):∃ao c,y.sv=.slice ao m.S.length c:=by
 obtain⟨ao,c,e,_⟩:=ak h.yD;exact⟨ao,c,e⟩
theorem MM.get {y:MG} {m:aK} {W:World}(h:MM y m W) {i:Nat}(hi:i<m.S.length):∃x s b c,y.L[i]?=some x∧m.S[i]?=some s∧m.at' i=s∧y.sv=.slice(some⟨b,0,none⟩)m.S.length c∧W.cell?⟨b,i,none⟩=some(.pointer(some⟨x.B,0,none⟩)):=by
 have hl:i<y.L.length:=by rw [h.len];exact hi
 have h1:y.L[i]?=some y.L[i]:=List.getElem?_eq_getElem hl;have h2:m.S[i]?=some m.S[i]:=List.getElem?_eq_getElem hi;obtain⟨b,c,e,_⟩:=bS h.yD(by omega);refine⟨_,_,b,c,h1,h2,?_,e,?_⟩
 ·unfold aK.at';rw [List.getD_eq_getElem?_getD,h2];rfl
 ·have hs:=h.yD;rw [e]at hs;refine(hs.cellAt i(by simpa using hi)).trans ?_;unfold J2;rw [List.getElem?_map,h1];rfl
theorem UA {y:MG} {m:aK} {w:World}(h:MM y m w)(i:Int):Calls Tryz.prog 38 #[.pointer(some⟨y.G,0,none⟩),.int .i64 i]w fun e w'=>e=.returned(.bool(m.has i))∧w'=w:=by
 obtain⟨c0,c1,c2,fz⟩:=h.cell;obtain⟨ao,c,e⟩:=h.svf;rw [e]at c1;clear h e c0 c2 fz;have hm:∀b,b=m.has i→Value.bool b=Value.bool(m.has i):=by rintro _ rfl;rfl
 unfold aK.has at hm ⊢;by_cases hi:0≤i
 ·by_cases hl:i<(m.S.length:Int)
  ·have e1:(decide(0≤i)&&decide(i<(m.S.length:Int)))=true:=by simp [hi,hl]
   rw [e1]at hm ⊢;go_enter Tryz.func38,Tryz.ntmps38
   go_wp2
   go_ret
   simp
  ·have e1:(decide(0≤i)&&decide(i<(m.S.length:Int)))=false:=by simp [hl]
   rw [e1]at hm ⊢;go_enter Tryz.func38,Tryz.ntmps38
   go_wp2
   go_ret
   simp
 ·have e1:(decide(0≤i)&&decide(i<(m.S.length:Int)))=false:=by simp [hi]
  rw [e1]at hm ⊢;go_enter Tryz.func38,Tryz.ntmps38
  go_wp2
  go_ret
  simp
theorem Ew {y:MG} {m:aK} {w:World}(h:MM y m w)(i:Int):Calls Tryz.prog 13 #[.pointer(some⟨y.G,0,none⟩),.int .i64 i]w fun e w'=>e=.returned(.bool(m.runs i))∧w'=w:=by
 obtain⟨c0,c1,c2,fz⟩:=h.cell;have HH:=hide(UA h i);obtain⟨b,hb⟩:∃b,m.has i=b:=⟨_,rfl⟩;have hr:m.runs i=(b&&(m.at' i.toNat).nd.isSome):=by unfold aK.runs;rw [hb]
 rw [hr];rw [hb]at HH;cases b
 ·clear c0 c1 c2 fz hr;go_enter Tryz.func13,Tryz.ntmps13
  go_wp2_with fail
  refine Calls.mono HH.out ?_;rintro e w2⟨rfl,rfl⟩;go_wp2
  go_ret
  simp
 ·unfold aK.has at hb;simp only [Bool.and_eq_true,decide_eq_true_eq]at hb;obtain⟨k,rfl⟩:=Int.eq_ofNat_of_zero_le hb.1;have hk:k<m.S.length:=by omega
  have hk':(k:Int)<(m.S.length:Int):=by omega
  obtain⟨x,s,g,c,h1,h2,h3,e,d0⟩:=h.get hk;obtain⟨_,_,b2,_⟩:=(h.st k x s h1 h2).cell;rw [e]at c1;simp only [Int.NJ,Int.toNat_natCast];rw [h3];clear c0 c2 fz hr h h1 h2 h3 e hb;cases hnd:s.nd with
  |none=>
   rw [hnd]at b2;unfold Lg at b2;go_enter Tryz.func13,Tryz.ntmps13
   go_wp2_with fail
   refine Calls.mono HH.out ?_;rintro e w2⟨rfl,rfl⟩;go_wp2
   go_ret
   simp
  |some z=>
   rw [hnd]at b2;unfold Lg at b2;go_enter Tryz.func13,Tryz.ntmps13
   go_wp2_with fail
   refine Calls.mono HH.out ?_;rintro e w2⟨rfl,rfl⟩;go_wp2
   go_ret
   simp
def UR(o:Op):Value:=.agg #[.int .i64 o.dS,.int .i64 o.a,.int .i64 o.b,.int .i64 o.n,.bool o.on,.string o.txt]
theorem adK {y:MG} {m:aK} {w:World}(h:MM y m w)(o:Op):Calls Tryz.prog 28 #[.pointer(some⟨y.G,0,none⟩),UR o]w fun e w'=>e=.returned(.bool(m.may o))∧Below w.heap.size w w':=by
 have hb0:Below w.heap.size w(w.alloc(.cells #[.int .i64 o.dS,.int .i64 o.a,.int .i64 o.b,.int .i64 o.n,.bool o.on,.string o.txt]28)):=(Below.refl _ _).alloc(Nat.le_refl _)_;have hC:=heap_alloc_new w(.cells #[.int .i64 o.dS,.int .i64 o.a,.int .i64 o.b,.int .i64 o.n,.bool o.on,.string o.txt]28);have h1:=h.later hb0;obtain⟨dS,a,b,n,on,txt⟩:=o;dsimp only at hb0 hC h1;have Ha:=hide(UA h1 a);have Hb:=hide(UA h1 b);have Hr:=hide(Ew h1 a);unfold aK.may;dsimp only;obtain⟨ha,e1⟩:∃z,m.has a=z:=⟨_,rfl⟩;obtain⟨hb,e2⟩:∃z,m.has b=z:=⟨_,rfl⟩;obtain⟨hr,e3⟩:∃z,m.runs a=z:=⟨_,rfl⟩;rw [e1]at Ha;rw [e2]at Hb;rw [e3]at Hr;rw [e1,e2,e3];obtain⟨R,hR⟩:∃R,(if dS=1 then ha&&hb else if dS=2∨dS=8 then hr&&hb else if dS=9∨dS=10 then hr else if dS=11 then ha&&!hr else true)=R:=⟨_,rfl⟩;rw [hR];replace hR:=hide hR;clear h h1 e1 e2 e3;unfold UR;dsimp only;go_enter Tryz.func28,Tryz.ntmps28
 go_upto_region 1 with(fail)
 generalize World.alloc _ _=W1 at hb0 hC Ha Hb Hr ⊢;generalize lm:w.heap.size=C at hC ⊢;have t0:W1.cell?⟨C,0,none⟩=some(.int .i64 dS):=cell_of_row _ _ 0 _ _ _ hC;have t1:W1.cell?⟨C,1,none⟩=some(.int .i64 a):=cell_of_row _ _ 1 _ _ _ hC;have t2:W1.cell?⟨C,2,none⟩=some(.int .i64 b):=cell_of_row _ _ 2 _ _ _ hC;clear hC lm;by_cases d1:dS=1
 ·subst d1;cases ha
  ·go_wp2_with fail
   refine Calls.mono Ha.out ?_;rintro e w2⟨rfl,rfl⟩;go_wp2
   go_ret
   exact⟨by rw [←hR.out];simp [*],hb0⟩
  ·go_wp2_with fail
   refine Calls.mono Ha.out ?_;rintro e w2⟨rfl,rfl⟩;go_wp2_with fail
   refine Calls.mono Hb.out ?_;rintro e w2⟨rfl,rfl⟩;go_wp2
   go_ret
   exact⟨by rw [←hR.out];simp [*],hb0⟩
 by_cases d2:dS=2∨dS=8
 ·cases hr
  ·rcases d2 with rfl|rfl<;>
   ·go_wp2_with fail
    refine Calls.mono Hr.out ?_;rintro e w2⟨rfl,rfl⟩;go_wp2
    go_ret
    exact⟨by rw [←hR.out];simp [*],hb0⟩
  ·rcases d2 with rfl|rfl<;>
   ·go_wp2_with fail
    refine Calls.mono Hr.out ?_;rintro e w2⟨rfl,rfl⟩;go_wp2_with fail
    refine Calls.mono Hb.out ?_;rintro e w2⟨rfl,rfl⟩;go_wp2
    go_ret
    exact⟨by rw [←hR.out];simp [*],hb0⟩
 by_cases d3:dS=9∨dS=10
 ·rcases d3 with rfl|rfl<;>
  ·go_wp2_with fail
   refine Calls.mono Hr.out ?_;rintro e w2⟨rfl,rfl⟩;go_wp2
   go_ret
   exact⟨by rw [←hR.out];simp [*],hb0⟩
 by_cases d4:dS=11
 ·subst d4;cases ha
  ·go_wp2_with fail
   refine Calls.mono Ha.out ?_;rintro e w2⟨rfl,rfl⟩;go_wp2
   go_ret
   exact⟨by rw [←hR.out];simp [*],hb0⟩
  ·go_wp2_with fail
   refine Calls.mono Ha.out ?_;rintro e w2⟨rfl,rfl⟩;go_wp2_with fail
   refine Calls.mono Hr.out ?_;rintro e w2⟨rfl,rfl⟩;go_wp2
   go_ret
   exact⟨by rw [←hR.out];simp [*],hb0⟩
 ·simp only [not_or]at d2 d3;obtain⟨d21,d22⟩:=d2;obtain⟨d31,d32⟩:=d3;go_wp2
  go_ret
  exact⟨by rw [←hR.out];simp [*],hb0⟩
theorem vI(j:ByteArray):(j.size=0→j.toList=[])∧(j.size≠0→¬j.toList=[]):=by
 have h:=Ty j;constructor
 ·intro e;rw [decide_eq_true e]at h;exact List.isEmpty_iff.1 h
 ·intro e k;rw [k,decide_eq_false e]at h;cases h
theorem AZ(j:ByteArray)(aZ:Bool)(fa ca da:Option Addr)(fn fc cn cc dn dc:Nat)(hb:fn+cn+dn≤1000000)(w:World):Calls Tryz.prog 66 #[iE j aZ(.slice fa fn fc)(.slice ca cn cc)(.slice da dn dc)]w fun e w'=>e=.returned(.bool(decide(j.size=0)&&!aZ&&decide(fn+cn+dn=0)))∧Below w.heap.size w w':=by
 have hb0:Below w.heap.size w(w.alloc(.cells #[.string j,.bool aZ,.slice fa fn fc,.slice ca cn cc,.slice da dn dc]52)):=(Below.refl _ _).alloc(Nat.le_refl _)_;have w1:wrap64((fn:Int)+(cn:Int))=(fn:Int)+(cn:Int):=by unfold wrap64;omega
 have w2:wrap64((fn:Int)+(cn:Int)+(dn:Int))=(fn:Int)+(cn:Int)+(dn:Int):=by unfold wrap64;omega
 have e0:((fn:Int)+(cn:Int)+(dn:Int)==0)=decide(fn+cn+dn=0):=by
  by_cases h:fn+cn+dn=0
  ·have:(fn:Int)+(cn:Int)+(dn:Int)=0:=by omega
   simp [h,this]
  ·have:¬(fn:Int)+(cn:Int)+(dn:Int)=0:=by omega
   rw [decide_eq_false h];simpa using this
 obtain⟨r,hr⟩:∃r,decide(fn+cn+dn=0)=r:=⟨_,rfl⟩;rw [hr]at e0 ⊢;clear hr hb;obtain⟨q1,q2⟩:=vI j;unfold iE;by_cases hj:j.size=0
 ·have hj':=q1 hj;rw [decide_eq_true hj];clear q1 q2 hj;cases aZ
  ·go_enter Tryz.func66,Tryz.ntmps66
   go_wp2
   go_ret
   exact⟨by simp,hb0⟩
  ·go_enter Tryz.func66,Tryz.ntmps66
   go_wp2
   go_ret
   exact⟨by simp,hb0⟩
 ·have hj':=q2 hj;rw [decide_eq_false hj];clear q1 q2 hj;cases aZ
  ·go_enter Tryz.func66,Tryz.ntmps66
   go_wp2
   go_ret
   exact⟨by simp [hj'],hb0⟩
  ·go_enter Tryz.func66,Tryz.ntmps66
   go_wp2
   go_ret
   exact⟨by simp [hj'],hb0⟩
theorem F9 {L:List(Bool×Int×Int)}(hb:pW L):aF(strOfNums(bn L))=bn L∧(strOfNums(bn L)).size=13 * L.length:=by
 have h:=sJ(D6 hb);refine⟨h,?_⟩;rw [←dx,h,g_]
theorem bi.nL {s:bi} {o:Ot}(h1:o.a_=[])(h2:o.aZ=false):s.write o=(s,true):=by
 unfold bi.write;rw [h1,h2];rfl
theorem bi.oF {s:bi} {o:Ot}(h1:o.a_≠ []∨o.aZ=true)(ht:s.tears=true):s.write o=({s with aY:=if o.aZ then s.aY else s.aY++(bn o.a_).take s.whole.toNat}.stop,false):=by
 unfold bi.write;rw [if_neg(by
  rcases h1 with h|h
  ·cases hn:o.a_ with
   |nil=>exact absurd hn h
   |cons a l=>simp
  ·simp [h]),if_pos ht]
theorem bi.jy {s:bi} {o:Ot}(h1:o.a_≠ []∨o.aZ=true)(ht:s.tears=false):s.write o=({s with aY:=(if o.aZ then []else s.aY)++bn o.a_},true):=by
 unfold bi.write;rw [if_neg(by
  rcases h1 with h|h
  ·cases hn:o.a_ with
   |nil=>exact absurd hn h
   |cons a l=>simp
  ·simp [h]),if_neg(by simp [ht])]
theorem mG.comp {x x1:SG} {s s1 s':bi} {w w1 w':World}(b1:x1.B=x.B)(f1:Fx(kJ x s)w w1)(u1:∀k,kJ x1 s1 k→kJ x s k∨(w.heap.size≤k∧k<w1.heap.size))(h2:mG x1 s1 s' w1 w'):mG x s s' w w':=by
 obtain⟨x2,b2,m2,f2,u2⟩:=h2;have:=f1.size;have:=f2.size;refine⟨x2,b2.trans b1,m2,f1.trans f2 fun k hk hs=>(u1 k hs).elim id fun h=>by omega,fun k hk=> ?_⟩;rcases u2 k hk with h|h
 ·exact(u1 k h).dh fun h=>by omega
 ·exact .inr(by omega)
theorem G8 {x:SG} {s:bi} {w:World}(h:mf x s w)(o:Ot)(aI bH bI:Value)(hb:pW o.a_)(hl:o.a_.length≤50000)(hj:s.aY.length≤1000000)(hw:0≤s.whole):
  Calls Tryz.prog 62 #[.pointer(some⟨x.B,0,none⟩),iE(strOfNums(bn o.a_))o.aZ aI bH bI]w fun e w'=>e=.returned(.bool(s.write o).2)∧mG x s(s.write o).1 w w':=by
 obtain⟨i0,hi,hz0,hz1,hz2⟩:=info_parts uN;obtain⟨j1,j2⟩:=F9 hb;have hb0:Below w.heap.size w(w.alloc(.cells #[.string(strOfNums(bn o.a_)),.bool o.aZ,aI,bH,bI]52)):=(Below.refl _ _).alloc(Nat.le_refl _)_;have hC:=heap_alloc_new w(.cells #[.string(strOfNums(bn o.a_)),.bool o.aZ,aI,bH,bI]52);have h1:=h.later hb0;by_cases hno:o.a_=[]∧o.aZ=false
 ·rw [bi.nL hno.1 hno.2];have hs0:(strOfNums(bn o.a_)).size=0:=by rw [j2,hno.1];rfl
  have q1:=(vI _).1 hs0;rw [hno.2]at hb0 hC h1 ⊢;generalize strOfNums(bn o.a_)=j at hb0 hC h1 q1 ⊢;have hfin:=mG.pre hb0(mG.refl h1);clear h hno hs0 j1 j2 hC h1 hb0;unfold iE;go_enter Tryz.func62,Tryz.ntmps62
  go_wp2
  go_ret
  exact⟨rfl,hfin⟩
 have hno':o.a_≠ []∨o.aZ=true:=by
  by_cases e:o.a_=[]
  ·refine .inr ?_;cases hr:o.aZ
   ·exact absurd⟨e,hr⟩hno
   ·rfl
  ·exact .inl e
 have hg:(strOfNums(bn o.a_)).toList=[]→o.aZ=true:=fun e=>by
  rcases hno' with h|h
  ·refine absurd e((vI _).2 ?_);rw [j2];have:=List.length_pos_iff.2 h;omega
  ·exact h
 cases ht:s.tears
 ·rw [bi.jy hno' ht];have hsrc:=fun W=>Kz(strOfNums(bn o.a_))W;have hjs:(strOfNums(bn o.a_)).size≤1000000:=by omega
  rw [j1]at hsrc;obtain⟨ZM,aal⟩:∃n,(strOfNums(bn o.a_)).size=n:=⟨_,rfl⟩;have hfl:(bn o.a_).length=ZM:=by rw [g_,←j2,aal]
  rw [aal]at hsrc hjs;clear hno hno' h hb hl j1 j2 aal;generalize strOfNums(bn o.a_)=j at hb0 hC h1 hsrc hg ⊢;generalize bn o.a_=ns at hsrc hfl ⊢;obtain⟨_,c1,_,c9,_,_,fz⟩:=h1.cell;rw [ht]at c9;have f1:=fz 1;have hlen:s.aY.length+ZM≤maxLen:=by unfold maxLen;omega
  have acI:(s.aY.length+ZM)* 1≤140737488355328:=by omega
  replace hsrc:=hide hsrc;cases hr:o.aZ
  ·rw [hr]at hb0 hC h1 hg c1 c9 f1;have hg':¬j.toList=[]:=fun e=>by cases hg e
   simp only [Bool.false_eq_true,if_false];clear fz hg;unfold iE;go_enter Tryz.func62,Tryz.ntmps62
   go_upto_region 1 with(fail)
   generalize World.alloc _ _=W1 at hb0 hC h1 c1 c9 f1 ⊢;have hrow:=h1.drew.row;have hfin:=fun v7 w7(ho:w7.ownsRow 0 5 1 v7(s.aY.length+ns.length)(U s.aY++U ns))(hg:W1.drew.grownBy w7 x.jv.ownBlock)(hv:v7.ownBlock=x.jv.ownBlock∨v7.ownBlock=some W1.drew.heap.size)=>mG.pre hb0.drew(h1.drew.add ho hg hv).2;have hkp:=fun v7 w7(ho:w7.ownsRow 0 5 1 v7(s.aY.length+ns.length)(U s.aY++U ns))(hg:W1.drew.grownBy w7 x.jv.ownBlock)(hv:v7.ownBlock=x.jv.ownBlock∨v7.ownBlock=some W1.drew.heap.size)=>(h1.drew.add ho hg hv).1;rw [hfl]at hfin hkp;replace hfin:=hide hfin;replace hkp:=hide hkp;generalize w.heap.size=C at hC ⊢;have t0:W1.cell?⟨C,0,none⟩=some(.string j):=cell_of_row _ _ 0 _ _ _ hC;have t1:W1.cell?⟨C,1,none⟩=some(.bool false):=cell_of_row _ _ 1 _ _ _ hC;clear hC h1 hb0 hfl ht hr;go_upto_region 9 with(fail)
   go_region_law(refine ic rfl(.tmp 31)(.tmp 33)58 9 rfl 0 5 i0(.int .u8 0)1 1 Tryz.underlying58 hi hz0 hz1 hz2 rfl x.jv s.aY.length(U s.aY) ?h1 hrow(.string j)ZM(U ns) ?h2(hsrc.out _)hlen acI(Nat.zero_le _) ?_;(case h1=>simp [Act.eval,Act.put]);(case h2=>simp [Act.eval,Act.put]);intro v7 w7 gP eu hv7;obtain⟨g1,g2⟩:=hkp.out v7 w7 gP eu hv7;have hm:=hfin.out v7 w7 gP eu hv7;obtain⟨PS,TW,rfl,_⟩:=ak gP)
   all_goals
    clear g1 g2 eu gP;go_wp2
    go_ret
    exact⟨rfl,hm⟩
  ·rw [hr]at hb0 hC h1 hg c1 c9 f1;simp only [if_true];clear fz hg;unfold iE;go_enter Tryz.func62,Tryz.ntmps62
   go_upto_region 1 with(fail)
   generalize World.alloc _ _=W1 at hb0 hC h1 c1 c9 f1 ⊢;have hn:=h1.nil;have hB:=aD h1.blk;generalize lm:w.heap.size=C at hC ⊢;have hne:x.B≠C:=fun e=>by
    have h2:=h1.blk;rw [e,hC]at h2;cases h2
   have t0:W1.cell?⟨C,0,none⟩=some(.string j):=cell_of_row _ _ 0 _ _ _ hC;have t1:W1.cell?⟨C,1,none⟩=some(.bool true):=cell_of_row _ _ 1 _ _ _ hC;have hg2:W1.grownBy(W1.setCell⟨x.B,1,none⟩(.slice none 0 0))(some x.B):=aa(aC _(some x.B))1 _;have t2:(W1.setCell⟨x.B,1,none⟩(.slice none 0 0)).cell?⟨C,0,none⟩=some(.string j):=(World.cell?_of_block(a:=⟨C,0,none⟩)(hg2.block C(aD hC)fun e=>hne(Option.some.inj e).symm)).trans t0;have hc1:(W1.setCell⟨x.B,1,none⟩(.slice none 0 0)).cell?⟨x.B,1,none⟩=some(.slice none 0 0):=by
    have hb:=ym(j:=1)(v:=.slice none 0 0)h1.blk;exact(cell_of_row _ _ 1 _ _ _ hb).trans(by simp [ED])
   obtain⟨x1,b1,m1,k1,u1⟩:=hn;have hjv:x1.jv=.slice none 0 0:=by
    have c:=m1.cell.2.1;rw [b1,hc1]at c;exact(Option.some.inj c).symm
   have hf2:=(m1.drew.cell.2.2.2.2.2.2 1);rw [b1]at hf2;have hfin:=fun v7 w7(ho:w7.ownsRow 0 5 1 v7(0+ZM)([]++U ns))(hg:(W1.setCell⟨x.B,1,none⟩(.slice none 0 0)).drew.grownBy w7(Value.slice none 0 0).ownBlock)(hv:v7.ownBlock=(Value.slice none 0 0).ownBlock∨v7.ownBlock=some(W1.setCell⟨x.B,1,none⟩(.slice none 0 0)).drew.heap.size)=>(show(w7.cell?⟨x.B,1,none⟩=some(.slice none 0 0)∧w7.frozen?⟨x.B,1,none⟩=false)∧mG x s {s with aY:=[]++ns}w(w7.setCell⟨x.B,1,none⟩v7)from by
    obtain⟨q1,q2⟩:=m1.drew.add(ns:=ns)(v7:=v7)(w7:=w7)(by rw [hfl];exact ho)(by rw [hjv];exact hg)(by rw [hjv];exact hv);rw [b1,hjv]at q1;rw [b1]at q2;exact⟨q1,mG.pre hb0(mG.comp b1(k1.trans(Fx.below(S:=kJ x s)(Below.refl _ _).drew)(fun _ _ h=>h))u1 q2)⟩)
   have hrow:(W1.setCell⟨x.B,1,none⟩(.slice none 0 0)).drew.ownsRow 0 5 1(.slice none 0 0)0 []:=⟨rfl,.inl⟨rfl,rfl⟩⟩;have hfz:=(m1.cell.2.2.2.2.2.2 1);rw [b1]at hfz;clear hC ht hr hb0 hB hg2 k1 u1 h1 m1 hne hfl;replace hfin:=hide hfin;have hnl:(Value.slice none 0 0).ownBlock=none:=rfl;by_cases hje:j.toList=[]
   ·go_upto_region 9 with(fail)
    go_region_law(refine ic rfl(.tmp 31)(.tmp 33)58 9 rfl 0 5 i0(.int .u8 0)1 1 Tryz.underlying58 hi hz0 hz1 hz2 rfl(.slice none 0 0)0 [] ?h1 hrow(.string j)ZM(U ns) ?h2(hsrc.out _) ?h3 ?h4(Nat.zero_le _) ?_;(case h1=>simp [Act.eval,Act.put]);(case h2=>simp [Act.eval,Act.put]);(case h3=>omega);(case h4=>omega);intro v7 w7 gP eu hv7;obtain⟨⟨g1,g2⟩,hm⟩:=hfin.out v7 w7 gP eu hv7;rw [Nat.zero_add]at gP;obtain⟨PS,TW,rfl,_⟩:=ak gP)
    all_goals
     clear g1 g2 eu gP;go_wp2
     go_ret
     exact⟨rfl,hm⟩
   ·go_upto_region 9 with(fail)
    go_region_law(refine ic rfl(.tmp 31)(.tmp 33)58 9 rfl 0 5 i0(.int .u8 0)1 1 Tryz.underlying58 hi hz0 hz1 hz2 rfl(.slice none 0 0)0 [] ?h1 hrow(.string j)ZM(U ns) ?h2(hsrc.out _) ?h3 ?h4(Nat.zero_le _) ?_;(case h1=>simp [Act.eval,Act.put]);(case h2=>simp [Act.eval,Act.put]);(case h3=>omega);(case h4=>omega);intro v7 w7 gP eu hv7;obtain⟨⟨g1,g2⟩,hm⟩:=hfin.out v7 w7 gP eu hv7;rw [Nat.zero_add]at gP;obtain⟨PS,TW,rfl,_⟩:=ak gP)
    all_goals
     clear g1 g2 eu gP;go_wp2
     go_ret
     exact⟨rfl,hm⟩
 ·rw [bi.oF hno' ht];have hjs:(strOfNums(bn o.a_)).size≤1000000:=by omega
  obtain⟨_,c1,_,c9,_,_,fz⟩:=h1.cell;rw [ht]at c9;have HW:=En h1(strOfNums(bn o.a_))o.aZ aI bH bI hjs hj hw;rw [j1]at HW;replace HW:=hide HW;clear hno hno' h hb hl j1 j2 hjs c1 fz hi hz0 hz1 hz2;generalize strOfNums(bn o.a_)=j at hb0 hC h1 hg HW c9 ⊢;obtain⟨s1,hs1⟩:∃s1,({s with aY:=if o.aZ then s.aY else s.aY++(bn o.a_).take s.whole.toNat}:bi)=s1:=⟨_,rfl⟩;rw [hs1]at HW ⊢;clear hs1;generalize o.aZ=rp at hb0 hC h1 hg HW c9 ⊢;clear h1;unfold iE at HW ⊢;go_enter Tryz.func62,Tryz.ntmps62
  go_upto_region 1 with(fail)
  generalize World.alloc _ _=W1 at hb0 hC HW c9 ⊢;generalize lm:w.heap.size=C at hC ⊢;have t0:W1.cell?⟨C,0,none⟩=some(.string j):=cell_of_row _ _ 0 _ _ _ hC;have t1:W1.cell?⟨C,1,none⟩=some(.bool rp):=cell_of_row _ _ 1 _ _ _ hC;have t2:W1.cell?⟨C,2,none⟩=some aI:=cell_of_row _ _ 2 _ _ _ hC;have t3:W1.cell?⟨C,3,none⟩=some bH:=cell_of_row _ _ 3 _ _ _ hC;have t4:W1.cell?⟨C,4,none⟩=some bI:=cell_of_row _ _ 4 _ _ _ hC;clear hC lm;by_cases hje:j.toList=[]
  ·obtain rfl:=hg hje;clear hg;go_wp2_with fail
   refine Calls.mono HW.out ?_;rintro e w2⟨rfl,hm⟩;obtain⟨x1,b1,m1,k1,u1⟩:=hm;have HS:=Eo m1;rw [b1]at HS;replace HS:=hide HS;clear HW m1 c9 t0 t1 t2 t3 t4;go_wp2_with fail
   refine Calls.mono HS.out ?_;rintro e w3⟨rfl,hm⟩;have hfin:=mG.pre hb0(mG.comp b1 k1 u1 hm);clear HS hm k1 u1 hb0;go_wp2
   go_ret
   exact⟨rfl,hfin⟩
  ·clear hg;go_wp2_with fail
   refine Calls.mono HW.out ?_;rintro e w2⟨rfl,hm⟩;obtain⟨x1,b1,m1,k1,u1⟩:=hm;have HS:=Eo m1;rw [b1]at HS;replace HS:=hide HS;clear HW m1 c9 t0 t1 t2 t3 t4;go_wp2_with fail
   refine Calls.mono HS.out ?_;rintro e w3⟨rfl,hm⟩;have hfin:=mG.pre hb0(mG.comp b1 k1 u1 hm);clear HS hm k1 u1 hb0;go_wp2
   go_ret
   exact⟨rfl,hfin⟩
end Go.Proofs.YtakaadcpaeiccabGreat
