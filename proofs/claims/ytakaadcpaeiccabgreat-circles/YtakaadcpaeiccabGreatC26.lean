import Derived.Test.YtakaadcpaeiccabGreatC25
import Derived.Deep.CutBlock
set_option maxHeartbeats 4000000
set_option maxRecDepth 100000
namespace Go.Proofs.YtakaadcpaeiccabGreat
open Go.RowKit Go.Maps
variable{x:SG}{s:bJ}{W:World}
theorem mZ.drew(h:mZ x s W):mZ x s W.drew:=h.kept λ_ _=>rfl
theorem mZ.later{W':World}(h:mZ x s W)(hb:Below W.heap.size W W'):mZ x s W':=h.kept λk hk=>hb.block k (h.lt hk)
theorem mZ.add(h:mZ x s W){ns:List Int}{v7:Value}{w7:World}(ho:w7.ownsRow 0 5 1 v7 (s.bn.length+ns.length) (U s.bn++U ns))(hg:W.grownBy w7 x.jv.ownBlock)(hv:v7.ownBlock=x.jv.ownBlock∨v7.ownBlock=some W.heap.size):
  (w7.cell? ⟨x.B,1,none⟩=some x.jv∧w7.frozen? ⟨x.B,1,none⟩=false)∧nJ x s {s with bn:=s.bn++ns} W (w7.setCell ⟨x.B,1,none⟩ v7):=by
 have hne:x.jv.ownBlock≠some x.B:=aB h.row h.blk (λc e=>(by cases e));have hblk:=hg.block _ (aG h.blk) λe=>hne e.symm;obtain⟨_,c1,_,_,_,_,fz⟩:=h.cell;refine⟨⟨(World.cell?_of_block (a:=⟨x.B,1,none⟩) hblk).trans c1,(World.frozen?_of_block (a:=⟨x.B,1,none⟩) hblk).trans (fz 1)⟩,h.bn (xs:=s.bn++ns) ?_ hg (hv.imp_right .inl)⟩;rw[dw];rw[show U (s.bn++ns)=U s.bn++U ns by simp[U]];exact ho
theorem mZ.nil(h:mZ x s W):nJ x s {s with bn:=[]} W (W.setCell ⟨x.B,1,none⟩ (.slice none 0 0)):=
 h.bn (xs:=[]) ⟨rfl,.inl ⟨rfl,rfl⟩⟩ (aC _ _) (.inr (.inr rfl))
theorem Em(s:ByteArray)(a b:Nat):aI (s.extract a b)=((aI s).drop a).take (b - a):=by
 simp only[aI,Go.Lib.extract_data,List.map_take,List.map_drop]
theorem LG(s:ByteArray)(W:World):Src Tryz.prog 1 9 (.string s) s.size (U (aI s)) W:=by
 rw[<-yu];exact Src.ofString W Tryz.underlying9 s
theorem YC(s:ByteArray)(k:Nat)(hk:k<=s.size):(s.extract 0 k).size=k∧aI (s.extract 0 k)=(aI s).take k:=by
 refine⟨by rw[ByteArray.size_extract];omega,?_⟩;rw[Em];simp
theorem Fq{w:World}(h:mZ x s w)(j:ByteArray)(bC:Bool)(aK bP bQ:Value)(hj:j.size<=1000000)(hl:s.bn.length<=1000000)(hw:0<=s.whole):
  Calls Tryz.prog 98 #[.pointer (some ⟨x.B,0,none⟩),iY j bC aK bP bQ] w λe w'=>e=.returned (.tuple #[])∧nJ x s {s with bn:=if bC then s.bn else s.bn++(aI j).take s.whole.toNat} w w':=by
 obtain⟨i0,hi,hz0,hz1,hz2⟩:=info_parts vH;have hb0:Below w.heap.size w (w.alloc (.cells #[.string j,.bool bC,aK,bP,bQ] 52)):=bq;have hC:=bS w (.cells #[.string j,.bool bC,aK,bP,bQ] 52);have h1:=h.later hb0;obtain⟨k,hk⟩:∃k:Nat,s.whole=k:=Int.eq_ofNat_of_zero_le hw;cases bC
 ·rw[aM (by simp)];obtain⟨K,hK⟩:∃K,(min (k:Int) (j.size:Int)).toNat=K:=⟨_,rfl⟩;have hKm:K=min k j.size:=by omega
  have hle:K<=j.size:=by omega
  obtain⟨q1,q2⟩:=YC j K hle;have ht:(aI j).take s.whole.toNat=aI (j.extract 0 K):=by
   rw[q2,hk,hKm];simp only[iU];rw[<-dA];by_cases hkj:k<=(aI j).length
   ·rw[Nat.min_eq_left hkj]
   ·rw[Nat.min_eq_right (by omega),ko (by omega),ko (aD _)]
  rw[ht];have hsl:=dA (j.extract 0 K);rw[q1]at hsl;have hsrc:∀W,Src Tryz.prog 1 9 (.string (j.extract 0 K)) (aI (j.extract 0 K)).length (U (aI (j.extract 0 K))) W:=λW=>by rw[dA];exact LG (j.extract 0 K) W
  have b1:Hid (s.bn.length+(aI (j.extract 0 K)).length<=maxLen):=by show _<=_;unfold maxLen;omega
  have b2:Hid ((s.bn.length+(aI (j.extract 0 K)).length)* 1<=140737488355328):=by show _<=_;omega
  unfold iY;go_enter Tryz.func98,Tryz.ntmps98;go_upto_region 1 with(fail);generalize World.alloc _ _=W1 at hb0 hC h1 ⊢;have hfin:=λv7 w7 (ho:w7.ownsRow 0 5 1 v7 (s.bn.length+(aI (j.extract 0 K)).length) (U s.bn++U (aI (j.extract 0 K)))) (hg:W1.drew.grownBy w7 x.jv.ownBlock) (hv:v7.ownBlock=x.jv.ownBlock∨v7.ownBlock=some W1.drew.heap.size)=>h1.drew.add ho hg hv;replace hfin:=hide hfin;have hb1':Below w.heap.size w W1.drew:=hb0.drew;replace hb1':=hide hb1';have hrow:=h1.drew.row;obtain⟨_,c1,_,_,c10,_,fz⟩:=h1.cell;generalize w.heap.size=C at hC hb0 ⊢;have t0:W1.cell? ⟨C,0,none⟩=some (.string j):=aH _ _ 0 _ _ _ hC;have t1:W1.cell? ⟨C,1,none⟩=some (.bool false):=aH _ _ 1 _ _ _ hC;have f1:=fz 1;rw[hk]at c10;have hmc:(min (k:Int) (j.size:Int))<=(j.size:Int):=Int.min_le_right _ _;have hm0:0<=(min (k:Int) (j.size:Int)):=by omega
  clear hC h1 fz h hk ht hw hKm hle q1 q2 hsl;replace hK:=hide hK;go_wp2_with fail;go_region_law (refine iI rfl (.tmp 11) (.tmp 22) 58 9 rfl 0 5 i0 (.int .u8 0) 1 1 Tryz.underlying58 hi hz0 hz1 hz2 rfl x.jv s.bn.length (U s.bn) ?h1 hrow (.string (j.extract 0 K)) (aI (j.extract 0 K)).length (U (aI (j.extract 0 K))) ?h2 (hsrc _) b1.out b2.out (dh _) ?_;(case h1=>simp[Act.eval,Act.put]);(case h2=>simp[Act.eval,Act.put,hK.out]);intro v7 w7 iy gP hv7;obtain⟨⟨g1,g2⟩,hm⟩:=hfin.out v7 w7 iy gP hv7;obtain⟨Qz,UM,rfl,_⟩:=ak iy)
  all_goals
   clear g1 g2 gP iy;go_wp2;go_returns;exact⟨rfl,nJ.pre hb1'.out hm⟩
 ·rw[aQ rfl];unfold iY;go_enter Tryz.func98,Tryz.ntmps98;go_wp2;go_returns;exact⟨rfl,nJ.pre hb0 (nJ.refl h1)⟩
variable{y:MG}{m:aS}{W w:World}
theorem MM.cell(h:MM y m W):W.cell? ⟨y.G,0,none⟩=some (.int .u64 m.now)∧W.cell? ⟨y.G,1,none⟩=some y.sv∧W.cell? ⟨y.G,2,none⟩=some y.av∧∀j,W.frozen? ⟨y.G,j,none⟩=false:=
 ⟨aH _ _ 0 _ _ _ h.blk,aH _ _ 1 _ _ _ h.blk,aH _ _ 2 _ _ _ h.blk,λj=>by simp[World.frozen?,h.blk]⟩
theorem MM.svf(h:MM y m W):∃ao c,y.sv=.slice ao m.S.length c:=by
 obtain⟨ao,c,e,_⟩:=ak h.zF;exact⟨ao,c,e⟩
theorem MM.get(h:MM y m W){i:Nat}(hi:i<m.S.length):∃x s b c,y.L[i]?=some x∧m.S[i]?=some s∧m.at' i=s∧y.sv=.slice (some ⟨b,0,none⟩) m.S.length c∧W.cell? ⟨b,i,none⟩=some (.pointer (some ⟨x.B,0,none⟩)):=by
 have hl:i<y.L.length:=by rw[h.len];exact hi
 have h1:y.L[i]?=some y.L[i]:=cZ hl;have h2:m.S[i]?=some m.S[i]:=cZ hi;obtain⟨b,c,e,_⟩:=bV h.zF (by omega);refine⟨_,_,b,c,h1,h2,?_,e,?_⟩
 ·unfold aS.at';rw[List.getD_eq_getElem?_getD,h2];rfl
 ·have hs:=h.zF;rw[e]at hs;refine(hs.cellAt i (by simpa using hi)).trans ?_;unfold KU;rw[kr,h1];rfl
theorem Vl(h:MM y m w)(i:Int):Calls Tryz.prog 38 #[.pointer (some ⟨y.G,0,none⟩),.int .i64 i] w λe w'=>e=.returned (.bool (m.has i))∧w'=w:=by
 obtain⟨c0,c1,c2,fz⟩:=h.cell;obtain⟨ao,c,e⟩:=h.svf;rw[e]at c1;clear h e c0 c2 fz;have hm:∀b,b=m.has i->Value.bool b=Value.bool (m.has i):=by rintro _ rfl;rfl
 unfold aS.has at hm ⊢;by_cases hi:0<=i
 ·by_cases hl:i<(m.S.length:Int)
  ·have e1:(decide (0<=i)&&decide (i<(m.S.length:Int)))=true:=by simp[hi,hl]
   rw[e1]at hm ⊢;go_enter Tryz.func38,Tryz.ntmps38;go_wp2;go_ret;simp
  ·have e1:(decide (0<=i)&&decide (i<(m.S.length:Int)))=false:=by simp[hl]
   rw[e1]at hm ⊢;go_enter Tryz.func38,Tryz.ntmps38;go_wp2;go_ret;simp
 ·have e1:(decide (0<=i)&&decide (i<(m.S.length:Int)))=false:=by simp[hi]
  rw[e1]at hm ⊢;go_enter Tryz.func38,Tryz.ntmps38;go_wp2;go_ret;simp
theorem FB(h:MM y m w)(i:Int):Calls Tryz.prog 13 #[.pointer (some ⟨y.G,0,none⟩),.int .i64 i] w λe w'=>e=.returned (.bool (m.runs i))∧w'=w:=by
 obtain⟨c0,c1,c2,fz⟩:=h.cell;have HH:=hide (Vl h i);obtain⟨b,hb⟩:∃b,m.has i=b:=⟨_,rfl⟩;have hr:m.runs i=(b&&(m.at' i.toNat).nd.isSome):=by unfold aS.runs;rw[hb]
 rw[hr];rw[hb]at HH;cases b
 ·clear c0 c1 c2 fz hr;go_enter Tryz.func13,Tryz.ntmps13;go_wp2_with fail;refine aU HH.out ?_;rintro e w2 ⟨rfl,rfl⟩;go_wp2;go_ret;simp
 ·unfold aS.has at hb;simp only[fF,jg]at hb;obtain⟨k,rfl⟩:=Int.eq_ofNat_of_zero_le hb.1;have hk:k<m.S.length:=by omega
  have hk':(k:Int)<(m.S.length:Int):=by omega
  obtain⟨x,s,g,c,h1,h2,h3,e,d0⟩:=h.get hk;obtain⟨_,_,b2,_⟩:=(h.st k x s h1 h2).cell;rw[e]at c1;simp only[iU];rw[h3];clear c0 c2 fz hr h h1 h2 h3 e hb;cases hnd:s.nd with
  |none=>
   rw[hnd]at b2;unfold MC at b2;go_enter Tryz.func13,Tryz.ntmps13;go_wp2_with fail;refine aU HH.out ?_;rintro e w2 ⟨rfl,rfl⟩;go_wp2;go_ret;simp
  |some z=>
   rw[hnd]at b2;unfold MC at b2;go_enter Tryz.func13,Tryz.ntmps13;go_wp2_with fail;refine aU HH.out ?_;rintro e w2 ⟨rfl,rfl⟩;go_wp2;go_ret;simp
def Vz(o:Op):Value:=.agg #[.int .i64 o.dX,.int .i64 o.a,.int .i64 o.b,.int .i64 o.n,.bool o.on,.string o.txt]
theorem aeo{y:MG}{m:aS}{w:World}(h:MM y m w)(o:Op):Calls Tryz.prog 28 #[.pointer (some ⟨y.G,0,none⟩),Vz o] w λe w'=>e=.returned (.bool (m.may o))∧Below w.heap.size w w':=by
 have hb0:Below w.heap.size w (w.alloc (.cells #[.int .i64 o.dX,.int .i64 o.a,.int .i64 o.b,.int .i64 o.n,.bool o.on,.string o.txt] 28)):=bq;have hC:=bS w (.cells #[.int .i64 o.dX,.int .i64 o.a,.int .i64 o.b,.int .i64 o.n,.bool o.on,.string o.txt] 28);have h1:=h.later hb0;obtain⟨dX,a,b,n,on,txt⟩:=o;dsimp only at hb0 hC h1;have Ha:=hide (Vl h1 a);have Hb:=hide (Vl h1 b);have Hr:=hide (FB h1 a);unfold aS.may;dsimp only;obtain⟨ha,e1⟩:∃z,m.has a=z:=⟨_,rfl⟩;obtain⟨hb,e2⟩:∃z,m.has b=z:=⟨_,rfl⟩;obtain⟨hr,e3⟩:∃z,m.runs a=z:=⟨_,rfl⟩;rw[e1]at Ha;rw[e2]at Hb;rw[e3]at Hr;rw[e1,e2,e3];obtain⟨R,hR⟩:∃R,(if dX=1 then ha&&hb else if dX=2∨dX=8 then hr&&hb else if dX=9∨dX=10 then hr else if dX=11 then ha&&!hr else true)=R:=⟨_,rfl⟩;rw[hR];replace hR:=hide hR;clear h h1 e1 e2 e3;unfold Vz;dsimp only;go_enter Tryz.func28,Tryz.ntmps28;go_upto_region 1 with(fail);generalize World.alloc _ _=W1 at hb0 hC Ha Hb Hr ⊢;generalize l8:w.heap.size=C at hC ⊢;have t0:W1.cell? ⟨C,0,none⟩=some (.int .i64 dX):=aH _ _ 0 _ _ _ hC;have t1:W1.cell? ⟨C,1,none⟩=some (.int .i64 a):=aH _ _ 1 _ _ _ hC;have t2:W1.cell? ⟨C,2,none⟩=some (.int .i64 b):=aH _ _ 2 _ _ _ hC;clear hC l8;by_cases d1:dX=1
 ·subst d1;cases ha
  ·go_wp2_with fail;refine aU Ha.out ?_;rintro e w2 ⟨rfl,rfl⟩;go_wp2;go_ret;exact⟨by rw[<-hR.out];simp[*],hb0⟩
  ·go_wp2_with fail;refine aU Ha.out ?_;rintro e w2 ⟨rfl,rfl⟩;go_wp2_with fail;refine aU Hb.out ?_;rintro e w2 ⟨rfl,rfl⟩;go_wp2;go_ret;exact⟨by rw[<-hR.out];simp[*],hb0⟩
 by_cases d2:dX=2∨dX=8
 ·cases hr
  ·rcases d2 with rfl|rfl<;>
   ·go_wp2_with fail;refine aU Hr.out ?_;rintro e w2 ⟨rfl,rfl⟩;go_wp2;go_ret;exact⟨by rw[<-hR.out];simp[*],hb0⟩
  ·rcases d2 with rfl|rfl<;>
   ·go_wp2_with fail;refine aU Hr.out ?_;rintro e w2 ⟨rfl,rfl⟩;go_wp2_with fail;refine aU Hb.out ?_;rintro e w2 ⟨rfl,rfl⟩;go_wp2;go_ret;exact⟨by rw[<-hR.out];simp[*],hb0⟩
 by_cases d3:dX=9∨dX=10
 ·rcases d3 with rfl|rfl<;>
  ·go_wp2_with fail;refine aU Hr.out ?_;rintro e w2 ⟨rfl,rfl⟩;go_wp2;go_ret;exact⟨by rw[<-hR.out];simp[*],hb0⟩
 by_cases d4:dX=11
 ·subst d4;cases ha
  ·go_wp2_with fail;refine aU Ha.out ?_;rintro e w2 ⟨rfl,rfl⟩;go_wp2;go_ret;exact⟨by rw[<-hR.out];simp[*],hb0⟩
  ·go_wp2_with fail;refine aU Ha.out ?_;rintro e w2 ⟨rfl,rfl⟩;go_wp2_with fail;refine aU Hr.out ?_;rintro e w2 ⟨rfl,rfl⟩;go_wp2;go_ret;exact⟨by rw[<-hR.out];simp[*],hb0⟩
 ·simp only[not_or]at d2 d3;obtain⟨d21,d22⟩:=d2;obtain⟨d31,d32⟩:=d3;go_wp2;go_ret;exact⟨by rw[<-hR.out];simp[*],hb0⟩
theorem wC(j:ByteArray):(j.size=0->j.toList=[])∧(j.size≠0->¬j.toList=[]):=by
 have h:=Ut j;constructor
 ·intro e;rw[gm e]at h;exact List.isEmpty_iff.1 h
 ·intro e k;rw[k,fA e]at h;cases h
theorem BX(j:ByteArray)(bC:Bool)(fa ca da:Option Addr)(fn fc cn cc dn dc:Nat)(hb:fn+cn+dn<=1000000)(w:World):Calls Tryz.prog 66 #[iY j bC (.slice fa fn fc) (.slice ca cn cc) (.slice da dn dc)] w λe w'=>e=.returned (.bool (decide (j.size=0)&&!bC&&decide (fn+cn+dn=0)))∧Below w.heap.size w w':=by
 have hb0:Below w.heap.size w (w.alloc (.cells #[.string j,.bool bC,.slice fa fn fc,.slice ca cn cc,.slice da dn dc] 52)):=bq;have w1:wrap64 ((fn:Int)+(cn:Int))=(fn:Int)+(cn:Int):=by unfold wrap64;omega
 have w2:wrap64 ((fn:Int)+(cn:Int)+(dn:Int))=(fn:Int)+(cn:Int)+(dn:Int):=by unfold wrap64;omega
 have e0:((fn:Int)+(cn:Int)+(dn:Int)==0)=decide (fn+cn+dn=0):=by
  by_cases h:fn+cn+dn=0
  ·have:(fn:Int)+(cn:Int)+(dn:Int)=0:=by omega
   simp[h,this]
  ·have:¬(fn:Int)+(cn:Int)+(dn:Int)=0:=by omega
   rw[fA h];simpa using this
 obtain⟨r,hr⟩:∃r,decide (fn+cn+dn=0)=r:=⟨_,rfl⟩;rw[hr]at e0 ⊢;clear hr hb;obtain⟨q1,q2⟩:=wC j;unfold iY;by_cases hj:j.size=0
 ·have hj':=q1 hj;rw[gm hj];clear q1 q2 hj;cases bC
  ·go_enter Tryz.func66,Tryz.ntmps66;go_wp2;go_ret;exact⟨by simp,hb0⟩
  ·go_enter Tryz.func66,Tryz.ntmps66;go_wp2;go_ret;exact⟨by simp,hb0⟩
 ·have hj':=q2 hj;rw[fA hj];clear q1 q2 hj;cases bC
  ·go_enter Tryz.func66,Tryz.ntmps66;go_wp2;go_ret;exact⟨by simp,hb0⟩
  ·go_enter Tryz.func66,Tryz.ntmps66;go_wp2;go_ret;exact⟨by simp,hb0⟩
variable{o:Ot}{x:SG}{s:bJ}{w:World}
theorem Hf{L:List (Bool×Int×Int)}(hb:qx L):aI (strOfNums (bE L))=bE L∧(strOfNums (bE L)).size=13 * L.length:=by
 have h:=tK (EW hb);refine⟨h,?_⟩;rw[<-dA,h,iF]
theorem bJ.oq(h1:o.bA=[])(h2:o.bC=false):s.write o=(s,true):=by
 unfold bJ.write;rw[h1,h2];rfl
theorem bJ.o7(h1:o.bA≠ []∨o.bC=true)(ht:s.tears=true):s.write o=({s with bn:=if o.bC then s.bn else s.bn++(bE o.bA).take s.whole.toNat}.stop,false):=by
 unfold bJ.write;rw[aM (by
  rcases h1 with h|h
  ·cases hn:o.bA with
   |nil=>exact absurd hn h
   |cons a l=>simp
  ·simp[h]),aQ ht]
theorem bJ.jY(h1:o.bA≠ []∨o.bC=true)(ht:s.tears=false):s.write o=({s with bn:=(if o.bC then []else s.bn)++bE o.bA},true):=by
 unfold bJ.write;rw[aM (by
  rcases h1 with h|h
  ·cases hn:o.bA with
   |nil=>exact absurd hn h
   |cons a l=>simp
  ·simp[h]),aM (by simp[ht])]
theorem nJ.comp{x1:SG}{s1 s':bJ}{w1 w':World}(b1:x1.B=x.B)(f1:Fx (lF x s) w w1)(u1:∀k,lF x1 s1 k->lF x s k∨(w.heap.size<=k∧k<w1.heap.size))(h2:nJ x1 s1 s' w1 w'):nJ x s s' w w':=by
 obtain⟨x2,b2,m2,f2,u2⟩:=h2;have:=f1.size;have:=f2.size;refine⟨x2,b2.trans b1,m2,f1.trans f2 λk hk hs=>(u1 k hs).elim id λh=>by omega,λk hk=> ?_⟩;rcases u2 k hk with h|h
 ·exact(u1 k h).imp_right λh=>by omega
 ·exact .inr (by omega)
theorem IU(h:mZ x s w)(o:Ot)(aK bP bQ:Value)(hb:qx o.bA)(hl:o.bA.length<=50000)(hj:s.bn.length<=1000000)(hw:0<=s.whole):
  Calls Tryz.prog 62 #[.pointer (some ⟨x.B,0,none⟩),iY (strOfNums (bE o.bA)) o.bC aK bP bQ] w λe w'=>e=.returned (.bool (s.write o).2)∧nJ x s (s.write o).1 w w':=by
 obtain⟨i0,hi,hz0,hz1,hz2⟩:=info_parts vH;obtain⟨j1,j2⟩:=Hf hb;have hb0:Below w.heap.size w (w.alloc (.cells #[.string (strOfNums (bE o.bA)),.bool o.bC,aK,bP,bQ] 52)):=bq;have hC:=bS w (.cells #[.string (strOfNums (bE o.bA)),.bool o.bC,aK,bP,bQ] 52);have h1:=h.later hb0;by_cases hno:o.bA=[]∧o.bC=false
 ·rw[bJ.oq hno.1 hno.2];have hs0:(strOfNums (bE o.bA)).size=0:=by rw[j2,hno.1];rfl
  have q1:=(wC _).1 hs0;rw[hno.2]at hb0 hC h1 ⊢;generalize strOfNums (bE o.bA)=j at hb0 hC h1 q1 ⊢;have hfin:=nJ.pre hb0 (nJ.refl h1);clear h hno hs0 j1 j2 hC h1 hb0;unfold iY;go_enter Tryz.func62,Tryz.ntmps62;go_wp2;go_ret;exact⟨rfl,hfin⟩
 have hno':o.bA≠ []∨o.bC=true:=by
  by_cases e:o.bA=[]
  ·refine .inr ?_;cases hr:o.bC
   ·exact absurd ⟨e,hr⟩ hno
   ·rfl
  ·exact .inl e
 have hg:(strOfNums (bE o.bA)).toList=[]->o.bC=true:=λe=>by
  rcases hno' with h|h
  ·refine absurd e ((wC _).2 ?_);rw[j2];have:=List.length_pos_iff.2 h;omega
  ·exact h
 cases ht:s.tears
 ·rw[bJ.jY hno' ht];have hsrc:=λW=>LG (strOfNums (bE o.bA)) W;have hjs:(strOfNums (bE o.bA)).size<=1000000:=by omega
  rw[j1]at hsrc;obtain⟨nsz,aaX⟩:∃n,(strOfNums (bE o.bA)).size=n:=⟨_,rfl⟩;have hfl:(bE o.bA).length=nsz:=by rw[iF,<-j2,aaX]
  rw[aaX]at hsrc hjs;clear hno hno' h hb hl j1 j2 aaX;generalize strOfNums (bE o.bA)=j at hb0 hC h1 hsrc hg ⊢;generalize bE o.bA=ns at hsrc hfl ⊢;obtain⟨_,c1,_,c9,_,_,fz⟩:=h1.cell;rw[ht]at c9;have f1:=fz 1;have hlen:s.bn.length+nsz<=maxLen:=by unfold maxLen;omega
  have adt:(s.bn.length+nsz)* 1<=140737488355328:=by omega
  replace hsrc:=hide hsrc;cases hr:o.bC
  ·rw[hr]at hb0 hC h1 hg c1 c9 f1;have hg':¬j.toList=[]:=λe=>by cases hg e
   simp only[Bool.false_eq_true,if_false];clear fz hg;unfold iY;go_enter Tryz.func62,Tryz.ntmps62;go_upto_region 1 with(fail);generalize World.alloc _ _=W1 at hb0 hC h1 c1 c9 f1 ⊢;have hrow:=h1.drew.row;have hfin:=λv7 w7 (ho:w7.ownsRow 0 5 1 v7 (s.bn.length+ns.length) (U s.bn++U ns)) (hg:W1.drew.grownBy w7 x.jv.ownBlock) (hv:v7.ownBlock=x.jv.ownBlock∨v7.ownBlock=some W1.drew.heap.size)=>nJ.pre hb0.drew (h1.drew.add ho hg hv).2;have hkp:=λv7 w7 (ho:w7.ownsRow 0 5 1 v7 (s.bn.length+ns.length) (U s.bn++U ns)) (hg:W1.drew.grownBy w7 x.jv.ownBlock) (hv:v7.ownBlock=x.jv.ownBlock∨v7.ownBlock=some W1.drew.heap.size)=>(h1.drew.add ho hg hv).1;rw[hfl]at hfin hkp;replace hfin:=hide hfin;replace hkp:=hide hkp;generalize w.heap.size=C at hC ⊢;have t0:W1.cell? ⟨C,0,none⟩=some (.string j):=aH _ _ 0 _ _ _ hC;have t1:W1.cell? ⟨C,1,none⟩=some (.bool false):=aH _ _ 1 _ _ _ hC;clear hC h1 hb0 hfl ht hr;go_upto_region 9 with(fail);go_region_law (refine iI rfl (.tmp 31) (.tmp 33) 58 9 rfl 0 5 i0 (.int .u8 0) 1 1 Tryz.underlying58 hi hz0 hz1 hz2 rfl x.jv s.bn.length (U s.bn) ?h1 hrow (.string j) nsz (U ns) ?h2 (hsrc.out _) hlen adt (dh _) ?_;(case h1=>simp[Act.eval]);(case h2=>simp[Act.eval]);intro v7 w7 iy gP hv7;obtain⟨g1,g2⟩:=hkp.out v7 w7 iy gP hv7;have hm:=hfin.out v7 w7 iy gP hv7;obtain⟨Qz,UM,rfl,_⟩:=ak iy)
   all_goals
    clear g1 g2 gP iy;go_wp2;go_ret;exact⟨rfl,hm⟩
  ·rw[hr]at hb0 hC h1 hg c1 c9 f1;simp only[if_true];clear fz hg;unfold iY;go_enter Tryz.func62,Tryz.ntmps62;go_upto_region 1 with(fail);generalize World.alloc _ _=W1 at hb0 hC h1 c1 c9 f1 ⊢;have hn:=h1.nil;have hB:=aG h1.blk;generalize l8:w.heap.size=C at hC ⊢;have hne:x.B≠C:=λe=>by
    have h2:=h1.blk;rw[e,hC]at h2;cases h2
   have t0:W1.cell? ⟨C,0,none⟩=some (.string j):=aH _ _ 0 _ _ _ hC;have t1:W1.cell? ⟨C,1,none⟩=some (.bool true):=aH _ _ 1 _ _ _ hC;have hg2:W1.grownBy (W1.setCell ⟨x.B,1,none⟩ (.slice none 0 0)) (some x.B):=ah (aC _ (some x.B)) 1 _;have t2:(W1.setCell ⟨x.B,1,none⟩ (.slice none 0 0)).cell? ⟨C,0,none⟩=some (.string j):=(World.cell?_of_block (a:=⟨C,0,none⟩) (hg2.block C (aG hC) λe=>hne (Option.some.inj e).symm)).trans t0;have hc1:(W1.setCell ⟨x.B,1,none⟩ (.slice none 0 0)).cell? ⟨x.B,1,none⟩=some (.slice none 0 0):=by
    have hb:=zl (j:=1) (v:=.slice none 0 0) h1.blk;exact(aH _ _ 1 _ _ _ hb).trans (by simp[FL])
   obtain⟨x1,b1,m1,k1,u1⟩:=hn;have hjv:x1.jv=.slice none 0 0:=by
    have c:=m1.cell.2.1;rw[b1,hc1]at c;exact(Option.some.inj c).symm
   have hf2:=(m1.drew.cell.2.2.2.2.2.2 1);rw[b1]at hf2;have hfin:=λv7 w7 (ho:w7.ownsRow 0 5 1 v7 (0+nsz) ([]++U ns)) (hg:(W1.setCell ⟨x.B,1,none⟩ (.slice none 0 0)).drew.grownBy w7 (Value.slice none 0 0).ownBlock) (hv:v7.ownBlock=(Value.slice none 0 0).ownBlock∨v7.ownBlock=some (W1.setCell ⟨x.B,1,none⟩ (.slice none 0 0)).drew.heap.size)=>(show(w7.cell? ⟨x.B,1,none⟩=some (.slice none 0 0)∧w7.frozen? ⟨x.B,1,none⟩=false)∧nJ x s {s with bn:=[]++ns} w (w7.setCell ⟨x.B,1,none⟩ v7)from by
    obtain⟨q1,q2⟩:=m1.drew.add (ns:=ns) (v7:=v7) (w7:=w7) (by rw[hfl];exact ho) (by rw[hjv];exact hg) (by rw[hjv];exact hv);rw[b1,hjv]at q1;rw[b1]at q2;exact⟨q1,nJ.pre hb0 (nJ.comp b1 (k1.trans (Fx.below (S:=lF x s) (aV _ _).drew) (λ_ _ h=>h)) u1 q2)⟩)
   have hrow:(W1.setCell ⟨x.B,1,none⟩ (.slice none 0 0)).drew.ownsRow 0 5 1 (.slice none 0 0) 0 []:=⟨rfl,.inl ⟨rfl,rfl⟩⟩;have hfz:=(m1.cell.2.2.2.2.2.2 1);rw[b1]at hfz;clear hC ht hr hb0 hB hg2 k1 u1 h1 m1 hne hfl;replace hfin:=hide hfin;have hnl:(Value.slice none 0 0).ownBlock=none:=rfl;by_cases hje:j.toList=[]
   ·go_upto_region 9 with(fail);go_region_law (refine iI rfl (.tmp 31) (.tmp 33) 58 9 rfl 0 5 i0 (.int .u8 0) 1 1 Tryz.underlying58 hi hz0 hz1 hz2 rfl (.slice none 0 0) 0 [] ?h1 hrow (.string j) nsz (U ns) ?h2 (hsrc.out _) ?h3 ?h4 (dh _) ?_;(case h1=>simp[Act.eval]);(case h2=>simp[Act.eval]);(case h3=>omega);(case h4=>omega);intro v7 w7 iy gP hv7;obtain⟨⟨g1,g2⟩,hm⟩:=hfin.out v7 w7 iy gP hv7;rw[Nat.zero_add]at iy;obtain⟨Qz,UM,rfl,_⟩:=ak iy)
    all_goals
     clear g1 g2 gP iy;go_wp2;go_ret;exact⟨rfl,hm⟩
   ·go_upto_region 9 with(fail);go_region_law (refine iI rfl (.tmp 31) (.tmp 33) 58 9 rfl 0 5 i0 (.int .u8 0) 1 1 Tryz.underlying58 hi hz0 hz1 hz2 rfl (.slice none 0 0) 0 [] ?h1 hrow (.string j) nsz (U ns) ?h2 (hsrc.out _) ?h3 ?h4 (dh _) ?_;(case h1=>simp[Act.eval]);(case h2=>simp[Act.eval]);(case h3=>omega);(case h4=>omega);intro v7 w7 iy gP hv7;obtain⟨⟨g1,g2⟩,hm⟩:=hfin.out v7 w7 iy gP hv7;rw[Nat.zero_add]at iy;obtain⟨Qz,UM,rfl,_⟩:=ak iy)
    all_goals
     clear g1 g2 gP iy;go_wp2;go_ret;exact⟨rfl,hm⟩
 ·rw[bJ.o7 hno' ht];have hjs:(strOfNums (bE o.bA)).size<=1000000:=by omega
  obtain⟨_,c1,_,c9,_,_,fz⟩:=h1.cell;rw[ht]at c9;have HW:=Fq h1 (strOfNums (bE o.bA)) o.bC aK bP bQ hjs hj hw;rw[j1]at HW;replace HW:=hide HW;clear hno hno' h hb hl j1 j2 hjs c1 fz hi hz0 hz1 hz2;generalize strOfNums (bE o.bA)=j at hb0 hC h1 hg HW c9 ⊢;obtain⟨s1,hs1⟩:∃s1,({s with bn:=if o.bC then s.bn else s.bn++(bE o.bA).take s.whole.toNat}:bJ)=s1:=⟨_,rfl⟩;rw[hs1]at HW ⊢;clear hs1;generalize o.bC=rp at hb0 hC h1 hg HW c9 ⊢;clear h1;unfold iY at HW ⊢;go_enter Tryz.func62,Tryz.ntmps62;go_upto_region 1 with(fail);generalize World.alloc _ _=W1 at hb0 hC HW c9 ⊢;generalize l8:w.heap.size=C at hC ⊢;have t0:W1.cell? ⟨C,0,none⟩=some (.string j):=aH _ _ 0 _ _ _ hC;have t1:W1.cell? ⟨C,1,none⟩=some (.bool rp):=aH _ _ 1 _ _ _ hC;have t2:W1.cell? ⟨C,2,none⟩=some aK:=aH _ _ 2 _ _ _ hC;have t3:W1.cell? ⟨C,3,none⟩=some bP:=aH _ _ 3 _ _ _ hC;have t4:W1.cell? ⟨C,4,none⟩=some bQ:=aH _ _ 4 _ _ _ hC;clear hC l8;by_cases hje:j.toList=[]
  ·obtain rfl:=hg hje;clear hg;go_wp2_with fail;refine aU HW.out ?_;rintro e w2 ⟨rfl,hm⟩;obtain⟨x1,b1,m1,k1,u1⟩:=hm;have HS:=Fs m1;rw[b1]at HS;replace HS:=hide HS;clear HW m1 c9 t0 t1 t2 t3 t4;go_wp2_with fail;refine aU HS.out ?_;rintro e w3 ⟨rfl,hm⟩;have hfin:=nJ.pre hb0 (nJ.comp b1 k1 u1 hm);clear HS hm k1 u1 hb0;go_wp2;go_ret;exact⟨rfl,hfin⟩
  ·clear hg;go_wp2_with fail;refine aU HW.out ?_;rintro e w2 ⟨rfl,hm⟩;obtain⟨x1,b1,m1,k1,u1⟩:=hm;have HS:=Fs m1;rw[b1]at HS;replace HS:=hide HS;clear HW m1 c9 t0 t1 t2 t3 t4;go_wp2_with fail;refine aU HS.out ?_;rintro e w3 ⟨rfl,hm⟩;have hfin:=nJ.pre hb0 (nJ.comp b1 k1 u1 hm);clear HS hm k1 u1 hb0;go_wp2;go_ret;exact⟨rfl,hfin⟩
variable{bC:Bool}{j:ByteArray}{a:Int}{aY aL:List (Int×ByteArray)}{aT xs:List Int}{B N b:Nat}{o:Obj}{x:SG}{s:bJ}{bP bQ aK jv:Value}{W W' W0 W1 w w2:World}
theorem uz{n D:Nat}{a:World}(h:Below n a w)(hD:n<=D)(v0 v1 v2 v3 v4:Value):Below n a (((((w.setCell ⟨D,0,none⟩ v0).setCell ⟨D,1,none⟩ v1).setCell ⟨D,2,none⟩ v2).setCell ⟨D,3,none⟩ v3).setCell ⟨D,4,none⟩ v4):=
 ((((h.setCell (p:=⟨D,0,none⟩) hD _).setCell (p:=⟨D,1,none⟩) hD _).setCell (p:=⟨D,2,none⟩) hD _).setCell (p:=⟨D,3,none⟩) hD _).setCell (p:=⟨D,4,none⟩) hD _
def qc(D:Nat)(j:ByteArray)(bC:Bool)(aK bP bQ:Value)(W:World):Prop:=W.heap[D]?=some (.cells #[.string j,.bool bC,aK,bP,bQ] 52)
theorem qc.NY{D:Nat}{j':ByteArray}{aal:Bool}{abK abZ abR:Value}(h:qc D j bC aK bP bQ w):qc D j' aal abK abZ abR (((((w.setCell ⟨D,0,none⟩ (.string j')).setCell ⟨D,1,none⟩ (.bool aal)).setCell ⟨D,2,none⟩ abK).setCell ⟨D,3,none⟩ abZ).setCell ⟨D,4,none⟩ abR):=by
 unfold qc at h ⊢;simp[World.setCell,Array.getElem?_modify,h]
theorem qc.cell{D:Nat}(h:qc D j bC aK bP bQ W):W.cell? ⟨D,0,none⟩=some (.string j)∧W.cell? ⟨D,1,none⟩=some (.bool bC)∧W.cell? ⟨D,2,none⟩=some aK∧W.cell? ⟨D,3,none⟩=some bP∧W.cell? ⟨D,4,none⟩=some bQ∧∀i,W.frozen? ⟨D,i,none⟩=false:=
 ⟨aH _ _ 0 _ _ _ h,aH _ _ 1 _ _ _ h,aH _ _ 2 _ _ _ h,aH _ _ 3 _ _ _ h,aH _ _ 4 _ _ _ h,λi=>mM W D i _ _ h⟩
theorem uo(w:World)(D:Nat)(v0 v1 v2 v3 v4:Value):w.grownBy (((((w.setCell ⟨D,0,none⟩ v0).setCell ⟨D,1,none⟩ v1).setCell ⟨D,2,none⟩ v2).setCell ⟨D,3,none⟩ v3).setCell ⟨D,4,none⟩ v4) (some D):=
 ah (ah (ah (ah (ah (aC w (some D)) 0 v0) 1 v1) 2 v2) 3 v3) 4 v4
structure iG(b:Nat)(aL aY:List (Int×ByteArray))(aT:List Int)(aK bP bQ:Value)(W:World):Prop where
 aK:W.ownsRow b 77 2 aK aL.length (uE aL)
 bP:W.ownsRow b 56 2 bP aY.length (uE aY)
 bQ:W.ownsRow b 195 1 bQ aT.length (Jr aT)
theorem iG.at(h:iG b aL aY aT aK bP bQ W)(he:∀(k:Nat) (c:Array Value) (t:Nat),t∈([77,56,195]:List Nat)->W.heap[k]?=some (Obj.cells c t (0,0))->W'.heap[k]?=W.heap[k]?):iG b aL aY aT aK bP bQ W':=by
 refine⟨bK h.aK λk hk=> ?_,bK h.bP λk hk=> ?_,bK h.bQ λk hk=> ?_⟩
 ·obtain⟨c,hc⟩:=aR h.aK hk;exact he k c 77 (by decide) hc
 ·obtain⟨c,hc⟩:=aR h.bP hk;exact he k c 56 (by decide) hc
 ·obtain⟨c,hc⟩:=aR h.bQ hk;exact he k c 195 (by decide) hc
theorem iG.later(h:iG b aL aY aT aK bP bQ W)(hb:Below W.heap.size W W'):iG b aL aY aT aK bP bQ W':=h.at λk _ _ _ hk=>hb.block k (aG hk)
theorem iG.lower{b':Nat}(h:iG b aL aY aT aK bP bQ W)(hb:b'<=b):iG b' aL aY aT aK bP bQ W:=⟨ownsRow_base_a h.aK hb,ownsRow_base_a h.bP hb,ownsRow_base_a h.bQ hb⟩
structure Br(z:St)(b:Nat)(N:Nat)(g:bI)(aK bP bQ:Value)(W:World):Prop where
 nn:Nn N g z [] W
 out:iG b z.aL z.aY z.aT aK bP bQ W
 ge:∀k,Ft N g z k->b<=k
theorem Br.set{z:St}{D:Nat}{g:bI}(h:Br z b N g aK bP bQ W){c:Array Value}(hD:W.heap[D]?=some (.cells c 52 (0,0)))(hg:W.grownBy W' (some D)):Br z b N g aK bP bQ W':=by
 refine⟨h.nn.kept λk hk=>hg.block k (h.nn.lt hk) λe=> ?_,h.out.at λk c' t ht hk=>hg.block k (aG hk) λe=> ?_,h.ge⟩
 ·cases e;obtain⟨o,ho,hK⟩:=h.nn.kind hk;rw[hD]at ho;cases ho;exact hK.not (by decide)
 ·cases e;rw[hD]at hk;cases hk;exact absurd ht (by decide)
theorem Br.later{z:St}{g:bI}(h:Br z b N g aK bP bQ W)(hb:Below W.heap.size W W'):Br z b N g aK bP bQ W':=⟨h.nn.later hb,h.out.later hb,h.ge⟩
def Vw(z:St)(W1:World)(nv ov:Value)(W:World):Prop:=∃N g aK bP bQ D,nv=.pointer (some ⟨N,0,none⟩)∧ov=.pointer (some ⟨D,0,none⟩)∧qc D z.bn z.bC aK bP bQ W∧Br z W1.heap.size N g aK bP bQ W∧W1.heap.size<=D∧Below W1.heap.size W1 W
theorem KD{z:St}{g:bI}(hb:Below W1.heap.size W1 w2)(h:Br z W1.heap.size N g aK bP bQ w2):Vw z W1 (.pointer (some ⟨N,0,none⟩)) (.pointer (some ⟨w2.heap.size,0,none⟩)) (w2.alloc (.cells #[.string z.bn,.bool z.bC,aK,bP,bQ] 52)):=
 ⟨N,g,aK,bP,bQ,_,rfl,rfl,bS _ _,h.later (bq),hb.size,hb.alloc hb.size _⟩
theorem UN{z:St}{g:bI}{j0:ByteArray}{r0:Bool}{f0 c0 d0:Value}(hb:Below W1.heap.size W1 w2)(h:Br z W1.heap.size N g aK bP bQ w2)(hD:Hid (qc W1.heap.size j0 r0 f0 c0 d0 w2)):Vw z W1 (.pointer (some ⟨N,0,none⟩)) (.pointer (some ⟨W1.heap.size,0,none⟩)) (((((w2.setCell ⟨W1.heap.size,0,none⟩ (.string z.bn)).setCell ⟨W1.heap.size,1,none⟩ (.bool z.bC)).setCell ⟨W1.heap.size,2,none⟩ aK).setCell ⟨W1.heap.size,3,none⟩ bP).setCell ⟨W1.heap.size,4,none⟩ bQ):=
 ⟨N,g,aK,bP,bQ,_,rfl,rfl,hD.out.NY,h.set hD.out (uo _ _ _ _ _ _ _),aD _,uz hb (aD _) _ _ _ _ _⟩
theorem L8(W:World):qc W.heap.size ⟨#[]⟩ false (.slice none 0 0) (.slice none 0 0) (.slice none 0 0) (W.alloc (.cells #[.string ⟨#[]⟩,.bool false,.slice none 0 0,.slice none 0 0,.slice none 0 0] 52)).drew:=bS W _
@[reducible] def IX(B : Nat)(a : Int)(jv : Value)(W0 W : World): Prop := (W.cell? ⟨B, 0, none⟩ = some (.int .u32 a) ∧ W.cell? ⟨B, 1, none⟩ = some jv) ∧ Below W0.heap.size W0 W
theorem IX.of(h:mZ x s W0)(hb:Below W0.heap.size W0 W):IX x.B s.addr x.jv W0 W:=⟨⟨(h.later hb).cell.1,(h.later hb).cell.2.1⟩,hb⟩
theorem IX.kH(hk:Hid (∀W5,Below W0.heap.size W0 W5->IX B a jv W0 W5))(h:Below W0.heap.size W0 W):IX B a jv W0 (W.alloc o):=hk.out _ (h.alloc h.size _)
theorem IX.eH(hk:Hid (∀W5,Below W0.heap.size W0 W5->IX B a jv W0 W5)):IX B a jv W0 (W0.alloc o).drew:=hk.out _ (bq).drew
theorem IX.SH{v0 v1 v2 v3 v4:Value}(hk:Hid (∀W5,Below W0.heap.size W0 W5->IX B a jv W0 W5))(h:Below W0.heap.size W0 W):IX B a jv W0 (((((W.setCell ⟨W0.heap.size,0,none⟩ v0).setCell ⟨W0.heap.size,1,none⟩ v1).setCell ⟨W0.heap.size,2,none⟩ v2).setCell ⟨W0.heap.size,3,none⟩ v3).setCell ⟨W0.heap.size,4,none⟩ v4):=hk.out _ (uz h (aD _) _ _ _ _ _)
structure FJ(s:bJ)(now:Int):Prop where
 addr:bB s.addr
 a0:s.addr≠0
 jb:∀x∈s.bn,0<=x∧x<=255
 jl:s.bn.length<=50000
 few:Y3 (Go.Proofs.YtakaadcpaeiccabGreat.jl s.bn)
 now:0<=now∧now<=4611686018427387904
theorem LV:∀(f:Nat) (xs:List Int),(JM f xs).length<=f
 |0,_=>aD _
 |f+1,xs=>by
  unfold JM;split
  ·have:=LV f (xs.drop 13);simp only[dU];omega
  ·simp
theorem aaD(xs:List Int):(jl xs).length<=xs.length:=LV _ _
theorem rD(h:∀x∈xs,0<=x∧x<=255)(i:Nat):0<=xs.getD i 0∧xs.getD i 0<=255:=by
 rw[List.getD_eq_getElem?_getD];cases hi:xs[i]? with
 |none=>simp
 |some v=>exact h v (gG hi)
theorem Rm:∀(f:Nat) (xs:List Int),(∀x∈xs,0<=x∧x<=255)->qx (JM f xs)
 |0,_,_=>λ_ h=>by cases h
 |f+1,xs,h=>by
  unfold JM;split
  ·intro x hx;rcases fe.1 hx with rfl|hx
   ·exact⟨uj (rD h _) (rD h _) (rD h _) (rD h _),uj (rD h _) (rD h _) (rD h _) (rD h _)⟩
   ·exact Rm f (xs.drop 13) (λx hx=>h x (List.mem_of_mem_drop hx)) x hx
  ·intro x hx;cases hx
theorem SK(h:∀x∈xs,0<=x∧x<=255):qx (jl xs):=Rm _ _ h
theorem PX(h:mZ x s W1)(now:Int)(hs:FJ s now):∀W5,Below W1.heap.size W1 W5->Calls Tryz.prog 19 #[.int .u32 s.addr,x.jv,.int .u64 now] W5 λe w'=>∃N g af kf ac kc ad kd,e=.returned (.tuple #[.pointer (some ⟨N,0,none⟩),.agg #[.string (St.new s.addr s.bn now).bn,.bool (St.new s.addr s.bn now).bC,.slice af (St.new s.addr s.bn now).aL.length kf,.slice ac (St.new s.addr s.bn now).aY.length kc,.slice ad (St.new s.addr s.bn now).aT.length kd],.int .i64 0])∧Below W1.heap.size W1 w'∧(∀j r f c d,qc W1.heap.size j r f c d W5->qc W1.heap.size j r f c d w')∧Br (St.new s.addr s.bn now) W1.heap.size N g (.slice af (St.new s.addr s.bn now).aL.length kf) (.slice ac (St.new s.addr s.bn now).aY.length kc) (.slice ad (St.new s.addr s.bn now).aT.length kd) w':=by
 intro W5 hb;refine(Qg s.addr now hs.addr hs.a0 x.jv s.bn W5 (qQ (h.later hb).row hs.jb) (by have:=hs.jl;omega) (SK hs.jb) hs.few (by have:=aaD s.bn;have:=hs.jl;omega) hs.now).mono ?_;rintro e w' ⟨N,g,aK,bP,bQ,rfl,nn,r1,r2,r3,hb',hge⟩;have:=hb.size;obtain⟨af,kf,rfl,_⟩:=ak r1;obtain⟨ac,kc,rfl,_⟩:=ak r2;obtain⟨ad,kd,rfl,_⟩:=ak r3;exact⟨N,g,af,kf,ac,kc,ad,kd,rfl,hb.trans (hb'.mono hb.size),λj r f c d ho=>(hb'.block _ (aG (show W5.heap[W1.heap.size]?=_ from ho))).trans ho,nn,(⟨r1,r2,r3⟩:iG _ _ _ _ _ _ _ w').lower hb.size,λk hk=>by have:=hge k hk;omega⟩
theorem Nv(h:mZ x s w)(hnd:s.nd=none)(now:Int)(hs:FJ s now):Calls Tryz.prog 37 #[.pointer (some ⟨x.B,0,none⟩),.int .u64 now] w λe w'=>∃aK bP bQ,e=.returned (iY (St.new s.addr s.bn now).bn (St.new s.addr s.bn now).bC aK bP bQ)∧nJ x s {s with nd:=some (St.new s.addr s.bn now)} w w'∧iG w.heap.size (St.new s.addr s.bn now).aL (St.new s.addr s.bn now).aY (St.new s.addr s.bn now).aT aK bP bQ w':=by
 have hb0:Below w.heap.size w (w.alloc (.cells #[.string ⟨#[]⟩,.bool false,.slice none 0 0,.slice none 0 0,.slice none 0 0] 52)):=bq;have hC:=bS w (.cells #[.string ⟨#[]⟩,.bool false,.slice none 0 0,.slice none 0 0,.slice none 0 0] 52);have h1:=h.later hb0;have hQz:(St.new s.addr s.bn now).Q=[]:=by rw[St.uh,(aP _).Q];rfl
 have HN0:=hide (λW1 (h1:mZ x s W1)=>PX h1 now hs);obtain⟨z,hz⟩:∃z,St.new s.addr s.bn now=z:=⟨_,rfl⟩;rw[hz]at hQz HN0 ⊢;clear hz;replace hQz:=hide hQz;go_enter Tryz.func37,Tryz.ntmps37;go_upto_region 1 with(fail);generalize World.alloc _ _=W1 at hb0 hC h1 ⊢;have HN:=hide (HN0.out W1 h1);clear HN0;have hkB:=(show Hid _ from λW5 (h5:Below W1.heap.size W1 W5)=>IX.of h1 h5);have hS:IX x.B s.addr x.jv W1 W1.drew:=hkB.out _ (aV _ _).drew;have hwC:w.heap.size<W1.heap.size:=aG hC;go_cut [5,6]from 9 to 21 (Vw z W1)
 case first=>
  clear hs hnd h h1 hb0 hC;go_region_held3 (IX x.B s.addr x.jv W1) (first|with_reducible exact hS|with_reducible assumption|(with_reducible apply IX.SH hkB;assumption)|(with_reducible apply IX.kH hkB;assumption)|(with_reducible apply IX.eH hkB)|(with_reducible apply hkB.out;assumption)) ((go_at_call 19;refine(HN.out _ (And.right (by assumption))).mono ?_;rintro e w2 ⟨N,g,af,kf,ac,kc,ad,kd,rfl,hb2,hpr,hnr⟩;try ((with_reducible have hD:=hpr _ _ _ _ _ (L8 W1));have hD':Hid (qc W1.heap.size ⟨#[]⟩ false (.slice none 0 0) (.slice none 0 0) (.slice none 0 0) w2):=hD;obtain⟨d0,d1,d2,d3,d4,dq⟩:=hD'.out.cell;have q0:=dq 0;have q1:=dq 1;have q2:=dq 2;have q3:=dq 3;have q4:=dq 4;clear hD dq);clear hpr))
  all_goals
   go_wp2_with fail;go_meet;first|with_reducible exact KD hb2 hnr|with_reducible exact UN hb2 hnr hD'
 case rest=>
  obtain⟨N,g,aK,bP,bQ,D,rfl,rfl,hD,hnr,hDl,hb2⟩:=hcut;have hm2:=h1.later hb2;have Pg:=(hb2.block _ hwC).trans hC;have f2:=hm2.cell.2.2.2.2.2.2 2;have c2:=hm2.cell.2.2.1;have hg:wc.grownBy (wc.setCell ⟨x.B,2,none⟩ (.pointer (some ⟨N,0,none⟩))) (some x.B):=ah (aC _ (some x.B)) 2 _;have hBl:=aG hm2.blk;have hBw:=aG h.blk;have Qy:w.heap.size≠x.B:=by omega
  have hDB:D≠x.B:=by have:=aG h1.blk;omega
  have hD3:qc D z.bn z.bC aK bP bQ (wc.setCell ⟨x.B,2,none⟩ (.pointer (some ⟨N,0,none⟩))):=(hg.block D (aG hD) λe=>hDB (Option.some.inj e)).trans hD;have qB:qc w.heap.size ⟨#[]⟩ false (.slice none 0 0) (.slice none 0 0) (.slice none 0 0) (wc.setCell ⟨x.B,2,none⟩ (.pointer (some ⟨N,0,none⟩))):=(hg.block w.heap.size (aG Pg) λe=>Qy (Option.some.inj e)).trans Pg;have OZ:Br z W1.heap.size N g aK bP bQ (wc.setCell ⟨x.B,2,none⟩ (.pointer (some ⟨N,0,none⟩))):=
   ⟨hnr.nn.kept λk hk=>hg.block k (hnr.nn.lt hk) (λe=>by cases e;have:=hnr.ge _ hk;have:=aG h1.blk;omega),hnr.out.at λk c t ht hk=>hg.block k (aG hk) (λe=>by
    cases e;rw[hm2.blk]at hk;cases hk;exact absurd ht (by decide)),hnr.ge⟩
  have XU:=zl (j:=2) (v:=.pointer (some ⟨N,0,none⟩)) hm2.blk;have hrow3:=hm2.row.kept hg (.inr (aB hm2.row hm2.blk (λc e=>(by cases e))));have hf3:Fx (lF x s) w (wc.setCell ⟨x.B,2,none⟩ (.pointer (some ⟨N,0,none⟩))):=aW (Fx.below (hb0.trans (hb2.mono hb0.size))) hg λi _ e=>by cases e;exact .inl rfl
  have hz3:=hb2.size;clear hnr hD Pg hm2 hg h1 hs hC hkB hS HN;go_upto_region 3 with(fail);generalize World.setCell _ _ _=W3 at hD3 qB OZ XU hrow3 hf3 ⊢;obtain⟨d0,d1,d2,d3,d4,_⟩:=hD3.cell;obtain⟨z0,z1,z2,z3,z4,zf⟩:=qB.cell;have y0:=zf 0;have y1:=zf 1;have y2:=zf 2;have y3:=zf 3;have y4:=zf 4;obtain⟨af,kf,rfl,_⟩:=ak OZ.out.aK;obtain⟨ac,kc,rfl,_⟩:=ak OZ.out.bP;obtain⟨ad,kd,rfl,_⟩:=ak OZ.out.bQ;have gV:=uo W3 w.heap.size (.string z.bn) (.bool z.bC) (.slice af z.aL.length kf) (.slice ac z.aY.length kc) (.slice ad z.aT.length kd);have yg:=qB.NY (j':=z.bn) (aal:=z.bC) (abK:=.slice af z.aL.length kf) (abZ:=.slice ac z.aY.length kc) (abR:=.slice ad z.aT.length kd);have hfin:nJ x s {s with nd:=some z} w (((((W3.setCell ⟨w.heap.size,0,none⟩ (.string z.bn)).setCell ⟨w.heap.size,1,none⟩ (.bool z.bC)).setCell ⟨w.heap.size,2,none⟩ (.slice af z.aL.length kf)).setCell ⟨w.heap.size,3,none⟩ (.slice ac z.aY.length kc)).setCell ⟨w.heap.size,4,none⟩ (.slice ad z.aT.length kd))∧iG w.heap.size z.aL z.aY z.aT (.slice af z.aL.length kf) (.slice ac z.aY.length kc) (.slice ad z.aT.length kd) (((((W3.setCell ⟨w.heap.size,0,none⟩ (.string z.bn)).setCell ⟨w.heap.size,1,none⟩ (.bool z.bC)).setCell ⟨w.heap.size,2,none⟩ (.slice af z.aL.length kf)).setCell ⟨w.heap.size,3,none⟩ (.slice ac z.aY.length kc)).setCell ⟨w.heap.size,4,none⟩ (.slice ad z.aT.length kd)):=by
   have XO:=OZ.set qB gV;have hsz:=gV.size;have agl:=aG qB;refine⟨⟨{x with N:=N,g:=g,TL:=[]},rfl,⟨?_,h.hl,?_,λu hu=> ?_⟩,aW hf3 gV λi hi e=>by cases e;omega,λk hk=> ?_⟩,XO.out.lower (by omega)⟩
   ·exact(gV.block x.B (aG XU) λe=>Qy (Option.some.inj e).symm).trans XU
   ·exact hrow3.kept gV (.inr (aB hrow3 qB (λc e=>(by cases e))))
   ·cases hu;refine⟨XO.nn,?_⟩;unfold dQ;rw[hQz.out];exact List.Perm.refl _
   ·rcases hk with hk|hk|⟨u,hu,hk⟩
    ·exact .inl (.inl hk)
    ·exact .inl (.inr (.inl hk))
    ·cases hu;have h2:=XO.ge k hk;have h3:=XO.nn.lt hk;exact .inr ⟨by omega,h3⟩
  clear gV OZ qB hD3 hrow3 XU hf3 zf;go_wp2_with fail;generalize World.setCell _ _ _=W7 at yg hfin ⊢;obtain⟨p0,p1,p2,p3,p4,_⟩:=yg.cell;exact bodyPost_ret (v:=.agg #[.string z.bn,.bool z.bC,.slice af z.aL.length kf,.slice ac z.aY.length kc,.slice ad z.aT.length kd]) (by simp[results,Tryz.results37,go_sem,p0,p1,p2,p3,p4]) rfl ⟨_,_,_,rfl,hfin.1,hfin.2⟩
end Go.Proofs.YtakaadcpaeiccabGreat
namespace Go.Proofs.YtakaadcpaeiccabGreat.DF
open Go.RowKit Go.Maps
variable{cap e m:Nat}
theorem kZ{base g size:Nat}:∀(vs:List Value) (o:Nat) (xs:List Value) (W:World),W.ownsRow base e size (.slice (some ⟨g,0,none⟩) m cap) m xs->o+vs.length<=m * size->
  (W.setCells g o vs).ownsRow base e size (.slice (some ⟨g,0,none⟩) m cap) m (xs.take o++vs++xs.drop (o+vs.length))∧W.grownBy (W.setCells g o vs) (some g)
 | [],o,xs,W,h,_=>by
  simp only[World.setCells,iD,List.length_nil,Nat.add_zero,List.take_append_drop];exact⟨h,aC _ _⟩
 |v::r,o,xs,W,h,hl=>by
  simp only[dU]at hl;have hx:xs.length=m * size:=h.1;obtain⟨h1,g1⟩:=h.stored o v;obtain⟨h2,g2⟩:=kZ r (o+1) (xs.set o v) (W.setCell ⟨g,o,none⟩ v) h1 (by omega);refine⟨?_,⟨g2.os.trans g1.os,g2.tape.trans g1.tape,g2.output.trans g1.output,dH g1.size g2.size,λk hk hn=>(g2.block k (fZ hk g1.size) hn).trans (g1.block k hk hn)⟩⟩;have e1:(xs.set o v).take (o+1)=xs.take o++ [v]:=by
   rw[List.take_succ_eq_append_getElem (by simp;omega),List.take_set_of_le (aD o)];simp
  have e2:(xs.set o v).drop (o+1+r.length)=xs.drop (o+(r.length+1)):=by
   rw[List.drop_set_of_lt (by omega),show o+1+r.length=o+(r.length+1)by omega]
  rw[e1,e2]at h2;show((W.setCell ⟨g,o,none⟩ v).setCells g (o+1) r).ownsRow _ _ _ _ _ _;simpa using h2
theorem wI{base g n size:Nat}{W:World}{xs:List Value}(h:W.ownsRow base e size (.slice (some ⟨g,0,none⟩) n cap) n xs)(hm:m<=n):
  W.ownsRow base e size (.slice (some ⟨g,0,none⟩) m cap) m (xs.take (m * size)):=by
 rcases h.2 with⟨he,_⟩|⟨g',cap',cur,he,hb,hg,h1,h2,h3,h4⟩
 ·cases he
 ·cases he;have hx:=h.1;have hms:m * size<=n * size:=Nat.mul_le_mul_right _ hm;refine⟨by rw[List.length_take,hx];omega,.inr ⟨g,cap,cur,rfl,hb,hg,by omega,h2,h3,?_⟩⟩;rw[<-h4,List.take_take,Nat.min_eq_left hms]
theorem DV(a:Option Addr)(n c k:Nat)(hk:k<=c)(W:World):(Instr.slice 45 (.slice a n c) none (some (.int .i64 k)) none).run Tryz.prog W=.ok (.slice a k c) W:=by
 have ht:Tryz.prog.underlying 45=some (.slice (Tryz.prog.elem 45)):=by simp[Program.elem,Tryz.underlying45]
 have hz:∀w,(Go.sizeOf (Tryz.prog.elem 45)).run Tryz.prog w=.ok 3 w:=by
  intro w;simp[go_sem,Program.elem,Tryz.underlying45]
 rw[run_slice_h W 45 _ _ _ ht .i64 _ (by omega) (by omega),hz];simp only[Result.andThen,sliced];rw[Nat.sub_zero,Nat.sub_zero,iU];cases a<;>(split<;>simp[Addr.add])
theorem DU(g n c k:Nat)(hk:k<=n):∃ad:Addr,(∀W,(Instr.slice 45 (.slice (some ⟨g,0,none⟩) n c) (some (.int .i64 k)) none none).run Tryz.prog W=.ok (.slice (some ad) (n - k) (c - k)) W)∧(k<c->ad=⟨g,k * 3,none⟩):=by
 have ht:Tryz.prog.underlying 45=some (.slice (Tryz.prog.elem 45)):=by simp[Program.elem,Tryz.underlying45]
 have hz:∀w,(Go.sizeOf (Tryz.prog.elem 45)).run Tryz.prog w=.ok 3 w:=by
  intro w;simp[go_sem,Program.elem,Tryz.underlying45]
 refine⟨if c=k then⟨g,0,none⟩else⟨g,k * 3,none⟩,λW=> ?_,λh=>by rw[aM (by omega)]⟩;rw[run_slice_l W 45 _ _ _ ht .i64 _ (by omega) (by omega),hz];simp only[Result.andThen,sliced];rw[iU];split<;>simp[Addr.add_lit]
theorem zJ(g n c k m:Nat)(hk:k<m)(hm:m<=c)(W:World):(Instr.slice 45 (.slice (some ⟨g,0,none⟩) n c) (some (.int .i64 k)) (some (.int .i64 m)) none).run Tryz.prog W=.ok (.slice (some ⟨g,k * 3,none⟩) (m - k) (c - k)) W:=by
 have ht:Tryz.prog.underlying 45=some (.slice (Tryz.prog.elem 45)):=by simp[Program.elem,Tryz.underlying45]
 have hz:∀w,(Go.sizeOf (Tryz.prog.elem 45)).run Tryz.prog w=.ok 3 w:=by
  intro w;simp[go_sem,Program.elem,Tryz.underlying45]
 rw[run_slice_lh W 45 _ _ _ ht .i64 .i64 _ _ (by omega) (by omega) (by omega),hz];simp only[Result.andThen,sliced];rw[iU,iU,aM (by omega)];simp[Addr.add_lit]
theorem wD(a:Option Addr)(n c k m l:Nat)(hk:k<=m)(hm:m<=l)(hl:l<=c):∃v,∀W,(Instr.slice 45 (.slice a n c) (some (.int .i64 k)) (some (.int .i64 m)) (some (.int .i64 l))).run Tryz.prog W=.ok v W:=by
 have ht:Tryz.prog.underlying 45=some (.slice (Tryz.prog.elem 45)):=by simp[Program.elem,Tryz.underlying45]
 have hz:∀w,(Go.sizeOf (Tryz.prog.elem 45)).run Tryz.prog w=.ok 3 w:=by
  intro w;simp[go_sem,Program.elem,Tryz.underlying45]
 refine⟨sliced a k m l 3,λW=> ?_⟩;rw[run_slice_lhm W 45 _ _ _ ht .i64 .i64 .i64 _ _ _ (by omega) (by omega) (by omega) (by omega),hz];simp only[Result.andThen,iU]
theorem tY(w:World)(ty:TypeId)(b o c:Nat)(hc:∀j,j<3->(w.cell? ⟨b,o+j,none⟩).isSome=true)(hf:∀j,j<3->w.frozen? ⟨b,o+j,none⟩=false):
  (Builtin.clear_ #[45] ty #[.slice (some ⟨b,o,none⟩) 1 c]).run Tryz.prog w=.ok (.tuple #[]) (w.setCells b o ([.int .i64 0,.int .i64 0,.string ⟨#[]⟩]:List Value)):=by
 have hzc:(Builtin.zeroCells (.agg #[.int .i64 0,.int .i64 0,.string ⟨#[]⟩]:Value).cells 1).toList=([.int .i64 0,.int .i64 0,.string ⟨#[]⟩]:List Value):=by kernel_rfl
 have hst:=run_storeCells_cells (P:=Tryz.prog) b o ([.int .i64 0,.int .i64 0,.string ⟨#[]⟩]:List Value) 0 w (by simpa using hc) (by simpa using hf) (by intro v hv;simp at hv;rcases hv with rfl|rfl<;>rfl);simp only[Nat.add_zero]at hst;simp[Builtin.clear_,run_underlying Tryz.underlying45,hzc,hst]
theorem J8:(Tryz.prog.info? 149).map (λi=>(i.zero,i.size,i.bytes))=some (some (.agg #[.int .i64 0,.int .i64 0,.string ⟨#[]⟩]),3,32):=by kernel_rfl
theorem uG(base g n cap i:Nat)(xs:List Value)(w:World)(h:w.ownsRow base 149 3 (.slice (some ⟨g,0,none⟩) n cap) n xs)(hi:i<n)(hn:n<=1000000)(h1c:∀u∈xs,u.oneCell'=true):
  Calls Tryz.prog 99 #[.slice (some ⟨g,0,none⟩) n cap,.int .i64 i,.int .i64 ((i:Int)+1)] w λe w'=>e=.returned (.slice (some ⟨g,0,none⟩) (n - 1) cap)∧w'.ownsRow base 149 3 (.slice (some ⟨g,0,none⟩) (n - 1) cap) (n - 1) (xs.take (i * 3)++xs.drop ((i+1)* 3))∧w.grownBy w' (some g):=by
 obtain⟨i0,hii,hz0,hz1,hz2⟩:=info_parts J8;have hcap:n<=cap:=by
  rcases h.2 with⟨he,_⟩|⟨g',cap',cur,he,hb,hg,h1,h2,h3,h4⟩
  ·cases he
  ·cases he;exact h1
 have hx:=h.1;obtain⟨v13,aaR⟩:=wD (some ⟨g,0,none⟩) n cap i (i+1) n (by omega) (by omega) hcap;have aeY:=DV (some ⟨g,0,none⟩) n cap i (by omega);obtain⟨ad,aaQ,had⟩:=DU g n cap (i+1) (by omega);have hd:w.drew.ownsRow base 149 3 (.slice (some ⟨g,0,none⟩) n cap) n xs:=h;have hnl:(xs.drop ((i+1)* 3)).length=(n - (i+1))* 3:=by
  rw[List.length_drop,hx,Nat.sub_mul]
 have hcell:∀ {W:World} {ys:List Value},W.ownsRow base 149 3 (.slice (some ⟨g,0,none⟩) n cap) n ys->∀j,j<n * 3->(W.cell? ⟨g,j,none⟩).isSome=true:=λhW j hj=>by
  rw[hW.cellAt j hj,cZ (by rw[hW.1];exact hj)];rfl
 have hjl:∀j,j<(n - (i+1))* 3->(i+1)* 3+j<n * 3∧i * 3+j<n * 3:=λj hj=>by
  rw[Nat.sub_mul]at hj;have:(i+1)* 3<=n * 3:=Nat.mul_le_mul_right _ (by omega);rw[Nat.add_mul]at hj this ⊢;try omega
 have hcA:Hid (∀j u,(xs.drop ((i+1)* 3))[j]?=some u->w.drew.cell? (ad.add j)=some u):=λj u hj=>by
  have hl:=(eB.1 hj).1;rw[hnl]at hl;rw[had (by omega),Addr.add_lit];rw[List.getElem?_drop]at hj;exact(hd.cellAt _ (hjl j hl).1).trans hj
 have aaO:Hid (∀j,j<(xs.drop ((i+1)* 3)).length->(w.drew.cell? ⟨g,0+i * 3+j,none⟩).isSome=true∧w.drew.frozen? ⟨g,0+i * 3+j,none⟩=false):=λj hj=>by
  rw[hnl]at hj;rw[Nat.zero_add];exact⟨hcell hd _ (hjl j hj).2,hd.frozenAt _⟩
 have hE1:Hid (i+(n - (i+1))=n - 1):=by show _=_;omega
 have hE2:Hid (0+i * 3=i * 3):=Nat.zero_add _;have aa0:=(show Hid _ from hnl);have abD:Hid (∀u∈xs.drop ((i+1)* 3),u.oneCell'=true):=λu hu=>h1c u (List.mem_of_mem_drop hu);obtain⟨h1,g1⟩:=kZ (xs.drop ((i+1)* 3)) (i * 3) xs _ hd (by
  rw[hnl,<-Nat.add_mul];exact Nat.mul_le_mul_right _ (by omega))
 have Tq:=zJ g (n - 1) cap (n - 1) n (by omega) hcap;rw[show n - (n - 1)=1 by omega]at Tq;have hlast:(n - 1)* 3+3=n * 3:=by
  rw[<-Nat.succ_mul,show(n - 1).succ=n by omega]
 have hcl:∀ty,(Builtin.clear_ #[45] ty #[.slice (some ⟨g,(n - 1)* 3,none⟩) 1 (cap - (n - 1))]).run Tryz.prog (w.drew.setCells g (i * 3) (xs.drop ((i+1)* 3)))=.ok (.tuple #[]) ((w.drew.setCells g (i * 3) (xs.drop ((i+1)* 3))).setCells g ((n - 1)* 3) ([.int .i64 0,.int .i64 0,.string ⟨#[]⟩]:List Value)):=λty=>
  tY _ ty g _ _ (λj hj=>hcell h1 _ (by omega)) (λj hj=>h1.frozenAt _)
 obtain⟨h2,g2⟩:=kZ ([.int .i64 0,.int .i64 0,.string ⟨#[]⟩]:List Value) ((n - 1)* 3) _ _ h1 (by simp only[dU,List.length_nil];omega);have h3:=wI h2 (m:=n - 1) (by omega);have hgg:w.grownBy ((w.drew.setCells g (i * 3) (xs.drop ((i+1)* 3))).setCells g ((n - 1)* 3) ([.int .i64 0,.int .i64 0,.string ⟨#[]⟩]:List Value)) (some g):=⟨g2.os.trans g1.os,g2.tape.trans g1.tape,g2.output.trans g1.output,dH g1.size g2.size,λk hk hn=>(g2.block k (fZ hk g1.size) hn).trans (g1.block k hk hn)⟩;have jU:((xs.take (i * 3)++xs.drop ((i+1)* 3)++xs.drop (i * 3+(xs.drop ((i+1)* 3)).length)).take ((n - 1)* 3)++([.int .i64 0,.int .i64 0,.string ⟨#[]⟩]:List Value)++(xs.take (i * 3)++xs.drop ((i+1)* 3)++xs.drop (i * 3+(xs.drop ((i+1)* 3)).length)).drop ((n - 1)* 3+([.int .i64 0,.int .i64 0,.string ⟨#[]⟩]:List Value).length)).take ((n - 1)* 3)=xs.take (i * 3)++xs.drop ((i+1)* 3):=by
  have hl:(xs.take (i * 3)++xs.drop ((i+1)* 3)).length=(n - 1)* 3:=by
   have:i * 3<=n * 3:=Nat.mul_le_mul_right _ (by omega);rw[dw,hnl,List.length_take,hx,Nat.min_eq_left this,<-Nat.add_mul]
   congr 1
   all_goals omega
  rw[List.take_left' hl,List.append_assoc,List.take_left' hl]
 rw[jU]at h3;clear h1 g1 h2 g2 hcell hd h hnl hlast hx had h1c hjl;have hfin:=(show Hid _ from And.intro h3 hgg);clear h3 hgg jU;have hne:((i:Int)==(i:Int)+1)=false:=by
  have:¬((i:Int)=(i:Int)+1):=by omega
  simpa using this
 rw[show((i+1:Nat):Int)=(i:Int)+1 from rfl]at aaR aaQ;try simp only[Nat.mul_one]at hcl Tq hfin
 go_enter Tryz.func99,Tryz.ntmps99;go_wp2_with fail;go_region_law (refine step_append_room rfl (.tmp 22) (.tmp 25) 45 rfl 149 i0 3 Tryz.underlying45 hii hz1 g 0 i cap rfl ad (n - (i+1)) (cap - (i+1)) (xs.drop ((i+1)* 3)) rfl aa0.out hcA.out abD.out (by omega) aaO.out ?_;rw[hE1.out,hE2.out])
 all_goals
  generalize (w.drew.setCells g (i * 3) (xs.drop ((i+1)* 3)))=X at hcl hfin ⊢;go_wp2;go_returns;exact⟨rfl,hfin.out⟩
end Go.Proofs.YtakaadcpaeiccabGreat.DF
