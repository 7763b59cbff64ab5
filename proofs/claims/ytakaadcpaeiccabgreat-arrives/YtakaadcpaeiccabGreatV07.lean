import Derived.Test.YtakaadcpaeiccabGreatV06
import Derived.Deep.RegionLaw
import Derived.Deep.CutRange
import Derived.DeepKeys4
import Derived.DeepKeys2
import Derived.ChangeKeysEq
set_option maxHeartbeats 4000000
set_option maxRecDepth 100000
namespace Go.Proofs.YtakaadcpaeiccabGreat
open Go.RowKit Go.Maps
def kC(F:Rt->Rt)(j:Nat)(A:List Rt):List Rt:=(A.take j).map F++A.drop j
theorem zL(F:Rt->Rt)(A:List Rt):kC F 0 A=A:=by simp[kC]
theorem Nt(F:Rt->Rt){A:List Rt}{j:Nat}(h:A.length<=j):kC F j A=A.map F:=by
 unfold kC;rw[kN h,List.drop_eq_nil_of_le h,fw]
theorem CJ(F:Rt->Rt){A:List Rt}{j i:Nat}(hi:j<=i):(kC F j A)[i]?=A[i]?:=by
 unfold kC;by_cases hj:j<=A.length
 ·rw[List.getElem?_append_right (by simp;omega),List.getElem?_drop]
  congr 1
  simp;omega
 ·rw[List.getElem?_eq_none (by simp;omega),List.getElem?_eq_none (by omega)]
theorem Nr(F:Rt->Rt){A:List Rt}{j:Nat}{x:Rt}(hx:A[j]?=some x):(kC F j A).set j (F x)=kC F (j+1) A:=by
 obtain⟨hj,rfl⟩:=fO.1 hx;unfold kC;rw[List.set_append_right _ _ (by simp;omega),List.take_succ_eq_append_getElem hj,List.map_append,List.append_assoc]
 congr 1
 have h0:j - ((A.take j).map F).length=0:=by rw[gY,List.length_take,Nat.min_eq_left (Nat.le_of_lt hj),Nat.sub_self]
 rw[h0,List.drop_eq_getElem_cons hj];rfl
theorem Ns(F:Rt->Rt){A:List Rt}{j:Nat}{x:Rt}(hs:Asc (kC F j A))(hx:A[j]?=some x):gK (kC F j A) x.dest F=kC F (j+1) A:=by
 rw[RD hs (by rw[CJ F (aB _)];exact hx) rfl,Nr F hx]
def Ci(fq:Int)(y:Rt):Option (Int×Int):=if (y.valid&&(y.next==fq))&&decide (0<y.bL.length)then some (y.dest,max (gr y.seq) 0)else none
def n_(fq:Int)(A:List Rt):List (Int×Int):=A.filterMap (Ci fq)
theorem Po(fq:Int){A:List Rt}{k:Nat}{x:Rt}(h:A[k]?=some x):n_ fq (A.take (k+1))=n_ fq (A.take k)++(Ci fq x).toList:=by
 unfold n_;rw[List.take_add_one,h,List.filterMap_append]
 congr 1
theorem rE(fq:Int)(A:List Rt):(n_ fq A).length<=A.length:=List.length_filterMap_le _ _
def Cr(L:List (Int×Int)):List Value:=L.flatMap λx=> [.int .u32 x.1,.int .u32 x.2]
theorem Bu(a b:List (Int×Int)):Cr (a++b)=Cr a++Cr b:=by simp[Cr]
theorem Ma:(Tryz.prog.info? 237).map (λi=>(i.zero,i.size,i.bytes))=some (some (.agg #[.int .u32 0,.int .u32 0]),2,8):=by kernel_rfl
theorem Iz(W:World)(d s:Int):∀(j:Nat) (u:Value),(Cr [(d,s)])[j]?=some u->(W.alloc (.cells #[.int .u32 d,.int .u32 s] 237)).cell? ((⟨W.heap.size,0,none⟩:Addr).add j)=some u:=by
 intro j u hj;have h:=bV W (.cells #[.int .u32 d,.int .u32 s] 237);rw[Addr.add_lit,Nat.zero_add];simp only[Cr,List.flatMap_cons,List.flatMap_nil,fw]at hj
 match j,hj with
 |0,hj=>exact(aJ _ _ 0 _ _ _ h).trans hj
 |1,hj=>exact(aJ _ _ 1 _ _ _ h).trans hj
 |j+2,hj=>simp at hj
theorem Rc(d s:Int):∀u∈Cr [(d,s)],u.oneCell'=true:=by
 intro u hu;simp only[Cr,List.flatMap_cons,List.flatMap_nil,fw,fE,List.not_mem_nil,or_false]at hu;rcases hu with rfl|rfl<;>rfl
theorem EQ{S:Nat->Prop}{w W W':World}{e size n:Nat}{v:Value}{cs:List Value}(h:W.ownsRow w.heap.size e size v n cs)(hS:∀k,S k->k<w.heap.size){B:Nat}(hB:S B)(hg:W.grownBy W' (some B)):W'.ownsRow w.heap.size e size v n cs:=
 bQ h λk hk=>hg.block k (h.lt k hk).2 (λe=>by
  have h1:=(h.lt k hk).1;have h2:=hS _ hB;have h3:B=k:=by injection e with e;exact e.symm
  omega)
theorem KV{me:Int}{T M:Nat}{f:Int->Option Nat}{g:Int->Value}{A:List Rt}{S:Nat->Prop}(fq:Int){w:World}(h:MT me T M f g A w)(hS:∀k,mZ T M f g A k->S k)(hSb:∀k,S k->k<w.heap.size):
  Calls Tryz.prog 138 #[.pointer (some ⟨T,0,none⟩),.int .u32 fq] w λe w'=>∃v g',e=.returned v∧w'.ownsRow w.heap.size 237 2 v (n_ fq A).length (Cr (n_ fq A))∧MT me T M f g' (A.map (dD fq 0)) w'∧(∀k,mZ T M f g' (A.map (dD fq 0)) k->S k)∧Fx S w w':=by
 obtain⟨i0,hi,hz0,hz1,hz2⟩:=info_parts Ma;have hlen:=h.len;have HD:=(show Hid _ from Dp h);have hok0:=h.ok;go_enter Tryz.func138,Tryz.ntmps138;go_wp2_with fail;refine aU HD.out ?_;rintro e w1 ⟨dv,rfl,hdr,hb1⟩;clear HD;obtain⟨ad,cd,rfl,_⟩:=ax hdr;have h1:=h.later hb1;go_wp2_with fail;go_loopw [5,13] (λlv i wr=>∃(k:Nat) (g':Int->Value),k<=A.length∧i=.int .i64 k∧MT me T M f g' (kC (dD fq 0) k A) wr∧(∀q,mZ T M f g' (kC (dD fq 0) k A) q->S q)∧wr.ownsRow w.heap.size 237 2 lv (n_ fq (A.take k)).length (Cr (n_ fq (A.take k)))∧wr.ownsRow w.heap.size 34 1 (.slice ad A.length cd) A.length ((A.map (·.dest)).map aX)∧Fx S w wr) (λ_ i _=>A.length - (intOf i).toNat)
 case atStart=>
  refine⟨0,g,dm _,rfl,?_,?_,⟨rfl,.inl ⟨rfl,rfl⟩⟩,hdr,Fx.below hb1⟩
  ·rw[zL];exact h1
  ·rw[zL];exact hS
 case round=>
  clear hdr hb1 h1;obtain⟨k,g',hk,rfl,hM,AB,hls,hdr,hfx⟩:=hrel;by_cases hlt:k<A.length
  ·have hki:(k:Int)<(A.length:Int):=by omega
   obtain⟨x,hx⟩:∃x,A[k]?=some x:=⟨_,bS hlt⟩;have JX:=iV hx;obtain⟨gd,aeU,hv,_⟩:=bZ hdr (by omega);cases hv;have d0:=(hdr.cellAt k (by omega)).trans (by rw[l9,l9,hx];rfl:((A.map (·.dest)).map aX)[k]?=some (aX x.dest));have hxs:(kC (dD fq 0) k A)[k]?=some x:=by rw[CJ _ (aB _)];exact hx
   have hxM:=iV hxs;have hok:=hok0 x JX;have hl:=uj hM.yE hxM;obtain⟨B,hB,hLn⟩:=hM.ln x hxM;have hR:=hM.row x hxM;have hlk:=hM.map.look hok.dest;rw[hB]at hlk;simp only[gJ]at hlk;obtain⟨t0,t1⟩:=hM.blk.cell;obtain⟨c0,c1,c2,c3,c4,c5,c6⟩:=hLn.cell;obtain⟨av,cv,hgv,_⟩:=ax hR;have hrB:=hM.abP hl hB;rw[hgv]at c6;have hsn:=Po fq hx;have hmod:=Ns (dD fq 0) hM.yE hx;have YL:S B:=AB B (hM.inB hl hB);have Jd:=(show Hid _ from hsn);have hMod:=(show Hid _ from hmod);clear hsn hmod hx hxs;by_cases U0:(x.valid&&(x.next==fq))=true
   ·have hxv:x.valid=true:=by revert U0;cases x.valid<;>simp
    have hxn:(x.next==fq)=true:=by revert U0;cases x.valid<;>simp
    have hF:dD fq 0 x=vS x 0:=by unfold dD;rw[aI U0]
    rw[hxv]at c4;have hel:x.next=fq:=by simpa using hxn
    have hpre:Hid (∀w':World,eD B (vS x 0) (.slice none 0 0) w'->wr.grownBy w' (some B)->∃g2,MT me T M f g2 (kC (dD fq 0) (k+1) A) w'∧(∀q,mZ T M f g2 (kC (dD fq 0) (k+1) A) q->S q)):=by
     intro w' hL' hg;have ht:=hM.turn (W':=w') hl hB (dD fq 0) (gB fq 0) (by rw[hF];exact vR hok (by simp[a_])) (.slice none 0 0) (by rw[hF];exact hL') (by rw[hF];exact⟨rfl,.inl ⟨rfl,rfl⟩⟩) (.inl rfl) (λq hq hqB _=>hg.block q (hM.lt hq) (λe=>hqB (by cases e;rfl)));rw[hMod.out]at ht;refine⟨_,ht.1,λq hq=> ?_⟩;rcases ht.2 q hq with h3|h3
     ·exact AB q h3
     ·cases h3
    have HE:=(show Hid _ from EZ B x (g' x.dest) 0 wr hLn);clear hM AB hR;by_cases hbf:0<x.bL.length
    ·have hbp:Ci fq x=some (x.dest,max (gr x.seq) 0):=by
      unfold Ci;rw[U0,f_ hbf];rfl
     rw[hbp]at Jd;have hd1:decide (0<(x.bL.length:Int))=true:=f_ (by omega);have hd2:decide (0<x.bL.length)=true:=f_ hbf;go_wp2_with fail;refine aU HE.out ?_;rintro e w2 ⟨rfl,hL2,hg2⟩;obtain⟨g2,hM2,Xn⟩:=hpre.out w2 hL2 hg2;have Ar:=EQ hls hSb YL hg2;have EI:=EQ hdr hSb YL hg2;have Cc:=hfx.trans (Fx.grown (S:=S) hg2 (λq e=>by cases e;exact YL)) (λ_ _ h=>h);clear HE hpre c0 c1 c2 c3 c4 c5 c6 hLn hls hdr hfx t0 t1 hlk d0 hg2;obtain⟨_,c1,_⟩:=hL2.cell;have hla:=Ar.lt;have hk1:Hid ((n_ fq (A.take k)).length+1<=maxLen):=by
      show _<=_;have:=rE fq (A.take k);simp at this;unfold maxLen;omega
     have hk2:Hid (((n_ fq (A.take k)).length+1)* 8<=140737488355328):=by
      show _<=_;have:=rE fq (A.take k);simp at this;omega
     have hsz:=Cc.size;have c1':w2.cell? ⟨B,1,none⟩=some (.int .u32 (max (gr x.seq) 0)):=c1;generalize max (gr x.seq) 0=qs at Jd c1';clear c1 hL2;go_wp2_with(at_builtin;refine wpList_append_own_at _ rfl _ _ 71 rfl w.heap.size 237 i0 (.agg #[.int .u32 0,.int .u32 0]) 2 8 Tryz.underlying71 hi hz0 hz1 hz2 rfl (by decide) u5 (n_ fq (A.take k)).length (Cr (n_ fq (A.take k))) rfl (Ar.alloc _) ⟨w2.heap.size,0,none⟩ 1 1 (Cr [(x.dest,qs)]) rfl rfl (Iz w2 x.dest qs) (Rc x.dest qs) hk1.out hk2.out ?c3 ?_)
     case c3=>simp;omega
     intro v3 w3 ho3 hg3 _ _;have hb3:Below w2.heap.size w2 (w2.alloc (.cells #[.int .u32 x.dest,.int .u32 qs] 237)):=bC;have aas:=(aN EI hb3).kept hg3 (bX (aN EI hb3) (Ar.alloc _) (by decide));have hM3:=(hM2.later hb3).kept (W':=w3) (λq hq=>hg3.block q ((hM2.later hb3).lt hq) (λe=>by have:=(hla q e.symm).1;have:=hSb q (Xn q hq);omega));have aao:Fx S w w3:=(Cc.trans (Fx.below (S:=S) hb3) (λ_ _ h=>h)).trans (Fx.grown (S:=λq=>w.heap.size<=q) hg3 (λq e=>(hla q e).1)) (λq hq hq'=>by omega);clear Ar EI Cc hM2 hg3 hb3 hla;go_wp2;go_roundw
     case rel=>
      refine⟨k+1,g2,by omega,by go_num,hM3,Xn,?_,aas,aao⟩;rw[Jd.out,Option.toList_some,Bu,bU];exact ho3
     case measure=>simp[intOf];omega
    ·have hbp:Ci fq x=none:=by
      unfold Ci;rw[eU hbf,Bool.and_false];rfl
     rw[hbp,Option.toList_none,fw]at Jd;have hd1:decide (0<(x.bL.length:Int))=false:=eU (by omega);have hd2:decide (0<x.bL.length)=false:=eU hbf;go_wp2_with fail;refine aU HE.out ?_;rintro e w2 ⟨rfl,hL2,hg2⟩;obtain⟨g2,hM2,Xn⟩:=hpre.out w2 hL2 hg2;have Ar:=EQ hls hSb YL hg2;have EI:=EQ hdr hSb YL hg2;have Cc:=hfx.trans (Fx.grown (S:=S) hg2 (λq e=>by cases e;exact YL)) (λ_ _ h=>h);clear HE hpre c0 c1 c2 c3 c4 c5 c6 hLn hls hdr hfx t0 t1 hlk d0 hg2;go_wp2;go_roundw
     case rel=>
      refine⟨k+1,g2,by omega,by go_num,hM2,Xn,?_,EI,Cc⟩;rw[Jd.out];exact Ar
     case measure=>simp[intOf];omega
   ·have hF:dD fq 0 x=x:=by unfold dD;rw[ay U0]
    have hbp:Ci fq x=none:=by
     unfold Ci;rw[Bool.not_eq_true _|>.mp U0,Bool.false_and];rfl
    rw[hbp,Option.toList_none,fw]at Jd;have hst:kC (dD fq 0) (k+1) A=kC (dD fq 0) k A:=by
     rw[<-hMod.out];exact pz hM.yE λy hy=>by
      rw[hl]at hy;cases hy;exact hF
    have hSt:=(show Hid _ from hst);clear hst;cases hxv:x.valid
    ·rw[hxv]at c4;clear U0 hxv;go_wp2;go_roundw
     case rel=>exact⟨k+1,g',by omega,by go_num,by rw[hSt.out];exact hM,by rw[hSt.out];exact AB,by rw[Jd.out];exact hls,hdr,hfx⟩
     case measure=>simp[intOf];omega
    ·rw[hxv]at c4;have hxn:(x.next==fq)=false:=by
      rw[hxv,Bool.true_and]at U0;simpa using U0
     clear U0 hxv;go_wp2;go_roundw
     case rel=>exact⟨k+1,g',by omega,by go_num,by rw[hSt.out];exact hM,by rw[hSt.out];exact AB,by rw[Jd.out];exact hls,hdr,hfx⟩
     case measure=>simp[intOf];omega
  ·have hkn:A.length<=k:=by omega
   rw[kN hkn]at hls;rw[Nt _ hkn]at hM AB;clear hdr hkn;go_wp2;go_ret;exact⟨_,g',rfl,hls,hM,AB,hfx⟩
variable{A:List Rt}{left:Lit->Bool}
def Ke(now:Int)(y:Rt):Bool:=y.valid&&decide (y.exp<=now)
def sG(now:Int)(y:Rt):Rt:=if Ke now y then vS y 0 else y
theorem mG(now:Int)(y:Rt):(sG now y).dest=y.dest:=by
 unfold sG;split<;>rfl
def iF(A:List Rt)(now:Int):List Rt:=A.map (sG now)
def wX(left:Lit->Bool)(now:Int)(A:List Rt):List Rt:=A.map λy=>if left (.int .u32 y.dest)then y else sG now y
theorem Oq{x:Int}(h:left (.int .u32 x)=true)(now:Int)(A:List Rt):gK (wX left now A) x (sG now)=wX (λz=>left z&&!z.sameKey (.int .u32 x)) now A:=by
 unfold gK wX;rw[List.map_map];refine List.map_congr_left λy _=> ?_;by_cases e:y.dest=x
 ·subst e;simp[h,Lit.sameKey]
 ·by_cases hl:left (.int .u32 y.dest)=true
  ·simp[hl,e,Lit.sameKey]
  ·simp[hl,e,Lit.sameKey,mG]
theorem Ou{y:Rt}(hy:y∈A)(h:left (.int .u32 y.dest)=true)(now:Int):y∈wX left now A:=
 dW.2 ⟨y,hy,by simp[h]⟩
theorem JF{v:Value}{y:DataW Unit×List MemPlace}(h:D7 v=some y):∃c:Option Nat,v=gJ c:=by
 unfold D7 at h;split at h
 ·exact⟨none,rfl⟩
 ·exact⟨some _,rfl⟩
 ·cases h
theorem KN{me:Int}{T M:Nat}{f:Int->Option Nat}{g:Int->Value}{S:Nat->Prop}(now:Int){w:World}(h:MT me T M f g A w)(hS:∀k,mZ T M f g A k->S k)(hSb:∀k,S k->k<w.heap.size):
  Calls Tryz.prog 76 #[.pointer (some ⟨T,0,none⟩),.int .u64 now] w λe w'=>∃g',e=.returned (.tuple #[])∧MT me T M f g' (iF A now) w'∧(∀k,mZ T M f g' (iF A now) k->S k)∧Fx S w w':=by
 obtain⟨D,h1,h2,h3⟩:=h.map;obtain⟨t0,t1⟩:=h.blk.cell;have hok0:=h.ok;have acH:=h.dom;have h3':=(show Hid _ from h3);have hhas:∀y∈A,has D (.int .u32 y.dest)=true:=λy hy=>by
  obtain⟨B,hB,_⟩:=h.ln y hy;rw[(h3 _ (hok0 y hy).dest).1,hB];rfl
 have hst:wX (has D) now A=A:=by
  unfold wX;conv=>rhs;rw[<-List.map_id A]
  exact List.map_congr_left λy hy=>by simp[hhas y hy]
 have hSt:=(show Hid _ from hst);clear h3 hst;go_enter Tryz.func76,Tryz.ntmps76;go_wp2_with(at_range;refine wpList_range_own _ rfl _ 156 rfl 34 161 gu Tryz.underlying156 _ M A.length _ rfl h1 ?_;intro w0 hrg0 hg0 hs0);go_frame;go_loopw [5] (λ_ wr=>∃(left:Lit->Bool) (cnt:Nat) (g':Int->Value),wr.ranges Tryz.prog 34 D7 M w.heap.size A.length D left cnt∧MT me T M f g' (wX left now A) wr∧(∀q,mZ T M f g' (wX left now A) q->S q)∧Fx S w wr)
  (λ_ wr=>wr.rangeLeft M w.heap.size)
 case atStart=>
  have hb:Below w.heap.size w w0:=⟨hg0.os,hg0.tape,hg0.output,hg0.size,λk hk=>hg0.block k hk (by simp)⟩;refine⟨_,_,g,hrg0,?_,?_,Fx.below hb⟩
  ·rw[hSt.out];exact h.later hb
  ·rw[hSt.out];exact hS
 case round=>
  clear h h1 hg0 hs0 hrg0 t0 t1;obtain⟨left,cnt,g',hrg,hM,AB,hfx⟩:=hrel;go_wp2_with(at_next;refine wpList_next_ranges _ rfl _ rfl 34 gu D7 aX gJ (λkey kl hk=>by obtain⟨x,hx,_⟩:=kV Tryz.underlying34 hk;exact⟨x,hx⟩) (λv y hv=>JF hv) M w.heap.size A.length _ _ _ rfl hrg ?_ ?_)
  ·intro hc0 hl0;have hall:wX left now A=iF A now:=by
    unfold wX iF;exact List.map_congr_left λy _=>by simp[hl0]
   rw[hall]at hM AB;clear hall;go_wp2
   go_end0
   exact⟨g',rfl,hM,AB,hfx⟩
  ·intro x c kl yd yp w2 cnt2 hkey hlk hv hat hrg2 hlt hg2 hs2 hen;obtain⟨x',ex,rfl,hwf⟩:=kV Tryz.underlying34 hkey;obtain rfl:x=x':=AP ex;clear ex hkey;have hb:=bounds_u32 hwf;have hxu:a_ x:=⟨hb.1,by have:=hb.2;omega⟩;have h3x:=(h3'.out x hxu).2;rw[hat]at h3x;rw[o_]at hv;have hcl:lK c=lK (f x):=by
    have e1:=congrArg Prod.fst (Option.some.inj hv);rw[h3x]at e1;simpa using e1
   have hsome:=(h3'.out x hxu).1;rw[has_true_of_atKey hat]at hsome;obtain⟨B,hB⟩:=Option.isSome_iff_exists.1 hsome.symm;have hc:c=some B:=by
    rw[hB]at hcl;cases c with
    |none=>simp[lK]at hcl
    |some c=>
     simp only[lK]at hcl;exact congrArg some (by omega)
   subst hc;simp only[gJ]at hen ⊢;obtain⟨y,JW,rfl⟩:=acH x B hxu hB;have hyM:=Ou JW hlk now;have hM2:MT me T M f g' (wX left now A) w2:=hM.kept (λq hq=>hg2.block q (hM.lt hq) (λe=>by
    have h4:=hSb q (AB q hq);have h5:w.heap.size=q:=by injection e with e;exact e.symm
    omega))
   have Cc:Fx S w w2:=hfx.trans (Fx.grown (S:=λq=>w.heap.size<=q) hg2 (λq e=>by cases e;exact aB _)) (λq hq hq'=>by omega);have hl:=uj hM2.yE hyM;have hLn:eD B y (g' y.dest) w2:=by
    obtain⟨B',hB',hL⟩:=hM2.ln y hyM;rw[hB]at hB';cases hB';exact hL
   have YL:S B:=AB B (hM.inB hl hB);have hmod:=Oq hlk now A;have hMod:=(show Hid _ from hmod);have hlq:=hrg.left_eq;have hme:=(show Hid (cnt2<wr.rangeLeft M w.heap.size)from by show _<_;rw[hlq];exact hlt);obtain⟨c0,c1,c2,c3,c4,c5,c6⟩:=hLn.cell;clear hs2 hmod hat hv hcl h3x hsome hM hfx hrg hlq hlt hlk hb hwf;by_cases hex:Ke now y=true
   ·have hF:sG now y=vS y 0:=aI hex;have hyv:y.valid=true:=by unfold Ke at hex;revert hex;cases y.valid<;>simp
    have hye:decide (y.exp<=now)=true:=by unfold Ke at hex;revert hex;cases y.valid<;>simp
    rw[hyv]at c4;have HE:=(show Hid _ from EZ B y (g' y.dest) 0 w2 hLn);go_wp2_with fail;refine aU HE.out ?_;rintro e w3 ⟨rfl,hL3,hg3⟩;have ht:=hM2.turn (W':=w3) hl hB (sG now) (mG now) (by rw[hF];exact vR (hok0 y JW) (by simp[a_])) (.slice none 0 0) (by rw[hF];exact hL3) (by rw[hF];exact⟨rfl,.inl ⟨rfl,rfl⟩⟩) (.inl rfl) (λq hq hqB _=>hg3.block q (hM2.lt hq) (λe=>hqB (by cases e;rfl)));rw[hMod.out]at ht;have hrg3:=hrg2.of_walks (KeepsWalks.of_grownBy hg3 (λj o e ho=>by
     cases e;rw[show w2.heap[B]?=_ from hLn]at ho;cases ho;rfl))
    have aao:Fx S w w3:=Cc.trans (Fx.grown (S:=S) hg3 (λq e=>by cases e;exact YL)) (λ_ _ h=>h);have hmS:∀q,mZ T M f _ _ q->S q:=λq hq=>by
     rcases ht.2 q hq with h4|h4
     ·exact AB q h4
     ·cases h4
    have hM3:=ht.1;clear HE c0 c1 c2 c3 c4 c5 c6 hLn hg3 hg2 hM2 hrg2 Cc ht hL3;go_wp2;go_roundw
    case rel=>exact⟨_,cnt2,_,hrg3,hM3,hmS,aao⟩
    case measure=>rw[hrg3.left_eq];exact hme.out
   ·have hF:sG now y=y:=ay hex;have hid:wX left now A=wX (λz=>left z&&!z.sameKey (.int .u32 y.dest)) now A:=by
     rw[<-hMod.out];exact(pz hM2.yE λz hz=>by
      rw[hl]at hz;cases hz;exact hF).symm
    rw[hid]at hM2 AB;clear hid;cases hyv:y.valid
    ·rw[hyv]at c4;go_wp2;go_roundw
     case rel=>exact⟨_,cnt2,g',hrg2,hM2,AB,Cc⟩
     case measure=>rw[hrg2.left_eq];exact hme.out
    ·rw[hyv]at c4;have hye:decide (y.exp<=now)=false:=by
      unfold Ke at hex;rw[hyv,Bool.true_and]at hex;simpa using hex
     go_wp2;go_roundw
     case rel=>exact⟨_,cnt2,g',hrg2,hM2,AB,Cc⟩
     case measure=>rw[hrg2.left_eq];exact hme.out
variable{a:Act}{K:Act->World->Prop}{ops:Array Oper}{Q:Exit->Act->World->Prop}{o:Oper}{P:Program}{E:Prop}{w:World}
theorem yI
  (hg:o.guard=none) (s x:Operand) (t:TypeId) (hop:o.op=Op.call {callee:=Callee.builtin Builtin.append,args:=#[s,x],argTypes:=#[t,t]})
  (base:Nat) (e:TypeId) (i:TypeInfo) (z:Value) (size bytes:Nat) (h1:P.underlying t=some (.slice e)) (h2:P.info? e=some i) (h3:i.zero=some z) (h4:i.size=size) (h5:i.bytes=bytes) (h6:z.cells.size=size) (h7:0<size)
  (v:Value) (n:Nat) (xs:List Value) (hs:a.eval s=v) (hown:w.ownsRow base e size v n xs)
  (ad:Addr) (m c:Nat) (news:List Value) (hx:a.eval x=.slice (some ad) m c) (hn:news.length=m * size) (hc:∀j u,news[j]?=some u->w.cell? (ad.add j)=some u) (h1c:∀u∈news,u.oneCell'=true)
  (b1:n+m<=maxLen) (b2:(n+m)* bytes<=140737488355328) (hbase:base<=w.heap.size)
  (hK:∀v' w',w'.ownsRow base e size v' (n+m) (xs++news)->w.grownBy w' v.ownBlock->K (a.put o.dst v') w'):
  if Region.wanted o (yielded ops a.tmps)=true then Oper.wp P o a w K Q else E:=by
 have hw:Region.wanted o (yielded ops a.tmps)=true:=by simp[Region.wanted,hg]
 rw[aI hw];obtain⟨v',w',hrun,r1,r2,_⟩:=run_append_own (P:=P) w base t o.type e i z size bytes h1 h2 h3 h4 h5 h6 h7 v n xs hown ad m c news hn hc h1c b1 b2 hbase;unfold Oper.wp;simp[execOp,hop,resolve,invoke,builtin,hs,hx,hrun,Result.andThen];exact hK v' w' r1 r2
theorem gW
  (hg:o.guard=none) (s x:Operand) (t:TypeId) (hop:o.op=Op.call {callee:=Callee.builtin Builtin.append,args:=#[s,x],argTypes:=#[t,t]})
  (base:Nat) (e:TypeId) (i:TypeInfo) (z:Value) (size bytes:Nat) (h1:P.underlying t=some (.slice e)) (h2:P.info? e=some i) (h3:i.zero=some z) (h4:i.size=size) (h5:i.bytes=bytes) (h6:z.cells.size=size) (h7:0<size)
  (v:Value) (n:Nat) (xs:List Value) (hs:a.eval s=v) (hown:w.ownsRow base e size v n xs)
  (ad:Addr) (m c:Nat) (news:List Value) (hx:a.eval x=.slice (some ad) m c) (hn:news.length=m * size) (hc:∀j u,news[j]?=some u->w.cell? (ad.add j)=some u) (h1c:∀u∈news,u.oneCell'=true)
  (b1:n+m<=maxLen) (b2:(n+m)* bytes<=140737488355328) (hbase:base<=w.heap.size)
  (hK:∀v' w',w'.ownsRow base e size v' (n+m) (xs++news)->w.grownBy w' v.ownBlock->(v'.ownBlock=v.ownBlock∨v'.ownBlock=some w.heap.size)->K (a.put o.dst v') w'):
  if Region.wanted o (yielded ops a.tmps)=true then Oper.wp P o a w K Q else E:=by
 have hw:Region.wanted o (yielded ops a.tmps)=true:=by simp[Region.wanted,hg]
 rw[aI hw];obtain⟨v',w',hrun,r1,r2,_,r3⟩:=run_append_own_at (P:=P) w base t o.type e i z size bytes h1 h2 h3 h4 h5 h6 h7 v n xs hown ad m c news hn hc h1c b1 b2 hbase;unfold Oper.wp;simp[execOp,hop,resolve,invoke,builtin,hs,hx,hrun,Result.andThen];exact hK v' w' r1 r2 r3
variable{f:Int->Option Int}{L:List (Rt×Value)}{M N s:Nat}{r:Option Nat}{v:Value}{W W':World}
theorem MapU.look_ok(h:MapU W M f s){k:Int}(hk:a_ k):
  (Instr.lookup 115 (.map (some M)) (.int .u32 k) true).run Tryz.prog W=.ok (.tuple #[.int .u32 ((f k).getD 0),.bool (f k).isSome]) W:=by
 obtain⟨D,h1,h2,h3⟩:=h;obtain⟨v,ps,hr,hv⟩:=h1.look_ok gu Tryz.underlying115 (KX W) (plainElem_int Tryz.underlying34 (by decide)) hk.key;obtain⟨c,rfl,he,_⟩:=plainElem_int_inv Tryz.underlying34 hv;rw[(h3 k hk).2]at he;simp at he;rw[hr,he.1,(h3 k hk).1]
theorem MapU.block(h:MapU W M f s)(he:W'.heap[M]?=W.heap[M]?):MapU W' M f s:=by
 obtain⟨D,⟨es,clock,hb,Ft,hs,hD⟩,h2,h3⟩:=h;exact⟨D,⟨es,clock,he.trans hb,Ft,hs,hD⟩,h2,h3⟩
theorem MapU.obj(h:MapU W M f s):∃es cl,W.heap[M]?=some (.map es cl):=by
 obtain⟨D,⟨es,cl,hm,_⟩,_⟩:=h;exact⟨es,cl,hm⟩
structure mX where
 lk:Int
 self:Int
 seq:Int
 bN:Int
 T:Nat
 Ms:Nat
 tn:Int
 own:Int
 Mo:Nat
 cnt:Int
 b_:Int
 eu:Int
 qy:Nat
 Tm:Nat
 pc:Value
@[reducible] def oG(x : mX): Obj := .cells #[.int .i32 x.lk, .int .u32 0, .int .u32 x.self, .int .u32 x.seq, .int .u64 x.bN, .int .u32 x.b_, .int .u32 x.eu, .pointer (some ⟨x.T, 0, none⟩), .map (some x.Ms), .int .i64 x.tn, .int .u32 x.own, .map (some x.Mo), .int .i64 x.cnt, .map (some x.qy), .pointer (some ⟨x.Tm, 0, none⟩), x.pc] 131
def iI(N:Nat)(x:mX)(W:World):Prop:=W.heap[N]?=some (oG x)
theorem iI.cell{x:mX}(h:iI N x W):
  W.cell? ⟨N,0,none⟩=some (.int .i32 x.lk)∧W.cell? ⟨N,2,none⟩=some (.int .u32 x.self)∧W.cell? ⟨N,3,none⟩=some (.int .u32 x.seq)∧W.cell? ⟨N,4,none⟩=some (.int .u64 x.bN)∧W.cell? ⟨N,7,none⟩=some (.pointer (some ⟨x.T,0,none⟩))∧
  W.cell? ⟨N,8,none⟩=some (.map (some x.Ms))∧W.cell? ⟨N,9,none⟩=some (.int .i64 x.tn)∧W.cell? ⟨N,10,none⟩=some (.int .u32 x.own)∧W.cell? ⟨N,11,none⟩=some (.map (some x.Mo))∧W.cell? ⟨N,12,none⟩=some (.int .i64 x.cnt):=
 ⟨aJ W N 0 _ _ _ h,aJ W N 2 _ _ _ h,aJ W N 3 _ _ _ h,aJ W N 4 _ _ _ h,aJ W N 7 _ _ _ h,aJ W N 8 _ _ _ h,aJ W N 9 _ _ _ h,aJ W N 10 _ _ _ h,aJ W N 11 _ _ _ h,aJ W N 12 _ _ _ h⟩
theorem iI.more{x:mX}(h:iI N x W):
  W.cell? ⟨N,5,none⟩=some (.int .u32 x.b_)∧W.cell? ⟨N,6,none⟩=some (.int .u32 x.eu)∧W.cell? ⟨N,13,none⟩=some (.map (some x.qy))∧W.cell? ⟨N,14,none⟩=some (.pointer (some ⟨x.Tm,0,none⟩))∧W.cell? ⟨N,15,none⟩=some x.pc:=
 ⟨aJ W N 5 _ _ _ h,aJ W N 6 _ _ _ h,aJ W N 13 _ _ _ h,aJ W N 14 _ _ _ h,aJ W N 15 _ _ _ h⟩
theorem iI.free{x:mX}(h:iI N x W)(i:Nat):W.frozen? ⟨N,i,none⟩=false:=by
 unfold World.frozen?;rw[show W.heap[(⟨N,i,none⟩:Addr).block]?=some (oG x)from h];try rfl
theorem iI.lt{x:mX}(h:iI N x W):N<W.heap.size:=(iA.1 h).1
theorem iI.block{x:mX}(h:iI N x W)(he:W'.heap[N]?=W.heap[N]?):iI N x W':=he.trans h
theorem iI.later{x:mX}(h:iI N x W)(hb:Below W.heap.size W W'):iI N x W':=h.block (hb.block N h.lt)
theorem iI.kept{x:mX}(h:iI N x W)(hg:W.grownBy W' r)(hr:r≠some N):iI N x W':=h.block (hg.block N h.lt (λe=>hr e.symm))
theorem iI.l6{x:mX}(h:iI N x W)(v:Int):iI N {x with lk:=v} (W.setCell ⟨N,0,none⟩ (.int .i32 v)):=by
 unfold iI at h ⊢;simp[World.setCell,d_,h]
theorem iI.Qs{x:mX}(h:iI N x W)(v:Int):iI N {x with seq:=v} (W.setCell ⟨N,3,none⟩ (.int .u32 v)):=by
 unfold iI at h ⊢;simp[World.setCell,d_,h]
theorem iI.Qr{x:mX}(h:iI N x W)(v:Int):iI N {x with bN:=v} (W.setCell ⟨N,4,none⟩ (.int .u64 v)):=by
 unfold iI at h ⊢;simp[World.setCell,d_,h]
theorem iI.abH{x:mX}(h:iI N x W)(v:Int):iI N {x with tn:=v} (W.setCell ⟨N,9,none⟩ (.int .i64 v)):=by
 unfold iI at h ⊢;simp[World.setCell,d_,h]
theorem iI.Zk{x:mX}(h:iI N x W)(v:Int):iI N {x with own:=v} (W.setCell ⟨N,10,none⟩ (.int .u32 v)):=by
 unfold iI at h ⊢;simp[World.setCell,d_,h]
theorem iI.Qv{x:mX}(h:iI N x W)(v:Int):iI N {x with cnt:=v} (W.setCell ⟨N,12,none⟩ (.int .i64 v)):=by
 unfold iI at h ⊢;simp[World.setCell,d_,h]
theorem iI.VY{x:mX}(h:iI N x W)(v:Int):iI N {x with b_:=v} (W.setCell ⟨N,5,none⟩ (.int .u32 v)):=by
 unfold iI at h ⊢;simp[World.setCell,d_,h]
theorem iI.VZ{x:mX}(h:iI N x W)(v:Int):iI N {x with eu:=v} (W.setCell ⟨N,6,none⟩ (.int .u32 v)):=by
 unfold iI at h ⊢;simp[World.setCell,d_,h]
theorem iI.abK{x:mX}(h:iI N x W)(v:Value):iI N {x with pc:=v} (W.setCell ⟨N,15,none⟩ v):=by
 unfold iI at h ⊢;simp[World.setCell,d_,h]
def Al(f:Int->Option Int)(x:Rt):Bool:=!(f x.dest).isSome||decide (x.seq>(f x.dest).getD 0)
def mP(st:(Int->Option Int)×List (Bool×Int×Int))(x:Rt):(Int->Option Int)×List (Bool×Int×Int):=
 if Al st.1 x then(lX st.1 x.dest (some x.seq),st.2++ [(false,x.dest,x.seq)])else st
def qL(q own:Int):List (Bool×Int×Int):=if q>own then [(true,0,q)]else []
def bK(q own:Int)(f:Int->Option Int)(A:List Rt):(Int->Option Int)×List (Bool×Int×Int):=A.foldl mP (f,qL q own)
theorem JN(q own:Int)(f:Int->Option Int){A:List Rt}{k:Nat}{x:Rt}(h:A[k]?=some x):bK q own f (A.take (k+1))=mP (bK q own f (A.take k)) x:=by
 unfold bK;rw[List.take_add_one,h];simp
theorem oF(q own:Int)(f:Int->Option Int)(A:List Rt):(bK q own f A).2.length<=A.length+1:=by
 have h:∀(A:List Rt) (st:(Int->Option Int)×List (Bool×Int×Int)),(A.foldl mP st).2.length<=st.2.length+A.length:=by
  intro A
  induction A with
  |nil=>intro st;simp
  |cons y A ih=>
   intro st;rw[gZ];refine dN (ih _) ?_;unfold mP;split<;>simp<;>omega
 have:=h A (f,qL q own);unfold bK;refine dN this ?_;unfold qL;split<;>simp<;>omega
theorem aW{S:Nat->Prop}{a b c:World}(h:Fx S a b)(k:b.grownBy c r)(hr:∀i,i<a.heap.size->r=some i->S i):Fx S a c:=
 h.trans (S':=λi=>r=some i) (Fx.grown k λ_ e=>e) (λi hi e=>hr i hi e)
theorem Jh.at{base:Nat}(h:Jh base v L W)(hv:∀k,v.ownBlock=some k->W'.heap[k]?=W.heap[k]?)(hb:∀p∈L,∀k,p.2.ownBlock=some k->W'.heap[k]?=W.heap[k]?):Jh base v L W':=
 ⟨bQ h.row hv,λp hp=>bQ (h.bL p hp) (hb p hp)⟩
theorem Jh.grown{base:Nat}(h:Jh base v L W){r:Option Nat}(hg:W.grownBy W' r)(hr:∀k,r=some k->∃o,W.heap[k]?=some o∧(∀c,o≠ .cells c 38 (0,0))∧∀c,o≠ .cells c 34 (0,0)):Jh base v L W':=by
 refine h.at (λk hk=>hg.block k (h.row.lt k hk).2 λe=> ?_) (λp hp k hk=>hg.block k ((h.bL p hp).lt k hk).2 λe=> ?_)
 ·obtain⟨o,h1,h2,_⟩:=hr k e.symm;exact aL h.row h1 h2 hk
 ·obtain⟨o,h1,_,h3⟩:=hr k e.symm;exact aL (h.bL p hp) h1 h3 hk
variable{st:(Int->Option Int)×List (Bool×Int×Int)}{f:Int->Option Int}{cs:List Value}{M N n s:Nat}{x:Rt}{v:Value}{W:World}
theorem Rk(h:Al st.1 x=true):mP st x=(lX st.1 x.dest (some x.seq),st.2++ [(false,x.dest,x.seq)]):=by simp[mP,h]
theorem Wt(h:Al st.1 x=false):mP st x=st:=by simp[mP,h]
theorem V6(y:Rt)(u:Value):rtC (y,u)=[.int .u32 y.dest,.int .u32 y.seq,.int .i64 y.hops,.int .u32 y.next,.bool y.valid,.int .u64 y.exp,u]:=rfl
theorem Wx{x:mX}(h:iI N x W):∀k,(some N:Option Nat)=some k->∃o,W.heap[k]?=some o∧(∀c,o≠ .cells c 38 (0,0))∧∀c,o≠ .cells c 34 (0,0):=by
 intro k hk;cases hk;exact⟨_,h,λc e=>(by cases e),λc e=>(by cases e)⟩
theorem WL(h:MapU W M f s):∀k,(some M:Option Nat)=some k->∃o,W.heap[k]?=some o∧(∀c,o≠ .cells c 38 (0,0))∧∀c,o≠ .cells c 34 (0,0):=by
 intro k hk;cases hk;obtain⟨es,cl,hm⟩:=h.obj;exact⟨_,hm,λc e=>(by cases e),λc e=>(by cases e)⟩
theorem Ga{base:Nat}(h:W.ownsRow base 82 3 v n cs):∀k,v.ownBlock=some k->∃o,W.heap[k]?=some o∧(∀c,o≠ .cells c 38 (0,0))∧∀c,o≠ .cells c 34 (0,0):=by
 intro k hk;rcases h.2 with⟨rfl,_⟩|⟨g,cap,cur,rfl,_,h2,_⟩
 ·cases hk
 ·simp only[Value.ownBlock,Option.some.injEq]at hk;subst hk;exact⟨_,h2,λc e=>(by cases e),λc e=>(by cases e)⟩
theorem LV{x:mX}(h:iI N x W)(hm:MapU W M f s):N≠M:=λe=>by
 obtain⟨es,cl,hM⟩:=hm.obj;rw[<-e,show W.heap[N]?=_ from h]at hM;cases hM
def Jc(q own:Int):Int:=if q>own then q else own
theorem DZ{base:Nat}(h:W.ownsRow base 82 3 v n cs){M:Nat}{f:Int->Option Int}{s:Nat}(hm:MapU W M f s):v.ownBlock≠some M:=by
 obtain⟨es,cl,hM⟩:=hm.obj;exact aL h hM (λc e=>(by cases e))
theorem JA{base:Nat}(h:W.ownsRow base 82 3 v n cs){N:Nat}{x:mX}(hN:iI N x W):v.ownBlock≠some N:=
 aL h hN (λc e=>(by cases e))
theorem Ro(N:Nat)(x:mX)(q:Int)(f:Int->Option Int)(sz:Nat)(v:Value)(L:List (Rt×Value))(A:List Rt)(hA:L.map (·.1)=A)(hok:∀y∈A,y.Ok)(hln:A.length<=8)(hcnt:0<=x.cnt∧x.cnt<=1000000)(hsz:sz<=1000000)(w:World)(hN:iI N x w)(hm:MapU w x.Mo f sz)(hl:Jh 0 v L w):
  Calls Tryz.prog 104 #[.pointer (some ⟨N,10,none⟩),.int .u32 q,v] w λe w'=>∃v' sz',e=.returned v'∧w'.ownsRow w.heap.size 82 3 v' (bK q x.own f A).2.length (RC (bK q x.own f A).2)∧iI N {x with own:=Jc q x.own,cnt:=x.cnt+(bK q x.own f A).2.length} w'∧MapU w' x.Mo (bK q x.own f A).1 sz'∧sz'<=sz+8∧Fx (λk=>k=N∨k=x.Mo) w w':=by
 obtain⟨i0,hi,hz0,hz1,hz2⟩:=info_parts qR;have hNM:=LV hN hm;have Xp:Hid (L.length=A.length):=by
  show _=_;rw[<-hA];simp
 obtain⟨ao,c,rfl,_⟩:=ax hl.row;have hNr:w.heap.size<=w.heap.size:=aB _;obtain⟨n0,n2,n3,n4,n5,n6,n7,n8,n9,n10⟩:=hN.cell;have f8:=hN.free 10;go_enter Tryz.func104,Tryz.ntmps104;go_upto_if 17 with(fail);go_cut [7]from 17 to 26 (λlv W=>W.ownsRow w.heap.size 82 3 lv (qL q x.own).length (RC (qL q x.own))∧iI N {x with own:=Jc q x.own} W∧MapU W x.Mo f sz∧Jh 0 (.slice ao L.length c) L W∧Fx (λk=>k=N∨k=x.Mo) w W)
 case first=>
  by_cases hq:q>x.own
  ·have hg1:w.grownBy (w.setCell ⟨N,10,none⟩ (.int .u32 q)) (some N):=ah (aC _ (some N)) 10 _;have hN1:=hN.Zk q;have hm1:=hm.kept hg1 (by simpa using Ne.symm hNM);have hl1:=hl.grown hg1 (Wx hN);have hF1:Fx (λk=>k=N∨k=x.Mo) w (w.setCell ⟨N,10,none⟩ (.int .u32 q)):=Fx.grown hg1 (λk e=>by cases e;exact .inl rfl);have hsz1:=hg1.size;go_upto_region 4 with(fail);generalize World.setCell _ _ _=W1 at hN1 hm1 hl1 hF1 hsz1 ⊢;clear n0 n2 n3 n4 n5 n6 n7 n8 n9 n10 f8 hg1;have hr0:W1.ownsRow w.heap.size 82 3 (.slice none 0 0) 0 (RC []):=⟨rfl,.inl ⟨rfl,rfl⟩⟩;have hb3:Below W1.heap.size W1 (W1.alloc (aY true 0 q)):=bC;have hcr:=kX W1 true 0 q;dsimp only[aY]at hb3 hcr;go_wp2_with(at_builtin;refine wpList_append_own_at _ rfl _ _ 79 rfl w.heap.size 82 i0 (.agg #[.bool false,.int .u32 0,.int .u32 0]) 3 12 Tryz.underlying79 hi hz0 hz1 hz2 rfl (by decide) (.slice none 0 0) 0 (RC []) rfl (hr0.alloc _) ⟨W1.heap.size,0,none⟩ 1 1 (RC [(true,0,q)]) rfl rfl hcr (nM true 0 q) (by unfold maxLen;omega) (by omega) ?c3 ?_)
   case c3=>simp;omega
   intro v3 w3 ho3 hg3 _ _;have hno:qL q x.own=[(true,0,q)]:=by simp[qL,hq]
   have hif:Jc q x.own=q:=by simp[Jc,hq]
   have hNn:Hid (iI N {x with own:=q} w3):=(hN1.later hb3).kept hg3 (by simp[Value.ownBlock]);have hmn:=(hm1.block (hb3.block _ hm1.lt)).kept hg3 (by simp[Value.ownBlock]);have ad8:=(hl1.later hb3).grown hg3 (by intro k hk;simp[Value.ownBlock]at hk);have hFn:=aW (hF1.trans (Fx.below (S:=λ_=>False) hb3) (λ_ _ h=>h.elim)) hg3 (by intro i _ hk;simp[Value.ownBlock]at hk);clear hN1 hm1 hl1 hF1 hb3 hcr hg3;go_wp2_with fail;go_meet;rw[hno,hif];exact⟨ho3,hNn.out,hmn,ad8,hFn⟩
  ·have hno:qL q x.own=[]:=by simp[qL,hq]
   have hif:Jc q x.own=x.own:=by simp[Jc,hq]
   go_wp2_with fail;go_meet;rw[hno,hif];exact⟨⟨rfl,.inl ⟨rfl,rfl⟩⟩,hN,hm,hl,Fx.refl _ _⟩
 case rest=>
  clear n0 n2 n3 n4 n5 n6 n7 n8 n9 n10 f8 hl hN hm;obtain⟨ho,hN,hm,hl,hF⟩:=hcut;rename_i lv;have hl8:L.length<=8:=by rw[Xp.out];exact hln
  have hlO:(qL q x.own).length<=1:=by unfold qL;split<;>simp
  have gT:Hid (bK q x.own f (A.take 0)=(f,qL q x.own)):=by
   show _=_;simp[bK]
  have hPA:Hid (bK q x.own f (A.take L.length)=bK q x.own f A):=by
   show _=_;rw[Xp.out,List.take_length]
  generalize hyo:Jc q x.own=y at hN;have adD:=(show Hid _ from hyo);clear hyo;have hsz0:=hF.size;go_wp2_with fail;go_loopw [7,29] (λlv i wr=>∃(k sk:Nat),k<=L.length∧i=.int .i64 k∧wr.ownsRow w.heap.size 82 3 lv (bK q x.own f (A.take k)).2.length (RC (bK q x.own f (A.take k)).2)∧iI N {x with own:=y} wr∧MapU wr x.Mo (bK q x.own f (A.take k)).1 sk∧sk<=sz+k∧Jh 0 (.slice ao L.length c) L wr∧Fx (λk=>k=N∨k=x.Mo) w wr) (λ_ i _=>L.length - (intOf i).toNat)
  case atStart=>exact⟨0,sz,dm _,rfl,by rw[gT.out];exact ho,hN,by rw[gT.out];exact hm,by omega,hl,hF⟩
  case round=>
   clear ho hN hm hl hF hsz0;obtain⟨k,sk,hk,rfl,ho,hN,hm,hsk,hl,hF⟩:=hrel;by_cases hlt:k<L.length
   ·have hki:(k:Int)<(L.length:Int):=by omega
    obtain⟨⟨yy,u⟩,hp⟩:∃p,L[k]?=some p:=⟨_,bS hlt⟩;have hx:A[k]?=some yy:=by rw[<-hA,l9,hp];rfl
    have qU:=hok yy (iV hx);have hst:Hid (bK q x.own f (A.take (k+1))=mP (bK q x.own f (A.take k)) yy):=JN q x.own f hx;have hlen:(bK q x.own f (A.take k)).2.length<=9:=by
     have h1:=oF q x.own f (A.take k);have h2:(A.take k).length<=8:=by rw[List.length_take];omega
     omega
    obtain⟨ao',c',he,hH⟩:=ax hl.row;cases he;have hat:=λ{i:Nat} (hi:i<7)=>aa9 hp hi;obtain⟨au,cu,hu,_⟩:=ax (hl.bL _ (iV hp));dsimp only at hu;subst hu;rw[V6]at hat;obtain⟨b1,o1,rfl,hj1⟩:=hH (k * 7+0) _ (hat (i:=0) (by decide));have c0:=hH.one rfl (hat (i:=0) (by decide));have c1:=hH.one rfl (hat (i:=1) (by decide));have c2:=hH.one rfl (hat (i:=2) (by decide));have c3:=hH.one rfl (hat (i:=3) (by decide));have c4:=hH.one rfl (hat (i:=4) (by decide));have c5:=hH.one rfl (hat (i:=5) (by decide));have c6:=hH.one rfl (hat (i:=6) (by decide));rw[Nat.add_zero]at c0;rw[<-Nat.add_assoc]at c1 c2 c3 c4 c5 c6;have jE:Below wr.heap.size wr (wr.alloc (cK yy (.slice au yy.bL.length cu))):=bC;have hX:=eD.new yy (.slice au yy.bL.length cu) wr;have ho1:=aN ho jE;have hN1:=hN.later jE;have hm1:=hm.block (jE.block _ hm.lt);have hl1:=hl.later jE;have hF1:=hF.trans (Fx.below (S:=λ_=>False) jE) (λ_ _ h=>h.elim);dsimp only[cK]at hX ho1 hN1 hm1 hl1 hF1;clear hj1 hat hH hp hx ho hN hm hl hF jE;generalize bK q x.own f (A.take k)=st at hst ho1 hm1 hlen;obtain⟨fk,lk⟩:=st;dsimp only at ho1 hm1 hlen;go_upto_region 8 with(fail);generalize wr.heap.size=B1 at hX ⊢;generalize World.alloc _ _=W1 at hX ho1 hN1 hm1 hl1 hF1 ⊢;clear c0 c1 c2 c3 c4 c5 c6;obtain⟨p0,p1,p2,p3,p4,p5,p6⟩:=hX.cell;obtain⟨n0,n2,n3,n4,n5,n6,n7,n8,n9,n10⟩:=hN1.cell;dsimp only at n0 n2 n3 n4 n5 n6 n7 n8 n9 n10;have hk0:=hm1.look_ok qU.dest;have hk1:=(show MapU W1.drew _ _ _ from hm1).look_ok qU.dest;generalize hod:fk yy.dest=od at hk0 hk1;have aae:=(show Hid _ from hod);clear hod;go_region
    clear hk0 hk1 p0 p1 p2 p3 p4 p5 p6 n0 n2 n3 n4 n5 n6 n7 n8 n9 n10;have hb2:Below W1.heap.size W1 W1.drew:=(aV _ _).drew;replace hX:=hX.later hb2;replace ho1:=aN ho1 hb2;replace hN1:=hN1.later hb2;replace hm1:=hm1.block (hb2.block _ hm1.lt);replace hl1:=hl1.later hb2;replace hF1:=hF1.trans (Fx.below (S:=λ_=>False) hb2) (λ_ _ h=>h.elim);clear hb2;generalize World.drew _=W2 at hX ho1 hN1 hm1 hl1 hF1 ⊢;obtain⟨p0,p1,p2,p3,p4,p5,p6⟩:=hX.cell;obtain⟨n0,n2,n3,n4,n5,n6,n7,n8,n9,n10⟩:=hN1.cell;dsimp only at n0 n2 n3 n4 n5 n6 n7 n8 n9 n10;have hnew:Al fk yy=(!od.isSome||decide (yy.seq>od.getD 0)):=by unfold Al;rw[aae.out]
    cases hb:Al fk yy
    ·rw[Wt hb]at hst;rw[hb]at hnew;have hs:od.isSome=true:=by
      cases od with
      |none=>cases hnew
      |some z=>rfl
     obtain⟨z,rfl⟩:=Option.isSome_iff_exists.1 hs;have hz:¬(z<yy.seq):=by simpa using hnew.symm
     clear hnew hs hb aae;simp only[Option.isSome_some,Option.getD_some];go_wp2_with fail;go_roundw
     case rel=>exact⟨k+1,sk,by omega,by go_num,by rw[hst.out];exact ho1,hN1,by rw[hst.out];exact hm1,by omega,hl1,hF1⟩
     case measure=>simp[intOf];omega
    ·rw[Rk hb]at hst;rw[hb]at hnew;clear hb aae;obtain⟨W3,hr3,oI,hg3⟩:=(show MapU W2.drew _ _ _ from hm1).put (by unfold maxLen;omega) qU.dest (v:=yy.seq) qU.seq;have hg3':W2.grownBy W3 (some x.Mo):=⟨hg3.os,hg3.tape,hg3.output,hg3.size,hg3.block⟩;have hX3:eD B1 yy (.slice au yy.bL.length cu) W3:=hX.block (hg3'.block _ hX.lt (λe=>by
      cases e;obtain⟨es,cl,hM⟩:=hm1.obj;rw[show W2.heap[x.Mo]?=_ from hX]at hM;cases hM))
     have ho3:W3.ownsRow w.heap.size 82 3 u7 lk.length (RC lk):=ho1.kept hg3' (.inr (DZ ho1 hm1));have Az:=hN1.kept hg3' (by simpa using Ne.symm hNM);have hl3:=hl1.grown hg3' (WL hm1);have yo:=aW hF1 hg3' (λi _ e=>by cases e;exact .inr rfl);have Z8:(if (fk yy.dest).isSome then sk else sk+1)<=sz+(k+1):=by split<;>omega
     generalize (if (fk yy.dest).isSome then sk else sk+1)=sk3 at oI Z8;clear ho1 hN1 hm1 hl1 hF1 hg3 hg3' hX;have hla:=ho3.lt;have hb3:Below W3.heap.size W3 (W3.alloc (aY false yy.dest yy.seq)):=bC;have hcr:=kX W3 false yy.dest yy.seq;have hs3:=yo.size;dsimp only[aY]at hb3 hcr;have hcond:od=none∨∃z,od=some z∧z<yy.seq:=by
      cases od with
      |none=>exact .inl rfl
      |some z=>exact .inr ⟨z,rfl,by simpa using hnew.symm⟩
     clear hnew;rcases hcond with rfl|⟨z,rfl,hz⟩
     ·simp only[Option.isSome_none,Option.getD_none];go_wp2_with fail;go_region
      clear n0 n2 n3 n4 n5 n6 n7 n8 n9 n10 p0 p1 p2 p3 p4 p5 p6;obtain⟨p0,p1,p2,p3,p4,p5,p6⟩:=hX3.cell;go_wp2_with(at_builtin;refine wpList_append_own_at _ rfl _ _ 79 rfl w.heap.size 82 i0 (.agg #[.bool false,.int .u32 0,.int .u32 0]) 3 12 Tryz.underlying79 hi hz0 hz1 hz2 rfl (by decide) u7 lk.length (RC lk) rfl (ho3.alloc _) ⟨W3.heap.size,0,none⟩ 1 1 (RC [(false,yy.dest,yy.seq)]) rfl rfl hcr (nM false yy.dest yy.seq) (by unfold maxLen;omega) (by omega) ?c3 ?_)
      case c3=>simp;omega
      intro v4 W4 Dc hg4 _ _;have BL:=(Az.later hb3).kept hg4 (JA ho3 Az);have Cb:=(oI.block (hb3.block _ oI.lt)).kept hg4 (Ne.symm (DZ ho3 oI));have hl4:=(hl3.later hb3).grown hg4 (λk hk=>Ga (ho3.alloc _) k hk);have sU:=aW (yo.trans (Fx.below (S:=λ_=>False) hb3) (λ_ _ h=>h.elim)) hg4 (λi hi e=>by have:=(hla i e).1;omega);clear Az oI hl3 yo hb3 hcr hg4 ho3 hX3 hla p0 p1 p2 p3 p4 p5 p6;go_wp2_with fail;go_roundw
      case rel=>exact⟨k+1,sk3,by omega,by go_num,by rw[hst.out,bU,lq];exact Dc,BL,by rw[hst.out];exact Cb,Z8,hl4,sU⟩
      case measure=>simp[intOf];omega
     ·simp only[Option.isSome_some,Option.getD_some];go_wp2_with fail;go_region
      clear n0 n2 n3 n4 n5 n6 n7 n8 n9 n10 p0 p1 p2 p3 p4 p5 p6;obtain⟨p0,p1,p2,p3,p4,p5,p6⟩:=hX3.cell;go_wp2_with(at_builtin;refine wpList_append_own_at _ rfl _ _ 79 rfl w.heap.size 82 i0 (.agg #[.bool false,.int .u32 0,.int .u32 0]) 3 12 Tryz.underlying79 hi hz0 hz1 hz2 rfl (by decide) u7 lk.length (RC lk) rfl (ho3.alloc _) ⟨W3.heap.size,0,none⟩ 1 1 (RC [(false,yy.dest,yy.seq)]) rfl rfl hcr (nM false yy.dest yy.seq) (by unfold maxLen;omega) (by omega) ?c3 ?_)
      case c3=>simp;omega
      intro v4 W4 Dc hg4 _ _;have BL:=(Az.later hb3).kept hg4 (JA ho3 Az);have Cb:=(oI.block (hb3.block _ oI.lt)).kept hg4 (Ne.symm (DZ ho3 oI));have hl4:=(hl3.later hb3).grown hg4 (λk hk=>Ga (ho3.alloc _) k hk);have sU:=aW (yo.trans (Fx.below (S:=λ_=>False) hb3) (λ_ _ h=>h.elim)) hg4 (λi hi e=>by have:=(hla i e).1;omega);clear Az oI hl3 yo hb3 hcr hg4 ho3 hX3 hla p0 p1 p2 p3 p4 p5 p6;go_wp2_with fail;go_roundw
      case rel=>exact⟨k+1,sk3,by omega,by go_num,by rw[hst.out,bU,lq];exact Dc,BL,by rw[hst.out];exact Cb,Z8,hl4,sU⟩
      case measure=>simp[intOf];omega
   ·obtain rfl:k=L.length:=by omega
    rw[hPA.out]at ho hm;have hcl:(bK q x.own f A).2.length<=9:=dN (oF q x.own f A) (by omega);obtain⟨n0,n2,n3,n4,n5,n6,n7,n8,n9,n10⟩:=hN.cell;have f10:=hN.free 12;dsimp only at n0 n2 n3 n4 n5 n6 n7 n8 n9 n10;have hg:wr.grownBy (wr.setCell ⟨N,12,none⟩ (.int .i64 (x.cnt+(bK q x.own f A).2.length))) (some N):=ah (aC _ (some N)) 12 _;have U4:=hN.Qv (x.cnt+(bK q x.own f A).2.length);have hm5:=hm.kept hg (by simpa using Ne.symm hNM);have ho5:(wr.setCell ⟨N,12,none⟩ (.int .i64 (x.cnt+(bK q x.own f A).2.length))).ownsRow w.heap.size 82 3 u7 (bK q x.own f A).2.length (RC (bK q x.own f A).2):=ho.kept hg (.inr (JA ho hN));have hF5:=aW hF hg (λi _ e=>by cases e;exact .inl rfl);obtain⟨a7,c7,rfl,_⟩:=ax ho;have hwr:wrap64 (x.cnt+(bK q x.own f A).2.length)=x.cnt+(bK q x.own f A).2.length:=by unfold wrap64;omega
    clear ho hN hm hl hF hg;go_wp2;go_ret;rw[adD.out];exact⟨_,rfl,ho5,U4,_,hm5,by omega,hF5⟩
variable{f:Int->Option Nat}{bg:List (Bool×Int×Int)}{aO aF:List (Int×ByteArray)}{aP:List Int}{A:List Rt}{B M T:Nat}{W W':World}
theorem kS{P:Program}{ops:Array Oper}{o:Oper}{a:Act}{w:World}{K:Act->World->Prop}{Q:Exit->Act->World->Prop}{E:Prop}
  (hg:o.guard=none) (s x:Operand) (t:TypeId) (hop:o.op=Op.call {callee:=Callee.builtin Builtin.append,args:=#[s,x],argTypes:=#[t,t]})
  (base:Nat) (e:TypeId) (i:TypeInfo) (z:Value) (size bytes:Nat) (h1:P.underlying t=some (.slice e)) (h2:P.info? e=some i) (h3:i.zero=some z) (h4:i.size=size) (h5:i.bytes=bytes) (h6:z.cells.size=size) (h7:0<size)
  (v:Value) (n:Nat) (xs:List Value) (hs:a.eval s=v) (hown:w.ownsRow base e size v n xs)
  (MR:Nat) (v2:Value) (m:Nat) (ys:List Value) (hx:a.eval x=v2) (hown2:w.ownsRow MR e size v2 m ys) (h1c:∀u∈ys,u.oneCell'=true)
  (b1:n+m<=maxLen) (b2:(n+m)* bytes<=140737488355328) (hbase:base<=w.heap.size)
  (hK:∀v' w',w'.ownsRow base e size v' (n+m) (xs++ys)->w.grownBy w' v.ownBlock->K (a.put o.dst v') w'):
  if Region.wanted o (yielded ops a.tmps)=true then Oper.wp P o a w K Q else E:=by
 have hw:Region.wanted o (yielded ops a.tmps)=true:=by simp[Region.wanted,hg]
 rcases hown2.2 with⟨rfl,rfl⟩|⟨g,cap,cur,rfl,_,hgb,_⟩
 ·rw[aI hw];have hrun:=run_append_owned_none (P:=P) (w:=w) base t o.type e i size h1 h2 v n xs hown;unfold Oper.wp;simp[execOp,hop,resolve,invoke,builtin,hs,hx,hrun,Result.andThen];have hy:ys=[]:=nU (by have:=hown2.1;simpa using this);subst hy;exact hK v w (by simpa using hown) ⟨rfl,rfl,rfl,aB _,λ_ _ _=>rfl⟩
 ·exact yI hg s x t hop base e i z size bytes h1 h2 h3 h4 h5 h6 h7 v n xs hs hown ⟨g,0,none⟩ m cap ys hx hown2.1 (λj u hj=>by
   obtain⟨b',o',k1,_,k2⟩:=gG.ofRow hown2 j u hj;simp only[Option.some.injEq,Addr.mk.injEq,and_true]at k1;obtain⟨rfl,rfl⟩:=k1;have hadd:(⟨g,0,none⟩:Addr).add j=⟨g,0+j,none⟩:=by unfold Addr.add;split<;>simp_all
   rw[hadd];exact k2) h1c b1 b2 hbase hK
structure qh where
 now:Int
 nV:Value
 bH:ByteArray
 bB:Bool
 aH:Value
 bO:Value
 bP:Value
@[reducible] def oN(a : qh): Obj := .cells #[.int .u64 a.now, a.nV, .string a.bH, .bool a.bB, a.aH, a.bO, a.bP] 134
def oU(B:Nat)(a:qh)(W:World):Prop:=W.heap[B]?=some (oN a)
theorem oU.cell{a:qh}(h:oU B a W):
  W.cell? ⟨B,0,none⟩=some (.int .u64 a.now)∧W.cell? ⟨B,1,none⟩=some a.nV∧W.cell? ⟨B,2,none⟩=some (.string a.bH)∧W.cell? ⟨B,3,none⟩=some (.bool a.bB)∧W.cell? ⟨B,4,none⟩=some a.aH∧W.cell? ⟨B,5,none⟩=some a.bO∧W.cell? ⟨B,6,none⟩=some a.bP:=
 ⟨aJ W B 0 _ _ _ h,aJ W B 1 _ _ _ h,aJ W B 2 _ _ _ h,aJ W B 3 _ _ _ h,aJ W B 4 _ _ _ h,aJ W B 5 _ _ _ h,aJ W B 6 _ _ _ h⟩
theorem oU.free{a:qh}(h:oU B a W)(i:Nat):W.frozen? ⟨B,i,none⟩=false:=by
 unfold World.frozen?;rw[show W.heap[(⟨B,i,none⟩:Addr).block]?=some (oN a)from h];try rfl
theorem oU.lt{a:qh}(h:oU B a W):B<W.heap.size:=(iA.1 h).1
theorem oU.block{a:qh}(h:oU B a W)(he:W'.heap[B]?=W.heap[B]?):oU B a W':=he.trans h
theorem oU.Qu{a:qh}(h:oU B a W)(v:Value):oU B {a with nV:=v} (W.setCell ⟨B,1,none⟩ v):=by
 unfold oU at h ⊢;simp[World.setCell,d_,h]
theorem oU.DW{a:qh}(h:oU B a W)(v:ByteArray):oU B {a with bH:=v} (W.setCell ⟨B,2,none⟩ (.string v)):=by
 unfold oU at h ⊢;simp[World.setCell,d_,h]
theorem oU.Qt{a:qh}(h:oU B a W)(v:Bool):oU B {a with bB:=v} (W.setCell ⟨B,3,none⟩ (.bool v)):=by
 unfold oU at h ⊢;simp[World.setCell,d_,h]
theorem oU.Zm{a:qh}(h:oU B a W)(v:Value):oU B {a with aH:=v} (W.setCell ⟨B,4,none⟩ v):=by
 unfold oU at h ⊢;simp[World.setCell,d_,h]
theorem oU.Zo{a:qh}(h:oU B a W)(v:Value):oU B {a with bO:=v} (W.setCell ⟨B,5,none⟩ v):=by
 unfold oU at h ⊢;simp[World.setCell,d_,h]
theorem oU.Zn{a:qh}(h:oU B a W)(v:Value):oU B {a with bP:=v} (W.setCell ⟨B,6,none⟩ v):=by
 unfold oU at h ⊢;simp[World.setCell,d_,h]
def uH(L:List (Int×ByteArray)):List Value:=L.flatMap λx=> [.int .u32 x.1,.string x.2]
def Jj(L:List Int):List Value:=L.map λx=> .int .i64 x
theorem Bv(a b:List (Int×ByteArray)):uH (a++b)=uH a++uH b:=by simp[uH]
theorem KQ(a b:List Int):Jj (a++b)=Jj a++Jj b:=by simp[Jj]
structure jP(B base:Nat)(a:qh)(bg:List (Bool×Int×Int))(aF aO:List (Int×ByteArray))(aP:List Int)(W:World):Prop where
 blk:oU B a W
 nV:W.ownsRow base 82 3 a.nV bg.length (RC bg)
 aH:W.ownsRow base 77 2 a.aH aF.length (uH aF)
 bO:W.ownsRow base 56 2 a.bO aO.length (uH aO)
 bP:W.ownsRow base 195 1 a.bP aP.length (Jj aP)
def jL(B:Nat)(a:qh)(k:Nat):Prop:=k=B∨a.nV.ownBlock=some k∨a.aH.ownBlock=some k∨a.bO.ownBlock=some k∨a.bP.ownBlock=some k
theorem jP.kept{base:Nat}{a:qh}(h:jP B base a bg aF aO aP W)(he:∀k,jL B a k->W'.heap[k]?=W.heap[k]?):jP B base a bg aF aO aP W':=
 ⟨h.blk.block (he B (.inl rfl)),bQ h.nV λk hk=>he k (.inr (.inl hk)),bQ h.aH λk hk=>he k (.inr (.inr (.inl hk))),bQ h.bO λk hk=>he k (.inr (.inr (.inr (.inl hk)))),bQ h.bP λk hk=>he k (.inr (.inr (.inr (.inr hk))))⟩
theorem jP.lt{base:Nat}{a:qh}(h:jP B base a bg aF aO aP W){k:Nat}(hk:jL B a k):k<W.heap.size:=by
 rcases hk with rfl|hk|hk|hk|hk
 ·exact h.blk.lt
 ·exact(h.nV.lt k hk).2
 ·exact(h.aH.lt k hk).2
 ·exact(h.bO.lt k hk).2
 ·exact(h.bP.lt k hk).2
theorem jP.later{base:Nat}{a:qh}(h:jP B base a bg aF aO aP W)(hb:Below W.heap.size W W'):jP B base a bg aF aO aP W':=
 h.kept λk hk=>hb.block k (h.lt hk)
def oC(o:Obj):Prop:=(∀c,o≠ .cells c 134 (0,0))∧(∀c,o≠ .cells c 82 (0,0))∧(∀c,o≠ .cells c 77 (0,0))∧(∀c,o≠ .cells c 56 (0,0))∧∀c,o≠ .cells c 195 (0,0)
theorem jP.not{base:Nat}{a:qh}(h:jP B base a bg aF aO aP W){k:Nat}{o:Obj}(ho:W.heap[k]?=some o)(hk:oC o):¬jL B a k:=by
 obtain⟨h1,h2,h3,h4,h5⟩:=hk;rintro(rfl|hk|hk|hk|hk)
 ·rw[show W.heap[k]?=_ from h.blk]at ho;exact h1 _ (Option.some.inj ho).symm
 ·exact aL h.nV ho h2 hk
 ·exact aL h.aH ho h3 hk
 ·exact aL h.bO ho h4 hk
 ·exact aL h.bP ho h5 hk
theorem LU(x:mX):oC (oG x):=⟨λc e=>(by cases e),λc e=>(by cases e),λc e=>(by cases e),λc e=>(by cases e),λc e=>(by cases e)⟩
theorem vH(es:Array MapEntry)(cl:Nat):oC (.map es cl):=⟨λc e=>(by cases e),λc e=>(by cases e),λc e=>(by cases e),λc e=>(by cases e),λc e=>(by cases e)⟩
def yM(o:Obj):Prop:=(∀c,o≠ .cells c 158 (0,0))∧(∀c,o≠ .cells c 38 (0,0))∧∀c,o≠ .cells c 34 (0,0)
theorem MT.not{me:Int}{g:Int->Value}(h:MT me T M f g A W){k:Nat}(hM:k≠M){o:Obj}(ho:W.heap[k]?=some o)(hk:yM o):¬mZ T M f g A k:=by
 obtain⟨h1,h2,h3⟩:=hk;rintro(rfl|rfl|⟨x,hx,hk|hk⟩)
 ·rw[show W.heap[k]?=_ from h.blk]at ho;exact h1 _ (Option.some.inj ho).symm
 ·exact hM rfl
 ·obtain⟨B,p1,p2⟩:=h.ln x hx;rw[p1]at hk;cases hk;rw[show W.heap[k]?=_ from p2]at ho;exact h2 _ (Option.some.inj ho).symm
 ·exact aL (h.row x hx) ho h3 hk
theorem MT.JS{me:Int}{g:Int->Value}{S:Nat->Prop}(h:MT me T M f g A W)(hf:Fx S W W')(hS:∀k,S k->k<W.heap.size->k≠M∧∃o,W.heap[k]?=some o∧yM o):MT me T M f g A W':=
 h.kept λk hk=>hf.block k (h.lt hk) λhs=>by
  obtain⟨h1,o,h2,h3⟩:=hS k hs (h.lt hk);exact h.not h1 h2 h3 hk
theorem rT(x:mX):yM (oG x):=⟨λc e=>(by cases e),λc e=>(by cases e),λc e=>(by cases e)⟩
theorem X9(x:qh):yM (oN x):=⟨λc e=>(by cases e),λc e=>(by cases e),λc e=>(by cases e)⟩
theorem vG(es:Array MapEntry)(cl:Nat):yM (.map es cl):=⟨λc e=>(by cases e),λc e=>(by cases e),λc e=>(by cases e)⟩
theorem aS{base e size n:Nat}{v:Value}{cs:List Value}(h:W.ownsRow base e size v n cs){k:Nat}(hk:v.ownBlock=some k):∃c,W.heap[k]?=some (.cells c e (0,0)):=by
 rcases h.2 with⟨rfl,_⟩|⟨g,cap,cur,rfl,_,h2,_⟩
 ·cases hk
 ·simp only[Value.ownBlock,Option.some.injEq]at hk;subst hk;exact⟨_,h2⟩
theorem jP.yM{base:Nat}{a:qh}(h:jP B base a bg aF aO aP W){k:Nat}(hk:jL B a k):∃o,W.heap[k]?=some o∧Go.Proofs.YtakaadcpaeiccabGreat.yM o∧(∀c,o≠ .cells c 131 (0,0))∧∀es cl,o≠ .map es cl:=by
 rcases hk with rfl|hk|hk|hk|hk
 ·exact⟨_,h.blk,X9 a,λc e=>(by cases e),λc d e=>(by cases e)⟩
 ·obtain⟨c,hc⟩:=aS h.nV hk;exact⟨_,hc,⟨λc e=>(by cases e),λc e=>(by cases e),λc e=>(by cases e)⟩,λc e=>(by cases e),λc d e=>(by cases e)⟩
 ·obtain⟨c,hc⟩:=aS h.aH hk;exact⟨_,hc,⟨λc e=>(by cases e),λc e=>(by cases e),λc e=>(by cases e)⟩,λc e=>(by cases e),λc d e=>(by cases e)⟩
 ·obtain⟨c,hc⟩:=aS h.bO hk;exact⟨_,hc,⟨λc e=>(by cases e),λc e=>(by cases e),λc e=>(by cases e)⟩,λc e=>(by cases e),λc d e=>(by cases e)⟩
 ·obtain⟨c,hc⟩:=aS h.bP hk;exact⟨_,hc,⟨λc e=>(by cases e),λc e=>(by cases e),λc e=>(by cases e)⟩,λc e=>(by cases e),λc d e=>(by cases e)⟩
open Go.WideMaps Go.WideShapes
variable{a b:Int×Int}{M s:Nat}{v:Value}{W:World}
theorem Y6:(261:TypeId)<Tryz.prog.types.size:=of_decide_eq_true (by kernel_rfl)
theorem Vs:laidOutB Tryz.prog=true:=by kernel_rfl
theorem KZ:(match Tryz.prog.underlying 261 with|some (.array _ _)|some (.struct _)=>true|_=>false)=true:=by kernel_rfl
theorem Y7:Tryz.prog.keyTypeAt 2 261=true:=by kernel_rfl
theorem Vt:KeyLaw Tryz.prog 261:=deep_law_laid Vs (m:=2) (by omega) Y6 Y7 KZ
theorem qC:Keyed Tryz.prog 261:=Keyed.of_law Vt
theorem Vv(w:World):(zeroValue 279).run Tryz.prog w=.ok (.agg #[.int .u64 0,.int .i64 0]) w:=by kernel_rfl
def iC(q:Int×Int):Lit:=.string (keyBytes [.int .u32 q.1,.int .u32 q.2])
def jX(q:Int×Int):Value:=.agg #[.int .u32 q.1,.int .u32 q.2]
def xG(m:Int×Int):Value:=.agg #[.int .u64 m.1,.int .i64 m.2]
def Iw(m:Int×Int):DataW Unit:=.agg [.lit (.int .u64 m.1),.lit (.int .i64 m.2)]
def Er(v:Value):Option (DataW Unit×List MemPlace):=
 match v with
 | .agg cs=>match cs.toList with
  | [.int .u64 t,.int .i64 n]=>some (.agg [.lit (.int .u64 t),.lit (.int .i64 n)],[])
  |_=>none
 |_=>none
theorem Ep(m:Int×Int):Er (xG m)=some (Iw m,[]):=rfl
theorem GU{y:DataW Unit×List MemPlace}(h:Er v=some y):∃m,v=xG m∧y=(Iw m,[]):=by
 unfold Er at h;split at h
 ·rename_i cs;split at h
  ·rename_i t n hl;obtain⟨l⟩:=cs;simp only at hl;subst hl;exact⟨(t,n),rfl,(Option.some.inj h).symm⟩
  ·cases h
 ·cases h
theorem Iu(h:Iw a=Iw b):a=b:=by
 unfold Iw at h;simp only[DataW.agg.injEq,List.cons.injEq,DataW.lit.injEq,Lit.int.injEq,true_and,and_true]at h;exact Prod.ext h.1 h.2
def wD(q:Int×Int):Prop:=a_ q.1∧a_ q.2
theorem RY{q:Int×Int}(h:wD q):keyOf Tryz.prog 261 (jX q)=some (iC q):=by
 obtain⟨m,hm⟩:∃m,Tryz.prog.types.size=m+1:=⟨Tryz.prog.types.size - 1,by kernel_rfl⟩;have hkt:Tryz.prog.keyType 261=true:=by kernel_rfl
 have hc:Tryz.prog.cellsOf 261=2:=by kernel_rfl
 have h32:Tryz.prog.cellsOf 34=1:=by kernel_rfl
 have wa:(Lit.int .u32 q.1).wf=true:=h.1.wf;have wb:(Lit.int .u32 q.2).wf=true:=h.2.wf;unfold keyOf jX iC;simp only[Tryz.underlying261];rw[aI (by simp[hkt,Value.formed,Tryz.underlying261,hc]),hm];unfold Program.keyLits;simp only[Tryz.underlying261,Value.cells];rw[aI (by rw[hc];exact⟨rfl,by simp⟩)];simp[List.mapM_cons,List.mapM_nil,Program.keyLits,h32,Tryz.underlying34,wa,wb]
theorem G8{l:Lit}(h:keyOf Tryz.prog 261 v=some l):∃q,v=jX q∧wD q∧l=iC q:=by
 obtain⟨xs,L,rfl,hL,hl⟩:=keyOf_top KZ h;obtain⟨m,hm⟩:∃m,Tryz.prog.types.size=m+1:=⟨Tryz.prog.types.size - 1,by kernel_rfl⟩;have hc:Tryz.prog.cellsOf 261=2:=by kernel_rfl
 have h32:Tryz.prog.cellsOf 34=1:=by kernel_rfl
 unfold Program.keyLits at hL;simp only[Tryz.underlying261]at hL;split at hL
 ·rename_i hs;obtain⟨zs⟩:=xs
  match zs,hs with
  | [c0,c1],_=>
   simp[List.mapM_cons,List.mapM_nil,h32]at hL;obtain⟨l0,h0,hL⟩:=Option.bind_eq_some_iff.1 hL;simp only[Function.comp_apply,Option.map_eq_some_iff,Option.bind_eq_some_iff,Option.some.injEq]at hL;obtain⟨_,⟨_,⟨l1,h1,rfl⟩,rfl⟩,rfl⟩:=hL;have w0:=keyLits_wf h0;have w1:=keyLits_wf h1;obtain⟨n0,e0,rfl⟩:=keyLits_int' Tryz.underlying34 h0;obtain⟨n1,e1,rfl⟩:=keyLits_int' Tryz.underlying34 h1;simp only[List.cons.injEq,and_true]at e0 e1;subst e0 e1;have b0:=w0 _ (fM.2 rfl);have b1:=w1 _ (fM.2 rfl);have d0:=bounds_u32 b0;have d1:=bounds_u32 b1;exact⟨(n0,n1),rfl,⟨⟨d0.1,by dsimp only;omega⟩,⟨d1.1,by dsimp only;omega⟩⟩,hl⟩
 ·cases hL
theorem u_(ha:wD a)(hb:wD b)(h:iC a=iC b):a=b:=by
 have h1:=RY ha;rw[h]at h1;have:=qC.inj h1 (RY hb);unfold jX at this;simp only[Value.agg.injEq,Array.mk.injEq,List.cons.injEq,Value.int.injEq,true_and,and_true]at this;exact Prod.ext this.1 this.2
theorem QL(q:Int×Int):WideAt.IsKeyLit (iC q):=by trivial
def qB(g:Int×Int->Option (Int×Int))(k:Int×Int)(v:Option (Int×Int)):Int×Int->Option (Int×Int):=λx=>if x=k then v else g x
def lu(W:World)(M:Nat)(g:Int×Int->Option (Int×Int))(s:Nat):Prop:=
 ∃D:DataW Unit,W.ownsMap Tryz.prog 261 Er M s D∧Maps.size D=s∧
  ∀k,wD k->Maps.has D (iC k)=(g k).isSome∧D.atKey (iC k) (Iw (0,0))=Iw ((g k).getD (0,0))
theorem lu.block{W':World}{g:Int×Int->Option (Int×Int)}(h:lu W M g s)(he:W'.heap[M]?=W.heap[M]?):lu W' M g s:=by
 obtain⟨D,⟨es,clock,hb,Ft,hs,hD⟩,h2,h3⟩:=h;exact⟨D,⟨es,clock,he.trans hb,Ft,hs,hD⟩,h2,h3⟩
theorem lu.lt{g:Int×Int->Option (Int×Int)}(h:lu W M g s):M<W.heap.size:=by
 obtain⟨D,h1,_⟩:=h;exact h1.lt
theorem lu.obj{g:Int×Int->Option (Int×Int)}(h:lu W M g s):∃es cl,W.heap[M]?=some (.map es cl):=by
 obtain⟨D,⟨es,cl,hm,_⟩,_⟩:=h;exact⟨es,cl,hm⟩
theorem lu.made(w:World):lu (w.alloc (.map #[] 0)) w.heap.size (λ_=>none) 0:=
 ⟨.map [],World.ownsMap_made w _ _ _,rfl,λ_ _=>⟨rfl,rfl⟩⟩
theorem lu.put{g:Int×Int->Option (Int×Int)}(h:lu W M g s)(hs:s<maxLen){k:Int×Int}(hk:wD k)(m:Int×Int):
  ∃W',(Instr.mapUpdate 111 (.map (some M)) (jX k) (xG m)).run Tryz.prog W=.ok () W'∧lu W' M (qB g k (some m)) (if (g k).isSome then s else s+1)∧W.grownBy W' (some M):=by
 obtain⟨D,h1,h2,h3⟩:=h;obtain⟨W',hr,ho,ht⟩:=h1.store qC Tryz.underlying111 hs (RY hk) (Ep m);have hm:=h1.isMap;have htd:=h1.tidy qC;have hkl:=QL k;have hsz:Maps.size (D.put (iC k) (Iw m))=if (g k).isSome then s else s+1:=by
  rw[size_put htd,(h3 k hk).1,h2]
 refine⟨W',hr,⟨_,?_,hsz,λx hx=> ?_⟩,ht.grown⟩
 ·have:=fU ho;rw[hsz]at this;exact this
 ·by_cases e:x=k
  ·subst e;refine⟨by rw[has_put_same hm hkl];simp[qB],?_⟩;rw[atKey_put_same hm hkl];simp[qB]
  ·have hne:iC x≠iC k:=λh=>e (u_ hx hk h);refine⟨by rw[has_put_other hne];simp[qB,e,(h3 x hx).1],?_⟩;rw[atKey_put_other hne,(h3 x hx).2];simp[qB,e]
theorem lu.look{g:Int×Int->Option (Int×Int)}(h:lu W M g s){k:Int×Int}(hk:wD k):
  (Instr.lookup 111 (.map (some M)) (jX k) false).run Tryz.prog W=.ok (xG ((g k).getD (0,0))) W:=by
 obtain⟨D,h1,h2,h3⟩:=h;obtain⟨v,ps,hr,hv⟩:=h1.lookup qC Tryz.underlying111 (Vv W) (Ep (0,0)) (RY hk);have h4:=(h3 k hk).2;rw[h4]at hv;obtain⟨m,rfl,he⟩:=GU hv;have:=Iu (Prod.ext_iff.1 he).1;rw[hr,<-this]
theorem lu.del{g:Int×Int->Option (Int×Int)}(h:lu W M g s){k:Int×Int}(hk:wD k)(ty:TypeId)(hf:(g k).isSome=true):
  ∃W',(Builtin.delete_ #[111,261] ty #[.map (some M),jX k]).run Tryz.prog W=.ok (.tuple #[]) W'∧lu W' M (qB g k none) (s - 1)∧W.grownBy W' (some M):=by
 obtain⟨D,h1,h2,h3⟩:=h;obtain⟨W',hr,ho,ht⟩:=h1.drop qC Tryz.underlying111 (RY hk) ty;have htd:=h1.tidy qC;have hsz:Maps.size (D.del (iC k))=s - 1:=by
  have:=size_del (k:=iC k) htd;rw[(h3 k hk).1,hf,h2]at this;simp at this;omega
 refine⟨W',hr,⟨_,?_,hsz,λx hx=> ?_⟩,ht.grown⟩
 ·have:=fU ho;rw[hsz]at this;exact this
 ·by_cases e:x=k
  ·subst e;refine⟨by rw[has_del_same];simp[qB],?_⟩;rw[atKey_del_same];simp[qB]
  ·have hne:iC x≠iC k:=λh=>e (u_ hx hk h);refine⟨by rw[has_del_other hne];simp[qB,e,(h3 x hx).1],?_⟩;rw[atKey_del_other hne,(h3 x hx).2];simp[qB,e]
theorem lu.len{g:Int×Int->Option (Int×Int)}(h:lu W M g s)(ty:TypeId):
  (Builtin.len_ #[111] ty #[.map (some M)]).run Tryz.prog W=.ok (.int .i64 s) W:=by
 obtain⟨D,h1,h2,h3⟩:=h;rw[h1.len Tryz.underlying111 ty,h2]
variable{f:Int->Option Int}{ff:Int->Option Nat}{gg:Int->Value}{A:List Rt}{M N sz:Nat}{x:mX}{W W':World}
structure Fu(N:Nat)(x:mX)(M:Nat)(ff:Int->Option Nat)(gg:Int->Value)(A:List Rt)(f:Int->Option Int)(sz:Nat)(W:World):Prop where
 nd:iI N x W
 mo:MapU W x.Mo f sz
 tb:MT x.self x.T M ff gg A W
 ne:M≠x.Mo
theorem Fu.later(h:Fu N x M ff gg A f sz W)(hb:Below W.heap.size W W'):Fu N x M ff gg A f sz W':=
 ⟨h.nd.later hb,h.mo.block (hb.block _ h.mo.lt),h.tb.kept λk hk=>hb.block k (h.tb.lt hk),h.ne⟩
theorem Yc(L:List (Bool×Int×Int)):∀u∈RC L,u.oneCell'=true:=KD L
theorem Fu.kept(h:Fu N x M ff gg A f sz W){S:Nat->Prop}(hf:Fx S W W')(hS:∀k,S k->k<W.heap.size->∃o,W.heap[k]?=some o∧yM o∧(∀c,o≠ .cells c 131 (0,0))∧∀es cl,o≠ .map es cl):Fu N x M ff gg A f sz W':=by
 have hM:∀k,S k->k<W.heap.size->k≠M∧k≠x.Mo∧k≠N:=by
  intro k hk hlt;obtain⟨o,h1,_,h3,h4⟩:=hS k hk hlt;refine⟨?_,?_,?_⟩
  ·rintro rfl;obtain⟨D,⟨es,cl,hm,_⟩,_⟩:=h.tb.map;rw[hm]at h1;exact h4 _ _ (Option.some.inj h1).symm
  ·rintro rfl;obtain⟨es,cl,hm⟩:=h.mo.obj;rw[hm]at h1;exact h4 _ _ (Option.some.inj h1).symm
  ·rintro rfl;rw[show W.heap[k]?=_ from h.nd]at h1;exact h3 _ (Option.some.inj h1).symm
 refine⟨h.nd.block (hf.block _ h.nd.lt λe=>(hM _ e h.nd.lt).2.2 rfl),h.mo.block (hf.block _ h.mo.lt λe=>(hM _ e h.mo.lt).2.1 rfl),h.tb.JS hf λk hk hlt=> ?_,h.ne⟩;obtain⟨o,h1,h2,_⟩:=hS k hk hlt;exact⟨(hM k hk hlt).1,o,h1,h2⟩
theorem wG(N B base:Nat)(x:mX)(a:qh)(M:Nat)(ff:Int->Option Nat)(gg:Int->Value)(A:List Rt)(f:Int->Option Int)(sz:Nat)(bg:List (Bool×Int×Int))(aF aO:List (Int×ByteArray))(aP:List Int)(w:World)
  (hn:Fu N x M ff gg A f sz w) (ha:jP B base a bg aF aO aP w) (hbs:base<=w.heap.size) (hcnt:0<=x.cnt∧x.cnt<=1000000) (hsz:sz<=1000000) (hnw:bg.length<=90000):
  Calls Tryz.prog 71 #[.pointer (some ⟨N,0,none⟩),.pointer (some ⟨B,0,none⟩)] w λe w'=>∃v7 sz',e=.returned (.tuple #[])∧Fu N {x with own:=Jc x.seq x.own,cnt:=x.cnt+(bK x.seq x.own f A).2.length} M ff gg A (bK x.seq x.own f A).1 sz' w'∧sz'<=sz+8∧jP B base {a with nV:=v7} (bg++(bK x.seq x.own f A).2) aF aO aP w'∧Fx (λk=>k=N∨k=x.Mo∨jL B a k) w w':=by
 obtain⟨i0,hi,hz0,hz1,hz2⟩:=info_parts qR;have hlen:=hn.tb.len;have hok:=hn.tb.ok;have hPl:=oF x.seq x.own f A
 let P5:Value->List (Rt×Value)->World->Prop:=λl L W=>L.map (·.1)=A∧Jh w.heap.size l L W∧Below w.heap.size w W
 have HL:Hid (∀W',Below w.heap.size w W'->Calls Tryz.prog 60 #[.pointer (some ⟨x.T,0,none⟩)] W' λe w5=>∃ao n c L,e=.returned (.slice ao n c)∧P5 (.slice ao n c) L w5):=by
  intro W' hb;refine(UL (hn.later hb).tb).mono ?_;rintro e w5 ⟨v,L,rfl,h1,h2,h3⟩;obtain⟨ao,c,rfl,_⟩:=ax h2.row;exact⟨ao,_,c,L,rfl,h1,⟨ownsRow_base_a h2.row hb.size,λp hp=>ownsRow_base_a (h2.bL p hp) hb.size⟩,hb.trans (h3.mono hb.size)⟩
 let P6:Value->World->Prop:=λv W=>W.ownsRow w.heap.size 82 3 v (bK x.seq x.own f A).2.length (RC (bK x.seq x.own f A).2)∧(∃sz',Fu N {x with own:=Jc x.seq x.own,cnt:=x.cnt+(bK x.seq x.own f A).2.length} M ff gg A (bK x.seq x.own f A).1 sz' W∧sz'<=sz+8)∧jP B base a bg aF aO aP W∧Fx (λk=>k=N∨k=x.Mo) w W
 have HN:Hid (∀l L W',P5 l L W'->Calls Tryz.prog 104 #[.pointer (some ⟨N,10,none⟩),.int .u32 x.seq,l] W' λe w6=>∃ao n c,e=.returned (.slice ao n c)∧P6 (.slice ao n c) w6):=by
  rintro l L W' ⟨h1,h2,hb⟩;have hn':=hn.later hb;have ha':=ha.later hb;refine(Ro N x x.seq f sz l L A h1 hok hlen hcnt hsz W' hn'.nd hn'.mo ⟨ownsRow_base_a h2.row (dm _),λp hp=>ownsRow_base_a (h2.bL p hp) (dm _)⟩).mono ?_;rintro e w6 ⟨v,sz',rfl,k1,k2,k3,k4,k5⟩;obtain⟨ao,c,rfl,_⟩:=ax k1;refine⟨ao,_,c,rfl,ownsRow_base_a k1 hb.size,⟨sz',⟨k2,k3,hn'.tb.JS k5 ?_,hn.ne⟩,k4⟩,ha'.kept λk hk=>k5.block k (ha'.lt hk) ?_,(Fx.below hb).trans (S':=λk=>k=N∨k=x.Mo) k5 (λi _ h=>h)⟩
  ·rintro k (rfl|rfl) _
   ·refine⟨λe=> ?_,_,hn'.nd,rT x⟩;obtain⟨D,⟨es,cl,hm,_⟩,_⟩:=hn'.tb.map;rw[<-e,show W'.heap[k]?=_ from hn'.nd]at hm;cases hm
   ·obtain⟨es,cl,hm⟩:=hn'.mo.obj;exact⟨Ne.symm hn.ne,_,hm,vG es cl⟩
  ·rintro(rfl|rfl)
   ·exact ha'.not hn'.nd (LU x) hk
   ·obtain⟨es,cl,hm⟩:=hn'.mo.obj;exact ha'.not hm (vH es cl) hk
 have H5:Hid (∀l L W,P5 l L W->W.cell? ⟨B,1,none⟩=some a.nV∧W.cell? ⟨N,3,none⟩=some (.int .u32 x.seq)∧W.cell? ⟨N,7,none⟩=some (.pointer (some ⟨x.T,0,none⟩))):=by
  rintro l L W ⟨_,_,hb⟩;exact⟨(ha.later hb).blk.cell.2.1,(hn.later hb).nd.cell.2.2.1,(hn.later hb).nd.cell.2.2.2.2.1⟩
 have H6:Hid (∀v W,P6 v W->W.cell? ⟨B,1,none⟩=some a.nV∧W.ownsRow base 82 3 a.nV bg.length (RC bg)∧W.ownsRow w.heap.size 82 3 v (bK x.seq x.own f A).2.length (RC (bK x.seq x.own f A).2)∧base<=W.heap.size):=by
  rintro v W ⟨h1,_,h3,h4⟩;exact⟨h3.blk.cell.2.1,h3.nV,h1,dN hbs h4.size⟩
 have HF:Hid (∀v W v7 W7,P6 v W->W7.ownsRow base 82 3 v7 (bg.length+(bK x.seq x.own f A).2.length) (RC bg++RC (bK x.seq x.own f A).2)->W.grownBy W7 a.nV.ownBlock->(W7.cell? ⟨B,1,none⟩=some a.nV∧W7.frozen? ⟨B,1,none⟩=false)∧∃sz',Fu N {x with own:=Jc x.seq x.own,cnt:=x.cnt+(bK x.seq x.own f A).2.length} M ff gg A (bK x.seq x.own f A).1 sz' (W7.setCell ⟨B,1,none⟩ v7)∧sz'<=sz+8∧jP B base {a with nV:=v7} (bg++(bK x.seq x.own f A).2) aF aO aP (W7.setCell ⟨B,1,none⟩ v7)∧Fx (λk=>k=N∨k=x.Mo∨jL B a k) w (W7.setCell ⟨B,1,none⟩ v7)):=by
  rintro v W v7 W7 ⟨h1,⟨sz',h2,h2'⟩,h3,h4⟩ ig hg;have hBr:a.nV.ownBlock≠some B:=aL h3.nV h3.blk (λc e=>(by cases e));have jq:oU B a W7:=h3.blk.block (hg.block _ h3.blk.lt (λe=>hBr e.symm));have hg2:W7.grownBy (W7.setCell ⟨B,1,none⟩ v7) (some B):=ah (aC _ (some B)) 1 v7;have hfx:Fx (jL B a) W (W7.setCell ⟨B,1,none⟩ v7):=aW (Fx.grown hg λk e=> .inr (.inl e)) hg2 λi _ e=>by cases e;exact .inl rfl
  have f1:=h3.aH.kept hg (bX h3.aH h3.nV (by decide));have f2:=h3.bO.kept hg (bX h3.bO h3.nV (by decide));have f3:=h3.bP.kept hg (bX h3.bP h3.nV (by decide));refine⟨⟨jq.cell.2.1,jq.free 1⟩,sz',h2.kept hfx (λk hk _=>h3.yM hk),h2',⟨jq.Qu v7,?_,?_,?_,?_⟩,(h4.mono (λi h=> ?_)).trans hfx (λi _ h=> .inr (.inr h))⟩
  ·rw[bU,lq];exact ig.kept hg2 (.inr (aL ig jq (λc e=>(by cases e))))
  ·exact f1.kept hg2 (.inr (aL f1 jq (λc e=>(by cases e))))
  ·exact f2.kept hg2 (.inr (aL f2 jq (λc e=>(by cases e))))
  ·exact f3.kept hg2 (.inr (aL f3 jq (λc e=>(by cases e))))
  ·rcases h with h|h
   ·exact .inl h
   ·exact .inr (.inl h)
 clear_value P5 P6
 obtain⟨c0,c1,c2,c3,c4,c5,c6⟩:=ha.blk.cell;obtain⟨n0,n2,n3,n4,n5,n6,n7,n8,n9,n10⟩:=hn.nd.cell;clear hn ha;go_enter Tryz.func71,Tryz.ntmps71;go_wp2_with fail;go_region_law (first
  |(go_simp;go_at_call 60;refine(HL.out _ (by first|exact aV _ _|exact(aV _ _).drew|exact below_drewN (aV _ _) _)).mono ?_;rintro e w5 ⟨ao5,n5,cc5,L5,rfl,xw⟩;obtain⟨d1,d2,d3⟩:=H5.out _ _ _ xw)
  |(go_simp;go_at_call 104;refine(HN.out _ _ _ xw).mono ?_;rintro e w6 ⟨ao6,n6,cc6,rfl,Jf⟩;obtain⟨e1,e2,e3,e4⟩:=H6.out _ _ Jf)
  |(refine kS rfl (.tmp 8) (.tmp 21) 79 rfl base 82 i0 (.agg #[.bool false,.int .u32 0,.int .u32 0]) 3 12 Tryz.underlying79 hi hz0 hz1 hz2 rfl (by decide) a.nV bg.length (RC bg) (by simp[Act.eval]) e2 w.heap.size (.slice ao6 n6 cc6) _ (RC (bK x.seq x.own f A).2) (by simp[Act.eval]) e3 (Yc _) (by unfold maxLen;omega) (by omega) e4 ?_;intro v7 w7 ig gQ;obtain⟨⟨g1,g2⟩,hfin⟩:=HF.out _ _ _ _ Jf ig gQ;obtain⟨Qc,Ua,rfl,_⟩:=ax ig))
 all_goals
  obtain⟨sz',k1,k2,k3,k4⟩:=hfin;generalize World.setCell _ _ _=w8 at k1 k3 k4 ⊢;clear d1 d2 d3 e1 e2 e3 e4 g1 g2 gQ ig;go_wp2;go_returns;exact⟨_,_,rfl,k1,k2,k3,k4⟩
end Go.Proofs.YtakaadcpaeiccabGreat
