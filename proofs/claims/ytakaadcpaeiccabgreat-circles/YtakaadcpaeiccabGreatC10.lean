import Derived.Test.YtakaadcpaeiccabGreatC08
import Derived.Test.YtakaadcpaeiccabGreatC09
set_option maxHeartbeats 4000000
set_option maxRecDepth 100000
namespace Go.Proofs.YtakaadcpaeiccabGreat
open Go.RowKit Go.Maps
def qU(n:Int)(y:Rt):Rt:=if y.valid=true∧y.bB.length<4∧n ∉ y.bB then {y with bB:=mq n y.bB}else y
def kX(A:List Rt)(d n:Int):List Rt:=gI A d(qU n)
theorem kG(n:Int)(y:Rt):(qU n y).dest=y.dest:=by
 unfold qU;split<;>rfl
theorem wW(a:Int)(l:List Int)(h:a ∉ l):(mq a l).length=l.length+1:=by
 induction l with
 |nil=>rfl
 |cons x l ih=>
  unfold mq;rw [if_neg(fun e=>h(by simp [e]))];split
  ·rfl
  ·simp [ih(fun e=>h(by simp [e]))]
theorem AA(T:Nat)(d n:Int)(w:World)(hv:Calls Tryz.prog 116 #[.pointer(some⟨T,0,none⟩),.int .u32 d]w fun e w'=>e=.returned(.pointer none)∧w'=w):
  Calls Tryz.prog 182 #[.pointer(some⟨T,0,none⟩),.int .u32 d,.int .u32 n]w fun e w'=>e=.returned(.tuple #[])∧w'=w:=by
 have HV:=(show Hid _ from hv);clear hv;go_enter Tryz.func182,Tryz.ntmps182
 go_wp2_with fail
 refine Calls.mono HV.out ?_;rintro e w1⟨rfl,rfl⟩;clear HV;go_wp2
 go_returns
 exact⟨rfl,rfl⟩
theorem H8(T:Nat)(d n:Int)(B:Nat)(x:Rt)(v:Value)(hx:x.bB.Pairwise(·<·))(hx4:x.bB.length≤4)(w:World)(hv:Calls Tryz.prog 116 #[.pointer(some⟨T,0,none⟩),.int .u32 d]w fun e w'=>e=.returned(.pointer(some⟨B,0,none⟩))∧w'=w)(h:dP B x v w)(hr:w.ownsRow 0 34 1 v x.bB.length(x.bB.map aU)):
  Calls Tryz.prog 182 #[.pointer(some⟨T,0,none⟩),.int .u32 d,.int .u32 n]w fun e w'=>e=.returned(.tuple #[])∧
   ((¬(x.bB.length<4∧n ∉ x.bB)∧w'=w)∨((x.bB.length<4∧n ∉ x.bB)∧∃v',dP B {x with bB:=mq n x.bB}v' w'∧w'.ownsRow 0 34 1 v'(mq n x.bB).length((mq n x.bB).map aU)∧
    (v'.ownBlock=v.ownBlock∨∀k,v'.ownBlock=some k→w.heap.size≤k)∧w.heap.size≤w'.heap.size∧w'.os=w.os∧w'.tape=w.tape∧w'.output=w.output∧∀k,k<w.heap.size→k≠B→v.ownBlock≠some k→w'.heap[k]?=w.heap[k]?)):=by
 have hrB:v.ownBlock≠some B:=aA hr h(fun c e=>by cases e);obtain⟨ao,c,rfl,_⟩:=ak hr;obtain⟨c0,c1,c2,c3,c4,c5,c6⟩:=h.cell;have HV:=(show Hid _ from hv);clear hv;by_cases h4:x.bB.length<4
 ·have hd4:decide(4≤(x.bB.length:Int))=false:=decide_eq_false(by omega);have aeR:decide(4≤x.bB.length)=false:=decide_eq_false(by omega);go_enter Tryz.func182,Tryz.ntmps182
  go_wp2_with fail
  refine Calls.mono HV.out ?_;rintro e w1⟨rfl,rfl⟩;clear HV;go_wp2_with fail
  refine(JX _ x.bB.length x.bB n _ hr hx(by omega)).mono ?_;rintro e w2⟨i,hi,hlo,hhi,rfl,rfl⟩;have hiff:(x.bB[i]?==some n)=decide(n∈x.bB):=by
   by_cases hm:n∈x.bB
   ·obtain⟨k,hk⟩:=List.getElem?_of_mem hm;have hkl:=(List.getElem?_eq_some_iff.1 hk).1;have:k=i:=by
     rcases Nat.lt_trichotomy k i with h|h|h
     ·have:=hlo k n h hk;omega
     ·exact h
     ·obtain⟨y,hy⟩:∃y,x.bB[i]?=some y:=⟨_,List.getElem?_eq_getElem(by omega)⟩;have h1:=hhi i y(Nat.le_refl _)hy;obtain⟨hk',rfl⟩:=List.getElem?_eq_some_iff.1 hk;obtain⟨hi',rfl⟩:=List.getElem?_eq_some_iff.1 hy;have:=List.pairwise_iff_getElem.1 hx i k hi' hk' h;omega
    subst this;rw [hk];simp [hm]
   ·rw [decide_eq_false hm];cases hy:x.bB[i]? with
    |none=>rfl
    |some y=>
     have:y≠n:=fun e=>hm(by rw [←e];exact List.mem_of_getElem? hy);simpa using this
  rw [hiff];by_cases hm:n∈x.bB
  ·have Cc:decide(n∈x.bB)=true:=decide_eq_true hm;rw [Cc];go_wp2
   go_returns
   exact⟨rfl,.inl⟨fun h=>h.2 hm,rfl⟩⟩
  ·have Cc:decide(n∈x.bB)=false:=decide_eq_false hm;rw [Cc];have hb1:Below w2.heap.size w2(w2.alloc(.cells #[.int .u32 n]34)):=(Below.refl _ _).alloc(Nat.le_refl _)_;have hN:=heap_alloc_new w2(.cells #[.int .u32 n]34);have hr1:=aM hr hb1;have hL1:=h.later hb1;have hlt:=hr.lt;have hins:=WM hlo(fun j y hj hy=>by have:=hhi j y hj hy;omega)hi hm;have hlen:=wW n x.bB hm;have hP:=(show Hid _ from hins);have hP2:=(show Hid _ from hlen);clear hins hlen hlo hhi hiff Cc c0 c1 c2 c3 c4 c5;go_wp2_with fail
   clear c6;generalize World.alloc _ _=W1 at hb1 hN hr1 hL1 ⊢;refine(J8 _ x.bB.length i x.bB n w2.heap.size _ hr1 hi hN(fun e=>by have:=(hlt _ e).2;omega)(by omega)).mono ?_;rintro e W2⟨v',rfl,ho2,hg2,hvb⟩;obtain⟨rE,c2',rfl,_⟩:=ak ho2;have hL2:=hL1.block(hg2.block B hL1.lt(fun e=>hrB e.symm));have hL3:=hL2.Zy(.slice rE(x.bB.length+1)c2')(mq n x.bB);have hg3:W2.grownBy(W2.setCell⟨B,6,none⟩(.slice rE(x.bB.length+1)c2'))(some B):=aa(aC _ _)6 _;have hB2:=aA ho2 hL2(fun c e=>by cases e);have ho3:=ho2.kept hg3(.inr hB2);have f6:=hL2.free 6;obtain⟨_,_,_,_,_,_,c6⟩:=hL2.cell;have hsz:=Nat.le_trans hb1.size hg2.size;have hfr:Hid(∀k,k<w2.heap.size→k≠B→(Value.slice ao x.bB.length c).ownBlock≠some k→(W2.setCell⟨B,6,none⟩(.slice rE(x.bB.length+1)c2')).heap[k]?=w2.heap[k]?):=fun k hk hkB hkv=>
    (hg3.block k(Nat.lt_of_lt_of_le hk hsz)(fun e=>hkB(by cases e;rfl))).trans((hg2.block k(Nat.lt_of_lt_of_le hk hb1.size)(fun e=>hkv e.symm)).trans(hb1.block k hk))
   have hos:(W2.setCell⟨B,6,none⟩(.slice rE(x.bB.length+1)c2')).os=w2.os:=hg3.os.trans(hg2.os.trans hb1.os);have htp:(W2.setCell⟨B,6,none⟩(.slice rE(x.bB.length+1)c2')).tape=w2.tape:=hg3.tape.trans(hg2.tape.trans hb1.tape);have hou:(W2.setCell⟨B,6,none⟩(.slice rE(x.bB.length+1)c2')).output=w2.output:=hg3.output.trans(hg2.output.trans hb1.output);have A8:w2.heap.size≤(W2.setCell⟨B,6,none⟩(.slice rE(x.bB.length+1)c2')).heap.size:=Nat.le_trans hsz hg3.size;have aed:(Value.slice rE(x.bB.length+1)c2').ownBlock=(Value.slice ao x.bB.length c).ownBlock∨∀k,(Value.slice rE(x.bB.length+1)c2').ownBlock=some k→w2.heap.size≤k:=by
    rcases hvb with e|e
    ·exact .inl e
    ·exact .inr(fun k hk=>Nat.le_trans hb1.size(e k hk))
   rw [hP.out]at ho3;clear hL1 hr1 hN hb1 ho2 hg2 hL2 hg3 hB2 hvb hsz;go_wp2
   generalize World.setCell _ _ _=W3 at hL3 ho3 hfr hos htp hou A8 ⊢;go_returns
   exact⟨rfl,.inr⟨⟨h4,hm⟩,_,hL3,by rw [hP2.out];exact ho3,aed,A8,hos,htp,hou,hfr.out⟩⟩
 ·have hd4:decide(4≤(x.bB.length:Int))=true:=decide_eq_true(by omega);have aeR:decide(4≤x.bB.length)=true:=decide_eq_true(by omega);go_enter Tryz.func182,Tryz.ntmps182
  go_wp2_with fail
  refine Calls.mono HV.out ?_;rintro e w1⟨rfl,rfl⟩;clear HV;go_wp2
  go_returns
  exact⟨rfl,.inl⟨fun h=>h4 h.1,rfl⟩⟩
theorem Kh(me:Int)(T:Nat)(S:Nat→Prop)(A:List Rt)(d n:Int)(hd:bg d)(hn:bg n)(w:World)(h:Ag me T S A w):
  Calls Tryz.prog 182 #[.pointer(some⟨T,0,none⟩),.int .u32 d,.int .u32 n]w fun e w'=>e=.returned(.tuple #[])∧Ag me T(ext S w.heap.size w'.heap.size)(kX A d n)w'∧Fx S w w':=by
 obtain⟨M,f,g,hM,hS⟩:=h;have hold:Ag me T(ext S w.heap.size w.heap.size)A w∧Fx S w w:=⟨⟨M,f,g,hM,fun k hk=> .inl(hS k hk)⟩,Fx.refl _ _⟩;have hv:=qW hM hd;unfold sH at hv;cases hl:aJ A d with
 |none=>
  rw [hl]at hv;refine(AA T d n w hv).mono ?_;rintro e w'⟨rfl,rfl⟩;have h2:kX A d n=A:=by unfold kX;rw [nV hl]
  rw [h2];exact⟨rfl,hold⟩
 |some x=>
  rw [hl]at hv;obtain⟨hx,hxd,B,hB,hL,hR⟩:=hM.line hl;rw [hB]at hv;have hok:=hM.ok x hx;have hsame:¬(x.valid=true∧x.bB.length<4∧n ∉ x.bB)→kX A d n=A:=fun hc=>o7 hM.wC fun y hy=>by
   rw [hl]at hy;cases hy;unfold qU;rw [if_neg hc]
  cases hxv:x.valid with
  |false=>
   simp only [hxv]at hv;refine(AA T d n w hv).mono ?_;rintro e w'⟨rfl,rfl⟩;rw [hsame(fun h=>by rw [hxv]at h;cases h.1)];exact⟨rfl,hold⟩
  |true=>
   simp only [hxv,if_true,Option.map_some]at hv;refine(H8 T d n B x(g d)hok.wC hok.O_ w hv hL hR).mono ?_;rintro e w'⟨rfl,⟨hc,rfl⟩|⟨hc,v',hL',ho',hvb,hsz,hos,htp,hou,hfr⟩⟩
   ·rw [hsame(fun h=>hc h.2)];exact⟨rfl,hold⟩
   ·have hF:qU n x={x with bB:=mq n x.bB}:=if_pos⟨hxv,hc⟩;have ht:=hM.turn(W':=w')hl hB(qU n)(kG n)(by
     rw [hF];refine⟨hok.dest,hok.seq,hok.hops,hok.next,hok.exp,?_,?_,Lu n x.bB hok.wC⟩
     ·have:=wW n x.bB hc.2;dsimp only;omega
     ·intro b hb;rcases(zn n x.bB b).1 hb with rfl|hb
      ·exact hn
      ·exact hok.bB b hb)v'(by rw [hF];exact hL')(by rw [hF];exact ho')(by rcases hvb with e|e;exact .inr(.inl e);exact .inr(.inr e))(fun k hk hkB hkv=>hfr k(hM.lt hk)hkB hkv)
    refine⟨rfl,⟨M,f,_,ht.1,fun k hk=> ?_⟩,⟨hos,htp,hou,hsz,fun k hk hkS=>hfr k hk(fun e=>hkS(by rw [e];exact hS _(hM.inB hl hB)))(fun e=>hkS(hS k(.inr(.inr⟨x,hx,.inr(by rw [hxd];exact e)⟩))))⟩⟩;rcases ht.2 k hk with h1|h1
    ·exact .inl(hS k h1)
    ·rcases hvb with e|e
     ·exact .inl(hS k(.inr(.inr⟨x,hx,.inr(by rw [hxd,←e];exact h1)⟩)))
     ·exact .inr⟨e k h1,(ho'.lt k h1).2⟩
open Go.Sort
theorem Bp(a j:Nat)(d:Array Int)(hj:a<j)(hl:ltInt d[j]! d[j - 1]! =true):insInner ltInt a j d=insInner ltInt a(j - 1)(swp d j(j - 1)):=by
 match j,hj with
 |k+1,hj=>
  rw [insInner];simp only [Nat.add_sub_cancel]at hl ⊢;rw [if_pos];simp [hj,hl]
theorem mJ(a j:Nat)(d:Array Int)(h:j≤a∨ltInt d[j]! d[j - 1]! =false):insInner ltInt a j d=d:=by
 match j with
 |0=>rw [insInner]
 |k+1=>
  rw [insInner];simp only [Nat.add_sub_cancel]at h;rw [if_neg];rcases h with h|h
  ·simp;omega
  ·simp [h]
theorem qY(a b i:Nat)(d:Array Int)(h:i<b):insOuter ltInt a b i d=insOuter ltInt a b(i+1)(insInner ltInt a i d):=by rw [insOuter,if_pos h]
theorem wM(a b i:Nat)(d:Array Int)(h:¬i<b):insOuter ltInt a b i d=d:=by rw [insOuter,if_neg h]
theorem nC(base g cap n a b:Nat)(d:Array Int)(w:World)(h:SR base g cap n d w)(hab:a≤b)(hb:b≤n)(hn:n≤1000000):
  Calls Tryz.prog 183 #[.slice(some⟨g,0,none⟩)n cap,.int .i64 a,.int .i64 b]w fun e w'=>e=.returned(.tuple #[])∧SR base g cap n(insertionSort ltInt d a b)w'∧w.grownBy w'(some g):=by
 go_enter Tryz.func183,Tryz.ntmps183
 go_wp2_with fail
 go_loopw [6](fun vi wr=>∃(i:Nat)(dk:Array Int),vi=.int .i64 i∧a<i∧i≤b+1∧SR base g cap n dk wr∧w.grownBy wr(some g)∧insOuter ltInt a b i dk=insertionSort ltInt d a b)(fun vi _=>b+1 - (intOf vi).toNat)
 case atStart=>exact⟨a+1,d,by go_num,by omega,by omega,h,mV _ _,rfl⟩
 case round=>
  clear h;obtain⟨i,dk,rfl,hai,hib,h,hg,hO⟩:=hrel;have HO:=(show Hid _ from hO);clear hO;by_cases hlt:i<b
  ·have hix:(i:Int)<(b:Int):=by omega
   go_wp2_with fail
   go_loopw [7](fun vj wr2=>∃(j:Nat)(dj:Array Int),vj=.int .i64 j∧a≤j∧j≤i∧SR base g cap n dj wr2∧w.grownBy wr2(some g)∧insInner ltInt a j dj=insInner ltInt a i dk)(fun vj _=>(intOf vj).toNat)
   case atStart=>exact⟨i,dk,rfl,by omega,Nat.le_refl _,h,hg,rfl⟩
   case round=>
    clear h hg;obtain⟨j,dj,rfl,haj,hji,h,hg,hI⟩:=hrel;have hjn:(j:Int)<(n:Int):=by omega
    have aeM:(j:Int) - 1<(n:Int):=by omega
    by_cases hja:a<j
    ·have hjp:(1:Int)≤(j:Int):=by omega
     have c0:=h.cell(j:=j)(by omega);have c1:=h.cell(j:=j - 1)(by omega);have f0:=h.free j;have f1:=h.free(j - 1);have hq:(j:Int) - 1=((j - 1:Nat):Int):=by omega
     have hs:=h.swap j(j - 1);have hgs:=fun u v=>pz wr g j(j - 1)u v;have hgo:=Bp a j dj hja;have hst:=mJ a j dj;generalize hX:dj[j]! =X at c0 hs hgo hst;generalize hY:dj[j - 1]! =Y at c1 hs hgo hst;have hJn:((j - 1:Nat):Int)<(n:Int):=by omega
     have hj0:(0:Int)≤(j:Int) - 1:=by omega
     generalize hJ:j - 1=J at c1 f1 hq hs hgs hgo hst hJn;have HJ:=(show Hid _ from hJ);have HI:=(show Hid _ from hI);have HS:=(show Hid _ from hst);clear hJ hI hst;have hdj:decide(a<j)=true:=decide_eq_true hja;go_wp2_with fail
     go_quiet(first|(go_at_call 189;refine Calls.quiet_of_same(vw _ _ _)))
     cases hl:ltInt X Y
     ·go_wp2
      go_roundw
      case rel=>exact⟨i+1,dj,by go_num,by omega,by omega,h.drewN _,hg.trans(nY _ _ _),by rw [←HO.out,qY _ _ _ _ hlt,←HI.out,HS.out(.inr hl)]⟩
      case measure=>simp [intOf];omega
     ·have hs':=(h.drewN(nq+1)).swap j J;have hg':=hg.trans((nY wr(nq+1)(some g)).trans(pz _ g j J(.int .u32 dj[J]!)(.int .u32 dj[j]!)));rw [hX,←HJ.out,hY,HJ.out]at hs' hg';have hJj:J+1=j:=by have:=HJ.out;omega
      clear hX hY;go_wp2_with fail
      go_region
      all_goals go_wp2
      go_roundw
      case rel=>exact⟨J,swp dj j J,rfl,by omega,by omega,hs',hg',by rw [←HI.out,hgo hl]⟩
      case measure=>simp [intOf];omega
    ·have hdj:decide(a<j)=false:=decide_eq_false hja;have hst:=mJ a j dj(.inl(by omega));go_wp2_with fail
     go_quiet(fail)
     go_wp2
     go_roundw
     case rel=>exact⟨i+1,dj,by go_num,by omega,by omega,h.drewN _,hg.trans(nY _ _ _),by rw [←HO.out,qY _ _ _ _ hlt,←hI,hst]⟩
     case measure=>simp [intOf];omega
  ·have hend:insOuter ltInt a b i dk=dk:=wM a b i dk hlt;rw [HO.out]at hend;rw [←hend]at h;go_wp2
   go_returns
   exact⟨rfl,h,hg⟩
def tab:ByteArray:=⟨#[0,1,2,2,3,3,3,3,4,4,4,4,4,4,4,4,5,5,5,5,5,5,5,5,5,5,5,5,5,5,5,5,6,6,6,6,6,6,6,6,6,6,6,6,6,6,6,6,6,6,6,6,6,6,6,6,6,6,6,6,6,6,6,6,7,7,7,7,7,7,7,7,7,7,7,7,7,7,7,7,7,7,7,7,7,7,7,7,7,7,7,7,7,7,7,7,7,7,7,7,7,7,7,7,7,7,7,7,7,7,7,7,7,7,7,7,7,7,7,7,7,7,7,7,7,7,7,7,8,8,8,8,8,8,8,8,8,8,8,8,8,8,8,8,8,8,8,8,8,8,8,8,8,8,8,8,8,8,8,8,8,8,8,8,8,8,8,8,8,8,8,8,8,8,8,8,8,8,8,8,8,8,8,8,8,8,8,8,8,8,8,8,8,8,8,8,8,8,8,8,8,8,8,8,8,8,8,8,8,8,8,8,8,8,8,8,8,8,8,8,8,8,8,8,8,8,8,8,8,8,8,8,8,8,8,8,8,8,8,8,8,8,8,8,8,8,8,8,8,8,8,8,8,8,8,8]⟩
theorem Iw:∀k,(h:k<tab.size)→tab[k].toNat≤8∧(0<k→2 ^ tab[k].toNat≤2 * k):=of_decide_eq_true(by kernel_rfl)
theorem w64 {x:Int}(h:0≤x)(h':x<1000):wrap64 x=x:=by
 unfold wrap64;omega
theorem N8(x:Nat)(hx:x≤1000000)(w:World):
  Calls Tryz.prog 193 #[.int .u64 x]w fun e w'=>∃r:Nat,e=.returned(.int .i64 r)∧r≤32∧(0<x→2 ^ r≤2 * x)∧w'=w:=by
 have h0:decide((4294967296:Int)≤(x:Int))=false:=decide_eq_false(by omega);by_cases h1:65536≤x
 ·have h1':decide((65536:Int)≤(x:Int))=true:=decide_eq_true(by omega);go_enter Tryz.func193,Tryz.ntmps193
  go_wp2
  generalize hT:UInt8.toNat _=t;have hP:t≤8∧(0<x / 65536→2 ^ t≤2 * (x / 65536)):=by
   rw [←hT];exact Iw _ _
  clear hT;rw [w64(x:=(t:Int))(by omega)(by omega),w64(x:=16+(t:Int))(by omega)(by omega)];go_ret
  refine⟨16+t,by go_num,by omega,fun _=> ?_,rfl⟩;rw [Nat.pow_add];have:=hP.2(by omega);omega
 ·have h1':decide((65536:Int)≤(x:Int))=false:=decide_eq_false(by omega);by_cases h2:256≤x
  ·have h2':decide((256:Int)≤(x:Int))=true:=decide_eq_true(by omega);go_enter Tryz.func193,Tryz.ntmps193
   go_wp2
   generalize hT:UInt8.toNat _=t;have hP:t≤8∧(0<x / 256→2 ^ t≤2 * (x / 256)):=by
    rw [←hT];exact Iw _ _
   clear hT;rw [w64(x:=(t:Int))(by omega)(by omega),w64(x:=8+(t:Int))(by omega)(by omega)];go_ret
   refine⟨8+t,by go_num,by omega,fun _=> ?_,rfl⟩;rw [Nat.pow_add];have:=hP.2(by omega);omega
  ·have h2':decide((256:Int)≤(x:Int))=false:=decide_eq_false(by omega);go_enter Tryz.func193,Tryz.ntmps193
   go_wp2
   generalize hT:UInt8.toNat _=t;have hP:t≤8∧(0<x→2 ^ t≤2 * x):=by
    rw [←hT];exact Iw _ _
   clear hT;rw [w64(x:=(t:Int))(by omega)(by omega),w64(x:=(t:Int))(by omega)(by omega)];go_ret
   exact⟨t,rfl,by omega,hP.2,rfl⟩
theorem Dw(x:Nat)(hx:x≤1000000)(w:World):
  Calls Tryz.prog 173 #[.int .u64 x]w fun e w'=>∃r:Nat,e=.returned(.int .i64 r)∧r≤32∧(0<x→2 ^ r≤2 * x)∧w'=w:=by
 go_enter Tryz.func173,Tryz.ntmps173
 go_wp2_with fail
 refine(N8 x hx w).mono ?_;rintro e w'⟨r,rfl,h1,h2,rfl⟩;go_wp2
 go_ret
 exact⟨r,rfl,h1,h2,rfl⟩
def PQ(base g cap n a b:Nat)(d:Array Int)(w:World)(e:Ending)(w':World):Prop:=
 e=.returned(.tuple #[])∧∃d',SR base g cap n d' w'∧PermIn a b d d'∧SortedIn ltInt a b d'∧w.grownBy w'(some g)
theorem Da(base g cap n r:Nat)(d:Array Int)(w:World)(h:SR base g cap n d w)(hn:n≤12):
  Calls Tryz.prog 172 #[.slice(some⟨g,0,none⟩)n cap,.int .i64 0,.int .i64 n,.int .i64 r]w(PQ base g cap n 0 n d w):=by
 have aeS:decide((n:Int)≤12)=true:=decide_eq_true(by omega);have acQ:decide(n≤12)=true:=decide_eq_true hn;obtain⟨i1,i2⟩:=insertionSort_holds swo_ltInt d 0 n(Nat.zero_le _)(by rw [h.size];exact Nat.le_refl _);go_enter Tryz.func172,Tryz.ntmps172
 go_wp2_with fail
 go_loopw [1,2](fun va vb wr=>va=.int .i64 0∧vb=.int .i64 n∧SR base g cap n d wr∧w.grownBy wr(some g))(fun _ _ _=>0)
 case atStart=>exact⟨rfl,rfl,h,mV _ _⟩
 case round=>
  obtain⟨rfl,rfl,h1,hg⟩:=hrel;have hcall:=(show Hid _ from nC base g cap n 0 n d _ h1(Nat.zero_le _)(Nat.le_refl _)(by omega));clear h h1;go_wp2_with fail
  refine Calls.mono hcall.out ?_;rintro e W2⟨rfl,h2,hg2⟩;clear hcall;go_wp2
  go_returns
  exact⟨rfl,_,h2,i1,i2,hg.trans hg2⟩
theorem uq(base g cap n:Nat)(d:Array Int)(w:World)(h:SR base g cap n d w)(hn:n≤12):
  Calls Tryz.prog 140 #[.slice(some⟨g,0,none⟩)n cap]w(PQ base g cap n 0 n d w):=by
 go_enter Tryz.func140,Tryz.ntmps140
 go_wp2_with fail
 refine(Dw n(by omega)_).mono ?_;rintro e w1⟨r,rfl,hr,_,rfl⟩;have hp:=Da base g cap n r d _ h hn;have HP:=(show Hid _ from hp);clear hp;go_wp2_with fail
 refine Calls.mono HP.out ?_;rintro e w2⟨rfl,d',h',hp,hs,hg⟩;clear HP;go_wp2
 go_returns
 exact⟨rfl,d',h',hp,hs,hg⟩
theorem A7(w:World):
  Calls Tryz.prog 183 #[.slice none 0 0,.int .i64 0,.int .i64 0]w fun e w'=>e=.returned(.tuple #[])∧w.grownBy w' none:=by
 go_enter Tryz.func183,Tryz.ntmps183
 go_wp2_with fail
 go_loopw [6](fun vi wr=>vi=.int .i64 1∧w.grownBy wr none)(fun _ _=>0)
 case atStart=>exact⟨rfl,mV _ _⟩
 case round=>
  obtain⟨rfl,hg⟩:=hrel;go_wp2
  go_returns
  exact⟨rfl,hg⟩
theorem Wj(r:Nat)(w:World):
  Calls Tryz.prog 172 #[.slice none 0 0,.int .i64 0,.int .i64 0,.int .i64 r]w fun e w'=>e=.returned(.tuple #[])∧w.grownBy w' none:=by
 go_enter Tryz.func172,Tryz.ntmps172
 go_wp2_with fail
 go_loopw [1,2](fun va vb wr=>va=.int .i64 0∧vb=.int .i64 0∧w.grownBy wr none)(fun _ _ _=>0)
 case atStart=>exact⟨rfl,rfl,mV _ _⟩
 case round=>
  obtain⟨rfl,rfl,hg⟩:=hrel;go_wp2_with fail
  refine(A7 _).mono ?_;rintro e w1⟨rfl,h1⟩;go_wp2
  go_returns
  exact⟨rfl,hg.trans h1⟩
theorem Qj(w:World):
  Calls Tryz.prog 140 #[.slice none 0 0]w fun e w'=>e=.returned(.tuple #[])∧w.grownBy w' none:=by
 go_enter Tryz.func140,Tryz.ntmps140
 go_wp2_with fail
 refine(Dw 0(by omega)_).mono ?_;rintro e w1⟨r,rfl,hr,_,rfl⟩;go_wp2_with fail
 refine(Wj r _).mono ?_;rintro e w2⟨rfl,hg⟩;go_wp2
 go_returns
 exact⟨rfl,hg⟩
theorem yZ {d d':Array Int} {n:Nat}(hd:d.size=n)(h:PermIn 0 n d d'):d'.toList.Perm d.toList:=by
 obtain⟨h1,_,h3⟩:=h;have e1:d.extract 0 n=d:=by rw [←hd];simp
 have e2:d'.extract 0 n=d':=by rw [←hd,←h1];simp
 rw [e1,e2]at h3;exact h3
theorem sN {d:Array Int} {n:Nat}(hd:d.size=n)(h:SortedIn ltInt 0 n d):d.toList.Pairwise(·≤·):=by
 rw [List.pairwise_iff_getElem];intro i j hi hj hij;have hi':i<d.size:=by simpa using hi
 have hj':j<d.size:=by simpa using hj
 have:=h i j(Nat.zero_le _)hij(by omega);simp only [ltInt,decide_eq_false_iff_not]at this;rw [getElem!_pos d j hj',getElem!_pos d i hi']at this;simp only [Array.getElem_toList];omega
theorem sM(g:Nat)(lb:Array Value)(eg:∀args w,(callFunc g args).run Tryz.prog w=.ok(.enter g args)w)
  (S:List Int→Prop)(N:Nat)(hN:N≤12)(w:World)(hseq:SeqGives Fence.wide 1 Tryz.prog g lb aU S N w):
  Calls Tryz.prog 102 #[.func(.func g)#[]lb]w fun e w'=>∃(v:Value)(ts ss:List Int),e=.returned v∧S ss∧ts.Perm ss∧ts.Pairwise(·≤·)∧ts.length≤N∧
   w'.ownsRow w.heap.size 34 1 v ts.length(ts.map aU)∧Below w.heap.size w w':=by
 have hc:=callsIn_wide.1(collect_in Fence.wide 3 trivial trivial rfl(Nat.le_refl _)g lb trivial eg _ N(by unfold maxLen;omega)(by omega)w hseq.bounded);have HC:=(show Hid _ from hc);clear hc hseq;go_enter Tryz.func102,Tryz.ntmps102
 go_wp2_with fail
 refine Calls.mono HC.out ?_;rintro e W⟨v,ss,rfl,⟨hS,hlen⟩,hrow,hnil,hb⟩;clear HC;rcases hrow.2 with⟨rfl,hz⟩|⟨gb,cap,cur,rfl,hbase,hgb,r1,r2,r3,r4⟩
 ·have hss:ss=[]:=List.eq_nil_of_length_eq_zero hz;subst hss;go_wp2_with fail
  refine(Qj _).mono ?_;rintro e w2⟨rfl,hg⟩;go_wp2
  go_ret
  refine⟨.slice none 0 0,[],[],rfl,hS,List.Perm.refl _,List.Pairwise.nil,Nat.zero_le _,⟨rfl,.inl⟨rfl,rfl⟩⟩,hb.grown hg hb.size(fun k e=>by cases e)⟩
 ·have hSR:SR w.heap.size gb cap ss.length ss.toArray W:=⟨by simp,by
   have:UC ss.toArray=ss.map aU:=by simp [UC]
   rw [this];exact hrow⟩
  have hs:=uq w.heap.size gb cap ss.length ss.toArray W hSR(by omega);have HS:=(show Hid _ from hs);have HB:=(show Hid _ from hb);clear hs hSR hgb r3 r4 hrow hb;go_wp2_with fail
  refine Calls.mono HS.out ?_;rintro e w2⟨rfl,d',h',hp,hso,hg⟩;clear HS;go_wp2
  go_ret
  have hsz:d'.size=ss.length:=h'.size;have hl:d'.toList.length=ss.length:=by simpa using hsz
  have hpa:=yZ(by simp)hp;refine⟨_,d'.toList,ss,rfl,hS,by simpa using hpa,sN hsz hso,by omega,?_,HB.out.grown hg HB.out.size(fun k e=>by cases e;exact hbase)⟩;rw [hl];exact h'.row
theorem M_ {H:Type}(F:Fence)(n:Nat)(h10:F.fn 170)(hro:F.round=none)(hn:1≤n)(l Bm b nn:Nat)(D0:DataW H) {R:Value→Option(DataW H×List MemPlace)}(J:List Int→World→Prop)
  (hY:∀pre x W,J pre W→pre.length<Maps.size D0→YieldAt F(n - 1)Tryz.prog l #[aU x]W fun e W'=>e=.returned(.bool true)∧J(pre++ [x])W'∧KeepsWalks W W')
  (W:World)(hJ:AbidesFrom W.heap.size J)(hm:W.cell?⟨Bm,0,none⟩=some(.map(some b)))(hown:W.ownsMap Tryz.prog 34 R b nn D0)(h0:J []W):
  CallsIn F n Tryz.prog 170 #[.func(.yield l)#[]#[],.pointer(some⟨Bm,0,none⟩)]W fun e W'=>(∃v,e=.returned v)∧∃ss:List Int,vz D0 ss∧J ss W':=by
 refine callsIn_of_wp Tryz.func170 rfl h10 ?_ hro;simp only [Tryz.ntmps170,List.size_toArray,List.length_cons,List.length_nil,Nat.reduceAdd,Nat.reduceSub,Array.replicate_succ,Array.replicate_zero,List.push_toArray,List.append_toArray,List.nil_append,List.cons_append]
 gi_wp2_with(first
  |(gi_at_range;refine wpListIn_range_own _ rfl _ 156 rfl 34 161 fF Tryz.underlying156 _ b nn _ rfl hown ?_;intro w0 hrg0 hg0 hs0)
  |gi_in)
 go_frame
 gi_loopw [3](fun _ wr=>∃(left:Lit→Bool)(cnt:Nat)(ss:List Int),wr.ranges Tryz.prog 34 R b W.heap.size nn D0 left cnt∧ss.length+cnt≤Maps.size D0∧fI D0 left ss∧J ss wr)
  (fun _ wr=>wr.rangeLeft b W.heap.size)
 case atStart=>
  exact⟨_,_,[],hrg0,by simp,fI.start D0,hJ []W w0 none h0 hg0(fun r e=>by cases e)⟩
 case round=>
  obtain⟨left,cnt,ss,hrg,hcs,hC,hJs⟩:=hrel
  gi_wp2_with(first
   |(gi_at_next;refine wpListIn_next_ranges _ rfl _ rfl 34 fF R aU id(fun key kl hk=>by obtain⟨x,hx,_⟩:=kC Tryz.underlying34 hk;exact⟨x,hx⟩)(fun v _ _=>⟨v,rfl⟩)b W.heap.size nn _ _ _ rfl hrg ?_ ?_)
   |gi_in)
  ·intro hc0 hl0
   gi_wp2
   go_end0
   exact⟨⟨_,rfl⟩,ss,hC.keys hl0,hJs⟩
  ·intro x c kl yd yp w2 cnt2 hkey hlk hv hat hrg2 hlt hg2 hs2 hen;obtain⟨x',ex,rfl,hwf⟩:=kC Tryz.underlying34 hkey;obtain rfl:x=x':=zR ex;have hJ2:J ss w2:=hJ ss wr w2(some W.heap.size)hJs hg2(fun r e=>by cases e;exact⟨Nat.le_refl _,hrg.iter_walk⟩);obtain⟨fn,tmps,assign,body,hy,hR⟩:=hY ss x w2 hJ2(by omega);clear hs2
   gi_wp2
   refine hR.mono ?_;rintro e W3⟨rfl,hJ3,hk3⟩
   gi_wp2
   have hrg3:=hrg2.of_walks hk3;go_roundw
   case rel=>exact⟨_,cnt2,ss++ [x],hrg3,by simp;omega,hC.step hlk hat hwf,hJ3⟩
   case measure=>rw [hrg3.left_eq,hrg.left_eq];exact hlt
theorem E_ {H:Type}(F:Fence)(n:Nat)(h10:F.fn 170)(hro:F.round=none)(hn:1≤n)(Bm b nn:Nat)(D0:DataW H) {R:Value→Option(DataW H×List MemPlace)}(w:World)(hBm:Bm<w.heap.size)
  (hm:w.cell?⟨Bm,0,none⟩=some(.map(some b)))(hown:w.ownsMap Tryz.prog 34 R b nn D0):
  SeqGives F n Tryz.prog 170 #[.pointer(some⟨Bm,0,none⟩)]aU(vz D0)(Maps.size D0)w:=fun l J W hW hJ hY h0=>by
 have hown':W.ownsMap Tryz.prog 34 R b nn D0:=by
  have hbl:=hown.lt;obtain⟨es,clock,hb,Ft,hs,hD⟩:=hown;exact⟨es,clock,(hW.block b hbl).trans hb,Ft,hs,hD⟩
 exact M_ F n h10 hro hn l Bm b nn D0 J hY W hJ((hW.cell(p:=⟨Bm,0,none⟩)hBm).trans hm)hown' h0
def adQ(L:List(Bool×Int×Int))(w:World)(e:Ending)(w':World):Prop:=
 ∃v out,e=.returned v∧iw(lU L)(qb L)out∧out.length≤L.length+1∧w'.ownsRow w.heap.size 82 3 v out.length(RC out)∧Below w.heap.size w w'
theorem oH {L:List(Bool×Int×Int)} {k:Nat} {x:Bool×Int×Int}(h:L[k]?=some x):L.take(k+1)=L.take k++ [x]:=by
 obtain⟨hk,rfl⟩:=List.getElem?_eq_some_iff.1 h;exact List.bJ hk
end Go.Proofs.YtakaadcpaeiccabGreat
