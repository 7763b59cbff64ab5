import Derived.Test.YtakaadcpaeiccabGreatC02
set_option maxHeartbeats 4000000
set_option maxRecDepth 100000
namespace Go.Proofs.YtakaadcpaeiccabGreat
open Go.RowKit Go.Maps
open Hp
def PI(h:List Tm)(f:Int→Option Nat):Prop:=
 (∀i x,h[i]?=some x→f x.2.1=some i)∧∀k i,f k=some i→∃x,h[i]?=some x∧x.2.1=k
theorem PI.sw {h:List Tm} {f:Int→Option Nat}(p:PI h f) {i j:Nat}(hi:i<h.length)(hj:j<h.length):
  PI(sw h i j)(upd(upd f(at' h j).2.1(some i))(at' h i).2.1(some j)):=by
 have pi:=p.1 i _(iT hi);have pj:=p.1 j _(iT hj);have hs:=xA hi hj;constructor
 ·intro k x hx;have hk:k<h.length:=by
   rcases Nat.lt_or_ge k(Hp.sw h i j).length with a|a
   ·rw [dG]at a;exact a
   ·rw [List.getElem?_eq_none a]at hx;cases hx
  have e:=rD hx;rw [hs]at e;by_cases h1:k=j
  ·rw [if_pos h1]at e;rw [←e,h1];simp [upd]
  ·rw [if_neg h1]at e;by_cases h2:k=i
   ·rw [if_pos h2]at e;rw [←e,h2];unfold upd;by_cases h3:(at' h j).2.1=(at' h i).2.1
    ·rw [h3,pi]at pj;cases pj;exact absurd h2 h1
    ·rw [if_neg h3,if_pos rfl]
   ·rw [if_neg h2]at e;have pk:=p.1 k _(iT hk);rw [e]at pk;unfold upd;by_cases h3:x.2.1=(at' h i).2.1
    ·rw [h3,pi]at pk;cases pk;exact absurd rfl h2
    ·rw [if_neg h3];by_cases h4:x.2.1=(at' h j).2.1
     ·rw [h4,pj]at pk;cases pk;exact absurd rfl h1
     ·rw [if_neg h4,pk]
 ·intro k n hn;unfold upd at hn;have hl:(Hp.sw h i j).length=h.length:=dG h i j;by_cases h1:k=(at' h i).2.1
  ·rw [if_pos h1]at hn;cases hn;exact⟨_,iT(by omega),by rw [hs,if_pos rfl,h1]⟩
  ·rw [if_neg h1]at hn;by_cases h2:k=(at' h j).2.1
   ·rw [if_pos h2]at hn;cases hn;refine⟨_,iT(by omega),?_⟩;rw [hs,if_pos rfl];by_cases h3:i=j
    ·subst h3;exact absurd h2 h1
    ·rw [if_neg h3,h2]
   ·rw [if_neg h2]at hn;obtain⟨x,hx,hk⟩:=p.2 k n hn;have hnl:n<h.length:=by
     rcases Nat.lt_or_ge n h.length with a|a
     ·exact a
     ·rw [List.getElem?_eq_none a]at hx;cases hx
    refine⟨x,?_,hk⟩;rw [iT(by omega),hs];have e:=rD hx;rw [if_neg(by rintro rfl;rw [e]at h2;exact h2 hk.symm),if_neg(by rintro rfl;rw [e]at h1;exact h1 hk.symm),e]
theorem PI.add {h:List Tm} {f:Int→Option Nat}(p:PI h f) {x:Tm}(hx:f x.2.1=none):PI(h++ [x])(upd f x.2.1(some h.length)):=by
 constructor
 ·intro i y hy;unfold upd;by_cases hi:i<h.length
  ·rw [List.getElem?_append_left hi]at hy;have:=p.1 i y hy;rw [if_neg(fun e=>by rw [e,hx]at this;cases this),this]
  ·rw [List.getElem?_append_right(by omega)]at hy;have:i - h.length=0:=by
    rcases Nat.eq_zero_or_pos(i - h.length)with a|a
    ·exact a
    ·rw [List.getElem?_eq_none(by simp;omega)]at hy;cases hy
   rw [this]at hy;simp at hy;subst hy;rw [if_pos rfl]
   congr 1
   omega
 ·intro k i hk;unfold upd at hk;by_cases e:k=x.2.1
  ·rw [if_pos e]at hk;cases hk;exact⟨x,by simp,e.symm⟩
  ·rw [if_neg e]at hk;obtain⟨y,hy,he⟩:=p.2 k i hk;have hi:i<h.length:=by
    rcases Nat.lt_or_ge i h.length with a|a
    ·exact a
    ·rw [List.getElem?_eq_none a]at hy;cases hy
   exact⟨y,by rw [List.getElem?_append_left hi];exact hy,he⟩
theorem PI.cut {h:List Tm} {f:Int→Option Nat}(p:PI h f) {n:Nat}(hn:h.length=n+1):PI(h.take n)(upd f(at' h n).2.1 none):=by
 have pn:=p.1 n _(iT(by omega));constructor
 ·intro i x hx;rw [List.getElem?_take]at hx;split at hx
  ·rename_i hi;have pi:=p.1 i x hx;unfold upd;rw [if_neg(fun e=>by rw [e,pn]at pi;cases pi;omega),pi]
  ·cases hx
 ·intro k i hk;unfold upd at hk;split at hk
  ·cases hk
  ·rename_i e;obtain⟨x,hx,he⟩:=p.2 k i hk;refine⟨x,?_,he⟩;rw [List.getElem?_take];split
   ·exact hx
   ·rename_i hi;have hil:i<h.length:=by
     rcases Nat.lt_or_ge i h.length with a|a
     ·exact a
     ·rw [List.getElem?_eq_none a]at hx;cases hx
    obtain rfl:i=n:=by omega
    rw [rD hx]at e;exact absurd he.symm e
def Kq(x:Tm):List Value:=[.int .u64 x.1,.int .i64 x.2.1,.int .i64 x.2.2]
def TC(h:List Tm):List Value:=h.flatMap Kq
theorem oo(h:List Tm):(TC h).length=h.length * 3:=qN Kq 3(fun _=>rfl)h
theorem r_ {h:List Tm} {i:Nat}(hi:i<h.length):(TC h)[i * 3]?=some(.int .u64(at' h i).1)∧(TC h)[i * 3+1]?=some(.int .i64(at' h i).2.1)∧(TC h)[i * 3+2]?=some(.int .i64(at' h i).2.2):=
 ⟨jT Kq 3(by decide)(fun _=>rfl)h i 0(by decide)(iT hi),jT Kq 3(by decide)(fun _=>rfl)h i 1(by decide)(iT hi),jT Kq 3(by decide)(fun _=>rfl)h i 2(by decide)(iT hi)⟩
theorem Pg(a b:List Tm):TC(a++b)=TC a++TC b:=by simp [TC]
def TOk(x:Tm):Prop:=(0≤x.1∧x.1<18446744073709551616)∧oC x.2.1∧oC x.2.2
def vo(T M:Nat)(last:Int)(v:Value)(W:World):Prop:=W.heap[T]?=some(.cells #[v,.map(some M),.int .i64 last]165)
theorem vo.cell {T M:Nat} {last:Int} {v:Value} {W:World}(h:vo T M last v W):
  W.cell?⟨T,0,none⟩=some v∧W.cell?⟨T,1,none⟩=some(.map(some M))∧W.cell?⟨T,2,none⟩=some(.int .i64 last):=
 ⟨cell_of_row W T 0 _ _ _ h,cell_of_row W T 1 _ _ _ h,cell_of_row W T 2 _ _ _ h⟩
theorem vo.free {T M:Nat} {last:Int} {v:Value} {W:World}(h:vo T M last v W)(i:Nat):W.frozen?⟨T,i,none⟩=false:=by
 unfold vo at h;simp [World.frozen?,h]
theorem vo.lt {T M:Nat} {last:Int} {v:Value} {W:World}(h:vo T M last v W):T<W.heap.size:=(Array.getElem?_eq_some_iff.1 h).1
structure TR(base T M:Nat)(last:Int)(h:List Tm)(v:Value)(W:World):Prop where
 blk:vo T M last v W
 row:W.ownsRow base 254 3 v h.length(TC h)
 map:∃f,j4 W M f h.length∧PI h f
 ok:∀x∈h,TOk x
 bT:base≤T
 bM:base≤M
theorem TR.shape {base T M:Nat} {last:Int} {h:List Tm} {v:Value} {W:World}(r:TR base T M last h v W)(h0:0<h.length):∃g cap,v=.slice(some⟨g,0,none⟩)h.length cap∧base≤g:=by
 refine bS r.row h0
theorem TR.apart {base T M:Nat} {last:Int} {h:List Tm} {v:Value} {W:World}(r:TR base T M last h v W):T≠M∧some T≠v.ownBlock∧some M≠v.ownBlock:=by
 have hb:=r.blk;obtain⟨f,⟨D,⟨es,clock,hm,_⟩,_⟩,_⟩:=r.map;refine⟨?_,?_,?_⟩
 ·rintro rfl;unfold vo at hb;rw [hb]at hm;cases hm
 ·intro e;rcases r.row.2 with⟨rfl,_⟩|⟨g,cap,cur,rfl,_,hg,_⟩
  ·simp [Value.ownBlock]at e
  ·simp [Value.ownBlock]at e;subst e;unfold vo at hb;rw [hb]at hg;simp at hg
 ·intro e;rcases r.row.2 with⟨rfl,_⟩|⟨g,cap,cur,rfl,_,hg,_⟩
  ·simp [Value.ownBlock]at e
  ·simp [Value.ownBlock]at e;subst e;rw [hm]at hg;cases hg
structure Fr(T M:Nat)(v:Value)(W W':World):Prop where
 os:W'.os=W.os
 tape:W'.tape=W.tape
 output:W'.output=W.output
 size:W.heap.size≤W'.heap.size
 block:∀k,k<W.heap.size→k≠T→k≠M→some k≠v.ownBlock→W'.heap[k]?=W.heap[k]?
theorem Fr.refl(T M:Nat)(v:Value)(W:World):Fr T M v W W:=⟨rfl,rfl,rfl,Nat.le_refl _,fun _ _ _ _ _=>rfl⟩
theorem Fr.trans {T M:Nat} {v v':Value} {W W1 W2:World}(a:Fr T M v W W1)(b:Fr T M v' W1 W2)(hv:v'.ownBlock=v.ownBlock∨∀k,v'.ownBlock=some k→W.heap.size≤k):Fr T M v W W2:=by
 refine⟨b.os.trans a.os,b.tape.trans a.tape,b.output.trans a.output,Nat.le_trans a.size b.size,fun k hk h1 h2 h3=> ?_⟩;rw [b.block k(Nat.lt_of_lt_of_le hk a.size)h1 h2 ?_]
 ·exact a.block k hk h1 h2 h3
 ·rcases hv with hv|hv
  ·rw [hv];exact h3
  ·intro e;have:=hv k e.symm;omega
theorem Fr.grown {T M:Nat} {v:Value} {W W':World} {r:Option Nat}(h:W.grownBy W' r)(hr:r=none∨r=some T∨r=some M∨r=v.ownBlock):Fr T M v W W':=by
 refine⟨h.os,h.tape,h.output,h.size,fun k hk h1 h2 h3=>h.block k hk ?_⟩;rcases hr with rfl|rfl|rfl|rfl
 ·simp
 ·simpa using h1
 ·simpa using h2
 ·exact h3
open Hp
theorem Ah:∀(h:List Tm)(i:Nat)(x:Tm),(((TC h).set(i * 3)(.int .u64 x.1)).set(i * 3+1)(.int .i64 x.2.1)).set(i * 3+2)(.int .i64 x.2.2)=TC(h.set i x)
 | [],i,x=>by simp [TC]
 |a::h,0,x=>by simp [TC,Kq]
 |a::h,i+1,x=>by
  have ih:=Ah h i x;simp only [TC,List.flatMap_cons,List.set_cons_succ]at ih ⊢;rw [←ih];simp only [Kq,List.cons_append,List.nil_append,show(i+1)* 3=i * 3+1+1+1 by omega,List.set_cons_succ]
theorem vo.kept {T M:Nat} {last:Int} {v:Value} {W W':World} {r:Option Nat}(h:vo T M last v W)(hg:W.grownBy W' r)(hne:some T≠r):vo T M last v W':=(hg.block T h.lt hne).trans h
theorem dW {A B:World} {g:Nat}(h:A.grownBy B(some g))(j:Nat)(v:Value):A.grownBy(B.setCell⟨g,j,none⟩v)(some g):=
 ⟨h.os,h.tape,h.output,by simpa using h.size,fun i hi hne=>(Below.heap_setCell B⟨g,j,none⟩v i(fun e=>hne(by rw [e]))).trans(h.block i hi hne)⟩
theorem zL {A B:World} {r:Option Nat}(h:A.grownBy B r):A.grownBy B.drew r:=⟨h.os,h.tape,h.output,h.size,h.block⟩
theorem lW(A:World)(r:Option Nat):A.grownBy A r:=⟨rfl,rfl,rfl,Nat.le_refl _,fun _ _ _=>rfl⟩
theorem KT {base T M:Nat} {last:Int} {h:List Tm} {v:Value} {W:World}(r:TR base T M last h v W) {i:Nat}(hi:i<h.length):oC(at' h i).2.1:=
 (r.ok _(List.mem_of_getElem?(iT hi))).2.1
theorem Vz(base T M:Nat)(last:Int)(h:List Tm)(v:Value)(w:World)(r:TR base T M last h v w)(i j:Nat)(hi:i<h.length)(hj:j<h.length)(hij:i≠j)(hn:h.length≤1000000):
  Calls Tryz.prog 174 #[.pointer(some⟨T,0,none⟩),.int .i64 i,.int .i64 j]w fun e w'=>e=.returned(.tuple #[])∧TR base T M last(sw h i j)v w'∧Fr T M v w w':=by
 obtain⟨g,cap,rfl,hg⟩:=r.shape(by omega);obtain⟨c0,c1,c2⟩:=r.blk.cell;have ai:=r_ hi;have aj:=r_ hj;have hl:=oo h;have i0:=(r.row.cellAt(i * 3)(by omega)).trans ai.1;have i1:=(r.row.cellAt(i * 3+1)(by omega)).trans ai.2.1;have i2:=(r.row.cellAt(i * 3+2)(by omega)).trans ai.2.2;have j0:=(r.row.cellAt(j * 3)(by omega)).trans aj.1;have j1:=(r.row.cellAt(j * 3+1)(by omega)).trans aj.2.1;have j2:=(r.row.cellAt(j * 3+2)(by omega)).trans aj.2.2;have f0:=r.row.frozenAt(i * 3);have f1:=r.row.frozenAt(i * 3+1);have f2:=r.row.frozenAt(i * 3+2);have f3:=r.row.frozenAt(j * 3);have f4:=r.row.frozenAt(j * 3+1);have f5:=r.row.frozenAt(j * 3+2);have hin:(i:Int)<(h.length:Int):=by omega
 have hjn:(j:Int)<(h.length:Int):=by omega
 have n00:¬i * 3=j * 3:=by omega
 have n01:¬i * 3=j * 3+1:=by omega
 have n02:¬i * 3=j * 3+2:=by omega
 have n10:¬i * 3+1=j * 3:=by omega
 have n11:¬i * 3+1=j * 3+1:=by omega
 have n12:¬i * 3+1=j * 3+2:=by omega
 have n20:¬i * 3+2=j * 3:=by omega
 have n21:¬i * 3+2=j * 3+1:=by omega
 have n22:¬i * 3+2=j * 3+2:=by omega
 have hTg:¬T=g:=fun e=>r.apart.2.1(by rw [e];rfl);generalize hx:at' h i=x at i0 i1 i2;generalize hy:at' h j=y at j0 j1 j2;have hx':=(show Hid _ from hx);have hy':=(show Hid _ from hy);clear hx hy ai aj hl;obtain⟨f,hm,hp⟩:=r.map;have hap:=r.apart;have hidx:=KT r hi;have aau:=KT r hj;rw [hx'.out]at hidx;rw [hy'.out]at aau;have SA:oC(i:Int):=by unfold oC;omega
 have aeL:oC(j:Int):=by unfold oC;omega
 have hpi:=hp.1 i _(iT hi);have hpj:=hp.1 j _(iT hj);have Gm:=hp.sw hi hj;rw [hx'.out]at hpi Gm;rw [hy'.out]at hpj Gm;have hrow:(((((((w.setCell⟨g,i * 3,none⟩(.int .u64 y.1)).setCell⟨g,i * 3+1,none⟩(.int .i64 y.2.1)).setCell⟨g,i * 3+2,none⟩(.int .i64 y.2.2)).setCell⟨g,j * 3,none⟩(.int .u64 x.1)).setCell⟨g,j * 3+1,none⟩(.int .i64 x.2.1)).setCell⟨g,j * 3+2,none⟩(.int .i64 x.2.2)).drew).ownsRow base 254 3(.slice(some⟨g,0,none⟩)h.length cap)h.length(TC(Hp.sw h i j)):=by
  have e:=((((((r.row.stored(i * 3)(.int .u64 y.1)).1.stored(i * 3+1)(.int .i64 y.2.1)).1.stored(i * 3+2)(.int .i64 y.2.2)).1.stored(j * 3)(.int .u64 x.1)).1.stored(j * 3+1)(.int .i64 x.2.1)).1.stored(j * 3+2)(.int .i64 x.2.2)).1;rw [Ah,Ah]at e;have es:(h.set i y).set j x=Hp.sw h i j:=by
   unfold Hp.sw;rw [hx'.out,hy'.out]
  rw [es]at e;exact e.drew
 have hgr:w.grownBy(((((((w.setCell⟨g,i * 3,none⟩(.int .u64 y.1)).setCell⟨g,i * 3+1,none⟩(.int .i64 y.2.1)).setCell⟨g,i * 3+2,none⟩(.int .i64 y.2.2)).setCell⟨g,j * 3,none⟩(.int .u64 x.1)).setCell⟨g,j * 3+1,none⟩(.int .i64 x.2.1)).setCell⟨g,j * 3+2,none⟩(.int .i64 x.2.2)).drew)(some g):=by
  have e:=dW(dW(dW(dW(dW(dW(lW w(some g))(i * 3)(.int .u64 y.1))(i * 3+1)(.int .i64 y.2.1))(i * 3+2)(.int .i64 y.2.2))(j * 3)(.int .u64 x.1))(j * 3+1)(.int .i64 x.2.1))(j * 3+2)(.int .i64 x.2.2);exact zL e
 have hTn:some T≠(some g:Option Nat):=hap.2.1;have U1:some M≠(some g:Option Nat):=hap.2.2;have hB1:=r.blk.kept hgr hTn;have hm1:=hm.kept hgr U1;have hat:=xA hi hj;rw [hx'.out,hy'.out]at hat;have hli:i<(Hp.sw h i j).length:=by rw [dG];exact hi
 have hlj:j<(Hp.sw h i j).length:=by rw [dG];exact hj
 have ti:=r_ hli;have tj:=r_ hlj;rw [hat,if_neg hij,if_pos rfl]at ti;rw [hat,if_pos rfl]at tj;have hbT:=r.bT;have hbM:=r.bM;have hok:∀z∈Hp.sw h i j,TOk z:=fun z hz=>r.ok z((ui hi hj).mem_iff.1 hz);have hmt:T≠M:=hap.1;generalize hH:h.length=n at hin hjn c0 hn hrow hB1 hm1;have Xl:=(show Hid _ from hH);clear hH r hm hp hap hx' hy' hat;obtain⟨x0,x1,x2⟩:=x;obtain⟨y0,y1,y2⟩:=y;dsimp only at i0 i1 i2 j0 j1 j2 hrow hgr hB1 hm1 hidx aau hpi hpj Gm ti tj;go_enter Tryz.func174,Tryz.ntmps174
 go_wp2_with fail
 go_region
 clear i0 i1 i2 j0 j1 j2 c0 c1 c2 f0 f1 f2 f3 f4 f5 n00 n01 n02 n10 n11 n12 n20 n21 n22;generalize World.drew _=W1 at hrow hgr hB1 hm1 ⊢;have hl3:n * 3=h.length * 3:=by rw [Xl.out]
 have d1:=(hrow.cellAt(i * 3+1)(by omega)).trans ti.2.1;obtain⟨b0,b1,b2⟩:=hB1.cell;obtain⟨W2,hr2,hm2,hg2⟩:=(show j4 W1.drew M f n from hm1).put(by unfold maxLen;omega)aau SA;go_wp2_with fail
 go_region
 have tH:W1.grownBy W2(some M):=⟨hg2.os,hg2.tape,hg2.output,hg2.size,hg2.block⟩;rw [hpj]at hm2;simp only [Option.gN,if_true]at hm2;have hB2:=hB1.kept tH(by simpa using hmt);have hrow2:=hrow.kept tH(by simpa [Value.ownBlock]using U1.symm);have hF2:=(Fr.grown(T:=T)(M:=M)(v:=.slice(some⟨g,0,none⟩)n cap)hgr(.inr(.inr(.inr rfl)))).trans(Fr.grown(T:=T)(M:=M)(v:=.slice(some⟨g,0,none⟩)n cap)tH(.inr(.inr(.inl rfl))))(.inl rfl);clear hrow hB1 hm1 hr2 hgr hg2 tH b0 b1 b2 d1 ti;have d1:=(hrow2.cellAt(j * 3+1)(by omega)).trans tj.2.1;obtain⟨b0,b1,b2⟩:=hB2.cell;obtain⟨W3,hr3,nW,hg3⟩:=(show j4 W2.drew M _ n from hm2).put(by unfold maxLen;omega)hidx aeL;go_wp2_with fail
 go_region
 have hg3':W2.grownBy W3(some M):=⟨hg3.os,hg3.tape,hg3.output,hg3.size,hg3.block⟩;have hsome:(upd f y1(some i)x1).isSome=true:=by
  unfold upd;split
  ·rfl
  ·rw [hpi];rfl
 rw [hsome]at nW;simp only [if_true]at nW;have hB3:=hB2.kept hg3'(by simpa using hmt);have hrow3:=hrow2.kept hg3'(by simpa [Value.ownBlock]using U1.symm);have xm:=hF2.trans(Fr.grown(T:=T)(M:=M)(v:=.slice(some⟨g,0,none⟩)n cap)hg3'(.inr(.inr(.inl rfl))))(.inl rfl);clear hrow2 hB2 hm2 hr3 hF2 hg3 hg3' b0 b1 b2 d1 tj;go_wp2
 go_returns
 have hls:(Hp.sw h i j).length=n:=by rw [dG];exact Xl.out
 rw [←hls]at hrow3 nW hB3 xm ⊢;exact⟨rfl,⟨hB3,hrow3,⟨_,nW,Gm⟩,hok,hbT,hbM⟩,xm⟩
theorem VA(base T M:Nat)(last:Int)(h:List Tm)(v:Value)(w:World)(r:TR base T M last h v w)(i:Nat)(hi:i<h.length)(hn:h.length≤1000000):
  Calls Tryz.prog 174 #[.pointer(some⟨T,0,none⟩),.int .i64 i,.int .i64 i]w fun e w'=>e=.returned(.tuple #[])∧TR base T M last(sw h i i)v w'∧Fr T M v w w':=by
 obtain⟨g,cap,rfl,hg⟩:=r.shape(by omega);obtain⟨c0,c1,c2⟩:=r.blk.cell;have ai:=r_ hi;have hl:=oo h;have i0:=(r.row.cellAt(i * 3)(by omega)).trans ai.1;have i1:=(r.row.cellAt(i * 3+1)(by omega)).trans ai.2.1;have i2:=(r.row.cellAt(i * 3+2)(by omega)).trans ai.2.2;have f0:=r.row.frozenAt(i * 3);have f1:=r.row.frozenAt(i * 3+1);have f2:=r.row.frozenAt(i * 3+2);have hin:(i:Int)<(h.length:Int):=by omega
 have hTg:¬T=g:=fun e=>r.apart.2.1(by rw [e];rfl);generalize hx:at' h i=x at i0 i1 i2;have hx':=(show Hid _ from hx);clear hx ai hl;obtain⟨f,hm,hp⟩:=r.map;have hap:=r.apart;have hidx:=KT r hi;rw [hx'.out]at hidx;have SA:oC(i:Int):=by unfold oC;omega
 have hpi:=hp.1 i _(iT hi);have Gm:=hp.sw hi hi;rw [hx'.out]at hpi Gm;have hrow:(((((((w.setCell⟨g,i * 3,none⟩(.int .u64 x.1)).setCell⟨g,i * 3+1,none⟩(.int .i64 x.2.1)).setCell⟨g,i * 3+2,none⟩(.int .i64 x.2.2)).setCell⟨g,i * 3,none⟩(.int .u64 x.1)).setCell⟨g,i * 3+1,none⟩(.int .i64 x.2.1)).setCell⟨g,i * 3+2,none⟩(.int .i64 x.2.2)).drew).ownsRow base 254 3(.slice(some⟨g,0,none⟩)h.length cap)h.length(TC(Hp.sw h i i)):=by
  have e:=((((((r.row.stored(i * 3)(.int .u64 x.1)).1.stored(i * 3+1)(.int .i64 x.2.1)).1.stored(i * 3+2)(.int .i64 x.2.2)).1.stored(i * 3)(.int .u64 x.1)).1.stored(i * 3+1)(.int .i64 x.2.1)).1.stored(i * 3+2)(.int .i64 x.2.2)).1;rw [Ah,Ah]at e;have es:(h.set i x).set i x=Hp.sw h i i:=by
   unfold Hp.sw;rw [hx'.out]
  rw [es]at e;exact e.drew
 have hgr:w.grownBy(((((((w.setCell⟨g,i * 3,none⟩(.int .u64 x.1)).setCell⟨g,i * 3+1,none⟩(.int .i64 x.2.1)).setCell⟨g,i * 3+2,none⟩(.int .i64 x.2.2)).setCell⟨g,i * 3,none⟩(.int .u64 x.1)).setCell⟨g,i * 3+1,none⟩(.int .i64 x.2.1)).setCell⟨g,i * 3+2,none⟩(.int .i64 x.2.2)).drew)(some g):=by
  have e:=dW(dW(dW(dW(dW(dW(lW w(some g))(i * 3)(.int .u64 x.1))(i * 3+1)(.int .i64 x.2.1))(i * 3+2)(.int .i64 x.2.2))(i * 3)(.int .u64 x.1))(i * 3+1)(.int .i64 x.2.1))(i * 3+2)(.int .i64 x.2.2);exact zL e
 have hTn:some T≠(some g:Option Nat):=hap.2.1;have U1:some M≠(some g:Option Nat):=hap.2.2;have hB1:=r.blk.kept hgr hTn;have hm1:=hm.kept hgr U1;have hat:=xA hi hi;rw [hx'.out]at hat;have hli:i<(Hp.sw h i i).length:=by rw [dG];exact hi
 have ti:=r_ hli;rw [hat,if_pos rfl]at ti;have hbT:=r.bT;have hbM:=r.bM;have hok:∀z∈Hp.sw h i i,TOk z:=fun z hz=>r.ok z((ui hi hi).mem_iff.1 hz);have hmt:T≠M:=hap.1;generalize hH:h.length=n at hin c0 hn hrow hB1 hm1;have Xl:=(show Hid _ from hH);clear hH r hm hp hap hx' hat;obtain⟨x0,x1,x2⟩:=x;dsimp only at i0 i1 i2 hrow hgr hB1 hm1 hidx hpi Gm ti;go_enter Tryz.func174,Tryz.ntmps174
 go_wp2_with fail
 go_region
 clear i0 i1 i2 c0 c1 c2 f0 f1 f2;generalize World.drew _=W1 at hrow hgr hB1 hm1 ⊢;have hl3:n * 3=h.length * 3:=by rw [Xl.out]
 have d1:=(hrow.cellAt(i * 3+1)(by omega)).trans ti.2.1;obtain⟨b0,b1,b2⟩:=hB1.cell;obtain⟨W2,hr2,hm2,hg2⟩:=(show j4 W1.drew M f n from hm1).put(by unfold maxLen;omega)hidx SA;go_wp2_with fail
 go_region
 have tH:W1.grownBy W2(some M):=⟨hg2.os,hg2.tape,hg2.output,hg2.size,hg2.block⟩;rw [hpi]at hm2;simp only [Option.gN,if_true]at hm2;have hB2:=hB1.kept tH(by simpa using hmt);have hrow2:=hrow.kept tH(by simpa [Value.ownBlock]using U1.symm);have hF2:=(Fr.grown(T:=T)(M:=M)(v:=.slice(some⟨g,0,none⟩)n cap)hgr(.inr(.inr(.inr rfl)))).trans(Fr.grown(T:=T)(M:=M)(v:=.slice(some⟨g,0,none⟩)n cap)tH(.inr(.inr(.inl rfl))))(.inl rfl);clear hrow hB1 hm1 hr2 hgr hg2 tH b0 b1 b2 d1;have d1:=(hrow2.cellAt(i * 3+1)(by omega)).trans ti.2.1;obtain⟨b0,b1,b2⟩:=hB2.cell;obtain⟨W3,hr3,nW,hg3⟩:=(show j4 W2.drew M _ n from hm2).put(by unfold maxLen;omega)hidx SA;go_wp2_with fail
 go_region
 have hg3':W2.grownBy W3(some M):=⟨hg3.os,hg3.tape,hg3.output,hg3.size,hg3.block⟩;have hsome:(upd f x1(some i)x1).isSome=true:=by
  simp [upd]
 rw [hsome]at nW;simp only [if_true]at nW;have hB3:=hB2.kept hg3'(by simpa using hmt);have hrow3:=hrow2.kept hg3'(by simpa [Value.ownBlock]using U1.symm);have xm:=hF2.trans(Fr.grown(T:=T)(M:=M)(v:=.slice(some⟨g,0,none⟩)n cap)hg3'(.inr(.inr(.inl rfl))))(.inl rfl);clear hrow2 hB2 hm2 hr3 hF2 hg3 hg3' b0 b1 b2 d1 ti;go_wp2
 go_returns
 have hls:(Hp.sw h i i).length=n:=by rw [dG];exact Xl.out
 rw [←hls]at hrow3 nW hB3 xm ⊢;exact⟨rfl,⟨hB3,hrow3,⟨_,nW,Gm⟩,hok,hbT,hbM⟩,xm⟩
theorem yC(base T M:Nat)(last:Int)(h:List Tm)(v:Value)(w:World)(r:TR base T M last h v w)(i j:Nat)(hi:i<h.length)(hj:j<h.length)(hn:h.length≤1000000):
  Calls Tryz.prog 174 #[.pointer(some⟨T,0,none⟩),.int .i64 i,.int .i64 j]w fun e w'=>e=.returned(.tuple #[])∧TR base T M last(sw h i j)v w'∧Fr T M v w w':=by
 by_cases hij:i=j
 ·subst hij;exact VA base T M last h v w r i hi hn
 ·exact Vz base T M last h v w r i j hi hj hij hn
open Hp
@[reducible] def tmV (x : Tm) : Value := .agg #[.int .u64 x.1, .int .i64 x.2.1, .int .i64 x.2.2]
@[reducible] def lZ (x : Tm) : Obj := .cells #[.int .u64 x.1, .int .i64 x.2.1, .int .i64 x.2.2] 254
theorem Cq(x y:Tm)(w:World):
  Calls Tryz.prog 194 #[tmV x,tmV y]w fun e w'=>e=.returned(.bool(G7 x y))∧Below w.heap.size w w':=by
 obtain⟨x0,x1,x2⟩:=x;obtain⟨y0,y1,y2⟩:=y;have hB:Below w.heap.size w((w.alloc(lZ(x0,x1,x2))).alloc(lZ(y0,y1,y2))):=((Below.refl _ _).alloc(Nat.le_refl _)_).alloc(by simp)_;dsimp only [lZ]at hB;by_cases h:x0=y0
 ·subst h;have e:(x0 !=x0)=false:=by simp
  have ea:Hid(G7(x0,x1,x2)(x0,y1,y2)=decide(x1<y1)):=by
   show _=_;simp [G7]
  go_enter Tryz.func194,Tryz.ntmps194
  go_wp2
  all_goals(go_ret;exact⟨kT ea.out.symm,hB⟩)
 ·have e:(x0 !=y0)=true:=by simpa using h
  have ea:Hid(G7(x0,x1,x2)(y0,y1,y2)=decide(x0<y0)):=by
   show _=_;simp [G7,h]
  go_enter Tryz.func194,Tryz.ntmps194
  go_wp2
  all_goals(go_ret;exact⟨kT ea.out.symm,hB⟩)
theorem TR.later {base T M:Nat} {last:Int} {h:List Tm} {v:Value} {W W':World}(r:TR base T M last h v W)(hb:Below W.heap.size W W'):TR base T M last h v W':=by
 have hg:W.grownBy W' none:=⟨hb.os,hb.tape,hb.output,hb.size,fun k hk _=>hb.block k hk⟩;obtain⟨f,hm,hp⟩:=r.map;exact⟨r.blk.kept hg(by simp),aM r.row hb,⟨f,hm.kept hg(by simp),hp⟩,r.ok,r.bT,r.bM⟩
theorem TR.drew {base T M:Nat} {last:Int} {h:List Tm} {v:Value} {W:World}(r:TR base T M last h v W):TR base T M last h v W.drew:=by
 obtain⟨f,hm,hp⟩:=r.map;exact⟨r.blk,r.row.drew,⟨f,hm,hp⟩,r.ok,r.bT,r.bM⟩
theorem Fr.later {T M:Nat} {v:Value} {w W W':World}(a:Fr T M v w W)(hb:Below W.heap.size W W'):Fr T M v w W':=
 a.trans(Fr.grown(v:=v)(r:=none)⟨hb.os,hb.tape,hb.output,hb.size,fun k hk _=>hb.block k hk⟩(.inl rfl))(.inl rfl)
theorem Fr.drew {T M:Nat} {v:Value} {w W:World}(a:Fr T M v w W):Fr T M v w W.drew:=⟨a.os,a.tape,a.output,a.size,a.block⟩
@[reducible] def Two (T g n cap i j : Nat) (x y : Tm) (W : World) : Prop :=
 W.cell?⟨T,0,none⟩=some(.slice(some⟨g,0,none⟩)n cap)∧
 W.cell?⟨g,i * 3,none⟩=some(.int .u64 x.1)∧W.cell?⟨g,i * 3+1,none⟩=some(.int .i64 x.2.1)∧W.cell?⟨g,i * 3+2,none⟩=some(.int .i64 x.2.2)∧
 W.cell?⟨g,j * 3,none⟩=some(.int .u64 y.1)∧W.cell?⟨g,j * 3+1,none⟩=some(.int .i64 y.2.1)∧W.cell?⟨g,j * 3+2,none⟩=some(.int .i64 y.2.2)
theorem Two.of {base T M:Nat} {last:Int} {h:List Tm} {g cap:Nat} {W:World}(r:TR base T M last h(.slice(some⟨g,0,none⟩)h.length cap)W) {i j:Nat}(hi:i<h.length)(hj:j<h.length):Two T g h.length cap i j(at' h i)(at' h j)W:=by
 have ai:=r_ hi;have aj:=r_ hj;have hl:=oo h;exact⟨r.blk.cell.1,(r.row.cellAt(i * 3)(by omega)).trans ai.1,(r.row.cellAt(i * 3+1)(by omega)).trans ai.2.1,(r.row.cellAt(i * 3+2)(by omega)).trans ai.2.2,
  (r.row.cellAt(j * 3)(by omega)).trans aj.1,(r.row.cellAt(j * 3+1)(by omega)).trans aj.2.1,(r.row.cellAt(j * 3+2)(by omega)).trans aj.2.2⟩
theorem Two.later {T g n cap i j:Nat} {x y:Tm} {W W':World}(h:Two T g n cap i j x y W)(hb:Below W.heap.size W W'):Two T g n cap i j x y W':=by
 have k:∀ {a:Addr} {u:Value},W.cell? a=some u→W'.cell? a=some u:=fun {a u}ha=>(hb.cell(World.block_lt_of_cell? W a ha)).trans ha;exact⟨k h.1,k h.2.1,k h.2.2.1,k h.2.2.2.1,k h.2.2.2.2.1,k h.2.2.2.2.2.1,k h.2.2.2.2.2.2⟩
theorem Fa(base T M:Nat)(last:Int)(h:List Tm)(v:Value)(w:World)(r:TR base T M last h v w)(i:Nat)(hi:i<h.length)(hn:h.length≤1000000)(hb:Both h i):
  Calls Tryz.prog 175 #[.pointer(some⟨T,0,none⟩),.int .i64 i]w fun e w'=>e=.returned(.tuple #[])∧∃h',TR base T M last h' v w'∧Fr T M v w w'∧h'.Perm h∧Down h' i:=by
 obtain⟨g,cap,rfl,hg⟩:=r.shape(by omega);have hF:=Fr.refl T M(.slice(some⟨g,0,none⟩)h.length cap)w;generalize hH:h.length=n at hi hn r hF;have Xl:=(show Hid _ from hH);clear hH;go_enter Tryz.func175,Tryz.ntmps175
 go_wp2_with fail
 go_loopw [1](fun iv wr=>∃(k:Nat)(h1:List Tm),iv=.int .i64 k∧k<n∧h1.length=n∧TR base T M last h1(.slice(some⟨g,0,none⟩)n cap)wr∧Fr T M(.slice(some⟨g,0,none⟩)n cap)w wr∧h1.Perm h∧((k=i∧Both h1 i)∨Up h1 k))(fun iv _=>(intOf iv).toNat)
 case atStart=>exact⟨i,h,rfl,hi,Xl.out,r,hF,List.Perm.refl _,.inl⟨rfl,hb⟩⟩
 case round=>
  clear r hF hb;obtain⟨k,h1,rfl,hk,hl,r1,hF1,hp1,hO⟩:=hrel;by_cases h0:0<k
  ·have hpk:=iQ h0;have hq:((k:Int) - 1)/ 2=((par k:Nat):Int):=by unfold par;omega
   have hS:Two T g n cap k(par k)(at' h1 k)(at' h1(par k))wr:=by
    have:=Two.of(g:=g)(cap:=cap)(by rw [hl];exact r1)(i:=k)(j:=par k)(by omega)(by omega);rw [hl]at this;exact this
   have Xr:Both h1 k:=by
    rcases hO with⟨rfl,hB⟩|hU
    ·exact hB
    ·exact hU.both
   have hl':=(show Hid _ from hl);have hpn:((par k:Nat):Int)<(n:Int):=by omega
   have hkn:(k:Int)<(n:Int):=by omega
   clear hl;generalize hP:par k=P at hq hS hpk hpn;have hP':=(show Hid _ from hP);clear hP;go_wp2_with fail
   go_region_held3(Two T g n cap k P(at' h1 k)(at' h1 P))(first|exact hS|assumption|exact Two.later(by assumption)hb2)((go_at_call 194;refine(Cq(at' h1 k)(at' h1 P)_).mono ?_;rintro e w2⟨rfl,hb2⟩))
   have r2:=r1.drew.later hb2;have hF2:=hF1.drew.later hb2;clear r1 hF1 hS hb2;cases hA:G7(at' h1 k)(at' h1 P)
   ·have hDn:Down h1 i:=by
     have hOk:Ok h1 k:=by
      unfold Ok;rw [hP'.out];exact hA
     rcases hO with⟨rfl,hB⟩|hU
     ·exact hB.down(.inr hOk)
     ·exact(hU.done hOk).down i
    clear hA hO Xr;go_wp2
    go_returns
    exact⟨rfl,h1,r2,hF2,hp1,hDn⟩
   ·have hUp:Up(sw h1 k P)P:=by
     have:=Vf Xr h0(by rw [hl'.out];exact hk)(by rw [hP'.out];exact hA);rw [hP'.out]at this;exact this
    clear hA hO Xr;go_wp2_with fail
    refine(yC base T M last h1 _ _ r2 k P(by rw [hl'.out];exact hk)(by rw [hl'.out];omega)(by rw [hl'.out];exact hn)).mono ?_;rintro e w3⟨rfl,r3,xm⟩;have hp3:(sw h1 k P).Perm h:=(ui(by rw [hl'.out];exact hk)(by rw [hl'.out];omega)).trans hp1;have rW:=hF2.trans xm(.inl rfl);have hl3:(sw h1 k P).length=n:=by rw [dG];exact hl'.out
    clear r2 hF2 xm;generalize sw h1 k P=h3 at r3 hp3 hl3 hUp;have aeG:=(show Hid _ from hl3);clear hl3;go_wp2
    go_roundw
    case rel=>exact⟨P,h3,rfl,by omega,aeG.out,r3,rW,hp3,.inr hUp⟩
    case measure=>simp [intOf];omega
  ·obtain rfl:k=0:=by omega
   have hDn:Down h1 i:=by
    rcases hO with⟨rfl,hB⟩|hU
    ·exact hB.down(.inl rfl)
    ·exact hU.top.down i
   clear hO h0;go_wp2
   go_returns
   exact⟨rfl,h1,r1,hF1,hp1,hDn⟩
end Go.Proofs.YtakaadcpaeiccabGreat
