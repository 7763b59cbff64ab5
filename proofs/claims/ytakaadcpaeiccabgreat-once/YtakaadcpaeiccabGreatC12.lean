import Derived.Test.YtakaadcpaeiccabGreatC11
set_option maxHeartbeats 4000000
set_option maxRecDepth 100000
namespace Go.Proofs.YtakaadcpaeiccabGreat
open Go.RowKit Go.Maps
open Hp
variable{last:Int}{M T:Nat}{r:Option Nat}{v:Value}{A B W:World}
theorem Ca:∀(h:List Tm) (i:Nat) (x:Tm),(((TC h).set (i * 3) (.int .u64 x.1)).set (i * 3+1) (.int .i64 x.2.1)).set (i * 3+2) (.int .i64 x.2.2)=TC (h.set i x)
 | [],i,x=>by simp[TC]
 |a::h,0,x=>by simp[TC,Mi]
 |a::h,i+1,x=>by
  have ih:=Ca h i x;simp only[TC,List.flatMap_cons,List.set_cons_succ]at ih ⊢;rw[<-ih];simp only[Mi,List.cons_append,List.nil_append,show(i+1)* 3=i * 3+1+1+1 by omega,List.set_cons_succ]
theorem wE.kept{W':World}(h:wE T M last v W)(hg:W.grownBy W' r)(hne:some T≠r):wE T M last v W':=(hg.block T h.lt hne).trans h
theorem eH{g:Nat}(h:A.grownBy B (some g))(j:Nat)(v:Value):A.grownBy (B.setCell ⟨g,j,none⟩ v) (some g):=
 ⟨h.os,h.tape,h.output,by simpa using h.size,λi hi hne=>(kS B ⟨g,j,none⟩ v i (λe=>hne (by rw[e]))).trans (h.block i hi hne)⟩
theorem Bw(h:A.grownBy B r):A.grownBy B.drew r:=⟨h.os,h.tape,h.output,h.size,h.block⟩
theorem mI(A:World)(r:Option Nat):A.grownBy A r:=⟨rfl,rfl,rfl,aB _,λ_ _ _=>rfl⟩
theorem MS{base:Nat}{h:List Tm}(r:TR base T M last h v W){i:Nat}(hi:i<h.length):oW (at' h i).2.1:=
 (r.ok _ (gI (jy hi))).2.1
theorem WS(base T M:Nat)(last:Int)(h:List Tm)(v:Value)(w:World)(r:TR base T M last h v w)(i j:Nat)(hi:i<h.length)(hj:j<h.length)(hij:i≠j)(hn:h.length<=1000000):
  Calls Tryz.prog 174 #[.pointer (some ⟨T,0,none⟩),.int .i64 i,.int .i64 j] w λe w'=>e=.returned (.tuple #[])∧TR base T M last (sw h i j) v w'∧Fr T M v w w':=by
 obtain⟨g,cap,rfl,hg⟩:=r.shape (by omega);obtain⟨c0,c1,c2⟩:=r.blk.cell;have ai:=tJ hi;have aj:=tJ hj;have hl:=oQ h;have i0:=(r.row.cellAt (i * 3) (by omega)).trans ai.1;have i1:=(r.row.cellAt (i * 3+1) (by omega)).trans ai.2.1;have i2:=(r.row.cellAt (i * 3+2) (by omega)).trans ai.2.2;have j0:=(r.row.cellAt (j * 3) (by omega)).trans aj.1;have j1:=(r.row.cellAt (j * 3+1) (by omega)).trans aj.2.1;have j2:=(r.row.cellAt (j * 3+2) (by omega)).trans aj.2.2;have f0:=r.row.frozenAt (i * 3);have f1:=r.row.frozenAt (i * 3+1);have f2:=r.row.frozenAt (i * 3+2);have f3:=r.row.frozenAt (j * 3);have f4:=r.row.frozenAt (j * 3+1);have f5:=r.row.frozenAt (j * 3+2);have hin:(i:Int)<(h.length:Int):=by omega
 have hjn:(j:Int)<(h.length:Int):=by omega
 have n00:¬i * 3=j * 3:=by omega
 have n01:¬i * 3=j * 3+1:=by omega
 have n02:¬i * 3=j * 3+2:=by omega
 have n10:¬i * 3+1=j * 3:=by omega
 have n11:¬i * 3+1=j * 3+1:=by omega
 have n12:¬i * 3+1=j * 3+2:=by omega
 have n20:¬i * 3+2=j * 3:=by omega
 have n21:¬i * 3+2=j * 3+1:=by omega
 have n22:¬i * 3+2=j * 3+2:=by omega
 have hTg:¬T=g:=λe=>r.apart.2.1 (by rw[e];rfl);generalize hx:at' h i=x at i0 i1 i2;generalize hy:at' h j=y at j0 j1 j2;have hx':=(show Hid _ from hx);have hy':=(show Hid _ from hy);clear hx hy ai aj hl;obtain⟨f,hm,hp⟩:=r.map;have hap:=r.apart;have hidx:=MS r hi;have abt:=MS r hj;rw[hx'.out]at hidx;rw[hy'.out]at abt;have Uj:oW (i:Int):=by unfold oW;omega
 have afp:oW (j:Int):=by unfold oW;omega
 have hpi:=hp.1 i _ (jy hi);have hpj:=hp.1 j _ (jy hj);have IY:=hp.sw hi hj;rw[hx'.out]at hpi IY;rw[hy'.out]at hpj IY;have hrow:(((((((w.setCell ⟨g,i * 3,none⟩ (.int .u64 y.1)).setCell ⟨g,i * 3+1,none⟩ (.int .i64 y.2.1)).setCell ⟨g,i * 3+2,none⟩ (.int .i64 y.2.2)).setCell ⟨g,j * 3,none⟩ (.int .u64 x.1)).setCell ⟨g,j * 3+1,none⟩ (.int .i64 x.2.1)).setCell ⟨g,j * 3+2,none⟩ (.int .i64 x.2.2)).drew).ownsRow base 254 3 (.slice (some ⟨g,0,none⟩) h.length cap) h.length (TC (Hp.sw h i j)):=by
  have e:=((((((r.row.stored (i * 3) (.int .u64 y.1)).1.stored (i * 3+1) (.int .i64 y.2.1)).1.stored (i * 3+2) (.int .i64 y.2.2)).1.stored (j * 3) (.int .u64 x.1)).1.stored (j * 3+1) (.int .i64 x.2.1)).1.stored (j * 3+2) (.int .i64 x.2.2)).1;rw[Ca,Ca]at e;have es:(h.set i y).set j x=Hp.sw h i j:=by
   unfold Hp.sw;rw[hx'.out,hy'.out]
  rw[es]at e;exact e.drew
 have hgr:w.grownBy (((((((w.setCell ⟨g,i * 3,none⟩ (.int .u64 y.1)).setCell ⟨g,i * 3+1,none⟩ (.int .i64 y.2.1)).setCell ⟨g,i * 3+2,none⟩ (.int .i64 y.2.2)).setCell ⟨g,j * 3,none⟩ (.int .u64 x.1)).setCell ⟨g,j * 3+1,none⟩ (.int .i64 x.2.1)).setCell ⟨g,j * 3+2,none⟩ (.int .i64 x.2.2)).drew) (some g):=by
  have e:=eH (eH (eH (eH (eH (eH (mI w (some g)) (i * 3) (.int .u64 y.1)) (i * 3+1) (.int .i64 y.2.1)) (i * 3+2) (.int .i64 y.2.2)) (j * 3) (.int .u64 x.1)) (j * 3+1) (.int .i64 x.2.1)) (j * 3+2) (.int .i64 x.2.2);exact Bw e
 have hTn:some T≠(some g:Option Nat):=hap.2.1;have V9:some M≠(some g:Option Nat):=hap.2.2;have hB1:=r.blk.kept hgr hTn;have hm1:=hm.kept hgr V9;have hat:=yZ hi hj;rw[hx'.out,hy'.out]at hat;have hli:i<(Hp.sw h i j).length:=by rw[dM];exact hi
 have hlj:j<(Hp.sw h i j).length:=by rw[dM];exact hj
 have ti:=tJ hli;have tj:=tJ hlj;rw[hat,aH hij,aM rfl]at ti;rw[hat,aM rfl]at tj;have hbT:=r.bT;have hbM:=r.bM;have hok:∀z∈Hp.sw h i j,TOk z:=λz hz=>r.ok z ((uY hi hj).mem_iff.1 hz);have hmt:T≠M:=hap.1;generalize hH:h.length=n at hin hjn c0 hn hrow hB1 hm1;have Yu:=(show Hid _ from hH);clear hH r hm hp hap hx' hy' hat;obtain⟨x0,x1,x2⟩:=x;obtain⟨y0,y1,y2⟩:=y;dsimp only at i0 i1 i2 j0 j1 j2 hrow hgr hB1 hm1 hidx abt hpi hpj IY ti tj;go_enter Tryz.func174,Tryz.ntmps174;go_wp2_with fail;go_region
 clear i0 i1 i2 j0 j1 j2 c0 c1 c2 f0 f1 f2 f3 f4 f5 n00 n01 n02 n10 n11 n12 n20 n21 n22;generalize World.drew _=W1 at hrow hgr hB1 hm1 ⊢;have hl3:n * 3=h.length * 3:=by rw[Yu.out]
 have d1:=(hrow.cellAt (i * 3+1) (by omega)).trans ti.2.1;obtain⟨b0,b1,b2⟩:=hB1.cell;obtain⟨W2,hr2,hm2,hg2⟩:=(show kR W1.drew M f n from hm1).put (by unfold maxLen;omega) abt Uj;go_wp2_with fail;go_region
 have uD:W1.grownBy W2 (some M):=⟨hg2.os,hg2.tape,hg2.output,hg2.size,hg2.block⟩;rw[hpj]at hm2;simp only[Option.isSome_some,if_true]at hm2;have hB2:=hB1.kept uD (by simpa using hmt);have hrow2:=hrow.kept uD (by simpa[Value.ownBlock]using V9.symm);have hF2:=(Fr.grown (T:=T) (M:=M) (v:=.slice (some ⟨g,0,none⟩) n cap) hgr (.inr (.inr (.inr rfl)))).trans (Fr.grown (T:=T) (M:=M) (v:=.slice (some ⟨g,0,none⟩) n cap) uD (.inr (.inr (.inl rfl)))) (.inl rfl);clear hrow hB1 hm1 hr2 hgr hg2 uD b0 b1 b2 d1 ti;have d1:=(hrow2.cellAt (j * 3+1) (by omega)).trans tj.2.1;obtain⟨b0,b1,b2⟩:=hB2.cell;obtain⟨W3,hr3,oJ,hg3⟩:=(show kR W2.drew M _ n from hm2).put (by unfold maxLen;omega) hidx afp;go_wp2_with fail;go_region
 have hg3':W2.grownBy W3 (some M):=⟨hg3.os,hg3.tape,hg3.output,hg3.size,hg3.block⟩;have hsome:(upd f y1 (some i) x1).isSome=true:=by
  unfold upd;split
  ·rfl
  ·rw[hpi];rfl
 rw[hsome]at oJ;simp only[if_true]at oJ;have hB3:=hB2.kept hg3' (by simpa using hmt);have hrow3:=hrow2.kept hg3' (by simpa[Value.ownBlock]using V9.symm);have yP:=hF2.trans (Fr.grown (T:=T) (M:=M) (v:=.slice (some ⟨g,0,none⟩) n cap) hg3' (.inr (.inr (.inl rfl)))) (.inl rfl);clear hrow2 hB2 hm2 hr3 hF2 hg3 hg3' b0 b1 b2 d1 tj;go_wp2;go_returns;have hls:(Hp.sw h i j).length=n:=by rw[dM];exact Yu.out
 rw[<-hls]at hrow3 oJ hB3 yP ⊢;exact⟨rfl,⟨hB3,hrow3,⟨_,oJ,IY⟩,hok,hbT,hbM⟩,yP⟩
theorem swap_eq(base T M:Nat)(last:Int)(h:List Tm)(v:Value)(w:World)(r:TR base T M last h v w)(i:Nat)(hi:i<h.length)(hn:h.length<=1000000):
  Calls Tryz.prog 174 #[.pointer (some ⟨T,0,none⟩),.int .i64 i,.int .i64 i] w λe w'=>e=.returned (.tuple #[])∧TR base T M last (sw h i i) v w'∧Fr T M v w w':=by
 obtain⟨g,cap,rfl,hg⟩:=r.shape (by omega);obtain⟨c0,c1,c2⟩:=r.blk.cell;have ai:=tJ hi;have hl:=oQ h;have i0:=(r.row.cellAt (i * 3) (by omega)).trans ai.1;have i1:=(r.row.cellAt (i * 3+1) (by omega)).trans ai.2.1;have i2:=(r.row.cellAt (i * 3+2) (by omega)).trans ai.2.2;have f0:=r.row.frozenAt (i * 3);have f1:=r.row.frozenAt (i * 3+1);have f2:=r.row.frozenAt (i * 3+2);have hin:(i:Int)<(h.length:Int):=by omega
 have hTg:¬T=g:=λe=>r.apart.2.1 (by rw[e];rfl);generalize hx:at' h i=x at i0 i1 i2;have hx':=(show Hid _ from hx);clear hx ai hl;obtain⟨f,hm,hp⟩:=r.map;have hap:=r.apart;have hidx:=MS r hi;rw[hx'.out]at hidx;have Uj:oW (i:Int):=by unfold oW;omega
 have hpi:=hp.1 i _ (jy hi);have IY:=hp.sw hi hi;rw[hx'.out]at hpi IY;have hrow:(((((((w.setCell ⟨g,i * 3,none⟩ (.int .u64 x.1)).setCell ⟨g,i * 3+1,none⟩ (.int .i64 x.2.1)).setCell ⟨g,i * 3+2,none⟩ (.int .i64 x.2.2)).setCell ⟨g,i * 3,none⟩ (.int .u64 x.1)).setCell ⟨g,i * 3+1,none⟩ (.int .i64 x.2.1)).setCell ⟨g,i * 3+2,none⟩ (.int .i64 x.2.2)).drew).ownsRow base 254 3 (.slice (some ⟨g,0,none⟩) h.length cap) h.length (TC (Hp.sw h i i)):=by
  have e:=((((((r.row.stored (i * 3) (.int .u64 x.1)).1.stored (i * 3+1) (.int .i64 x.2.1)).1.stored (i * 3+2) (.int .i64 x.2.2)).1.stored (i * 3) (.int .u64 x.1)).1.stored (i * 3+1) (.int .i64 x.2.1)).1.stored (i * 3+2) (.int .i64 x.2.2)).1;rw[Ca,Ca]at e;have es:(h.set i x).set i x=Hp.sw h i i:=by
   unfold Hp.sw;rw[hx'.out]
  rw[es]at e;exact e.drew
 have hgr:w.grownBy (((((((w.setCell ⟨g,i * 3,none⟩ (.int .u64 x.1)).setCell ⟨g,i * 3+1,none⟩ (.int .i64 x.2.1)).setCell ⟨g,i * 3+2,none⟩ (.int .i64 x.2.2)).setCell ⟨g,i * 3,none⟩ (.int .u64 x.1)).setCell ⟨g,i * 3+1,none⟩ (.int .i64 x.2.1)).setCell ⟨g,i * 3+2,none⟩ (.int .i64 x.2.2)).drew) (some g):=by
  have e:=eH (eH (eH (eH (eH (eH (mI w (some g)) (i * 3) (.int .u64 x.1)) (i * 3+1) (.int .i64 x.2.1)) (i * 3+2) (.int .i64 x.2.2)) (i * 3) (.int .u64 x.1)) (i * 3+1) (.int .i64 x.2.1)) (i * 3+2) (.int .i64 x.2.2);exact Bw e
 have hTn:some T≠(some g:Option Nat):=hap.2.1;have V9:some M≠(some g:Option Nat):=hap.2.2;have hB1:=r.blk.kept hgr hTn;have hm1:=hm.kept hgr V9;have hat:=yZ hi hi;rw[hx'.out]at hat;have hli:i<(Hp.sw h i i).length:=by rw[dM];exact hi
 have ti:=tJ hli;rw[hat,aM rfl]at ti;have hbT:=r.bT;have hbM:=r.bM;have hok:∀z∈Hp.sw h i i,TOk z:=λz hz=>r.ok z ((uY hi hi).mem_iff.1 hz);have hmt:T≠M:=hap.1;generalize hH:h.length=n at hin c0 hn hrow hB1 hm1;have Yu:=(show Hid _ from hH);clear hH r hm hp hap hx' hat;obtain⟨x0,x1,x2⟩:=x;dsimp only at i0 i1 i2 hrow hgr hB1 hm1 hidx hpi IY ti;go_enter Tryz.func174,Tryz.ntmps174;go_wp2_with fail;go_region
 clear i0 i1 i2 c0 c1 c2 f0 f1 f2;generalize World.drew _=W1 at hrow hgr hB1 hm1 ⊢;have hl3:n * 3=h.length * 3:=by rw[Yu.out]
 have d1:=(hrow.cellAt (i * 3+1) (by omega)).trans ti.2.1;obtain⟨b0,b1,b2⟩:=hB1.cell;obtain⟨W2,hr2,hm2,hg2⟩:=(show kR W1.drew M f n from hm1).put (by unfold maxLen;omega) hidx Uj;go_wp2_with fail;go_region
 have uD:W1.grownBy W2 (some M):=⟨hg2.os,hg2.tape,hg2.output,hg2.size,hg2.block⟩;rw[hpi]at hm2;simp only[Option.isSome_some,if_true]at hm2;have hB2:=hB1.kept uD (by simpa using hmt);have hrow2:=hrow.kept uD (by simpa[Value.ownBlock]using V9.symm);have hF2:=(Fr.grown (T:=T) (M:=M) (v:=.slice (some ⟨g,0,none⟩) n cap) hgr (.inr (.inr (.inr rfl)))).trans (Fr.grown (T:=T) (M:=M) (v:=.slice (some ⟨g,0,none⟩) n cap) uD (.inr (.inr (.inl rfl)))) (.inl rfl);clear hrow hB1 hm1 hr2 hgr hg2 uD b0 b1 b2 d1;have d1:=(hrow2.cellAt (i * 3+1) (by omega)).trans ti.2.1;obtain⟨b0,b1,b2⟩:=hB2.cell;obtain⟨W3,hr3,oJ,hg3⟩:=(show kR W2.drew M _ n from hm2).put (by unfold maxLen;omega) hidx Uj;go_wp2_with fail;go_region
 have hg3':W2.grownBy W3 (some M):=⟨hg3.os,hg3.tape,hg3.output,hg3.size,hg3.block⟩;have hsome:(upd f x1 (some i) x1).isSome=true:=by
  simp[upd]
 rw[hsome]at oJ;simp only[if_true]at oJ;have hB3:=hB2.kept hg3' (by simpa using hmt);have hrow3:=hrow2.kept hg3' (by simpa[Value.ownBlock]using V9.symm);have yP:=hF2.trans (Fr.grown (T:=T) (M:=M) (v:=.slice (some ⟨g,0,none⟩) n cap) hg3' (.inr (.inr (.inl rfl)))) (.inl rfl);clear hrow2 hB2 hm2 hr3 hF2 hg3 hg3' b0 b1 b2 d1 ti;go_wp2;go_returns;have hls:(Hp.sw h i i).length=n:=by rw[dM];exact Yu.out
 rw[<-hls]at hrow3 oJ hB3 yP ⊢;exact⟨rfl,⟨hB3,hrow3,⟨_,oJ,IY⟩,hok,hbT,hbM⟩,yP⟩
theorem Ah(base T M:Nat)(last:Int)(h:List Tm)(v:Value)(w:World)(r:TR base T M last h v w)(i j:Nat)(hi:i<h.length)(hj:j<h.length)(hn:h.length<=1000000):
  Calls Tryz.prog 174 #[.pointer (some ⟨T,0,none⟩),.int .i64 i,.int .i64 j] w λe w'=>e=.returned (.tuple #[])∧TR base T M last (sw h i j) v w'∧Fr T M v w w':=by
 by_cases hij:i=j
 ·subst hij;exact swap_eq base T M last h v w r i hi hn
 ·exact WS base T M last h v w r i j hi hj hij hn
open Hp
variable{last:Int}{M T cap:Nat}{v:Value}{W W' w:World}
@[reducible] def tmV(x : Tm): Value := .agg #[.int .u64 x.1, .int .i64 x.2.1, .int .i64 x.2.2]
@[reducible] def mM(x : Tm): Obj := .cells #[.int .u64 x.1, .int .i64 x.2.1, .int .i64 x.2.2] 254
theorem Eh(x y:Tm)(w:World):
  Calls Tryz.prog 194 #[tmV x,tmV y] w λe w'=>e=.returned (.bool (Jz x y))∧Below w.heap.size w w':=by
 obtain⟨x0,x1,x2⟩:=x;obtain⟨y0,y1,y2⟩:=y;have hB:Below w.heap.size w ((w.alloc (mM (x0,x1,x2))).alloc (mM (y0,y1,y2))):=(bC).alloc (by simp) _;dsimp only[mM]at hB;by_cases h:x0=y0
 ·subst h;have e:(x0 !=x0)=false:=by simp
  have ea:Hid (Jz (x0,x1,x2) (x0,y1,y2)=decide (x1<y1)):=by
   show _=_;simp[Jz]
  go_enter Tryz.func194,Tryz.ntmps194;go_wp2;all_goals (go_ret;exact⟨lM ea.out.symm,hB⟩)
 ·have e:(x0 !=y0)=true:=by simpa using h
  have ea:Hid (Jz (x0,x1,x2) (y0,y1,y2)=decide (x0<y0)):=by
   show _=_;simp[Jz,h]
  go_enter Tryz.func194,Tryz.ntmps194;go_wp2;all_goals (go_ret;exact⟨lM ea.out.symm,hB⟩)
theorem TR.later{base:Nat}{h:List Tm}(r:TR base T M last h v W)(hb:Below W.heap.size W W'):TR base T M last h v W':=by
 have hg:W.grownBy W' none:=⟨hb.os,hb.tape,hb.output,hb.size,λk hk _=>hb.block k hk⟩;obtain⟨f,hm,hp⟩:=r.map;exact⟨r.blk.kept hg (by simp),aL r.row hb,⟨f,hm.kept hg (by simp),hp⟩,r.ok,r.bT,r.bM⟩
theorem TR.drew{base:Nat}{h:List Tm}(r:TR base T M last h v W):TR base T M last h v W.drew:=by
 obtain⟨f,hm,hp⟩:=r.map;exact⟨r.blk,r.row.drew,⟨f,hm,hp⟩,r.ok,r.bT,r.bM⟩
theorem Fr.later(a:Fr T M v w W)(hb:Below W.heap.size W W'):Fr T M v w W':=
 a.trans (Fr.grown (v:=v) (r:=none) ⟨hb.os,hb.tape,hb.output,hb.size,λk hk _=>hb.block k hk⟩ (.inl rfl)) (.inl rfl)
theorem Fr.drew(a:Fr T M v w W):Fr T M v w W.drew:=⟨a.os,a.tape,a.output,a.size,a.block⟩
@[reducible] def Two(T g n cap i j : Nat)(x y : Tm)(W : World): Prop :=
 W.cell? ⟨T,0,none⟩=some (.slice (some ⟨g,0,none⟩) n cap)∧
 W.cell? ⟨g,i * 3,none⟩=some (.int .u64 x.1)∧W.cell? ⟨g,i * 3+1,none⟩=some (.int .i64 x.2.1)∧W.cell? ⟨g,i * 3+2,none⟩=some (.int .i64 x.2.2)∧
 W.cell? ⟨g,j * 3,none⟩=some (.int .u64 y.1)∧W.cell? ⟨g,j * 3+1,none⟩=some (.int .i64 y.2.1)∧W.cell? ⟨g,j * 3+2,none⟩=some (.int .i64 y.2.2)
theorem Two.of{base:Nat}{h:List Tm}{g:Nat}(r:TR base T M last h (.slice (some ⟨g,0,none⟩) h.length cap) W){i j:Nat}(hi:i<h.length)(hj:j<h.length):Two T g h.length cap i j (at' h i) (at' h j) W:=by
 have ai:=tJ hi;have aj:=tJ hj;have hl:=oQ h;exact⟨r.blk.cell.1,(r.row.cellAt (i * 3) (by omega)).trans ai.1,(r.row.cellAt (i * 3+1) (by omega)).trans ai.2.1,(r.row.cellAt (i * 3+2) (by omega)).trans ai.2.2,
  (r.row.cellAt (j * 3) (by omega)).trans aj.1,(r.row.cellAt (j * 3+1) (by omega)).trans aj.2.1,(r.row.cellAt (j * 3+2) (by omega)).trans aj.2.2⟩
theorem Two.later{g n i j:Nat}{x y:Tm}(h:Two T g n cap i j x y W)(hb:Below W.heap.size W W'):Two T g n cap i j x y W':=by
 have k:∀ {a:Addr} {u:Value},W.cell? a=some u->W'.cell? a=some u:=λ{a u} ha=>(hb.cell (World.block_lt_of_cell? W a ha)).trans ha;exact⟨k h.1,k h.2.1,k h.2.2.1,k h.2.2.2.1,k h.2.2.2.2.1,k h.2.2.2.2.2.1,k h.2.2.2.2.2.2⟩
theorem G7(base T M:Nat)(last:Int)(h:List Tm)(v:Value)(w:World)(r:TR base T M last h v w)(i:Nat)(hi:i<h.length)(hn:h.length<=1000000)(hb:Both h i):
  Calls Tryz.prog 175 #[.pointer (some ⟨T,0,none⟩),.int .i64 i] w λe w'=>e=.returned (.tuple #[])∧∃h',TR base T M last h' v w'∧Fr T M v w w'∧h'.Perm h∧Down h' i:=by
 obtain⟨g,cap,rfl,hg⟩:=r.shape (by omega);have hF:=Fr.refl T M (.slice (some ⟨g,0,none⟩) h.length cap) w;generalize hH:h.length=n at hi hn r hF;have Yu:=(show Hid _ from hH);clear hH;go_enter Tryz.func175,Tryz.ntmps175;go_wp2_with fail;go_loopw [1] (λiv wr=>∃(k:Nat) (h1:List Tm),iv=.int .i64 k∧k<n∧h1.length=n∧TR base T M last h1 (.slice (some ⟨g,0,none⟩) n cap) wr∧Fr T M (.slice (some ⟨g,0,none⟩) n cap) w wr∧h1.Perm h∧((k=i∧Both h1 i)∨Up h1 k)) (λiv _=>(intOf iv).toNat)
 case atStart=>exact⟨i,h,rfl,hi,Yu.out,r,hF,List.Perm.refl _,.inl ⟨rfl,hb⟩⟩
 case round=>
  clear r hF hb;obtain⟨k,h1,rfl,hk,hl,r1,hF1,hp1,hO⟩:=hrel;by_cases h0:0<k
  ·have hpk:=jq h0;have hq:((k:Int) - 1)/ 2=((par k:Nat):Int):=by unfold par;omega
   have hS:Two T g n cap k (par k) (at' h1 k) (at' h1 (par k)) wr:=by
    have:=Two.of (g:=g) (cap:=cap) (by rw[hl];exact r1) (i:=k) (j:=par k) (by omega) (by omega);rw[hl]at this;exact this
   have YB:Both h1 k:=by
    rcases hO with⟨rfl,hB⟩|hU
    ·exact hB
    ·exact hU.both
   have hl':=(show Hid _ from hl);have hpn:((par k:Nat):Int)<(n:Int):=by omega
   have hkn:(k:Int)<(n:Int):=by omega
   clear hl;generalize hP:par k=P at hq hS hpk hpn;have hP':=(show Hid _ from hP);clear hP;go_wp2_with fail;go_region_held3 (Two T g n cap k P (at' h1 k) (at' h1 P)) (first|exact hS|assumption|exact Two.later (by assumption) hb2) ((go_at_call 194;refine(Eh (at' h1 k) (at' h1 P) _).mono ?_;rintro e w2 ⟨rfl,hb2⟩))
   have r2:=r1.drew.later hb2;have hF2:=hF1.drew.later hb2;clear r1 hF1 hS hb2;cases hA:Jz (at' h1 k) (at' h1 P)
   ·have hDn:Down h1 i:=by
     have hOk:Ok h1 k:=by
      unfold Ok;rw[hP'.out];exact hA
     rcases hO with⟨rfl,hB⟩|hU
     ·exact hB.down (.inr hOk)
     ·exact(hU.done hOk).down i
    clear hA hO YB;go_wp2;go_returns;exact⟨rfl,h1,r2,hF2,hp1,hDn⟩
   ·have hUp:Up (sw h1 k P) P:=by
     have:=Ws YB h0 (by rw[hl'.out];exact hk) (by rw[hP'.out];exact hA);rw[hP'.out]at this;exact this
    clear hA hO YB;go_wp2_with fail;refine(Ah base T M last h1 _ _ r2 k P (by rw[hl'.out];exact hk) (by rw[hl'.out];omega) (by rw[hl'.out];exact hn)).mono ?_;rintro e w3 ⟨rfl,r3,yP⟩;have hp3:(sw h1 k P).Perm h:=(uY (by rw[hl'.out];exact hk) (by rw[hl'.out];omega)).trans hp1;have tu:=hF2.trans yP (.inl rfl);have hl3:(sw h1 k P).length=n:=by rw[dM];exact hl'.out
    clear r2 hF2 yP;generalize sw h1 k P=h3 at r3 hp3 hl3 hUp;have afk:=(show Hid _ from hl3);clear hl3;go_wp2;go_roundw
    case rel=>exact⟨P,h3,rfl,by omega,afk.out,r3,tu,hp3,.inr hUp⟩
    case measure=>simp[intOf];omega
  ·obtain rfl:k=0:=by omega
   have hDn:Down h1 i:=by
    rcases hO with⟨rfl,hB⟩|hU
    ·exact hB.down (.inl rfl)
    ·exact hU.top.down i
   clear hO h0;go_wp2;go_returns;exact⟨rfl,h1,r1,hF1,hp1,hDn⟩
open Hp
variable{F b k:Nat}
structure First(h:List Tm)(k b F:Nat):Prop where
 lt:F<h.length
 fst:F=k∨(0<F∧par F=k∧Jz (at' h F) (at' h k)=true)
 le:Le (at' h F) (at' h k)
 all:∀d,0<d->d<h.length->par d=k->d<b->Le (at' h F) (at' h d)
theorem First.start{h:List Tm}(hk:k<h.length):First h k (2 * k+1) k:=by
 refine⟨hk,.inl rfl,Le.refl _,λd h1 h2 h3 h4=> ?_⟩;unfold par at h3;omega
theorem First.stay{h:List Tm}(f:First h k b F)(ha:Jz (at' h b) (at' h F)=false):First h k (b+1) F:=by
 refine⟨f.lt,f.fst,f.le,λd h1 h2 h3 h4=> ?_⟩;by_cases e:d=b
 ·subst e;exact ha
 ·exact f.all d h1 h2 h3 (by omega)
theorem First.next{h:List Tm}(f:First h k b F)(hb:b<h.length)(hp:par b=k)(h0:0<b)(ha:Jz (at' h b) (at' h F)=true):First h k (b+1) b:=by
 have hle:=Le.of ha;have hlk:=hle.trans f.le;refine⟨hb,.inr ⟨h0,hp,?_⟩,hlk,λd h1 h2 h3 h4=> ?_⟩
 ·have:=f.le;rw[Le.iff]at this;rw[N7]at ha ⊢;omega
 ·by_cases e:d=b
  ·subst e;exact Le.refl _
  ·exact hle.trans (f.all d h1 h2 h3 (by omega))
theorem First.whole{h:List Tm}(f:First h k b F)(hb:2 * k+2<b∨h.length<=b):∀d,0<d->d<h.length->par d=k->Le (at' h F) (at' h d):=λd h1 h2 h3=>by
 refine f.all d h1 h2 h3 ?_;unfold par at h3;omega
theorem RB(base T M:Nat)(last:Int)(h:List Tm)(v:Value)(w:World)(r:TR base T M last h v w)(i:Nat)(hi:i<h.length)(hn:h.length<=1000000)(hb:Down h i):
  Calls Tryz.prog 176 #[.pointer (some ⟨T,0,none⟩),.int .i64 i] w λe w'=>e=.returned (.tuple #[])∧∃h',TR base T M last h' v w'∧Fr T M v w w'∧h'.Perm h∧Heap h':=by
 obtain⟨g,cap,rfl,hg⟩:=r.shape (by omega);have hF:=Fr.refl T M (.slice (some ⟨g,0,none⟩) h.length cap) w;generalize hH:h.length=n at hi hn r hF;have Yu:=(show Hid _ from hH);clear hH;go_enter Tryz.func176,Tryz.ntmps176;go_wp2_with fail;go_loopw [1] (λiv wr=>∃(k:Nat) (h1:List Tm),iv=.int .i64 k∧k<n∧h1.length=n∧TR base T M last h1 (.slice (some ⟨g,0,none⟩) n cap) wr∧Fr T M (.slice (some ⟨g,0,none⟩) n cap) w wr∧h1.Perm h∧Down h1 k) (λiv _=>n - (intOf iv).toNat)
 case atStart=>exact⟨i,h,rfl,hi,Yu.out,r,hF,List.Perm.refl _,hb⟩
 case round=>
  clear r hF hb;obtain⟨k,h1,rfl,hk,hl,r1,hF1,hp1,hD⟩:=hrel;have hf0:First h1 k (2 * k+1) k:=First.start (by omega);have hl':=(show Hid _ from hl);have Uj:(2:Int)* (k:Int)+2<=9223372036854775807:=by omega
  clear hl;go_wp2_with fail;go_loopw [4,5] (λfv bv wx=>∃(F b:Nat),fv=.int .i64 F∧bv=.int .i64 b∧2 * k+1<=b∧b<=2 * k+3∧First h1 k b F∧TR base T M last h1 (.slice (some ⟨g,0,none⟩) n cap) wx∧Fr T M (.slice (some ⟨g,0,none⟩) n cap) w wx) (λ_ bv _=>2 * k+3 - (intOf bv).toNat)
  case atStart=>exact⟨k,2 * k+1,rfl,by go_num,aB _,by omega,hf0,r1,hF1⟩
  case round=>
   clear hf0 r1 hF1;obtain⟨F,b,rfl,rfl,hb1,hb2,hf,rx,hFx⟩:=hrel;have hFn:F<n:=by have:=hf.lt;rw[hl'.out]at this;exact this
   have cT:=rx.blk.cell.1;by_cases hlt:b<=2 * k+2∧b<n
   ·obtain⟨hle,hbn⟩:=hlt;have hd1:decide ((b:Int)<=2 * (k:Int)+2)=true:=gu (by omega);have hd2:decide ((b:Int)<(n:Int))=true:=gu (by omega);have hbi:(b:Int)<(n:Int):=by omega
    have hFi:(F:Int)<(n:Int):=by omega
    have hS:Two T g n cap b F (at' h1 b) (at' h1 F) wr:=by
     have:=Two.of (g:=g) (cap:=cap) (by rw[hl'.out];exact rx) (i:=b) (j:=F) (by rw[hl'.out];exact hbn) (by rw[hl'.out];exact hFn);rw[hl'.out]at this;exact this
    go_wp2_with fail;go_region_held3 (Two T g n cap b F (at' h1 b) (at' h1 F)) (first|exact hS|assumption|exact Two.later (by assumption) hbx) ((go_at_call 194;refine(Eh (at' h1 b) (at' h1 F) _).mono ?_;rintro e w2 ⟨rfl,hbx⟩))
    have r2:=rx.drew.later hbx;have hF2:=hFx.drew.later hbx;clear rx hFx hS hbx cT;cases hA:Jz (at' h1 b) (at' h1 F)
    ·have hf1:=hf.stay hA;clear hA hf;go_wp2;go_roundw
     case rel=>exact⟨F,b+1,rfl,by go_num,by omega,by omega,hf1,r2,hF2⟩
     case measure=>simp[intOf];omega
    ·have hf1:=hf.next (by rw[hl'.out];exact hbn) (by unfold par;omega) (by omega) hA;clear hA hf;go_wp2;go_roundw
     case rel=>exact⟨b,b+1,rfl,by go_num,by omega,by omega,hf1,r2,hF2⟩
     case measure=>simp[intOf];omega
   ·have hw:=hf.whole (by rw[hl'.out];omega);have hff:=hf.fst;have hd:(decide ((b:Int)<=2 * (k:Int)+2)=false)∨(decide ((b:Int)<=2 * (k:Int)+2)=true∧decide (b<n)=false):=by
     by_cases h2:b<=2 * k+2
     ·exact .inr ⟨gu (by omega),fD (by omega)⟩
     ·exact .inl (fD (by omega))
    by_cases hFk:F=k
    ·subst hFk;have hHp:Heap h1:=hD.done hw;clear hw hff hf hD hlt;rcases hd with hd|⟨hd,hd'⟩;all_goals
      clear hb1 hb2;go_upto_region 6 with(fail);clear hd;go_wp2;go_returns;exact⟨rfl,h1,rx,hFx,hp1,hHp⟩
    ·obtain⟨hF0,hpF,hA⟩:=hff.resolve_left hFk;have hDn:=Qq hD hF0 hf.lt hpF hA hw;have hkF:=jq hF0;have agO:((F:Int)==(k:Int))=false:=beq_eq_false_iff_ne.2 (by omega);have hp3:(sw h1 k F).Perm h:=(uY (by rw[hl'.out];exact hk) (by rw[hl'.out];exact hFn)).trans hp1;have hl3:Hid ((sw h1 k F).length=n):=by
      show _=_;rw[dM];exact hl'.out
     clear hw hff hf hD hlt hA;rcases hd with hd|⟨hd,hd'⟩;all_goals
      clear hb1 hb2;go_upto_region 6 with(fail);clear hd;go_wp2_with fail;refine(Ah base T M last h1 _ _ rx k F (by rw[hl'.out];exact hk) (by rw[hl'.out];exact hFn) (by rw[hl'.out];exact hn)).mono ?_;rintro e w3 ⟨rfl,r3,yP⟩;have tu:=hFx.trans yP (.inl rfl);clear hFx yP;go_wp2;go_roundw
      case rel=>exact⟨F,sw h1 k F,rfl,hFn,hl3.out,r3,tu,hp3,hDn⟩
      case measure=>simp[intOf];omega
open Hp
variable{last:Int}{B M T:Nat}{r:Option Nat}{v:Value}{W W':World}
theorem RP{base e size n cap g:Nat}{xs:List Value}(h:W.ownsRow base e size (.slice (some ⟨g,0,none⟩) n cap) n xs){m:Nat}(hm:m<=n):
  W.ownsRow base e size (.slice (some ⟨g,0,none⟩) m cap) m (xs.take (m * size)):=by
 have h1:=h.1;rcases h.2 with⟨he,_⟩|⟨g',cap',cur,he,k1,k2,k3,k4,k5,k6⟩
 ·cases he
 ·cases he;have hle:m * size<=n * size:=Nat.mul_le_mul_right _ hm;refine⟨by rw[List.length_take,h1];omega,.inr ⟨g,cap,cur,rfl,k1,k2,by omega,k4,k5,?_⟩⟩;rw[<-k6,List.take_take,Nat.min_eq_left hle]
theorem wE.set(h:wE T M last v W)(v':Value):wE T M last v' (W.setCell ⟨T,0,none⟩ v'):=by
 unfold wE at h ⊢;simp[World.setCell,Array.getElem?_modify,h]
def lU(B:Nat)(x:Tm)(W:World):Prop:=W.heap[B]?=some (mM x)
theorem lU.cell{x:Tm}(h:lU B x W):
  W.cell? ⟨B,0,none⟩=some (.int .u64 x.1)∧W.cell? ⟨B,1,none⟩=some (.int .i64 x.2.1)∧W.cell? ⟨B,2,none⟩=some (.int .i64 x.2.2):=
 ⟨aG W B 0 _ _ _ h,aG W B 1 _ _ _ h,aG W B 2 _ _ _ h⟩
theorem lU.free{x:Tm}(h:lU B x W)(i:Nat):W.frozen? ⟨B,i,none⟩=false:=by
 unfold lU at h;simp[World.frozen?,h]
theorem lU.lt{x:Tm}(h:lU B x W):B<W.heap.size:=(iC.1 h).1
theorem lU.new(x:Tm)(W:World):lU W.heap.size x (W.alloc (mM x)):=bS W _
theorem lU.fr{x:Tm}(h:lU B x W)(hf:Fr T M v W W')(h1:B≠T)(h2:B≠M)(h3:some B≠v.ownBlock):lU B x W':=(hf.block B h.lt h1 h2 h3).trans h
theorem lU.later{x:Tm}(h:lU B x W)(hb:Below W.heap.size W W'):lU B x W':=(hb.block B h.lt).trans h
theorem lU.grown{x:Tm}(h:lU B x W)(hg:W.grownBy W' r)(hr:some B≠r):lU B x W':=(hg.block B h.lt hr).trans h
@[reducible] def storeT(W : World)(B : Nat)(x : Tm): World := ((W.setCell ⟨B, 0, none⟩ (.int .u64 x.1)).setCell ⟨B, 1, none⟩ (.int .i64 x.2.1)).setCell ⟨B, 2, none⟩ (.int .i64 x.2.2)
theorem lU.store{x:Tm}(h:lU B x W)(y:Tm):lU B y (storeT W B y):=by
 unfold lU at h ⊢;simp[World.setCell,Array.getElem?_modify,h]
theorem FH(W:World)(B:Nat)(y:Tm):W.grownBy (storeT W B y) (some B):=eH (eH (eH (mI W (some B)) 0 _) 1 _) 2 _
theorem TR.grown{base:Nat}{h:List Tm}(q:TR base T M last h v W)(hg:W.grownBy W' r)(h1:some T≠r)(h2:some M≠r)(h3:r=none∨r≠v.ownBlock):TR base T M last h v W':=by
 obtain⟨f,hm,hp⟩:=q.map;have h4:v.ownBlock=none∨v.ownBlock≠r:=by
  rcases h3 with rfl|h3
  ·cases v.ownBlock<;>simp
  ·exact .inr (Ne.symm h3)
 exact⟨q.blk.kept hg h1,q.row.kept hg h4,⟨f,hm.kept hg h2,hp⟩,q.ok,q.bT,q.bM⟩
theorem N_:∀(h:List Tm) (m:Nat),TC (h.take m)=(TC h).take (m * 3)
 | [],m=>by simp[TC]
 |a::h,0=>by simp[TC]
 |a::h,m+1=>by
  have ih:=N_ h m;simp only[TC,List.take_succ_cons,List.flatMap_cons]at ih ⊢;rw[ih];simp[Mi,show(m+1)* 3=m * 3+1+1+1 by omega]
theorem OH(g n c k:Nat)(hk:k<=c)(W:World):(Instr.slice 163 (.slice (some ⟨g,0,none⟩) n c) none (some (.int .i64 k)) none).run Tryz.prog W=.ok (.slice (some ⟨g,0,none⟩) k c) W:=by
 have ht:Tryz.prog.underlying 163=some (.slice (Tryz.prog.elem 163)):=by simp[Program.elem,Tryz.underlying163]
 have hz:∀w,(Go.sizeOf (Tryz.prog.elem 163)).run Tryz.prog w=.ok 3 w:=by
  intro w;simp[go_sem,Program.elem,Tryz.underlying163]
 rw[run_slice_h W 163 _ _ _ ht .i64 _ (by omega) (by omega),hz];simp only[Result.andThen,sliced];rw[Nat.sub_zero,Nat.sub_zero,jm];split<;>simp[Addr.add]
theorem Az(base T M:Nat)(last:Int)(h:List Tm)(v:Value)(w:World)(r:TR base T M last h v w)(i:Nat)(hi:i<h.length)(hn:h.length<=1000000)(hb:Heap h):
  Calls Tryz.prog 149 #[.pointer (some ⟨T,0,none⟩),.int .i64 i] w λe w'=>e=.returned (tmV (at' h i))∧∃h' v',TR base T M last h' v' w'∧Fr T M v w w'∧v'.ownBlock=v.ownBlock∧(at' h i::h').Perm h∧Heap h':=by
 obtain⟨g,cap,rfl,hg⟩:=r.shape (by omega);have hT:=r.blk.lt;have hM:M<w.heap.size:=by
  obtain⟨_,hm0,_⟩:=r.map;exact hm0.lt
 have hgl:=(r.row.lt g rfl).2;have hb1:Below w.heap.size w (w.alloc (mM z)):=bC;have r1:=r.later hb1;have hR:=lU.new z w;have hF1:=(Fr.refl T M (.slice (some ⟨g,0,none⟩) h.length cap) w).later hb1;have cT:=r1.blk.cell.1;have hlen:(1:Int)<=(h.length:Int):=by omega
 have hap:=r.apart;have hidx:=MS r hi;have hTg:¬T=g:=λe=>hap.2.1 (by rw[e];rfl);have hMg:¬M=g:=λe=>hap.2.2 (by rw[e];rfl);have hq:(h.length:Int) - 1=((h.length - 1:Nat):Int):=by omega
 generalize hE:h.length - 1=E at hq;have hE':=(show Hid _ from hE);generalize hRR:w.heap.size=R at hR hT hM hgl;have adZ:=(show Hid _ from hRR);dsimp only[mM,z]at hb1 r1 hR hF1 cT;clear hE hRR r hb1;go_enter Tryz.func149,Tryz.ntmps149;go_wp2_with fail;rw[adZ.out];generalize World.alloc _ _=W1 at r1 hR hF1 cT ⊢;refine(Ah base T M last h _ _ r1 i E hi (by have:=hE'.out;omega) hn).mono ?_;rintro e W2 ⟨rfl,r2,abP⟩;have hEl:E<h.length:=by have:=hE'.out;omega
 have ad4:E<(sw h i E).length:=by rw[dM];exact hEl
 have hxE:at' (sw h i E) E=at' h i:=by rw[yZ hi hEl,aM rfl]
 have hTC:=tJ ad4;rw[hxE]at hTC;have hTl:=oQ (sw h i E);have hsl2:(sw h i E).length=h.length:=dM _ _ _;have hF2:=hF1.trans abP (.inl rfl);have Uv:R≠T∧R≠M∧R≠g:=⟨by omega,by omega,by omega⟩;have hR2:=hR.fr abP Uv.1 Uv.2.1 (by simp only[Value.ownBlock];intro e;cases e;exact Uv.2.2 rfl);have hrow2:=r2.row;rw[hsl2]at hrow2;have b3:E * 3+2<h.length * 3:=by omega
 have d0:=(hrow2.cellAt (E * 3) (Nat.lt_of_le_of_lt (by omega) b3)).trans hTC.1;have d1:=(hrow2.cellAt (E * 3+1) (Nat.lt_of_le_of_lt (by omega) b3)).trans hTC.2.1;have d2:=(hrow2.cellAt (E * 3+2) b3).trans hTC.2.2;have c0:=r2.blk.cell.1;have hEi:(E:Int)<(h.length:Int):=by omega
 have hbn:Below W2.heap.size W2 (W2.alloc (mM (at' h i))):=bC;have r3:=r2.later hbn;have P8:=hR2.later hbn;have yP:=hF2.later hbn;have hG3:=lU.new (at' h i) W2;have hG0:R<W2.heap.size:=hR2.lt;have hTW:T<W2.heap.size:=by omega
 have hMW:M<W2.heap.size:=by omega
 have hgW:g<W2.heap.size:=by omega
 have adT:E<=cap:=by
  rcases hrow2.2 with⟨he,_⟩|⟨_,_,_,he,_,_,k3,_⟩
  ·cases he
  ·cases he;omega
 have hsl:=OH g h.length cap E adT;clear b3 hrow2 r1 hR hF1 abP r2 hR2 hF2 hTC hTl hbn cT;generalize hGG:W2.heap.size=G at hG3 hG0 hTW hMW hgW;have afS:=(show Hid _ from hGG);clear hGG;have cG:=hG3.cell;have b0:=r3.blk.cell.1;have fT:=r3.blk.free 0;have PU:(W2.alloc (mM (at' h i))).grownBy ((W2.alloc (mM (at' h i))).setCell ⟨T,0,none⟩ (.slice (some ⟨g,0,none⟩) E cap)) (some T):=eH (mI _ _) 0 _;have hB4:=r3.blk.set (.slice (some ⟨g,0,none⟩) E cap);have hrow3:=r3.row;rw[hsl2]at hrow3;have hrow4:=(RP hrow3 (Nat.le_of_lt hEl)).kept PU (.inr (by simp[Value.ownBlock];exact λe=>hTg e.symm));rw[<-N_]at hrow4;have hout:(sw h i E).take E=out h i:=by unfold out;rw[hE'.out]
 rw[hout]at hrow4;obtain⟨f,oJ,hp3⟩:=r3.map;rw[hsl2]at oJ;have CU:=oJ.kept PU (by simpa using hap.1.symm);have hfE:=hp3.1 E _ (jy ad4);rw[hxE]at hfE;have hp5:=hp3.cut (n:=E) (by rw[hsl2];have:=hE'.out;omega);rw[hout,hxE]at hp5;have adt:∀y∈out h i,TOk y:=λy hy=>r3.ok y (by rw[<-hout]at hy;exact List.mem_of_mem_take hy);have NF:=P8.grown PU (by simpa using Uv.1);have hG4:=hG3.grown PU (by simp;omega);have tu:=yP.trans (Fr.grown (T:=T) (M:=M) (v:=.slice (some ⟨g,0,none⟩) h.length cap) PU (.inr (.inl rfl))) (.inl rfl);have hbT:=r3.bT;have hbM:=r3.bM;have hperm:=Sk hi;have hol:(out h i).length=E:=by rw[pK];exact hE'.out
 clear PU r3 P8 hG3 yP hrow3 oJ hp3;dsimp only[mM]at hB4 hrow4 CU NF hG4 tu b0 fT cG;go_wp2_with fail;clear d0 d1 d2 c0 cG b0 fT hsl;rw[afS.out];generalize World.setCell _ _ _=W4 at hB4 hrow4 CU NF hG4 tu ⊢;obtain⟨_,b1,_⟩:=hB4.cell;obtain⟨_,g1,_⟩:=hG4.cell;obtain⟨W5,nO,hm5,hg5⟩:=(show kR W4.drew M f h.length from CU).del hidx 0 (by rw[hfE];rfl);go_region
 clear g1 b1;have PS:W4.grownBy W5 (some M):=⟨hg5.os,hg5.tape,hg5.output,hg5.size,hg5.block⟩;rw[hE'.out]at hm5;have r5:TR base T M last (out h i) (.slice (some ⟨g,0,none⟩) E cap) W5:=by
  refine⟨hB4.kept PS (by simpa using hap.1),?_,⟨_,?_,hp5⟩,adt,hbT,hbM⟩
  ·rw[hol];exact hrow4.kept PS (.inr (by simp[Value.ownBlock];exact λe=>hMg e.symm))
  ·rw[hol];exact hm5
 have V7:=NF.grown PS (by simpa using Uv.2.1);have hG5:=hG4.grown PS (by simp;omega);have hF5:=tu.trans (Fr.grown (T:=T) (M:=M) (v:=.slice (some ⟨g,0,none⟩) h.length cap) PS (.inr (.inr (.inl rfl)))) (.inl rfl);have hfin:∀(h7:List Tm) (W7:World),TR base T M last h7 (.slice (some ⟨g,0,none⟩) E cap) W7->lU R z W7->Fr T M (.slice (some ⟨g,0,none⟩) h.length cap) w W7->h7.Perm (out h i)->Heap h7->
   lU R (at' h i) (storeT W7 R (at' h i))∧∃h' v',TR base T M last h' v' (storeT W7 R (at' h i))∧Fr T M (.slice (some ⟨g,0,none⟩) h.length cap) w (storeT W7 R (at' h i))∧v'.ownBlock=(Value.slice (some ⟨g,0,none⟩) h.length cap).ownBlock∧(at' h i::h').Perm h∧Heap h':=by
  intro h7 W7 r7 hR7 Ra hp7 hH7;have hgs:=FH W7 R (at' h i);refine⟨hR7.store _,h7,_,r7.grown hgs (by simp;omega) (by simp;omega) (.inr (by simp[Value.ownBlock];omega)),?_,rfl,(hp7.cons _).trans hperm,hH7⟩;refine⟨hgs.os.trans Ra.os,hgs.tape.trans Ra.tape,hgs.output.trans Ra.output,dH Ra.size hgs.size,λk hk h1 h2 h3=> ?_⟩;rw[hgs.block k (fO hk Ra.size) (by rw[adZ.out]at hk;simp;omega)];exact Ra.block k hk h1 h2 h3
 clear hB4 hrow4 CU NF hG4 tu hm5 nO hg5 PS hp5 adt hperm;by_cases hiE:i<E
 ·have hdi:decide (i<E)=true:=gu hiE;have YB:=Sm hb (show i<h.length - 1 by rw[hE'.out];exact hiE);go_wp2_with fail;refine(G7 base T M last (out h i) _ _ r5 i (by rw[hol];exact hiE) (by omega) YB).mono ?_;rintro e W6 ⟨rfl,h6,r6,Yw,hp6,hD6⟩;have hl6:h6.length=E:=by rw[hp6.length_eq];exact hol
  have hR6:=V7.fr Yw Uv.1 Uv.2.1 (by simp only[Value.ownBlock];intro e;cases e;exact Uv.2.2 rfl);have hG6:=hG5.fr Yw (by omega) (by omega) (by simp only[Value.ownBlock];intro e;cases e;omega);have Wd:=hF5.trans Yw (.inl rfl);clear r5 V7 hG5 hF5 Yw;go_wp2_with fail;refine(RB base T M last h6 _ _ r6 i (by omega) (by omega) hD6).mono ?_;rintro e W7 ⟨rfl,h7,r7,Yv,hp7,hH7⟩;have hR7:=hR6.fr Yv Uv.1 Uv.2.1 (by simp only[Value.ownBlock];intro e;cases e;exact Uv.2.2 rfl);have hG7:=hG6.fr Yv (by omega) (by omega) (by simp only[Value.ownBlock];intro e;cases e;omega);have Ra:=Wd.trans Yv (.inl rfl);have hend:=hfin h7 W7 r7 hR7 Ra (hp7.trans hp6) hH7;obtain⟨g0,g1,g2⟩:=hG7.cell;obtain⟨z0,z1,z2⟩:=hR7.cell;have zf:=hR7.free;have hRl:=hR7.lt;clear r6 hR6 hG6 Wd Yv hfin r7 Ra hD6 hp6 hp7 hH7 hl6;dsimp only[storeT,z]at hend z0 z1 z2;go_wp2;generalize World.setCell _ _ _=W8 at hend ⊢;obtain⟨UB,hrest⟩:=hend;obtain⟨q0,q1,q2⟩:=UB.cell;exact bodyPost_ret (v:=tmV (at' h i)) (by simp[results,Tryz.results149,go_sem,q0,q1,q2]) rfl ⟨rfl,hrest⟩
 ·have hdi:decide (i<E)=false:=fD hiE;have hHo:Heap (out h i):=by
   have:=Sl hb (by omega);rw[show h.length - 1=i by have:=hE'.out;omega]at this;exact this
  have hend:=hfin (out h i) W5 r5 V7 hF5 (List.Perm.refl _) hHo;obtain⟨g0,g1,g2⟩:=hG5.cell;obtain⟨z0,z1,z2⟩:=V7.cell;have zf:=V7.free;have hRl:=V7.lt;clear hfin r5 hF5 hHo;dsimp only[storeT,z]at hend z0 z1 z2;go_wp2;generalize World.setCell _ _ _=W8 at hend ⊢;obtain⟨UB,hrest⟩:=hend;obtain⟨q0,q1,q2⟩:=UB.cell;exact bodyPost_ret (v:=tmV (at' h i)) (by simp[results,Tryz.results149,go_sem,q0,q1,q2]) rfl ⟨rfl,hrest⟩
open Hp
variable{last:Int}{M T:Nat}{v:Value}{W:World}
theorem Da(w:World):
  Calls Tryz.prog 47 #[] w λe w'=>e=.returned (.pointer (some ⟨w.heap.size+1,0,none⟩))∧Below w.heap.size w w'∧TR w.heap.size (w.heap.size+1) w.heap.size 0 [] (.slice none 0 0) w':=by
 have hmm:=@run_makeMap Tryz.prog;have hm:=kR.made w;have hB:Below w.heap.size w ((w.alloc (.map #[] 0)).alloc (.cells #[.slice none 0 0,.map (some w.heap.size),.int .i64 0] 165)):=(bC).alloc (by simp) _;have hT:wE (w.heap.size+1) w.heap.size 0 (.slice none 0 0) ((w.alloc (.map #[] 0)).alloc (.cells #[.slice none 0 0,.map (some w.heap.size),.int .i64 0] 165)):=by
  have h:=bS (w.alloc (.map #[] 0)) (.cells #[.slice none 0 0,.map (some w.heap.size),.int .i64 0] 165);rw[World.size_alloc]at h;exact h
 have hm2:=hm.kept (ko (w.alloc (.map #[] 0)) (.cells #[.slice none 0 0,.map (some w.heap.size),.int .i64 0] 165) none) (by simp);go_enter Tryz.func47,Tryz.ntmps47;go_wp2;go_ret;exact⟨rfl,hB,hT,⟨rfl,.inl ⟨rfl,rfl⟩⟩,⟨_,hm2,⟨λi x hx=>by simp at hx,λk i hk=>by cases hk⟩⟩,λx hx=>by simp at hx,Nat.le_succ _,aB _⟩
theorem af2{h:List Tm}{f:Int->Option Nat}(p:PI h f){k:Int}(hk:∀x∈h,x.2.1≠k):f k=none:=by
 cases e:f k with
 |none=>rfl
 |some i=>
  obtain⟨x,hx,he⟩:=p.2 k i e;exact absurd he (hk x (gI hx))
theorem wE.set2(h:wE T M last v W)(l:Int):wE T M l v (W.setCell ⟨T,2,none⟩ (.int .i64 l)):=by
 unfold wE at h ⊢;simp[World.setCell,Array.getElem?_modify,h]
theorem wE.alloc(h:wE T M last v W)(o:Obj):wE T M last v (W.alloc o):=h.kept (ko W o none) (by simp)
theorem wE.drew(h:wE T M last v W):wE T M last v W.drew:=h
theorem Ld(W:World)(x:Tm):∀(j:Nat) (u:Value),(Mi x)[j]?=some u->(W.alloc (mM x)).cell? ((⟨W.heap.size,0,none⟩:Addr).add j)=some u:=by
 intro j u hj;have hh:=bS W (mM x)
 match j,hj with
 |0,hj=>exact(aG _ _ 0 _ _ _ hh).trans hj
 |1,hj=>exact(aG _ _ 1 _ _ _ hh).trans hj
 |2,hj=>exact(aG _ _ 2 _ _ _ hh).trans hj
 |j+3,hj=>simp[Mi]at hj
theorem aeF(x:Tm):∀u∈Mi x,u.oneCell'=true:=by
 intro u hu;simp only[Mi,eD,List.not_mem_nil,or_false]at hu;rcases hu with rfl|rfl|rfl<;>rfl
theorem Zr(base T M:Nat)(last:Int)(h:List Tm)(v:Value)(w:World)(r:TR base T M last h v w)(hn:h.length<=900000)(hb:Heap h)(l0:0<=last)(l1:last<=4000000000000000000)(hid:∀x∈h,x.2.1<=last)(tm what:Int)(a0:0<=tm∧tm<18446744073709551616)(b0:oW what)(hbs:base<=w.heap.size):
  Calls Tryz.prog 154 #[.pointer (some ⟨T,0,none⟩),.int .u64 tm,.int .i64 what] w λe w'=>e=.returned (.int .i64 (last+1))∧∃h' v',TR base T M (last+1) h' v' w'∧Fr T M v w w'∧(v'.ownBlock=v.ownBlock∨∀k,v'.ownBlock=some k->w.heap.size<=k)∧h'.Perm (h++ [(tm,last+1,what)])∧Heap h':=by
 obtain⟨i0,hi,hz0,hz1,hz2⟩:=info_parts X4;obtain⟨c0,c1,c2⟩:=r.blk.cell;have ft:=r.blk.free;have hT:=r.blk.lt;have hap:=r.apart;obtain⟨f,hm,hp⟩:=r.map;have hg2:w.grownBy (w.setCell ⟨T,2,none⟩ (.int .i64 (last+1))) (some T):=eH (mI _ _) 2 _;have hBA:=r.blk.set2 (last+1);have T_:=r.row.kept hg2 (.inr (Ne.symm hap.2.1));have hmA:=hm.kept hg2 (by simpa using hap.1.symm);have hFA:=Fr.grown (T:=T) (M:=M) (v:=v) hg2 (.inr (.inl rfl));have hsz:w.heap.size<=(w.setCell ⟨T,2,none⟩ (.int .i64 (last+1))).heap.size:=hg2.size;have hfn:=af2 hp (k:=last+1) (λx hx=>by have:=hid x hx;omega);have hpA:=hp.add (x:=(tm,last+1,what)) hfn;have hok:∀x∈h++ [(tm,last+1,what)],TOk x:=by
  intro x hx;rcases dG.1 hx with hx|hx
  ·exact r.ok x hx
  ·rw[dO]at hx;subst hx;exact⟨a0,by unfold oW;dsimp only;omega,b0⟩
 have hbT:=r.bT;have hbM:=r.bM;have YB:=Vl hb (tm,last+1,what);have hll:(h++ [(tm,last+1,what)]).length=h.length+1:=by rw[dx,List.length_singleton]
 have hTC:TC (h++ [(tm,last+1,what)])=TC h++Mi (tm,last+1,what):=by
  rw[QI];rfl
 obtain⟨ao,c,hv,_⟩:=ay r.row;clear r hm hp hg2;subst hv;go_enter Tryz.func154,Tryz.ntmps154;go_wp2_with fail;generalize World.setCell _ _ _=A at hBA T_ hmA hFA hsz ⊢;clear c0 c1 c2 ft;obtain⟨b0',b1,b2⟩:=hBA.cell;have ft:=hBA.free;have haT:=λo=>(hBA.alloc o).cell.1;have haL:=λo=>(hBA.alloc o).cell.2.2;have hk1:Hid (h.length+1<=maxLen):=by show _<=_;unfold maxLen;omega
 have hk2:Hid ((h.length+1)* 24<=140737488355328):=by show _<=_;omega
 have jM:Hid (∀o:Obj,base<=(A.alloc o).drew.heap.size):=by
  intro o;show base<=(A.alloc o).heap.size;rw[World.size_alloc];omega
 have abJ:Hid (some T≠(Value.slice ao h.length c).ownBlock):=hap.2.1;go_region_law (refine gY rfl (.tmp 24) (.tmp 32) 163 rfl base 254 i0 (.agg #[.int .u64 0,.int .i64 0,.int .i64 0]) 3 24 Tryz.underlying163 hi hz0 hz1 hz2 rfl (by decide) (.slice ao h.length c) h.length (TC h) (by simp[Act.eval]) (T_.alloc _).drew ⟨_,0,none⟩ 1 1 (Mi (tm,last+1,what)) (by simp[Act.eval]) rfl (Ld _ _) (aeF _) hk1.out hk2.out (jM.out _) ?_;intro v7 w7 iy gW hloc;obtain⟨g7,c7,rfl,agK⟩:=bY iy (Nat.succ_pos _);have jd:=(hBA.alloc (mM (tm,last+1,what))).drew.kept gW abJ.out;have hc7:=jd.cell.1;have pX:=jd.free 0)
 all_goals
  have ZO:(Value.slice (some ⟨g7,0,none⟩) (h.length+1) c7).ownBlock=(Value.slice ao h.length c).ownBlock∨∀k,(Value.slice (some ⟨g7,0,none⟩) (h.length+1) c7).ownBlock=some k->w.heap.size<=k:=by
   rcases hloc with e|e
   ·exact .inl e
   ·refine .inr λk hk=> ?_;rw[e]at hk;cases hk;exact dH hsz (by show A.heap.size<=(A.alloc _).heap.size;rw[World.size_alloc];omega)
  have hgo:A.grownBy (A.alloc (mM (tm,last+1,what))).drew none:=Bw (ko A _ none);have hmB:=(hmA.kept hgo (by simp)).kept gW hap.2.2;have Ra:=(hFA.trans (Fr.grown (T:=T) (M:=M) (v:=Value.slice ao h.length c) hgo (.inl rfl)) (.inl rfl)).trans (Fr.grown (T:=T) (M:=M) (v:=Value.slice ao h.length c) gW (.inr (.inr (.inr rfl)))) (.inl rfl);have jN:=jd.set (.slice (some ⟨g7,0,none⟩) (h.length+1) c7);have jL:w7.grownBy (w7.setCell ⟨T,0,none⟩ (.slice (some ⟨g7,0,none⟩) (h.length+1) c7)) (some T):=eH (mI _ _) 0 _;have afE:T≠g7:=by
   rintro rfl;rcases iy.2 with⟨he,_⟩|⟨_,_,_,he,_,hh,_⟩
   ·cases he
   ·cases he;unfold wE at jd;rw[jd]at hh;simp at hh
  have Gq:=iy.kept jL (.inr (by simp[Value.ownBlock];exact λe=>afE e.symm));have hm8:=hmB.kept jL (by simpa using hap.1.symm);have hF8:=Ra.trans (Fr.grown (T:=T) (M:=M) (v:=Value.slice ao h.length c) jL (.inr (.inl rfl))) (.inl rfl);clear hc7 pX jd iy gW hgo hmB Ra jL haT haL b0' b1 b2 ft hBA T_ hmA hFA hloc;generalize World.setCell _ _ _=w8 at jN Gq hm8 hF8 ⊢;obtain⟨b0',b1,b2⟩:=jN.cell;have hhl:oW ((h.length:Nat):Int):=by unfold oW;omega
  have adF:oW (last+1):=by unfold oW;omega
  obtain⟨w9,nu,Nz,fM⟩:=(show kR w8.drew M f h.length from hm8).put (by unfold maxLen;omega) adF hhl;go_wp2_with fail;go_region
  have Ye:w8.grownBy w9 (some M):=⟨fM.os,fM.tape,fM.output,fM.size,fM.block⟩;rw[hfn]at Nz;simp only[Option.isSome_none,Bool.false_eq_true,if_false]at Nz;have afP:M≠g7:=by
   rintro rfl;rcases Gq.2 with⟨he,_⟩|⟨_,_,_,he,_,hh,_⟩
   ·cases he
   ·cases he;obtain⟨D,⟨es,clock,hmm,_⟩,_⟩:=hm8;rw[hmm]at hh;cases hh
  have r9:TR base T M (last+1) (h++ [(tm,last+1,what)]) (.slice (some ⟨g7,0,none⟩) (h.length+1) c7) w9:=by
   refine⟨jN.kept Ye (by simpa using hap.1),?_,⟨_,?_,hpA⟩,hok,hbT,hbM⟩
   ·rw[hll,hTC];exact Gq.kept Ye (.inr (by simp[Value.ownBlock];exact λe=>afP e.symm))
   ·rw[hll];exact Nz
  have hF9:=hF8.trans (Fr.grown (T:=T) (M:=M) (v:=Value.slice ao h.length c) Ye (.inr (.inr (.inl rfl)))) (.inl rfl);clear jN Gq hm8 hF8 nu Nz fM Ye b0' b1 b2 hpA;go_wp2_with fail;refine(G7 base T M (last+1) _ _ _ r9 h.length (by rw[hll];omega) (by rw[hll];omega) YB).mono ?_;rintro e w10 ⟨rfl,h10,r10,ad3,ads,ad5⟩;have afl:h10.length=h.length+1:=by rw[ads.length_eq];exact hll
  have afR:Heap h10:=ad5.leaf (by omega);have afT:=hF9.trans ad3 ZO;obtain⟨b0',b1,b2⟩:=r10.blk.cell;clear r9 hF9 ad3 ad5 afl;go_wp2;go_ret;exact⟨rfl,h10,_,r10,afT,ZO,ads,afR⟩
open Hp
theorem L8(base T M:Nat)(last:Int)(h:List Tm)(v:Value)(w:World)(r:TR base T M last h v w)(hn:h.length<=1000000)(hb:Heap h)(k:Int)(hk:oW k):
  Calls Tryz.prog 150 #[.pointer (some ⟨T,0,none⟩),.int .i64 k] w λe w'=>∃h' v',TR base T M last h' v' w'∧Fr T M v w w'∧v'.ownBlock=v.ownBlock∧Heap h'∧
   ((∃x,x.2.1=k∧e=.returned (.bool true)∧(x::h').Perm h)∨((∀x∈h,x.2.1≠k)∧e=.returned (.bool false)∧h'=h)):=by
 obtain⟨f,hm,hp⟩:=r.map;obtain⟨u,hr,hu⟩:=hm.look hk;obtain⟨c0,c1,c2⟩:=r.blk.cell;have hF:=Fr.refl T M v w;cases hf:f k with
 |none=>
  rw[hf]at hr;have hno:∀x∈h,x.2.1≠k:=by
   intro x hx e;obtain⟨i,hi,rfl⟩:=List.mem_iff_getElem.1 hx;have:=hp.1 i _ (cK hi);rw[e,hf]at this;cases this
  simp only[Option.isSome_none]at hr;clear hm hp hu hf;go_enter Tryz.func150,Tryz.ntmps150;go_wp2;go_ret;exact⟨h,v,r,hF,rfl,hb,.inr ⟨hno,rfl,rfl⟩⟩
 |some i=>
  rw[hf]at hr;obtain rfl:=hu i hf;obtain⟨x,hx,hxk⟩:=hp.2 k i hf;have hi:i<h.length:=by
   rcases Nat.lt_or_ge i h.length with a|a
   ·exact a
   ·rw[List.getElem?_eq_none a]at hx;cases hx
  have hax:=sG hx;simp only[Option.isSome_some]at hr;clear hm hp hu hf hx;go_enter Tryz.func150,Tryz.ntmps150;go_wp2_with fail;refine(Az base T M last h v _ r i hi hn hb).mono ?_;rintro e w1 ⟨rfl,h',v',r1,hF1,hv1,hp1,hH1⟩;rw[hax]at hp1;clear hr r c0 c1 c2;go_wp2;go_ret;exact⟨h',v',r1,hF1,hv1,hH1,.inl ⟨x,hxk,rfl,hp1⟩⟩
theorem YP(a b c:Int)(w:World):(Instr.field 254 (.agg #[.int .u64 a,.int .i64 b,.int .i64 c]) 2).run Tryz.prog w=.ok (.int .i64 c) w:=by kernel_rfl
def aeo(base T M:Nat)(last:Int)(h:List Tm)(v:Value)(w:World)(now:Int)(e:Ending)(w':World):Prop:=
 ∃h' v',TR base T M last h' v' w'∧Fr T M v w w'∧v'.ownBlock=v.ownBlock∧Heap h'∧
   ((0<h.length∧(at' h 0).1<=now∧e=.returned (.tuple #[.int .i64 (at' h 0).2.2,.bool true])∧(at' h 0::h').Perm h)∨((h.length=0∨now<(at' h 0).1)∧e=.returned (.tuple #[.int .i64 0,.bool false])∧h'=h))
theorem Vt(base T M:Nat)(last:Int)(h:List Tm)(v:Value)(w:World)(r:TR base T M last h v w)(hn:h.length<=1000000)(hb:Heap h)(now:Int)(_n0:0<=now)(_n1:now<18446744073709551616):
  Calls Tryz.prog 114 #[.pointer (some ⟨T,0,none⟩),.int .u64 now] w λe w'=>aeo base T M last h v w now e w':=by
 obtain⟨c0,c1,c2⟩:=r.blk.cell;have hF:=Fr.refl T M v w;by_cases h0:h.length=0
 ·obtain⟨ao,c,hv,_⟩:=ay r.row;have hz:((h.length:Int)==0)=true:=by rw[beq_iff_eq];omega
  rw[hv]at c0;go_enter Tryz.func114,Tryz.ntmps114;go_wp2;go_ret2;exact⟨h,v,r,hF,rfl,hb,.inr ⟨.inl h0,rfl,rfl⟩⟩
 ·have hpos:0<h.length:=by omega
  obtain⟨g,cap,rfl,hg⟩:=r.shape hpos;have hz:((h.length:Int)==0)=false:=by rw[beq_eq_false_iff_ne];omega
  have hin:(0:Int)<(h.length:Int):=by omega
  have hl:=oQ h;have d0:=(r.row.cellAt (0 * 3) (by omega)).trans (tJ hpos).1;rw[Nat.zero_mul]at d0;by_cases hle:(at' h 0).1<=now
  ·have hd:decide (now<(at' h 0).1)=false:=fD (by omega);have xN:=YP;clear hl;go_enter Tryz.func114,Tryz.ntmps114;go_wp2_with fail;refine(Az base T M last h _ _ r 0 hpos hn hb).mono ?_;rintro e w1 ⟨rfl,h',v',r1,hF1,hv1,hp1,hH1⟩;clear r c0 c1 c2 d0 hd;dsimp only[tmV];go_wp2;go_ret2;exact⟨h',v',r1,hF1,hv1,hH1,.inl ⟨hpos,hle,rfl,hp1⟩⟩
  ·have hd:decide (now<(at' h 0).1)=true:=gu (by omega);clear hl;go_enter Tryz.func114,Tryz.ntmps114;go_wp2;go_ret2;exact⟨h,_,r,hF,rfl,hb,.inr ⟨.inr (by omega),rfl,rfl⟩⟩
end Go.Proofs.YtakaadcpaeiccabGreat
