import Derived.Test.YtakaadcpaeiccabGreatO18
import Derived.Deep.CutBlock
set_option maxHeartbeats 4000000
set_option maxRecDepth 100000
namespace Go.Proofs.YtakaadcpaeiccabGreat
open Go.RowKit Go.Maps
variable{x:SG}{s s':bG}{W w w' w1:World}
theorem m_.cell(h:m_ x s W):
  W.cell? ⟨x.B,0,none⟩=some (.int .u32 s.addr)∧W.cell? ⟨x.B,1,none⟩=some x.jv∧W.cell? ⟨x.B,2,none⟩=some (Pn x.N s.nd)∧W.cell? ⟨x.B,9,none⟩=some (.bool s.tears)∧W.cell? ⟨x.B,10,none⟩=some (.int .i64 s.whole)∧(∀(j:Nat) b,s.hrs[j]?=some b->W.cell? ⟨x.B,3+j,none⟩=some (.bool b))∧∀j,W.frozen? ⟨x.B,j,none⟩=false:=by
 have hl:=h.hl;have hc:∀j,W.cell? ⟨x.B,j,none⟩=(Gr x s)[j]?:=λj=>by
  rw[aF _ _ j _ _ _ h.blk];simp
 refine⟨(hc 0).trans rfl,(hc 1).trans rfl,(hc 2).trans rfl,?_,?_,λj b hj=> ?_,λj=> ?_⟩
 ·rw[hc];simp[Gr,hl]
 ·rw[hc];simp[Gr,hl]
 ·have hj':=(fA.1 hj).1;rw[hc];simp only[Gr,List.append_assoc];rw[List.getElem?_append_right (by simp),List.getElem?_append_left (by simp;omega)];simp[hj]
 ·simp[World.frozen?,h.blk]
def nE(x:SG)(s s':bG)(w w':World):Prop:=
 ∃x',x'.B=x.B∧m_ x' s' w'∧Fx (lC x s) w w'∧∀k,lC x' s' k->lC x s k∨(w.heap.size<=k∧k<w'.heap.size)
theorem nE.pre(hb:Below w.heap.size w w1)(h:nE x s s' w1 w'):nE x s s' w w':=by
 obtain⟨x',h1,h2,h3,h4⟩:=h;have:=hb.size;have:=h3.size;exact⟨x',h1,h2,(Fx.below hb).trans h3 λ_ _ h=>h,λk hk=>(h4 k hk).imp_right λh=>by omega⟩
theorem nE.trans{s1:bG}(h1:nE x s s1 w w1)(h2:∀x1,x1.B=x.B->m_ x1 s1 w1->nE x1 s1 s' w1 w'):nE x s s' w w':=by
 obtain⟨x1,b1,m1,f1,u1⟩:=h1;obtain⟨x2,b2,m2,f2,u2⟩:=h2 x1 b1 m1;have:=f1.size;have:=f2.size;refine⟨x2,b2.trans b1,m2,f1.trans f2 λk hk hs=>(u1 k hs).elim id λh=>by omega,λk hk=> ?_⟩;rcases u2 k hk with h|h
 ·exact(u1 k h).imp_right λh=>by omega
 ·exact .inr (by omega)
theorem nE.refl(h:m_ x s w):nE x s s w w:=⟨x,rfl,h,Fx.refl _ _,λ_ h=> .inl h⟩
theorem zY{B j:Nat}{l:List Value}{t:Nat}{v:Value}(h:W.heap[B]?=some (.cells l.toArray t (0,0))):(W.setCell ⟨B,j,none⟩ v).heap[B]?=some (.cells (l.set j v).toArray t (0,0)):=by
 simp[World.setCell,d_,h]
theorem m_.set{x':SG}(h:m_ x s W)(j:Nat)(v:Value)(hB:x'.B=x.B)(hc:Gr x' s'=(Gr x s).set j v)(hl:s'.hrs.length=6)(hj:x'.jv=x.jv∧s'.aZ=s.aZ)(hn:∀z,s'.nd=some z->s.nd=some z∧x'.N=x.N∧x'.g=x.g∧x'.TL=x.TL):
  nE x s s' W (W.setCell ⟨x.B,j,none⟩ v):=by
 have hg:W.grownBy (W.setCell ⟨x.B,j,none⟩ v) (some x.B):=ah (aB _ (some x.B)) j _;have hnd:∀z,s.nd=some z->∀k,Ft x.N x.g z k->k≠x.B:=λz hz k hk e=>by
  obtain⟨o,ho,hK⟩:=(h.nd z hz).1.kind hk;subst e;rw[h.blk]at ho;cases ho;exact hK.not (by decide)
 obtain⟨hj1,hj2⟩:=hj;refine⟨x',hB,⟨?_,hl,?_,λz hz=> ?_⟩,Fx.grown hg λk e=>by cases e;exact .inl rfl,λk hk=> .inl ?_⟩
 ·rw[hB,hc];exact zY h.blk
 ·rw[hj1,hj2];exact h.row.kept hg (.inr (aJ h.row h.blk (λc e=>(by cases e))))
 ·obtain⟨e0,e1,e2,e3⟩:=hn z hz;rw[e1,e2,e3];exact⟨(h.nd z e0).1.kept λk hk=>hg.block k ((h.nd z e0).1.lt hk) λe=>hnd z e0 k hk (Option.some.inj e),(h.nd z e0).2⟩
 ·rcases hk with hk|hk|⟨z,hz,hk⟩
  ·exact .inl (hk.trans hB)
  ·exact .inr (.inl (by rw[<-hj1];exact hk))
  ·obtain⟨e0,e1,e2,e3⟩:=hn z hz;rw[e1,e2]at hk;exact .inr (.inr ⟨z,e0,hk⟩)
theorem m_.aZ{W':World}(h:m_ x s W){v:Value}{xs:List Int}(ho:W'.ownsRow 0 5 1 v xs.length (U xs))(hg:W.grownBy W' x.jv.ownBlock)(hv:v.ownBlock=x.jv.ownBlock∨v.ownBlock=some W.heap.size∨v.ownBlock=none):
  nE x s {s with aZ:=xs} W (W'.setCell ⟨x.B,1,none⟩ v):=by
 have hne:x.jv.ownBlock≠some x.B:=aJ h.row h.blk (λc e=>(by cases e));have hB:=aD h.blk;have hsz:=hg.size;have hblk:=(hg.block _ hB λe=>hne e.symm).trans h.blk;have hg2:W'.grownBy (W'.setCell ⟨x.B,1,none⟩ v) (some x.B):=ah (aB _ (some x.B)) 1 _;have hnd:∀z,s.nd=some z->∀k,Ft x.N x.g z k->k≠x.B∧x.jv.ownBlock≠some k:=λz hz k hk=>by
  obtain⟨o,ho,hK⟩:=(h.nd z hz).1.kind hk;refine⟨λe=> ?_,λe=> ?_⟩
  ·subst e;rw[h.blk]at ho;cases ho;exact hK.not (by decide)
  ·obtain⟨c,hc⟩:=aS h.row e;rw[hc]at ho;cases ho;exact hK.not (by decide)
 have hf:Fx (lC x s) W (W'.setCell ⟨x.B,1,none⟩ v):=aV (Fx.grown hg λk e=> .inr (.inl e)) hg2 λi _ e=>by cases e;exact .inl rfl
 refine⟨{x with jv:=v},rfl,⟨?_,h.hl,?_,λz hz=> ?_⟩,hf,λk hk=> ?_⟩
 ·rw[show Gr {x with jv:=v} {s with aZ:=xs}=(Gr x s).set 1 v from rfl];exact zY hblk
 ·exact ho.kept hg2 (.inr (aJ ho hblk (λc e=>(by cases e))))
 ·refine⟨(h.nd z hz).1.kept λk hk=> ?_,(h.nd z hz).2⟩;have hlt:=(h.nd z hz).1.lt hk;obtain⟨e1,e2⟩:=hnd z hz k hk;exact(hg2.block k (by omega) λe=>e1 (Option.some.inj e)).trans (hg.block k hlt λe=>e2 e.symm)
 ·rcases hk with hk|hk|hk
  ·exact .inl (.inl hk)
  ·rcases hv with e|e|e
   ·exact .inl (.inr (.inl (by rw[<-e];exact hk)))
   ·rw[show({x with jv:=v}:SG).jv=v from rfl,e]at hk;cases hk;have h1:=(ho.lt _ e).2;exact .inr ⟨aA _,by simpa using h1⟩
   ·rw[show({x with jv:=v}:SG).jv=v from rfl,e]at hk;cases hk
  ·exact .inl (.inr (.inr hk))
theorem Gc(h:m_ x s w):Calls Tryz.prog 34 #[.pointer (some ⟨x.B,0,none⟩)] w λe w'=>e=.returned (.tuple #[])∧nE x s s.stop w w':=by
 obtain⟨c0,c1,c2,c9,c10,ch,fz⟩:=h.cell;have f2:=fz 2;have f9:=fz 9;have f10:=fz 10;have hfin:nE x s s.stop w (((w.setCell ⟨x.B,2,none⟩ (.pointer none)).setCell ⟨x.B,9,none⟩ (.bool false)).setCell ⟨x.B,10,none⟩ (.int .i64 0)):=by
  have hl:=h.hl;refine nE.trans (s1:={s with nd:=none}) (h.set (x':=x) (s':={s with nd:=none}) 2 (.pointer none) rfl rfl hl ⟨rfl,rfl⟩ (λz hz=>by cases hz)) λx1 b1 m1=> ?_;rw[show(⟨x.B,9,none⟩:Addr)=⟨x1.B,9,none⟩by rw[b1],show(⟨x.B,10,none⟩:Addr)=⟨x1.B,10,none⟩by rw[b1]];refine nE.trans (s1:={s with nd:=none,tears:=false}) (m1.set (x':=x1) (s':={s with nd:=none,tears:=false}) 9 (.bool false) rfl ?_ hl ⟨rfl,rfl⟩ (λz hz=>by cases hz)) λx2 b2 m2=> ?_
  ·simp[Gr,Pn,hl]
  ·rw[show(⟨x1.B,10,none⟩:Addr)=⟨x2.B,10,none⟩by rw[b2]];refine m2.set (x':=x2) (s':=s.stop) 10 (.int .i64 0) rfl ?_ hl ⟨rfl,rfl⟩ (λz hz=>by cases hz);simp[Gr,Pn,bG.stop,hl]
 clear h c0 c1 ch fz;go_enter Tryz.func34,Tryz.ntmps34;go_wp2;go_returns;exact⟨rfl,hfin⟩
theorem Zh(h:m_ x s w)(n:Int):Calls Tryz.prog 35 #[.pointer (some ⟨x.B,0,none⟩),.int .i64 n] w λe w'=>e=.returned (.tuple #[])∧nE x s {s with tears:=true,whole:=max 0 n} w w':=by
 obtain⟨c0,c1,c2,c9,c10,ch,fz⟩:=h.cell;have f9:=fz 9;have f10:=fz 10;have hfin:∀y,y=max 0 n->nE x s {s with tears:=true,whole:=max 0 n} w ((w.setCell ⟨x.B,9,none⟩ (.bool true)).setCell ⟨x.B,10,none⟩ (.int .i64 y)):=by
  rintro y rfl;have hl:=h.hl;refine nE.trans (s1:={s with tears:=true}) (h.set (x':=x) (s':={s with tears:=true}) 9 (.bool true) rfl ?_ hl ⟨rfl,rfl⟩ (λz hz=>⟨hz,rfl,rfl,rfl⟩)) λx1 b1 m1=> ?_
  ·simp[Gr,hl]
  ·rw[show(⟨x.B,10,none⟩:Addr)=⟨x1.B,10,none⟩by rw[b1]];refine m1.set (x':=x1) (s':={s with tears:=true,whole:=max 0 n}) 10 (.int .i64 (max 0 n)) rfl ?_ hl ⟨rfl,rfl⟩ (λz hz=>⟨hz,rfl,rfl,rfl⟩);simp[Gr,hl]
 replace hfin:=hide hfin;clear h c0 c1 ch fz;go_enter Tryz.func35,Tryz.ntmps35;go_wp2;all_goals (go_returns;exact⟨rfl,hfin.out _ (by omega)⟩)
variable{x:SG}{s:bG}{W:World}
theorem m_.drew(h:m_ x s W):m_ x s W.drew:=h.kept λ_ _=>rfl
theorem m_.later{W':World}(h:m_ x s W)(hb:Below W.heap.size W W'):m_ x s W':=h.kept λk hk=>hb.block k (h.lt hk)
theorem m_.add(h:m_ x s W){ns:List Int}{v7:Value}{w7:World}(ho:w7.ownsRow 0 5 1 v7 (s.aZ.length+ns.length) (U s.aZ++U ns))(hg:W.grownBy w7 x.jv.ownBlock)(hv:v7.ownBlock=x.jv.ownBlock∨v7.ownBlock=some W.heap.size):
  (w7.cell? ⟨x.B,1,none⟩=some x.jv∧w7.frozen? ⟨x.B,1,none⟩=false)∧nE x s {s with aZ:=s.aZ++ns} W (w7.setCell ⟨x.B,1,none⟩ v7):=by
 have hne:x.jv.ownBlock≠some x.B:=aJ h.row h.blk (λc e=>(by cases e));have hblk:=hg.block _ (aD h.blk) λe=>hne e.symm;obtain⟨_,c1,_,_,_,_,fz⟩:=h.cell;refine⟨⟨(World.cell?_of_block (a:=⟨x.B,1,none⟩) hblk).trans c1,(World.frozen?_of_block (a:=⟨x.B,1,none⟩) hblk).trans (fz 1)⟩,h.aZ (xs:=s.aZ++ns) ?_ hg (hv.imp_right .inl)⟩;rw[dx];rw[show U (s.aZ++ns)=U s.aZ++U ns by simp[U]];exact ho
theorem m_.nil(h:m_ x s W):nE x s {s with aZ:=[]} W (W.setCell ⟨x.B,1,none⟩ (.slice none 0 0)):=
 h.aZ (xs:=[]) ⟨rfl,.inl ⟨rfl,rfl⟩⟩ (aB _ _) (.inr (.inr rfl))
theorem EZ(s:ByteArray)(a b:Nat):ak (s.extract a b)=((ak s).drop a).take (b - a):=by
 simp only[ak,Go.Lib.extract_data,List.map_take,List.map_drop]
theorem Mx(s:ByteArray)(W:World):Src Tryz.prog 1 9 (.string s) s.size (U (ak s)) W:=by
 rw[<-yZ];exact Src.ofString W Tryz.underlying9 s
theorem Y1(s:ByteArray)(k:Nat)(hk:k<=s.size):(s.extract 0 k).size=k∧ak (s.extract 0 k)=(ak s).take k:=by
 refine⟨by rw[ByteArray.size_extract];omega,?_⟩;rw[EZ];simp
theorem Gb{w:World}(h:m_ x s w)(j:ByteArray)(bn:Bool)(aI bL bO:Value)(hj:j.size<=1000000)(hl:s.aZ.length<=1000000)(hw:0<=s.whole):
  Calls Tryz.prog 98 #[.pointer (some ⟨x.B,0,none⟩),ja j bn aI bL bO] w λe w'=>e=.returned (.tuple #[])∧nE x s {s with aZ:=if bn then s.aZ else s.aZ++(ak j).take s.whole.toNat} w w':=by
 obtain⟨i0,hi,hz0,hz1,hz2⟩:=info_parts vS;have hb0:Below w.heap.size w (w.alloc (.cells #[.string j,.bool bn,aI,bL,bO] 52)):=bC;have hC:=bS w (.cells #[.string j,.bool bn,aI,bL,bO] 52);have h1:=h.later hb0;obtain⟨k,hk⟩:∃k:Nat,s.whole=k:=Int.eq_ofNat_of_zero_le hw;cases bn
 ·rw[aG (by simp)];obtain⟨K,hK⟩:∃K,(min (k:Int) (j.size:Int)).toNat=K:=⟨_,rfl⟩;have hKm:K=min k j.size:=by omega
  have hle:K<=j.size:=by omega
  obtain⟨q1,q2⟩:=Y1 j K hle;have ht:(ak j).take s.whole.toNat=ak (j.extract 0 K):=by
   rw[q2,hk,hKm];simp only[jo];rw[<-bW];by_cases hkj:k<=(ak j).length
   ·rw[Nat.min_eq_left hkj]
   ·rw[Nat.min_eq_right (by omega),jE (by omega),jE (aA _)]
  rw[ht];have hsl:=bW (j.extract 0 K);rw[q1]at hsl;have hsrc:∀W,Src Tryz.prog 1 9 (.string (j.extract 0 K)) (ak (j.extract 0 K)).length (U (ak (j.extract 0 K))) W:=λW=>by rw[bW];exact Mx (j.extract 0 K) W
  have b1:Hid (s.aZ.length+(ak (j.extract 0 K)).length<=maxLen):=by show _<=_;unfold maxLen;omega
  have b2:Hid ((s.aZ.length+(ak (j.extract 0 K)).length)* 1<=140737488355328):=by show _<=_;omega
  unfold ja;go_enter Tryz.func98,Tryz.ntmps98;go_upto_region 1 with(fail);generalize World.alloc _ _=W1 at hb0 hC h1 ⊢;have hfin:=λv7 w7 (ho:w7.ownsRow 0 5 1 v7 (s.aZ.length+(ak (j.extract 0 K)).length) (U s.aZ++U (ak (j.extract 0 K)))) (hg:W1.drew.grownBy w7 x.jv.ownBlock) (hv:v7.ownBlock=x.jv.ownBlock∨v7.ownBlock=some W1.drew.heap.size)=>h1.drew.add ho hg hv;replace hfin:=hide hfin;have hb1':Below w.heap.size w W1.drew:=hb0.drew;replace hb1':=hide hb1';have hrow:=h1.drew.row;obtain⟨_,c1,_,_,c10,_,fz⟩:=h1.cell;generalize w.heap.size=C at hC hb0 ⊢;have t0:W1.cell? ⟨C,0,none⟩=some (.string j):=aF _ _ 0 _ _ _ hC;have t1:W1.cell? ⟨C,1,none⟩=some (.bool false):=aF _ _ 1 _ _ _ hC;have f1:=fz 1;rw[hk]at c10;have hmc:(min (k:Int) (j.size:Int))<=(j.size:Int):=Int.min_le_right _ _;have hm0:0<=(min (k:Int) (j.size:Int)):=by omega
  clear hC h1 fz h hk ht hw hKm hle q1 q2 hsl;replace hK:=hide hK;go_wp2_with fail;go_region_law (refine iJ rfl (.tmp 11) (.tmp 22) 58 9 rfl 0 5 i0 (.int .u8 0) 1 1 Tryz.underlying58 hi hz0 hz1 hz2 rfl x.jv s.aZ.length (U s.aZ) ?h1 hrow (.string (j.extract 0 K)) (ak (j.extract 0 K)).length (U (ak (j.extract 0 K))) ?h2 (hsrc _) b1.out b2.out (b_ _) ?_;(case h1=>simp[Act.eval,Act.put]);(case h2=>simp[Act.eval,Act.put,hK.out]);intro v7 w7 iw gV hv7;obtain⟨⟨g1,g2⟩,hm⟩:=hfin.out v7 w7 iw gV hv7;obtain⟨Ri,Vb,rfl,_⟩:=ay iw)
  all_goals
   clear g1 g2 gV iw;go_wp2;go_returns;exact⟨rfl,nE.pre hb1'.out hm⟩
 ·rw[aM rfl];unfold ja;go_enter Tryz.func98,Tryz.ntmps98;go_wp2;go_returns;exact⟨rfl,nE.pre hb0 (nE.refl h1)⟩
variable{y:MG}{m:aP}{W w:World}
theorem MM.cell(h:MM y m W):W.cell? ⟨y.G,0,none⟩=some (.int .u64 m.now)∧W.cell? ⟨y.G,1,none⟩=some y.sv∧W.cell? ⟨y.G,2,none⟩=some y.av∧∀j,W.frozen? ⟨y.G,j,none⟩=false:=
 ⟨aF _ _ 0 _ _ _ h.blk,aF _ _ 1 _ _ _ h.blk,aF _ _ 2 _ _ _ h.blk,λj=>by simp[World.frozen?,h.blk]⟩
theorem MM.svf(h:MM y m W):∃ao c,y.sv=.slice ao m.S.length c:=by
 obtain⟨ao,c,e,_⟩:=ay h.Ak;exact⟨ao,c,e⟩
theorem MM.get(h:MM y m W){i:Nat}(hi:i<m.S.length):∃x s b c,y.L[i]?=some x∧m.S[i]?=some s∧m.at' i=s∧y.sv=.slice (some ⟨b,0,none⟩) m.S.length c∧W.cell? ⟨b,i,none⟩=some (.pointer (some ⟨x.B,0,none⟩)):=by
 have hl:i<y.L.length:=by rw[h.len];exact hi
 have h1:y.L[i]?=some y.L[i]:=cK hl;have h2:m.S[i]?=some m.S[i]:=cK hi;obtain⟨b,c,e,_⟩:=bY h.Ak (by omega);refine⟨_,_,b,c,h1,h2,?_,e,?_⟩
 ·unfold aP.at';rw[List.getD_eq_getElem?_getD,h2];rfl
 ·have hs:=h.Ak;rw[e]at hs;refine(hs.cellAt i (by simpa using hi)).trans ?_;unfold LM;rw[jQ,h1];rfl
theorem VJ(h:MM y m w)(i:Int):Calls Tryz.prog 38 #[.pointer (some ⟨y.G,0,none⟩),.int .i64 i] w λe w'=>e=.returned (.bool (m.has i))∧w'=w:=by
 obtain⟨c0,c1,c2,fz⟩:=h.cell;obtain⟨ao,c,e⟩:=h.svf;rw[e]at c1;clear h e c0 c2 fz;have hm:∀b,b=m.has i->Value.bool b=Value.bool (m.has i):=by rintro _ rfl;rfl
 unfold aP.has at hm ⊢;by_cases hi:0<=i
 ·by_cases hl:i<(m.S.length:Int)
  ·have e1:(decide (0<=i)&&decide (i<(m.S.length:Int)))=true:=by simp[hi,hl]
   rw[e1]at hm ⊢;go_enter Tryz.func38,Tryz.ntmps38;go_wp2;go_ret;simp
  ·have e1:(decide (0<=i)&&decide (i<(m.S.length:Int)))=false:=by simp[hl]
   rw[e1]at hm ⊢;go_enter Tryz.func38,Tryz.ntmps38;go_wp2;go_ret;simp
 ·have e1:(decide (0<=i)&&decide (i<(m.S.length:Int)))=false:=by simp[hi]
  rw[e1]at hm ⊢;go_enter Tryz.func38,Tryz.ntmps38;go_wp2;go_ret;simp
theorem acM(h:MM y m w)(i:Int):Calls Tryz.prog 13 #[.pointer (some ⟨y.G,0,none⟩),.int .i64 i] w λe w'=>e=.returned (.bool (m.runs i))∧w'=w:=by
 obtain⟨c0,c1,c2,fz⟩:=h.cell;have HH:=hide (VJ h i);obtain⟨b,hb⟩:∃b,m.has i=b:=⟨_,rfl⟩;have hr:m.runs i=(b&&(m.at' i.toNat).nd.isSome):=by unfold aP.runs;rw[hb]
 rw[hr];rw[hb]at HH;cases b
 ·clear c0 c1 c2 fz hr;go_enter Tryz.func13,Tryz.ntmps13;go_wp2_with fail;refine aT HH.out ?_;rintro e w2 ⟨rfl,rfl⟩;go_wp2;go_ret;simp
 ·unfold aP.has at hb;simp only[eG,iL]at hb;obtain⟨k,rfl⟩:=Int.eq_ofNat_of_zero_le hb.1;have hk:k<m.S.length:=by omega
  have hk':(k:Int)<(m.S.length:Int):=by omega
  obtain⟨x,s,g,c,h1,h2,h3,e,d0⟩:=h.get hk;obtain⟨_,_,b2,_⟩:=(h.st k x s h1 h2).cell;rw[e]at c1;simp only[jo];rw[h3];clear c0 c2 fz hr h h1 h2 h3 e hb;cases hnd:s.nd with
  |none=>
   rw[hnd]at b2;unfold Pn at b2;go_enter Tryz.func13,Tryz.ntmps13;go_wp2_with fail;refine aT HH.out ?_;rintro e w2 ⟨rfl,rfl⟩;go_wp2;go_ret;simp
  |some z=>
   rw[hnd]at b2;unfold Pn at b2;go_enter Tryz.func13,Tryz.ntmps13;go_wp2_with fail;refine aT HH.out ?_;rintro e w2 ⟨rfl,rfl⟩;go_wp2;go_ret;simp
def V4(o:Op):Value:=.agg #[.int .i64 o.dK,.int .i64 o.a,.int .i64 o.b,.int .i64 o.n,.bool o.on,.string o.txt]
theorem aer{y:MG}{m:aP}{w:World}(h:MM y m w)(o:Op):Calls Tryz.prog 28 #[.pointer (some ⟨y.G,0,none⟩),V4 o] w λe w'=>e=.returned (.bool (m.may o))∧Below w.heap.size w w':=by
 have hb0:Below w.heap.size w (w.alloc (.cells #[.int .i64 o.dK,.int .i64 o.a,.int .i64 o.b,.int .i64 o.n,.bool o.on,.string o.txt] 28)):=bC;have hC:=bS w (.cells #[.int .i64 o.dK,.int .i64 o.a,.int .i64 o.b,.int .i64 o.n,.bool o.on,.string o.txt] 28);have h1:=h.later hb0;obtain⟨dK,a,b,n,on,txt⟩:=o;dsimp only at hb0 hC h1;have Ha:=hide (VJ h1 a);have Hb:=hide (VJ h1 b);have Hr:=hide (acM h1 a);unfold aP.may;dsimp only;obtain⟨ha,e1⟩:∃z,m.has a=z:=⟨_,rfl⟩;obtain⟨hb,e2⟩:∃z,m.has b=z:=⟨_,rfl⟩;obtain⟨hr,e3⟩:∃z,m.runs a=z:=⟨_,rfl⟩;rw[e1]at Ha;rw[e2]at Hb;rw[e3]at Hr;rw[e1,e2,e3];obtain⟨R,hR⟩:∃R,(if dK=1 then ha&&hb else if dK=2∨dK=8 then hr&&hb else if dK=9∨dK=10 then hr else if dK=11 then ha&&!hr else true)=R:=⟨_,rfl⟩;rw[hR];replace hR:=hide hR;clear h h1 e1 e2 e3;unfold V4;dsimp only;go_enter Tryz.func28,Tryz.ntmps28;go_upto_region 1 with(fail);generalize World.alloc _ _=W1 at hb0 hC Ha Hb Hr ⊢;generalize l5:w.heap.size=C at hC ⊢;have t0:W1.cell? ⟨C,0,none⟩=some (.int .i64 dK):=aF _ _ 0 _ _ _ hC;have t1:W1.cell? ⟨C,1,none⟩=some (.int .i64 a):=aF _ _ 1 _ _ _ hC;have t2:W1.cell? ⟨C,2,none⟩=some (.int .i64 b):=aF _ _ 2 _ _ _ hC;clear hC l5;by_cases d1:dK=1
 ·subst d1;cases ha
  ·go_wp2_with fail;refine aT Ha.out ?_;rintro e w2 ⟨rfl,rfl⟩;go_wp2;go_ret;exact⟨by rw[<-hR.out];simp[*],hb0⟩
  ·go_wp2_with fail;refine aT Ha.out ?_;rintro e w2 ⟨rfl,rfl⟩;go_wp2_with fail;refine aT Hb.out ?_;rintro e w2 ⟨rfl,rfl⟩;go_wp2;go_ret;exact⟨by rw[<-hR.out];simp[*],hb0⟩
 by_cases d2:dK=2∨dK=8
 ·cases hr
  ·rcases d2 with rfl|rfl<;>
   ·go_wp2_with fail;refine aT Hr.out ?_;rintro e w2 ⟨rfl,rfl⟩;go_wp2;go_ret;exact⟨by rw[<-hR.out];simp[*],hb0⟩
  ·rcases d2 with rfl|rfl<;>
   ·go_wp2_with fail;refine aT Hr.out ?_;rintro e w2 ⟨rfl,rfl⟩;go_wp2_with fail;refine aT Hb.out ?_;rintro e w2 ⟨rfl,rfl⟩;go_wp2;go_ret;exact⟨by rw[<-hR.out];simp[*],hb0⟩
 by_cases d3:dK=9∨dK=10
 ·rcases d3 with rfl|rfl<;>
  ·go_wp2_with fail;refine aT Hr.out ?_;rintro e w2 ⟨rfl,rfl⟩;go_wp2;go_ret;exact⟨by rw[<-hR.out];simp[*],hb0⟩
 by_cases d4:dK=11
 ·subst d4;cases ha
  ·go_wp2_with fail;refine aT Ha.out ?_;rintro e w2 ⟨rfl,rfl⟩;go_wp2;go_ret;exact⟨by rw[<-hR.out];simp[*],hb0⟩
  ·go_wp2_with fail;refine aT Ha.out ?_;rintro e w2 ⟨rfl,rfl⟩;go_wp2_with fail;refine aT Hr.out ?_;rintro e w2 ⟨rfl,rfl⟩;go_wp2;go_ret;exact⟨by rw[<-hR.out];simp[*],hb0⟩
 ·simp only[not_or]at d2 d3;obtain⟨d21,d22⟩:=d2;obtain⟨d31,d32⟩:=d3;go_wp2;go_ret;exact⟨by rw[<-hR.out];simp[*],hb0⟩
theorem wZ(j:ByteArray):(j.size=0->j.toList=[])∧(j.size≠0->¬j.toList=[]):=by
 have h:=UQ j;constructor
 ·intro e;rw[gu e]at h;exact List.isEmpty_iff.1 h
 ·intro e k;rw[k,fE e]at h;cases h
theorem CR(j:ByteArray)(bn:Bool)(fa ca da:Option Addr)(fn fc cn cc dn dc:Nat)(hb:fn+cn+dn<=1000000)(w:World):Calls Tryz.prog 66 #[ja j bn (.slice fa fn fc) (.slice ca cn cc) (.slice da dn dc)] w λe w'=>e=.returned (.bool (decide (j.size=0)&&!bn&&decide (fn+cn+dn=0)))∧Below w.heap.size w w':=by
 have hb0:Below w.heap.size w (w.alloc (.cells #[.string j,.bool bn,.slice fa fn fc,.slice ca cn cc,.slice da dn dc] 52)):=bC;have w1:wrap64 ((fn:Int)+(cn:Int))=(fn:Int)+(cn:Int):=by unfold wrap64;omega
 have w2:wrap64 ((fn:Int)+(cn:Int)+(dn:Int))=(fn:Int)+(cn:Int)+(dn:Int):=by unfold wrap64;omega
 have e0:((fn:Int)+(cn:Int)+(dn:Int)==0)=decide (fn+cn+dn=0):=by
  by_cases h:fn+cn+dn=0
  ·have:(fn:Int)+(cn:Int)+(dn:Int)=0:=by omega
   simp[h,this]
  ·have:¬(fn:Int)+(cn:Int)+(dn:Int)=0:=by omega
   rw[fE h];simpa using this
 obtain⟨r,hr⟩:∃r,decide (fn+cn+dn=0)=r:=⟨_,rfl⟩;rw[hr]at e0 ⊢;clear hr hb;obtain⟨q1,q2⟩:=wZ j;unfold ja;by_cases hj:j.size=0
 ·have hj':=q1 hj;rw[gu hj];clear q1 q2 hj;cases bn
  ·go_enter Tryz.func66,Tryz.ntmps66;go_wp2;go_ret;exact⟨by simp,hb0⟩
  ·go_enter Tryz.func66,Tryz.ntmps66;go_wp2;go_ret;exact⟨by simp,hb0⟩
 ·have hj':=q2 hj;rw[fE hj];clear q1 q2 hj;cases bn
  ·go_enter Tryz.func66,Tryz.ntmps66;go_wp2;go_ret;exact⟨by simp,hb0⟩
  ·go_enter Tryz.func66,Tryz.ntmps66;go_wp2;go_ret;exact⟨by simp,hb0⟩
variable{o:Ot}{x:SG}{s:bG}{w:World}
theorem II{L:List (Bool×Int×Int)}(hb:qy L):ak (strOfNums (bB L))=bB L∧(strOfNums (bB L)).size=13 * L.length:=by
 have h:=tV (FR hb);refine⟨h,?_⟩;rw[<-bW,h,iE]
theorem bG.ol(h1:o.bg=[])(h2:o.bn=false):s.write o=(s,true):=by
 unfold bG.write;rw[h1,h2];rfl
theorem bG.o6(h1:o.bg≠ []∨o.bn=true)(ht:s.tears=true):s.write o=({s with aZ:=if o.bn then s.aZ else s.aZ++(bB o.bg).take s.whole.toNat}.stop,false):=by
 unfold bG.write;rw[aG (by
  rcases h1 with h|h
  ·cases hn:o.bg with
   |nil=>exact absurd hn h
   |cons a l=>simp
  ·simp[h]),aM ht]
theorem bG.jX(h1:o.bg≠ []∨o.bn=true)(ht:s.tears=false):s.write o=({s with aZ:=(if o.bn then []else s.aZ)++bB o.bg},true):=by
 unfold bG.write;rw[aG (by
  rcases h1 with h|h
  ·cases hn:o.bg with
   |nil=>exact absurd hn h
   |cons a l=>simp
  ·simp[h]),aG (by simp[ht])]
theorem nE.comp{x1:SG}{s1 s':bG}{w1 w':World}(b1:x1.B=x.B)(f1:Fx (lC x s) w w1)(u1:∀k,lC x1 s1 k->lC x s k∨(w.heap.size<=k∧k<w1.heap.size))(h2:nE x1 s1 s' w1 w'):nE x s s' w w':=by
 obtain⟨x2,b2,m2,f2,u2⟩:=h2;have:=f1.size;have:=f2.size;refine⟨x2,b2.trans b1,m2,f1.trans f2 λk hk hs=>(u1 k hs).elim id λh=>by omega,λk hk=> ?_⟩;rcases u2 k hk with h|h
 ·exact(u1 k h).imp_right λh=>by omega
 ·exact .inr (by omega)
theorem JC(h:m_ x s w)(o:Ot)(aI bL bO:Value)(hb:qy o.bg)(hl:o.bg.length<=50000)(hj:s.aZ.length<=1000000)(hw:0<=s.whole):
  Calls Tryz.prog 62 #[.pointer (some ⟨x.B,0,none⟩),ja (strOfNums (bB o.bg)) o.bn aI bL bO] w λe w'=>e=.returned (.bool (s.write o).2)∧nE x s (s.write o).1 w w':=by
 obtain⟨i0,hi,hz0,hz1,hz2⟩:=info_parts vS;obtain⟨j1,j2⟩:=II hb;have hb0:Below w.heap.size w (w.alloc (.cells #[.string (strOfNums (bB o.bg)),.bool o.bn,aI,bL,bO] 52)):=bC;have hC:=bS w (.cells #[.string (strOfNums (bB o.bg)),.bool o.bn,aI,bL,bO] 52);have h1:=h.later hb0;by_cases hno:o.bg=[]∧o.bn=false
 ·rw[bG.ol hno.1 hno.2];have hs0:(strOfNums (bB o.bg)).size=0:=by rw[j2,hno.1];rfl
  have q1:=(wZ _).1 hs0;rw[hno.2]at hb0 hC h1 ⊢;generalize strOfNums (bB o.bg)=j at hb0 hC h1 q1 ⊢;have hfin:=nE.pre hb0 (nE.refl h1);clear h hno hs0 j1 j2 hC h1 hb0;unfold ja;go_enter Tryz.func62,Tryz.ntmps62;go_wp2;go_ret;exact⟨rfl,hfin⟩
 have hno':o.bg≠ []∨o.bn=true:=by
  by_cases e:o.bg=[]
  ·refine .inr ?_;cases hr:o.bn
   ·exact absurd ⟨e,hr⟩ hno
   ·rfl
  ·exact .inl e
 have hg:(strOfNums (bB o.bg)).toList=[]->o.bn=true:=λe=>by
  rcases hno' with h|h
  ·refine absurd e ((wZ _).2 ?_);rw[j2];have:=List.length_pos_iff.2 h;omega
  ·exact h
 cases ht:s.tears
 ·rw[bG.jX hno' ht];have hsrc:=λW=>Mx (strOfNums (bB o.bg)) W;have hjs:(strOfNums (bB o.bg)).size<=1000000:=by omega
  rw[j1]at hsrc;obtain⟨nsz,abk⟩:∃n,(strOfNums (bB o.bg)).size=n:=⟨_,rfl⟩;have hfl:(bB o.bg).length=nsz:=by rw[iE,<-j2,abk]
  rw[abk]at hsrc hjs;clear hno hno' h hb hl j1 j2 abk;generalize strOfNums (bB o.bg)=j at hb0 hC h1 hsrc hg ⊢;generalize bB o.bg=ns at hsrc hfl ⊢;obtain⟨_,c1,_,c9,_,_,fz⟩:=h1.cell;rw[ht]at c9;have f1:=fz 1;have hlen:s.aZ.length+nsz<=maxLen:=by unfold maxLen;omega
  have adH:(s.aZ.length+nsz)* 1<=140737488355328:=by omega
  replace hsrc:=hide hsrc;cases hr:o.bn
  ·rw[hr]at hb0 hC h1 hg c1 c9 f1;have hg':¬j.toList=[]:=λe=>by cases hg e
   simp only[Bool.false_eq_true,if_false];clear fz hg;unfold ja;go_enter Tryz.func62,Tryz.ntmps62;go_upto_region 1 with(fail);generalize World.alloc _ _=W1 at hb0 hC h1 c1 c9 f1 ⊢;have hrow:=h1.drew.row;have hfin:=λv7 w7 (ho:w7.ownsRow 0 5 1 v7 (s.aZ.length+ns.length) (U s.aZ++U ns)) (hg:W1.drew.grownBy w7 x.jv.ownBlock) (hv:v7.ownBlock=x.jv.ownBlock∨v7.ownBlock=some W1.drew.heap.size)=>nE.pre hb0.drew (h1.drew.add ho hg hv).2;have hkp:=λv7 w7 (ho:w7.ownsRow 0 5 1 v7 (s.aZ.length+ns.length) (U s.aZ++U ns)) (hg:W1.drew.grownBy w7 x.jv.ownBlock) (hv:v7.ownBlock=x.jv.ownBlock∨v7.ownBlock=some W1.drew.heap.size)=>(h1.drew.add ho hg hv).1;rw[hfl]at hfin hkp;replace hfin:=hide hfin;replace hkp:=hide hkp;generalize w.heap.size=C at hC ⊢;have t0:W1.cell? ⟨C,0,none⟩=some (.string j):=aF _ _ 0 _ _ _ hC;have t1:W1.cell? ⟨C,1,none⟩=some (.bool false):=aF _ _ 1 _ _ _ hC;clear hC h1 hb0 hfl ht hr;go_upto_region 9 with(fail);go_region_law (refine iJ rfl (.tmp 31) (.tmp 33) 58 9 rfl 0 5 i0 (.int .u8 0) 1 1 Tryz.underlying58 hi hz0 hz1 hz2 rfl x.jv s.aZ.length (U s.aZ) ?h1 hrow (.string j) nsz (U ns) ?h2 (hsrc.out _) hlen adH (b_ _) ?_;(case h1=>simp[Act.eval]);(case h2=>simp[Act.eval]);intro v7 w7 iw gV hv7;obtain⟨g1,g2⟩:=hkp.out v7 w7 iw gV hv7;have hm:=hfin.out v7 w7 iw gV hv7;obtain⟨Ri,Vb,rfl,_⟩:=ay iw)
   all_goals
    clear g1 g2 gV iw;go_wp2;go_ret;exact⟨rfl,hm⟩
  ·rw[hr]at hb0 hC h1 hg c1 c9 f1;simp only[if_true];clear fz hg;unfold ja;go_enter Tryz.func62,Tryz.ntmps62;go_upto_region 1 with(fail);generalize World.alloc _ _=W1 at hb0 hC h1 c1 c9 f1 ⊢;have hn:=h1.nil;have hB:=aD h1.blk;generalize l5:w.heap.size=C at hC ⊢;have hne:x.B≠C:=λe=>by
    have h2:=h1.blk;rw[e,hC]at h2;cases h2
   have t0:W1.cell? ⟨C,0,none⟩=some (.string j):=aF _ _ 0 _ _ _ hC;have t1:W1.cell? ⟨C,1,none⟩=some (.bool true):=aF _ _ 1 _ _ _ hC;have hg2:W1.grownBy (W1.setCell ⟨x.B,1,none⟩ (.slice none 0 0)) (some x.B):=ah (aB _ (some x.B)) 1 _;have t2:(W1.setCell ⟨x.B,1,none⟩ (.slice none 0 0)).cell? ⟨C,0,none⟩=some (.string j):=(World.cell?_of_block (a:=⟨C,0,none⟩) (hg2.block C (aD hC) λe=>hne (Option.some.inj e).symm)).trans t0;have hc1:(W1.setCell ⟨x.B,1,none⟩ (.slice none 0 0)).cell? ⟨x.B,1,none⟩=some (.slice none 0 0):=by
    have hb:=zY (j:=1) (v:=.slice none 0 0) h1.blk;exact(aF _ _ 1 _ _ _ hb).trans (by simp[Gr])
   obtain⟨x1,b1,m1,k1,u1⟩:=hn;have hjv:x1.jv=.slice none 0 0:=by
    have c:=m1.cell.2.1;rw[b1,hc1]at c;exact(Option.some.inj c).symm
   have hf2:=(m1.drew.cell.2.2.2.2.2.2 1);rw[b1]at hf2;have hfin:=λv7 w7 (ho:w7.ownsRow 0 5 1 v7 (0+nsz) ([]++U ns)) (hg:(W1.setCell ⟨x.B,1,none⟩ (.slice none 0 0)).drew.grownBy w7 (Value.slice none 0 0).ownBlock) (hv:v7.ownBlock=(Value.slice none 0 0).ownBlock∨v7.ownBlock=some (W1.setCell ⟨x.B,1,none⟩ (.slice none 0 0)).drew.heap.size)=>(show(w7.cell? ⟨x.B,1,none⟩=some (.slice none 0 0)∧w7.frozen? ⟨x.B,1,none⟩=false)∧nE x s {s with aZ:=[]++ns} w (w7.setCell ⟨x.B,1,none⟩ v7)from by
    obtain⟨q1,q2⟩:=m1.drew.add (ns:=ns) (v7:=v7) (w7:=w7) (by rw[hfl];exact ho) (by rw[hjv];exact hg) (by rw[hjv];exact hv);rw[b1,hjv]at q1;rw[b1]at q2;exact⟨q1,nE.pre hb0 (nE.comp b1 (k1.trans (Fx.below (S:=lC x s) (aU _ _).drew) (λ_ _ h=>h)) u1 q2)⟩)
   have hrow:(W1.setCell ⟨x.B,1,none⟩ (.slice none 0 0)).drew.ownsRow 0 5 1 (.slice none 0 0) 0 []:=⟨rfl,.inl ⟨rfl,rfl⟩⟩;have hfz:=(m1.cell.2.2.2.2.2.2 1);rw[b1]at hfz;clear hC ht hr hb0 hB hg2 k1 u1 h1 m1 hne hfl;replace hfin:=hide hfin;have hnl:(Value.slice none 0 0).ownBlock=none:=rfl;by_cases hje:j.toList=[]
   ·go_upto_region 9 with(fail);go_region_law (refine iJ rfl (.tmp 31) (.tmp 33) 58 9 rfl 0 5 i0 (.int .u8 0) 1 1 Tryz.underlying58 hi hz0 hz1 hz2 rfl (.slice none 0 0) 0 [] ?h1 hrow (.string j) nsz (U ns) ?h2 (hsrc.out _) ?h3 ?h4 (b_ _) ?_;(case h1=>simp[Act.eval]);(case h2=>simp[Act.eval]);(case h3=>omega);(case h4=>omega);intro v7 w7 iw gV hv7;obtain⟨⟨g1,g2⟩,hm⟩:=hfin.out v7 w7 iw gV hv7;rw[Nat.zero_add]at iw;obtain⟨Ri,Vb,rfl,_⟩:=ay iw)
    all_goals
     clear g1 g2 gV iw;go_wp2;go_ret;exact⟨rfl,hm⟩
   ·go_upto_region 9 with(fail);go_region_law (refine iJ rfl (.tmp 31) (.tmp 33) 58 9 rfl 0 5 i0 (.int .u8 0) 1 1 Tryz.underlying58 hi hz0 hz1 hz2 rfl (.slice none 0 0) 0 [] ?h1 hrow (.string j) nsz (U ns) ?h2 (hsrc.out _) ?h3 ?h4 (b_ _) ?_;(case h1=>simp[Act.eval]);(case h2=>simp[Act.eval]);(case h3=>omega);(case h4=>omega);intro v7 w7 iw gV hv7;obtain⟨⟨g1,g2⟩,hm⟩:=hfin.out v7 w7 iw gV hv7;rw[Nat.zero_add]at iw;obtain⟨Ri,Vb,rfl,_⟩:=ay iw)
    all_goals
     clear g1 g2 gV iw;go_wp2;go_ret;exact⟨rfl,hm⟩
 ·rw[bG.o6 hno' ht];have hjs:(strOfNums (bB o.bg)).size<=1000000:=by omega
  obtain⟨_,c1,_,c9,_,_,fz⟩:=h1.cell;rw[ht]at c9;have HW:=Gb h1 (strOfNums (bB o.bg)) o.bn aI bL bO hjs hj hw;rw[j1]at HW;replace HW:=hide HW;clear hno hno' h hb hl j1 j2 hjs c1 fz hi hz0 hz1 hz2;generalize strOfNums (bB o.bg)=j at hb0 hC h1 hg HW c9 ⊢;obtain⟨s1,hs1⟩:∃s1,({s with aZ:=if o.bn then s.aZ else s.aZ++(bB o.bg).take s.whole.toNat}:bG)=s1:=⟨_,rfl⟩;rw[hs1]at HW ⊢;clear hs1;generalize o.bn=rp at hb0 hC h1 hg HW c9 ⊢;clear h1;unfold ja at HW ⊢;go_enter Tryz.func62,Tryz.ntmps62;go_upto_region 1 with(fail);generalize World.alloc _ _=W1 at hb0 hC HW c9 ⊢;generalize l5:w.heap.size=C at hC ⊢;have t0:W1.cell? ⟨C,0,none⟩=some (.string j):=aF _ _ 0 _ _ _ hC;have t1:W1.cell? ⟨C,1,none⟩=some (.bool rp):=aF _ _ 1 _ _ _ hC;have t2:W1.cell? ⟨C,2,none⟩=some aI:=aF _ _ 2 _ _ _ hC;have t3:W1.cell? ⟨C,3,none⟩=some bL:=aF _ _ 3 _ _ _ hC;have t4:W1.cell? ⟨C,4,none⟩=some bO:=aF _ _ 4 _ _ _ hC;clear hC l5;by_cases hje:j.toList=[]
  ·obtain rfl:=hg hje;clear hg;go_wp2_with fail;refine aT HW.out ?_;rintro e w2 ⟨rfl,hm⟩;obtain⟨x1,b1,m1,k1,u1⟩:=hm;have HS:=Gc m1;rw[b1]at HS;replace HS:=hide HS;clear HW m1 c9 t0 t1 t2 t3 t4;go_wp2_with fail;refine aT HS.out ?_;rintro e w3 ⟨rfl,hm⟩;have hfin:=nE.pre hb0 (nE.comp b1 k1 u1 hm);clear HS hm k1 u1 hb0;go_wp2;go_ret;exact⟨rfl,hfin⟩
  ·clear hg;go_wp2_with fail;refine aT HW.out ?_;rintro e w2 ⟨rfl,hm⟩;obtain⟨x1,b1,m1,k1,u1⟩:=hm;have HS:=Gc m1;rw[b1]at HS;replace HS:=hide HS;clear HW m1 c9 t0 t1 t2 t3 t4;go_wp2_with fail;refine aT HS.out ?_;rintro e w3 ⟨rfl,hm⟩;have hfin:=nE.pre hb0 (nE.comp b1 k1 u1 hm);clear HS hm k1 u1 hb0;go_wp2;go_ret;exact⟨rfl,hfin⟩
variable{bn:Bool}{j:ByteArray}{a:Int}{aR aH:List (Int×ByteArray)}{aQ xs:List Int}{B N b:Nat}{o:Obj}{x:SG}{s:bG}{bL bO aI jv:Value}{W W' W0 W1 w w2:World}
theorem uL{n D:Nat}{a:World}(h:Below n a w)(hD:n<=D)(v0 v1 v2 v3 v4:Value):Below n a (((((w.setCell ⟨D,0,none⟩ v0).setCell ⟨D,1,none⟩ v1).setCell ⟨D,2,none⟩ v2).setCell ⟨D,3,none⟩ v3).setCell ⟨D,4,none⟩ v4):=
 ((((h.setCell (p:=⟨D,0,none⟩) hD _).setCell (p:=⟨D,1,none⟩) hD _).setCell (p:=⟨D,2,none⟩) hD _).setCell (p:=⟨D,3,none⟩) hD _).setCell (p:=⟨D,4,none⟩) hD _
def qd(D:Nat)(j:ByteArray)(bn:Bool)(aI bL bO:Value)(W:World):Prop:=W.heap[D]?=some (.cells #[.string j,.bool bn,aI,bL,bO] 52)
theorem qd.OP{D:Nat}{j':ByteArray}{aaA:Bool}{ab2 acj ab9:Value}(h:qd D j bn aI bL bO w):qd D j' aaA ab2 acj ab9 (((((w.setCell ⟨D,0,none⟩ (.string j')).setCell ⟨D,1,none⟩ (.bool aaA)).setCell ⟨D,2,none⟩ ab2).setCell ⟨D,3,none⟩ acj).setCell ⟨D,4,none⟩ ab9):=by
 unfold qd at h ⊢;simp[World.setCell,d_,h]
theorem qd.cell{D:Nat}(h:qd D j bn aI bL bO W):W.cell? ⟨D,0,none⟩=some (.string j)∧W.cell? ⟨D,1,none⟩=some (.bool bn)∧W.cell? ⟨D,2,none⟩=some aI∧W.cell? ⟨D,3,none⟩=some bL∧W.cell? ⟨D,4,none⟩=some bO∧∀i,W.frozen? ⟨D,i,none⟩=false:=
 ⟨aF _ _ 0 _ _ _ h,aF _ _ 1 _ _ _ h,aF _ _ 2 _ _ _ h,aF _ _ 3 _ _ _ h,aF _ _ 4 _ _ _ h,λi=>lX W D i _ _ h⟩
theorem uG(w:World)(D:Nat)(v0 v1 v2 v3 v4:Value):w.grownBy (((((w.setCell ⟨D,0,none⟩ v0).setCell ⟨D,1,none⟩ v1).setCell ⟨D,2,none⟩ v2).setCell ⟨D,3,none⟩ v3).setCell ⟨D,4,none⟩ v4) (some D):=
 ah (ah (ah (ah (ah (aB w (some D)) 0 v0) 1 v1) 2 v2) 3 v3) 4 v4
structure iG(b:Nat)(aH aR:List (Int×ByteArray))(aQ:List Int)(aI bL bO:Value)(W:World):Prop where
 aI:W.ownsRow b 77 2 aI aH.length (uN aH)
 bL:W.ownsRow b 56 2 bL aR.length (uN aR)
 bO:W.ownsRow b 195 1 bO aQ.length (J8 aQ)
theorem iG.at(h:iG b aH aR aQ aI bL bO W)(he:∀(k:Nat) (c:Array Value) (t:Nat),t∈([77,56,195]:List Nat)->W.heap[k]?=some (Obj.cells c t (0,0))->W'.heap[k]?=W.heap[k]?):iG b aH aR aQ aI bL bO W':=by
 refine⟨bP h.aI λk hk=> ?_,bP h.bL λk hk=> ?_,bP h.bO λk hk=> ?_⟩
 ·obtain⟨c,hc⟩:=aS h.aI hk;exact he k c 77 (by decide) hc
 ·obtain⟨c,hc⟩:=aS h.bL hk;exact he k c 56 (by decide) hc
 ·obtain⟨c,hc⟩:=aS h.bO hk;exact he k c 195 (by decide) hc
theorem iG.later(h:iG b aH aR aQ aI bL bO W)(hb:Below W.heap.size W W'):iG b aH aR aQ aI bL bO W':=h.at λk _ _ _ hk=>hb.block k (aD hk)
theorem iG.lower{b':Nat}(h:iG b aH aR aQ aI bL bO W)(hb:b'<=b):iG b' aH aR aQ aI bL bO W:=⟨ownsRow_base_a h.aI hb,ownsRow_base_a h.bL hb,ownsRow_base_a h.bO hb⟩
structure Ck(z:St)(b:Nat)(N:Nat)(g:bI)(aI bL bO:Value)(W:World):Prop where
 nn:Nn N g z [] W
 out:iG b z.aH z.aR z.aQ aI bL bO W
 ge:∀k,Ft N g z k->b<=k
theorem Ck.set{z:St}{D:Nat}{g:bI}(h:Ck z b N g aI bL bO W){c:Array Value}(hD:W.heap[D]?=some (.cells c 52 (0,0)))(hg:W.grownBy W' (some D)):Ck z b N g aI bL bO W':=by
 refine⟨h.nn.kept λk hk=>hg.block k (h.nn.lt hk) λe=> ?_,h.out.at λk c' t ht hk=>hg.block k (aD hk) λe=> ?_,h.ge⟩
 ·cases e;obtain⟨o,ho,hK⟩:=h.nn.kind hk;rw[hD]at ho;cases ho;exact hK.not (by decide)
 ·cases e;rw[hD]at hk;cases hk;exact absurd ht (by decide)
theorem Ck.later{z:St}{g:bI}(h:Ck z b N g aI bL bO W)(hb:Below W.heap.size W W'):Ck z b N g aI bL bO W':=⟨h.nn.later hb,h.out.later hb,h.ge⟩
def VX(z:St)(W1:World)(nv ov:Value)(W:World):Prop:=∃N g aI bL bO D,nv=.pointer (some ⟨N,0,none⟩)∧ov=.pointer (some ⟨D,0,none⟩)∧qd D z.aZ z.bn aI bL bO W∧Ck z W1.heap.size N g aI bL bO W∧W1.heap.size<=D∧Below W1.heap.size W1 W
theorem Li{z:St}{g:bI}(hb:Below W1.heap.size W1 w2)(h:Ck z W1.heap.size N g aI bL bO w2):VX z W1 (.pointer (some ⟨N,0,none⟩)) (.pointer (some ⟨w2.heap.size,0,none⟩)) (w2.alloc (.cells #[.string z.aZ,.bool z.bn,aI,bL,bO] 52)):=
 ⟨N,g,aI,bL,bO,_,rfl,rfl,bS _ _,h.later (bC),hb.size,hb.alloc hb.size _⟩
theorem Vd{z:St}{g:bI}{j0:ByteArray}{r0:Bool}{f0 c0 d0:Value}(hb:Below W1.heap.size W1 w2)(h:Ck z W1.heap.size N g aI bL bO w2)(hD:Hid (qd W1.heap.size j0 r0 f0 c0 d0 w2)):VX z W1 (.pointer (some ⟨N,0,none⟩)) (.pointer (some ⟨W1.heap.size,0,none⟩)) (((((w2.setCell ⟨W1.heap.size,0,none⟩ (.string z.aZ)).setCell ⟨W1.heap.size,1,none⟩ (.bool z.bn)).setCell ⟨W1.heap.size,2,none⟩ aI).setCell ⟨W1.heap.size,3,none⟩ bL).setCell ⟨W1.heap.size,4,none⟩ bO):=
 ⟨N,g,aI,bL,bO,_,rfl,rfl,hD.out.OP,h.set hD.out (uG _ _ _ _ _ _ _),aA _,uL hb (aA _) _ _ _ _ _⟩
theorem MR(W:World):qd W.heap.size ⟨#[]⟩ false (.slice none 0 0) (.slice none 0 0) (.slice none 0 0) (W.alloc (.cells #[.string ⟨#[]⟩,.bool false,.slice none 0 0,.slice none 0 0,.slice none 0 0] 52)).drew:=bS W _
@[reducible] def JG(B : Nat)(a : Int)(jv : Value)(W0 W : World): Prop := (W.cell? ⟨B, 0, none⟩ = some (.int .u32 a) ∧ W.cell? ⟨B, 1, none⟩ = some jv) ∧ Below W0.heap.size W0 W
theorem JG.of(h:m_ x s W0)(hb:Below W0.heap.size W0 W):JG x.B s.addr x.jv W0 W:=⟨⟨(h.later hb).cell.1,(h.later hb).cell.2.1⟩,hb⟩
theorem JG.kG(hk:Hid (∀W5,Below W0.heap.size W0 W5->JG B a jv W0 W5))(h:Below W0.heap.size W0 W):JG B a jv W0 (W.alloc o):=hk.out _ (h.alloc h.size _)
theorem JG.eY(hk:Hid (∀W5,Below W0.heap.size W0 W5->JG B a jv W0 W5)):JG B a jv W0 (W0.alloc o).drew:=hk.out _ (bC).drew
theorem JG.TD{v0 v1 v2 v3 v4:Value}(hk:Hid (∀W5,Below W0.heap.size W0 W5->JG B a jv W0 W5))(h:Below W0.heap.size W0 W):JG B a jv W0 (((((W.setCell ⟨W0.heap.size,0,none⟩ v0).setCell ⟨W0.heap.size,1,none⟩ v1).setCell ⟨W0.heap.size,2,none⟩ v2).setCell ⟨W0.heap.size,3,none⟩ v3).setCell ⟨W0.heap.size,4,none⟩ v4):=hk.out _ (uL h (aA _) _ _ _ _ _)
structure Gq(s:bG)(now:Int):Prop where
 addr:a_ s.addr
 a0:s.addr≠0
 jb:∀x∈s.aZ,0<=x∧x<=255
 jl:s.aZ.length<=50000
 few:Zt (Go.Proofs.YtakaadcpaeiccabGreat.jl s.aZ)
 now:0<=now∧now<=4611686018427387904
theorem MK:∀(f:Nat) (xs:List Int),(Ku f xs).length<=f
 |0,_=>aA _
 |f+1,xs=>by
  unfold Ku;split
  ·have:=MK f (xs.drop 13);simp only[dY];omega
  ·simp
theorem aaX(xs:List Int):(jl xs).length<=xs.length:=MK _ _
theorem rJ(h:∀x∈xs,0<=x∧x<=255)(i:Nat):0<=xs.getD i 0∧xs.getD i 0<=255:=by
 rw[List.getD_eq_getElem?_getD];cases hi:xs[i]? with
 |none=>simp
 |some v=>exact h v (gH hi)
theorem RZ:∀(f:Nat) (xs:List Int),(∀x∈xs,0<=x∧x<=255)->qy (Ku f xs)
 |0,_,_=>λ_ h=>by cases h
 |f+1,xs,h=>by
  unfold Ku;split
  ·intro x hx;rcases eF.1 hx with rfl|hx
   ·exact⟨uz (rJ h _) (rJ h _) (rJ h _) (rJ h _),uz (rJ h _) (rJ h _) (rJ h _) (rJ h _)⟩
   ·exact RZ f (xs.drop 13) (λx hx=>h x (List.mem_of_mem_drop hx)) x hx
  ·intro x hx;cases hx
theorem TG(h:∀x∈xs,0<=x∧x<=255):qy (jl xs):=RZ _ _ h
theorem QG(h:m_ x s W1)(now:Int)(hs:Gq s now):∀W5,Below W1.heap.size W1 W5->Calls Tryz.prog 19 #[.int .u32 s.addr,x.jv,.int .u64 now] W5 λe w'=>∃N g af kf ac kc ad kd,e=.returned (.tuple #[.pointer (some ⟨N,0,none⟩),.agg #[.string (St.new s.addr s.aZ now).aZ,.bool (St.new s.addr s.aZ now).bn,.slice af (St.new s.addr s.aZ now).aH.length kf,.slice ac (St.new s.addr s.aZ now).aR.length kc,.slice ad (St.new s.addr s.aZ now).aQ.length kd],.int .i64 0])∧Below W1.heap.size W1 w'∧(∀j r f c d,qd W1.heap.size j r f c d W5->qd W1.heap.size j r f c d w')∧Ck (St.new s.addr s.aZ now) W1.heap.size N g (.slice af (St.new s.addr s.aZ now).aH.length kf) (.slice ac (St.new s.addr s.aZ now).aR.length kc) (.slice ad (St.new s.addr s.aZ now).aQ.length kd) w':=by
 intro W5 hb;refine(QU s.addr now hs.addr hs.a0 x.jv s.aZ W5 (qX (h.later hb).row hs.jb) (by have:=hs.jl;omega) (TG hs.jb) hs.few (by have:=aaX s.aZ;have:=hs.jl;omega) hs.now).mono ?_;rintro e w' ⟨N,g,aI,bL,bO,rfl,nn,r1,r2,r3,hb',hge⟩;have:=hb.size;obtain⟨af,kf,rfl,_⟩:=ay r1;obtain⟨ac,kc,rfl,_⟩:=ay r2;obtain⟨ad,kd,rfl,_⟩:=ay r3;exact⟨N,g,af,kf,ac,kc,ad,kd,rfl,hb.trans (hb'.mono hb.size),λj r f c d ho=>(hb'.block _ (aD (show W5.heap[W1.heap.size]?=_ from ho))).trans ho,nn,(⟨r1,r2,r3⟩:iG _ _ _ _ _ _ _ w').lower hb.size,λk hk=>by have:=hge k hk;omega⟩
theorem Od(h:m_ x s w)(hnd:s.nd=none)(now:Int)(hs:Gq s now):Calls Tryz.prog 37 #[.pointer (some ⟨x.B,0,none⟩),.int .u64 now] w λe w'=>∃aI bL bO,e=.returned (ja (St.new s.addr s.aZ now).aZ (St.new s.addr s.aZ now).bn aI bL bO)∧nE x s {s with nd:=some (St.new s.addr s.aZ now)} w w'∧iG w.heap.size (St.new s.addr s.aZ now).aH (St.new s.addr s.aZ now).aR (St.new s.addr s.aZ now).aQ aI bL bO w':=by
 have hb0:Below w.heap.size w (w.alloc (.cells #[.string ⟨#[]⟩,.bool false,.slice none 0 0,.slice none 0 0,.slice none 0 0] 52)):=bC;have hC:=bS w (.cells #[.string ⟨#[]⟩,.bool false,.slice none 0 0,.slice none 0 0,.slice none 0 0] 52);have h1:=h.later hb0;have hQz:(St.new s.addr s.aZ now).Q=[]:=by rw[St.uy,(aO _).Q];rfl
 have HN0:=hide (λW1 (h1:m_ x s W1)=>QG h1 now hs);obtain⟨z,hz⟩:∃z,St.new s.addr s.aZ now=z:=⟨_,rfl⟩;rw[hz]at hQz HN0 ⊢;clear hz;replace hQz:=hide hQz;go_enter Tryz.func37,Tryz.ntmps37;go_upto_region 1 with(fail);generalize World.alloc _ _=W1 at hb0 hC h1 ⊢;have HN:=hide (HN0.out W1 h1);clear HN0;have hkB:=(show Hid _ from λW5 (h5:Below W1.heap.size W1 W5)=>JG.of h1 h5);have hS:JG x.B s.addr x.jv W1 W1.drew:=hkB.out _ (aU _ _).drew;have hwC:w.heap.size<W1.heap.size:=aD hC;go_cut [5,6]from 9 to 21 (VX z W1)
 case first=>
  clear hs hnd h h1 hb0 hC;go_region_held3 (JG x.B s.addr x.jv W1) (first|with_reducible exact hS|with_reducible assumption|(with_reducible apply JG.TD hkB;assumption)|(with_reducible apply JG.kG hkB;assumption)|(with_reducible apply JG.eY hkB)|(with_reducible apply hkB.out;assumption)) ((go_at_call 19;refine(HN.out _ (And.right (by assumption))).mono ?_;rintro e w2 ⟨N,g,af,kf,ac,kc,ad,kd,rfl,hb2,hpr,hnr⟩;try ((with_reducible have hD:=hpr _ _ _ _ _ (MR W1));have hD':Hid (qd W1.heap.size ⟨#[]⟩ false (.slice none 0 0) (.slice none 0 0) (.slice none 0 0) w2):=hD;obtain⟨d0,d1,d2,d3,d4,dq⟩:=hD'.out.cell;have q0:=dq 0;have q1:=dq 1;have q2:=dq 2;have q3:=dq 3;have q4:=dq 4;clear hD dq);clear hpr))
  all_goals
   go_wp2_with fail;go_meet;first|with_reducible exact Li hb2 hnr|with_reducible exact Vd hb2 hnr hD'
 case rest=>
  obtain⟨N,g,aI,bL,bO,D,rfl,rfl,hD,hnr,hDl,hb2⟩:=hcut;have hm2:=h1.later hb2;have Qc:=(hb2.block _ hwC).trans hC;have f2:=hm2.cell.2.2.2.2.2.2 2;have c2:=hm2.cell.2.2.1;have hg:wc.grownBy (wc.setCell ⟨x.B,2,none⟩ (.pointer (some ⟨N,0,none⟩))) (some x.B):=ah (aB _ (some x.B)) 2 _;have hBl:=aD hm2.blk;have hBw:=aD h.blk;have Rh:w.heap.size≠x.B:=by omega
  have hDB:D≠x.B:=by have:=aD h1.blk;omega
  have hD3:qd D z.aZ z.bn aI bL bO (wc.setCell ⟨x.B,2,none⟩ (.pointer (some ⟨N,0,none⟩))):=(hg.block D (aD hD) λe=>hDB (Option.some.inj e)).trans hD;have qD:qd w.heap.size ⟨#[]⟩ false (.slice none 0 0) (.slice none 0 0) (.slice none 0 0) (wc.setCell ⟨x.B,2,none⟩ (.pointer (some ⟨N,0,none⟩))):=(hg.block w.heap.size (aD Qc) λe=>Rh (Option.some.inj e)).trans Qc;have PK:Ck z W1.heap.size N g aI bL bO (wc.setCell ⟨x.B,2,none⟩ (.pointer (some ⟨N,0,none⟩))):=
   ⟨hnr.nn.kept λk hk=>hg.block k (hnr.nn.lt hk) (λe=>by cases e;have:=hnr.ge _ hk;have:=aD h1.blk;omega),hnr.out.at λk c t ht hk=>hg.block k (aD hk) (λe=>by
    cases e;rw[hm2.blk]at hk;cases hk;exact absurd ht (by decide)),hnr.ge⟩
  have Yk:=zY (j:=2) (v:=.pointer (some ⟨N,0,none⟩)) hm2.blk;have hrow3:=hm2.row.kept hg (.inr (aJ hm2.row hm2.blk (λc e=>(by cases e))));have hf3:Fx (lC x s) w (wc.setCell ⟨x.B,2,none⟩ (.pointer (some ⟨N,0,none⟩))):=aV (Fx.below (hb0.trans (hb2.mono hb0.size))) hg λi _ e=>by cases e;exact .inl rfl
  have hz3:=hb2.size;clear hnr hD Qc hm2 hg h1 hs hC hkB hS HN;go_upto_region 3 with(fail);generalize World.setCell _ _ _=W3 at hD3 qD PK Yk hrow3 hf3 ⊢;obtain⟨d0,d1,d2,d3,d4,_⟩:=hD3.cell;obtain⟨z0,z1,z2,z3,z4,zf⟩:=qD.cell;have y0:=zf 0;have y1:=zf 1;have y2:=zf 2;have y3:=zf 3;have y4:=zf 4;obtain⟨af,kf,rfl,_⟩:=ay PK.out.aI;obtain⟨ac,kc,rfl,_⟩:=ay PK.out.bL;obtain⟨ad,kd,rfl,_⟩:=ay PK.out.bO;have iU:=uG W3 w.heap.size (.string z.aZ) (.bool z.bn) (.slice af z.aH.length kf) (.slice ac z.aR.length kc) (.slice ad z.aQ.length kd);have yS:=qD.OP (j':=z.aZ) (aaA:=z.bn) (ab2:=.slice af z.aH.length kf) (acj:=.slice ac z.aR.length kc) (ab9:=.slice ad z.aQ.length kd);have hfin:nE x s {s with nd:=some z} w (((((W3.setCell ⟨w.heap.size,0,none⟩ (.string z.aZ)).setCell ⟨w.heap.size,1,none⟩ (.bool z.bn)).setCell ⟨w.heap.size,2,none⟩ (.slice af z.aH.length kf)).setCell ⟨w.heap.size,3,none⟩ (.slice ac z.aR.length kc)).setCell ⟨w.heap.size,4,none⟩ (.slice ad z.aQ.length kd))∧iG w.heap.size z.aH z.aR z.aQ (.slice af z.aH.length kf) (.slice ac z.aR.length kc) (.slice ad z.aQ.length kd) (((((W3.setCell ⟨w.heap.size,0,none⟩ (.string z.aZ)).setCell ⟨w.heap.size,1,none⟩ (.bool z.bn)).setCell ⟨w.heap.size,2,none⟩ (.slice af z.aH.length kf)).setCell ⟨w.heap.size,3,none⟩ (.slice ac z.aR.length kc)).setCell ⟨w.heap.size,4,none⟩ (.slice ad z.aQ.length kd)):=by
   have Yd:=PK.set qD iU;have hsz:=iU.size;have agv:=aD qD;refine⟨⟨{x with N:=N,g:=g,TL:=[]},rfl,⟨?_,h.hl,?_,λu hu=> ?_⟩,aV hf3 iU λi hi e=>by cases e;omega,λk hk=> ?_⟩,Yd.out.lower (by omega)⟩
   ·exact(iU.block x.B (aD Yk) λe=>Rh (Option.some.inj e).symm).trans Yk
   ·exact hrow3.kept iU (.inr (aJ hrow3 qD (λc e=>(by cases e))))
   ·cases hu;refine⟨Yd.nn,?_⟩;unfold dV;rw[hQz.out];exact List.Perm.refl _
   ·rcases hk with hk|hk|⟨u,hu,hk⟩
    ·exact .inl (.inl hk)
    ·exact .inl (.inr (.inl hk))
    ·cases hu;have h2:=Yd.ge k hk;have h3:=Yd.nn.lt hk;exact .inr ⟨by omega,h3⟩
  clear iU PK qD hD3 hrow3 Yk hf3 zf;go_wp2_with fail;generalize World.setCell _ _ _=W7 at yS hfin ⊢;obtain⟨p0,p1,p2,p3,p4,_⟩:=yS.cell;exact bodyPost_ret (v:=.agg #[.string z.aZ,.bool z.bn,.slice af z.aH.length kf,.slice ac z.aR.length kc,.slice ad z.aQ.length kd]) (by simp[results,Tryz.results37,go_sem,p0,p1,p2,p3,p4]) rfl ⟨_,_,_,rfl,hfin.1,hfin.2⟩
end Go.Proofs.YtakaadcpaeiccabGreat
namespace Go.Proofs.YtakaadcpaeiccabGreat.DF
open Go.RowKit Go.Maps
variable{cap e m:Nat}
theorem kV{base g size:Nat}:∀(vs:List Value) (o:Nat) (xs:List Value) (W:World),W.ownsRow base e size (.slice (some ⟨g,0,none⟩) m cap) m xs->o+vs.length<=m * size->
  (W.setCells g o vs).ownsRow base e size (.slice (some ⟨g,0,none⟩) m cap) m (xs.take o++vs++xs.drop (o+vs.length))∧W.grownBy (W.setCells g o vs) (some g)
 | [],o,xs,W,h,_=>by
  simp only[World.setCells,gT,List.length_nil,Nat.add_zero,List.take_append_drop];exact⟨h,aB _ _⟩
 |v::r,o,xs,W,h,hl=>by
  simp only[dY]at hl;have hx:xs.length=m * size:=h.1;obtain⟨h1,g1⟩:=h.stored o v;obtain⟨h2,g2⟩:=kV r (o+1) (xs.set o v) (W.setCell ⟨g,o,none⟩ v) h1 (by omega);refine⟨?_,⟨g2.os.trans g1.os,g2.tape.trans g1.tape,g2.output.trans g1.output,dH g1.size g2.size,λk hk hn=>(g2.block k (fP hk g1.size) hn).trans (g1.block k hk hn)⟩⟩;have e1:(xs.set o v).take (o+1)=xs.take o++ [v]:=by
   rw[List.take_succ_eq_append_getElem (by simp;omega),List.take_set_of_le (aA o)];simp
  have e2:(xs.set o v).drop (o+1+r.length)=xs.drop (o+(r.length+1)):=by
   rw[List.drop_set_of_lt (by omega),show o+1+r.length=o+(r.length+1)by omega]
  rw[e1,e2]at h2;show((W.setCell ⟨g,o,none⟩ v).setCells g (o+1) r).ownsRow _ _ _ _ _ _;simpa using h2
theorem xD{base g n size:Nat}{W:World}{xs:List Value}(h:W.ownsRow base e size (.slice (some ⟨g,0,none⟩) n cap) n xs)(hm:m<=n):
  W.ownsRow base e size (.slice (some ⟨g,0,none⟩) m cap) m (xs.take (m * size)):=by
 rcases h.2 with⟨he,_⟩|⟨g',cap',cur,he,hb,hg,h1,h2,h3,h4⟩
 ·cases he
 ·cases he;have hx:=h.1;have hms:m * size<=n * size:=Nat.mul_le_mul_right _ hm;refine⟨by rw[List.length_take,hx];omega,.inr ⟨g,cap,cur,rfl,hb,hg,by omega,h2,h3,?_⟩⟩;rw[<-h4,List.take_take,Nat.min_eq_left hms]
theorem Ey(a:Option Addr)(n c k:Nat)(hk:k<=c)(W:World):(Instr.slice 45 (.slice a n c) none (some (.int .i64 k)) none).run Tryz.prog W=.ok (.slice a k c) W:=by
 have ht:Tryz.prog.underlying 45=some (.slice (Tryz.prog.elem 45)):=by simp[Program.elem,Tryz.underlying45]
 have hz:∀w,(Go.sizeOf (Tryz.prog.elem 45)).run Tryz.prog w=.ok 3 w:=by
  intro w;simp[go_sem,Program.elem,Tryz.underlying45]
 rw[run_slice_h W 45 _ _ _ ht .i64 _ (by omega) (by omega),hz];simp only[Result.andThen,sliced];rw[Nat.sub_zero,Nat.sub_zero,jo];cases a<;>(split<;>simp[Addr.add])
theorem Ew(g n c k:Nat)(hk:k<=n):∃ad:Addr,(∀W,(Instr.slice 45 (.slice (some ⟨g,0,none⟩) n c) (some (.int .i64 k)) none none).run Tryz.prog W=.ok (.slice (some ad) (n - k) (c - k)) W)∧(k<c->ad=⟨g,k * 3,none⟩):=by
 have ht:Tryz.prog.underlying 45=some (.slice (Tryz.prog.elem 45)):=by simp[Program.elem,Tryz.underlying45]
 have hz:∀w,(Go.sizeOf (Tryz.prog.elem 45)).run Tryz.prog w=.ok 3 w:=by
  intro w;simp[go_sem,Program.elem,Tryz.underlying45]
 refine⟨if c=k then⟨g,0,none⟩else⟨g,k * 3,none⟩,λW=> ?_,λh=>by rw[aG (by omega)]⟩;rw[run_slice_l W 45 _ _ _ ht .i64 _ (by omega) (by omega),hz];simp only[Result.andThen,sliced];rw[jo];split<;>simp[Addr.add_lit]
theorem Ao(g n c k m:Nat)(hk:k<m)(hm:m<=c)(W:World):(Instr.slice 45 (.slice (some ⟨g,0,none⟩) n c) (some (.int .i64 k)) (some (.int .i64 m)) none).run Tryz.prog W=.ok (.slice (some ⟨g,k * 3,none⟩) (m - k) (c - k)) W:=by
 have ht:Tryz.prog.underlying 45=some (.slice (Tryz.prog.elem 45)):=by simp[Program.elem,Tryz.underlying45]
 have hz:∀w,(Go.sizeOf (Tryz.prog.elem 45)).run Tryz.prog w=.ok 3 w:=by
  intro w;simp[go_sem,Program.elem,Tryz.underlying45]
 rw[run_slice_lh W 45 _ _ _ ht .i64 .i64 _ _ (by omega) (by omega) (by omega),hz];simp only[Result.andThen,sliced];rw[jo,jo,aG (by omega)];simp[Addr.add_lit]
theorem xu(a:Option Addr)(n c k m l:Nat)(hk:k<=m)(hm:m<=l)(hl:l<=c):∃v,∀W,(Instr.slice 45 (.slice a n c) (some (.int .i64 k)) (some (.int .i64 m)) (some (.int .i64 l))).run Tryz.prog W=.ok v W:=by
 have ht:Tryz.prog.underlying 45=some (.slice (Tryz.prog.elem 45)):=by simp[Program.elem,Tryz.underlying45]
 have hz:∀w,(Go.sizeOf (Tryz.prog.elem 45)).run Tryz.prog w=.ok 3 w:=by
  intro w;simp[go_sem,Program.elem,Tryz.underlying45]
 refine⟨sliced a k m l 3,λW=> ?_⟩;rw[run_slice_lhm W 45 _ _ _ ht .i64 .i64 .i64 _ _ _ (by omega) (by omega) (by omega) (by omega),hz];simp only[Result.andThen,jo]
theorem uj(w:World)(ty:TypeId)(b o c:Nat)(hc:∀j,j<3->(w.cell? ⟨b,o+j,none⟩).isSome=true)(hf:∀j,j<3->w.frozen? ⟨b,o+j,none⟩=false):
  (Builtin.clear_ #[45] ty #[.slice (some ⟨b,o,none⟩) 1 c]).run Tryz.prog w=.ok (.tuple #[]) (w.setCells b o ([.int .i64 0,.int .i64 0,.string ⟨#[]⟩]:List Value)):=by
 have hzc:(Builtin.zeroCells (.agg #[.int .i64 0,.int .i64 0,.string ⟨#[]⟩]:Value).cells 1).toList=([.int .i64 0,.int .i64 0,.string ⟨#[]⟩]:List Value):=by kernel_rfl
 have hst:=run_storeCells_cells (P:=Tryz.prog) b o ([.int .i64 0,.int .i64 0,.string ⟨#[]⟩]:List Value) 0 w (by simpa using hc) (by simpa using hf) (by intro v hv;simp at hv;rcases hv with rfl|rfl<;>rfl);simp only[Nat.add_zero]at hst;simp[Builtin.clear_,run_underlying Tryz.underlying45,hzc,hst]
theorem KP:(Tryz.prog.info? 149).map (λi=>(i.zero,i.size,i.bytes))=some (some (.agg #[.int .i64 0,.int .i64 0,.string ⟨#[]⟩]),3,32):=by kernel_rfl
theorem uP(base g n cap i:Nat)(xs:List Value)(w:World)(h:w.ownsRow base 149 3 (.slice (some ⟨g,0,none⟩) n cap) n xs)(hi:i<n)(hn:n<=1000000)(h1c:∀u∈xs,u.oneCell'=true):
  Calls Tryz.prog 99 #[.slice (some ⟨g,0,none⟩) n cap,.int .i64 i,.int .i64 ((i:Int)+1)] w λe w'=>e=.returned (.slice (some ⟨g,0,none⟩) (n - 1) cap)∧w'.ownsRow base 149 3 (.slice (some ⟨g,0,none⟩) (n - 1) cap) (n - 1) (xs.take (i * 3)++xs.drop ((i+1)* 3))∧w.grownBy w' (some g):=by
 obtain⟨i0,hii,hz0,hz1,hz2⟩:=info_parts KP;have hcap:n<=cap:=by
  rcases h.2 with⟨he,_⟩|⟨g',cap',cur,he,hb,hg,h1,h2,h3,h4⟩
  ·cases he
  ·cases he;exact h1
 have hx:=h.1;obtain⟨v13,abd⟩:=xu (some ⟨g,0,none⟩) n cap i (i+1) n (by omega) (by omega) hcap;have ae3:=Ey (some ⟨g,0,none⟩) n cap i (by omega);obtain⟨ad,abb,had⟩:=Ew g n cap (i+1) (by omega);have hd:w.drew.ownsRow base 149 3 (.slice (some ⟨g,0,none⟩) n cap) n xs:=h;have hnl:(xs.drop ((i+1)* 3)).length=(n - (i+1))* 3:=by
  rw[List.length_drop,hx,Nat.sub_mul]
 have hcell:∀ {W:World} {ys:List Value},W.ownsRow base 149 3 (.slice (some ⟨g,0,none⟩) n cap) n ys->∀j,j<n * 3->(W.cell? ⟨g,j,none⟩).isSome=true:=λhW j hj=>by
  rw[hW.cellAt j hj,cK (by rw[hW.1];exact hj)];rfl
 have hjl:∀j,j<(n - (i+1))* 3->(i+1)* 3+j<n * 3∧i * 3+j<n * 3:=λj hj=>by
  rw[Nat.sub_mul]at hj;have:(i+1)* 3<=n * 3:=Nat.mul_le_mul_right _ (by omega);rw[Nat.add_mul]at hj this ⊢;try omega
 have hcA:Hid (∀j u,(xs.drop ((i+1)* 3))[j]?=some u->w.drew.cell? (ad.add j)=some u):=λj u hj=>by
  have hl:=(fA.1 hj).1;rw[hnl]at hl;rw[had (by omega),Addr.add_lit];rw[List.getElem?_drop]at hj;exact(hd.cellAt _ (hjl j hl).1).trans hj
 have aa8:Hid (∀j,j<(xs.drop ((i+1)* 3)).length->(w.drew.cell? ⟨g,0+i * 3+j,none⟩).isSome=true∧w.drew.frozen? ⟨g,0+i * 3+j,none⟩=false):=λj hj=>by
  rw[hnl]at hj;rw[Nat.zero_add];exact⟨hcell hd _ (hjl j hj).2,hd.frozenAt _⟩
 have hE1:Hid (i+(n - (i+1))=n - 1):=by show _=_;omega
 have hE2:Hid (0+i * 3=i * 3):=Nat.zero_add _;have abn:=(show Hid _ from hnl);have abU:Hid (∀u∈xs.drop ((i+1)* 3),u.oneCell'=true):=λu hu=>h1c u (List.mem_of_mem_drop hu);obtain⟨h1,g1⟩:=kV (xs.drop ((i+1)* 3)) (i * 3) xs _ hd (by
  rw[hnl,<-Nat.add_mul];exact Nat.mul_le_mul_right _ (by omega))
 have T_:=Ao g (n - 1) cap (n - 1) n (by omega) hcap;rw[show n - (n - 1)=1 by omega]at T_;have hlast:(n - 1)* 3+3=n * 3:=by
  rw[<-Nat.succ_mul,show(n - 1).succ=n by omega]
 have hcl:∀ty,(Builtin.clear_ #[45] ty #[.slice (some ⟨g,(n - 1)* 3,none⟩) 1 (cap - (n - 1))]).run Tryz.prog (w.drew.setCells g (i * 3) (xs.drop ((i+1)* 3)))=.ok (.tuple #[]) ((w.drew.setCells g (i * 3) (xs.drop ((i+1)* 3))).setCells g ((n - 1)* 3) ([.int .i64 0,.int .i64 0,.string ⟨#[]⟩]:List Value)):=λty=>
  uj _ ty g _ _ (λj hj=>hcell h1 _ (by omega)) (λj hj=>h1.frozenAt _)
 obtain⟨h2,g2⟩:=kV ([.int .i64 0,.int .i64 0,.string ⟨#[]⟩]:List Value) ((n - 1)* 3) _ _ h1 (by simp only[dY,List.length_nil];omega);have h3:=xD h2 (m:=n - 1) (by omega);have hgg:w.grownBy ((w.drew.setCells g (i * 3) (xs.drop ((i+1)* 3))).setCells g ((n - 1)* 3) ([.int .i64 0,.int .i64 0,.string ⟨#[]⟩]:List Value)) (some g):=⟨g2.os.trans g1.os,g2.tape.trans g1.tape,g2.output.trans g1.output,dH g1.size g2.size,λk hk hn=>(g2.block k (fP hk g1.size) hn).trans (g1.block k hk hn)⟩;have jS:((xs.take (i * 3)++xs.drop ((i+1)* 3)++xs.drop (i * 3+(xs.drop ((i+1)* 3)).length)).take ((n - 1)* 3)++([.int .i64 0,.int .i64 0,.string ⟨#[]⟩]:List Value)++(xs.take (i * 3)++xs.drop ((i+1)* 3)++xs.drop (i * 3+(xs.drop ((i+1)* 3)).length)).drop ((n - 1)* 3+([.int .i64 0,.int .i64 0,.string ⟨#[]⟩]:List Value).length)).take ((n - 1)* 3)=xs.take (i * 3)++xs.drop ((i+1)* 3):=by
  have hl:(xs.take (i * 3)++xs.drop ((i+1)* 3)).length=(n - 1)* 3:=by
   have:i * 3<=n * 3:=Nat.mul_le_mul_right _ (by omega);rw[dx,hnl,List.length_take,hx,Nat.min_eq_left this,<-Nat.add_mul]
   congr 1
   all_goals omega
  rw[List.take_left' hl,List.append_assoc,List.take_left' hl]
 rw[jS]at h3;clear h1 g1 h2 g2 hcell hd h hnl hlast hx had h1c hjl;have hfin:=(show Hid _ from And.intro h3 hgg);clear h3 hgg jS;have hne:((i:Int)==(i:Int)+1)=false:=by
  have:¬((i:Int)=(i:Int)+1):=by omega
  simpa using this
 rw[show((i+1:Nat):Int)=(i:Int)+1 from rfl]at abd abb;try simp only[Nat.mul_one]at hcl T_ hfin
 go_enter Tryz.func99,Tryz.ntmps99;go_wp2_with fail;go_region_law (refine step_append_room rfl (.tmp 22) (.tmp 25) 45 rfl 149 i0 3 Tryz.underlying45 hii hz1 g 0 i cap rfl ad (n - (i+1)) (cap - (i+1)) (xs.drop ((i+1)* 3)) rfl abn.out hcA.out abU.out (by omega) aa8.out ?_;rw[hE1.out,hE2.out])
 all_goals
  generalize (w.drew.setCells g (i * 3) (xs.drop ((i+1)* 3)))=X at hcl hfin ⊢;go_wp2;go_returns;exact⟨rfl,hfin.out⟩
end Go.Proofs.YtakaadcpaeiccabGreat.DF
